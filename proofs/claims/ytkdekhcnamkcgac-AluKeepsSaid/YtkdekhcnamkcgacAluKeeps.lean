/- The law AluKeeps answers true for every input, and each argument reads afterwards as it read before. Conditions: none. -/
import Derived.Test.YtkdekhcnamkcgacRows
import Derived.WalkKit
import Derived.ProofKit
import Derived.OpenShut
import Derived.ShutString
import Derived.ChangeOld
import Derived.Below
import Derived.Test.YtkdekhcnamkcgacAlu
namespace Go.Proofs.Ytkdekhcnamkcgac.aluKeeps
open Go.ChangeShapes Go.WideShapes Go.ChangeAt Go.RowKit
open Go.ChangeMaps (open_string shut_string)
set_option linter.unusedVariables false

theorem own : ownKnob Try.prog.godebug = none := by kernel_rfl
theorem laidOut : laidOutB Try.prog = true := by kernel_rfl

theorem arr29 {cs : Array Value} (h : cs.size = 3) : ∃ c0 c1 c2 : Value, cs = #[c0, c1, c2] := by
  obtain ⟨l⟩ := cs
  match l, h with
  | [c0, c1, c2], _ => exact ⟨c0, c1, c2, rfl⟩
theorem cellsOf29_5 : Try.prog.cellsOf 5 = 1 := by kernel_rfl
theorem cellsOf29_29 : Try.prog.cellsOf 29 = 3 := by kernel_rfl
set_option maxRecDepth 100000 in
theorem open29 {H : Type} {enc : TypeId × Value → H} {W : World} {b0 base : Nat} {sp : Nat → Bool} {held : Bool} {v : Value} {d : DataW H} {p : List MemPlace} (hv : Value.okWide Try.prog W .any b0 29 v) (h : DataW.Trod enc Try.prog W base sp held 29 v d p) :
    ∃ (xA : Int) (xB : Int) (xCC : Int), v = .agg #[.int .u8 xA, .int .u8 xB, .int .u8 xCC] ∧ (Lit.int .u8 xA).wf = true ∧ (Lit.int .u8 xB).wf = true ∧ (Lit.int .u8 xCC).wf = true := by
  obtain ⟨cs, rfl, hsz⟩ := okWide_struct Try.underlying29 hv
  obtain ⟨c0, c1, c2, rfl⟩ := arr29 (hsz.trans cellsOf29_29)
  obtain ⟨fuel, hf⟩ := h
  obtain ⟨xs0, n0, _, _, _, hl0, hg0⟩ := DataW.trod_struct Try.underlying29 hf
  have g0_0 : DataW.trod enc Try.prog W base sp held n0 5 (([c0, c1, c2].drop 0).take (Try.prog.cellsOf 5)) = xs0[0]? := hg0 0 _ rfl
  rw [List.getElem?_eq_getElem (show 0 < xs0.length by rw [hl0]; decide)] at g0_0
  rw [cellsOf29_5] at g0_0
  obtain ⟨y0, e0_0, _, w0⟩ := DataW.trod_int Try.underlying5 g0_0
  have E0 : c0 = .int .u8 y0 := by simpa [Value.cells] using e0_0
  have g0_1 : DataW.trod enc Try.prog W base sp held n0 5 (([c0, c1, c2].drop 1).take (Try.prog.cellsOf 5)) = xs0[1]? := hg0 1 _ rfl
  rw [List.getElem?_eq_getElem (show 1 < xs0.length by rw [hl0]; decide)] at g0_1
  rw [cellsOf29_5] at g0_1
  obtain ⟨y1, e0_1, _, w1⟩ := DataW.trod_int Try.underlying5 g0_1
  have E1 : c1 = .int .u8 y1 := by simpa [Value.cells] using e0_1
  have g0_2 : DataW.trod enc Try.prog W base sp held n0 5 (([c0, c1, c2].drop 2).take (Try.prog.cellsOf 5)) = xs0[2]? := hg0 2 _ rfl
  rw [List.getElem?_eq_getElem (show 2 < xs0.length by rw [hl0]; decide)] at g0_2
  rw [cellsOf29_5] at g0_2
  obtain ⟨y2, e0_2, _, w2⟩ := DataW.trod_int Try.underlying5 g0_2
  have E2 : c2 = .int .u8 y2 := by simpa [Value.cells] using e0_2
  subst E0 E1 E2
  exact ⟨y0, y1, y2, rfl, w0, w1, w2⟩

theorem okArr23 {P : Program} {w : World} {r : Reach} {base : Nat} {v : Value} {n e : Nat} (ht : P.underlying 23 = some (.array n e)) (h : Value.okWide P w r base 23 v) : ∃ cs, v = .agg cs ∧ cs.size = P.cellsOf 23 := by
  simp only [Value.okWide, ht] at h
  obtain ⟨cs, h1, h2, _⟩ := h
  exact ⟨cs, h1, h2⟩
theorem arr23 {cs : Array Value} (h : cs.size = 2) : ∃ c0 c1 : Value, cs = #[c0, c1] := by
  obtain ⟨l⟩ := cs
  match l, h with
  | [c0, c1], _ => exact ⟨c0, c1, rfl⟩
theorem cellsOf23_22 : Try.prog.cellsOf 22 = 1 := by kernel_rfl
theorem cellsOf23_23 : Try.prog.cellsOf 23 = 2 := by kernel_rfl
set_option maxRecDepth 100000 in
theorem open23 {H : Type} {enc : TypeId × Value → H} {W : World} {b0 base : Nat} {sp : Nat → Bool} {held : Bool} {v : Value} {d : DataW H} {p : List MemPlace} (hv : Value.okWide Try.prog W .any b0 23 v) (h : DataW.Trod enc Try.prog W base sp held 23 v d p) :
    ∃ (x0 : Int) (x1 : Int), v = .agg #[.int .u16 x0, .int .u16 x1] ∧ (Lit.int .u16 x0).wf = true ∧ (Lit.int .u16 x1).wf = true := by
  obtain ⟨cs, rfl, hsz⟩ := okArr23 Try.underlying23 hv
  obtain ⟨c0, c1, rfl⟩ := arr23 (hsz.trans cellsOf23_23)
  obtain ⟨fuel, hf⟩ := h
  obtain ⟨xs0, n0, _, _, _, hl0, hg0⟩ := DataW.trod_array Try.underlying23 hf
  have g0_0 : DataW.trod enc Try.prog W base sp held n0 22 (([c0, c1].drop (0 * Try.prog.cellsOf 22)).take (Try.prog.cellsOf 22)) = xs0[0]? := hg0 0 (by decide)
  rw [List.getElem?_eq_getElem (show 0 < xs0.length by rw [hl0]; decide)] at g0_0
  rw [cellsOf23_22] at g0_0
  obtain ⟨y0, e0_0, _, w0⟩ := DataW.trod_int Try.underlying22 g0_0
  have E0 : c0 = .int .u16 y0 := by simpa [Value.cells] using e0_0
  have g0_1 : DataW.trod enc Try.prog W base sp held n0 22 (([c0, c1].drop (1 * Try.prog.cellsOf 22)).take (Try.prog.cellsOf 22)) = xs0[1]? := hg0 1 (by decide)
  rw [List.getElem?_eq_getElem (show 1 < xs0.length by rw [hl0]; decide)] at g0_1
  rw [cellsOf23_22] at g0_1
  obtain ⟨y1, e0_1, _, w1⟩ := DataW.trod_int Try.underlying22 g0_1
  have E1 : c1 = .int .u16 y1 := by simpa [Value.cells] using e0_1
  subst E0 E1
  exact ⟨y0, y1, rfl, w0, w1⟩

set_option maxRecDepth 100000 in
set_option maxHeartbeats 1000000 in
theorem walk (a0 : Int) (a1A : Int) (a1B : Int) (a1CC : Int) (a20 : Int) (a21 : Int) (w : World) (w0 : (Lit.int .i64 a0).wf = true) (w1 : (Lit.int .u8 a1A).wf = true ∧ (Lit.int .u8 a1B).wf = true ∧ (Lit.int .u8 a1CC).wf = true) (w2 : (Lit.int .u16 a20).wf = true ∧ (Lit.int .u16 a21).wf = true) :
    Calls Try.prog 4 #[.int .i64 a0, .agg #[.int .u8 a1A, .int .u8 a1B, .int .u8 a1CC], .agg #[.int .u16 a20, .int .u16 a21]] w fun e w' => e = .returned (.bool true) ∧ Below w.heap.size w w' := by
  obtain ⟨x0, x1, x2⟩ := w1
  have b0 := bounds_u8 x0
  have b1 := bounds_u8 x1
  have b2 := bounds_u8 x2
  have d0 := bounds_u16 w2.1
  have d1 := bounds_u16 w2.2
  have hcc : CC a1CC := CC.mk' b2.1 (by omega)
  obtain ⟨p0, p1⟩ := b0
  obtain ⟨q0, q1⟩ := b1
  obtain ⟨r0, r1⟩ := d0
  obtain ⟨s0, s1⟩ := d1
  clear w0 w2 x0 x1 x2 b2
  have C1 := Lib.hid (fun w => eight_any a0 a1A a1B a1CC w p0 (by omega) q0 (by omega) hcc)
  have C3 := Lib.hid (fun w => change_any a0 a1A a1CC w p0 (by omega) hcc)
  have C5 := Lib.hid (fun w => aluWord_any a0 a20 a21 a1CC w r0 (by omega) s0 (by omega) hcc)
  have k1 : bits .and .u8 (bits .xor .u8 (e8 a0 a1A a1B a1CC).2.1 a1CC) 208 = 0 := keeps208 _ _ (e8_cc _ _ _ _ hcc) hcc (fun k hk => by
    rcases hk with rfl | rfl | rfl
    · exact e8_keeps _ _ _ _ hcc 128 bit128 (by omega) (by omega) (by omega) (by omega) (by omega)
    · exact e8_keeps _ _ _ _ hcc 64 bit64 (by omega) (by omega) (by omega) (by omega) (by omega)
    · exact e8_keeps _ _ _ _ hcc 16 bit16 (by omega) (by omega) (by omega) (by omega) (by omega))
  have k2 : bits .and .u8 (bits .xor .u8 (c8 a0 a1A a1CC).2.1 a1CC) 240 = 0 := keeps240 _ _ (c8_cc _ _ _ hcc) hcc (fun k hk => by
    rcases hk with rfl | rfl | rfl | rfl
    · exact c8_keeps _ _ _ hcc 128 bit128 (by omega) (by omega) (by omega) (by omega)
    · exact c8_keeps _ _ _ hcc 64 bit64 (by omega) (by omega) (by omega) (by omega)
    · exact c8_keeps _ _ _ hcc 16 bit16 (by omega) (by omega) (by omega) (by omega)
    · exact c8_keeps _ _ _ hcc 32 bit32 (by omega) (by omega) (by omega) (by omega))
  have k3 : bits .and .u8 (bits .xor .u8 (w16 a0 a20 a21 a1CC).2.1 a1CC) 240 = 0 := keeps240 _ _ (w16_cc _ _ _ _ hcc) hcc (fun k hk => by
    rcases hk with rfl | rfl | rfl | rfl
    · exact w16_keeps _ _ _ _ hcc 128 bit128 (by omega) (by omega) (by omega) (by omega)
    · exact w16_keeps _ _ _ _ hcc 64 bit64 (by omega) (by omega) (by omega) (by omega)
    · exact w16_keeps _ _ _ _ hcc 16 bit16 (by omega) (by omega) (by omega) (by omega)
    · exact w16_keeps _ _ _ _ hcc 32 bit32 (by omega) (by omega) (by omega) (by omega))
  have k4 : a0 = 2 ∨ a0 = 3 ∨ ((a0 != 2) = true ∧ (a0 != 3) = true ∧ bits .and .u8 (bits .xor .u8 (e8 a0 a1A a1B a1CC).2.1 a1CC) 32 = 0) := by
    by_cases h2 : a0 = 2
    · exact .inl h2
    by_cases h3 : a0 = 3
    · exact .inr (.inl h3)
    · exact .inr (.inr ⟨by simpa using h2, by simpa using h3, keeps32 _ _ (e8_cc _ _ _ _ hcc) hcc (fun k hk => by subst hk; exact e8_keeps _ _ _ _ hcc 32 bit32 (by omega) (by omega) (by omega) (by omega) (.inr ⟨h2, h3⟩))⟩)
  have t1 := e8_stays a0 a1A a1B a1CC
  have t2 := c8_stays a0 a1A a1CC
  have t3 := w16_stays a0 a20 a21 a1CC
  generalize e8 a0 a1A a1B a1CC = r at C1 k1 k4 t1
  generalize c8 a0 a1A a1CC = s at C3 k2 t2
  generalize w16 a0 a20 a21 a1CC = t at C5 k3 t3
  obtain ⟨r1, r2, r3⟩ := r
  obtain ⟨s1, s2, s3⟩ := s
  obtain ⟨t1', t2', t3'⟩ := t
  simp only at C1 C3 C5 k1 k2 k3 k4 t1 t2 t3
  rw [Bool.or_eq_true, beq_iff_eq] at t1 t2 t3
  have HB := Lib.hid (Below.alloc0 (Below.alloc0 (Below.refl w.heap.size w) (Obj.cells #[.int .u8 a1A, .int .u8 a1B, .int .u8 a1CC] 29)) (Obj.cells #[.int .u16 a20, .int .u16 a21] 23))
  have HK := Lib.hid ((Blk.new w 29 #[.int .u8 a1A, .int .u8 a1B, .int .u8 a1CC] (0, 0)).alloc (Obj.cells #[.int .u16 a20, .int .u16 a21] 23))
  have HL : Hid (Blk ((w.alloc (Obj.cells #[.int .u8 a1A, .int .u8 a1B, .int .u8 a1CC] 29)).alloc (Obj.cells #[.int .u16 a20, .int .u16 a21] 23)) (w.heap.size + 1) 23 #[.int .u16 a20, .int .u16 a21]) := Lib.hid (by
    have := Blk.new (w.alloc (Obj.cells #[.int .u8 a1A, .int .u8 a1B, .int .u8 a1CC] 29)) 23 #[.int .u16 a20, .int .u16 a21] (0, 0)
    simpa using this)
  rcases k4 with rfl | rfl | ⟨n2, n3, k4⟩
  all_goals
    go_enter Try.func4, Try.ntmps4
    go_wp2_with fail
    refine (C1.out _).mono ?_
    rintro e v1 ⟨rfl, hb1⟩
    have HK1 := Lib.hid (HK.out.below hb1 HK.out.lt)
    have HL1 := Lib.hid (HL.out.below hb1 HL.out.lt)
    have HB1 := Lib.hid (Below.trans0 HB.out hb1)
    have m0 : v1.cell? ⟨w.heap.size, 0, none⟩ = some (.int .u8 a1A) := by rw [HK1.out.cell]; rfl
    have m2 : v1.cell? ⟨w.heap.size, 2, none⟩ = some (.int .u8 a1CC) := by rw [HK1.out.cell]; rfl
    clear hb1
    go_wp2_with fail
    refine (C3.out _).mono ?_
    rintro e v2 ⟨rfl, hb1⟩
    have HK2 := Lib.hid (HK1.out.below hb1 HK1.out.lt)
    have HL2 := Lib.hid (HL1.out.below hb1 HL1.out.lt)
    have HB2 := Lib.hid (Below.trans0 HB1.out hb1)
    clear m0 m2 hb1
    have m0 : v2.cell? ⟨w.heap.size + 1, 0, none⟩ = some (.int .u16 a20) := by rw [HL2.out.cell]; rfl
    have m1 : v2.cell? ⟨w.heap.size + 1, 1, none⟩ = some (.int .u16 a21) := by rw [HL2.out.cell]; rfl
    have m2 : v2.cell? ⟨w.heap.size, 2, none⟩ = some (.int .u8 a1CC) := by rw [HK2.out.cell]; rfl
    go_wp2_with fail
    refine (C5.out _).mono ?_
    rintro e v3 ⟨rfl, hb1⟩
    have HK3 := Lib.hid (HK2.out.below hb1 HK2.out.lt)
    have HL3 := Lib.hid (HL2.out.below hb1 HL2.out.lt)
    have HB3 := Lib.hid (Below.trans0 HB2.out hb1)
    clear m0 m1 m2 hb1
    have m0 : v3.cell? ⟨w.heap.size, 0, none⟩ = some (.int .u8 a1A) := by rw [HK3.out.cell]; rfl
    have m2 : v3.cell? ⟨w.heap.size, 2, none⟩ = some (.int .u8 a1CC) := by rw [HK3.out.cell]; rfl
    have l0 : v3.cell? ⟨w.heap.size + 1, 0, none⟩ = some (.int .u16 a20) := by rw [HL3.out.cell]; rfl
    cases r3 <;> cases s3 <;> cases t3'
    all_goals
      (try have T1 : r1 = a1A := by simpa using t1)
      (try have T2 : s1 = a1A := by simpa using t2)
      (try have T3 : t1' = a20 := by simpa using t3)
      clear t1 t2 t3
      (try subst T1)
      (try subst T2)
      (try subst T3)
      go_wp2_with (go_at_call 10; refine (alive24 _).mono ?_; rintro e v4 ⟨rfl, hb3⟩)
      go_ret
      exact ⟨rfl, Below.trans0 HB3.out hb3⟩

set_option maxRecDepth 100000 in
theorem lifted (os : Os) (started : os.Started) (H : Type) (enc : TypeId × Value → H) :
    ReturnsInHanded {} Try.checked os 4 .any (Rows.aluKeepsSpec.pre6 enc Try.prog Try.f4 Rows.aluKeepsRow.domain false) (Rows.aluKeepsSpec.post enc Try.prog Try.f4 false true false false) := by
  refine returnsInHanded_of_change (C := Try.checked) own started (by kernel_rfl) Try.func4
    (ChangeSpec.witness6 (enc := enc) (C := Try.checked) false ⟨#[], #[.int .i64 0, .agg #[.int .u8 0, .int .u8 0, .int .u8 0], .agg #[.int .u16 0, .int .u16 0]], []⟩ 8 (by kernel_rfl) (by kernel_rfl) (by kernel_rfl) (by kernel_rfl)) ?_
  intro W base args ds gs before hval0 hW hcnd _
  have hval : ∀ (j : Nat) t v, Try.f4.params[j]? = some t → args[j]? = some v → Value.okWide Try.prog W .any base t v := hval0
  have hW' := hW
  obtain ⟨p, q, hA0, hV, rfl, hfz, hnd⟩ := hW
  have hA : DataW.TrodAll enc Try.prog W 0 (fun _ => true) true Try.f4.params.toList args.toList ds p := hA0
  rw [Try.params4] at hA hval
  obtain ⟨v0, vs0, d0, ds0, p0, q0, hargs, rfl, rfl, h0, r0⟩ := trodAll_cons hA
  obtain ⟨v1, vs1, d1, ds1, p1, q1, rfl, rfl, rfl, h1, r1⟩ := trodAll_cons r0
  obtain ⟨v2, vs2, d2, ds2, p2, q2, rfl, rfl, rfl, h2, r2⟩ := trodAll_cons r1
  obtain ⟨rfl, rfl, rfl⟩ := trodAll_nil r2
  obtain rfl : args = #[v0, v1, v2] := by cases args; simp_all
  obtain ⟨rfl, rfl⟩ := trodVars_none hV
  obtain ⟨a0, rfl, rfl, rfl, w0⟩ := open_int Try.underlying3 (hval 0 3 v0 rfl rfl) h0
  have k1 := h1
  have lt1 : ∀ x ∈ p1, x.block < W.heap.size := by obtain ⟨m, hm⟩ := k1; exact DataW.trod_lt m _ _ _ hm
  obtain ⟨a1A, a1B, a1CC, rfl, w1⟩ := open29 (hval 1 29 v1 rfl rfl) h1
  have k2 := h2
  have lt2 : ∀ x ∈ p2, x.block < W.heap.size := by obtain ⟨m, hm⟩ := k2; exact DataW.trod_lt m _ _ _ hm
  obtain ⟨a20, a21, rfl, w2⟩ := open23 (hval 2 23 v2 rfl rfl) h2
  clear hA0 hval0
  refine (walk a0 a1A a1B a1CC a20 a21 W w0 w1 w2).mono fun e W' ⟨he, bel⟩ => ?_
  subst he
  exact ⟨_, rfl, _, _, _, [], _, [], hW', trodAll_mk1 (shut_bool Try.underlying4 _), (trodAll_cons_mk (shut_int Try.underlying3 w0) (trodAll_cons_mk (Below.trod laidOut (by kernel_rfl) (of_decide_eq_true (by kernel_rfl)) k1 bel lt1) (trodAll_cons_mk (Below.trod laidOut (by kernel_rfl) (of_decide_eq_true (by kernel_rfl)) k2 bel lt2) trodAll_mk0))), rfl, bel.frame _, fun h => by cases h⟩

theorem over : Rows.aluKeepsRow.holds Try.pinned (OpenSpec.ofChange Rows.aluKeepsSpec) :=
  OpenClaim.holds_of_wide 4 Try.f4 rfl rfl rfl rfl rfl rfl rfl ⟨rfl, rfl, rfl, rfl, rfl⟩ rfl rfl rfl rfl rfl (by kernel_rfl) Try.func4 (by kernel_rfl)
    (of_decide_eq_true (by kernel_rfl)) (by unfold Func.isWrapper; first | (rw [if_pos (by decide +kernel)]; kernel_rfl) | (rw [if_neg (by decide +kernel)]; exact ⟨rfl, rfl⟩))
    (fun os started H enc _ => lifted os started H enc)

theorem proved : Rows.AluKeepsSaid := over
#print axioms proved
end Go.Proofs.Ytkdekhcnamkcgac.aluKeeps
