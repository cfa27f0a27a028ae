/- The law AluWords answers true for every input, and each argument reads afterwards as it read before. Conditions: none. -/
import Derived.Test.YtkdekhcnamkcgacRows
import Derived.WalkKit
import Derived.ProofKit
import Derived.OpenShut
import Derived.ShutString
import Derived.ChangeOld
import Derived.Below
import Derived.Test.YtkdekhcnamkcgacAlu
namespace Go.Proofs.Ytkdekhcnamkcgac.aluWords
open Go.ChangeShapes Go.WideShapes Go.ChangeAt Go.RowKit
open Go.ChangeMaps (open_string shut_string)
set_option linter.unusedVariables false

theorem own : ownKnob Try.prog.godebug = none := by kernel_rfl
theorem laidOut : laidOutB Try.prog = true := by kernel_rfl

theorem okArr23 {P : Program} {w : World} {r : Reach} {base : Nat} {v : Value} {n e : Nat} (ht : P.underlying 23 = some (.array n e)) (h : Value.okWide P w r base 23 v) : ∃ cs, v = .agg cs ∧ cs.size = P.cellsOf 23 := by
  simp only [Value.okWide, ht] at h
  obtain ⟨cs, h1, h2, _⟩ := h
  exact ⟨cs, h1, h2⟩
theorem arr23 {cs : Array Value} (h : cs.size = 2) : ∃ c0 c1 : Value, cs = #[c0, c1] := by
  obtain ⟨l⟩ := cs
  match l, h with
  | [c0, c1], _ => exact ⟨c0, c1, rfl⟩
theorem cellsOf23_22 : Try.prog.cellsOf 22 = 1 := by kernel_rfl
theorem cellsOf23_23 : Try.prog.cellsOf 23 = 2 := by kernel_rfl
set_option maxRecDepth 100000 in
theorem open23 {H : Type} {enc : TypeId × Value → H} {W : World} {b0 base : Nat} {sp : Nat → Bool} {held : Bool} {v : Value} {d : DataW H} {p : List MemPlace} (hv : Value.okWide Try.prog W .any b0 23 v) (h : DataW.Trod enc Try.prog W base sp held 23 v d p) :
    ∃ (x0 : Int) (x1 : Int), v = .agg #[.int .u16 x0, .int .u16 x1] ∧ (Lit.int .u16 x0).wf = true ∧ (Lit.int .u16 x1).wf = true := by
  obtain ⟨cs, rfl, hsz⟩ := okArr23 Try.underlying23 hv
  obtain ⟨c0, c1, rfl⟩ := arr23 (hsz.trans cellsOf23_23)
  obtain ⟨fuel, hf⟩ := h
  obtain ⟨xs0, n0, _, _, _, hl0, hg0⟩ := DataW.trod_array Try.underlying23 hf
  have g0_0 : DataW.trod enc Try.prog W base sp held n0 22 (([c0, c1].drop (0 * Try.prog.cellsOf 22)).take (Try.prog.cellsOf 22)) = xs0[0]? := hg0 0 (by decide)
  rw [List.getElem?_eq_getElem (show 0 < xs0.length by rw [hl0]; decide)] at g0_0
  rw [cellsOf23_22] at g0_0
  obtain ⟨y0, e0_0, _, w0⟩ := DataW.trod_int Try.underlying22 g0_0
  have E0 : c0 = .int .u16 y0 := by simpa [Value.cells] using e0_0
  have g0_1 : DataW.trod enc Try.prog W base sp held n0 22 (([c0, c1].drop (1 * Try.prog.cellsOf 22)).take (Try.prog.cellsOf 22)) = xs0[1]? := hg0 1 (by decide)
  rw [List.getElem?_eq_getElem (show 1 < xs0.length by rw [hl0]; decide)] at g0_1
  rw [cellsOf23_22] at g0_1
  obtain ⟨y1, e0_1, _, w1⟩ := DataW.trod_int Try.underlying22 g0_1
  have E1 : c1 = .int .u16 y1 := by simpa [Value.cells] using e0_1
  subst E0 E1
  exact ⟨y0, y1, rfl, w0, w1⟩

set_option maxRecDepth 100000 in
set_option maxHeartbeats 1000000 in
theorem walk (a0 : Int) (a10 : Int) (a11 : Int) (a2 : Int) (w : World) (w0 : (Lit.int .i64 a0).wf = true) (w1 : (Lit.int .u16 a10).wf = true ∧ (Lit.int .u16 a11).wf = true) (w2 : (Lit.int .u8 a2).wf = true) :
    Calls Try.prog 3 #[.int .i64 a0, .agg #[.int .u16 a10, .int .u16 a11], .int .u8 a2] w fun e w' => e = .returned (.bool true) ∧ Below w.heap.size w w' := by
  have b0 := bounds_u16 w1.1
  have b1 := bounds_u16 w1.2
  have b2 := bounds_u8 w2
  have hcc : CC a2 := CC.mk' b2.1 (by omega)
  obtain ⟨p0, p1⟩ := b0
  obtain ⟨q0, q1⟩ := b1
  clear w0 w1 w2 b2
  have C1 := Lib.hid (fun w => aluWord_any a0 a10 a11 a2 w p0 (by omega) q0 (by omega) hcc)
  have C2 := Lib.hid (fun w => refWord_any a0 a10 a11 a2 w p0 (by omega) q0 (by omega) hcc)
  generalize w16 a0 a10 a11 a2 = r at C1 C2
  obtain ⟨r1, r2, r3⟩ := r
  simp only at C1 C2
  have e1 : (r1 == r1) = true := by simp
  have e2 : (r2 == r2) = true := by simp
  have e3 : (r3 == r3) = true := by simp
  have HB := Lib.hid (Below.alloc0 (Below.refl w.heap.size w) (Obj.cells #[.int .u16 a10, .int .u16 a11] 23))
  have HK := Lib.hid (Blk.new w 23 #[.int .u16 a10, .int .u16 a11] (0, 0))
  go_enter Try.func3, Try.ntmps3
  go_wp2_with fail
  refine (C1.out _).mono ?_
  rintro e v1 ⟨rfl, hb1⟩
  have HK1 := Lib.hid (HK.out.below hb1 HK.out.lt)
  have HB1 := Lib.hid (Below.trans0 HB.out hb1)
  have k0 : v1.cell? ⟨w.heap.size, 0, none⟩ = some (.int .u16 a10) := by rw [HK1.out.cell]; rfl
  have k1 : v1.cell? ⟨w.heap.size, 1, none⟩ = some (.int .u16 a11) := by rw [HK1.out.cell]; rfl
  clear hb1
  go_wp2_with fail
  refine (C2.out _).mono ?_
  rintro e v2 ⟨rfl, rfl⟩
  go_wp2_with (go_at_call 10; refine (alive24 _).mono ?_; rintro e v3 ⟨rfl, hb3⟩)
  go_ret
  exact ⟨rfl, Below.trans0 HB1.out hb3⟩

set_option maxRecDepth 100000 in
theorem lifted (os : Os) (started : os.Started) (H : Type) (enc : TypeId × Value → H) :
    ReturnsInHanded {} Try.checked os 3 .any (Rows.aluWordsSpec.pre6 enc Try.prog Try.f3 Rows.aluWordsRow.domain false) (Rows.aluWordsSpec.post enc Try.prog Try.f3 false true false false) := by
  refine returnsInHanded_of_change (C := Try.checked) own started (by kernel_rfl) Try.func3
    (ChangeSpec.witness6 (enc := enc) (C := Try.checked) false ⟨#[], #[.int .i64 0, .agg #[.int .u16 0, .int .u16 0], .int .u8 0], []⟩ 8 (by kernel_rfl) (by kernel_rfl) (by kernel_rfl) (by kernel_rfl)) ?_
  intro W base args ds gs before hval0 hW hcnd _
  have hval : ∀ (j : Nat) t v, Try.f3.params[j]? = some t → args[j]? = some v → Value.okWide Try.prog W .any base t v := hval0
  have hW' := hW
  obtain ⟨p, q, hA0, hV, rfl, hfz, hnd⟩ := hW
  have hA : DataW.TrodAll enc Try.prog W 0 (fun _ => true) true Try.f3.params.toList args.toList ds p := hA0
  rw [Try.params3] at hA hval
  obtain ⟨v0, vs0, d0, ds0, p0, q0, hargs, rfl, rfl, h0, r0⟩ := trodAll_cons hA
  obtain ⟨v1, vs1, d1, ds1, p1, q1, rfl, rfl, rfl, h1, r1⟩ := trodAll_cons r0
  obtain ⟨v2, vs2, d2, ds2, p2, q2, rfl, rfl, rfl, h2, r2⟩ := trodAll_cons r1
  obtain ⟨rfl, rfl, rfl⟩ := trodAll_nil r2
  obtain rfl : args = #[v0, v1, v2] := by cases args; simp_all
  obtain ⟨rfl, rfl⟩ := trodVars_none hV
  obtain ⟨a0, rfl, rfl, rfl, w0⟩ := open_int Try.underlying3 (hval 0 3 v0 rfl rfl) h0
  have k1 := h1
  have lt1 : ∀ x ∈ p1, x.block < W.heap.size := by obtain ⟨m, hm⟩ := k1; exact DataW.trod_lt m _ _ _ hm
  obtain ⟨a10, a11, rfl, w1⟩ := open23 (hval 1 23 v1 rfl rfl) h1
  obtain ⟨a2, rfl, rfl, rfl, w2⟩ := open_int Try.underlying5 (hval 2 5 v2 rfl rfl) h2
  clear hA0 hval0
  refine (walk a0 a10 a11 a2 W w0 w1 w2).mono fun e W' ⟨he, bel⟩ => ?_
  subst he
  exact ⟨_, rfl, _, _, _, [], _, [], hW', trodAll_mk1 (shut_bool Try.underlying4 _), (trodAll_cons_mk (shut_int Try.underlying3 w0) (trodAll_cons_mk (Below.trod laidOut (by kernel_rfl) (of_decide_eq_true (by kernel_rfl)) k1 bel lt1) (trodAll_cons_mk (shut_int Try.underlying5 w2) trodAll_mk0))), rfl, bel.frame _, fun h => by cases h⟩

theorem over : Rows.aluWordsRow.holds Try.pinned (OpenSpec.ofChange Rows.aluWordsSpec) :=
  OpenClaim.holds_of_wide 3 Try.f3 rfl rfl rfl rfl rfl rfl rfl ⟨rfl, rfl, rfl, rfl, rfl⟩ rfl rfl rfl rfl rfl (by kernel_rfl) Try.func3 (by kernel_rfl)
    (of_decide_eq_true (by kernel_rfl)) (by unfold Func.isWrapper; first | (rw [if_pos (by decide +kernel)]; kernel_rfl) | (rw [if_neg (by decide +kernel)]; exact ⟨rfl, rfl⟩))
    (fun os started H enc _ => lifted os started H enc)

theorem proved : Rows.AluWordsSaid := over
#print axioms proved
end Go.Proofs.Ytkdekhcnamkcgac.aluWords
