/- The law AluBytes answers true for every input, and each argument reads afterwards as it read before. Conditions: none. -/
import Derived.Test.YtkdekhcnamkcgabRows
import Derived.WalkKit
import Derived.ProofKit
import Derived.OpenShut
import Derived.ShutString
import Derived.ChangeOld
import Derived.Below
import Derived.Test.YtkdekhcnamkcgabAlu
namespace Go.Proofs.Ytkdekhcnamkcgab.aluBytes
open Go.ChangeShapes Go.WideShapes Go.ChangeAt Go.RowKit
open Go.ChangeMaps (open_string shut_string)
set_option linter.unusedVariables false

theorem own : ownKnob Try.prog.godebug = none := by kernel_rfl
theorem laidOut : laidOutB Try.prog = true := by kernel_rfl

theorem arr44 {cs : Array Value} (h : cs.size = 3) : ∃ c0 c1 c2 : Value, cs = #[c0, c1, c2] := by
  obtain ⟨l⟩ := cs
  match l, h with
  | [c0, c1, c2], _ => exact ⟨c0, c1, c2, rfl⟩
theorem cellsOf44_5 : Try.prog.cellsOf 5 = 1 := by kernel_rfl
theorem cellsOf44_44 : Try.prog.cellsOf 44 = 3 := by kernel_rfl
set_option maxRecDepth 100000 in
theorem open44 {H : Type} {enc : TypeId × Value → H} {W : World} {b0 base : Nat} {sp : Nat → Bool} {held : Bool} {v : Value} {d : DataW H} {p : List MemPlace} (hv : Value.okWide Try.prog W .any b0 44 v) (h : DataW.Trod enc Try.prog W base sp held 44 v d p) :
    ∃ (xA : Int) (xB : Int) (xCC : Int), v = .agg #[.int .u8 xA, .int .u8 xB, .int .u8 xCC] ∧ (Lit.int .u8 xA).wf = true ∧ (Lit.int .u8 xB).wf = true ∧ (Lit.int .u8 xCC).wf = true := by
  obtain ⟨cs, rfl, hsz⟩ := okWide_struct Try.underlying44 hv
  obtain ⟨c0, c1, c2, rfl⟩ := arr44 (hsz.trans cellsOf44_44)
  obtain ⟨fuel, hf⟩ := h
  obtain ⟨xs0, n0, _, _, _, hl0, hg0⟩ := DataW.trod_struct Try.underlying44 hf
  have g0_0 : DataW.trod enc Try.prog W base sp held n0 5 (([c0, c1, c2].drop 0).take (Try.prog.cellsOf 5)) = xs0[0]? := hg0 0 _ rfl
  rw [List.getElem?_eq_getElem (show 0 < xs0.length by rw [hl0]; decide)] at g0_0
  rw [cellsOf44_5] at g0_0
  obtain ⟨y0, e0_0, _, w0⟩ := DataW.trod_int Try.underlying5 g0_0
  have E0 : c0 = .int .u8 y0 := by simpa [Value.cells] using e0_0
  have g0_1 : DataW.trod enc Try.prog W base sp held n0 5 (([c0, c1, c2].drop 1).take (Try.prog.cellsOf 5)) = xs0[1]? := hg0 1 _ rfl
  rw [List.getElem?_eq_getElem (show 1 < xs0.length by rw [hl0]; decide)] at g0_1
  rw [cellsOf44_5] at g0_1
  obtain ⟨y1, e0_1, _, w1⟩ := DataW.trod_int Try.underlying5 g0_1
  have E1 : c1 = .int .u8 y1 := by simpa [Value.cells] using e0_1
  have g0_2 : DataW.trod enc Try.prog W base sp held n0 5 (([c0, c1, c2].drop 2).take (Try.prog.cellsOf 5)) = xs0[2]? := hg0 2 _ rfl
  rw [List.getElem?_eq_getElem (show 2 < xs0.length by rw [hl0]; decide)] at g0_2
  rw [cellsOf44_5] at g0_2
  obtain ⟨y2, e0_2, _, w2⟩ := DataW.trod_int Try.underlying5 g0_2
  have E2 : c2 = .int .u8 y2 := by simpa [Value.cells] using e0_2
  subst E0 E1 E2
  exact ⟨y0, y1, y2, rfl, w0, w1, w2⟩

set_option maxRecDepth 100000 in
set_option maxHeartbeats 1000000 in
theorem walk (a0 : Int) (a1A : Int) (a1B : Int) (a1CC : Int) (w : World) (w0 : (Lit.int .i64 a0).wf = true) (w1 : (Lit.int .u8 a1A).wf = true ∧ (Lit.int .u8 a1B).wf = true ∧ (Lit.int .u8 a1CC).wf = true) :
    Calls Try.prog 5 #[.int .i64 a0, .agg #[.int .u8 a1A, .int .u8 a1B, .int .u8 a1CC]] w fun e w' => e = .returned (.bool true) ∧ Below w.heap.size w w' := by
  obtain ⟨x0, x1, x2⟩ := w1
  have b0 := bounds_u8 x0
  have b1 := bounds_u8 x1
  have b2 := bounds_u8 x2
  have hcc : CC a1CC := CC.mk' b2.1 (by omega)
  obtain ⟨p0, p1⟩ := b0
  obtain ⟨q0, q1⟩ := b1
  clear w0 x0 x1 x2 b2
  have C1 := Lib.hid (fun w => eight_any a0 a1A a1B a1CC w p0 (by omega) q0 (by omega) hcc)
  have C2 := Lib.hid (fun w => refEight_any a0 a1A a1B a1CC w p0 (by omega) q0 (by omega) hcc)
  have C3 := Lib.hid (fun w => change_any a0 a1A a1CC w p0 (by omega) hcc)
  have C4 := Lib.hid (fun w => refChange_any a0 a1A a1CC w p0 (by omega) hcc)
  generalize e8 a0 a1A a1B a1CC = r at C1 C2
  generalize c8 a0 a1A a1CC = s at C3 C4
  obtain ⟨r1, r2, r3⟩ := r
  obtain ⟨s1, s2, s3⟩ := s
  simp only at C1 C2 C3 C4
  have e1 : (r1 == r1) = true := by simp
  have e2 : (r2 == r2) = true := by simp
  have e3 : (r3 == r3) = true := by simp
  have e4 : (s1 == s1) = true := by simp
  have e5 : (s2 == s2) = true := by simp
  have e6 : (s3 == s3) = true := by simp
  have HB := Lib.hid (Below.alloc0 (Below.refl w.heap.size w) (Obj.cells #[.int .u8 a1A, .int .u8 a1B, .int .u8 a1CC] 44))
  have HK := Lib.hid (Blk.new w 44 #[.int .u8 a1A, .int .u8 a1B, .int .u8 a1CC] (0, 0))
  go_enter Try.func5, Try.ntmps5
  go_wp2_with fail
  refine (C1.out _).mono ?_
  rintro e v1 ⟨rfl, hb1⟩
  have HK1 := Lib.hid (HK.out.below hb1 HK.out.lt)
  have HB1 := Lib.hid (Below.trans0 HB.out hb1)
  have k0 : v1.cell? ⟨w.heap.size, 0, none⟩ = some (.int .u8 a1A) := by rw [HK1.out.cell]; rfl
  have k1 : v1.cell? ⟨w.heap.size, 1, none⟩ = some (.int .u8 a1B) := by rw [HK1.out.cell]; rfl
  have k2 : v1.cell? ⟨w.heap.size, 2, none⟩ = some (.int .u8 a1CC) := by rw [HK1.out.cell]; rfl
  clear hb1
  go_wp2_with fail
  refine (C2.out _).mono ?_
  rintro e v2 ⟨rfl, rfl⟩
  go_wp2_with fail
  refine (C3.out _).mono ?_
  rintro e v2 ⟨rfl, hb1⟩
  have HK2 := Lib.hid (HK1.out.below hb1 HK1.out.lt)
  have HB2 := Lib.hid (Below.trans0 HB1.out hb1)
  clear k0 k1 k2 hb1
  have k0 : v2.cell? ⟨w.heap.size, 0, none⟩ = some (.int .u8 a1A) := by rw [HK2.out.cell]; rfl
  have k2 : v2.cell? ⟨w.heap.size, 2, none⟩ = some (.int .u8 a1CC) := by rw [HK2.out.cell]; rfl
  go_wp2_with fail
  refine (C4.out _).mono ?_
  rintro e v3 ⟨rfl, rfl⟩
  go_wp2_with (go_at_call 21; refine (alive24 _).mono ?_; rintro e v3 ⟨rfl, hb3⟩)
  go_ret
  exact ⟨rfl, Below.trans0 HB2.out hb3⟩

set_option maxRecDepth 100000 in
theorem lifted (os : Os) (started : os.Started) (H : Type) (enc : TypeId × Value → H) :
    ReturnsInHanded {} Try.checked os 5 .any (Rows.aluBytesSpec.pre6 enc Try.prog Try.f5 Rows.aluBytesRow.domain false) (Rows.aluBytesSpec.post enc Try.prog Try.f5 false true false false) := by
  refine returnsInHanded_of_change (C := Try.checked) own started (by kernel_rfl) Try.func5
    (ChangeSpec.witness6 (enc := enc) (C := Try.checked) false ⟨#[], #[.int .i64 0, .agg #[.int .u8 0, .int .u8 0, .int .u8 0]], []⟩ 8 (by kernel_rfl) (by kernel_rfl) (by kernel_rfl) (by kernel_rfl)) ?_
  intro W base args ds gs before hval0 hW hcnd _
  have hval : ∀ (j : Nat) t v, Try.f5.params[j]? = some t → args[j]? = some v → Value.okWide Try.prog W .any base t v := hval0
  have hW' := hW
  obtain ⟨p, q, hA0, hV, rfl, hfz, hnd⟩ := hW
  have hA : DataW.TrodAll enc Try.prog W 0 (fun _ => true) true Try.f5.params.toList args.toList ds p := hA0
  rw [Try.params5] at hA hval
  obtain ⟨v0, vs0, d0, ds0, p0, q0, hargs, rfl, rfl, h0, r0⟩ := trodAll_cons hA
  obtain ⟨v1, vs1, d1, ds1, p1, q1, rfl, rfl, rfl, h1, r1⟩ := trodAll_cons r0
  obtain ⟨rfl, rfl, rfl⟩ := trodAll_nil r1
  obtain rfl : args = #[v0, v1] := by cases args; simp_all
  obtain ⟨rfl, rfl⟩ := trodVars_none hV
  obtain ⟨a0, rfl, rfl, rfl, w0⟩ := open_int Try.underlying3 (hval 0 3 v0 rfl rfl) h0
  have k1 := h1
  have lt1 : ∀ x ∈ p1, x.block < W.heap.size := by obtain ⟨m, hm⟩ := k1; exact DataW.trod_lt m _ _ _ hm
  obtain ⟨a1A, a1B, a1CC, rfl, w1⟩ := open44 (hval 1 44 v1 rfl rfl) h1
  clear hA0 hval0
  refine (walk a0 a1A a1B a1CC W w0 w1).mono fun e W' ⟨he, bel⟩ => ?_
  subst he
  exact ⟨_, rfl, _, _, _, [], _, [], hW', trodAll_mk1 (shut_bool Try.underlying4 _), (trodAll_cons_mk (shut_int Try.underlying3 w0) (trodAll_cons_mk (Below.trod laidOut (by kernel_rfl) (of_decide_eq_true (by kernel_rfl)) k1 bel lt1) trodAll_mk0)), rfl, bel.frame _, fun h => by cases h⟩

theorem over : Rows.aluBytesRow.holds Try.pinned (OpenSpec.ofChange Rows.aluBytesSpec) :=
  OpenClaim.holds_of_wide 5 Try.f5 rfl rfl rfl rfl rfl rfl rfl ⟨rfl, rfl, rfl, rfl, rfl⟩ rfl rfl rfl rfl rfl (by kernel_rfl) Try.func5 (by kernel_rfl)
    (of_decide_eq_true (by kernel_rfl)) (by unfold Func.isWrapper; first | (rw [if_pos (by decide +kernel)]; kernel_rfl) | (rw [if_neg (by decide +kernel)]; exact ⟨rfl, rfl⟩))
    (fun os started H enc _ => lifted os started H enc)

theorem proved : Rows.AluBytesSaid := over
#print axioms proved
end Go.Proofs.Ytkdekhcnamkcgab.aluBytes
