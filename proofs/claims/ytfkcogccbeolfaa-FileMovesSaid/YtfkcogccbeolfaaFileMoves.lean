/- The law FileMoves answers true for every input, and each argument reads afterwards as it read before. Conditions: none. -/
import Derived.Test.YtfkcogccbeolfaaRows
import Derived.WalkKit
import Derived.ProofKit
import Derived.OpenShut
import Derived.ShutString
import Derived.ChangeOld
import Derived.Below
import Derived.Test.YtfkcogccbeolfaaFilV
namespace Go.Proofs.Ytfkcogccbeolfaa.fileMoves
open Go.ChangeShapes Go.WideShapes Go.ChangeAt Go.RowKit
open Go.ChangeMaps (open_string shut_string)
set_option linter.unusedVariables false

theorem own : ownKnob Try.prog.godebug = none := by kernel_rfl
theorem laidOut : laidOutB Try.prog = true := by kernel_rfl

theorem arr24 {cs : Array Value} (h : cs.size = 9) : ∃ c0 c1 c2 c3 c4 c5 c6 c7 c8 : Value, cs = #[c0, c1, c2, c3, c4, c5, c6, c7, c8] := by
  obtain ⟨l⟩ := cs
  match l, h with
  | [c0, c1, c2, c3, c4, c5, c6, c7, c8], _ => exact ⟨c0, c1, c2, c3, c4, c5, c6, c7, c8, rfl⟩
theorem cellsOf24_5 : Try.prog.cellsOf 5 = 1 := by kernel_rfl
theorem cellsOf24_22 : Try.prog.cellsOf 22 = 1 := by kernel_rfl
theorem cellsOf24_24 : Try.prog.cellsOf 24 = 9 := by kernel_rfl
set_option maxRecDepth 100000 in
theorem open24 {H : Type} {enc : TypeId × Value → H} {W : World} {b0 base : Nat} {sp : Nat → Bool} {held : Bool} {v : Value} {d : DataW H} {p : List MemPlace} (hv : Value.okWide Try.prog W .any b0 24 v) (h : DataW.Trod enc Try.prog W base sp held 24 v d p) :
    ∃ (xA : Int) (xB : Int) (xDP : Int) (xCC : Int) (xX : Int) (xY : Int) (xU : Int) (xS : Int) (xPC : Int), v = .agg #[.int .u8 xA, .int .u8 xB, .int .u8 xDP, .int .u8 xCC, .int .u16 xX, .int .u16 xY, .int .u16 xU, .int .u16 xS, .int .u16 xPC] ∧ (Lit.int .u8 xA).wf = true ∧ (Lit.int .u8 xB).wf = true ∧ (Lit.int .u8 xDP).wf = true ∧ (Lit.int .u8 xCC).wf = true ∧ (Lit.int .u16 xX).wf = true ∧ (Lit.int .u16 xY).wf = true ∧ (Lit.int .u16 xU).wf = true ∧ (Lit.int .u16 xS).wf = true ∧ (Lit.int .u16 xPC).wf = true := by
  obtain ⟨cs, rfl, hsz⟩ := okWide_struct Try.underlying24 hv
  obtain ⟨c0, c1, c2, c3, c4, c5, c6, c7, c8, rfl⟩ := arr24 (hsz.trans cellsOf24_24)
  obtain ⟨fuel, hf⟩ := h
  obtain ⟨xs0, n0, _, _, _, hl0, hg0⟩ := DataW.trod_struct Try.underlying24 hf
  have g0_0 : DataW.trod enc Try.prog W base sp held n0 5 (([c0, c1, c2, c3, c4, c5, c6, c7, c8].drop 0).take (Try.prog.cellsOf 5)) = xs0[0]? := hg0 0 _ rfl
  rw [List.getElem?_eq_getElem (show 0 < xs0.length by rw [hl0]; decide)] at g0_0
  rw [cellsOf24_5] at g0_0
  obtain ⟨y0, e0_0, _, w0⟩ := DataW.trod_int Try.underlying5 g0_0
  have E0 : c0 = .int .u8 y0 := by simpa [Value.cells] using e0_0
  have g0_1 : DataW.trod enc Try.prog W base sp held n0 5 (([c0, c1, c2, c3, c4, c5, c6, c7, c8].drop 1).take (Try.prog.cellsOf 5)) = xs0[1]? := hg0 1 _ rfl
  rw [List.getElem?_eq_getElem (show 1 < xs0.length by rw [hl0]; decide)] at g0_1
  rw [cellsOf24_5] at g0_1
  obtain ⟨y1, e0_1, _, w1⟩ := DataW.trod_int Try.underlying5 g0_1
  have E1 : c1 = .int .u8 y1 := by simpa [Value.cells] using e0_1
  have g0_2 : DataW.trod enc Try.prog W base sp held n0 5 (([c0, c1, c2, c3, c4, c5, c6, c7, c8].drop 2).take (Try.prog.cellsOf 5)) = xs0[2]? := hg0 2 _ rfl
  rw [List.getElem?_eq_getElem (show 2 < xs0.length by rw [hl0]; decide)] at g0_2
  rw [cellsOf24_5] at g0_2
  obtain ⟨y2, e0_2, _, w2⟩ := DataW.trod_int Try.underlying5 g0_2
  have E2 : c2 = .int .u8 y2 := by simpa [Value.cells] using e0_2
  have g0_3 : DataW.trod enc Try.prog W base sp held n0 5 (([c0, c1, c2, c3, c4, c5, c6, c7, c8].drop 3).take (Try.prog.cellsOf 5)) = xs0[3]? := hg0 3 _ rfl
  rw [List.getElem?_eq_getElem (show 3 < xs0.length by rw [hl0]; decide)] at g0_3
  rw [cellsOf24_5] at g0_3
  obtain ⟨y3, e0_3, _, w3⟩ := DataW.trod_int Try.underlying5 g0_3
  have E3 : c3 = .int .u8 y3 := by simpa [Value.cells] using e0_3
  have g0_4 : DataW.trod enc Try.prog W base sp held n0 22 (([c0, c1, c2, c3, c4, c5, c6, c7, c8].drop 4).take (Try.prog.cellsOf 22)) = xs0[4]? := hg0 4 _ rfl
  rw [List.getElem?_eq_getElem (show 4 < xs0.length by rw [hl0]; decide)] at g0_4
  rw [cellsOf24_22] at g0_4
  obtain ⟨y4, e0_4, _, w4⟩ := DataW.trod_int Try.underlying22 g0_4
  have E4 : c4 = .int .u16 y4 := by simpa [Value.cells] using e0_4
  have g0_5 : DataW.trod enc Try.prog W base sp held n0 22 (([c0, c1, c2, c3, c4, c5, c6, c7, c8].drop 5).take (Try.prog.cellsOf 22)) = xs0[5]? := hg0 5 _ rfl
  rw [List.getElem?_eq_getElem (show 5 < xs0.length by rw [hl0]; decide)] at g0_5
  rw [cellsOf24_22] at g0_5
  obtain ⟨y5, e0_5, _, w5⟩ := DataW.trod_int Try.underlying22 g0_5
  have E5 : c5 = .int .u16 y5 := by simpa [Value.cells] using e0_5
  have g0_6 : DataW.trod enc Try.prog W base sp held n0 22 (([c0, c1, c2, c3, c4, c5, c6, c7, c8].drop 6).take (Try.prog.cellsOf 22)) = xs0[6]? := hg0 6 _ rfl
  rw [List.getElem?_eq_getElem (show 6 < xs0.length by rw [hl0]; decide)] at g0_6
  rw [cellsOf24_22] at g0_6
  obtain ⟨y6, e0_6, _, w6⟩ := DataW.trod_int Try.underlying22 g0_6
  have E6 : c6 = .int .u16 y6 := by simpa [Value.cells] using e0_6
  have g0_7 : DataW.trod enc Try.prog W base sp held n0 22 (([c0, c1, c2, c3, c4, c5, c6, c7, c8].drop 7).take (Try.prog.cellsOf 22)) = xs0[7]? := hg0 7 _ rfl
  rw [List.getElem?_eq_getElem (show 7 < xs0.length by rw [hl0]; decide)] at g0_7
  rw [cellsOf24_22] at g0_7
  obtain ⟨y7, e0_7, _, w7⟩ := DataW.trod_int Try.underlying22 g0_7
  have E7 : c7 = .int .u16 y7 := by simpa [Value.cells] using e0_7
  have g0_8 : DataW.trod enc Try.prog W base sp held n0 22 (([c0, c1, c2, c3, c4, c5, c6, c7, c8].drop 8).take (Try.prog.cellsOf 22)) = xs0[8]? := hg0 8 _ rfl
  rw [List.getElem?_eq_getElem (show 8 < xs0.length by rw [hl0]; decide)] at g0_8
  rw [cellsOf24_22] at g0_8
  obtain ⟨y8, e0_8, _, w8⟩ := DataW.trod_int Try.underlying22 g0_8
  have E8 : c8 = .int .u16 y8 := by simpa [Value.cells] using e0_8
  subst E0 E1 E2 E3 E4 E5 E6 E7 E8
  exact ⟨y0, y1, y2, y3, y4, y5, y6, y7, y8, rfl, w0, w1, w2, w3, w4, w5, w6, w7, w8⟩

set_option maxRecDepth 100000 in
set_option maxHeartbeats 1000000 in
theorem walk (a0A : Int) (a0B : Int) (a0DP : Int) (a0CC : Int) (a0X : Int) (a0Y : Int) (a0U : Int) (a0S : Int) (a0PC : Int) (a1 : Int) (w : World) (w0 : (Lit.int .u8 a0A).wf = true ∧ (Lit.int .u8 a0B).wf = true ∧ (Lit.int .u8 a0DP).wf = true ∧ (Lit.int .u8 a0CC).wf = true ∧ (Lit.int .u16 a0X).wf = true ∧ (Lit.int .u16 a0Y).wf = true ∧ (Lit.int .u16 a0U).wf = true ∧ (Lit.int .u16 a0S).wf = true ∧ (Lit.int .u16 a0PC).wf = true) (w1 : (Lit.int .u8 a1).wf = true) :
    Calls Try.prog 4 #[.agg #[.int .u8 a0A, .int .u8 a0B, .int .u8 a0DP, .int .u8 a0CC, .int .u16 a0X, .int .u16 a0Y, .int .u16 a0U, .int .u16 a0S, .int .u16 a0PC], .int .u8 a1] w fun e w' => e = .returned (.bool true) ∧ Below w.heap.size w w' := by
  obtain ⟨p0, p1, p2, p3, p4, p5, p6, p7, p8⟩ := w0
  have hv := bounds_u8 w1
  exact law_moves ⟨a0A, a0B, a0DP, a0CC, a0X, a0Y, a0U, a0S, a0PC⟩ (rg_ok p0 p1 p2 p3 p4 p5 p6 p7 p8) a1 hv.1 (by omega) w

set_option maxRecDepth 100000 in
theorem lifted (os : Os) (started : os.Started) (H : Type) (enc : TypeId × Value → H) :
    ReturnsInHanded {} Try.checked os 4 .any (Rows.fileMovesSpec.pre6 enc Try.prog Try.f4 Rows.fileMovesRow.domain false) (Rows.fileMovesSpec.post enc Try.prog Try.f4 false true false false) := by
  refine returnsInHanded_of_change (C := Try.checked) own started (by kernel_rfl) Try.func4
    (ChangeSpec.witness6 (enc := enc) (C := Try.checked) false ⟨#[], #[.agg #[.int .u8 0, .int .u8 0, .int .u8 0, .int .u8 0, .int .u16 0, .int .u16 0, .int .u16 0, .int .u16 0, .int .u16 0], .int .u8 0], []⟩ 8 (by kernel_rfl) (by kernel_rfl) (by kernel_rfl) (by kernel_rfl)) ?_
  intro W base args ds gs before hval0 hW hcnd _
  have hval : ∀ (j : Nat) t v, Try.f4.params[j]? = some t → args[j]? = some v → Value.okWide Try.prog W .any base t v := hval0
  have hW' := hW
  obtain ⟨p, q, hA0, hV, rfl, hfz, hnd⟩ := hW
  have hA : DataW.TrodAll enc Try.prog W 0 (fun _ => true) true Try.f4.params.toList args.toList ds p := hA0
  rw [Try.params4] at hA hval
  obtain ⟨v0, vs0, d0, ds0, p0, q0, hargs, rfl, rfl, h0, r0⟩ := trodAll_cons hA
  obtain ⟨v1, vs1, d1, ds1, p1, q1, rfl, rfl, rfl, h1, r1⟩ := trodAll_cons r0
  obtain ⟨rfl, rfl, rfl⟩ := trodAll_nil r1
  obtain rfl : args = #[v0, v1] := by cases args; simp_all
  obtain ⟨rfl, rfl⟩ := trodVars_none hV
  have k0 := h0
  have lt0 : ∀ x ∈ p0, x.block < W.heap.size := by obtain ⟨m, hm⟩ := k0; exact DataW.trod_lt m _ _ _ hm
  obtain ⟨a0A, a0B, a0DP, a0CC, a0X, a0Y, a0U, a0S, a0PC, rfl, w0⟩ := open24 (hval 0 24 v0 rfl rfl) h0
  obtain ⟨a1, rfl, rfl, rfl, w1⟩ := open_int Try.underlying5 (hval 1 5 v1 rfl rfl) h1
  clear hA0 hval0
  refine (walk a0A a0B a0DP a0CC a0X a0Y a0U a0S a0PC a1 W w0 w1).mono fun e W' ⟨he, bel⟩ => ?_
  subst he
  exact ⟨_, rfl, _, _, _, [], _, [], hW', trodAll_mk1 (shut_bool Try.underlying4 _), (trodAll_cons_mk (Below.trod laidOut (by kernel_rfl) (of_decide_eq_true (by kernel_rfl)) k0 bel lt0) (trodAll_cons_mk (shut_int Try.underlying5 w1) trodAll_mk0)), rfl, bel.frame _, fun h => by cases h⟩

theorem over : Rows.fileMovesRow.holds Try.pinned (OpenSpec.ofChange Rows.fileMovesSpec) :=
  OpenClaim.holds_of_wide 4 Try.f4 rfl rfl rfl rfl rfl rfl rfl ⟨rfl, rfl, rfl, rfl, rfl⟩ rfl rfl rfl rfl rfl (by kernel_rfl) Try.func4 (by kernel_rfl)
    (of_decide_eq_true (by kernel_rfl)) (by unfold Func.isWrapper; first | (rw [if_pos (by decide +kernel)]; kernel_rfl) | (rw [if_neg (by decide +kernel)]; exact ⟨rfl, rfl⟩))
    (fun os started H enc _ => lifted os started H enc)

theorem proved : Rows.FileMovesSaid := over
#print axioms proved
end Go.Proofs.Ytfkcogccbeolfaa.fileMoves
