/- The law PageFinds answers true for every input, and each argument reads afterwards as it read before. Conditions: none. -/
import Derived.Test.YtfkcogccbeolfaaDoorRows
import Derived.WalkKit
import Derived.ProofKit
import Derived.OpenShut
import Derived.ShutString
import Derived.ChangeOld
import Derived.Below
import Derived.Test.YtfkcogccbeolfaaDoorPagG
import Derived.LaidMore
import Derived.Test.YtfkcogccbeolfaaDoorCards
import Derived.Test.YtfkcogccbeolfaaDoorTie
import Derived.LaidMore
import Derived.Stop.Joined
import Derived.SevenTiedAt
namespace Go.Proofs.YtfkcogccbeolfaaDoor.pageFinds
open Go.ChangeShapes Go.WideShapes Go.ChangeAt Go.RowKit
open Go.ChangeMaps (open_string shut_string)
set_option linter.unusedVariables false

theorem own : ownKnob Tryd.prog.godebug = none := by kernel_rfl
theorem laidOut : laidOutB Tryd.prog = true := by kernel_rfl

theorem arr33 {cs : Array Value} (h : cs.size = 3) : ∃ c0 c1 c2 : Value, cs = #[c0, c1, c2] := by
  obtain ⟨l⟩ := cs
  match l, h with
  | [c0, c1, c2], _ => exact ⟨c0, c1, c2, rfl⟩
theorem cellsOf33_3 : Tryd.prog.cellsOf 3 = 1 := by kernel_rfl
theorem cellsOf33_33 : Tryd.prog.cellsOf 33 = 3 := by kernel_rfl
set_option maxRecDepth 100000 in
theorem open33 {H : Type} {enc : TypeId × Value → H} {W : World} {b0 base : Nat} {sp : Nat → Bool} {held : Bool} {v : Value} {d : DataW H} {p : List MemPlace} (hv : Value.okWide Tryd.prog W .any b0 33 v) (h : DataW.Trod enc Tryd.prog W base sp held 33 v d p) :
    ∃ (xOp : Int) (xMode : Int) (xReg : Int), v = .agg #[.int .i64 xOp, .int .i64 xMode, .int .i64 xReg] ∧ (Lit.int .i64 xOp).wf = true ∧ (Lit.int .i64 xMode).wf = true ∧ (Lit.int .i64 xReg).wf = true := by
  obtain ⟨cs, rfl, hsz⟩ := okWide_struct Tryd.underlying33 hv
  obtain ⟨c0, c1, c2, rfl⟩ := arr33 (hsz.trans cellsOf33_33)
  obtain ⟨fuel, hf⟩ := h
  obtain ⟨xs0, n0, _, _, _, hl0, hg0⟩ := DataW.trod_struct Tryd.underlying33 hf
  have g0_0 : DataW.trod enc Tryd.prog W base sp held n0 3 (([c0, c1, c2].drop 0).take (Tryd.prog.cellsOf 3)) = xs0[0]? := hg0 0 _ rfl
  rw [List.getElem?_eq_getElem (show 0 < xs0.length by rw [hl0]; decide)] at g0_0
  rw [cellsOf33_3] at g0_0
  obtain ⟨y0, e0_0, _, w0⟩ := DataW.trod_int Tryd.underlying3 g0_0
  have E0 : c0 = .int .i64 y0 := by simpa [Value.cells] using e0_0
  have g0_1 : DataW.trod enc Tryd.prog W base sp held n0 3 (([c0, c1, c2].drop 1).take (Tryd.prog.cellsOf 3)) = xs0[1]? := hg0 1 _ rfl
  rw [List.getElem?_eq_getElem (show 1 < xs0.length by rw [hl0]; decide)] at g0_1
  rw [cellsOf33_3] at g0_1
  obtain ⟨y1, e0_1, _, w1⟩ := DataW.trod_int Tryd.underlying3 g0_1
  have E1 : c1 = .int .i64 y1 := by simpa [Value.cells] using e0_1
  have g0_2 : DataW.trod enc Tryd.prog W base sp held n0 3 (([c0, c1, c2].drop 2).take (Tryd.prog.cellsOf 3)) = xs0[2]? := hg0 2 _ rfl
  rw [List.getElem?_eq_getElem (show 2 < xs0.length by rw [hl0]; decide)] at g0_2
  rw [cellsOf33_3] at g0_2
  obtain ⟨y2, e0_2, _, w2⟩ := DataW.trod_int Tryd.underlying3 g0_2
  have E2 : c2 = .int .i64 y2 := by simpa [Value.cells] using e0_2
  subst E0 E1 E2
  exact ⟨y0, y1, y2, rfl, w0, w1, w2⟩

set_option maxRecDepth 100000 in
set_option maxHeartbeats 1000000 in
theorem walk (a0Op : Int) (a0Mode : Int) (a0Reg : Int) (w : World) (w0 : (Lit.int .i64 a0Op).wf = true ∧ (Lit.int .i64 a0Mode).wf = true ∧ (Lit.int .i64 a0Reg).wf = true) (hL : laidMetH Tryd.prog Rows.pageFindsRow.laid w) :
    Calls Tryd.prog 6 #[.agg #[.int .i64 a0Op, .int .i64 a0Mode, .int .i64 a0Reg]] w fun e w' => e = .returned (.bool true) ∧ Below w.heap.size w w' := by
  exact law_finds a0Op a0Mode a0Reg w (PagAt.of_laid hL)

theorem door_met (os : Os) (args : Array Value) : laidMetH Tryd.prog Rows.pageFindsRow.laid ((World.doorLaid Tryd.prog 77 os).forCall (fun _ _ => 0) ⟨#[], args, []⟩).memory :=
  laidMetH_of_parts3 (fuel := 8) (laidMet_of_run' 8 (by kernel_rfl) (by kernel_rfl)) (by kernel_rfl) (by kernel_rfl)

set_option maxRecDepth 100000 in
theorem lifted (os : Os) (started : os.Started) (H : Type) (enc : TypeId × Value → H) :
    ReturnsInHanded {} Tryd.checked os 6 .any (fun w args => (Rows.pageFindsSpec.pre enc Tryd.prog Tryd.f6 Rows.pageFindsRow.domain false w args ∧ laidMetH Tryd.prog Rows.pageFindsRow.laid w) ∧ sizedMet enc Tryd.prog Tryd.f6 (OpenSpec.ofChange Rows.pageFindsSpec) false w args) (Rows.pageFindsSpec.post enc Tryd.prog Tryd.f6 false true false false) := by
  refine returnsInHanded_of_change_and (C := Tryd.checked) (X := fun w _ => laidMetH Tryd.prog Rows.pageFindsRow.laid w) (fun _ _ _ hh h => h.of_heap hh) own started (by kernel_rfl) Tryd.func6
    (ChangeSpec.witness_shaped (enc := enc) (C := Tryd.checked) (os := os) (X := fun w _ => laidMetH Tryd.prog Rows.pageFindsRow.laid w) false (World.doorLaid Tryd.prog 77 os) #[.agg #[.int .i64 0, .int .i64 0, .int .i64 0]] 8 rfl (World.shaped_of_RefB (by kernel_rfl) (by kernel_rfl)) (by kernel_rfl) (by kernel_rfl) (by kernel_rfl) (door_met os _)) ?_
  intro W base args ds gs before hval0 hW _ _ hL _
  have hval : ∀ (j : Nat) t v, Tryd.f6.params[j]? = some t → args[j]? = some v → Value.okWide Tryd.prog W .any base t v := hval0
  have hW' := hW
  obtain ⟨p, q, hA0, hV, rfl, hfz, hnd⟩ := hW
  have hA : DataW.TrodAll enc Tryd.prog W 0 (fun _ => true) true Tryd.f6.params.toList args.toList ds p := hA0
  rw [Tryd.params6] at hA hval
  obtain ⟨v0, vs0, d0, ds0, p0, q0, hargs, rfl, rfl, h0, r0⟩ := trodAll_cons hA
  obtain ⟨rfl, rfl, rfl⟩ := trodAll_nil r0
  obtain rfl : args = #[v0] := by cases args; simp_all
  obtain ⟨rfl, rfl⟩ := trodVars_none hV
  have k0 := h0
  have lt0 : ∀ x ∈ p0, x.block < W.heap.size := by obtain ⟨m, hm⟩ := k0; exact DataW.trod_lt m _ _ _ hm
  obtain ⟨a0Op, a0Mode, a0Reg, rfl, w0⟩ := open33 (hval 0 33 v0 rfl rfl) h0
  clear hA0 hval0
  refine (walk a0Op a0Mode a0Reg W w0 hL).mono fun e W' ⟨he, bel⟩ => ?_
  subst he
  exact ⟨_, rfl, _, _, _, [], _, [], hW', trodAll_mk1 (shut_bool Tryd.underlying4 _), (trodAll_cons_mk (Below.trod laidOut (by kernel_rfl) (of_decide_eq_true (by kernel_rfl)) k0 bel lt0) trodAll_mk0), rfl, bel.frame _, fun h => by cases h⟩

theorem over : Rows.pageFindsRow.holds Tryd.pinned (OpenSpec.ofChange Rows.pageFindsSpec) :=
  OpenClaim.holds_of_wide 6 Tryd.f6 rfl rfl rfl rfl rfl rfl rfl ⟨rfl, rfl, rfl, rfl, rfl⟩ rfl rfl rfl rfl rfl (by kernel_rfl) Tryd.func6 (by kernel_rfl)
    (of_decide_eq_true (by kernel_rfl)) (by unfold Func.isWrapper; first | (rw [if_pos (by decide +kernel)]; kernel_rfl) | (rw [if_neg (by decide +kernel)]; exact ⟨rfl, rfl⟩))
    (fun os started H enc _ => lifted os started H enc)

theorem proved : Rows.PageFindsCardSaid :=
  Claim7.holds_tied_plain_at .later [] [.data, .data, .data, .data] true (true, "7146ad8a51b5847c3f4631558a30b28e633632f5fd456b2ca714025f2d16818e") false
    over (fun _ h => by cases h) (by kernel_rfl) (fun _ h => by cases h) pageFinds_row_tie rfl ⟨rfl, rfl⟩ (by kernel_rfl) rfl
    (fun f fn hf hfn => by
      obtain rfl : f = 6 := Option.some.inj ((show Tryd.prog.funcNamed "spinet/spinetlaw14.PageFinds" = some 6 by kernel_rfl).symm.trans hf) |>.symm
      obtain rfl : fn = Tryd.f6 := (Option.some.inj (Tryd.func6.symm.trans hfn)).symm
      exact ⟨by kernel_rfl, fun j t ht => by
        rw [Tryd.params6] at ht
        have hm : t ∈ [33] := by have := Array.mem_of_getElem? ht; simp at this ⊢; omega
        have hall : ([33].all fun u => !Tryd.prog.wantsStandIn u) = true := by kernel_rfl
        exact (show Tryd.prog.wantsStandIn t = false by simpa using List.all_eq_true.1 hall t hm)⟩)
    (by kernel_rfl)
#print axioms proved
end Go.Proofs.YtfkcogccbeolfaaDoor.pageFinds
