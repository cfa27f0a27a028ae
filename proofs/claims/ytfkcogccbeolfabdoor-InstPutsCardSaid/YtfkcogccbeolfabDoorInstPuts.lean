/- The law InstPuts answers true for every input, and each argument reads afterwards as it read before. Conditions: none. -/
import Derived.Test.YtfkcogccbeolfabDoorRows
import Derived.WalkKit
import Derived.ProofKit
import Derived.OpenShut
import Derived.ShutString
import Derived.ChangeOld
import Derived.Below
import Derived.Test.YtfkcogccbeolfabDoorInsV
import Derived.Test.YtfkcogccbeolfabDoorPKd
import Derived.Test.YtfkcogccbeolfabDoorRow0
import Derived.LaidMore
import Derived.Test.YtfkcogccbeolfabDoorCards
import Derived.Test.YtfkcogccbeolfabDoorTie
import Derived.LaidMore
import Derived.Stop.Joined
import Derived.SevenTiedAt
namespace Go.Proofs.YtfkcogccbeolfabDoor.instPuts
open Go.ChangeShapes Go.WideShapes Go.ChangeAt Go.RowKit
open Go.ChangeMaps (open_string shut_string)
set_option linter.unusedVariables false

theorem own : ownKnob Tryd.prog.godebug = none := by kernel_rfl
theorem laidOut : laidOutB Tryd.prog = true := by kernel_rfl

theorem arr36 {cs : Array Value} (h : cs.size = 8) : ∃ c0 c1 c2 c3 c4 c5 c6 c7 : Value, cs = #[c0, c1, c2, c3, c4, c5, c6, c7] := by
  obtain ⟨l⟩ := cs
  match l, h with
  | [c0, c1, c2, c3, c4, c5, c6, c7], _ => exact ⟨c0, c1, c2, c3, c4, c5, c6, c7, rfl⟩
theorem cellsOf36_3 : Tryd.prog.cellsOf 3 = 1 := by kernel_rfl
theorem cellsOf36_5 : Tryd.prog.cellsOf 5 = 1 := by kernel_rfl
theorem cellsOf36_32 : Tryd.prog.cellsOf 32 = 1 := by kernel_rfl
theorem cellsOf36_34 : Tryd.prog.cellsOf 34 = 3 := by kernel_rfl
theorem cellsOf36_36 : Tryd.prog.cellsOf 36 = 8 := by kernel_rfl
set_option maxRecDepth 100000 in
theorem open36 {H : Type} {enc : TypeId × Value → H} {W : World} {b0 base : Nat} {sp : Nat → Bool} {held : Bool} {v : Value} {d : DataW H} {p : List MemPlace} (hv : Value.okWide Tryd.prog W .any b0 36 v) (h : DataW.Trod enc Tryd.prog W base sp held 36 v d p) :
    ∃ (xPage : Int) (xCode : Int) (xEntryOp : Int) (xEntryMode : Int) (xEntryReg : Int) (xPost : Int) (xValue : Int) (xLen : Int), v = .agg #[.int .i64 xPage, .int .u8 xCode, .int .i64 xEntryOp, .int .i64 xEntryMode, .int .i64 xEntryReg, .int .u8 xPost, .int .u16 xValue, .int .i64 xLen] ∧ (Lit.int .i64 xPage).wf = true ∧ (Lit.int .u8 xCode).wf = true ∧ (Lit.int .i64 xEntryOp).wf = true ∧ (Lit.int .i64 xEntryMode).wf = true ∧ (Lit.int .i64 xEntryReg).wf = true ∧ (Lit.int .u8 xPost).wf = true ∧ (Lit.int .u16 xValue).wf = true ∧ (Lit.int .i64 xLen).wf = true := by
  obtain ⟨cs, rfl, hsz⟩ := okWide_struct Tryd.underlying36 hv
  obtain ⟨c0, c1, c2, c3, c4, c5, c6, c7, rfl⟩ := arr36 (hsz.trans cellsOf36_36)
  obtain ⟨fuel, hf⟩ := h
  obtain ⟨xs0, n0, _, _, _, hl0, hg0⟩ := DataW.trod_struct Tryd.underlying36 hf
  have g0_0 : DataW.trod enc Tryd.prog W base sp held n0 3 (([c0, c1, c2, c3, c4, c5, c6, c7].drop 0).take (Tryd.prog.cellsOf 3)) = xs0[0]? := hg0 0 _ rfl
  rw [List.getElem?_eq_getElem (show 0 < xs0.length by rw [hl0]; decide)] at g0_0
  rw [cellsOf36_3] at g0_0
  obtain ⟨y0, e0_0, _, w0⟩ := DataW.trod_int Tryd.underlying3 g0_0
  have E0 : c0 = .int .i64 y0 := by simpa [Value.cells] using e0_0
  have g0_1 : DataW.trod enc Tryd.prog W base sp held n0 5 (([c0, c1, c2, c3, c4, c5, c6, c7].drop 1).take (Tryd.prog.cellsOf 5)) = xs0[1]? := hg0 1 _ rfl
  rw [List.getElem?_eq_getElem (show 1 < xs0.length by rw [hl0]; decide)] at g0_1
  rw [cellsOf36_5] at g0_1
  obtain ⟨y1, e0_1, _, w1⟩ := DataW.trod_int Tryd.underlying5 g0_1
  have E1 : c1 = .int .u8 y1 := by simpa [Value.cells] using e0_1
  have g0_2 : DataW.trod enc Tryd.prog W base sp held n0 34 (([c0, c1, c2, c3, c4, c5, c6, c7].drop 2).take (Tryd.prog.cellsOf 34)) = xs0[2]? := hg0 2 _ rfl
  rw [List.getElem?_eq_getElem (show 2 < xs0.length by rw [hl0]; decide)] at g0_2
  rw [cellsOf36_34] at g0_2
  obtain ⟨xs1, n1, _, _, _, hl1, hg1⟩ := DataW.trod_struct Tryd.underlying34 g0_2
  have g1_0 : DataW.trod enc Tryd.prog W base sp held n1 3 (((([c0, c1, c2, c3, c4, c5, c6, c7].drop 2).take 3).drop 0).take (Tryd.prog.cellsOf 3)) = xs1[0]? := hg1 0 _ rfl
  rw [List.getElem?_eq_getElem (show 0 < xs1.length by rw [hl1]; decide)] at g1_0
  rw [cellsOf36_3] at g1_0
  obtain ⟨y2, e1_0, _, w2⟩ := DataW.trod_int Tryd.underlying3 g1_0
  have E2 : c2 = .int .i64 y2 := by simpa [Value.cells] using e1_0
  have g1_1 : DataW.trod enc Tryd.prog W base sp held n1 3 (((([c0, c1, c2, c3, c4, c5, c6, c7].drop 2).take 3).drop 1).take (Tryd.prog.cellsOf 3)) = xs1[1]? := hg1 1 _ rfl
  rw [List.getElem?_eq_getElem (show 1 < xs1.length by rw [hl1]; decide)] at g1_1
  rw [cellsOf36_3] at g1_1
  obtain ⟨y3, e1_1, _, w3⟩ := DataW.trod_int Tryd.underlying3 g1_1
  have E3 : c3 = .int .i64 y3 := by simpa [Value.cells] using e1_1
  have g1_2 : DataW.trod enc Tryd.prog W base sp held n1 3 (((([c0, c1, c2, c3, c4, c5, c6, c7].drop 2).take 3).drop 2).take (Tryd.prog.cellsOf 3)) = xs1[2]? := hg1 2 _ rfl
  rw [List.getElem?_eq_getElem (show 2 < xs1.length by rw [hl1]; decide)] at g1_2
  rw [cellsOf36_3] at g1_2
  obtain ⟨y4, e1_2, _, w4⟩ := DataW.trod_int Tryd.underlying3 g1_2
  have E4 : c4 = .int .i64 y4 := by simpa [Value.cells] using e1_2
  have g0_3 : DataW.trod enc Tryd.prog W base sp held n0 5 (([c0, c1, c2, c3, c4, c5, c6, c7].drop 5).take (Tryd.prog.cellsOf 5)) = xs0[3]? := hg0 3 _ rfl
  rw [List.getElem?_eq_getElem (show 3 < xs0.length by rw [hl0]; decide)] at g0_3
  rw [cellsOf36_5] at g0_3
  obtain ⟨y5, e0_3, _, w5⟩ := DataW.trod_int Tryd.underlying5 g0_3
  have E5 : c5 = .int .u8 y5 := by simpa [Value.cells] using e0_3
  have g0_4 : DataW.trod enc Tryd.prog W base sp held n0 32 (([c0, c1, c2, c3, c4, c5, c6, c7].drop 6).take (Tryd.prog.cellsOf 32)) = xs0[4]? := hg0 4 _ rfl
  rw [List.getElem?_eq_getElem (show 4 < xs0.length by rw [hl0]; decide)] at g0_4
  rw [cellsOf36_32] at g0_4
  obtain ⟨y6, e0_4, _, w6⟩ := DataW.trod_int Tryd.underlying32 g0_4
  have E6 : c6 = .int .u16 y6 := by simpa [Value.cells] using e0_4
  have g0_5 : DataW.trod enc Tryd.prog W base sp held n0 3 (([c0, c1, c2, c3, c4, c5, c6, c7].drop 7).take (Tryd.prog.cellsOf 3)) = xs0[5]? := hg0 5 _ rfl
  rw [List.getElem?_eq_getElem (show 5 < xs0.length by rw [hl0]; decide)] at g0_5
  rw [cellsOf36_3] at g0_5
  obtain ⟨y7, e0_5, _, w7⟩ := DataW.trod_int Tryd.underlying3 g0_5
  have E7 : c7 = .int .i64 y7 := by simpa [Value.cells] using e0_5
  subst E0 E1 E2 E3 E4 E5 E6 E7
  exact ⟨y0, y1, y2, y3, y4, y5, y6, y7, rfl, w0, w1, w2, w3, w4, w5, w6, w7⟩

set_option maxRecDepth 100000 in
set_option maxHeartbeats 1000000 in
theorem walk (a0Page : Int) (a0Code : Int) (a0EntryOp : Int) (a0EntryMode : Int) (a0EntryReg : Int) (a0Post : Int) (a0Value : Int) (a0Len : Int) (a1 : Option Addr) (len1 cap1 : Nat) (z1 : List Int) (w : World) (w0 : (Lit.int .i64 a0Page).wf = true ∧ (Lit.int .u8 a0Code).wf = true ∧ (Lit.int .i64 a0EntryOp).wf = true ∧ (Lit.int .i64 a0EntryMode).wf = true ∧ (Lit.int .i64 a0EntryReg).wf = true ∧ (Lit.int .u8 a0Post).wf = true ∧ (Lit.int .u16 a0Value).wf = true ∧ (Lit.int .i64 a0Len).wf = true) (w1 : IsRow .u8 w a1 len1 cap1 z1) (hL : laidMetH Tryd.prog Rows.instPutsRow.laid w) :
    Calls Tryd.prog 5 #[.agg #[.int .i64 a0Page, .int .u8 a0Code, .int .i64 a0EntryOp, .int .i64 a0EntryMode, .int .i64 a0EntryReg, .int .u8 a0Post, .int .u16 a0Value, .int .i64 a0Len], .slice a1 len1 cap1] w fun e w' => e = .returned (.bool true) ∧ Below w.heap.size w w' := by
  obtain ⟨xs, hI, hm⟩ := Ints.of_row w1
  obtain ⟨p0, p1, p2, p3, p4, p5, p6, p7⟩ := w0
  have hc := bounds_u8 p1
  have hb := bounds_u8 p5
  have hv := bounds_u16 p6
  obtain ⟨hP, hK⟩ := pagKinds_of_laid hL
  obtain ⟨b, rfl⟩ := Int.eq_ofNat_of_zero_le hb.1
  exact law_puts a0Page a0Code a0EntryOp a0EntryMode a0EntryReg a0Value a0Len b hc.1 (by omega) (by omega) hv.1 (by omega) a1 len1 cap1 xs w hI w1.none0 w1.le_cap hP hK

theorem door_met (os : Os) (args : Array Value) : laidMetH Tryd.prog Rows.instPutsRow.laid ((World.doorLaid Tryd.prog 67 os).forCall (fun _ _ => 0) ⟨#[], args, []⟩).memory :=
  laidMetH_of_parts3 (fuel := 8) (laidMet_of_run' 8 (by kernel_rfl) (by kernel_rfl)) (by kernel_rfl) (by kernel_rfl)

set_option maxRecDepth 100000 in
theorem lifted (os : Os) (started : os.Started) (H : Type) (enc : TypeId × Value → H) :
    ReturnsInHanded {} Tryd.checked os 5 .any (fun w args => (Rows.instPutsSpec.pre enc Tryd.prog Tryd.f5 Rows.instPutsRow.domain false w args ∧ laidMetH Tryd.prog Rows.instPutsRow.laid w) ∧ sizedMet enc Tryd.prog Tryd.f5 (OpenSpec.ofChange Rows.instPutsSpec) false w args) (Rows.instPutsSpec.post enc Tryd.prog Tryd.f5 false true false false) := by
  refine returnsInHanded_of_change_and (C := Tryd.checked) (X := fun w _ => laidMetH Tryd.prog Rows.instPutsRow.laid w) (fun _ _ _ hh h => h.of_heap hh) own started (by kernel_rfl) Tryd.func5
    (ChangeSpec.witness_shaped (enc := enc) (C := Tryd.checked) (os := os) (X := fun w _ => laidMetH Tryd.prog Rows.instPutsRow.laid w) false (World.doorLaid Tryd.prog 67 os) #[.agg #[.int .i64 0, .int .u8 0, .int .i64 0, .int .i64 0, .int .i64 0, .int .u8 0, .int .u16 0, .int .i64 0], .slice none 0 0] 8 rfl (World.shaped_of_RefB (by kernel_rfl) (by kernel_rfl)) (by kernel_rfl) (by kernel_rfl) (by kernel_rfl) (door_met os _)) ?_
  intro W base args ds gs before hval0 hW _ hZ hL _
  have hval : ∀ (j : Nat) t v, Tryd.f5.params[j]? = some t → args[j]? = some v → Value.okWide Tryd.prog W .any base t v := hval0
  have hW' := hW
  obtain ⟨p, q, hA0, hV, rfl, hfz, hnd⟩ := hW
  have hA : DataW.TrodAll enc Tryd.prog W 0 (fun _ => true) true Tryd.f5.params.toList args.toList ds p := hA0
  rw [Tryd.params5] at hA hval
  obtain ⟨v0, vs0, d0, ds0, p0, q0, hargs, rfl, rfl, h0, r0⟩ := trodAll_cons hA
  obtain ⟨v1, vs1, d1, ds1, p1, q1, rfl, rfl, rfl, h1, r1⟩ := trodAll_cons r0
  obtain ⟨rfl, rfl, rfl⟩ := trodAll_nil r1
  obtain rfl : args = #[v0, v1] := by cases args; simp_all
  obtain ⟨rfl, rfl⟩ := trodVars_none hV
  have k0 := h0
  have lt0 : ∀ x ∈ p0, x.block < W.heap.size := by obtain ⟨m, hm⟩ := k0; exact DataW.trod_lt m _ _ _ hm
  obtain ⟨a0Page, a0Code, a0EntryOp, a0EntryMode, a0EntryReg, a0Post, a0Value, a0Len, rfl, w0⟩ := open36 (hval 0 36 v0 rfl rfl) h0
  obtain ⟨a1, len1, cap1, rfl⟩ := okWide_slice Tryd.underlying31 (hval 1 31 v1 rfl rfl)
  have k1 := h1
  have lt1 : ∀ x ∈ p1, x.block < W.heap.size := by obtain ⟨m, hm⟩ := k1; exact DataW.trod_lt m _ _ _ hm
  obtain ⟨z1, w1⟩ : ∃ zs, IsRow .u8 W a1 len1 cap1 zs := by
    obtain ⟨fuel, hf⟩ := h1
    rcases open_ints Tryd.underlying31 Tryd.underlying5 (by kernel_rfl) hf with ⟨hcs, _⟩ | ⟨x, l, c, zs, hcs, _, hl, hm, hz, _, hcell, hwz⟩
    · simp [Value.cells] at hcs
      obtain ⟨rfl, rfl, rfl⟩ := hcs
      exact ⟨[], .inl ⟨rfl, rfl, rfl, rfl⟩⟩
    · simp [Value.cells] at hcs
      obtain ⟨rfl, rfl, rfl⟩ := hcs
      exact ⟨zs, .inr ⟨_, rfl, hl, hm, by simpa using hz, hcell, hwz⟩⟩
  clear hA0 hval0
  refine (walk a0Page a0Code a0EntryOp a0EntryMode a0EntryReg a0Post a0Value a0Len a1 len1 cap1 z1 W w0 w1 hL).mono fun e W' ⟨he, bel⟩ => ?_
  subst he
  exact ⟨_, rfl, _, _, _, [], _, [], hW', trodAll_mk1 (shut_bool Tryd.underlying4 _), (trodAll_cons_mk (Below.trod laidOut (by kernel_rfl) (of_decide_eq_true (by kernel_rfl)) k0 bel lt0) (trodAll_cons_mk (Below.trod laidOut (by kernel_rfl) (of_decide_eq_true (by kernel_rfl)) k1 bel lt1) trodAll_mk0)), rfl, bel.frame _, fun h => by cases h⟩

theorem over : Rows.instPutsRow.holds Tryd.pinned (OpenSpec.ofChange Rows.instPutsSpec) :=
  OpenClaim.holds_of_wide 5 Tryd.f5 rfl rfl rfl rfl rfl rfl rfl ⟨rfl, rfl, rfl, rfl, rfl⟩ rfl rfl rfl rfl rfl (by kernel_rfl) Tryd.func5 (by kernel_rfl)
    (of_decide_eq_true (by kernel_rfl)) (by unfold Func.isWrapper; first | (rw [if_pos (by decide +kernel)]; kernel_rfl) | (rw [if_neg (by decide +kernel)]; exact ⟨rfl, rfl⟩))
    (fun os started H enc _ => lifted os started H enc)

theorem proved : Rows.InstPutsCardSaid :=
  Claim7.holds_tied_plain_at .later [] [.data, .data, .data, .data, .data] true (true, "26073e62b93738aef659c23b1ae45a00e84d94f69c2c0e82afbefc8fdb104327") false
    over (fun _ h => by cases h) (by kernel_rfl) (fun _ h => by cases h) instPuts_row_tie rfl ⟨rfl, rfl⟩ (by kernel_rfl) rfl
    (fun f fn hf hfn => by
      obtain rfl : f = 5 := Option.some.inj ((show Tryd.prog.funcNamed "spinet/spinetlaw18.InstPuts" = some 5 by kernel_rfl).symm.trans hf) |>.symm
      obtain rfl : fn = Tryd.f5 := (Option.some.inj (Tryd.func5.symm.trans hfn)).symm
      exact ⟨by kernel_rfl, fun j t ht => by
        rw [Tryd.params5] at ht
        have hm : t ∈ [36, 31] := by have := Array.mem_of_getElem? ht; simp at this ⊢; omega
        have hall : ([36, 31].all fun u => !Tryd.prog.wantsStandIn u) = true := by kernel_rfl
        exact (show Tryd.prog.wantsStandIn t = false by simpa using List.all_eq_true.1 hall t hm)⟩)
    (by kernel_rfl)
#print axioms proved
end Go.Proofs.YtfkcogccbeolfabDoor.instPuts
