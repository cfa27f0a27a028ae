/- The law DisLines answers true for every input, and each argument reads afterwards as it read before. Conditions: none. -/
import Derived.Test.YtljhfalgplihhaaGreatDoorRows
import Derived.WalkKit
import Derived.ProofKit
import Derived.OpenShut
import Derived.ShutString
import Derived.ChangeOld
import Derived.Below
import Derived.Test.YtljhfalgplihhaaGreatDoorDlI
import Derived.Test.YtljhfalgplihhaaGreatDoorRow0
import Derived.LaidMore
import Derived.HandedShaped
import Derived.Test.YtljhfalgplihhaaGreatDoorHsh
import Derived.Test.YtljhfalgplihhaaGreatDoorCards
import Derived.Test.YtljhfalgplihhaaGreatDoorTie
import Derived.Stop.Joined
import Derived.SevenTiedAt
namespace Go.Proofs.YtljhfalgplihhaaGreatDoor.disLines
open Go.ChangeShapes Go.WideShapes Go.ChangeAt Go.RowKit
open Go.ChangeMaps (open_string shut_string)
set_option linter.unusedVariables false

theorem own : ownKnob Tryz.prog.godebug = none := by kernel_rfl
theorem laidOut : laidOutB Tryz.prog = true := by kernel_rfl

theorem arr24 {cs : Array Value} (h : cs.size = 2) : ∃ c0 c1 : Value, cs = #[c0, c1] := by
  obtain ⟨l⟩ := cs
  match l, h with
  | [c0, c1], _ => exact ⟨c0, c1, rfl⟩
theorem cellsOf24_22 : Tryz.prog.cellsOf 22 = 1 := by kernel_rfl
theorem cellsOf24_24 : Tryz.prog.cellsOf 24 = 2 := by kernel_rfl
set_option maxRecDepth 100000 in
theorem open24 {H : Type} {enc : TypeId × Value → H} {W : World} {b0 base : Nat} {sp : Nat → Bool} {held : Bool} {v : Value} {d : DataW H} {p : List MemPlace} (hv : Value.okWide Tryz.prog W .any b0 24 v) (h : DataW.Trod enc Tryz.prog W base sp held 24 v d p) (hsp : ∀ b, sp b = true) :
    ∃ (xLow : Option Addr) (xLowN xLowC : Nat) (xLowZ : List Int) (xHigh : Option Addr) (xHighN xHighC : Nat) (xHighZ : List Int), v = .agg #[.slice xLow xLowN xLowC, .slice xHigh xHighN xHighC] ∧ IsRow .u8 W xLow xLowN xLowC xLowZ ∧ IsRow .u8 W xHigh xHighN xHighC xHighZ := by
  obtain ⟨cs, rfl, hsz⟩ := okWide_struct Tryz.underlying24 hv
  obtain ⟨c0, c1, rfl⟩ := arr24 (hsz.trans cellsOf24_24)
  obtain ⟨fuel, hf⟩ := h
  obtain ⟨xs0, n0, _, _, _, hl0, hg0⟩ := DataW.trod_struct Tryz.underlying24 hf
  have g0_0 : DataW.trod enc Tryz.prog W base sp held n0 22 (([c0, c1].drop 0).take (Tryz.prog.cellsOf 22)) = xs0[0]? := hg0 0 _ rfl
  rw [List.getElem?_eq_getElem (show 0 < xs0.length by rw [hl0]; decide)] at g0_0
  rw [cellsOf24_22] at g0_0
  obtain ⟨y0, yn0, yc0, yz0, E0, w0⟩ : ∃ A n c zs, c0 = Value.slice A n c ∧ IsRow .u8 W A n c zs := by
    rcases open_ints Tryz.underlying22 Tryz.underlying5 (by kernel_rfl) g0_0 with ⟨hcs, _⟩ | ⟨x, l, c, zs, hcs, _, hl, hm, hz, _, hcell, hwz⟩
    · exact ⟨none, 0, 0, [], by simpa using hcs, .inl ⟨rfl, rfl, rfl, rfl⟩⟩
    · exact ⟨some x, l, c, zs, by simpa using hcs, .inr ⟨_, rfl, hl, hm, by simpa [hsp] using hz, hcell, hwz⟩⟩
  have g0_1 : DataW.trod enc Tryz.prog W base sp held n0 22 (([c0, c1].drop 1).take (Tryz.prog.cellsOf 22)) = xs0[1]? := hg0 1 _ rfl
  rw [List.getElem?_eq_getElem (show 1 < xs0.length by rw [hl0]; decide)] at g0_1
  rw [cellsOf24_22] at g0_1
  obtain ⟨y1, yn1, yc1, yz1, E1, w1⟩ : ∃ A n c zs, c1 = Value.slice A n c ∧ IsRow .u8 W A n c zs := by
    rcases open_ints Tryz.underlying22 Tryz.underlying5 (by kernel_rfl) g0_1 with ⟨hcs, _⟩ | ⟨x, l, c, zs, hcs, _, hl, hm, hz, _, hcell, hwz⟩
    · exact ⟨none, 0, 0, [], by simpa using hcs, .inl ⟨rfl, rfl, rfl, rfl⟩⟩
    · exact ⟨some x, l, c, zs, by simpa using hcs, .inr ⟨_, rfl, hl, hm, by simpa [hsp] using hz, hcell, hwz⟩⟩
  subst E0 E1
  exact ⟨y0, yn0, yc0, yz0, y1, yn1, yc1, yz1, rfl, w0, w1⟩

set_option maxRecDepth 100000 in
set_option maxHeartbeats 1000000 in
theorem walk (a0Low : Option Addr) (a0LowN a0LowC : Nat) (a0LowZ : List Int) (a0High : Option Addr) (a0HighN a0HighC : Nat) (a0HighZ : List Int) (a1 : Int) (a2 : Int) (w : World) (w0 : IsRow .u8 w a0Low a0LowN a0LowC a0LowZ ∧ IsRow .u8 w a0High a0HighN a0HighC a0HighZ) (w1 : (Lit.int .u16 a1).wf = true) (w2 : (Lit.int .i64 a2).wf = true) (hL : laidMetH Tryz.prog Rows.disLinesRow.laid w) (hS : w.ShapedOpen Tryz.prog) :
    Calls Tryz.prog 3 #[.agg #[.slice a0Low a0LowN a0LowC, .slice a0High a0HighN a0HighC], .int .u16 a1, .int .i64 a2] w fun e w' => e = .returned (.bool true) ∧ Below w.heap.size w w' := by
  -- shaped
  obtain ⟨xs, hx, hl, hm, hz⟩ := rdY_of_row w0.1
  obtain ⟨ys, hy, hl2, hm2, hz2⟩ := rdY_of_row w0.2
  obtain ⟨s0, s1⟩ := bounds_i64 w2
  have ha := bounds_u16 w1
  obtain ⟨a, ha'⟩ : ∃ a : Nat, a1.toNat = a := ⟨_, rfl⟩
  have hae : a1 = (a : Int) := by omega
  subst hae
  exact law_disLines a0Low a0LowN a0LowC xs a0High a0HighN a0HighC ys a a2 w hx hy hl hl2 hz hz2 (by omega) (by omega) (by omega) (DisAt.of_laid hL hS)

theorem door_met (os : Os) (args : Array Value) : laidMetH Tryz.prog Rows.disLinesRow.laid ((World.doorLaid Tryz.prog 77 os).forCall (fun _ _ => 0) ⟨#[], args, []⟩).memory :=
  laidMetH_of_parts3 (fuel := 8) (laidMet_of_run' 8 (by kernel_rfl) (by kernel_rfl)) (by kernel_rfl) (by kernel_rfl)

set_option maxRecDepth 100000 in
theorem lifted (os : Os) (started : os.Started) (H : Type) (enc : TypeId × Value → H) :
    ReturnsInHanded {} Tryz.checked os 3 .any (fun w args => (Rows.disLinesSpec.pre enc Tryz.prog Tryz.f3 Rows.disLinesRow.domain false w args ∧ laidMetH Tryz.prog Rows.disLinesRow.laid w) ∧ sizedMet enc Tryz.prog Tryz.f3 (OpenSpec.ofChange Rows.disLinesSpec) false w args) (Rows.disLinesSpec.post enc Tryz.prog Tryz.f3 false true false false) := by
  refine handed_and_shaped (C := Tryz.checked) (X := fun w _ => laidMetH Tryz.prog Rows.disLinesRow.laid w) (fun _ _ _ hh h => h.of_heap hh) own started (by kernel_rfl) Tryz.func3
    (ChangeSpec.witness_shaped (enc := enc) (C := Tryz.checked) (os := os) (X := fun w _ => laidMetH Tryz.prog Rows.disLinesRow.laid w) false (World.doorLaid Tryz.prog 77 os) #[.agg #[.slice none 0 0, .slice none 0 0], .int .u16 0, .int .i64 0] 8 rfl (World.shaped_of_RefB (by kernel_rfl) (by kernel_rfl)) (by kernel_rfl) (by kernel_rfl) (by kernel_rfl) (door_met os _)) ?_
  intro W base args ds gs before hval0 hW _ hZ hL hsh _
  have hval : ∀ (j : Nat) t v, Tryz.f3.params[j]? = some t → args[j]? = some v → Value.okWide Tryz.prog W .any base t v := hval0
  have hW' := hW
  obtain ⟨p, q, hA0, hV, rfl, hfz, hnd⟩ := hW
  have hA : DataW.TrodAll enc Tryz.prog W 0 (fun _ => true) true Tryz.f3.params.toList args.toList ds p := hA0
  rw [Tryz.params3] at hA hval
  obtain ⟨v0, vs0, d0, ds0, p0, q0, hargs, rfl, rfl, h0, r0⟩ := trodAll_cons hA
  obtain ⟨v1, vs1, d1, ds1, p1, q1, rfl, rfl, rfl, h1, r1⟩ := trodAll_cons r0
  obtain ⟨v2, vs2, d2, ds2, p2, q2, rfl, rfl, rfl, h2, r2⟩ := trodAll_cons r1
  obtain ⟨rfl, rfl, rfl⟩ := trodAll_nil r2
  obtain rfl : args = #[v0, v1, v2] := by cases args; simp_all
  obtain ⟨rfl, rfl⟩ := trodVars_none hV
  have k0 := h0
  have lt0 : ∀ x ∈ p0, x.block < W.heap.size := by obtain ⟨m, hm⟩ := k0; exact DataW.trod_lt m _ _ _ hm
  obtain ⟨a0Low, a0LowN, a0LowC, a0LowZ, a0High, a0HighN, a0HighC, a0HighZ, rfl, w0⟩ := open24 (hval 0 24 v0 rfl rfl) h0 (fun _ => rfl)
  obtain ⟨a1, rfl, rfl, rfl, w1⟩ := open_int Tryz.underlying25 (hval 1 25 v1 rfl rfl) h1
  obtain ⟨a2, rfl, rfl, rfl, w2⟩ := open_int Tryz.underlying3 (hval 2 3 v2 rfl rfl) h2
  clear hA0 hval0
  refine (walk a0Low a0LowN a0LowC a0LowZ a0High a0HighN a0HighC a0HighZ a1 a2 W w0 w1 w2 hL hsh).mono fun e W' ⟨he, bel⟩ => ?_
  subst he
  exact ⟨_, rfl, _, _, _, [], _, [], hW', trodAll_mk1 (shut_bool Tryz.underlying4 _), (trodAll_cons_mk (Below.trod laidOut (by kernel_rfl) (of_decide_eq_true (by kernel_rfl)) k0 bel lt0) (trodAll_cons_mk (shut_int Tryz.underlying25 w1) (trodAll_cons_mk (shut_int Tryz.underlying3 w2) trodAll_mk0))), rfl, bel.frame _, fun h => by cases h⟩

theorem over : Rows.disLinesRow.holds Tryz.pinned (OpenSpec.ofChange Rows.disLinesSpec) :=
  OpenClaim.holds_of_wide 3 Tryz.f3 rfl rfl rfl rfl rfl rfl rfl ⟨rfl, rfl, rfl, rfl, rfl⟩ rfl rfl rfl rfl rfl (by kernel_rfl) Tryz.func3 (by kernel_rfl)
    (of_decide_eq_true (by kernel_rfl)) (by unfold Func.isWrapper; first | (rw [if_pos (by decide +kernel)]; kernel_rfl) | (rw [if_neg (by decide +kernel)]; exact ⟨rfl, rfl⟩))
    (fun os started H enc _ => lifted os started H enc)

theorem proved : Rows.DisLinesCardSaid :=
  Claim7.holds_tied_plain_at .later [] [.data, .data, .data, .data, .data, .data, .data, .data, .data] true (true, "f44bfe30555b475da3d3e28effbed1145f4a2fa712074102a331cfc03e5a3c91") false
    over (fun _ h => by cases h) (by kernel_rfl) (fun _ h => by cases h) disLines_row_tie rfl ⟨rfl, rfl⟩ (by kernel_rfl) rfl
    (fun f fn hf hfn => by
      obtain rfl : f = 3 := Option.some.inj ((show Tryz.prog.funcNamed "spinet/spinetlaw42.DisLines" = some 3 by kernel_rfl).symm.trans hf) |>.symm
      obtain rfl : fn = Tryz.f3 := (Option.some.inj (Tryz.func3.symm.trans hfn)).symm
      exact ⟨by kernel_rfl, fun j t ht => by
        rw [Tryz.params3] at ht
        have hm : t ∈ [24, 25, 3] := by have := Array.mem_of_getElem? ht; simp at this ⊢; omega
        have hall : ([24, 25, 3].all fun u => !Tryz.prog.wantsStandIn u) = true := by kernel_rfl
        exact (show Tryz.prog.wantsStandIn t = false by simpa using List.all_eq_true.1 hall t hm)⟩)
    (by kernel_rfl)
#print axioms proved
end Go.Proofs.YtljhfalgplihhaaGreatDoor.disLines
