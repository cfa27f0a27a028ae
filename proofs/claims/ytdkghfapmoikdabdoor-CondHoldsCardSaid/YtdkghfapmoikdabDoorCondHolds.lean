/- The law CondHolds answers true for every input, and each argument reads afterwards as it read before. Conditions: none. -/
import Derived.Test.YtdkghfapmoikdabDoorRows
import Derived.WalkKit
import Derived.ProofKit
import Derived.OpenShut
import Derived.ShutString
import Derived.ChangeOld
import Derived.Below
import Derived.Test.YtdkghfapmoikdabDoorCndRN
import Derived.LaidMore
import Derived.Test.YtdkghfapmoikdabDoorCards
import Derived.Test.YtdkghfapmoikdabDoorTie
import Derived.LaidMore
import Derived.Stop.Joined
import Derived.SevenTiedAt
namespace Go.Proofs.YtdkghfapmoikdabDoor.condHolds
open Go.ChangeShapes Go.WideShapes Go.ChangeAt Go.RowKit
open Go.ChangeMaps (open_string shut_string)
set_option linter.unusedVariables false      -- a walk need not use every 'w<i>' (that an integer argument fits its kind)

theorem own : ownKnob Tryd.prog.godebug = none := by kernel_rfl

set_option maxRecDepth 100000 in
set_option maxHeartbeats 1000000 in
theorem walk (a0 : Int) (a1 : Int) (w0 : (Lit.int .i64 a0).wf = true) (w1 : (Lit.int .u8 a1).wf = true) (w : World) (hL : laidMetH Tryd.prog Rows.condHoldsRow.laid w) :
    Calls Tryd.prog 3 #[.int .i64 a0, .int .u8 a1] w fun e w' => e = .returned (.bool true) ∧ Below w.heap.size w w' := by
  obtain ⟨hc, hc'⟩ := bounds_u8 w1
  have hcc : CC a1 := CC.mk' hc (by omega)
  have hT := NamesAt.of_laid hL
  by_cases hr : a0 < 0 ∨ 15 < a0
  · have h16 : ¬ (0 ≤ a0 ∧ a0 ≤ 15) := by omega
    rcases hr with hr | hr
    all_goals
      have hr' : a0 < 0 ∨ 15 < a0 := by omega
      have HR := Lib.hid hr'
      clear hr' h16
      go_enter Tryd.func3, Tryd.ntmps3
      go_wp2_with (first
        | (go_at_call 6; refine (holds_out _ _ _ HR.out).mono ?_; rintro e w' ⟨rfl, rfl⟩)
        | (go_at_call 7; refine (not_out _ _ HR.out).mono ?_; rintro e w' ⟨rfl, rfl⟩)
        | (go_at_call 8; refine (name_out _ _ HR.out).mono ?_; rintro e w' ⟨rfl, rfl⟩)
        | (go_at_call 9; refine (alive12 _ hT).mono ?_; rintro e w5 ⟨rfl, hb5⟩))
      go_ret
      exact ⟨rfl, hb5⟩
  · obtain ⟨k, rfl⟩ := Int.eq_ofNat_of_zero_le (show 0 ≤ a0 by omega)
    have hk : k < 16 := by omega
    obtain ⟨f1, f2, f3, f4, f5⟩ := notK_fin ⟨k, hk⟩
    simp only at f1 f2 f3 f4 f5
    have e1 : holdsB (notK k) a1 = !holdsB k a1 := by have := holds_not k a1 hk; revert this; cases holdsB (notK k) a1 <;> cases holdsB k a1 <;> simp
    have e2 : ((notK (notK k) : Int) == (k : Int)) = true := by rw [f3]; simp
    have HT := Lib.hid hT
    have F2 := Lib.hid f2
    have g2 : (notK k : Int) < 16 := by omega
    clear f1 f3 f4 f5 hT hr
    go_enter Tryd.func3, Tryd.ntmps3
    go_wp2_with fail
    refine (not_in k _ hk).mono ?_
    rintro e w' ⟨rfl, rfl⟩
    go_wp2_with fail
    refine (holds_in k _ _ hk hcc).mono ?_
    rintro e w1 ⟨rfl, hb1⟩
    go_wp2_with fail
    refine (refHolds_in k _ _ hk hcc).mono ?_
    rintro e w2 ⟨rfl, hb2⟩
    have b2 := Below.trans0 hb1 hb2
    go_wp2_with fail
    refine (not_in (notK k) _ F2.out).mono ?_
    rintro e w' ⟨rfl, rfl⟩
    go_wp2_with fail
    refine (holds_in (notK k) _ _ F2.out hcc).mono ?_
    rintro e w3 ⟨rfl, hb3⟩
    have b3 := Below.trans0 b2 hb3
    go_wp2_with fail
    refine (holds_in k _ _ hk hcc).mono ?_
    rintro e w4 ⟨rfl, hb4⟩
    have b4 := Below.trans0 b3 hb4
    go_wp2_with fail
    refine (name_in k _ hk (HT.out.below b4)).mono ?_
    rintro e w' ⟨rfl, rfl⟩
    go_wp2_with fail
    refine (refName_in k _ hk).mono ?_
    rintro e w5 ⟨rfl, hb5⟩
    have b5 := Below.trans0 b4 hb5
    have e3 : ((nameS k).toList == (nameS k).toList) = true := by simp
    go_wp2_with fail
    refine (alive12 _ (HT.out.below b5)).mono ?_
    rintro e w6 ⟨rfl, hb6⟩
    go_wp2
    go_ret
    exact ⟨rfl, Below.trans0 b5 hb6⟩

theorem door_met (os : Os) (args : Array Value) : laidMetH Tryd.prog Rows.condHoldsRow.laid ((World.doorLaid Tryd.prog 14 os).forCall (fun _ _ => 0) ⟨#[], args, []⟩).memory :=
  laidMetH_of_parts3 (fuel := 8) (laidMet_of_run' 8 (by kernel_rfl) (by kernel_rfl)) (by kernel_rfl) (by kernel_rfl)

set_option maxRecDepth 100000 in
theorem lifted (os : Os) (started : os.Started) (H : Type) (enc : TypeId × Value → H) :
    ReturnsInHanded {} Tryd.checked os 3 .any (fun w args => (Rows.condHoldsSpec.pre enc Tryd.prog Tryd.f3 Rows.condHoldsRow.domain false w args ∧ laidMetH Tryd.prog Rows.condHoldsRow.laid w) ∧ sizedMet enc Tryd.prog Tryd.f3 (OpenSpec.ofChange Rows.condHoldsSpec) false w args) (Rows.condHoldsSpec.post enc Tryd.prog Tryd.f3 false true false false) := by
  refine returnsInHanded_of_change_and (C := Tryd.checked) (X := fun w _ => laidMetH Tryd.prog Rows.condHoldsRow.laid w) (fun _ _ _ hh h => h.of_heap hh) own started (by kernel_rfl) Tryd.func3
    (ChangeSpec.witness_shaped (enc := enc) (C := Tryd.checked) (os := os) (X := fun w _ => laidMetH Tryd.prog Rows.condHoldsRow.laid w) false (World.doorLaid Tryd.prog 14 os) #[.int .i64 0, .int .u8 0] 8 rfl (World.shaped_of_RefB (by kernel_rfl) (by kernel_rfl)) (by kernel_rfl) (by kernel_rfl) (by kernel_rfl) (door_met os _)) ?_
  intro W base args ds gs before hval0 hW _ _ hL _
  have hval : ∀ (j : Nat) t v, Tryd.f3.params[j]? = some t → args[j]? = some v → Value.okWide Tryd.prog W .any base t v := hval0
  have hW' := hW
  obtain ⟨p, q, hA0, hV, rfl, hfz, hnd⟩ := hW
  have hA : DataW.TrodAll enc Tryd.prog W 0 (fun _ => true) true Tryd.f3.params.toList args.toList ds p := hA0
  rw [Tryd.params3] at hA hval
  obtain ⟨v0, vs0, d0, ds0, p0, q0, hargs, rfl, rfl, h0, r0⟩ := trodAll_cons hA
  obtain ⟨v1, vs1, d1, ds1, p1, q1, rfl, rfl, rfl, h1, r1⟩ := trodAll_cons r0
  obtain ⟨rfl, rfl, rfl⟩ := trodAll_nil r1
  obtain rfl : args = #[v0, v1] := by cases args; simp_all
  obtain ⟨rfl, rfl⟩ := trodVars_none hV
  obtain ⟨a0, rfl, rfl, rfl, w0⟩ := open_int Tryd.underlying3 (hval 0 3 v0 rfl rfl) h0
  obtain ⟨a1, rfl, rfl, rfl, w1⟩ := open_int Tryd.underlying5 (hval 1 5 v1 rfl rfl) h1
  clear hA0 hval0
  refine (walk a0 a1 w0 w1 W hL).mono fun e W' ⟨he, bel⟩ => ?_
  subst he
  exact ⟨_, rfl, _, _, _, [], _, [], hW', trodAll_mk1 (shut_bool Tryd.underlying4 _), (trodAll_cons_mk (shut_int Tryd.underlying3 w0) (trodAll_cons_mk (shut_int Tryd.underlying5 w1) trodAll_mk0)), rfl, bel.frame _, fun h => by cases h⟩

theorem over : Rows.condHoldsRow.holds Tryd.pinned (OpenSpec.ofChange Rows.condHoldsSpec) :=
  OpenClaim.holds_of_wide 3 Tryd.f3 rfl rfl rfl rfl rfl rfl rfl ⟨rfl, rfl, rfl, rfl, rfl⟩ rfl rfl rfl rfl rfl (by kernel_rfl) Tryd.func3 (by kernel_rfl)
    (of_decide_eq_true (by kernel_rfl)) (by unfold Func.isWrapper; first | (rw [if_pos (by decide +kernel)]; kernel_rfl) | (rw [if_neg (by decide +kernel)]; exact ⟨rfl, rfl⟩))
    (fun os started H enc _ => lifted os started H enc)

theorem proved : Rows.CondHoldsCardSaid :=
  Claim7.holds_tied_plain_at .later [] [.data] true (true, "ae6ca9fe52bd66716d316738852dc5a81738dc9f81019463abe36bb5ed0d6551") false
    over (fun _ h => by cases h) (by kernel_rfl) (fun _ h => by cases h) condHolds_row_tie rfl ⟨rfl, rfl⟩ (by kernel_rfl) rfl
    (fun f fn hf hfn => by
      obtain rfl : f = 3 := Option.some.inj ((show Tryd.prog.funcNamed "spinet/spinetlaw12.CondHolds" = some 3 by kernel_rfl).symm.trans hf) |>.symm
      obtain rfl : fn = Tryd.f3 := (Option.some.inj (Tryd.func3.symm.trans hfn)).symm
      exact ⟨by kernel_rfl, fun j t ht => by
        rw [Tryd.params3] at ht
        have hm : t ∈ [3, 5] := by have := Array.mem_of_getElem? ht; simp at this ⊢; omega
        have hall : ([3, 5].all fun u => !Tryd.prog.wantsStandIn u) = true := by kernel_rfl
        exact (show Tryd.prog.wantsStandIn t = false by simpa using List.all_eq_true.1 hall t hm)⟩)
    (by kernel_rfl)
#print axioms proved
end Go.Proofs.YtdkghfapmoikdabDoor.condHolds
