/- The law CondNames answers true for every input, and each argument reads afterwards as it read before. Conditions: none. -/
import Derived.Test.YtdkghfapmoikdabDoorRows
import Derived.WalkKit
import Derived.ProofKit
import Derived.OpenShut
import Derived.ShutString
import Derived.ChangeOld
import Derived.Below
import Derived.Test.YtdkghfapmoikdabDoorCndFind
import Derived.LaidMore
import Derived.Test.YtdkghfapmoikdabDoorCards
import Derived.Test.YtdkghfapmoikdabDoorTie
import Derived.LaidMore
import Derived.Stop.Joined
import Derived.SevenTiedAt
namespace Go.Proofs.YtdkghfapmoikdabDoor.condNames
open Go.ChangeShapes Go.WideShapes Go.ChangeAt Go.RowKit
open Go.ChangeMaps (open_string shut_string)
set_option linter.unusedVariables false      -- a walk need not use every 'w<i>' (that an integer argument fits its kind)

theorem own : ownKnob Tryd.prog.godebug = none := by kernel_rfl

set_option maxRecDepth 100000 in
set_option maxHeartbeats 1000000 in
theorem walk (a0 : ByteArray) (w0 : a0.size ≤ maxLen) (w : World) (hL : laidMetH Tryd.prog Rows.condNamesRow.laid w) :
    Calls Tryd.prog 4 #[.string a0] w fun e w' => e = .returned (.bool true) ∧ Below w.heap.size w w' := by
  have hT := NamesAt.of_laid hL
  have HT := Lib.hid hT
  clear hT
  by_cases h20 : a0.size ≤ 20
  · obtain ⟨V, hV⟩ : ∃ V : Int × Bool, V = if a0.toList = [72, 83] then (4, true) else if a0.toList = [76, 79] then (5, true) else lastIn a0 16 := ⟨_, rfl⟩
    have hF : Calls Tryd.prog 12 #[.string a0] w fun e w' => e = .returned (.tuple #[.int .i64 V.1, .bool V.2]) ∧ w = w' := by
      by_cases h1 : a0.toList = [72, 83]
      · have e : a0 = ⟨#[72, 83]⟩ := by
          apply ByteArray.ext
          apply Array.toList_inj.1
          rw [← ByteArray.toList_eq]
          exact h1
        rw [hV, if_pos h1, e]
        have := find_HS w HT.out
        rw [found_HS] at this
        exact this
      · by_cases h2 : a0.toList = [76, 79]
        · have e : a0 = ⟨#[76, 79]⟩ := by
            apply ByteArray.ext
            apply Array.toList_inj.1
            rw [← ByteArray.toList_eq]
            exact h2
          rw [hV, if_neg h1, if_pos h2, e]
          have := find_LO w HT.out
          rw [found_LO] at this
          exact this
        · rw [hV, if_neg h1, if_neg h2, ← found_last]
          exact find_else a0 w HT.out (by simpa using h1) (by simpa using h2)
    have HF := Lib.hid hF
    have HV := Lib.hid hV
    clear hF hV
    go_enter Tryd.func4, Tryd.ntmps4
    go_wp2_with (go_at_call 12; refine HF.out.mono ?_; rintro e w' ⟨rfl, rfl⟩)
    go_loopw [5, 6, 7] (fun a b i wr => ∃ k : Nat, k ≤ 16 ∧ i = .int .i64 k ∧ a = .int .i64 (lastIn a0 k).1 ∧ b = .bool (lastIn a0 k).2 ∧ Below w.heap.size w wr) (fun _ _ i _ => 16 - (intOf i).toNat)
    case atStart => exact ⟨0, Nat.zero_le _, rfl, rfl, rfl, Below.refl _ _⟩
    case round =>
      obtain ⟨k, hk, rfl, rfl, rfl, hbel⟩ := hrel
      by_cases hlt : k < 16
      · cases hn : isName a0 k
        · have e1 : ((nameS k).toList == a0.toList) = false := hn
          have HN : Hid (lastIn a0 (k + 1) = lastIn a0 k) := Lib.hid (by simp only [lastIn, hn]; rfl)
          clear hn
          go_wp2_with (go_at_call 11; refine (refName_in k _ hlt).mono ?_; rintro e w1 ⟨rfl, hb1⟩)
          go_roundw
          case rel => exact ⟨k + 1, by omega, by go_num, by rw [HN.out], by rw [HN.out], Below.trans0 hbel hb1⟩
          case measure => simp [intOf]; omega
        · have e1 : ((nameS k).toList == a0.toList) = true := hn
          have HN : Hid (lastIn a0 (k + 1) = ((k : Int), true)) := Lib.hid (by simp only [lastIn, hn]; rfl)
          clear hn
          go_wp2_with (go_at_call 11; refine (refName_in k _ hlt).mono ?_; rintro e w1 ⟨rfl, hb1⟩)
          go_roundw
          case rel => exact ⟨k + 1, by omega, by go_num, by rw [HN.out], by rw [HN.out], Below.trans0 hbel hb1⟩
          case measure => simp [intOf]; omega
      · obtain rfl : k = 16 := by omega
        clear hlt hk
        by_cases h1 : a0.toList = [72, 83]
        · obtain rfl : V = (4, true) := by rw [HV.out, if_pos h1]
          have e1 : (a0.toList == [72, 83]) = true := by simpa using h1
          have e2 : (a0.toList == [76, 79]) = false := by rw [h1]; rfl
          clear h1
          go_wp2_with (go_at_call 9; refine (alive12 _ (HT.out.below hbel)).mono ?_; rintro e w3 ⟨rfl, hb3⟩)
          go_ret
          exact ⟨rfl, Below.trans0 hbel hb3⟩
        · have e1 : (a0.toList == [72, 83]) = false := by simpa using h1
          by_cases h2 : a0.toList = [76, 79]
          · obtain rfl : V = (5, true) := by rw [HV.out, if_neg h1, if_pos h2]
            have e2 : (a0.toList == [76, 79]) = true := by simpa using h2
            clear h1 h2
            go_wp2_with (go_at_call 9; refine (alive12 _ (HT.out.below hbel)).mono ?_; rintro e w3 ⟨rfl, hb3⟩)
            go_ret
            exact ⟨rfl, Below.trans0 hbel hb3⟩
          · obtain rfl : V = lastIn a0 16 := by rw [HV.out, if_neg h1, if_neg h2]
            have e2 : (a0.toList == [76, 79]) = false := by simpa using h2
            clear h1 h2
            have e3 : ((lastIn a0 16).1 == (lastIn a0 16).1) = true := by simp
            have e4 : ((lastIn a0 16).2 == (lastIn a0 16).2) = true := by simp
            go_wp2_with (go_at_call 9; refine (alive12 _ (HT.out.below hbel)).mono ?_; rintro e w3 ⟨rfl, hb3⟩)
            go_ret
            exact ⟨rfl, Below.trans0 hbel hb3⟩
  · go_enter Tryd.func4, Tryd.ntmps4
    go_wp2
    go_ret
    exact ⟨rfl, Below.refl _ _⟩

theorem door_met (os : Os) (args : Array Value) : laidMetH Tryd.prog Rows.condNamesRow.laid ((World.doorLaid Tryd.prog 14 os).forCall (fun _ _ => 0) ⟨#[], args, []⟩).memory :=
  laidMetH_of_parts3 (fuel := 8) (laidMet_of_run' 8 (by kernel_rfl) (by kernel_rfl)) (by kernel_rfl) (by kernel_rfl)

set_option maxRecDepth 100000 in
theorem lifted (os : Os) (started : os.Started) (H : Type) (enc : TypeId × Value → H) :
    ReturnsInHanded {} Tryd.checked os 4 .any (fun w args => (Rows.condNamesSpec.pre enc Tryd.prog Tryd.f4 Rows.condNamesRow.domain false w args ∧ laidMetH Tryd.prog Rows.condNamesRow.laid w) ∧ sizedMet enc Tryd.prog Tryd.f4 (OpenSpec.ofChange Rows.condNamesSpec) false w args) (Rows.condNamesSpec.post enc Tryd.prog Tryd.f4 false true false false) := by
  refine returnsInHanded_of_change_and (C := Tryd.checked) (X := fun w _ => laidMetH Tryd.prog Rows.condNamesRow.laid w) (fun _ _ _ hh h => h.of_heap hh) own started (by kernel_rfl) Tryd.func4
    (ChangeSpec.witness_shaped (enc := enc) (C := Tryd.checked) (os := os) (X := fun w _ => laidMetH Tryd.prog Rows.condNamesRow.laid w) false (World.doorLaid Tryd.prog 14 os) #[.string ByteArray.empty] 8 rfl (World.shaped_of_RefB (by kernel_rfl) (by kernel_rfl)) (by kernel_rfl) (by kernel_rfl) (by kernel_rfl) (door_met os _)) ?_
  intro W base args ds gs before hval0 hW _ _ hL _
  have hval : ∀ (j : Nat) t v, Tryd.f4.params[j]? = some t → args[j]? = some v → Value.okWide Tryd.prog W .any base t v := hval0
  have hW' := hW
  obtain ⟨p, q, hA0, hV, rfl, hfz, hnd⟩ := hW
  have hA : DataW.TrodAll enc Tryd.prog W 0 (fun _ => true) true Tryd.f4.params.toList args.toList ds p := hA0
  rw [Tryd.params4] at hA hval
  obtain ⟨v0, vs0, d0, ds0, p0, q0, hargs, rfl, rfl, h0, r0⟩ := trodAll_cons hA
  obtain ⟨rfl, rfl, rfl⟩ := trodAll_nil r0
  obtain rfl : args = #[v0] := by cases args; simp_all
  obtain ⟨rfl, rfl⟩ := trodVars_none hV
  obtain ⟨a0, rfl, rfl, rfl, w0⟩ := open_string Tryd.underlying9 (hval 0 9 v0 rfl rfl) h0
  clear hA0 hval0
  refine (walk a0 w0 W hL).mono fun e W' ⟨he, bel⟩ => ?_
  subst he
  exact ⟨_, rfl, _, _, _, [], _, [], hW', trodAll_mk1 (shut_bool Tryd.underlying4 _), (trodAll_cons_mk (shut_string Tryd.underlying9 w0) trodAll_mk0), rfl, bel.frame _, fun h => by cases h⟩

theorem over : Rows.condNamesRow.holds Tryd.pinned (OpenSpec.ofChange Rows.condNamesSpec) :=
  OpenClaim.holds_of_wide 4 Tryd.f4 rfl rfl rfl rfl rfl rfl rfl ⟨rfl, rfl, rfl, rfl, rfl⟩ rfl rfl rfl rfl rfl (by kernel_rfl) Tryd.func4 (by kernel_rfl)
    (of_decide_eq_true (by kernel_rfl)) (by unfold Func.isWrapper; first | (rw [if_pos (by decide +kernel)]; kernel_rfl) | (rw [if_neg (by decide +kernel)]; exact ⟨rfl, rfl⟩))
    (fun os started H enc _ => lifted os started H enc)

theorem proved : Rows.CondNamesCardSaid :=
  Claim7.holds_tied_plain_at .later [] [.data] true (true, "ae6ca9fe52bd66716d316738852dc5a81738dc9f81019463abe36bb5ed0d6551") false
    over (fun _ h => by cases h) (by kernel_rfl) (fun _ h => by cases h) condNames_row_tie rfl ⟨rfl, rfl⟩ (by kernel_rfl) rfl
    (fun f fn hf hfn => by
      obtain rfl : f = 4 := Option.some.inj ((show Tryd.prog.funcNamed "spinet/spinetlaw12.CondNames" = some 4 by kernel_rfl).symm.trans hf) |>.symm
      obtain rfl : fn = Tryd.f4 := (Option.some.inj (Tryd.func4.symm.trans hfn)).symm
      exact ⟨by kernel_rfl, fun j t ht => by
        rw [Tryd.params4] at ht
        have hm : t ∈ [9] := by have := Array.mem_of_getElem? ht; simp at this ⊢; omega
        have hall : ([9].all fun u => !Tryd.prog.wantsStandIn u) = true := by kernel_rfl
        exact (show Tryd.prog.wantsStandIn t = false by simpa using List.all_eq_true.1 hall t hm)⟩)
    (by kernel_rfl)
#print axioms proved
end Go.Proofs.YtdkghfapmoikdabDoor.condNames
