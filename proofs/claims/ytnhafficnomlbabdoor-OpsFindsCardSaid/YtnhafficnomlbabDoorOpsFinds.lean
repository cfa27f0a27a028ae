/- The law OpsFinds answers true for every input, and each argument reads afterwards as it read before. Conditions: none. -/
import Derived.Test.YtnhafficnomlbabDoorRows
import Derived.WalkKit
import Derived.ProofKit
import Derived.OpenShut
import Derived.ShutString
import Derived.ChangeOld
import Derived.Below
import Derived.Test.YtnhafficnomlbabDoorOpsB
import Derived.Test.YtnhafficnomlbabDoorOpsZ
import Derived.LaidMore
import Derived.HandedShaped
import Derived.Test.YtnhafficnomlbabDoorHsh
import Derived.Test.YtnhafficnomlbabDoorCards
import Derived.Test.YtnhafficnomlbabDoorTie
import Derived.LaidMore
import Derived.Stop.Joined
import Derived.SevenTiedAt
namespace Go.Proofs.YtnhafficnomlbabDoor.opsFinds
open Go.ChangeShapes Go.WideShapes Go.ChangeAt Go.RowKit
open Go.ChangeMaps (open_string shut_string)
set_option linter.unusedVariables false      -- a walk need not use every 'w<i>' (that an integer argument fits its kind)

theorem own : ownKnob Tryd.prog.godebug = none := by kernel_rfl

set_option maxRecDepth 100000 in
set_option maxHeartbeats 1000000 in
theorem walk (a0 : ByteArray) (w0 : a0.size ≤ maxLen) (w : World) (hL : laidMetH Tryd.prog Rows.opsFindsRow.laid w) (hS : w.ShapedOpen Tryd.prog) :
    Calls Tryd.prog 6 #[.string a0] w fun e w' => e = .returned (.bool true) ∧ Below w.heap.size w w' := by
  -- shaped
  have hT := TabO.of_laid hL hS
  have HT := Lib.hid hT
  clear hT hL hS
  by_cases h20 : a0.size ≤ 20
  · have CD := Lib.hid (fun u => opsFind_any a0 u)
    have CRD := Lib.hid (fun u => refFind13_any a0 u)
    have CF := Lib.hid (fun u => findReg_any a0 u)
    have CRR := Lib.hid (fun (k : Nat) (hk : k < 12) u => refReg12 k hk u)
    rw [reg_last a0] at CF
    have HEM : Hid (∀ k, a0.toList.isEmpty = true → regIs a0 k = false) := Lib.hid (fun k h => by
      unfold regIs
      cases he : (regS k).toList.isEmpty
      · have e : a0.toList = [] := by simpa using h
        rw [e]
        simp
        intro h2; rw [h2] at he; simp at he
      · rfl)
    have HIS : Hid (∀ k, a0.toList.isEmpty = false → regIs a0 k = ((regS k).toList == a0.toList)) := Lib.hid (fun k h => by
      unfold regIs
      cases he : ((regS k).toList == a0.toList)
      · simp
      · have e := eq_of_beq he
        rw [e, h]; rfl)
    have HN : Hid (∀ k, lastR a0 (k + 1) = if regIs a0 k then ((k : Int), true) else lastR a0 k) := Lib.hid (fun k => rfl)
    generalize lookR (usualT a0.toList) = LK at *
    obtain ⟨q1, q2, q3⟩ := LK
    simp only at CD CRD
    go_enter Tryd.func6, Tryd.ntmps6
    go_wp2_with fail
    refine (CD.out _ HT.out).mono ?_
    rintro e w1 ⟨rfl, rfl⟩
    go_wp2_with fail
    refine (CRD.out _).mono ?_
    rintro e w1 ⟨rfl, hb⟩
    have B1 := Lib.hid hb
    have T1 := Lib.hid (HT.out.below hb)
    clear hb
    go_wp2_with fail
    refine (CF.out _ T1.out.1).mono ?_
    rintro e w2 ⟨rfl, rfl⟩
    have HLL := Lib.hid (show lastR a0 12 = lastR a0 12 from rfl)
    obtain ⟨Z, hZ⟩ : ∃ Z, lastR a0 12 = Z := ⟨_, rfl⟩
    rw [hZ]
    have HZ := Lib.hid hZ
    clear hZ
    go_wp2
    go_loopw [11, 12, 13] (fun a b i wr => ∃ k : Nat, k ≤ 12 ∧ i = .int .i64 k ∧ a = .int .i64 (lastR a0 k).1 ∧ b = .bool (lastR a0 k).2 ∧ Hid (Below w.heap.size w wr)) (fun _ _ i _ => 12 - (intOf i).toNat)
    case atStart => exact ⟨0, Nat.zero_le _, rfl, rfl, rfl, B1⟩
    case round =>
      obtain ⟨k, hk, rfl, rfl, rfl, hB⟩ := hrel
      by_cases hlt : k < 12
      · have CR1 := Lib.hid (CRR.out k hlt)
        have k0 : (0 : Int) ≤ (k : Int) := by omega
        cases he : a0.toList.isEmpty
        · have HI := HIS.out k he
          cases e1 : ((regS k).toList == a0.toList)
          · have HN1 : Hid (lastR a0 (k + 1) = lastR a0 k) := Lib.hid (by rw [HN.out, HI, e1]; rfl)
            generalize regS k = S at *
            clear HI
            go_wp2_with fail
            refine (CR1.out _).mono ?_
            rintro e w3 ⟨rfl, hb⟩
            have B3 := Lib.hid (Below.trans0 hB.out hb)
            clear hb
            go_wp2
            go_roundw
            case rel => exact ⟨k + 1, by omega, by go_num, by rw [HN1.out], by rw [HN1.out], B3⟩
            case measure => simp [intOf] <;> omega
          · have HN1 : Hid (lastR a0 (k + 1) = ((k : Int), true)) := Lib.hid (by rw [HN.out, HI, e1]; rfl)
            generalize regS k = S at *
            clear HI
            go_wp2_with fail
            refine (CR1.out _).mono ?_
            rintro e w3 ⟨rfl, hb⟩
            have B3 := Lib.hid (Below.trans0 hB.out hb)
            clear hb
            go_wp2
            go_roundw
            case rel => exact ⟨k + 1, by omega, by go_num, by rw [HN1.out], by rw [HN1.out], B3⟩
            case measure => simp [intOf] <;> omega
        · have HN1 : Hid (lastR a0 (k + 1) = lastR a0 k) := Lib.hid (by rw [HN.out, HEM.out k he]; rfl)
          go_wp2
          go_roundw
          case rel => exact ⟨k + 1, by omega, by go_num, by rw [HN1.out], by rw [HN1.out], hB⟩
          case measure => simp [intOf] <;> omega
      · obtain rfl : k = 12 := by omega
        rw [HZ.out]
        go_wp2_with fail
        refine (alive13 _ (HT.out.below hB.out)).mono ?_
        rintro e w3 ⟨rfl, rfl⟩
        go_wp2
        go_ret
        exact ⟨rfl, hB.out⟩
  · go_enter Tryd.func6, Tryd.ntmps6
    go_wp2
    go_ret
    exact ⟨rfl, Below.refl _ _⟩

theorem door_met (os : Os) (args : Array Value) : laidMetH Tryd.prog Rows.opsFindsRow.laid ((World.doorLaid Tryd.prog 34 os).forCall (fun _ _ => 0) ⟨#[], args, []⟩).memory :=
  laidMetH_of_parts3 (fuel := 8) (laidMet_of_run' 8 (by kernel_rfl) (by kernel_rfl)) (by kernel_rfl) (by kernel_rfl)

set_option maxRecDepth 100000 in
theorem lifted (os : Os) (started : os.Started) (H : Type) (enc : TypeId × Value → H) :
    ReturnsInHanded {} Tryd.checked os 6 .any (fun w args => (Rows.opsFindsSpec.pre enc Tryd.prog Tryd.f6 Rows.opsFindsRow.domain false w args ∧ laidMetH Tryd.prog Rows.opsFindsRow.laid w) ∧ sizedMet enc Tryd.prog Tryd.f6 (OpenSpec.ofChange Rows.opsFindsSpec) false w args) (Rows.opsFindsSpec.post enc Tryd.prog Tryd.f6 false true false false) := by
  refine handed_and_shaped (C := Tryd.checked) (X := fun w _ => laidMetH Tryd.prog Rows.opsFindsRow.laid w) (fun _ _ _ hh h => h.of_heap hh) own started (by kernel_rfl) Tryd.func6
    (ChangeSpec.witness_shaped (enc := enc) (C := Tryd.checked) (os := os) (X := fun w _ => laidMetH Tryd.prog Rows.opsFindsRow.laid w) false (World.doorLaid Tryd.prog 34 os) #[.string ByteArray.empty] 8 rfl (World.shaped_of_RefB (by kernel_rfl) (by kernel_rfl)) (by kernel_rfl) (by kernel_rfl) (by kernel_rfl) (door_met os _)) ?_
  intro W base args ds gs before hval0 hW _ hZ hL hsh _
  have hval : ∀ (j : Nat) t v, Tryd.f6.params[j]? = some t → args[j]? = some v → Value.okWide Tryd.prog W .any base t v := hval0
  have hW' := hW
  obtain ⟨p, q, hA0, hV, rfl, hfz, hnd⟩ := hW
  have hA : DataW.TrodAll enc Tryd.prog W 0 (fun _ => true) true Tryd.f6.params.toList args.toList ds p := hA0
  rw [Tryd.params6] at hA hval
  obtain ⟨v0, vs0, d0, ds0, p0, q0, hargs, rfl, rfl, h0, r0⟩ := trodAll_cons hA
  obtain ⟨rfl, rfl, rfl⟩ := trodAll_nil r0
  obtain rfl : args = #[v0] := by cases args; simp_all
  obtain ⟨rfl, rfl⟩ := trodVars_none hV
  obtain ⟨a0, rfl, rfl, rfl, w0⟩ := open_string Tryd.underlying9 (hval 0 9 v0 rfl rfl) h0
  clear hA0 hval0
  refine (walk a0 w0 W hL hsh).mono fun e W' ⟨he, bel⟩ => ?_
  subst he
  exact ⟨_, rfl, _, _, _, [], _, [], hW', trodAll_mk1 (shut_bool Tryd.underlying4 _), (trodAll_cons_mk (shut_string Tryd.underlying9 w0) trodAll_mk0), rfl, bel.frame _, fun h => by cases h⟩

theorem over : Rows.opsFindsRow.holds Tryd.pinned (OpenSpec.ofChange Rows.opsFindsSpec) :=
  OpenClaim.holds_of_wide 6 Tryd.f6 rfl rfl rfl rfl rfl rfl rfl ⟨rfl, rfl, rfl, rfl, rfl⟩ rfl rfl rfl rfl rfl (by kernel_rfl) Tryd.func6 (by kernel_rfl)
    (of_decide_eq_true (by kernel_rfl)) (by unfold Func.isWrapper; first | (rw [if_pos (by decide +kernel)]; kernel_rfl) | (rw [if_neg (by decide +kernel)]; exact ⟨rfl, rfl⟩))
    (fun os started H enc _ => lifted os started H enc)

theorem proved : Rows.OpsFindsCardSaid :=
  Claim7.holds_tied_plain_at .later [] [.data, .data, .data] true (true, "959e5173cdb22e24eb7e041718d8a63228c5b2a57927bbf24f95181aa6723eb2") false
    over (fun _ h => by cases h) (by kernel_rfl) (fun _ h => by cases h) opsFinds_row_tie rfl ⟨rfl, rfl⟩ (by kernel_rfl) rfl
    (fun f fn hf hfn => by
      obtain rfl : f = 6 := Option.some.inj ((show Tryd.prog.funcNamed "spinet/spinetlaw13.OpsFinds" = some 6 by kernel_rfl).symm.trans hf) |>.symm
      obtain rfl : fn = Tryd.f6 := (Option.some.inj (Tryd.func6.symm.trans hfn)).symm
      exact ⟨by kernel_rfl, fun j t ht => by
        rw [Tryd.params6] at ht
        have hm : t ∈ [9] := by have := Array.mem_of_getElem? ht; simp at this ⊢; omega
        have hall : ([9].all fun u => !Tryd.prog.wantsStandIn u) = true := by kernel_rfl
        exact (show Tryd.prog.wantsStandIn t = false by simpa using List.all_eq_true.1 hall t hm)⟩)
    (by kernel_rfl)
#print axioms proved
end Go.Proofs.YtnhafficnomlbabDoor.opsFinds
