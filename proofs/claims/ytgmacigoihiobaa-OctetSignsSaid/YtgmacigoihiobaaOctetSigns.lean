/- The law OctetSigns answers true for every input, and each argument reads afterwards as it read before. Conditions: none. -/
import Derived.Test.YtgmacigoihiobaaRows
import Derived.WalkKit
import Derived.ProofKit
import Derived.OpenShut
import Derived.ShutString
import Derived.ChangeOld
import Derived.Below
import Derived.Test.YtgmacigoihiobaaOct
namespace Go.Proofs.Ytgmacigoihiobaa.octetSigns
open Go.ChangeShapes Go.WideShapes Go.ChangeAt Go.RowKit
open Go.ChangeMaps (open_string shut_string)
set_option linter.unusedVariables false      -- a walk need not use every 'w<i>' (that an integer argument fits its kind)

theorem own : ownKnob Try.prog.godebug = none := by kernel_rfl

set_option maxRecDepth 100000 in
set_option maxHeartbeats 1000000 in
theorem walk (a0 : Int) (w0 : (Lit.int .u8 a0).wf = true) (w : World) :
    Calls Try.prog 4 #[.int .u8 a0] w fun e w' => e = .returned (.bool true) ∧ Below w.heap.size w w' := by
  obtain ⟨ha, ha'⟩ := bounds_u8 w0
  by_cases h1 : 127 < a0
  all_goals by_cases h2 : 15 < a0 % 32
  · have e1 : (signOf a0 == a0 + 65280) = true := by rw [beq_iff_eq]; unfold signOf; split <;> omega
    have e2 : (sign5Of a0 == a0 % 32 + 65504) = true := by rw [beq_iff_eq]; unfold sign5Of; split <;> omega
    have b1 : 0 ≤ signOf a0 ∧ signOf a0 < 65536 := by unfold signOf; split <;> omega
    have b2 : 0 ≤ sign5Of a0 ∧ sign5Of a0 < 65536 := by unfold sign5Of; split <;> omega
    obtain ⟨b11, b12⟩ := b1
    obtain ⟨b21, b22⟩ := b2
    go_enter Try.func4, Try.ntmps4
    go_wp2_with (first
      | (go_at_call 16; refine (sign_any _ _ (by omega) (by omega)).mono ?_; rintro e w' ⟨rfl, rfl⟩)
      | (go_at_call 17; refine (sign5_any _ _ (by omega) (by omega)).mono ?_; rintro e w' ⟨rfl, rfl⟩)
      | (go_at_call 15; refine (alive01 _).mono ?_; rintro e w' ⟨rfl, rfl⟩))
    go_ret
    exact ⟨rfl, Below.refl _ _⟩
  · have e1 : (signOf a0 == a0 + 65280) = true := by rw [beq_iff_eq]; unfold signOf; split <;> omega
    have e2 : (sign5Of a0 == a0 % 32) = true := by rw [beq_iff_eq]; unfold sign5Of; split <;> omega
    have b1 : 0 ≤ signOf a0 ∧ signOf a0 < 65536 := by unfold signOf; split <;> omega
    have b2 : 0 ≤ sign5Of a0 ∧ sign5Of a0 < 65536 := by unfold sign5Of; split <;> omega
    obtain ⟨b11, b12⟩ := b1
    obtain ⟨b21, b22⟩ := b2
    go_enter Try.func4, Try.ntmps4
    go_wp2_with (first
      | (go_at_call 16; refine (sign_any _ _ (by omega) (by omega)).mono ?_; rintro e w' ⟨rfl, rfl⟩)
      | (go_at_call 17; refine (sign5_any _ _ (by omega) (by omega)).mono ?_; rintro e w' ⟨rfl, rfl⟩)
      | (go_at_call 15; refine (alive01 _).mono ?_; rintro e w' ⟨rfl, rfl⟩))
    go_ret
    exact ⟨rfl, Below.refl _ _⟩
  · have e1 : (signOf a0 == a0) = true := by rw [beq_iff_eq]; unfold signOf; split <;> omega
    have e2 : (sign5Of a0 == a0 % 32 + 65504) = true := by rw [beq_iff_eq]; unfold sign5Of; split <;> omega
    have b1 : 0 ≤ signOf a0 ∧ signOf a0 < 65536 := by unfold signOf; split <;> omega
    have b2 : 0 ≤ sign5Of a0 ∧ sign5Of a0 < 65536 := by unfold sign5Of; split <;> omega
    obtain ⟨b11, b12⟩ := b1
    obtain ⟨b21, b22⟩ := b2
    go_enter Try.func4, Try.ntmps4
    go_wp2_with (first
      | (go_at_call 16; refine (sign_any _ _ (by omega) (by omega)).mono ?_; rintro e w' ⟨rfl, rfl⟩)
      | (go_at_call 17; refine (sign5_any _ _ (by omega) (by omega)).mono ?_; rintro e w' ⟨rfl, rfl⟩)
      | (go_at_call 15; refine (alive01 _).mono ?_; rintro e w' ⟨rfl, rfl⟩))
    go_ret
    exact ⟨rfl, Below.refl _ _⟩
  · have e1 : (signOf a0 == a0) = true := by rw [beq_iff_eq]; unfold signOf; split <;> omega
    have e2 : (sign5Of a0 == a0 % 32) = true := by rw [beq_iff_eq]; unfold sign5Of; split <;> omega
    have b1 : 0 ≤ signOf a0 ∧ signOf a0 < 65536 := by unfold signOf; split <;> omega
    have b2 : 0 ≤ sign5Of a0 ∧ sign5Of a0 < 65536 := by unfold sign5Of; split <;> omega
    obtain ⟨b11, b12⟩ := b1
    obtain ⟨b21, b22⟩ := b2
    go_enter Try.func4, Try.ntmps4
    go_wp2_with (first
      | (go_at_call 16; refine (sign_any _ _ (by omega) (by omega)).mono ?_; rintro e w' ⟨rfl, rfl⟩)
      | (go_at_call 17; refine (sign5_any _ _ (by omega) (by omega)).mono ?_; rintro e w' ⟨rfl, rfl⟩)
      | (go_at_call 15; refine (alive01 _).mono ?_; rintro e w' ⟨rfl, rfl⟩))
    go_ret
    exact ⟨rfl, Below.refl _ _⟩

set_option maxRecDepth 100000 in
theorem lifted (os : Os) (started : os.Started) (H : Type) (enc : TypeId × Value → H) :
    ReturnsInHanded {} Try.checked os 4 .any (Rows.octetSignsSpec.pre6 enc Try.prog Try.f4 Rows.octetSignsRow.domain false) (Rows.octetSignsSpec.post enc Try.prog Try.f4 false true false false) := by
  refine returnsInHanded_of_change (C := Try.checked) own started (by kernel_rfl) Try.func4
    (ChangeSpec.witness6 (enc := enc) (C := Try.checked) false ⟨#[], #[.int .u8 0], []⟩ 8 (by kernel_rfl) (by kernel_rfl) (by kernel_rfl) (by kernel_rfl)) ?_
  intro W base args ds gs before hval0 hW hcnd _
  have hval : ∀ (j : Nat) t v, Try.f4.params[j]? = some t → args[j]? = some v → Value.okWide Try.prog W .any base t v := hval0
  have hW' := hW
  obtain ⟨p, q, hA0, hV, rfl, hfz, hnd⟩ := hW
  have hA : DataW.TrodAll enc Try.prog W 0 (fun _ => true) true Try.f4.params.toList args.toList ds p := hA0
  rw [Try.params4] at hA hval
  obtain ⟨v0, vs0, d0, ds0, p0, q0, hargs, rfl, rfl, h0, r0⟩ := trodAll_cons hA
  obtain ⟨rfl, rfl, rfl⟩ := trodAll_nil r0
  obtain rfl : args = #[v0] := by cases args; simp_all
  obtain ⟨rfl, rfl⟩ := trodVars_none hV
  obtain ⟨a0, rfl, rfl, rfl, w0⟩ := open_int Try.underlying5 (hval 0 5 v0 rfl rfl) h0
  clear hA0 hval0
  refine (walk a0 w0 W).mono fun e W' ⟨he, bel⟩ => ?_
  subst he
  exact ⟨_, rfl, _, _, _, [], _, [], hW', trodAll_mk1 (shut_bool Try.underlying4 _), (trodAll_cons_mk (shut_int Try.underlying5 w0) trodAll_mk0), rfl, bel.frame _, fun h => by cases h⟩

theorem over : Rows.octetSignsRow.holds Try.pinned (OpenSpec.ofChange Rows.octetSignsSpec) :=
  OpenClaim.holds_of_wide 4 Try.f4 rfl rfl rfl rfl rfl rfl rfl ⟨rfl, rfl, rfl, rfl, rfl⟩ rfl rfl rfl rfl rfl (by kernel_rfl) Try.func4 (by kernel_rfl)
    (of_decide_eq_true (by kernel_rfl)) (by unfold Func.isWrapper; first | (rw [if_pos (by decide +kernel)]; kernel_rfl) | (rw [if_neg (by decide +kernel)]; exact ⟨rfl, rfl⟩))
    (fun os started H enc _ => lifted os started H enc)

theorem proved : Rows.OctetSignsSaid :=
  over
#print axioms proved
end Go.Proofs.Ytgmacigoihiobaa.octetSigns
