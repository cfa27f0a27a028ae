/- The law ConfReads answers true for every input, and each argument reads afterwards as it read before. Conditions: none. -/
import Derived.Test.YtfjkbjkbpbnalaaRows
import Derived.WalkKit
import Derived.ProofKit
import Derived.OpenShut
import Derived.ShutString
import Derived.ChangeOld
import Derived.Below
import Derived.Test.YtfjkbjkbpbnalaaCnf
import Derived.HandedShaped
namespace Go.Proofs.Ytfjkbjkbpbnalaa.confReads
open Go.ChangeShapes Go.WideShapes Go.ChangeAt Go.RowKit
open Go.ChangeMaps (open_string shut_string)
set_option linter.unusedVariables false      -- a walk need not use every 'w<i>' (that an integer argument fits its kind)

theorem own : ownKnob Try.prog.godebug = none := by kernel_rfl

set_option maxRecDepth 100000 in
set_option maxHeartbeats 1000000 in
theorem walk (a0 : ByteArray) (w0 : a0.size ≤ maxLen) (w : World) (hS : w.ShapedOpen Try.prog) :
    Calls Try.prog 4 #[.string a0] w fun e w' => e = .returned (.bool true) ∧ Below w.heap.size w w' := by
  -- shaped
  have hM : MaxL w := MaxL.of_shaped hS
  by_cases h1 : a0.size ≤ 40
  · have CR := Lib.hid (fun u h => cfRead_any a0 u h (by omega))
    have HM := Lib.hid hM
    clear hM hS
    have TO := Lib.hid (tell_ok a0)
    have T1 : Hid (tellT a0 ≠ a0 → (a0.toList == [84, 83, 67]) = false ∧ (a0.toList == [68, 77, 65]) = false) := Lib.hid (fun h =>
      ⟨toList_ne' (T := a0) (l := [84, 83, 67]) (fun e => h (by rw [e]; exact tell_tsc)), toList_ne' (T := a0) (l := [68, 77, 65]) (fun e => h (by rw [e]; exact tell_dma))⟩)
    generalize tellT a0 = T at CR TO T1
    go_enter Try.func4, Try.ntmps4
    go_wp2_with fail
    refine (CR.out _ HM.out).mono ?_
    rintro e w1 ⟨he, hb⟩
    have HB := Lib.hid hb
    clear hb CR
    rcases he with ⟨ht, rfl⟩ | ⟨ht, rfl⟩
    · obtain ⟨hok, hs⟩ := TO.out ht
      have CL := Lib.hid (fun u => cfLaw_any _ _ u hok)
      have hr := hok
      simp only [cfOk, Bool.and_eq_true, decide_eq_true_eq] at hr
      obtain ⟨hk, r0, r1⟩ := hr
      have hEq : ((strOfNums (cfT (cutK a0) (cutR a0))).toList == a0.toList) = true := by rw [← hs]; simp
      clear T1 TO ht hok hs
      generalize cutK a0 = k at *
      generalize cutR a0 = r at *
      rcases hk with rfl | rfl
      all_goals
        go_wp2_with fail
        refine (CL.out _).mono ?_
        rintro e w2 ⟨rfl, hb⟩
        have HB2 := Lib.hid (Below.trans0 (Below.alloc0 HB.out _) hb)
        clear hb
        go_wp2_with fail
        refine (alive33 _).mono ?_
        rintro e w3 ⟨rfl, hb⟩
        have HB3 := Lib.hid (Below.trans0 HB2.out hb)
        clear hb
        go_wp2
        go_ret
        exact ⟨rfl, HB3.out⟩
    · obtain ⟨t1, t2⟩ := T1.out ht
      clear T1 TO ht
      go_wp2_with fail
      refine (alive33 _).mono ?_
      rintro e w3 ⟨rfl, hb⟩
      have HB3 := Lib.hid (Below.trans0 (Below.alloc0 HB.out _) hb)
      clear hb
      go_wp2
      go_ret
      exact ⟨rfl, HB3.out⟩
  · go_enter Try.func4, Try.ntmps4
    go_wp2
    go_ret
    exact ⟨rfl, Below.refl _ _⟩

set_option maxRecDepth 100000 in
theorem lifted (os : Os) (started : os.Started) (H : Type) (enc : TypeId × Value → H) :
    ReturnsInHanded {} Try.checked os 4 .any (Rows.confReadsSpec.pre6 enc Try.prog Try.f4 Rows.confReadsRow.domain false) (Rows.confReadsSpec.post enc Try.prog Try.f4 false true false false) := by
  refine returnsInHanded_of_change_shaped (C := Try.checked) own started (by kernel_rfl) Try.func4
    (ChangeSpec.witness6 (enc := enc) (C := Try.checked) false ⟨#[], #[.string ByteArray.empty], []⟩ 8 (by kernel_rfl) (by kernel_rfl) (by kernel_rfl) (by kernel_rfl)) ?_
  intro W base args ds gs before hval0 hW hcnd _ hsh _
  have hval : ∀ (j : Nat) t v, Try.f4.params[j]? = some t → args[j]? = some v → Value.okWide Try.prog W .any base t v := hval0
  have hW' := hW
  obtain ⟨p, q, hA0, hV, rfl, hfz, hnd⟩ := hW
  have hA : DataW.TrodAll enc Try.prog W 0 (fun _ => true) true Try.f4.params.toList args.toList ds p := hA0
  rw [Try.params4] at hA hval
  obtain ⟨v0, vs0, d0, ds0, p0, q0, hargs, rfl, rfl, h0, r0⟩ := trodAll_cons hA
  obtain ⟨rfl, rfl, rfl⟩ := trodAll_nil r0
  obtain rfl : args = #[v0] := by cases args; simp_all
  obtain ⟨rfl, rfl⟩ := trodVars_none hV
  obtain ⟨a0, rfl, rfl, rfl, w0⟩ := open_string Try.underlying9 (hval 0 9 v0 rfl rfl) h0
  clear hA0 hval0
  refine (walk a0 w0 W hsh).mono fun e W' ⟨he, bel⟩ => ?_
  subst he
  exact ⟨_, rfl, _, _, _, [], _, [], hW', trodAll_mk1 (shut_bool Try.underlying4 _), (trodAll_cons_mk (shut_string Try.underlying9 w0) trodAll_mk0), rfl, bel.frame _, fun h => by cases h⟩

theorem over : Rows.confReadsRow.holds Try.pinned (OpenSpec.ofChange Rows.confReadsSpec) :=
  OpenClaim.holds_of_wide 4 Try.f4 rfl rfl rfl rfl rfl rfl rfl ⟨rfl, rfl, rfl, rfl, rfl⟩ rfl rfl rfl rfl rfl (by kernel_rfl) Try.func4 (by kernel_rfl)
    (of_decide_eq_true (by kernel_rfl)) (by unfold Func.isWrapper; first | (rw [if_pos (by decide +kernel)]; kernel_rfl) | (rw [if_neg (by decide +kernel)]; exact ⟨rfl, rfl⟩))
    (fun os started H enc _ => lifted os started H enc)

theorem proved : Rows.ConfReadsSaid :=
  over
#print axioms proved
end Go.Proofs.Ytfjkbjkbpbnalaa.confReads
