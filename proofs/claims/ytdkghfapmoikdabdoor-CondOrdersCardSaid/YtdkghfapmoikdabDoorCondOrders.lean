/- The law CondOrders answers true for every input, and each argument reads afterwards as it read before. Conditions: none. -/
import Derived.Test.YtdkghfapmoikdabDoorRows
import Derived.WalkKit
import Derived.ProofKit
import Derived.OpenShut
import Derived.ShutString
import Derived.ChangeOld
import Derived.Below
import Derived.Test.YtdkghfapmoikdabDoorCnd
import Derived.Test.YtdkghfapmoikdabDoorTake
import Derived.LaidMore
import Derived.Test.YtdkghfapmoikdabDoorCards
import Derived.Test.YtdkghfapmoikdabDoorTie
import Derived.LaidMore
import Derived.Stop.Joined
import Derived.SevenTiedAt
namespace Go.Proofs.YtdkghfapmoikdabDoor.condOrders
open Go.ChangeShapes Go.WideShapes Go.ChangeAt Go.RowKit
open Go.ChangeMaps (open_string shut_string)
set_option linter.unusedVariables false      -- a walk need not use every 'w<i>' (that an integer argument fits its kind)

theorem own : ownKnob Tryd.prog.godebug = none := by kernel_rfl

set_option maxRecDepth 100000 in
set_option maxHeartbeats 6000000 in
theorem walk (a0 : Int) (a1 : Int) (a2 : Int) (w0 : (Lit.int .u8 a0).wf = true) (w1 : (Lit.int .u8 a1).wf = true) (w2 : (Lit.int .u8 a2).wf = true) (w : World) (hL : laidMetH Tryd.prog Rows.condOrdersRow.laid w) :
    Calls Tryd.prog 5 #[.int .u8 a0, .int .u8 a1, .int .u8 a2] w fun e w' => e = .returned (.bool true) ∧ Below w.heap.size w w' := by
  obtain ⟨ha, ha'⟩ := bounds_u8 w0
  obtain ⟨hb, hb'⟩ := bounds_u8 w1
  obtain ⟨hc, hc'⟩ := bounds_u8 w2
  have hcc : CC a2 := CC.mk' hc (by omega)
  have hT := NamesAt.of_laid hL
  obtain ⟨f, hf⟩ : ∃ f, subC a2 a0 a1 0 = f := ⟨_, rfl⟩
  have hcf : CC f := by rw [← hf]; exact CC.sub hcc _ _ _
  obtain ⟨p1, p2, p8⟩ := subC_bits a2 a0 a1 0 hcc
  have p4 := subC_bit4 a2 a0 a1 0 hcc
  rw [hf] at p1 p2 p4 p8
  have q1 : hasRef f 1 = decide (a0 < a1) := by rw [p1, Bool.eq_iff_iff]; simp; omega
  have q4 : hasRef f 4 = (a0 == a1) := by rw [p4, Bool.eq_iff_iff]; simp; omega
  have q82 : (hasRef f 8 == hasRef f 2) = decide (sg a1 ≤ sg a0) := by
    rw [p8, p2]
    unfold outOf sg
    rw [Bool.eq_iff_iff, beq_iff_eq, Bool.eq_iff_iff]
    simp only [decide_eq_true_iff, Bool.or_eq_true]
    split <;> split <;> omega
  have s0 : sg a0 = if 127 < a0 then a0 - 256 else a0 := by unfold sg; split <;> split <;> omega
  have s1 : sg a1 = if 127 < a1 then a1 - 256 else a1 := by unfold sg; split <;> split <;> omega
  have e2 : holdsB 2 f = decide (a1 < a0) := by simp only [holdsB, evenB, q1, q4]; rw [Bool.eq_iff_iff]; simp; omega
  have e3 : holdsB 3 f = decide (a0 ≤ a1) := by simp only [holdsB, evenB, q1, q4]; rw [Bool.eq_iff_iff]; simp; omega
  have e4 : holdsB 4 f = decide (a1 ≤ a0) := by simp only [holdsB, evenB, q1]; rw [Bool.eq_iff_iff]; simp
  have e5 : holdsB 5 f = decide (a0 < a1) := by simp only [holdsB, evenB, q1]; rw [Bool.eq_iff_iff]; simp
  have e7 : holdsB 7 f = (a0 == a1) := by simp only [holdsB, evenB, q4]; rw [Bool.eq_iff_iff]; simp
  have e12 : holdsB 12 f = decide (sg a1 ≤ sg a0) := by simp only [holdsB, evenB, q82]; rw [Bool.eq_iff_iff]; simp
  have e13 : holdsB 13 f = decide (sg a0 < sg a1) := by simp only [holdsB, evenB, q82]; rw [Bool.eq_iff_iff]; simp
  have e14 : holdsB 14 f = decide (sg a1 < sg a0) := by
    simp only [holdsB, evenB, q4, q82]; rw [Bool.eq_iff_iff]; simp
    unfold sg; split <;> split <;> omega
  have e15 : holdsB 15 f = decide (sg a0 ≤ sg a1) := by
    simp only [holdsB, evenB, q4, q82]; rw [Bool.eq_iff_iff]; simp
    unfold sg; split <;> split <;> omega
  have HT := Lib.hid hT
  clear p1 p2 p4 p8 q1 q4 q82 hT
  rcases (show (127 < a0 ∧ sg a0 = a0 - 256) ∨ (a0 ≤ 127 ∧ sg a0 = a0) from by rw [s0]; split <;> omega) with ⟨g0, hx⟩ | ⟨g0, hx⟩
  -- heartbeats 6000000
  all_goals rcases (show (127 < a1 ∧ sg a1 = a1 - 256) ∨ (a1 ≤ 127 ∧ sg a1 = a1) from by rw [s1]; split <;> omega) with ⟨g1, hy⟩ | ⟨g1, hy⟩
  all_goals
    rw [hx, hy] at e12 e13 e14 e15
    clear hx hy s0 s1
    go_enter Tryd.func5, Tryd.ntmps5
    go_wp2_with (first
      | (go_at_call 13; refine (cmp_any _ _ _ _ ha (by omega) hb (by omega) hcc).mono ?_; rintro e W1 ⟨rfl, hb1⟩)
      | (go_at_call 6; refine (holds_at _ _ _ (by omega) (by omega) hcf).mono ?_; rintro e W2 ⟨rfl, hb2⟩)
      | (go_at_call 9; refine (alive12 _ (HT.out.below (by repeat (first | assumption | exact Below.refl _ _ | refine Below.trans0 ?_ (by assumption))))).mono ?_; rintro e W3 ⟨rfl, hb3⟩))
    go_ret
    exact ⟨rfl, by repeat (first | assumption | exact Below.refl _ _ | refine Below.trans0 ?_ (by assumption))⟩

theorem door_met (os : Os) (args : Array Value) : laidMetH Tryd.prog Rows.condOrdersRow.laid ((World.doorLaid Tryd.prog 14 os).forCall (fun _ _ => 0) ⟨#[], args, []⟩).memory :=
  laidMetH_of_parts3 (fuel := 8) (laidMet_of_run' 8 (by kernel_rfl) (by kernel_rfl)) (by kernel_rfl) (by kernel_rfl)

set_option maxRecDepth 100000 in
theorem lifted (os : Os) (started : os.Started) (H : Type) (enc : TypeId × Value → H) :
    ReturnsInHanded {} Tryd.checked os 5 .any (fun w args => (Rows.condOrdersSpec.pre enc Tryd.prog Tryd.f5 Rows.condOrdersRow.domain false w args ∧ laidMetH Tryd.prog Rows.condOrdersRow.laid w) ∧ sizedMet enc Tryd.prog Tryd.f5 (OpenSpec.ofChange Rows.condOrdersSpec) false w args) (Rows.condOrdersSpec.post enc Tryd.prog Tryd.f5 false true false false) := by
  refine returnsInHanded_of_change_and (C := Tryd.checked) (X := fun w _ => laidMetH Tryd.prog Rows.condOrdersRow.laid w) (fun _ _ _ hh h => h.of_heap hh) own started (by kernel_rfl) Tryd.func5
    (ChangeSpec.witness_shaped (enc := enc) (C := Tryd.checked) (os := os) (X := fun w _ => laidMetH Tryd.prog Rows.condOrdersRow.laid w) false (World.doorLaid Tryd.prog 14 os) #[.int .u8 0, .int .u8 0, .int .u8 0] 8 rfl (World.shaped_of_RefB (by kernel_rfl) (by kernel_rfl)) (by kernel_rfl) (by kernel_rfl) (by kernel_rfl) (door_met os _)) ?_
  intro W base args ds gs before hval0 hW _ _ hL _
  have hval : ∀ (j : Nat) t v, Tryd.f5.params[j]? = some t → args[j]? = some v → Value.okWide Tryd.prog W .any base t v := hval0
  have hW' := hW
  obtain ⟨p, q, hA0, hV, rfl, hfz, hnd⟩ := hW
  have hA : DataW.TrodAll enc Tryd.prog W 0 (fun _ => true) true Tryd.f5.params.toList args.toList ds p := hA0
  rw [Tryd.params5] at hA hval
  obtain ⟨v0, vs0, d0, ds0, p0, q0, hargs, rfl, rfl, h0, r0⟩ := trodAll_cons hA
  obtain ⟨v1, vs1, d1, ds1, p1, q1, rfl, rfl, rfl, h1, r1⟩ := trodAll_cons r0
  obtain ⟨v2, vs2, d2, ds2, p2, q2, rfl, rfl, rfl, h2, r2⟩ := trodAll_cons r1
  obtain ⟨rfl, rfl, rfl⟩ := trodAll_nil r2
  obtain rfl : args = #[v0, v1, v2] := by cases args; simp_all
  obtain ⟨rfl, rfl⟩ := trodVars_none hV
  obtain ⟨a0, rfl, rfl, rfl, w0⟩ := open_int Tryd.underlying5 (hval 0 5 v0 rfl rfl) h0
  obtain ⟨a1, rfl, rfl, rfl, w1⟩ := open_int Tryd.underlying5 (hval 1 5 v1 rfl rfl) h1
  obtain ⟨a2, rfl, rfl, rfl, w2⟩ := open_int Tryd.underlying5 (hval 2 5 v2 rfl rfl) h2
  clear hA0 hval0
  refine (walk a0 a1 a2 w0 w1 w2 W hL).mono fun e W' ⟨he, bel⟩ => ?_
  subst he
  exact ⟨_, rfl, _, _, _, [], _, [], hW', trodAll_mk1 (shut_bool Tryd.underlying4 _), (trodAll_cons_mk (shut_int Tryd.underlying5 w0) (trodAll_cons_mk (shut_int Tryd.underlying5 w1) (trodAll_cons_mk (shut_int Tryd.underlying5 w2) trodAll_mk0))), rfl, bel.frame _, fun h => by cases h⟩

theorem over : Rows.condOrdersRow.holds Tryd.pinned (OpenSpec.ofChange Rows.condOrdersSpec) :=
  OpenClaim.holds_of_wide 5 Tryd.f5 rfl rfl rfl rfl rfl rfl rfl ⟨rfl, rfl, rfl, rfl, rfl⟩ rfl rfl rfl rfl rfl (by kernel_rfl) Tryd.func5 (by kernel_rfl)
    (of_decide_eq_true (by kernel_rfl)) (by unfold Func.isWrapper; first | (rw [if_pos (by decide +kernel)]; kernel_rfl) | (rw [if_neg (by decide +kernel)]; exact ⟨rfl, rfl⟩))
    (fun os started H enc _ => lifted os started H enc)

theorem proved : Rows.CondOrdersCardSaid :=
  Claim7.holds_tied_plain_at .later [] [.data] true (true, "ae6ca9fe52bd66716d316738852dc5a81738dc9f81019463abe36bb5ed0d6551") false
    over (fun _ h => by cases h) (by kernel_rfl) (fun _ h => by cases h) condOrders_row_tie rfl ⟨rfl, rfl⟩ (by kernel_rfl) rfl
    (fun f fn hf hfn => by
      obtain rfl : f = 5 := Option.some.inj ((show Tryd.prog.funcNamed "spinet/spinetlaw12.CondOrders" = some 5 by kernel_rfl).symm.trans hf) |>.symm
      obtain rfl : fn = Tryd.f5 := (Option.some.inj (Tryd.func5.symm.trans hfn)).symm
      exact ⟨by kernel_rfl, fun j t ht => by
        rw [Tryd.params5] at ht
        have hm : t ∈ [5] := by have := Array.mem_of_getElem? ht; simp at this ⊢; omega
        have hall : ([5].all fun u => !Tryd.prog.wantsStandIn u) = true := by kernel_rfl
        exact (show Tryd.prog.wantsStandIn t = false by simpa using List.all_eq_true.1 hall t hm)⟩)
    (by kernel_rfl)
#print axioms proved
end Go.Proofs.YtdkghfapmoikdabDoor.condOrders
