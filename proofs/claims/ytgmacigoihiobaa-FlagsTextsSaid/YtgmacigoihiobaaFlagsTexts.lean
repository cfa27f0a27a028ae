/- The law FlagsTexts answers true for every input, and each argument reads afterwards as it read before. Conditions: none. -/
import Derived.Test.YtgmacigoihiobaaRows
import Derived.WalkKit
import Derived.ProofKit
import Derived.OpenShut
import Derived.ShutString
import Derived.ChangeOld
import Derived.Below
import Derived.Test.YtgmacigoihiobaaFlgRead
import Derived.Outline
namespace Go.Proofs.Ytgmacigoihiobaa.flagsTexts
open Go.ChangeShapes Go.WideShapes Go.ChangeAt Go.RowKit
open Go.ChangeMaps (open_string shut_string)
set_option linter.unusedVariables false      -- a walk need not use every 'w<i>' (that an integer argument fits its kind)

theorem own : ownKnob Try.prog.godebug = none := by kernel_rfl

set_option maxRecDepth 100000 in
set_option maxHeartbeats 1000000 in
theorem walk (a0 : Int) (a1 : ByteArray) (w0 : (Lit.int .u8 a0).wf = true) (w1 : a1.size ≤ maxLen) (w : World) :
    Calls Try.prog 11 #[.int .u8 a0, .string a1] w fun e w' => e = .returned (.bool true) ∧ Below w.heap.size w w' := by
  obtain ⟨ha, ha'⟩ := bounds_u8 w0
  by_cases h20 : a1.size ≤ 20
  · obtain ⟨r1, r2⟩ := read_cc a0 ha (by omega)
    have e1 : (readV (strOfNums (ccText a0)) != a0) = false := by rw [r1]; simp
    have e2 : (readE (strOfNums (ccText a0)) != 0) = false := by rw [r2]; simp
    have hsz : (strOfNums (ccText a0)).size ≤ maxLen := by rw [strOfNums_size]; simp [ccText, maxLen]
    clear r1 r2
    go_enter Try.func11, Try.ntmps11
    go_wp2_with (first
      | (go_at_call 43; refine (text_any _ _ (by omega) (by omega)).mono ?_; rintro e W1 ⟨rfl, hb1⟩)
      | (go_at_call 44; refine (read_any _ _ hsz).mono ?_; rintro e W2 ⟨rfl, hb2⟩; clear hsz)
      | (go_at_call 45; refine (refText_any _ _ (by omega) (by omega)).mono ?_; rintro e W3 ⟨rfl, rfl⟩)
      | (go_at_call 44; refine (read_any _ _ w1).mono ?_; rintro e W4 ⟨rfl, hb4⟩))
    have hz := hb1.size
    go_loop [10] (fun i => ∃ k : Nat, k ≤ 256 ∧ i = .int .i64 k ∧ Missed a1 k) (fun i => 256 - (intOf i).toNat)
    case atStart => exact ⟨0, Nat.zero_le _, rfl, fun c hc => absurd hc (by omega)⟩
    case round =>
      obtain ⟨k, hk, rfl, hmiss⟩ := hrel
      have HM := Lib.hid hmiss
      clear hmiss
      by_cases hlt : k < 256
      · have hbq := toList_beq (ccText k) a1 (ccText_range k)
        by_cases hm : ccText (k : Int) = nums a1
        · have ht : ((strOfNums (ccText k)).toList == a1.toList) = true := by rw [hbq, hm]; simp
          obtain ⟨g1, g2⟩ := read_hit a1 k hlt hm
          have e3 : (readV a1 == (k : Int)) = true := by rw [g1]; simp
          have e4 : (readE a1 == 0) = true := by rw [g2]; rfl
          have b1 : 0 ≤ readV a1 := by omega
          have b2 : readV a1 < 256 := by omega
          clear hbq hm g1 g2
          go_wp2_with (first
            | (go_at_call 45; refine (refText_any _ _ (by omega) (by omega)).mono ?_; rintro e W3 ⟨rfl, rfl⟩)
            | (go_at_call 39; refine (alive03 _).mono ?_; rintro e W5 ⟨rfl, hb5⟩))
          go_ret
          exact ⟨rfl, ((hb1.trans (hb2.mono hz)).trans (hb4.mono (Nat.le_trans hz hb2.size))).trans (hb5.mono (Nat.le_trans hz (Nat.le_trans hb2.size hb4.size)))⟩
        · have ht : ((strOfNums (ccText k)).toList == a1.toList) = false := by rw [hbq]; simpa using hm
          have HN := Lib.hid (missed_next HM.out hm)
          clear hbq hm
          go_wp2_with (go_at_call 45; refine (refText_any _ _ (by omega) (by omega)).mono ?_; rintro e W3 ⟨rfl, rfl⟩)
          go_round
          case rel => exact ⟨k + 1, by omega, by go_num, HN.out⟩
          case measure => simp [intOf]; omega
      · obtain rfl : k = 256 := by omega
        obtain ⟨g1, g2⟩ := read_miss a1 HM.out
        have e3 : (readV a1 == 0) = true := by rw [g1]; rfl
        have e4 : (readE a1 == 21) = true := by rw [g2]; rfl
        clear g1 g2
        go_wp2_with (go_at_call 39; refine (alive03 _).mono ?_; rintro e W5 ⟨rfl, hb5⟩)
        go_ret
        exact ⟨rfl, ((hb1.trans (hb2.mono hz)).trans (hb4.mono (Nat.le_trans hz hb2.size))).trans (hb5.mono (Nat.le_trans hz (Nat.le_trans hb2.size hb4.size)))⟩
  · go_enter Try.func11, Try.ntmps11
    go_wp2
    go_ret
    exact ⟨rfl, Below.refl _ _⟩

set_option maxRecDepth 100000 in
theorem lifted (os : Os) (started : os.Started) (H : Type) (enc : TypeId × Value → H) :
    ReturnsInHanded {} Try.checked os 11 .any (Rows.flagsTextsSpec.pre6 enc Try.prog Try.f11 Rows.flagsTextsRow.domain false) (Rows.flagsTextsSpec.post enc Try.prog Try.f11 false true false false) := by
  refine returnsInHanded_of_change (C := Try.checked) own started (by kernel_rfl) Try.func11
    (ChangeSpec.witness6 (enc := enc) (C := Try.checked) false ⟨#[], #[.int .u8 0, .string ByteArray.empty], []⟩ 8 (by kernel_rfl) (by kernel_rfl) (by kernel_rfl) (by kernel_rfl)) ?_
  intro W base args ds gs before hval0 hW hcnd _
  have hval : ∀ (j : Nat) t v, Try.f11.params[j]? = some t → args[j]? = some v → Value.okWide Try.prog W .any base t v := hval0
  have hW' := hW
  obtain ⟨p, q, hA0, hV, rfl, hfz, hnd⟩ := hW
  have hA : DataW.TrodAll enc Try.prog W 0 (fun _ => true) true Try.f11.params.toList args.toList ds p := hA0
  rw [Try.params11] at hA hval
  obtain ⟨v0, vs0, d0, ds0, p0, q0, hargs, rfl, rfl, h0, r0⟩ := trodAll_cons hA
  obtain ⟨v1, vs1, d1, ds1, p1, q1, rfl, rfl, rfl, h1, r1⟩ := trodAll_cons r0
  obtain ⟨rfl, rfl, rfl⟩ := trodAll_nil r1
  obtain rfl : args = #[v0, v1] := by cases args; simp_all
  obtain ⟨rfl, rfl⟩ := trodVars_none hV
  obtain ⟨a0, rfl, rfl, rfl, w0⟩ := open_int Try.underlying5 (hval 0 5 v0 rfl rfl) h0
  obtain ⟨a1, rfl, rfl, rfl, w1⟩ := open_string Try.underlying9 (hval 1 9 v1 rfl rfl) h1
  clear hA0 hval0
  refine (walk a0 a1 w0 w1 W).mono fun e W' ⟨he, bel⟩ => ?_
  subst he
  exact ⟨_, rfl, _, _, _, [], _, [], hW', trodAll_mk1 (shut_bool Try.underlying4 _), (trodAll_cons_mk (shut_int Try.underlying5 w0) (trodAll_cons_mk (shut_string Try.underlying9 w1) trodAll_mk0)), rfl, bel.frame _, fun h => by cases h⟩

theorem over : Rows.flagsTextsRow.holds Try.pinned (OpenSpec.ofChange Rows.flagsTextsSpec) :=
  OpenClaim.holds_of_wide 11 Try.f11 rfl rfl rfl rfl rfl rfl rfl ⟨rfl, rfl, rfl, rfl, rfl⟩ rfl rfl rfl rfl rfl (by kernel_rfl) Try.func11 (by kernel_rfl)
    (of_decide_eq_true (by kernel_rfl)) (by unfold Func.isWrapper; first | (rw [if_pos (by decide +kernel)]; kernel_rfl) | (rw [if_neg (by decide +kernel)]; exact ⟨rfl, rfl⟩))
    (fun os started H enc _ => lifted os started H enc)

theorem proved : Rows.FlagsTextsSaid :=
  over
#print axioms proved
end Go.Proofs.Ytgmacigoihiobaa.flagsTexts
