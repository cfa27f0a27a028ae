/- The law DecimalSums answers true for every input, and each argument reads afterwards as it read before. Conditions: none. -/
import Derived.Test.YtdkghfapmoikdabRows
import Derived.WalkKit
import Derived.ProofKit
import Derived.OpenShut
import Derived.ShutString
import Derived.ChangeOld
import Derived.Below
import Derived.Test.YtdkghfapmoikdabDSum
namespace Go.Proofs.Ytdkghfapmoikdab.decimalSums
open Go.ChangeShapes Go.WideShapes Go.ChangeAt Go.RowKit
open Go.ChangeMaps (open_string shut_string)
set_option linter.unusedVariables false      -- a walk need not use every 'w<i>' (that an integer argument fits its kind)

theorem own : ownKnob Try.prog.godebug = none := by kernel_rfl

set_option maxRecDepth 100000 in
set_option maxHeartbeats 1000000 in
theorem walk (a0 : Int) (a1 : Int) (a2 : Int) (w0 : (Lit.int .i64 a0).wf = true) (w1 : (Lit.int .i64 a1).wf = true) (w2 : (Lit.int .u8 a2).wf = true) (w : World) :
    Calls Try.prog 4 #[.int .i64 a0, .int .i64 a1, .int .u8 a2] w fun e w' => e = .returned (.bool true) ∧ Below w.heap.size w w' := by
  obtain ⟨hc, hc'⟩ := bounds_u8 w2
  have hcc : CC a2 := CC.mk' hc (by omega)
  by_cases h1 : a0 < 0
  · go_enter Try.func4, Try.ntmps4
    go_wp2
    go_ret
    exact ⟨rfl, Below.refl _ _⟩
  by_cases h2 : 99 < a0
  · go_enter Try.func4, Try.ntmps4
    go_wp2
    go_ret
    exact ⟨rfl, Below.refl _ _⟩
  by_cases h3 : a1 < 0
  · go_enter Try.func4, Try.ntmps4
    go_wp2
    go_ret
    exact ⟨rfl, Below.refl _ _⟩
  by_cases h4 : 99 < a1
  · go_enter Try.func4, Try.ntmps4
    go_wp2
    go_ret
    exact ⟨rfl, Below.refl _ _⟩
  obtain ⟨d1, d2⟩ := dec_two a0 a1 (a2 % 2) (by omega) (by omega) (by omega) (by omega) (by omega) (by omega)
  have r1 := daaR_dec a2 (twoOf a0) (twoOf a1) (a2 % 2) hcc
  have r2 := decK_bit a2 (twoOf a0) (twoOf a1) (a2 % 2) hcc
  have t0 : Hid (a0 / 10 * 16 + a0 % 10 = twoOf a0) := Lib.hid rfl
  have t1 : Hid (a1 / 10 * 16 + a1 % 10 = twoOf a1) := Lib.hid rfl
  obtain ⟨b0, b1⟩ : 0 ≤ twoOf a0 ∧ twoOf a0 < 256 := by unfold twoOf; omega
  obtain ⟨b2, b3⟩ : 0 ≤ twoOf a1 ∧ twoOf a1 < 256 := by unfold twoOf; omega
  have cadd := CC.add hcc (twoOf a0) (twoOf a1) (a2 % 2)
  have cdec := CC.dec' hcc (twoOf a0) (twoOf a1) (a2 % 2)
  obtain ⟨k0, k1⟩ := cdec
  have e1 : (decD (twoOf a0) (twoOf a1) (a2 % 2) == (a0 + a1 + a2 % 2) % 100 / 10 * 16 + (a0 + a1 + a2 % 2) % 10) = true := by rw [d1, beq_iff_eq]; unfold twoOf; omega
  have e2 : (decK a2 (twoOf a0) (twoOf a1) (a2 % 2) % 2 == (a0 + a1 + a2 % 2) / 100) = true := by rw [r2.2, d2]; simp
  have R1 := Lib.hid r1
  have K1 : Hid (daaC (addC a2 (twoOf a0) (twoOf a1) (a2 % 2)) (decR (twoOf a0) (twoOf a1) (a2 % 2)) = decK a2 (twoOf a0) (twoOf a1) (a2 % 2)) := Lib.hid rfl
  have D1 : Hid ((twoOf a0 + twoOf a1 + a2 % 2) % 256 = decR (twoOf a0) (twoOf a1) (a2 % 2)) := Lib.hid rfl
  obtain ⟨g0, g1⟩ : 0 ≤ decR (twoOf a0) (twoOf a1) (a2 % 2) ∧ decR (twoOf a0) (twoOf a1) (a2 % 2) < 256 := by unfold decR; omega
  clear d1 d2 r1 r2
  go_enter Try.func4, Try.ntmps4
  go_wp2_with fail
  refine (two_any _ _ (by omega) (by omega)).mono ?_
  rintro e w' ⟨rfl, rfl⟩
  rw [t0.out]
  go_wp2_with fail
  refine (two_any _ _ (by omega) (by omega)).mono ?_
  rintro e w' ⟨rfl, rfl⟩
  rw [t1.out]
  go_wp2_with fail
  refine (adc_any _ _ _ _ (by omega) (by omega) (by omega) (by omega) hcc).mono ?_
  rintro e w1 ⟨rfl, hb1⟩
  rw [D1.out]
  go_wp2_with fail
  refine (daa_any _ _ _ (by omega) (by omega) cadd).mono ?_
  rintro e w2 ⟨rfl, hb2⟩
  rw [R1.out, K1.out]
  go_wp2_with fail
  refine (two_any _ _ (by omega) (by omega)).mono ?_
  rintro e w' ⟨rfl, rfl⟩
  go_wp2_with (go_at_call 13; refine (alive09 _).mono ?_; rintro e w3 ⟨rfl, hb3⟩)
  go_ret
  exact ⟨rfl, Below.trans0 (Below.trans0 hb1 hb2) hb3⟩

set_option maxRecDepth 100000 in
theorem lifted (os : Os) (started : os.Started) (H : Type) (enc : TypeId × Value → H) :
    ReturnsInHanded {} Try.checked os 4 .any (Rows.decimalSumsSpec.pre6 enc Try.prog Try.f4 Rows.decimalSumsRow.domain false) (Rows.decimalSumsSpec.post enc Try.prog Try.f4 false true false false) := by
  refine returnsInHanded_of_change (C := Try.checked) own started (by kernel_rfl) Try.func4
    (ChangeSpec.witness6 (enc := enc) (C := Try.checked) false ⟨#[], #[.int .i64 0, .int .i64 0, .int .u8 0], []⟩ 8 (by kernel_rfl) (by kernel_rfl) (by kernel_rfl) (by kernel_rfl)) ?_
  intro W base args ds gs before hval0 hW hcnd _
  have hval : ∀ (j : Nat) t v, Try.f4.params[j]? = some t → args[j]? = some v → Value.okWide Try.prog W .any base t v := hval0
  have hW' := hW
  obtain ⟨p, q, hA0, hV, rfl, hfz, hnd⟩ := hW
  have hA : DataW.TrodAll enc Try.prog W 0 (fun _ => true) true Try.f4.params.toList args.toList ds p := hA0
  rw [Try.params4] at hA hval
  obtain ⟨v0, vs0, d0, ds0, p0, q0, hargs, rfl, rfl, h0, r0⟩ := trodAll_cons hA
  obtain ⟨v1, vs1, d1, ds1, p1, q1, rfl, rfl, rfl, h1, r1⟩ := trodAll_cons r0
  obtain ⟨v2, vs2, d2, ds2, p2, q2, rfl, rfl, rfl, h2, r2⟩ := trodAll_cons r1
  obtain ⟨rfl, rfl, rfl⟩ := trodAll_nil r2
  obtain rfl : args = #[v0, v1, v2] := by cases args; simp_all
  obtain ⟨rfl, rfl⟩ := trodVars_none hV
  obtain ⟨a0, rfl, rfl, rfl, w0⟩ := open_int Try.underlying3 (hval 0 3 v0 rfl rfl) h0
  obtain ⟨a1, rfl, rfl, rfl, w1⟩ := open_int Try.underlying3 (hval 1 3 v1 rfl rfl) h1
  obtain ⟨a2, rfl, rfl, rfl, w2⟩ := open_int Try.underlying5 (hval 2 5 v2 rfl rfl) h2
  clear hA0 hval0
  refine (walk a0 a1 a2 w0 w1 w2 W).mono fun e W' ⟨he, bel⟩ => ?_
  subst he
  exact ⟨_, rfl, _, _, _, [], _, [], hW', trodAll_mk1 (shut_bool Try.underlying4 _), (trodAll_cons_mk (shut_int Try.underlying3 w0) (trodAll_cons_mk (shut_int Try.underlying3 w1) (trodAll_cons_mk (shut_int Try.underlying5 w2) trodAll_mk0))), rfl, bel.frame _, fun h => by cases h⟩

theorem over : Rows.decimalSumsRow.holds Try.pinned (OpenSpec.ofChange Rows.decimalSumsSpec) :=
  OpenClaim.holds_of_wide 4 Try.f4 rfl rfl rfl rfl rfl rfl rfl ⟨rfl, rfl, rfl, rfl, rfl⟩ rfl rfl rfl rfl rfl (by kernel_rfl) Try.func4 (by kernel_rfl)
    (of_decide_eq_true (by kernel_rfl)) (by unfold Func.isWrapper; first | (rw [if_pos (by decide +kernel)]; kernel_rfl) | (rw [if_neg (by decide +kernel)]; exact ⟨rfl, rfl⟩))
    (fun os started H enc _ => lifted os started H enc)

theorem proved : Rows.DecimalSumsSaid :=
  over
#print axioms proved
end Go.Proofs.Ytdkghfapmoikdab.decimalSums
