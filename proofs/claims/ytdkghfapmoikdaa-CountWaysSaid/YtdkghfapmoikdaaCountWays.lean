/- The law CountWays answers true for every input, and each argument reads afterwards as it read before. Conditions: none. -/
import Derived.Test.YtdkghfapmoikdaaRows
import Derived.WalkKit
import Derived.ProofKit
import Derived.OpenShut
import Derived.ShutString
import Derived.ChangeOld
import Derived.Below
import Derived.Test.YtdkghfapmoikdaaCnt
import Derived.Outline
namespace Go.Proofs.Ytdkghfapmoikdaa.countWays
open Go.ChangeShapes Go.WideShapes Go.ChangeAt Go.RowKit
open Go.ChangeMaps (open_string shut_string)
set_option linter.unusedVariables false      -- a walk need not use every 'w<i>' (that an integer argument fits its kind)

theorem own : ownKnob Try.prog.godebug = none := by kernel_rfl

set_option maxRecDepth 100000 in
set_option maxHeartbeats 1000000 in
theorem walk (a0 : Int) (a1 : Int) (a2 : Int) (w0 : (Lit.int .u8 a0).wf = true) (w1 : (Lit.int .u8 a1).wf = true) (w2 : (Lit.int .i64 a2).wf = true) (w : World) :
    Calls Try.prog 14 #[.int .u8 a0, .int .u8 a1, .int .i64 a2] w fun e w' => e = .returned (.bool true) ∧ Below w.heap.size w w' := by
  obtain ⟨ha, ha'⟩ := bounds_u8 w0
  obtain ⟨hc, hc'⟩ := bounds_u8 w1
  have hcc : CC a1 := CC.mk' hc (by omega)
  by_cases h0 : a2 < 0
  · go_enter Try.func14, Try.ntmps14
    go_wp2
    go_ret
    exact ⟨rfl, Below.refl _ _⟩
  by_cases h1 : 300 < a2
  · go_enter Try.func14, Try.ntmps14
    go_wp2
    go_ret
    exact ⟨rfl, Below.refl _ _⟩
  obtain ⟨n, rfl⟩ := Int.eq_ofNat_of_zero_le (show 0 ≤ a2 by omega)
  go_enter Try.func14, Try.ntmps14
  go_wp2
  go_loopw [7, 8, 9] (fun x f i wr => ∃ (k : Nat) (cf : Int), k ≤ n ∧ i = .int .i64 k ∧ x = .int .u8 ((a0 + k) % 256) ∧ f = .int .u8 cf ∧ CC cf ∧ Hid (cf % 2 = a1 % 2) ∧ Below w.heap.size w wr) (fun _ _ i _ => n - (intOf i).toNat)
  case atStart => exact ⟨0, a1, Nat.zero_le _, rfl, vint (by omega), rfl, hcc, Lib.hid rfl, Below.refl _ _⟩
  case round =>
    obtain ⟨k, cf, hk, rfl, rfl, rfl, hcf, hlo, hbel⟩ := hrel
    by_cases hlt : k < n
    · have HL := Lib.hid (incC_low cf ((a0 + k) % 256) hcf)
      have hci := CC.inc hcf ((a0 + k) % 256)
      by_cases h9 : ((k : Int) + 1) % 256 = 0
      all_goals
        first
          | have e1 : ((a0 + (k : Int) + 1) % 256 == a0) = true := by rw [beq_iff_eq]; omega
          | have e1 : ((a0 + (k : Int) + 1) % 256 == a0) = false := by rw [beq_eq_false_iff_ne]; omega
        first
          | have e2 : (((k : Int) + 1) % 256 == 0) = true := by rw [beq_iff_eq]; omega
          | have e2 : (((k : Int) + 1) % 256 == 0) = false := by rw [beq_eq_false_iff_ne]; omega
        clear h9
        go_wp2_with (go_at_call 46; refine (inc_any _ _ _ (by omega) (by omega) hcf).mono ?_; rintro e w1 ⟨rfl, hb1⟩)
        go_roundw
        case rel => exact ⟨k + 1, _, by omega, by go_num, vint (by omega), rfl, hci, Lib.hid (by rw [HL.out, hlo.out]), Below.trans0 hbel hb1⟩
        case measure => simp [intOf]; omega
    · obtain rfl : k = n := by omega
      obtain ⟨wo, rfl⟩ : ∃ wo : World, wo = wr := ⟨_, rfl⟩
      obtain ⟨n, rfl⟩ : ∃ n : Nat, n = k := ⟨_, rfl⟩
      clear hlt hk
      go_wp2
      go_loopw [7, 8, 10] (fun x f i wr => ∃ (k : Nat) (cf : Int), k ≤ n ∧ i = .int .i64 k ∧ x = .int .u8 ((a0 + n - k) % 256) ∧ f = .int .u8 cf ∧ CC cf ∧ Hid (cf % 2 = a1 % 2) ∧ Below w.heap.size w wr) (fun _ _ i _ => n - (intOf i).toNat)
      case atStart => exact ⟨0, cf, Nat.zero_le _, rfl, vint (by omega), rfl, hcf, hlo, hbel⟩
      case round =>
        clear hcf hlo hbel
        obtain ⟨k, cg, hk, rfl, rfl, rfl, hcf, hlo, hbel⟩ := hrel
        by_cases hlt : k < n
        · have HL := Lib.hid (decC_low cg ((a0 + n - k) % 256) hcf)
          have hci := CC.dec hcf ((a0 + n - k) % 256)
          go_wp2_with (go_at_call 47; refine (dec_any _ _ _ (by omega) (by omega) hcf).mono ?_; rintro e w1 ⟨rfl, hb1⟩)
          go_roundw
          case rel => exact ⟨k + 1, _, by omega, by go_num, vint (by omega), rfl, hci, Lib.hid (by rw [HL.out, hlo.out]), Below.trans0 hbel hb1⟩
          case measure => simp [intOf]; omega
        · obtain rfl : k = n := by omega
          have e1 : ((a0 + (k : Int) - k) % 256 == a0) = true := by rw [beq_iff_eq]; omega
          have e1' : (a0 % 256 == a0) = true := by rw [beq_iff_eq]; omega
          have e2 : (cg % 2 == a1 % 2) = true := by rw [hlo.out]; simp
          obtain ⟨c0, c1⟩ := hcf
          go_wp2_with (go_at_call 49; refine (alive08 _).mono ?_; rintro e w5 ⟨rfl, hb5⟩)
          go_ret
          exact ⟨rfl, Below.trans0 hbel hb5⟩

set_option maxRecDepth 100000 in
theorem lifted (os : Os) (started : os.Started) (H : Type) (enc : TypeId × Value → H) :
    ReturnsInHanded {} Try.checked os 14 .any (Rows.countWaysSpec.pre6 enc Try.prog Try.f14 Rows.countWaysRow.domain false) (Rows.countWaysSpec.post enc Try.prog Try.f14 false true false false) := by
  refine returnsInHanded_of_change (C := Try.checked) own started (by kernel_rfl) Try.func14
    (ChangeSpec.witness6 (enc := enc) (C := Try.checked) false ⟨#[], #[.int .u8 0, .int .u8 0, .int .i64 0], []⟩ 8 (by kernel_rfl) (by kernel_rfl) (by kernel_rfl) (by kernel_rfl)) ?_
  intro W base args ds gs before hval0 hW hcnd _
  have hval : ∀ (j : Nat) t v, Try.f14.params[j]? = some t → args[j]? = some v → Value.okWide Try.prog W .any base t v := hval0
  have hW' := hW
  obtain ⟨p, q, hA0, hV, rfl, hfz, hnd⟩ := hW
  have hA : DataW.TrodAll enc Try.prog W 0 (fun _ => true) true Try.f14.params.toList args.toList ds p := hA0
  rw [Try.params14] at hA hval
  obtain ⟨v0, vs0, d0, ds0, p0, q0, hargs, rfl, rfl, h0, r0⟩ := trodAll_cons hA
  obtain ⟨v1, vs1, d1, ds1, p1, q1, rfl, rfl, rfl, h1, r1⟩ := trodAll_cons r0
  obtain ⟨v2, vs2, d2, ds2, p2, q2, rfl, rfl, rfl, h2, r2⟩ := trodAll_cons r1
  obtain ⟨rfl, rfl, rfl⟩ := trodAll_nil r2
  obtain rfl : args = #[v0, v1, v2] := by cases args; simp_all
  obtain ⟨rfl, rfl⟩ := trodVars_none hV
  obtain ⟨a0, rfl, rfl, rfl, w0⟩ := open_int Try.underlying5 (hval 0 5 v0 rfl rfl) h0
  obtain ⟨a1, rfl, rfl, rfl, w1⟩ := open_int Try.underlying5 (hval 1 5 v1 rfl rfl) h1
  obtain ⟨a2, rfl, rfl, rfl, w2⟩ := open_int Try.underlying3 (hval 2 3 v2 rfl rfl) h2
  clear hA0 hval0
  refine (walk a0 a1 a2 w0 w1 w2 W).mono fun e W' ⟨he, bel⟩ => ?_
  subst he
  exact ⟨_, rfl, _, _, _, [], _, [], hW', trodAll_mk1 (shut_bool Try.underlying4 _), (trodAll_cons_mk (shut_int Try.underlying5 w0) (trodAll_cons_mk (shut_int Try.underlying5 w1) (trodAll_cons_mk (shut_int Try.underlying3 w2) trodAll_mk0))), rfl, bel.frame _, fun h => by cases h⟩

theorem over : Rows.countWaysRow.holds Try.pinned (OpenSpec.ofChange Rows.countWaysSpec) :=
  OpenClaim.holds_of_wide 14 Try.f14 rfl rfl rfl rfl rfl rfl rfl ⟨rfl, rfl, rfl, rfl, rfl⟩ rfl rfl rfl rfl rfl (by kernel_rfl) Try.func14 (by kernel_rfl)
    (of_decide_eq_true (by kernel_rfl)) (by unfold Func.isWrapper; first | (rw [if_pos (by decide +kernel)]; kernel_rfl) | (rw [if_neg (by decide +kernel)]; exact ⟨rfl, rfl⟩))
    (fun os started H enc _ => lifted os started H enc)

theorem proved : Rows.CountWaysSaid :=
  over
#print axioms proved
end Go.Proofs.Ytdkghfapmoikdaa.countWays
