/- The law ArbiterShares answers true for every input, and each argument reads afterwards as it read before. Conditions: none. -/
import Derived.Test.YtoogaenknjdpcabRows
import Derived.WalkKit
import Derived.ProofKit
import Derived.OpenShut
import Derived.ShutString
import Derived.ChangeOld
import Derived.Below
import Derived.Test.YtoogaenknjdpcabArc
import Derived.Test.YtoogaenknjdpcabRep
import Derived.Deep.QuietTactic
import Derived.BigQuiet
namespace Go.Proofs.Ytoogaenknjdpcab.arbiterShares
open Go.ChangeShapes Go.WideShapes Go.ChangeAt Go.RowKit
open Go.ChangeMaps (open_string shut_string)
set_option linter.unusedVariables false

theorem own : ownKnob Try.prog.godebug = none := by kernel_rfl
theorem laidOut : laidOutB Try.prog = true := by kernel_rfl

set_option maxRecDepth 100000 in
set_option maxHeartbeats 1000000 in
theorem walk (a0 : Option Addr) (len0 cap0 : Nat) (z0 : List Bool) (a1 : Int) (w : World) (w0 : eB.In (fun _ => True) w a0 len0 cap0 z0) (w1 : (Lit.int .i64 a1).wf = true) :
    Calls Try.prog 3 #[.slice a0 len0 cap0, .int .i64 a1] w fun e w' => e = .returned (.bool true) ∧ Below w.heap.size w w' := by
  -- open 0 : List Bool | eB.In (fun _ => True) | open_bools
  obtain ⟨hr, hl, hm, -⟩ := w0
  have b1 := bounds_i64 w1
  by_cases h : len0 ≤ 200 ∧ 0 ≤ a1 ∧ a1 ≤ 200
  · obtain ⟨h1, h2, h3⟩ := h
    obtain ⟨n, rfl⟩ := Int.eq_ofNat_of_zero_le h2
    have hn : n ≤ 200 := by omega
    have CR := Lib.hid (fun w => repeat_one n hn w)
    have CT := Lib.hid (fun v w (h : eB.Rd w v (List.replicate n true)) => plan_any true v _ w h (by simp; omega))
    have CF := Lib.hid (fun v w (h : eB.Rd w v (List.replicate n true)) => plan_any false v _ w h (by simp; omega))
    have CQ := Lib.hid (fun w (h : eB.Rd w (.slice a0 len0 cap0) z0) => plan_any true _ z0 w h (by omega))
    have L1 := Lib.hid (show (arL true (List.replicate n true)).length = n by rw [arL_len]; simp)
    have L2 := Lib.hid (show (arL false (List.replicate n true)).length = n by rw [arL_len]; simp)
    have L3 := Lib.hid (show (arL true z0).length = len0 by rw [arL_len]; exact hl)
    have E1 := Lib.hid (fun k (h : k < n) => arL_one n k h)
    have E2 := Lib.hid (fun k (h : k < n) => arL_two n k h)
    have E3 := Lib.hid (fun k (h : k + 1 < len0) => arL_side z0 k (by omega))
    unfold kd at CT CF CQ
    simp only [if_true, Bool.false_eq_true, if_false] at CT CF CQ
    generalize arL true (List.replicate n true) = M1 at CT L1 E1
    generalize arL false (List.replicate n true) = M2 at CF L2 E2
    generalize arL true z0 = M3 at CQ L3 E3
    have HR := Lib.hid hr
    have n2 : (n : Int) ≤ 200 := by omega
    have n0 : ¬ ((n : Int) < 0) := by omega
    clear hr hl hm b1 w1 h3
    go_enter Try.func3, Try.ntmps3
    go_wp2_with fail
    refine (CR.out _).mono ?_
    rintro e w1 ⟨v1, rfl, hr, hb⟩
    have R1 := Lib.hid hr
    have B1 := Lib.hid hb
    clear hr hb
    go_wp2_with fail
    refine (CT.out _ _ R1.out).mono ?_
    rintro e w2 ⟨v2, rfl, hr, hb⟩
    have P2 := Lib.hid hr
    have B2 := Lib.hid (Below.trans0 B1.out hb)
    clear hr hb R1
    go_wp2_with fail
    refine (CR.out _).mono ?_
    rintro e w3 ⟨v3, rfl, hr, hb⟩
    have R3 := Lib.hid hr
    have P3 := Lib.hid (Els.Rd.below P2.out hb)
    have B3 := Lib.hid (Below.trans0 B2.out hb)
    clear hr hb
    go_wp2_with fail
    refine (CF.out _ _ R3.out).mono ?_
    rintro e w4 ⟨v4, rfl, hr, hb⟩
    have Q4 := Lib.hid hr
    have P4 := Lib.hid (Els.Rd.below P3.out hb)
    have B4 := Lib.hid (Below.trans0 B3.out hb)
    have HR4 := Lib.hid (Els.Rd.below HR.out (Below.mono B4.out (Nat.le_refl _)))
    clear hr hb R3 HR
    obtain ⟨A1, c1, rfl, hc1⟩ := Els.one_at (E := eI) (f := Value.int .i64) rfl (fun _ => rfl) P4.out
    obtain ⟨A2, c2, rfl, hc2⟩ := Els.one_at (E := eI) (f := Value.int .i64) rfl (fun _ => rfl) Q4.out
    rw [L1.out] at hc1
    rw [L2.out] at hc2
    have HC1 := Lib.hid hc1
    have HC2 := Lib.hid hc2
    have l1 : (M1.length : Int) = n := by rw [L1.out]
    have l2 : (M2.length : Int) = n := by rw [L2.out]
    have l1' : M1.length = n := L1.out
    have l2' : M2.length = n := L2.out
    have enn : ((n : Int) != (n : Int)) = false := by simp
    clear hc1 hc2
    go_wp2_with fail
    clear l1 l2 l1' l2'
    go_loop [7] (fun i => ∃ k : Nat, k ≤ n ∧ i = .int .i64 k) (fun i => n - (intOf i).toNat)
    case atStart => exact ⟨0, Nat.zero_le _, rfl⟩
    case round =>
      obtain ⟨k, hk, rfl⟩ := hrel
      by_cases hlt : k < n
      · obtain ⟨g1, f1, rfl, hg1, hx1⟩ := HC1.out (by omega)
        obtain ⟨g2, f2, rfl, hg2, hx2⟩ := HC2.out (by omega)
        have x1 := hx1 k _ (E1.out k hlt)
        have x2 := hx2 k _ (E2.out k hlt)
        unfold arWant at x1
        have hk0 : (0 : Int) ≤ k := by omega
        have hkn : (k : Int) < n := by omega
        clear hx1 hx2
        rcases (show k % 18 = 0 ∨ k % 18 = 16 ∨ k % 18 = 17 ∨ (k % 18 ≠ 0 ∧ k % 18 ≠ 16 ∧ k % 18 ≠ 17) by omega) with h0 | h0 | h0 | ⟨h0, h16, h17⟩
        · rw [if_pos (.inl h0)] at x1
          have e0 : ((k : Int) % 18 == 0) = true := by rw [beq_iff_eq]; omega
          have e17 : ((k : Int) % 18 == 17) = false := by rw [beq_eq_false_iff_ne]; omega
          clear h0
          go_wp2
          go_round
          case rel => exact ⟨k + 1, by omega, by go_num⟩
          case measure => simp [intOf]; omega
        · rw [if_pos (.inr h0)] at x1
          have e0 : ((k : Int) % 18 == 0) = false := by rw [beq_eq_false_iff_ne]; omega
          have e16 : ((k : Int) % 18 == 16) = true := by rw [beq_iff_eq]; omega
          have e17 : ((k : Int) % 18 == 17) = false := by rw [beq_eq_false_iff_ne]; omega
          clear h0
          go_wp2
          go_round
          case rel => exact ⟨k + 1, by omega, by go_num⟩
          case measure => simp [intOf]; omega
        · rw [if_neg (by omega), if_pos h0] at x1
          have e0 : ((k : Int) % 18 == 0) = false := by rw [beq_eq_false_iff_ne]; omega
          have e16 : ((k : Int) % 18 == 16) = false := by rw [beq_eq_false_iff_ne]; omega
          have e17 : ((k : Int) % 18 == 17) = true := by rw [beq_iff_eq]; omega
          clear h0
          go_wp2
          go_round
          case rel => exact ⟨k + 1, by omega, by go_num⟩
          case measure => simp [intOf]; omega
        · rw [if_neg (by omega), if_neg (by omega)] at x1
          have e0 : ((k : Int) % 18 == 0) = false := by rw [beq_eq_false_iff_ne]; omega
          have e16 : ((k : Int) % 18 == 16) = false := by rw [beq_eq_false_iff_ne]; omega
          have e17 : ((k : Int) % 18 == 17) = false := by rw [beq_eq_false_iff_ne]; omega
          clear h0 h16 h17
          go_wp2
          go_round
          case rel => exact ⟨k + 1, by omega, by go_num⟩
          case measure => simp [intOf]; omega
      · go_wp2_with fail
        refine (CQ.out _ HR4.out).mono ?_
        rintro e w5 ⟨v5, rfl, hr, hb⟩
        have B5 := Lib.hid (Below.trans0 B4.out hb)
        obtain ⟨A5, c5, rfl, hc5⟩ := Els.one_at (E := eI) (f := Value.int .i64) rfl (fun _ => rfl) hr
        rw [L3.out] at hc5
        have HC5 := Lib.hid hc5
        have l3 : M3.length = len0 := L3.out
        clear hr hb hc5
        go_wp2_with fail
        go_loopw [10] (fun i wr => ∃ k : Nat, i = .int .i64 (k + 1 : Nat) ∧ (k = 0 ∨ k + 1 ≤ len0) ∧ ∃ j, wr = w5.drewN j) (fun i _ => len0 - (intOf i).toNat)
        case atStart => exact ⟨0, rfl, .inl rfl, 0, rfl⟩
        case round =>
          obtain ⟨k, rfl, hk, j, rfl⟩ := hrel
          by_cases hlt : k + 1 < len0
          · obtain ⟨g5, f5, rfl, hg5, hx5⟩ := HC5.out (by omega)
            obtain ⟨x, y, ex, ey, ne, x0, x2, y0, y2⟩ := E3.out k hlt
            have cx := hx5 k x ex
            have cy := hx5 (k + 1) y ey
            have hk0 : (0 : Int) ≤ (k : Int) := by omega
            have hk1 : (0 : Int) ≤ ((k + 1 : Nat) : Int) := by omega
            have hkn : ((k + 1 : Nat) : Int) < len0 := by omega
            have hkm : (k : Int) < len0 := by omega
            have ew : IntKind.i64.wrap (((k + 1 : Nat) : Int) - 1) = (k : Int) := by rw [IntKind.wrap_i64]; omega
            have es : IntKind.i64.wrap (x + y) = x + y := by rw [IntKind.wrap_i64]; omega
            have en : (x + y == 1) = false := by rw [beq_eq_false_iff_ne]; exact ne
            have n1 : (k + 1 : Nat) < M3.length := by rw [l3]; exact hlt
            obtain ⟨q, hq⟩ : ∃ q, q = k + 1 := ⟨_, rfl⟩
            rw [← hq] at cy hk1 hkn ew n1 ⊢
            have HQ := Lib.hid hq
            clear hx5 ex ey ne hk hq
            go_wp2
            go_quiet (fail)
            clear ew es
            go_wp2
            go_roundw
            case rel => exact ⟨q, by go_num, .inr (by have := HQ.out; omega), _, rfl⟩
            case measure => simp [intOf]; omega
          · have n1 : ¬ (k + 1 : Nat) < M3.length := by rw [l3]; exact hlt
            have B6 := Lib.hid (Below.drewN0 B5.out j)
            go_wp2_with fail
            refine (alive30 _).mono ?_
            rintro e w6 ⟨rfl, hb⟩
            have B7 := Lib.hid (Below.trans0 B6.out hb)
            clear hb
            go_wp2
            go_ret
            exact ⟨rfl, B7.out⟩
  · by_cases h1 : len0 ≤ 200
    · by_cases h2 : 0 ≤ a1
      · have h3 : 200 < a1 := by omega
        clear h
        go_enter Try.func3, Try.ntmps3
        go_wp2
        go_ret
        exact ⟨rfl, Below.refl _ _⟩
      · have h3 : a1 < 0 := by omega
        clear h h2
        go_enter Try.func3, Try.ntmps3
        go_wp2
        go_ret
        exact ⟨rfl, Below.refl _ _⟩
    · clear h
      go_enter Try.func3, Try.ntmps3
      go_wp2
      go_ret
      exact ⟨rfl, Below.refl _ _⟩

set_option maxRecDepth 100000 in
theorem lifted (os : Os) (started : os.Started) (H : Type) (enc : TypeId × Value → H) :
    ReturnsInHanded {} Try.checked os 3 .any (Rows.arbiterSharesSpec.pre6 enc Try.prog Try.f3 Rows.arbiterSharesRow.domain false) (Rows.arbiterSharesSpec.post enc Try.prog Try.f3 false true false false) := by
  refine returnsInHanded_of_change (C := Try.checked) own started (by kernel_rfl) Try.func3
    (ChangeSpec.witness6 (enc := enc) (C := Try.checked) false ⟨#[], #[.slice none 0 0, .int .i64 0], []⟩ 8 (by kernel_rfl) (by kernel_rfl) (by kernel_rfl) (by kernel_rfl)) ?_
  intro W base args ds gs before hval0 hW hcnd _
  have hval : ∀ (j : Nat) t v, Try.f3.params[j]? = some t → args[j]? = some v → Value.okWide Try.prog W .any base t v := hval0
  have hW' := hW
  obtain ⟨p, q, hA0, hV, rfl, hfz, hnd⟩ := hW
  have hA : DataW.TrodAll enc Try.prog W 0 (fun _ => true) true Try.f3.params.toList args.toList ds p := hA0
  rw [Try.params3] at hA hval
  obtain ⟨v0, vs0, d0, ds0, p0, q0, hargs, rfl, rfl, h0, r0⟩ := trodAll_cons hA
  obtain ⟨v1, vs1, d1, ds1, p1, q1, rfl, rfl, rfl, h1, r1⟩ := trodAll_cons r0
  obtain ⟨rfl, rfl, rfl⟩ := trodAll_nil r1
  obtain rfl : args = #[v0, v1] := by cases args; simp_all
  obtain ⟨rfl, rfl⟩ := trodVars_none hV
  obtain ⟨a0, len0, cap0, rfl⟩ := okWide_slice Try.underlying22 (hval 0 22 v0 rfl rfl)
  have k0 := h0
  have lt0 : ∀ x ∈ p0, x.block < W.heap.size := by obtain ⟨m, hm⟩ := k0; exact DataW.trod_lt m _ _ _ hm
  obtain ⟨z0, w0⟩ : ∃ zs, eB.In (fun _ => True) W a0 len0 cap0 zs := by
    obtain ⟨fuel, hf⟩ := h0
    exact open_bools hf
  obtain ⟨a1, rfl, rfl, rfl, w1⟩ := open_int Try.underlying3 (hval 1 3 v1 rfl rfl) h1
  clear hA0 hval0
  refine (walk a0 len0 cap0 z0 a1 W w0 w1).mono fun e W' ⟨he, bel⟩ => ?_
  subst he
  exact ⟨_, rfl, _, _, _, [], _, [], hW', trodAll_mk1 (shut_bool Try.underlying4 _), (trodAll_cons_mk (Below.trod laidOut (by kernel_rfl) (of_decide_eq_true (by kernel_rfl)) k0 bel lt0) (trodAll_cons_mk (shut_int Try.underlying3 w1) trodAll_mk0)), rfl, bel.frame _, fun h => by cases h⟩

theorem over : Rows.arbiterSharesRow.holds Try.pinned (OpenSpec.ofChange Rows.arbiterSharesSpec) :=
  OpenClaim.holds_of_wide 3 Try.f3 rfl rfl rfl rfl rfl rfl rfl ⟨rfl, rfl, rfl, rfl, rfl⟩ rfl rfl rfl rfl rfl (by kernel_rfl) Try.func3 (by kernel_rfl)
    (of_decide_eq_true (by kernel_rfl)) (by unfold Func.isWrapper; first | (rw [if_pos (by decide +kernel)]; kernel_rfl) | (rw [if_neg (by decide +kernel)]; exact ⟨rfl, rfl⟩))
    (fun os started H enc _ => lifted os started H enc)

theorem proved : Rows.ArbiterSharesSaid := over
#print axioms proved
end Go.Proofs.Ytoogaenknjdpcab.arbiterShares
