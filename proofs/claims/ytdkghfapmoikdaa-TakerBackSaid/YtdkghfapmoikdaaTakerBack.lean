/- The law TakerBack answers true for every input, and each argument reads afterwards as it read before. Conditions: none. -/
import Derived.Test.YtdkghfapmoikdaaRows
import Derived.WalkKit
import Derived.ProofKit
import Derived.OpenShut
import Derived.ShutString
import Derived.ChangeOld
import Derived.Below
import Derived.Test.YtdkghfapmoikdaaChS
import Derived.Deep.QuietTactic
import Derived.BigQuiet
namespace Go.Proofs.Ytdkghfapmoikdaa.takerBack
open Go.ChangeShapes Go.WideShapes Go.ChangeAt Go.RowKit
open Go.ChangeMaps (open_string shut_string)
set_option linter.unusedVariables false

theorem own : ownKnob Try.prog.godebug = none := by kernel_rfl
theorem laidOut : laidOutB Try.prog = true := by kernel_rfl


set_option maxRecDepth 100000 in
set_option maxHeartbeats 1000000 in
theorem walk (a0 : Option Addr) (len0 cap0 : Nat) (z0 : List Int) (a1 : Option Addr) (len1 cap1 : Nat) (z1 : List Int) (a2 : Int) (w : World) (w0 : IsRow .u8 w a0 len0 cap0 z0) (w1 : IsRow .u8 w a1 len1 cap1 z1) (w2 : (Lit.int .u8 a2).wf = true) :
    Calls Try.prog 6 #[.slice a0 len0 cap0, .slice a1 len1 cap1, .int .u8 a2] w fun e w' => e = .returned (.bool true) ∧ Below w.heap.size w w' := by
  obtain ⟨xs, hx, hm⟩ := Ints.of_row w0
  obtain ⟨ys, hy, hm'⟩ := Ints.of_row w1
  obtain ⟨hc, hc'⟩ := bounds_u8 w2
  have hcc : CC a2 := CC.mk' hc (by omega)
  unfold maxLen at hm hm'
  clear w0 w1
  by_cases h1 : len0 ≤ 60
  · by_cases h2 : len1 ≤ 60
    · by_cases he : len0 = len1
      · obtain rfl := he
        have LX := Lib.hid hx.1
        have LY := Lib.hid hy.1
        have HX := Lib.hid hx
        have HY := Lib.hid hy
        have RX := Lib.hid (fun (j : Nat) (hj : j < len0) => bounds_u8 (iat_wf hx.2.1 j (by rw [hx.1]; exact hj)))
        have RY := Lib.hid (fun (j : Nat) (hj : j < len0) => bounds_u8 (iat_wf hy.2.1 j (by rw [hy.1]; exact hj)))
        clear hx hy
        have BD := Lib.hid (back_dig xs ys len0 a2 hcc RX.out RY.out)
        have hf := chCC_ok (K := subC) (fun _ _ _ _ h => CC.sub h _ _ _) xs ys len0 a2 hcc len0
        obtain ⟨hf0, hf1⟩ := hf
        go_enter Try.func6, Try.ntmps6
        go_wp2_with fail
        refine (chainS_any _ _ _ _ _ _ _ _ _ HX.out HY.out (by omega) hcc).mono ?_
        rintro e w1 ⟨g, rfl, hg, hR, hb1⟩
        have HR := Lib.hid hR
        have I1 := Lib.hid (hR.ints (outL_wf _ (digS_range xs ys len0 a2) len0 len0) len0 (outL_len _ _ _))
        have I2 := Lib.hid (HY.out.below hb1.size hb1)
        clear hR
        go_wp2_with fail
        refine (chainA_any _ _ _ _ _ _ _ _ _ I1.out I2.out (by omega) (CC.mk' (by omega) (by omega))).mono ?_
        rintro e w2 ⟨g2, rfl, hg2, hR2, hb2⟩
        have HR2 := Lib.hid hR2
        clear hR2
        have B2 := Below.trans0 hb1 hb2
        go_wp2
        go_loopw [14] (fun i wr => ∃ (k : Nat), k ≤ len0 ∧ i = .int .i64 k ∧ Below w2.heap.size w2 wr) (fun i _ => len0 - (intOf i).toNat)
        case atStart => exact ⟨0, Nat.zero_le _, rfl, Below.refl _ _⟩
        case round =>
          obtain ⟨k, hk, rfl, hbel⟩ := hrel
          by_cases hlt : k < len0
          · obtain ⟨b, off, rfl, hb, hcell⟩ := HX.out.2.2 (by omega)
            have hk1 := (hbel.cell (p := ⟨b, off + k, none⟩) (Nat.lt_of_lt_of_le hb B2.size)).trans ((B2.cell (p := ⟨b, off + k, none⟩) hb).trans (hcell k (by omega)))
            have hk3 := (hbel.cell (p := ⟨g2, k, none⟩) HR2.out.lt).trans (HR2.out.cell k (by rw [outL_len]; omega))
            rw [BD.out k hlt] at hk3
            have q0 : (0 : Int) ≤ (k : Int) := by omega
            have q1 : (k : Int) < (len0 : Int) := by omega
            have e1 : ((len0 : Int) != (len0 : Int)) = false := by simp
            have e2 : (iat xs k != iat xs k) = false := by simp
            clear hcell
            go_wp2
            go_quiet (fail)
            go_wp2
            go_roundw
            case rel => exact ⟨k + 1, by omega, by go_num, Below.drewN0 hbel _⟩
            case measure => simp [intOf]; try omega
          · obtain rfl : k = len0 := by omega
            obtain ⟨wo, rfl⟩ : ∃ wo : World, wo = wr := ⟨_, rfl⟩
            clear hlt hk
            go_wp2
            have B3 := Below.trans0 B2 hbel
            go_loopw [13, 15] (fun l i wr => ∃ (p : Nat) (x : Int), p ≤ k ∧ i = .int .i64 x ∧ Hid (x = (p : Int) - 1) ∧ l = .bool (car subC xs ys k a2 (k - p) == 1) ∧ Below wo.heap.size wo wr) (fun _ i _ => (intOf i + 1).toNat)
            case atStart => exact ⟨k, _, Nat.le_refl _, rfl, Lib.hid rfl, by rw [Nat.sub_self]; rfl, Below.refl _ _⟩
            case round =>
              obtain ⟨p, x, hp, rfl, hx, rfl, hbel4⟩ := hrel
              have B4 := Below.trans0 B3 hbel4
              rcases p with _ | q
              · obtain rfl : x = -1 := by have := hx.out; omega
                rcases Nat.eq_zero_or_pos k with h0 | h0
                · have e1 : ((k : Int) == 0) = true := by rw [h0]; rfl
                  have e2 : (chCC subC xs ys k a2 k == a2) = true := by rw [h0]; simp [chCC]
                  clear h0
                  go_wp2_with (go_at_call 25; refine (alive05 _).mono ?_; rintro e w3 ⟨rfl, hb3⟩)
                  go_ret
                  exact ⟨rfl, Below.trans0 B4 hb3⟩
                · have e1 : ((k : Int) == 0) = false := by rw [beq_eq_false_iff_ne]; omega
                  have e3 : (0 : Int) < (k : Int) := by omega
                  have e2 : ((chCC subC xs ys k a2 k % 2 == 1) == (car subC xs ys k a2 (k - 0) == 1)) = true := by rw [Nat.sub_zero, car_pos _ _ _ _ _ _ h0]; simp
                  have e2' : ((chCC subC xs ys k a2 k % 2 == 1) == (car subC xs ys k a2 k == 1)) = true := by rw [car_pos _ _ _ _ _ _ h0]; simp
                  go_wp2_with (go_at_call 25; refine (alive05 _).mono ?_; rintro e w3 ⟨rfl, hb3⟩)
                  go_ret
                  exact ⟨rfl, Below.trans0 B4 hb3⟩
              · obtain rfl : x = (q : Int) := by have := hx.out; omega
                obtain ⟨b, off, rfl, hb, hcell⟩ := HX.out.2.2 (by omega)
                obtain ⟨b', off', rfl, hb', hcell'⟩ := HY.out.2.2 (by omega)
                have hk1 := (B4.cell (p := ⟨b, off + q, none⟩) hb).trans (hcell q (by omega))
                have hk2 := (B4.cell (p := ⟨b', off' + q, none⟩) hb').trans (hcell' q (by omega))
                obtain ⟨x0, x1⟩ := RX.out q (by omega)
                obtain ⟨y0, y1⟩ := RY.out q (by omega)
                obtain ⟨c0, c1⟩ := car_range (K := subC) xs ys k a2 (k - (q + 1))
                have hcd := carS_down xs ys k a2 hcc q (by omega)
                have q0 : (0 : Int) ≤ (q : Int) := by omega
                have q1 : (q : Int) < (k : Int) := by omega
                clear hcell hcell'
                rcases (show iat xs q < iat ys q ∨ iat xs q = iat ys q ∨ iat ys q < iat xs q by omega) with hlt | hlt | hlt
                · have e1 : decide (iat xs q < iat ys q) = true := by simp; omega
                  have HC : Hid ((car subC xs ys k a2 (k - q) == 1) = true) := Lib.hid (by rw [hcd]; simp; omega)
                  clear hcd
                  go_wp2
                  go_quiet (fail)
                  go_wp2
                  go_roundw
                  case rel => exact ⟨q, _, by omega, rfl, Lib.hid rfl, by rw [HC.out], Below.drewN0 hbel4 _⟩
                  case measure => simp [intOf]; try omega
                · have e1 : decide (iat xs q < iat ys q) = false := by simp; omega
                  have e2 : (iat xs q == iat ys q) = true := by simp; omega
                  have HC : Hid ((car subC xs ys k a2 (k - q) == 1) = (car subC xs ys k a2 (k - (q + 1)) == 1)) := Lib.hid (by rw [hcd, Bool.eq_iff_iff]; simp; omega)
                  have HLT := Lib.hid hlt
                  clear hcd hlt
                  go_wp2
                  go_quiet (fail)
                  go_wp2
                  go_roundw
                  case rel => exact ⟨q, _, by omega, rfl, Lib.hid rfl, by rw [HC.out], Below.drewN0 hbel4 _⟩
                  case measure => simp [intOf]; try omega
                · have e1 : decide (iat xs q < iat ys q) = false := by simp; omega
                  have e2 : (iat xs q == iat ys q) = false := by rw [beq_eq_false_iff_ne]; omega
                  have HC : Hid ((car subC xs ys k a2 (k - q) == 1) = false) := Lib.hid (by rw [hcd]; simp; omega)
                  clear hcd
                  go_wp2
                  go_quiet (fail)
                  go_wp2
                  go_roundw
                  case rel => exact ⟨q, _, by omega, rfl, Lib.hid rfl, by rw [HC.out], Below.drewN0 hbel4 _⟩
                  case measure => simp [intOf]; try omega
      · go_enter Try.func6, Try.ntmps6
        have hne : ((len0 : Int) != (len1 : Int)) = true := by simp; omega
        go_wp2_with (first
          | (go_at_call 26; refine (chainS_no _ _ _ _ _ _ _ _ (by omega) (by omega) (by omega)).mono ?_; rintro e w' ⟨rfl, rfl⟩)
          | (go_at_call 25; refine (alive05 _).mono ?_; rintro e w3 ⟨rfl, hb3⟩))
        go_ret
        exact ⟨rfl, hb3⟩
    · go_enter Try.func6, Try.ntmps6
      go_wp2
      go_ret
      exact ⟨rfl, Below.refl _ _⟩
  · go_enter Try.func6, Try.ntmps6
    go_wp2
    go_ret
    exact ⟨rfl, Below.refl _ _⟩

set_option maxRecDepth 100000 in
theorem lifted (os : Os) (started : os.Started) (H : Type) (enc : TypeId × Value → H) :
    ReturnsInHanded {} Try.checked os 6 .any (Rows.takerBackSpec.pre6 enc Try.prog Try.f6 Rows.takerBackRow.domain false) (Rows.takerBackSpec.post enc Try.prog Try.f6 false true false false) := by
  refine returnsInHanded_of_change (C := Try.checked) own started (by kernel_rfl) Try.func6
    (ChangeSpec.witness6 (enc := enc) (C := Try.checked) false ⟨#[], #[.slice none 0 0, .slice none 0 0, .int .u8 0], []⟩ 8 (by kernel_rfl) (by kernel_rfl) (by kernel_rfl) (by kernel_rfl)) ?_
  intro W base args ds gs before hval0 hW hcnd _
  have hval : ∀ (j : Nat) t v, Try.f6.params[j]? = some t → args[j]? = some v → Value.okWide Try.prog W .any base t v := hval0
  have hW' := hW
  obtain ⟨p, q, hA0, hV, rfl, hfz, hnd⟩ := hW
  have hA : DataW.TrodAll enc Try.prog W 0 (fun _ => true) true Try.f6.params.toList args.toList ds p := hA0
  rw [Try.params6] at hA hval
  obtain ⟨v0, vs0, d0, ds0, p0, q0, hargs, rfl, rfl, h0, r0⟩ := trodAll_cons hA
  obtain ⟨v1, vs1, d1, ds1, p1, q1, rfl, rfl, rfl, h1, r1⟩ := trodAll_cons r0
  obtain ⟨v2, vs2, d2, ds2, p2, q2, rfl, rfl, rfl, h2, r2⟩ := trodAll_cons r1
  obtain ⟨rfl, rfl, rfl⟩ := trodAll_nil r2
  obtain rfl : args = #[v0, v1, v2] := by cases args; simp_all
  obtain ⟨rfl, rfl⟩ := trodVars_none hV
  obtain ⟨a0, len0, cap0, rfl⟩ := okWide_slice Try.underlying27 (hval 0 27 v0 rfl rfl)
  have k0 := h0
  have lt0 : ∀ x ∈ p0, x.block < W.heap.size := by obtain ⟨m, hm⟩ := k0; exact DataW.trod_lt m _ _ _ hm
  obtain ⟨z0, w0⟩ : ∃ zs, IsRow .u8 W a0 len0 cap0 zs := by
    obtain ⟨fuel, hf⟩ := h0
    rcases open_ints Try.underlying27 Try.underlying5 (by kernel_rfl) hf with ⟨hcs, _⟩ | ⟨x, l, c, zs, hcs, _, hl, hm, hz, _, hcell, hwz⟩
    · simp [Value.cells] at hcs
      obtain ⟨rfl, rfl, rfl⟩ := hcs
      exact ⟨[], .inl ⟨rfl, rfl, rfl, rfl⟩⟩
    · simp [Value.cells] at hcs
      obtain ⟨rfl, rfl, rfl⟩ := hcs
      exact ⟨zs, .inr ⟨_, rfl, hl, hm, by simpa using hz, hcell, hwz⟩⟩
  obtain ⟨a1, len1, cap1, rfl⟩ := okWide_slice Try.underlying27 (hval 1 27 v1 rfl rfl)
  have k1 := h1
  have lt1 : ∀ x ∈ p1, x.block < W.heap.size := by obtain ⟨m, hm⟩ := k1; exact DataW.trod_lt m _ _ _ hm
  obtain ⟨z1, w1⟩ : ∃ zs, IsRow .u8 W a1 len1 cap1 zs := by
    obtain ⟨fuel, hf⟩ := h1
    rcases open_ints Try.underlying27 Try.underlying5 (by kernel_rfl) hf with ⟨hcs, _⟩ | ⟨x, l, c, zs, hcs, _, hl, hm, hz, _, hcell, hwz⟩
    · simp [Value.cells] at hcs
      obtain ⟨rfl, rfl, rfl⟩ := hcs
      exact ⟨[], .inl ⟨rfl, rfl, rfl, rfl⟩⟩
    · simp [Value.cells] at hcs
      obtain ⟨rfl, rfl, rfl⟩ := hcs
      exact ⟨zs, .inr ⟨_, rfl, hl, hm, by simpa using hz, hcell, hwz⟩⟩
  obtain ⟨a2, rfl, rfl, rfl, w2⟩ := open_int Try.underlying5 (hval 2 5 v2 rfl rfl) h2
  clear hA0 hval0
  refine (walk a0 len0 cap0 z0 a1 len1 cap1 z1 a2 W w0 w1 w2).mono fun e W' ⟨he, bel⟩ => ?_
  subst he
  exact ⟨_, rfl, _, _, _, [], _, [], hW', trodAll_mk1 (shut_bool Try.underlying4 _), (trodAll_cons_mk (Below.trod laidOut (by kernel_rfl) (of_decide_eq_true (by kernel_rfl)) k0 bel lt0) (trodAll_cons_mk (Below.trod laidOut (by kernel_rfl) (of_decide_eq_true (by kernel_rfl)) k1 bel lt1) (trodAll_cons_mk (shut_int Try.underlying5 w2) trodAll_mk0))), rfl, bel.frame _, fun h => by cases h⟩

theorem over : Rows.takerBackRow.holds Try.pinned (OpenSpec.ofChange Rows.takerBackSpec) :=
  OpenClaim.holds_of_wide 6 Try.f6 rfl rfl rfl rfl rfl rfl rfl ⟨rfl, rfl, rfl, rfl, rfl⟩ rfl rfl rfl rfl rfl (by kernel_rfl) Try.func6 (by kernel_rfl)
    (of_decide_eq_true (by kernel_rfl)) (by unfold Func.isWrapper; first | (rw [if_pos (by decide +kernel)]; kernel_rfl) | (rw [if_neg (by decide +kernel)]; exact ⟨rfl, rfl⟩))
    (fun os started H enc _ => lifted os started H enc)

theorem proved : Rows.TakerBackSaid := over
#print axioms proved
end Go.Proofs.Ytdkghfapmoikdaa.takerBack
