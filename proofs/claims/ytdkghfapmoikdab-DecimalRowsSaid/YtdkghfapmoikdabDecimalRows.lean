/- The law DecimalRows answers true for every input, and each argument reads afterwards as it read before. Conditions: none. -/
import Derived.Test.YtdkghfapmoikdabRows
import Derived.WalkKit
import Derived.ProofKit
import Derived.OpenShut
import Derived.ShutString
import Derived.ChangeOld
import Derived.Below
import Derived.Test.YtdkghfapmoikdabDSum
import Derived.Deep.QuietTactic
import Derived.BigQuiet
import Derived.IntWalk
namespace Go.Proofs.Ytdkghfapmoikdab.decimalRows
open Go.ChangeShapes Go.WideShapes Go.ChangeAt Go.RowKit
open Go.ChangeMaps (open_string shut_string)
set_option linter.unusedVariables false

theorem own : ownKnob Try.prog.godebug = none := by kernel_rfl
theorem laidOut : laidOutB Try.prog = true := by kernel_rfl


set_option maxRecDepth 100000 in
set_option maxHeartbeats 1000000 in
theorem walk (a0 : Option Addr) (len0 cap0 : Nat) (z0 : List Int) (a1 : Option Addr) (len1 cap1 : Nat) (z1 : List Int) (w : World) (w0 : IsRow .u8 w a0 len0 cap0 z0) (w1 : IsRow .u8 w a1 len1 cap1 z1) :
    Calls Try.prog 5 #[.slice a0 len0 cap0, .slice a1 len1 cap1] w fun e w' => e = .returned (.bool true) ∧ Below w.heap.size w w' := by
  obtain ⟨xs, hx, hm⟩ := Ints.of_row w0
  obtain ⟨ys, hy, hm'⟩ := Ints.of_row w1
  unfold maxLen at hm hm'
  clear w0 w1
  by_cases h1 : len0 ≤ 60
  · by_cases h2 : len1 ≤ 60
    · have LX := Lib.hid hx.1
      have LY := Lib.hid hy.1
      have HX := Lib.hid hx
      have HY := Lib.hid hy
      have RX := Lib.hid (fun (j : Nat) (hj : j < len0) => bounds_u8 (iat_wf hx.2.1 j (by rw [hx.1]; exact hj)))
      have RY := Lib.hid (fun (j : Nat) (hj : j < len1) => bounds_u8 (iat_wf hy.2.1 j (by rw [hy.1]; exact hj)))
      clear hx hy
      go_enter Try.func5, Try.ntmps5
      go_wp2
      go_loop [5, 6] (fun r i => ∃ (k : Nat), k ≤ len0 ∧ i = .int .i64 k ∧ r = .bool (allDigits (xs.take k))) (fun _ i => len0 - (intOf i).toNat)
      case atStart => exact ⟨0, Nat.zero_le _, rfl, rfl⟩
      case round =>
        obtain ⟨k, hk, rfl, rfl⟩ := hrel
        by_cases hlt : k < len0
        · obtain ⟨b, off, rfl, hb, hcell⟩ := HX.out.2.2 (by omega)
          have hk1 := hcell k hlt
          obtain ⟨x0, x1⟩ := RX.out k hlt
          have HN := Lib.hid (allDigits_step xs k (by rw [LX.out]; exact hlt))
          clear hcell
          cases hr : allDigits (xs.take k)
          · go_wp2
            go_round
            case rel => exact ⟨k + 1, by omega, by go_num, by rw [HN.out, hr]; rfl⟩
            case measure => simp [intOf]; omega
          · rcases (show (iat xs k % 16 < 10 ∧ iat xs k / 16 < 10 ∧ digits (iat xs k) = true) ∨ (iat xs k % 16 < 10 ∧ ¬ iat xs k / 16 < 10 ∧ digits (iat xs k) = false) ∨ (¬ iat xs k % 16 < 10 ∧ digits (iat xs k) = false) from digits_cases _) with ⟨d1, d2, d3⟩ | ⟨d1, d2, d3⟩ | ⟨d1, d3⟩
            all_goals
              have D3 := Lib.hid d3
              clear d3
              go_wp2
              go_round
              case rel => exact ⟨k + 1, by omega, by go_num, by rw [HN.out, hr, D3.out]; first | rfl | simp [d2] | simp [d1]⟩
              case measure => simp [intOf]; omega
        · obtain rfl : k = len0 := by omega
          have HE : Hid (xs.take k = xs) := Lib.hid (List.take_of_length_le (by rw [LX.out]; omega))
          rw [HE.out]
          clear hlt hk
          have e1 : (allDigits xs != allDigits xs) = false := by simp
          go_wp2_with (go_at_call 16; refine (right_digits _ _ _ _ _ _ HX.out (by omega)).mono ?_; rintro e w' ⟨rfl, rfl⟩)
          go_loop [5, 7] (fun r i => ∃ (m : Nat), m ≤ len1 ∧ i = .int .i64 m ∧ r = .bool (allDigits xs && allDigits (ys.take m))) (fun _ i => len1 - (intOf i).toNat)
          case atStart => exact ⟨0, Nat.zero_le _, rfl, by simp [allDigits]⟩
          case round =>
            obtain ⟨m, hm, rfl, rfl⟩ := hrel
            by_cases hlt : m < len1
            · obtain ⟨b, off, rfl, hb, hcell⟩ := HY.out.2.2 (by omega)
              have hk1 := hcell m hlt
              obtain ⟨x0, x1⟩ := RY.out m hlt
              have HN := Lib.hid (allDigits_step ys m (by rw [LY.out]; exact hlt))
              clear hcell
              cases hr : (allDigits xs && allDigits (ys.take m))
              · go_wp2
                go_round
                case rel => exact ⟨m + 1, by omega, by go_num, by rw [HN.out, ← Bool.and_assoc, hr]; rfl⟩
                case measure => simp [intOf]; omega
              · rcases (show (iat ys m % 16 < 10 ∧ iat ys m / 16 < 10 ∧ digits (iat ys m) = true) ∨ (iat ys m % 16 < 10 ∧ ¬ iat ys m / 16 < 10 ∧ digits (iat ys m) = false) ∨ (¬ iat ys m % 16 < 10 ∧ digits (iat ys m) = false) from digits_cases _) with ⟨d1, d2, d3⟩ | ⟨d1, d2, d3⟩ | ⟨d1, d3⟩
                all_goals
                  have D3 := Lib.hid d3
                  clear d3
                  go_wp2
                  go_round
                  case rel => exact ⟨m + 1, by omega, by go_num, by rw [HN.out, ← Bool.and_assoc, hr, D3.out]; first | rfl | simp [d2] | simp [d1]⟩
                  case measure => simp [intOf]; omega
            · obtain rfl : m = len1 := by omega
              have HE2 : Hid (ys.take m = ys) := Lib.hid (List.take_of_length_le (by rw [LY.out]; omega))
              rw [HE2.out]
              clear hlt hm
              cases hr : (allDigits xs && allDigits ys)
              · have HR := Lib.hid hr
                go_wp2_with (first
                  | (go_at_call 17; refine (sum_arg _ _ _ _ _ _ _ _ _ HX.out HY.out (by omega) (by omega) HR.out).mono ?_; rintro e w' ⟨rfl, rfl⟩)
                  | (go_at_call 13; refine (alive09 _).mono ?_; rintro e w3 ⟨rfl, hb3⟩))
                go_ret
                exact ⟨rfl, hb3⟩
              · obtain ⟨hdx, hdy⟩ : allDigits xs = true ∧ allDigits ys = true := by simpa using hr
                have DX := Lib.hid hdx
                have DY := Lib.hid hdy
                clear hdx hdy
                by_cases he : k = m
                · obtain rfl := he
                  have AX := Lib.hid (fun (j : Nat) (hj : j < k) => allDigits_at xs DX.out j (by rw [LX.out]; exact hj))
                  have AY := Lib.hid (fun (j : Nat) (hj : j < k) => allDigits_at ys DY.out j (by rw [LY.out]; exact hj))
                  have e0 : ((k : Int) != (k : Int)) = false := by simp
                  have MORE := Lib.hid (dec_more xs ys k)
                  go_wp2_with fail
                  refine (sum_any _ _ _ _ _ _ _ _ HX.out HY.out (by omega) DX.out DY.out).mono ?_
                  rintro e w1 ⟨g, rfl, hg, hR, hb1⟩
                  rw [MORE.out]
                  have HR := Lib.hid hR
                  clear hR
                  have hmk := make_row8 w1 k (by omega)
                  have hrow : Hid (Row8 (w1.alloc (.cells (cells8 (List.replicate k 0)) 5)) w1.heap.size (outL (dig decK decD xs ys k 0) k 0)) := Lib.hid (by rw [outL_zero]; exact Blk.new w1 _ _ _)
                  go_wp2
                  clear hmk
                  go_loopw [11, 13] (fun c i wr => ∃ (p : Nat) (x : Int), p ≤ k ∧ i = .int .i64 x ∧ Hid (x = (p : Int) - 1) ∧ c = .int .i64 (car decK xs ys k 0 (k - p)) ∧ Hid (Row8 wr w1.heap.size (outL (dig decK decD xs ys k 0) k (k - p))) ∧ Below w1.heap.size w1 wr) (fun _ i _ => (intOf i + 1).toNat)
                  case atStart => exact ⟨k, _, Nat.le_refl _, rfl, Lib.hid rfl, by rw [Nat.sub_self]; rfl, by rw [Nat.sub_self]; exact hrow, Below.alloc0 (Below.refl _ _) _⟩
                  case round =>
                    obtain ⟨p, x, hp, rfl, hx, rfl, hR2, hbel⟩ := hrel
                    rcases p with _ | q
                    · obtain rfl : x = -1 := by have := hx.out; omega
                      have hR3 : Row8 wr w1.heap.size (outL (dig decK decD xs ys k 0) k k) := hR2.out
                      have HR3 := Lib.hid hR3
                      have HR4 : Hid (Row8 wr g (outL (dig decK decD xs ys k 0) k k)) := Lib.hid (Row8.below HR.out hbel HR.out.lt)
                      have WF : Hid (∀ z ∈ outL (dig decK decD xs ys k 0) k k, (Lit.int .u8 z).wf = true) := Lib.hid (outL_wfD _ (fun m => decD_range _ _ _) k k)
                      obtain ⟨L, hL⟩ : ∃ L, outL (dig decK decD xs ys k 0) k k = L := ⟨_, rfl⟩
                      have hLen : Hid (L.length = k) := Lib.hid (by rw [← hL]; exact outL_len _ _ _)
                      rw [hL] at HR3 HR4 WF
                      obtain ⟨u, hu⟩ : ∃ u, car decK xs ys k 0 k = u := ⟨_, rfl⟩
                      have hu' : car decK xs ys k 0 (k - 0) = u := hu
                      rw [hu']
                      rw [hu]
                      have e1 : ((u == 1) == (u == 1)) = true := by simp
                      have e2 : (L == L) = true := by simp
                      clear hR3 hR2 hrow HR hL hu hu'
                      go_wp2_with fail
                      refine (bytesEqual_any _ _ _ _ _ _ L L _ _ _ (HR4.out.ints WF.out k hLen.out) (HR3.out.ints WF.out k hLen.out)).mono ?_
                      rintro e w' ⟨rfl, rfl⟩
                      go_wp2_with (go_at_call 13; refine (alive09 _).mono ?_; rintro e w3 ⟨rfl, hb3⟩)
                      go_ret
                      exact ⟨rfl, Below.trans0 (Below.trans0 hb1 hbel) hb3⟩
                    · obtain rfl : x = (q : Int) := by have := hx.out; omega
                      obtain ⟨b, off, rfl, hb, hcell⟩ := HX.out.2.2 (by omega)
                      obtain ⟨b', off', rfl, hb', hcell'⟩ := HY.out.2.2 (by omega)
                      have hk1 := (hbel.cell (p := ⟨b, off + q, none⟩) (Nat.lt_of_lt_of_le hb hb1.size)).trans ((hb1.cell (p := ⟨b, off + q, none⟩) hb).trans (hcell q (by omega)))
                      have hk2 := (hbel.cell (p := ⟨b', off' + q, none⟩) (Nat.lt_of_lt_of_le hb' hb1.size)).trans ((hb1.cell (p := ⟨b', off' + q, none⟩) hb').trans (hcell' q (by omega)))
                      have hk3 := hR2.out.cell q (by rw [outL_len]; omega)
                      have hf3 := hR2.out.frozen q
                      obtain ⟨x0, x1⟩ := RX.out q (by omega)
                      obtain ⟨y0, y1⟩ := RY.out q (by omega)
                      obtain ⟨c0, c1⟩ := car_range (K := decK) xs ys k 0 (k - (q + 1))
                      have hdx := AX.out q (by omega)
                      have hdy := AY.out q (by omega)
                      obtain ⟨u, hu⟩ : ∃ u, u = car decK xs ys k 0 (k - (q + 1)) := ⟨_, rfl⟩
                      obtain ⟨s1, s2⟩ := dec_step xs ys k q (by omega) hdx hdy x0 y0 u hu
                      obtain ⟨dx1, dx2⟩ : iat xs q / 16 ≤ 9 ∧ iat xs q % 16 ≤ 9 := by unfold digits at hdx; simpa using hdx
                      obtain ⟨dy1, dy2⟩ : iat ys q / 16 ≤ 9 ∧ iat ys q % 16 ≤ 9 := by unfold digits at hdy; simpa using hdy
                      rw [← hu] at c0 c1 ⊢
                      have S1 := Lib.hid s1
                      have S2 := Lib.hid s2
                      have HU := Lib.hid hu
                      have q0 : (0 : Int) ≤ (q : Int) := by omega
                      have q1 : (q : Int) < (k : Int) := by omega
                      have v1 : 0 ≤ iat xs q / 16 := by omega
                      have v2 : 0 ≤ iat ys q / 16 := by omega
                      have v3 : 0 ≤ iat xs q % 16 := by omega
                      have v4 : 0 ≤ iat ys q % 16 := by omega
                      have t1 : (iat xs q).tdiv 16 = iat xs q / 16 := Int.tdiv_eq_ediv_of_nonneg x0
                      have t2 : (iat ys q).tdiv 16 = iat ys q / 16 := Int.tdiv_eq_ediv_of_nonneg y0
                      have t3 : (iat xs q).tmod 16 = iat xs q % 16 := Int.tmod_eq_emod_of_nonneg x0
                      have t4 : (iat ys q).tmod 16 = iat ys q % 16 := Int.tmod_eq_emod_of_nonneg y0
                      have t5 : IntKind.u8.wrap (iat xs q / 16) = iat xs q / 16 := IntWalk.u8_in _ (by omega)
                      have t6 : IntKind.u8.wrap (iat ys q / 16) = iat ys q / 16 := IntWalk.u8_in _ (by omega)
                      have t7 : IntKind.u8.wrap (iat xs q % 16) = iat xs q % 16 := IntWalk.u8_in _ (by omega)
                      have t8 : IntKind.u8.wrap (iat ys q % 16) = iat ys q % 16 := IntWalk.u8_in _ (by omega)
                      have t9 : IntKind.u8.wrap (iat xs q / 16 * 10) = iat xs q / 16 * 10 := IntWalk.u8_in _ (by omega)
                      have t10 : IntKind.u8.wrap (iat ys q / 16 * 10) = iat ys q / 16 * 10 := IntWalk.u8_in _ (by omega)
                      have t11 : IntKind.u8.wrap (iat xs q / 16 * 10 + iat xs q % 16) = iat xs q / 16 * 10 + iat xs q % 16 := IntWalk.u8_in _ (by omega)
                      have t12 : IntKind.u8.wrap (iat ys q / 16 * 10 + iat ys q % 16) = iat ys q / 16 * 10 + iat ys q % 16 := IntWalk.u8_in _ (by omega)
                      have t13 : IntKind.i64.wrap (iat xs q / 16 * 10 + iat xs q % 16 + (iat ys q / 16 * 10 + iat ys q % 16)) = iat xs q / 16 * 10 + iat xs q % 16 + (iat ys q / 16 * 10 + iat ys q % 16) := IntWalk.i64_in _ (by omega)
                      have t14 : IntKind.i64.wrap (iat xs q / 16 * 10 + iat xs q % 16 + (iat ys q / 16 * 10 + iat ys q % 16) + u) = iat xs q / 16 * 10 + iat xs q % 16 + (iat ys q / 16 * 10 + iat ys q % 16) + u := IntWalk.i64_in _ (by omega)
                      clear hcell hcell' hu s1 s2 hdx hdy
                      go_wp2
                      go_quiet (fail)
                      clear t1 t2 t3 t4 t5 t6 t7 t8 t9 t10 t11 t12 t13 t14
                      go_wp2_with (go_at_call 15; refine (two_any _ _ (by omega) (by omega)).mono ?_; rintro e w' ⟨rfl, rfl⟩)
                      go_roundw
                      case rel => exact ⟨q, _, by omega, rfl, Lib.hid rfl, by rw [S2.out], Lib.hid (row_put hR2.out (by omega) (by rw [S1.out]; unfold twoOf; omega)), (Below.drewN0 hbel _).setCell (Nat.le_refl _) _⟩
                      case measure => simp [intOf]; try omega
                · have hne : ((k : Int) != (m : Int)) = true := by simp; omega
                  have HNE := Lib.hid he
                  clear he
                  go_wp2_with (first
                    | (go_at_call 17; refine (sum_no _ _ _ _ _ _ _ _ _ HX.out HY.out (by omega) (by omega) DX.out DY.out HNE.out).mono ?_; rintro e w' ⟨rfl, rfl⟩)
                    | (go_at_call 13; refine (alive09 _).mono ?_; rintro e w3 ⟨rfl, hb3⟩))
                  go_ret
                  exact ⟨rfl, hb3⟩
    · go_enter Try.func5, Try.ntmps5
      go_wp2
      go_ret
      exact ⟨rfl, Below.refl _ _⟩
  · go_enter Try.func5, Try.ntmps5
    go_wp2
    go_ret
    exact ⟨rfl, Below.refl _ _⟩

set_option maxRecDepth 100000 in
theorem lifted (os : Os) (started : os.Started) (H : Type) (enc : TypeId × Value → H) :
    ReturnsInHanded {} Try.checked os 5 .any (Rows.decimalRowsSpec.pre6 enc Try.prog Try.f5 Rows.decimalRowsRow.domain false) (Rows.decimalRowsSpec.post enc Try.prog Try.f5 false true false false) := by
  refine returnsInHanded_of_change (C := Try.checked) own started (by kernel_rfl) Try.func5
    (ChangeSpec.witness6 (enc := enc) (C := Try.checked) false ⟨#[], #[.slice none 0 0, .slice none 0 0], []⟩ 8 (by kernel_rfl) (by kernel_rfl) (by kernel_rfl) (by kernel_rfl)) ?_
  intro W base args ds gs before hval0 hW hcnd _
  have hval : ∀ (j : Nat) t v, Try.f5.params[j]? = some t → args[j]? = some v → Value.okWide Try.prog W .any base t v := hval0
  have hW' := hW
  obtain ⟨p, q, hA0, hV, rfl, hfz, hnd⟩ := hW
  have hA : DataW.TrodAll enc Try.prog W 0 (fun _ => true) true Try.f5.params.toList args.toList ds p := hA0
  rw [Try.params5] at hA hval
  obtain ⟨v0, vs0, d0, ds0, p0, q0, hargs, rfl, rfl, h0, r0⟩ := trodAll_cons hA
  obtain ⟨v1, vs1, d1, ds1, p1, q1, rfl, rfl, rfl, h1, r1⟩ := trodAll_cons r0
  obtain ⟨rfl, rfl, rfl⟩ := trodAll_nil r1
  obtain rfl : args = #[v0, v1] := by cases args; simp_all
  obtain ⟨rfl, rfl⟩ := trodVars_none hV
  obtain ⟨a0, len0, cap0, rfl⟩ := okWide_slice Try.underlying29 (hval 0 29 v0 rfl rfl)
  have k0 := h0
  have lt0 : ∀ x ∈ p0, x.block < W.heap.size := by obtain ⟨m, hm⟩ := k0; exact DataW.trod_lt m _ _ _ hm
  obtain ⟨z0, w0⟩ : ∃ zs, IsRow .u8 W a0 len0 cap0 zs := by
    obtain ⟨fuel, hf⟩ := h0
    rcases open_ints Try.underlying29 Try.underlying5 (by kernel_rfl) hf with ⟨hcs, _⟩ | ⟨x, l, c, zs, hcs, _, hl, hm, hz, _, hcell, hwz⟩
    · simp [Value.cells] at hcs
      obtain ⟨rfl, rfl, rfl⟩ := hcs
      exact ⟨[], .inl ⟨rfl, rfl, rfl, rfl⟩⟩
    · simp [Value.cells] at hcs
      obtain ⟨rfl, rfl, rfl⟩ := hcs
      exact ⟨zs, .inr ⟨_, rfl, hl, hm, by simpa using hz, hcell, hwz⟩⟩
  obtain ⟨a1, len1, cap1, rfl⟩ := okWide_slice Try.underlying29 (hval 1 29 v1 rfl rfl)
  have k1 := h1
  have lt1 : ∀ x ∈ p1, x.block < W.heap.size := by obtain ⟨m, hm⟩ := k1; exact DataW.trod_lt m _ _ _ hm
  obtain ⟨z1, w1⟩ : ∃ zs, IsRow .u8 W a1 len1 cap1 zs := by
    obtain ⟨fuel, hf⟩ := h1
    rcases open_ints Try.underlying29 Try.underlying5 (by kernel_rfl) hf with ⟨hcs, _⟩ | ⟨x, l, c, zs, hcs, _, hl, hm, hz, _, hcell, hwz⟩
    · simp [Value.cells] at hcs
      obtain ⟨rfl, rfl, rfl⟩ := hcs
      exact ⟨[], .inl ⟨rfl, rfl, rfl, rfl⟩⟩
    · simp [Value.cells] at hcs
      obtain ⟨rfl, rfl, rfl⟩ := hcs
      exact ⟨zs, .inr ⟨_, rfl, hl, hm, by simpa using hz, hcell, hwz⟩⟩
  clear hA0 hval0
  refine (walk a0 len0 cap0 z0 a1 len1 cap1 z1 W w0 w1).mono fun e W' ⟨he, bel⟩ => ?_
  subst he
  exact ⟨_, rfl, _, _, _, [], _, [], hW', trodAll_mk1 (shut_bool Try.underlying4 _), (trodAll_cons_mk (Below.trod laidOut (by kernel_rfl) (of_decide_eq_true (by kernel_rfl)) k0 bel lt0) (trodAll_cons_mk (Below.trod laidOut (by kernel_rfl) (of_decide_eq_true (by kernel_rfl)) k1 bel lt1) trodAll_mk0)), rfl, bel.frame _, fun h => by cases h⟩

theorem over : Rows.decimalRowsRow.holds Try.pinned (OpenSpec.ofChange Rows.decimalRowsSpec) :=
  OpenClaim.holds_of_wide 5 Try.f5 rfl rfl rfl rfl rfl rfl rfl ⟨rfl, rfl, rfl, rfl, rfl⟩ rfl rfl rfl rfl rfl (by kernel_rfl) Try.func5 (by kernel_rfl)
    (of_decide_eq_true (by kernel_rfl)) (by unfold Func.isWrapper; first | (rw [if_pos (by decide +kernel)]; kernel_rfl) | (rw [if_neg (by decide +kernel)]; exact ⟨rfl, rfl⟩))
    (fun os started H enc _ => lifted os started H enc)

theorem proved : Rows.DecimalRowsSaid := over
#print axioms proved
end Go.Proofs.Ytdkghfapmoikdab.decimalRows
