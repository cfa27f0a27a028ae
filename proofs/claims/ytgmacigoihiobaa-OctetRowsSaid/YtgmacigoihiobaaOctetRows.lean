/- The law OctetRows answers true for every input, and each argument reads afterwards as it read before. Conditions: none. -/
import Derived.Test.YtgmacigoihiobaaRows
import Derived.WalkKit
import Derived.ProofKit
import Derived.OpenShut
import Derived.ShutString
import Derived.ChangeOld
import Derived.Below
import Derived.Test.YtgmacigoihiobaaOctLaw
import Derived.Deep.RegionHeld3
import Derived.Deep.AppendLies
import Derived.Outline
namespace Go.Proofs.Ytgmacigoihiobaa.octetRows
open Go.ChangeShapes Go.WideShapes Go.ChangeAt Go.RowKit
open Go.ChangeMaps (open_string shut_string)
set_option linter.unusedVariables false

theorem own : ownKnob Try.prog.godebug = none := by kernel_rfl
theorem laidOut : laidOutB Try.prog = true := by kernel_rfl


set_option maxRecDepth 100000 in
set_option maxHeartbeats 1000000 in
theorem walk (a0 : Option Addr) (len0 cap0 : Nat) (z0 : List Int) (a1 : Option Addr) (len1 cap1 : Nat) (z1 : List Int) (w : World) (w0 : IsRow .u8 w a0 len0 cap0 z0) (w1 : IsRow .u16 w a1 len1 cap1 z1) :
    Calls Try.prog 5 #[.slice a0 len0 cap0, .slice a1 len1 cap1] w fun e w' => e = .returned (.bool true) ∧ Below w.heap.size w w' := by
  obtain ⟨xs, hx, hm⟩ := Ints.of_row w0
  obtain ⟨ys, hy, hm'⟩ := Ints.of_row w1
  unfold maxLen at hm hm'
  clear w0 w1
  by_cases h1 : len0 ≤ 100
  · by_cases h2 : len1 ≤ 50
    · have HX := Lib.hid hx
      have HY := Lib.hid hy
      have LX := Lib.hid hx.1
      have LY := Lib.hid hy.1
      clear hx hy
      go_enter Try.func5, Try.ntmps5
      go_wp2
      go_loop [5, 6, 7] (fun o s i => ∃ k : Nat, k ≤ len0 ∧ i = .int .i64 k ∧ o = .int .i64 (onesAll (xs.take k)) ∧ s = .int .i64 (sumN (xs.take k))) (fun _ _ i => len0 - (intOf i).toNat)
      case atStart => exact ⟨0, Nat.zero_le _, rfl, rfl, rfl⟩
      case round =>
        obtain ⟨k, hk, rfl, rfl, rfl⟩ := hrel
        by_cases hlt : k < len0
        · obtain ⟨b, off, rfl, hb, hcell⟩ := HX.out.2.2 (by omega)
          have hck := hcell k hlt
          obtain ⟨r0, r1⟩ := iat_range8 HX.out.2.1 k
          obtain ⟨s0, s1⟩ := onesAll_range (xs.take k)
          obtain ⟨t0, t1⟩ := sumN_range (xs.take k) (fun z hz => HX.out.2.1 z (List.mem_of_mem_take hz))
          have sl : (xs.take k).length ≤ k := List.length_take_le _ _
          have s2 : onesAll (xs.take k) ≤ 25600 := by omega
          have t2 : sumN (xs.take k) ≤ 25600 := by omega
          have hn1 := Lib.hid (foldl_take (fun n x => n + onesFrom x 8) xs 0 k (by rw [LX.out]; exact hlt))
          have hn2 := Lib.hid (foldl_take (fun s x => s + x) xs 0 k (by rw [LX.out]; exact hlt))
          clear hcell s1 t1
          go_wp2
          go_loop [5, 8] (fun o m => ∃ (f : Nat) (a m' : Int), m = .int .i64 m' ∧ 0 ≤ m' ∧ m' ≤ 255 ∧ Hid (m' < 2 ^ f) ∧ o = .int .i64 a ∧ 0 ≤ a ∧ Hid (a + onesFrom m' f = onesAll (xs.take k) + onesFrom (iat xs k) 8) ∧ a + f ≤ 26000) (fun _ m => (intOf m).toNat)
          case atStart => exact ⟨8, _, _, rfl, r0, by omega, Lib.hid (by omega), rfl, s0, Lib.hid rfl, by omega⟩
          case round =>
            obtain ⟨f, a, m', rfl, m0, m1, hp, rfl, a0', he, hbd⟩ := hrel
            by_cases hz : 0 < m'
            · obtain ⟨g, hg, hg1, hg2⟩ := ones_step m' f hz hp.out
              have HG1 := Lib.hid hg1
              have HE : Hid (a + m' % 2 + onesFrom (m' / 2) g = onesAll (xs.take k) + onesFrom (iat xs k) 8) := Lib.hid (by have := he.out; omega)
              clear hg1 hg2
              go_wp2
              go_round
              case rel => exact ⟨g, a + m' % 2, m' / 2, rfl, by omega, by omega, HG1, rfl, by omega, HE, by omega⟩
              case measure => simp [intOf]; omega
            · obtain rfl : m' = 0 := by omega
              have HE : Hid (onesAll (xs.take (k + 1)) = a) := Lib.hid (by
                have h := he.out
                rw [onesFrom_zero] at h
                show (xs.take (k + 1)).foldl _ 0 = a
                rw [hn1.out]
                show onesAll (xs.take k) + onesFrom (iat xs k) 8 = a
                omega)
              have HS : Hid (sumN (xs.take (k + 1)) = sumN (xs.take k) + iat xs k) := Lib.hid hn2.out
              go_wp2
              go_round
              case rel => exact ⟨k + 1, by omega, by go_num, by rw [HE.out], by rw [HS.out]⟩
              case measure => simp [intOf]; omega
        · obtain rfl : k = len0 := by omega
          have HE : Hid (xs.take k = xs) := Lib.hid (List.take_of_length_le (by rw [LX.out]; omega))
          obtain ⟨t0, t1⟩ := sumN_range (xs.take k) (fun z hz => HX.out.2.1 z (List.mem_of_mem_take hz))
          have sl : (xs.take k).length ≤ k := List.length_take_le _ _
          have t2 : sumN (xs.take k) ≤ 25600 := by omega
          have e1 : (onesAll xs == onesAll (xs.take k)) = true := by rw [HE.out]; simp
          have e2 : (sumAll xs == sumN (xs.take k) % 256) = true := by rw [HE.out, sumN_mod]; simp
          have E1 := Lib.hid e1
          have E2 := Lib.hid e2
          clear e1 e2 t1 sl
          obtain ⟨len0, rfl⟩ : ∃ len0 : Nat, len0 = k := ⟨_, rfl⟩
          go_wp2
          go_loopw [9, 10, 11] (fun v i u wr => ∃ k : Nat, 2 * k ≤ len0 + 1 ∧ i = .int .i64 (2 * (k : Int)) ∧ Hid (Own .u16 22 wr w.heap.size v (wordsTo xs k)) ∧ Below w.heap.size w wr) (fun _ i _ _ => len0 + 2 - (intOf i).toNat)
          case atStart => exact ⟨0, by omega, rfl, Lib.hid (Own.nil_ _ _ _ _), Below.refl _ _⟩
          case round =>
            obtain ⟨k, hk, rfl, hown, hbel⟩ := hrel
            have hsz := hbel.size
            by_cases hlt : 2 * k < len0
            · obtain ⟨b, off, rfl, hb, hcell⟩ := HX.out.2.2 (by omega)
              have hk1 := (hbel.cell (p := ⟨b, off + 2 * k, none⟩) hb).trans (hcell (2 * k) hlt)
              obtain ⟨r10, r11⟩ := iat_range8 HX.out.2.1 (2 * k)
              have hwn := Lib.hid (wordsTo_next xs k)
              have HWL := Lib.hid (wordsTo_len xs k)
              by_cases hl2 : 2 * k + 1 < len0
              · have hk2 := (hbel.cell (p := ⟨b, off + (2 * k + 1), none⟩) hb).trans (hcell (2 * k + 1) hl2)
                obtain ⟨r20, r21⟩ := iat_range8 HX.out.2.1 (2 * k + 1)
                clear hcell
                have hwa : Hid (wordAt xs k = 256 * iat xs (2 * k) + iat xs (2 * k + 1)) := Lib.hid rfl
                go_wp2_with (at_builtin; refine wpList_app16 rfl _ (.tmp 73) (.tmp 76) rfl w.heap.size _ _ rfl (hown.out.alloc _) ⟨wr.heap.size, 0, none⟩ 1 1 [256 * iat xs (2 * k) + iat xs (2 * k + 1)] rfl rfl (cells_lit _ _ _ _ _ rfl _ rfl) (by rw [HWL.out]; simp; omega) (by simp; omega) ?_; intro v1 w1 ho1 hb1 hg1)
                have HO : Hid (Own .u16 22 w1 w.heap.size v1 (wordsTo xs (k + 1))) := Lib.hid (by rw [hwn.out, hwa.out]; exact ho1)
                clear ho1
                go_roundw
                case rel => exact ⟨k + 1, by omega, by go_num, HO, (hbel.alloc hsz _).trans hb1⟩
                case measure => simp [intOf]; omega
              · have hz2 := iat_end xs (2 * k + 1) (by rw [LX.out]; omega)
                have hwa : Hid (wordAt xs k = 256 * iat xs (2 * k)) := Lib.hid (by unfold wordAt; rw [hz2]; omega)
                clear hcell hz2
                go_wp2_with (at_builtin; refine wpList_app16 rfl _ (.tmp 73) (.tmp 76) rfl w.heap.size _ _ rfl (hown.out.alloc _) ⟨wr.heap.size, 0, none⟩ 1 1 [256 * iat xs (2 * k)] rfl rfl (cells_lit _ _ _ _ _ rfl _ rfl) (by rw [HWL.out]; simp; omega) (by simp; omega) ?_; intro v1 w1 ho1 hb1 hg1)
                have HO : Hid (Own .u16 22 w1 w.heap.size v1 (wordsTo xs (k + 1))) := Lib.hid (by rw [hwn.out, hwa.out]; exact ho1)
                clear ho1
                go_roundw
                case rel => exact ⟨k + 1, by omega, by go_num, HO, (hbel.alloc hsz _).trans hb1⟩
                case measure => simp [intOf]; omega
            · have hfin : Hid (wordsTo xs k = wordsOf xs) := Lib.hid (by unfold wordsOf; rw [LX.out, show (len0 + 1) / 2 = k by omega])
              rw [hfin.out] at hown
              go_wp2
              clear hlt hk
              obtain ⟨wo, rfl⟩ : ∃ wo : World, wo = wr := ⟨_, rfl⟩
              go_loopw [12, 13] (fun v i w4 => ∃ k : Nat, k ≤ len1 ∧ i = .int .i64 k ∧ Hid (Own .u8 5 w4 wo.heap.size v (bytesTo ys k)) ∧ Below wo.heap.size wo w4) (fun _ i _ => len1 - (intOf i).toNat)
              case atStart => exact ⟨0, Nat.zero_le _, rfl, Lib.hid (Own.nil_ _ _ _ _), Below.refl _ _⟩
              case round =>
                obtain ⟨k, hk, rfl, hown4, hbel4⟩ := hrel
                have hsz4 := hbel4.size
                by_cases hlt : k < len1
                · obtain ⟨b, off, rfl, hb, hcell⟩ := HY.out.2.2 (by omega)
                  have hk0 := (hbel4.cell (p := ⟨b, off + k, none⟩) (Nat.lt_of_lt_of_le hb hsz)).trans ((hbel.cell (p := ⟨b, off + k, none⟩) hb).trans (hcell k hlt))
                  obtain ⟨r10, r11⟩ := iat_range16 HY.out.2.1 k
                  have hwn := Lib.hid (bytesTo_next ys k (by rw [LY.out]; exact hlt))
                  have HWL := Lib.hid (bytesTo_len ys k (by rw [LY.out]; omega))
                  have t1 : (iat ys k).tdiv 256 = iat ys k / 256 := Int.tdiv_eq_ediv_of_nonneg r10
                  have t2 : IntKind.u16.wrap (iat ys k / 256) = iat ys k / 256 := by rw [IntKind.wrap_u16]; omega
                  have t3 : IntKind.u8.wrap (iat ys k / 256) = iat ys k / 256 := by rw [IntKind.wrap_u8]; omega
                  have t4 : (iat ys k).tmod 256 = iat ys k % 256 := Int.tmod_eq_emod_of_nonneg r10
                  have t5 : IntKind.u8.wrap (iat ys k % 256) = iat ys k % 256 := by rw [IntKind.wrap_u8]; omega
                  clear hcell
                  go_wp2
                  go_region_held3 (fun w' => w'.cell? ⟨b, off + k, none⟩ = some (.int .u16 (iat ys k)))
                    (first
                      | go_keep
                      | (rw [hb1.cell (p := ⟨b, off + k, none⟩) (by show b < _; omega)]; go_simp; done))
                    ((refine step_app8 (by rfl) _ _ _ (by rfl) wo.heap.size u12 (bytesTo ys k) (by rfl) ((hown4.out.alloc _).drew)
                        ⟨wr.heap.size, 0, none⟩ 2 2 [iat ys k / 256, iat ys k % 256] (by rfl) (by rfl) (cells_new _ _ _ _ _ _ rfl (heap_alloc_new wr _)) (by rw [HWL.out]; simp; omega) (by simp; omega) ?_; intro v1 w1 ho1 hb1 hg1))
                  all_goals
                    have HO : Hid (Own .u8 5 w1 wo.heap.size v1 (bytesTo ys (k + 1))) := Lib.hid (by unfold bytesTo; rw [hwn.out]; exact ho1)
                    clear ho1
                    go_wp2
                    go_roundw
                    case rel => exact ⟨k + 1, by omega, by go_num, HO, ((hbel4.alloc hsz4 _).drew).trans hb1⟩
                    case measure => simp [intOf]; omega
                · have hfin4 : Hid (bytesTo ys k = bytesOf ys) := Lib.hid (by unfold bytesTo bytesOf; rw [List.take_of_length_le (by rw [LY.out]; omega)])
                  rw [hfin4.out] at hown4
                  have wfx := HX.out.2.1
                  have wfy := HY.out.2.1
                  obtain ⟨A4, c4, rfl, hI4⟩ := hown4.out.ints (bytesOf_wf wfy)
                  obtain ⟨A9, c9, rfl, hI9⟩ := hown.out.ints (wordsOf_wf wfx)
                  have B0 : Below w.heap.size w wr := hbel.trans (hbel4.mono hsz)
                  have I4 := Lib.hid hI4
                  have I9 := Lib.hid (hI9.below (Nat.le_refl _) hbel4)
                  have LWX : Hid ((wordsOf xs).length ≤ 1099511627776) := Lib.hid (by rw [wordsOf_len, LX.out]; omega)
                  have LBY : Hid ((bytesOf ys).length ≤ 1099511627776) := Lib.hid (by rw [bytesOf_len, LY.out]; omega)
                  have LWB : Hid ((wordsOf (bytesOf ys)).length ≤ 1099511627776) := Lib.hid (by rw [wordsOf_len, bytesOf_len, LY.out]; omega)
                  have WFX := Lib.hid (wordsOf_wf wfx)
                  have WFY := Lib.hid (bytesOf_wf wfy)
                  have WFZ := Lib.hid (wordsOf_wf (bytesOf_wf wfy))
                  have WB := Lib.hid (words_bytes ys wfy)
                  have e1 := E1.out
                  have e2 := E2.out
                  have q1 := (sumAll_range xs).1
                  have q2 := (sumAll_range xs).2
                  clear hI4 hI9 wfx wfy
                  go_wp2_with fail
                  refine (ones_any _ _ _ _ _ _ (HX.out.below B0.size B0) (by omega)).mono ?_
                  rintro e w' ⟨rfl, rfl⟩
                  go_wp2_with fail
                  refine (sum_any _ _ _ _ _ _ (HX.out.below B0.size B0) (by omega)).mono ?_
                  rintro e w' ⟨rfl, rfl⟩
                  go_wp2_with fail
                  refine (words_any _ _ _ _ _ (HX.out.below B0.size B0) (by omega)).mono ?_
                  rintro e W1 ⟨v1, rfl, ho1, hb1⟩
                  obtain ⟨A1, c1, rfl, hI1⟩ := ho1.ints WFX.out
                  have I1 := Lib.hid hI1
                  have B1 := B0.trans (hb1.mono B0.size)
                  clear hI1 ho1
                  go_wp2_with fail
                  refine (eq16_any _ _ _ _ _ _ _ _ _ _ _ I1.out (I9.out.below (Nat.le_refl _) (hb1.mono hbel4.size)) LWX.out LWX.out).mono ?_
                  rintro e w' ⟨rfl, j1, rfl⟩
                  have e3 : (wordsOf xs == wordsOf xs) = true := by simp
                  have B1' := drewN_below B1 j1
                  go_wp2_with fail
                  have C1 := drewN_below hb1 j1
                  refine (bytes_any _ _ _ _ _ (HY.out.below B1'.size B1') (by omega)).mono ?_
                  rintro e W2 ⟨v2, rfl, ho2, hb2⟩
                  obtain ⟨A2, c2, rfl, hI2⟩ := ho2.ints WFY.out
                  have I2 := Lib.hid hI2
                  have B2 := B1'.trans (hb2.mono B1'.size)
                  have C2 := C1.trans (hb2.mono C1.size)
                  clear hI2 ho2
                  go_wp2_with fail
                  refine (bytesEqual_any _ _ _ _ _ _ _ _ _ _ _ I2.out (I4.out.below (Nat.le_refl _) C2)).mono ?_
                  rintro e w' ⟨rfl, rfl⟩
                  have e4 : (bytesOf ys == bytesOf ys) = true := by simp
                  go_wp2_with fail
                  refine (bytes_any _ _ _ _ _ (HY.out.below B2.size B2) (by omega)).mono ?_
                  rintro e W3 ⟨v3, rfl, ho3, hb3⟩
                  obtain ⟨A3, c3, rfl, hI3⟩ := ho3.ints WFY.out
                  have I3 := Lib.hid hI3
                  have B3 := B2.trans (hb3.mono B2.size)
                  clear hI3 ho3
                  go_wp2_with fail
                  refine (words_any _ _ _ _ _ I3.out LBY.out).mono ?_
                  rintro e W4 ⟨v5, rfl, ho5, hb5⟩
                  obtain ⟨A5, c5, rfl, hI5⟩ := ho5.ints WFZ.out
                  have I5 := Lib.hid hI5
                  have B4 := B3.trans (hb5.mono B3.size)
                  clear hI5 ho5
                  go_wp2_with fail
                  refine (eq16_any _ _ _ _ _ _ _ _ _ _ _ I5.out (HY.out.below (Nat.le_refl _) B4) LWB.out (by omega)).mono ?_
                  rintro e w' ⟨rfl, j2, rfl⟩
                  have e5 : (wordsOf (bytesOf ys) == ys) = true := by rw [WB.out]; simp
                  have B4' := drewN_below B4 j2
                  go_wp2_with fail
                  refine (alive01 _).mono ?_
                  rintro e w' ⟨rfl, rfl⟩
                  go_wp2
                  go_ret
                  exact ⟨rfl, B4'⟩
    · go_enter Try.func5, Try.ntmps5
      go_wp2
      go_ret
      exact ⟨rfl, Below.refl _ _⟩
  · go_enter Try.func5, Try.ntmps5
    go_wp2
    go_ret
    exact ⟨rfl, Below.refl _ _⟩

set_option maxRecDepth 100000 in
theorem lifted (os : Os) (started : os.Started) (H : Type) (enc : TypeId × Value → H) :
    ReturnsInHanded {} Try.checked os 5 .any (Rows.octetRowsSpec.pre6 enc Try.prog Try.f5 Rows.octetRowsRow.domain false) (Rows.octetRowsSpec.post enc Try.prog Try.f5 false true false false) := by
  refine returnsInHanded_of_change (C := Try.checked) own started (by kernel_rfl) Try.func5
    (ChangeSpec.witness6 (enc := enc) (C := Try.checked) false ⟨#[], #[.slice none 0 0, .slice none 0 0], []⟩ 8 (by kernel_rfl) (by kernel_rfl) (by kernel_rfl) (by kernel_rfl)) ?_
  intro W base args ds gs before hval0 hW hcnd _
  have hval : ∀ (j : Nat) t v, Try.f5.params[j]? = some t → args[j]? = some v → Value.okWide Try.prog W .any base t v := hval0
  have hW' := hW
  obtain ⟨p, q, hA0, hV, rfl, hfz, hnd⟩ := hW
  have hA : DataW.TrodAll enc Try.prog W 0 (fun _ => true) true Try.f5.params.toList args.toList ds p := hA0
  rw [Try.params5] at hA hval
  obtain ⟨v0, vs0, d0, ds0, p0, q0, hargs, rfl, rfl, h0, r0⟩ := trodAll_cons hA
  obtain ⟨v1, vs1, d1, ds1, p1, q1, rfl, rfl, rfl, h1, r1⟩ := trodAll_cons r0
  obtain ⟨rfl, rfl, rfl⟩ := trodAll_nil r1
  obtain rfl : args = #[v0, v1] := by cases args; simp_all
  obtain ⟨rfl, rfl⟩ := trodVars_none hV
  obtain ⟨a0, len0, cap0, rfl⟩ := okWide_slice Try.underlying29 (hval 0 29 v0 rfl rfl)
  have k0 := h0
  have lt0 : ∀ x ∈ p0, x.block < W.heap.size := by obtain ⟨m, hm⟩ := k0; exact DataW.trod_lt m _ _ _ hm
  obtain ⟨z0, w0⟩ : ∃ zs, IsRow .u8 W a0 len0 cap0 zs := by
    obtain ⟨fuel, hf⟩ := h0
    rcases open_ints Try.underlying29 Try.underlying5 (by kernel_rfl) hf with ⟨hcs, _⟩ | ⟨x, l, c, zs, hcs, _, hl, hm, hz, _, hcell, hwz⟩
    · simp [Value.cells] at hcs
      obtain ⟨rfl, rfl, rfl⟩ := hcs
      exact ⟨[], .inl ⟨rfl, rfl, rfl, rfl⟩⟩
    · simp [Value.cells] at hcs
      obtain ⟨rfl, rfl, rfl⟩ := hcs
      exact ⟨zs, .inr ⟨_, rfl, hl, hm, by simpa using hz, hcell, hwz⟩⟩
  obtain ⟨a1, len1, cap1, rfl⟩ := okWide_slice Try.underlying30 (hval 1 30 v1 rfl rfl)
  have k1 := h1
  have lt1 : ∀ x ∈ p1, x.block < W.heap.size := by obtain ⟨m, hm⟩ := k1; exact DataW.trod_lt m _ _ _ hm
  obtain ⟨z1, w1⟩ : ∃ zs, IsRow .u16 W a1 len1 cap1 zs := by
    obtain ⟨fuel, hf⟩ := h1
    rcases open_ints Try.underlying30 Try.underlying22 (by kernel_rfl) hf with ⟨hcs, _⟩ | ⟨x, l, c, zs, hcs, _, hl, hm, hz, _, hcell, hwz⟩
    · simp [Value.cells] at hcs
      obtain ⟨rfl, rfl, rfl⟩ := hcs
      exact ⟨[], .inl ⟨rfl, rfl, rfl, rfl⟩⟩
    · simp [Value.cells] at hcs
      obtain ⟨rfl, rfl, rfl⟩ := hcs
      exact ⟨zs, .inr ⟨_, rfl, hl, hm, by simpa using hz, hcell, hwz⟩⟩
  clear hA0 hval0
  refine (walk a0 len0 cap0 z0 a1 len1 cap1 z1 W w0 w1).mono fun e W' ⟨he, bel⟩ => ?_
  subst he
  exact ⟨_, rfl, _, _, _, [], _, [], hW', trodAll_mk1 (shut_bool Try.underlying4 _), (trodAll_cons_mk (Below.trod laidOut (by kernel_rfl) (of_decide_eq_true (by kernel_rfl)) k0 bel lt0) (trodAll_cons_mk (Below.trod laidOut (by kernel_rfl) (of_decide_eq_true (by kernel_rfl)) k1 bel lt1) trodAll_mk0)), rfl, bel.frame _, fun h => by cases h⟩

theorem over : Rows.octetRowsRow.holds Try.pinned (OpenSpec.ofChange Rows.octetRowsSpec) :=
  OpenClaim.holds_of_wide 5 Try.f5 rfl rfl rfl rfl rfl rfl rfl ⟨rfl, rfl, rfl, rfl, rfl⟩ rfl rfl rfl rfl rfl (by kernel_rfl) Try.func5 (by kernel_rfl)
    (of_decide_eq_true (by kernel_rfl)) (by unfold Func.isWrapper; first | (rw [if_pos (by decide +kernel)]; kernel_rfl) | (rw [if_neg (by decide +kernel)]; exact ⟨rfl, rfl⟩))
    (fun os started H enc _ => lifted os started H enc)

theorem proved : Rows.OctetRowsSaid := over
#print axioms proved
end Go.Proofs.Ytgmacigoihiobaa.octetRows
