/- Contract of the document's own Text (layer 40). -/
import Derived.Test.YtnmgjgeniaheoabDoorSrx
import Derived.Test.YtnmgjgeniaheoabDoorSre
namespace Go.Proofs.YtnmgjgeniaheoabDoor
open Go.ChangeShapes Go.WideShapes Go.ChangeAt Go.RowKit
set_option linter.unusedVariables false

set_option maxRecDepth 100000 in
set_option maxHeartbeats 4000000 in
theorem seText_any (k a : Int) (hk : k = 0 ∨ k = 1 ∨ k = 9) (ha : 0 ≤ a ∧ a < 65536) (A : Option Addr) (n c : Nat) (b : List Int) (w : World) (hR : eY.Rd w (.slice A n c) b) (hn : b.length = n) (hb : Byt b) (hl : n ≤ 252) :
    Calls Tryd.prog 7 #[.agg #[.int .i64 k, .int .u16 a, .slice A n c]] w fun e w' => e = .returned (.string (strOfNums (lnX k a b))) ∧ Below w.heap.size w w' := by
  have HN := Lib.hid hn
  have HBY := Lib.hid hb
  have CD := Lib.hid (fun u => refDigits10_int k 1 1 u (by omega) (by omega) (by decide) (by decide) rfl)
  rw [dec1 k hk] at CD
  have hw3 : IntKind.u8.wrap ((n : Int) + 3) = (n : Int) + 3 := by rw [IntKind.wrap_u8]; omega
  have wq : IntKind.u8.wrap (a / 256) = a / 256 := by rw [IntKind.wrap_u8]; omega
  have wr : IntKind.u8.wrap (a % 256) = a % 256 := by rw [IntKind.wrap_u8]; omega
  have tq : Int.tdiv a 256 = a / 256 := by rw [Int.tdiv_eq_ediv_of_nonneg ha.1]
  have tr : Int.tmod a 256 = a % 256 := Int.tmod_eq_emod_of_nonneg ha.1
  obtain ⟨W1, hW1⟩ : ∃ W, w.alloc (.cells #[.int .i64 k, .int .u16 a, .slice A n c] 30) = W := ⟨_, rfl⟩
  have hlt : w.heap.size < W1.heap.size := by rw [← hW1]; simp
  have hsz : W1.heap.size = w.heap.size + 1 := by rw [← hW1]; simp
  have o1 := ownY_lit3 W1 5 ((n : Int) + 3) (a / 256) (a % 256) (w.heap.size + 1) (by rw [hsz]; exact Nat.le_refl _)
  rw [hsz] at o1
  have O1 := Lib.hid o1
  have R1 := Lib.hid (show eY.Rd (W1.alloc (.cells #[.int .u8 ((n : Int) + 3), .int .u8 (a / 256), .int .u8 (a % 256)] 5)) (.slice A n c) b from (by rw [← hW1]; exact (hR.alloc _).alloc _))
  have Z1 := Lib.hid (show Blk (W1.alloc (.cells #[.int .u8 ((n : Int) + 3), .int .u8 (a / 256), .int .u8 (a % 256)] 5)) w.heap.size 30 #[.int .i64 k, .int .u16 a, .slice A n c] from (by rw [← hW1]; exact Blk.alloc (Blk.new w _ _ _) _))
  have B0 := Lib.hid (show Below w.heap.size w W1 from (by rw [← hW1]; exact Below.alloc0 (Below.refl _ _) _))
  have B1 := Lib.hid (Below.alloc0 B0.out (.cells #[.int .u8 ((n : Int) + 3), .int .u8 (a / 256), .int .u8 (a % 256)] 5))
  have hs1 : Hid (w.heap.size + 1 ≤ (W1.alloc (.cells #[.int .u8 ((n : Int) + 3), .int .u8 (a / 256), .int .u8 (a % 256)] 5)).heap.size) := Lib.hid (by simp [hsz])
  have HL3 : Hid ([(n : Int) + 3, a / 256, a % 256] ++ b = lnB a b) := Lib.hid (by unfold lnB; rw [HN.out]; congr 2; omega)
  have HWE := Lib.hid hW1
  clear hR hn hb hW1 o1 hsz hlt
  go_enter Tryd.func7, Tryd.ntmps7
  go_wp2_with (at_builtin; rw [HWE.out]; refine wpList_appY rfl _ (.tmp 19) (.tmp 21) rfl (w.heap.size + 1) _ _ [(n : Int) + 3, a / 256, a % 256] b rfl O1.out rfl R1.out (by rw [HN.out]; simp; omega) hs1.out ?_)
  intro v4 w4 ho4 hb4 hg4 hv4
  have O4 : Hid (eY.Own 5 w4 (w.heap.size + 1) v4 (lnB a b)) := Lib.hid (by rw [← HL3.out]; exact ho4)
  have Z4 := Lib.hid (Blk.below Z1.out hb4 (Nat.lt_succ_self _))
  have B4 := Lib.hid (B1.out.trans (hb4.mono (Nat.le_succ _)))
  have hs4 := Lib.hid (Nat.le_trans hs1.out hb4.size)
  clear ho4 hb4 hg4 hv4 hw3 wq wr tq tr
  have hy4 := lnB_byt ha HBY.out
  obtain ⟨A4, k4, hv4, hc4⟩ := rdY_open O4.out.rd
  have hlen4 : (lnB a b).length = n + 3 := by simp [lnB, HN.out]
  have HLN4 := Lib.hid hlen4
  rw [hlen4] at hv4 hc4
  subst hv4
  obtain ⟨g4, off4, rfl, hg4, hcell⟩ := hc4 (by omega)
  have HC4 := Lib.hid hcell
  have HY4 := Lib.hid hy4
  have hsr := sumAll_range (lnB a b)
  have HLS : Hid (lnB a b ++ [255 - sumAll (lnB a b)] = lnS a b) := Lib.hid rfl
  have HLN := Lib.hid (lnS_len a b)
  have HKK := Lib.hid hk
  have HAA := Lib.hid ha
  clear hcell hy4 hg4 hlen4 hk ha
  go_wp2
  go_loop [4, 5] (fun t i => ∃ (j : Nat) (m : Int), j ≤ n + 3 ∧ i = .int .i64 j ∧ t = .int .i64 m ∧ 0 ≤ m ∧ m ≤ 255 * (j : Int) ∧ Hid (m % 256 = sumAll ((lnB a b).take j))) (fun _ i => n + 3 - (intOf i).toNat)
  case atStart => exact ⟨0, 0, Nat.zero_le _, rfl, rfl, by omega, by omega, Lib.hid rfl⟩
  case round =>
    obtain ⟨j, m, hj, rfl, rfl, m0, m1, hm⟩ := hrel
    by_cases hjn : j < n + 3
    · have hcj := HC4.out j hjn
      obtain ⟨q0, q1⟩ := HY4.out.at_ j
      have HST := Lib.hid (sum_step (lnB a b) j (by rw [HLN4.out]; exact hjn) m hm.out)
      obtain ⟨xj, hxj⟩ : ∃ x, iat (lnB a b) j = x := ⟨_, rfl⟩
      rw [hxj] at hcj q0 q1 HST
      clear hxj
      have jn : (j : Int) < ((n + 3 : Nat) : Int) := by omega
      go_wp2
      go_round
      case rel => exact ⟨j + 1, m + xj, by omega, by go_num, by go_num, by omega, by omega, HST⟩
      case measure => simp [intOf]; omega
    · have HSM : Hid (m % 256 = sumAll (lnB a b)) := Lib.hid (by
        have := hm.out
        rwa [List.take_of_length_le (by rw [HLN4.out]; omega)] at this)
      have htm : Int.tmod m 256 = m % 256 := Int.tmod_eq_emod_of_nonneg m0
      rw [← HSM.out] at HLS
      obtain ⟨SM, hSM⟩ : ∃ S, m % 256 = S := ⟨_, rfl⟩
      have s0 : 0 ≤ SM := by omega
      have s1 : SM < 256 := by omega
      rw [hSM] at htm HLS
      have wS : IntKind.u8.wrap (255 - SM) = 255 - SM := by rw [IntKind.wrap_u8]; omega
      have wS2 : IntKind.i64.wrap (255 - SM) = 255 - SM := IntWalk.i64_in _ (by omega)
      have c0 := Z4.out.c3.1
      have jn : ¬ (j : Int) < ((n + 3 : Nat) : Int) := by omega
      clear hSM HSM hm
      have k0 : 0 ≤ k := by have := HKK.out; omega
      have k1 : k ≤ 9 := by have := HKK.out; omega
      have z1 : (strOfNums [48 + k]).size = 1 := by rw [strOfNums_size]; rfl
      have e1 : (⟨#[83]⟩ : ByteArray) ++ strOfNums [48 + k] = strOfNums [83, 48 + k] := by rw [show (⟨#[83]⟩ : ByteArray) = strOfNums [83] from rfl, strOf_append]; rfl
      have z3 : (strOfNums [83, 48 + k]).size = 2 := by rw [strOfNums_size]; rfl
      go_wp2_with fail
      refine (CD.out _).mono ?_
      rintro e w' ⟨rfl, rfl⟩
      go_wp2_with (at_builtin; refine wpList_appY rfl _ (.tmp 41) (.tmp 46) rfl (w.heap.size + 1) _ _ (lnB a b) [255 - SM] rfl (Els.Own.alloc O4.out _) rfl (rdY_lit1 _ _ _) (by rw [HLN4.out]; simp; omega) (by have := hs4.out; simp; omega) ?_)
      intro v5 w5 ho5 hb5 hg5 hv5
      have O5 : Hid (eY.Own 5 w5 (w.heap.size + 1) v5 (lnS a b)) := Lib.hid (by rw [← HLS.out]; exact ho5)
      have B5 := Lib.hid ((Below.alloc0 B4.out _).trans (hb5.mono (Nat.le_succ _)))
      clear ho5 hb5 hg5 hv5 c0
      obtain ⟨A6, k6, hv6, hI6⟩ := rdY_ints O5.out.rd (lnS_byt HAA.out HBY.out)
      rw [HLN.out, HN.out] at hv6 hI6
      subst hv6
      have CP := Lib.hid (refPairs_any A6 (n + 4) k6 (lnS a b) _ w5 hI6 (by omega))
      have z2 : (strOfNums (pairsOf (lnS a b))).size ≤ 1000 := by rw [strOfNums_size, pairsOf_len, HLN.out, HN.out]; omega
      have HX : Hid (strOfNums [83, 48 + k] ++ strOfNums (pairsOf (lnS a b)) = strOfNums (lnX k a b)) := Lib.hid (by rw [strOf_append]; rfl)
      clear hI6
      generalize strOfNums (pairsOf (lnS a b)) = PS at CP z2 HX
      go_wp2_with (go_at_call 28; refine CP.out.mono ?_; rintro e w7 ⟨rfl, rfl⟩)
      go_ret
      exact ⟨by rw [← HX.out]; rfl, B5.out⟩
end Go.Proofs.YtnmgjgeniaheoabDoor
