/- The law ListsOrders, over numbers. -/
import Derived.Test.YtfkcogccbeolfaaDoorLstL
import Derived.Deep.RegionHeld3
namespace Go.Proofs.YtfkcogccbeolfaaDoor
open Go.ChangeShapes Go.WideShapes Go.ChangeAt Go.RowKit
set_option linter.unusedVariables false

set_option maxRecDepth 100000 in
set_option maxHeartbeats 4000000 in
theorem law_orders (p : Nat) (hp : p < 256) (st : Int) (w : World) (hT : TabAt w) :
    Calls Tryd.prog 9 #[.int .u8 (p : Int), .int .i64 st] w fun e w' => e = .returned (.bool true) ∧ Below w.heap.size w w' := by
  have HT := Lib.hid hT
  have CO := Lib.hid (fun w hT => order_any p hp st w hT)
  have HLn := Lib.hid (ordL_len p (st == 3))
  have CF := Lib.hid (fun w => refOrder_any p hp (st == 3) w)
  have CC := Lib.hid (fun w => count_any p hp w)
  have hn16 := cntN_le p
  obtain ⟨u, hu⟩ : ∃ u, (st == 3) = u := ⟨_, rfl⟩
  rw [hu] at CO CF HLn
  obtain ⟨L, hL⟩ : ∃ L, ordL p u = L := ⟨_, rfl⟩
  rw [hL] at CO CF HLn
  obtain ⟨n, hn⟩ : ∃ n, cntN p = n := ⟨_, rfl⟩
  rw [hn] at HLn CC hn16
  clear hT hp hL hn
  go_enter Tryd.func9, Tryd.ntmps9
  go_wp2_with fail
  refine (CO.out _ HT.out.2).mono ?_
  rintro e w1 ⟨v, rfl, hp1, hb1⟩
  have HP1 := Lib.hid hp1
  have HB1 := Lib.hid hb1
  clear hp1 hb1
  go_wp2_with fail
  refine (CF.out _).mono ?_
  rintro e w2 ⟨v2, rfl, hp2, hb2⟩
  have HP2 := Lib.hid (HP1.out.belowAll hb2)
  have HB2 := Lib.hid (Below.trans0 HB1.out hb2)
  obtain ⟨A2, cap2, rfl, hrd2⟩ := hp2.read
  obtain ⟨A1, cap1, rfl, hrd1⟩ := HP2.out.read
  rw [HLn.out] at hrd1 hrd2
  rw [HLn.out]
  have HR1 := Lib.hid hrd1
  have HR2 := Lib.hid hrd2
  clear hp2 hb2 hrd1 hrd2 HP1 HP2
  have eb : (n == n) = true := by simp
  have ebn : (n != n) = false := by simp
  have ebi : ((n : Int) != (n : Int)) = false := by simp
  go_wp2_with fail
  refine (CC.out _).mono ?_
  rintro e w3 ⟨rfl, hb3⟩
  have HB3 := Lib.hid (Below.trans0 HB2.out hb3)
  have Hb3 := Lib.hid hb3
  clear hb3
  go_wp2
  clear eb ebn ebi
  go_loopw [7] (fun u7 wr => ∃ k : Nat, k ≤ n ∧ u7 = .int .i64 k ∧ Hid (Below w2.heap.size w2 wr) ∧ Hid (Below w.heap.size w wr)) (fun u7 _ => n - (intOf u7).toNat)
  case atStart => exact ⟨0, Nat.zero_le _, rfl, Hb3, HB3⟩
  case round =>
    obtain ⟨k, hk, rfl, Hbr, HBr⟩ := hrel
    by_cases hlt : k < n
    · obtain ⟨g1, cur1, rfl, hg1, hB1, hcap1, hcur1⟩ := HR1.out (by omega)
      obtain ⟨g2, cur2, rfl, hg2, hB2, hcap2, hcur2⟩ := HR2.out (by omega)
      have X1 := Blk.below hB1 Hbr.out hB1.lt
      have X2 := Blk.below hB2 Hbr.out hB2.lt
      have a0 := (X1.cell (k * 2)).trans (hcur1 k hlt).1
      have a1 := (X1.cell (k * 2 + 1)).trans (hcur1 k hlt).2
      have c0 := (X2.cell (k * 2)).trans (hcur2 k hlt).1
      have c1 := (X2.cell (k * 2 + 1)).trans (hcur2 k hlt).2
      have HC := Lib.hid (And.intro (And.intro a0 a1) (And.intro c0 c1))
      have HLt := Lib.hid hlt
      obtain ⟨r, hr⟩ : ∃ r : Int, ((L.getD k (0, false)).1 : Int) = r := ⟨_, rfl⟩
      obtain ⟨b, hb⟩ : ∃ b, (L.getD k (0, false)).2 = b := ⟨_, rfl⟩
      rw [hr, hb] at HC
      clear a0 a1 c0 c1 X1 X2 hB1 hB2 hg1 hg2 hcap1 hcap2 hcur1 hcur2 hr hb
      have k0 : (0 : Int) ≤ (k : Int) := by omega
      have k1 : (k : Int) < (n : Int) := by omega
      have e1 : (r != r) = false := by simp
      have e2 : (b != b) = false := by simp
      go_wp2
      go_region_held3 (fun w' => (w'.cell? ⟨g1, k * 2, none⟩ = some (.int .i64 r) ∧ w'.cell? ⟨g1, k * 2 + 1, none⟩ = some (.bool b)) ∧ (w'.cell? ⟨g2, k * 2, none⟩ = some (.int .i64 r) ∧ w'.cell? ⟨g2, k * 2 + 1, none⟩ = some (.bool b)))
        (exact HC.out) (fail)
      go_wp2
      go_roundw
      case rel => exact ⟨k + 1, by have := HLt.out; omega, by go_num, Lib.hid (Below.drew0 Hbr.out), Lib.hid (Below.drew0 HBr.out)⟩
      case measure => simp [intOf]; omega
    · obtain rfl : k = n := by omega
      go_wp2_with fail
      refine (alive17 _ (HT.out.below HBr.out)).mono ?_
      rintro e w4 ⟨rfl, hb4⟩
      have HB4 := Lib.hid (Below.trans0 HBr.out hb4)
      clear hb4
      go_wp2
      go_ret
      exact ⟨rfl, HB4.out⟩
end Go.Proofs.YtfkcogccbeolfaaDoor
