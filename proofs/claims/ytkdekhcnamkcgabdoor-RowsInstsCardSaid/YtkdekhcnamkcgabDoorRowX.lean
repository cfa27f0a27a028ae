/- RefT, RefU, RefV, RowI, Row0, Knd in one text (made by tools/merge.py). -/
import Derived.Test.YtkdekhcnamkcgabDoorRefS
import Derived.Test.YtkdekhcnamkcgabDoorTblG
import Derived.Test.YtkdekhcnamkcgabDoorLstN
import Derived.Test.YtkdekhcnamkcgabDoorCndRN
import Derived.Test.YtkdekhcnamkcgabDoorRowM
import Derived.Test.YtkdekhcnamkcgabDoorMem
import Derived.Test.YtkdekhcnamkcgabDoorLaidS
import Derived.Test.YtkdekhcnamkcgabDoorPost
namespace Go.Proofs.YtkdekhcnamkcgabDoor
open Go.ChangeShapes Go.WideShapes Go.ChangeAt Go.RowKit
set_option linter.unusedVariables false

abbrev g13 : Array Value := #[.int .i64 12, .int .i64 2, .int .i64 24, .int .i64 5, .int .i64 25, .int .i64 6, .int .i64 29, .int .i64 8, .int .i64 32, .int .i64 9, .int .i64 33, .int .i64 10]
set_option maxRecDepth 100000 in
set_option maxHeartbeats 4000000 in
theorem group13_any (o : Nat) (ho : o < 52) (w : World) :
    Calls Tryd.prog 39 #[.int .i64 (o : Int)] w fun e w' => e = .returned (.int .i64 (grpN (o : Int))) ∧ Below w.heap.size w w' := by
  by_cases h1 : (2 ≤ o ∧ o ≤ 11) ∨ (13 ≤ o ∧ o ≤ 23) ∨ (26 ≤ o ∧ o ≤ 28)
  · rcases (show o = 2 ∨ o = 3 ∨ o = 4 ∨ o = 5 ∨ o = 6 ∨ o = 7 ∨ o = 8 ∨ o = 9 ∨ o = 10 ∨ o = 11 ∨ o = 13 ∨ o = 14 ∨ o = 15 ∨ o = 16 ∨ o = 17 ∨ o = 18 ∨ o = 19 ∨ o = 20 ∨ o = 21 ∨ o = 22 ∨ o = 23 ∨ o = 26 ∨ o = 27 ∨ o = 28 by omega) with rfl | rfl | rfl | rfl | rfl | rfl | rfl | rfl | rfl | rfl | rfl | rfl | rfl | rfl | rfl | rfl | rfl | rfl | rfl | rfl | rfl | rfl | rfl | rfl
    all_goals
      go_enter Tryd.func39, Tryd.ntmps39
      go_wp2
      go_ret
      exact ⟨rfl, by repeat (first | exact Below.refl _ _ | apply Below.alloc0)⟩
  · rcases (show o = 12 ∨ o = 24 ∨ o = 25 ∨ o = 29 ∨ o = 32 ∨ o = 33 ∨ (¬ o = 12 ∧ ¬ o = 24 ∧ ¬ o = 25 ∧ ¬ o = 29 ∧ ¬ o = 32 ∧ ¬ o = 33) by omega) with rfl | rfl | rfl | rfl | rfl | rfl | hno
    · clear h1 ho
      go_enter Tryd.func39, Tryd.ntmps39
      go_wp2
      go_loopw [4] (fun u4 wr => ∃ k : Nat, k ≤ 0 ∧ u4 = .int .i64 k ∧ wr = w.alloc (Obj.cells g13 80)) (fun u4 _ => 7 - (intOf u4).toNat)
      case atStart => exact ⟨0, Nat.zero_le _, rfl, rfl⟩
      case round =>
        obtain ⟨k, hk, rfl, rfl⟩ := hrel
        obtain rfl : k = 0 := by omega
        · go_wp2
          go_ret
          exact ⟨rfl, Below.alloc0 (Below.refl _ _) _⟩
    · clear h1 ho
      go_enter Tryd.func39, Tryd.ntmps39
      go_wp2
      go_loopw [4] (fun u4 wr => ∃ k : Nat, k ≤ 1 ∧ u4 = .int .i64 k ∧ wr = w.alloc (Obj.cells g13 80)) (fun u4 _ => 7 - (intOf u4).toNat)
      case atStart => exact ⟨0, Nat.zero_le _, rfl, rfl⟩
      case round =>
        obtain ⟨k, hk, rfl, rfl⟩ := hrel
        rcases (show k = 0 ∨ k = 1 by omega) with rfl | rfl
        · go_wp2
          exact ⟨⟨1, by omega, rfl, by first | rfl | trivial⟩, by decide⟩
        · go_wp2
          go_ret
          exact ⟨rfl, Below.alloc0 (Below.refl _ _) _⟩
    · clear h1 ho
      go_enter Tryd.func39, Tryd.ntmps39
      go_wp2
      go_loopw [4] (fun u4 wr => ∃ k : Nat, k ≤ 2 ∧ u4 = .int .i64 k ∧ wr = w.alloc (Obj.cells g13 80)) (fun u4 _ => 7 - (intOf u4).toNat)
      case atStart => exact ⟨0, Nat.zero_le _, rfl, rfl⟩
      case round =>
        obtain ⟨k, hk, rfl, rfl⟩ := hrel
        rcases (show k = 0 ∨ k = 1 ∨ k = 2 by omega) with rfl | rfl | rfl
        · go_wp2
          exact ⟨⟨1, by omega, rfl, by first | rfl | trivial⟩, by decide⟩
        · go_wp2
          exact ⟨⟨2, by omega, rfl, by first | rfl | trivial⟩, by decide⟩
        · go_wp2
          go_ret
          exact ⟨rfl, Below.alloc0 (Below.refl _ _) _⟩
    · clear h1 ho
      go_enter Tryd.func39, Tryd.ntmps39
      go_wp2
      go_loopw [4] (fun u4 wr => ∃ k : Nat, k ≤ 3 ∧ u4 = .int .i64 k ∧ wr = w.alloc (Obj.cells g13 80)) (fun u4 _ => 7 - (intOf u4).toNat)
      case atStart => exact ⟨0, Nat.zero_le _, rfl, rfl⟩
      case round =>
        obtain ⟨k, hk, rfl, rfl⟩ := hrel
        rcases (show k = 0 ∨ k = 1 ∨ k = 2 ∨ k = 3 by omega) with rfl | rfl | rfl | rfl
        · go_wp2
          exact ⟨⟨1, by omega, rfl, by first | rfl | trivial⟩, by decide⟩
        · go_wp2
          exact ⟨⟨2, by omega, rfl, by first | rfl | trivial⟩, by decide⟩
        · go_wp2
          exact ⟨⟨3, by omega, rfl, by first | rfl | trivial⟩, by decide⟩
        · go_wp2
          go_ret
          exact ⟨rfl, Below.alloc0 (Below.refl _ _) _⟩
    · clear h1 ho
      go_enter Tryd.func39, Tryd.ntmps39
      go_wp2
      go_loopw [4] (fun u4 wr => ∃ k : Nat, k ≤ 4 ∧ u4 = .int .i64 k ∧ wr = w.alloc (Obj.cells g13 80)) (fun u4 _ => 7 - (intOf u4).toNat)
      case atStart => exact ⟨0, Nat.zero_le _, rfl, rfl⟩
      case round =>
        obtain ⟨k, hk, rfl, rfl⟩ := hrel
        rcases (show k = 0 ∨ k = 1 ∨ k = 2 ∨ k = 3 ∨ k = 4 by omega) with rfl | rfl | rfl | rfl | rfl
        · go_wp2
          exact ⟨⟨1, by omega, rfl, by first | rfl | trivial⟩, by decide⟩
        · go_wp2
          exact ⟨⟨2, by omega, rfl, by first | rfl | trivial⟩, by decide⟩
        · go_wp2
          exact ⟨⟨3, by omega, rfl, by first | rfl | trivial⟩, by decide⟩
        · go_wp2
          exact ⟨⟨4, by omega, rfl, by first | rfl | trivial⟩, by decide⟩
        · go_wp2
          go_ret
          exact ⟨rfl, Below.alloc0 (Below.refl _ _) _⟩
    · clear h1 ho
      go_enter Tryd.func39, Tryd.ntmps39
      go_wp2
      go_loopw [4] (fun u4 wr => ∃ k : Nat, k ≤ 5 ∧ u4 = .int .i64 k ∧ wr = w.alloc (Obj.cells g13 80)) (fun u4 _ => 7 - (intOf u4).toNat)
      case atStart => exact ⟨0, Nat.zero_le _, rfl, rfl⟩
      case round =>
        obtain ⟨k, hk, rfl, rfl⟩ := hrel
        rcases (show k = 0 ∨ k = 1 ∨ k = 2 ∨ k = 3 ∨ k = 4 ∨ k = 5 by omega) with rfl | rfl | rfl | rfl | rfl | rfl
        · go_wp2
          exact ⟨⟨1, by omega, rfl, by first | rfl | trivial⟩, by decide⟩
        · go_wp2
          exact ⟨⟨2, by omega, rfl, by first | rfl | trivial⟩, by decide⟩
        · go_wp2
          exact ⟨⟨3, by omega, rfl, by first | rfl | trivial⟩, by decide⟩
        · go_wp2
          exact ⟨⟨4, by omega, rfl, by first | rfl | trivial⟩, by decide⟩
        · go_wp2
          exact ⟨⟨5, by omega, rfl, by first | rfl | trivial⟩, by decide⟩
        · go_wp2
          go_ret
          exact ⟨rfl, Below.alloc0 (Below.refl _ _) _⟩
    · have hz : grpN (o : Int) = 0 := by unfold grpN; repeat (rw [if_neg (by omega)])
      rw [hz]
      have e22 : ((o : Int) == 22) = false := ne_beq (by omega)
      have e12 : ((12 : Int) == (o : Int)) = false := ne_beq (by omega)
      have e24 : ((24 : Int) == (o : Int)) = false := ne_beq (by omega)
      have e25 : ((25 : Int) == (o : Int)) = false := ne_beq (by omega)
      have e29 : ((29 : Int) == (o : Int)) = false := ne_beq (by omega)
      have e32 : ((32 : Int) == (o : Int)) = false := ne_beq (by omega)
      have e33 : ((33 : Int) == (o : Int)) = false := ne_beq (by omega)
      have hs : o < 2 ∨ (23 < o ∧ o < 26) ∨ 28 < o := by omega
      clear hno h1 hz
      rcases hs with q | ⟨q, q'⟩ | q
      all_goals
        go_enter Tryd.func39, Tryd.ntmps39
        go_wp2
        go_loopw [4] (fun u4 wr => ∃ k : Nat, k ≤ 6 ∧ u4 = .int .i64 k ∧ wr = w.alloc (Obj.cells g13 80)) (fun u4 _ => 7 - (intOf u4).toNat)
        case atStart => exact ⟨0, Nat.zero_le _, rfl, rfl⟩
        case round =>
          obtain ⟨k, hk, rfl, rfl⟩ := hrel
          rcases (show k = 0 ∨ k = 1 ∨ k = 2 ∨ k = 3 ∨ k = 4 ∨ k = 5 ∨ k = 6 by omega) with rfl | rfl | rfl | rfl | rfl | rfl | rfl
          · go_wp2
            exact ⟨⟨1, by omega, rfl, by first | rfl | trivial⟩, by decide⟩
          · go_wp2
            exact ⟨⟨2, by omega, rfl, by first | rfl | trivial⟩, by decide⟩
          · go_wp2
            exact ⟨⟨3, by omega, rfl, by first | rfl | trivial⟩, by decide⟩
          · go_wp2
            exact ⟨⟨4, by omega, rfl, by first | rfl | trivial⟩, by decide⟩
          · go_wp2
            exact ⟨⟨5, by omega, rfl, by first | rfl | trivial⟩, by decide⟩
          · go_wp2
            exact ⟨⟨6, by omega, rfl, by first | rfl | trivial⟩, by decide⟩
          · go_wp2
            go_ret
            exact ⟨rfl, Below.alloc0 (Below.refl _ _) _⟩
def onesTo (b : Nat) : Nat → Nat
  | 0 => 0
  | k + 1 => onesTo b k + (if b / 2 ^ k % 2 = 1 then (if 3 < k then 2 else 1) else 0)
theorem ones_cnt : ((List.range 256).all fun b => Nat.beq (onesTo b 8) (cntN b)) = true := by decide +kernel
theorem onesTo_le (b : Nat) : ∀ k, onesTo b k ≤ 2 * k
  | 0 => by simp [onesTo]
  | k + 1 => by have := onesTo_le b k; unfold onesTo; split <;> (try split) <;> omega
set_option maxRecDepth 100000 in
set_option maxHeartbeats 2000000 in
theorem ones23_any (b : Nat) (hb : b < 256) (w : World) :
    Calls Tryd.prog 41 #[.int .u8 (b : Int)] w fun e w' => e = .returned (.int .i64 (cntN b : Int)) ∧ w = w' := by
  have hc := allB 256 _ ones_cnt b hb
  rw [Nat.beq_eq] at hc
  rw [← hc]
  have HBb := Lib.hid hb
  clear hc hb
  go_enter Tryd.func41, Tryd.ntmps41
  go_wp2
  go_loopw [0, 3, 4] (fun u0 u3 u4 wr => ∃ k : Nat, k ≤ 8 ∧ u4 = .int .i64 k ∧ u3 = .int .i64 (onesTo b k : Int) ∧ u0 = .int .u8 ((b / 2 ^ k : Nat) : Int) ∧ wr = w) (fun _ _ u4 _ => 8 - (intOf u4).toNat)
  case atStart => exact ⟨0, Nat.zero_le _, rfl, rfl, by simp, rfl⟩
  case round =>
    obtain ⟨k, hk, rfl, rfl, rfl, rfl⟩ := hrel
    by_cases hlt : k < 8
    · have hle := onesTo_le b k
      have hst : Hid (onesTo b (k + 1) = onesTo b k + (if b / 2 ^ k % 2 = 1 then (if 3 < k then 2 else 1) else 0)) := Lib.hid rfl
      have hdv : Hid (b / 2 ^ (k + 1) = b / 2 ^ k / 2) := Lib.hid (by rw [Nat.pow_succ, Nat.div_div_eq_div_mul])
      have hx : b / 2 ^ k < 256 := Nat.lt_of_le_of_lt (Nat.div_le_self _ _) HBb.out
      generalize onesTo b k = q at hle hst ⊢
      generalize b / 2 ^ k = x at hst hdv hx ⊢
      have k0 : (0 : Int) ≤ k := by omega
      have k1 : (k : Int) < 8 := by omega
      have q0 : (0 : Int) ≤ q := by omega
      have q1 : (q : Int) ≤ 16 := by omega
      have t1 : (x : Int).tmod 2 = ((x % 2 : Nat) : Int) := by rw [Int.tmod_eq_emod_of_nonneg (by omega)]; omega
      have t2 : (x : Int).tdiv 2 = ((x / 2 : Nat) : Int) := by rw [Int.tdiv_eq_ediv_of_nonneg (by omega)]; omega
      have t3 : IntKind.u8.wrap ((x / 2 : Nat) : Int) = ((x / 2 : Nat) : Int) := by rw [IntKind.wrap_u8]; omega
      have t4 : IntKind.u8.wrap ((x % 2 : Nat) : Int) = ((x % 2 : Nat) : Int) := by rw [IntKind.wrap_u8]; omega
      by_cases e1 : x % 2 = 1
      · by_cases e3 : 3 < k
        · have e3' : decide ((3 : Int) < (k : Int)) = true := decide_eq_true (by omega)
          have e1' : (((x % 2 : Nat) : Int) == 1) = true := by rw [beq_iff_eq]; omega
          rw [if_pos e1, if_pos e3] at hst
          clear e1 e3
          go_wp2
          exact ⟨⟨k + 1, by omega, rfl, vint (by rw [hst.out]; omega), vint (by rw [hdv.out]; omega), by first | rfl | trivial⟩, by simp [intOf]; omega⟩
        · have e3' : decide ((3 : Int) < (k : Int)) = false := decide_eq_false (by omega)
          have e1' : (((x % 2 : Nat) : Int) == 1) = true := by rw [beq_iff_eq]; omega
          rw [if_pos e1, if_neg e3] at hst
          clear e1 e3
          go_wp2
          exact ⟨⟨k + 1, by omega, rfl, vint (by rw [hst.out]; omega), vint (by rw [hdv.out]; omega), by first | rfl | trivial⟩, by simp [intOf]; omega⟩
      · have e1' : (((x % 2 : Nat) : Int) == 1) = false := by rw [beq_eq_false_iff_ne]; omega
        rw [if_neg e1] at hst
        clear e1
        go_wp2
        exact ⟨⟨k + 1, by omega, rfl, vint (by rw [hst.out]; omega), vint (by rw [hdv.out]; omega), by first | rfl | trivial⟩, by simp [intOf]; omega⟩
    · obtain rfl : k = 8 := by omega
      go_wp2
      go_ret
      exact ⟨rfl, rfl⟩


def spO (o : Nat) : Bool := [43, 44, 41, 1, 40, 50, 48, 49, 51, 34, 35, 36, 37, 38, 46, 47, 30, 31].contains o
def spM (o : Nat) : Nat := if o = 43 ∨ o = 44 ∨ o = 41 then 1 else if o = 34 ∨ o = 37 then 6 else if o = 35 ∨ o = 36 ∨ o = 38 then 7 else if o = 46 ∨ o = 47 then 8 else if o = 30 ∨ o = 31 then 9 else 0
def vp (o m : Nat) : Bool := if spO o then decide (m = spM o) else decide (m ≤ 5)
theorem vp_fin : ((List.range 768).all fun j => vp (eOp (pgT j)) (eMode (pgT j)) && Nat.blt (eOp (pgT j)) 52) = true := by decide +kernel
theorem grp_le (o : Int) : 0 ≤ grpN o ∧ grpN o ≤ 10 := by
  unfold grpN
  repeat (first | (split; · simp) | simp)
theorem blkE {w : World} {g : Nat} {t : TypeId} {v0 v1 v2 : Value} (h : Blk w g t #[v0, v1, v2]) : w.cell? ⟨g, 0, none⟩ = some v0 ∧ w.cell? ⟨g, 1, none⟩ = some v1 ∧ w.cell? ⟨g, 2, none⟩ = some v2 := by
  refine ⟨?_, ?_, ?_⟩ <;> (rw [h.cell]; rfl)
theorem many_lit (c : UInt8) (n : Int) (N : Nat) (hn : n = N) (hN : N ≤ 100) : ∃ S : ByteArray, S = strOfNums (rep [(c.toNat : Int)] N) ∧ S.size = N ∧ ∀ w, Calls Tryd.prog 38 #[.string ⟨#[c]⟩, .int .i64 n] w fun e w' => e = .returned (.string S) ∧ w = w' := by
  refine ⟨_, rfl, by rw [size_str, rep_len]; simp, fun w => ?_⟩
  have := many23_any [(c.toNat : Int)] (by simp) n N hn hN w
  have e : strOfNums [(c.toNat : Int)] = ⟨#[c]⟩ := by
    apply ByteArray.ext
    simp [strOfNums]
  rw [e] at this
  exact this
set_option maxRecDepth 100000 in
set_option maxHeartbeats 4000000 in
theorem tl_43 (r b : Nat) (hr : r < 16) (hb : b < 256) (cc : Int) (hcc : CC cc) (w : World) :
    Calls Tryd.prog 12 #[.agg #[.int .i64 43, .int .i64 1, .int .i64 (r : Int)], .int .u8 (b : Int), .int .u8 cc] w fun e w' => e = .returned (.string (strOfNums (tailS 43 1 (grpN 43).toNat (holdsB r cc) (cntN b)))) ∧ Below w.heap.size w w' := by
  obtain ⟨S, hS, hz, hM⟩ := many_lit 85 12 12 rfl (by decide)
  have HS := Lib.hid hS
  have HM := Lib.hid hM
  clear hS hM
  have HB := Lib.hid (Below.alloc0 (Below.refl w.heap.size w) (Obj.cells #[.int .i64 43, .int .i64 1, .int .i64 (r : Int)] 24))
  go_enter Tryd.func12, Tryd.ntmps12
  go_wp2_with fail
  refine (HM.out _).mono ?_
  rintro e w' ⟨rfl, rfl⟩
  go_wp2
  go_ret
  exact ⟨rfl, HB.out⟩
set_option maxRecDepth 100000 in
set_option maxHeartbeats 4000000 in
theorem tl_44 (r b : Nat) (hr : r < 16) (hb : b < 256) (cc : Int) (hcc : CC cc) (w : World) :
    Calls Tryd.prog 12 #[.agg #[.int .i64 44, .int .i64 1, .int .i64 (r : Int)], .int .u8 (b : Int), .int .u8 cc] w fun e w' => e = .returned (.string (strOfNums (tailS 44 1 (grpN 44).toNat (holdsB r cc) (cntN b)))) ∧ Below w.heap.size w w' := by
  obtain ⟨S, hS, hz, hM⟩ := many_lit 85 12 12 rfl (by decide)
  have HS := Lib.hid hS
  have HM := Lib.hid hM
  clear hS hM
  have HB := Lib.hid (Below.alloc0 (Below.refl w.heap.size w) (Obj.cells #[.int .i64 44, .int .i64 1, .int .i64 (r : Int)] 24))
  go_enter Tryd.func12, Tryd.ntmps12
  go_wp2_with fail
  refine (HM.out _).mono ?_
  rintro e w' ⟨rfl, rfl⟩
  go_wp2
  go_ret
  exact ⟨rfl, HB.out⟩
set_option maxRecDepth 100000 in
set_option maxHeartbeats 4000000 in
theorem tl_41 (r b : Nat) (hr : r < 16) (hb : b < 256) (cc : Int) (hcc : CC cc) (w : World) :
    Calls Tryd.prog 12 #[.agg #[.int .i64 41, .int .i64 1, .int .i64 (r : Int)], .int .u8 (b : Int), .int .u8 cc] w fun e w' => e = .returned (.string (strOfNums (tailS 41 1 (grpN 41).toNat (holdsB r cc) (cntN b)))) ∧ Below w.heap.size w w' := by
  obtain ⟨S, hS, hz, hM⟩ := many_lit 85 12 12 rfl (by decide)
  have HS := Lib.hid hS
  have HM := Lib.hid hM
  clear hS hM
  have HB := Lib.hid (Below.alloc0 (Below.refl w.heap.size w) (Obj.cells #[.int .i64 41, .int .i64 1, .int .i64 (r : Int)] 24))
  go_enter Tryd.func12, Tryd.ntmps12
  go_wp2_with fail
  refine (HM.out _).mono ?_
  rintro e w' ⟨rfl, rfl⟩
  go_wp2_with fail
  refine (HM.out _).mono ?_
  rintro e w' ⟨rfl, rfl⟩
  go_wp2
  go_ret
  exact ⟨ret_str (by rw [HS.out, show (⟨#[78, 73]⟩ : ByteArray) = strOfNums [78, 73] from rfl, strOf_append]; rfl), HB.out⟩
set_option maxRecDepth 100000 in
set_option maxHeartbeats 4000000 in
theorem tl_1 (r b : Nat) (hr : r < 16) (hb : b < 256) (cc : Int) (hcc : CC cc) (w : World) :
    Calls Tryd.prog 12 #[.agg #[.int .i64 1, .int .i64 0, .int .i64 (r : Int)], .int .u8 (b : Int), .int .u8 cc] w fun e w' => e = .returned (.string (strOfNums (tailS 1 0 (grpN 1).toNat (holdsB r cc) (cntN b)))) ∧ Below w.heap.size w w' := by
  obtain ⟨S, hS, hz, hM⟩ := many_lit 85 12 12 rfl (by decide)
  have HS := Lib.hid hS
  have HM := Lib.hid hM
  clear hS hM
  have HB := Lib.hid (Below.alloc0 (Below.refl w.heap.size w) (Obj.cells #[.int .i64 1, .int .i64 0, .int .i64 (r : Int)] 24))
  go_enter Tryd.func12, Tryd.ntmps12
  go_wp2_with fail
  refine (HM.out _).mono ?_
  rintro e w' ⟨rfl, rfl⟩
  go_wp2
  go_ret
  exact ⟨rfl, HB.out⟩
set_option maxRecDepth 100000 in
set_option maxHeartbeats 4000000 in
theorem tl_40 (r b : Nat) (hr : r < 16) (hb : b < 256) (cc : Int) (hcc : CC cc) (w : World) :
    Calls Tryd.prog 12 #[.agg #[.int .i64 40, .int .i64 0, .int .i64 (r : Int)], .int .u8 (b : Int), .int .u8 cc] w fun e w' => e = .returned (.string (strOfNums (tailS 40 0 (grpN 40).toNat (holdsB r cc) (cntN b)))) ∧ Below w.heap.size w w' := by
  obtain ⟨S, hS, hz, hM⟩ := many_lit 85 12 12 rfl (by decide)
  have HS := Lib.hid hS
  have HM := Lib.hid hM
  clear hS hM
  have HB := Lib.hid (Below.alloc0 (Below.refl w.heap.size w) (Obj.cells #[.int .i64 40, .int .i64 0, .int .i64 (r : Int)] 24))
  go_enter Tryd.func12, Tryd.ntmps12
  go_wp2_with fail
  refine (HM.out _).mono ?_
  rintro e w' ⟨rfl, rfl⟩
  go_wp2
  go_ret
  exact ⟨rfl, HB.out⟩
set_option maxRecDepth 100000 in
set_option maxHeartbeats 4000000 in
theorem tl_50 (r b : Nat) (hr : r < 16) (hb : b < 256) (cc : Int) (hcc : CC cc) (w : World) :
    Calls Tryd.prog 12 #[.agg #[.int .i64 50, .int .i64 0, .int .i64 (r : Int)], .int .u8 (b : Int), .int .u8 cc] w fun e w' => e = .returned (.string (strOfNums (tailS 50 0 (grpN 50).toNat (holdsB r cc) (cntN b)))) ∧ Below w.heap.size w w' := by
  obtain ⟨S, hS, hz, hM⟩ := many_lit 85 12 12 rfl (by decide)
  have HS := Lib.hid hS
  have HM := Lib.hid hM
  clear hS hM
  have HB := Lib.hid (Below.alloc0 (Below.refl w.heap.size w) (Obj.cells #[.int .i64 50, .int .i64 0, .int .i64 (r : Int)] 24))
  obtain ⟨S2, hS2, hz2, hM2⟩ := many_lit 73 9 9 rfl (by decide)
  have HS2 := Lib.hid hS2
  have HM2 := Lib.hid hM2
  clear hS2 hM2
  go_enter Tryd.func12, Tryd.ntmps12
  go_wp2_with fail
  refine (HM.out _).mono ?_
  rintro e w' ⟨rfl, rfl⟩
  go_wp2_with fail
  refine (HM2.out _).mono ?_
  rintro e w' ⟨rfl, rfl⟩
  go_wp2
  go_ret
  exact ⟨ret_str (by rw [HS2.out, show (⟨#[78]⟩ : ByteArray) = strOfNums [78] from rfl, strOf_append]; rfl), HB.out⟩
set_option maxRecDepth 100000 in
set_option maxHeartbeats 4000000 in
theorem tl_48 (r b : Nat) (hr : r < 16) (hb : b < 256) (cc : Int) (hcc : CC cc) (w : World) :
    Calls Tryd.prog 12 #[.agg #[.int .i64 48, .int .i64 0, .int .i64 (r : Int)], .int .u8 (b : Int), .int .u8 cc] w fun e w' => e = .returned (.string (strOfNums (tailS 48 0 (grpN 48).toNat (holdsB r cc) (cntN b)))) ∧ Below w.heap.size w w' := by
  obtain ⟨S, hS, hz, hM⟩ := many_lit 85 12 12 rfl (by decide)
  have HS := Lib.hid hS
  have HM := Lib.hid hM
  clear hS hM
  have HB := Lib.hid (Below.alloc0 (Below.refl w.heap.size w) (Obj.cells #[.int .i64 48, .int .i64 0, .int .i64 (r : Int)] 24))
  go_enter Tryd.func12, Tryd.ntmps12
  go_wp2_with fail
  refine (HM.out _).mono ?_
  rintro e w' ⟨rfl, rfl⟩
  go_wp2
  go_ret
  exact ⟨rfl, HB.out⟩
set_option maxRecDepth 100000 in
set_option maxHeartbeats 4000000 in
theorem tl_49 (r b : Nat) (hr : r < 16) (hb : b < 256) (cc : Int) (hcc : CC cc) (w : World) :
    Calls Tryd.prog 12 #[.agg #[.int .i64 49, .int .i64 0, .int .i64 (r : Int)], .int .u8 (b : Int), .int .u8 cc] w fun e w' => e = .returned (.string (strOfNums (tailS 49 0 (grpN 49).toNat (holdsB r cc) (cntN b)))) ∧ Below w.heap.size w w' := by
  obtain ⟨S, hS, hz, hM⟩ := many_lit 85 12 12 rfl (by decide)
  have HS := Lib.hid hS
  have HM := Lib.hid hM
  clear hS hM
  have HB := Lib.hid (Below.alloc0 (Below.refl w.heap.size w) (Obj.cells #[.int .i64 49, .int .i64 0, .int .i64 (r : Int)] 24))
  go_enter Tryd.func12, Tryd.ntmps12
  go_wp2_with fail
  refine (HM.out _).mono ?_
  rintro e w' ⟨rfl, rfl⟩
  go_wp2
  go_ret
  exact ⟨rfl, HB.out⟩
set_option maxRecDepth 100000 in
set_option maxHeartbeats 4000000 in
theorem tl_51 (r b : Nat) (hr : r < 16) (hb : b < 256) (cc : Int) (hcc : CC cc) (w : World) :
    Calls Tryd.prog 12 #[.agg #[.int .i64 51, .int .i64 0, .int .i64 (r : Int)], .int .u8 (b : Int), .int .u8 cc] w fun e w' => e = .returned (.string (strOfNums (tailS 51 0 (grpN 51).toNat (holdsB r cc) (cntN b)))) ∧ Below w.heap.size w w' := by
  obtain ⟨S, hS, hz, hM⟩ := many_lit 85 12 12 rfl (by decide)
  have HS := Lib.hid hS
  have HM := Lib.hid hM
  clear hS hM
  have HB := Lib.hid (Below.alloc0 (Below.refl w.heap.size w) (Obj.cells #[.int .i64 51, .int .i64 0, .int .i64 (r : Int)] 24))
  go_enter Tryd.func12, Tryd.ntmps12
  go_wp2_with fail
  refine (HM.out _).mono ?_
  rintro e w' ⟨rfl, rfl⟩
  go_wp2
  go_ret
  exact ⟨ret_str (by rw [HS.out, show (⟨#[78]⟩ : ByteArray) = strOfNums [78] from rfl, show (⟨#[73]⟩ : ByteArray) = strOfNums [73] from rfl, show (⟨#[73, 43, 86, 86, 73]⟩ : ByteArray) = strOfNums [73, 43, 86, 86, 73] from rfl, strOf_append, strOf_append, strOf_append]; rfl), HB.out⟩
set_option maxRecDepth 100000 in
set_option maxHeartbeats 4000000 in
theorem tl_34 (r b : Nat) (hr : r < 16) (hb : b < 256) (cc : Int) (hcc : CC cc) (w : World) :
    Calls Tryd.prog 12 #[.agg #[.int .i64 34, .int .i64 6, .int .i64 (r : Int)], .int .u8 (b : Int), .int .u8 cc] w fun e w' => e = .returned (.string (strOfNums (tailS 34 6 (grpN 34).toNat (holdsB r cc) (cntN b)))) ∧ Below w.heap.size w w' := by
  obtain ⟨S, hS, hz, hM⟩ := many_lit 85 12 12 rfl (by decide)
  have HS := Lib.hid hS
  have HM := Lib.hid hM
  clear hS hM
  have HB := Lib.hid (Below.alloc0 (Below.refl w.heap.size w) (Obj.cells #[.int .i64 34, .int .i64 6, .int .i64 (r : Int)] 24))
  go_enter Tryd.func12, Tryd.ntmps12
  go_wp2_with fail
  refine (HM.out _).mono ?_
  rintro e w' ⟨rfl, rfl⟩
  go_wp2
  go_ret
  exact ⟨rfl, HB.out⟩
set_option maxRecDepth 100000 in
set_option maxHeartbeats 4000000 in
theorem tl_35 (r b : Nat) (hr : r < 16) (hb : b < 256) (cc : Int) (hcc : CC cc) (w : World) :
    Calls Tryd.prog 12 #[.agg #[.int .i64 35, .int .i64 7, .int .i64 (r : Int)], .int .u8 (b : Int), .int .u8 cc] w fun e w' => e = .returned (.string (strOfNums (tailS 35 7 (grpN 35).toNat (holdsB r cc) (cntN b)))) ∧ Below w.heap.size w w' := by
  obtain ⟨S, hS, hz, hM⟩ := many_lit 85 12 12 rfl (by decide)
  have HS := Lib.hid hS
  have HM := Lib.hid hM
  clear hS hM
  have HB := Lib.hid (Below.alloc0 (Below.refl w.heap.size w) (Obj.cells #[.int .i64 35, .int .i64 7, .int .i64 (r : Int)] 24))
  have CH := Lib.hid (fun w => refHolds_in r cc w hr hcc)
  generalize holdsB r cc = h at CH ⊢
  cases h
  · go_enter Tryd.func12, Tryd.ntmps12
    go_wp2_with fail
    refine (HM.out _).mono ?_
    rintro e w' ⟨rfl, rfl⟩
    go_wp2_with fail
    refine (CH.out _).mono ?_
    rintro e w1 ⟨rfl, hb1⟩
    have HE := Lib.hid (Blk.below (Blk.new w 24 #[.int .i64 35, .int .i64 7, .int .i64 (r : Int)] (0, 0)) hb1 (by simp))
    replace HB := Lib.hid (Below.trans0 HB.out hb1)
    clear hb1
    obtain ⟨c0, c1, c2⟩ := blkE HE.out
    go_wp2
    go_ret
    exact ⟨rfl, HB.out⟩
  · go_enter Tryd.func12, Tryd.ntmps12
    go_wp2_with fail
    refine (HM.out _).mono ?_
    rintro e w' ⟨rfl, rfl⟩
    go_wp2_with fail
    refine (CH.out _).mono ?_
    rintro e w1 ⟨rfl, hb1⟩
    have HE := Lib.hid (Blk.below (Blk.new w 24 #[.int .i64 35, .int .i64 7, .int .i64 (r : Int)] (0, 0)) hb1 (by simp))
    replace HB := Lib.hid (Below.trans0 HB.out hb1)
    clear hb1
    obtain ⟨c0, c1, c2⟩ := blkE HE.out
    go_wp2
    go_ret
    exact ⟨rfl, HB.out⟩
set_option maxRecDepth 100000 in
set_option maxHeartbeats 4000000 in
theorem tl_36 (r b : Nat) (hr : r < 16) (hb : b < 256) (cc : Int) (hcc : CC cc) (w : World) :
    Calls Tryd.prog 12 #[.agg #[.int .i64 36, .int .i64 7, .int .i64 (r : Int)], .int .u8 (b : Int), .int .u8 cc] w fun e w' => e = .returned (.string (strOfNums (tailS 36 7 (grpN 36).toNat (holdsB r cc) (cntN b)))) ∧ Below w.heap.size w w' := by
  obtain ⟨S, hS, hz, hM⟩ := many_lit 85 12 12 rfl (by decide)
  have HS := Lib.hid hS
  have HM := Lib.hid hM
  clear hS hM
  have HB := Lib.hid (Below.alloc0 (Below.refl w.heap.size w) (Obj.cells #[.int .i64 36, .int .i64 7, .int .i64 (r : Int)] 24))
  go_enter Tryd.func12, Tryd.ntmps12
  go_wp2_with fail
  refine (HM.out _).mono ?_
  rintro e w' ⟨rfl, rfl⟩
  go_wp2
  go_ret
  exact ⟨rfl, HB.out⟩
set_option maxRecDepth 100000 in
set_option maxHeartbeats 4000000 in
theorem tl_37 (r b : Nat) (hr : r < 16) (hb : b < 256) (cc : Int) (hcc : CC cc) (w : World) :
    Calls Tryd.prog 12 #[.agg #[.int .i64 37, .int .i64 6, .int .i64 (r : Int)], .int .u8 (b : Int), .int .u8 cc] w fun e w' => e = .returned (.string (strOfNums (tailS 37 6 (grpN 37).toNat (holdsB r cc) (cntN b)))) ∧ Below w.heap.size w w' := by
  obtain ⟨S, hS, hz, hM⟩ := many_lit 85 12 12 rfl (by decide)
  have HS := Lib.hid hS
  have HM := Lib.hid hM
  clear hS hM
  have HB := Lib.hid (Below.alloc0 (Below.refl w.heap.size w) (Obj.cells #[.int .i64 37, .int .i64 6, .int .i64 (r : Int)] 24))
  go_enter Tryd.func12, Tryd.ntmps12
  go_wp2_with fail
  refine (HM.out _).mono ?_
  rintro e w' ⟨rfl, rfl⟩
  go_wp2
  go_ret
  exact ⟨rfl, HB.out⟩
set_option maxRecDepth 100000 in
set_option maxHeartbeats 4000000 in
theorem tl_38 (r b : Nat) (hr : r < 16) (hb : b < 256) (cc : Int) (hcc : CC cc) (w : World) :
    Calls Tryd.prog 12 #[.agg #[.int .i64 38, .int .i64 7, .int .i64 (r : Int)], .int .u8 (b : Int), .int .u8 cc] w fun e w' => e = .returned (.string (strOfNums (tailS 38 7 (grpN 38).toNat (holdsB r cc) (cntN b)))) ∧ Below w.heap.size w w' := by
  obtain ⟨S, hS, hz, hM⟩ := many_lit 85 12 12 rfl (by decide)
  have HS := Lib.hid hS
  have HM := Lib.hid hM
  clear hS hM
  have HB := Lib.hid (Below.alloc0 (Below.refl w.heap.size w) (Obj.cells #[.int .i64 38, .int .i64 7, .int .i64 (r : Int)] 24))
  go_enter Tryd.func12, Tryd.ntmps12
  go_wp2_with fail
  refine (HM.out _).mono ?_
  rintro e w' ⟨rfl, rfl⟩
  go_wp2
  go_ret
  exact ⟨rfl, HB.out⟩
set_option maxRecDepth 100000 in
set_option maxHeartbeats 4000000 in
theorem tl_46 (r b : Nat) (hr : r < 16) (hb : b < 256) (cc : Int) (hcc : CC cc) (w : World) :
    Calls Tryd.prog 12 #[.agg #[.int .i64 46, .int .i64 8, .int .i64 (r : Int)], .int .u8 (b : Int), .int .u8 cc] w fun e w' => e = .returned (.string (strOfNums (tailS 46 8 (grpN 46).toNat (holdsB r cc) (cntN b)))) ∧ Below w.heap.size w w' := by
  obtain ⟨S, hS, hz, hM⟩ := many_lit 85 12 12 rfl (by decide)
  have HS := Lib.hid hS
  have HM := Lib.hid hM
  clear hS hM
  have HB := Lib.hid (Below.alloc0 (Below.refl w.heap.size w) (Obj.cells #[.int .i64 46, .int .i64 8, .int .i64 (r : Int)] 24))
  obtain ⟨S2, hS2, hz2, hM2⟩ := many_lit 73 6 6 rfl (by decide)
  have HS2 := Lib.hid hS2
  have HM2 := Lib.hid hM2
  clear hS2 hM2
  go_enter Tryd.func12, Tryd.ntmps12
  go_wp2_with fail
  refine (HM.out _).mono ?_
  rintro e w' ⟨rfl, rfl⟩
  go_wp2_with fail
  refine (HM2.out _).mono ?_
  rintro e w' ⟨rfl, rfl⟩
  go_wp2
  go_ret
  exact ⟨ret_str (by rw [HS2.out]; rfl), HB.out⟩
set_option maxRecDepth 100000 in
set_option maxHeartbeats 4000000 in
theorem tl_47 (r b : Nat) (hr : r < 16) (hb : b < 256) (cc : Int) (hcc : CC cc) (w : World) :
    Calls Tryd.prog 12 #[.agg #[.int .i64 47, .int .i64 8, .int .i64 (r : Int)], .int .u8 (b : Int), .int .u8 cc] w fun e w' => e = .returned (.string (strOfNums (tailS 47 8 (grpN 47).toNat (holdsB r cc) (cntN b)))) ∧ Below w.heap.size w w' := by
  obtain ⟨S, hS, hz, hM⟩ := many_lit 85 12 12 rfl (by decide)
  have HS := Lib.hid hS
  have HM := Lib.hid hM
  clear hS hM
  have HB := Lib.hid (Below.alloc0 (Below.refl w.heap.size w) (Obj.cells #[.int .i64 47, .int .i64 8, .int .i64 (r : Int)] 24))
  obtain ⟨S2, hS2, hz2, hM2⟩ := many_lit 73 4 4 rfl (by decide)
  have HS2 := Lib.hid hS2
  have HM2 := Lib.hid hM2
  clear hS2 hM2
  go_enter Tryd.func12, Tryd.ntmps12
  go_wp2_with fail
  refine (HM.out _).mono ?_
  rintro e w' ⟨rfl, rfl⟩
  go_wp2_with fail
  refine (HM2.out _).mono ?_
  rintro e w' ⟨rfl, rfl⟩
  go_wp2
  go_ret
  exact ⟨ret_str (by rw [HS2.out]; rfl), HB.out⟩
set_option maxRecDepth 100000 in
set_option maxHeartbeats 4000000 in
theorem tl_30 (r b : Nat) (hr : r < 16) (hb : b < 256) (cc : Int) (hcc : CC cc) (w : World) :
    Calls Tryd.prog 12 #[.agg #[.int .i64 30, .int .i64 9, .int .i64 (r : Int)], .int .u8 (b : Int), .int .u8 cc] w fun e w' => e = .returned (.string (strOfNums (tailS 30 9 (grpN 30).toNat (holdsB r cc) (cntN b)))) ∧ Below w.heap.size w w' := by
  obtain ⟨S, hS, hz, hM⟩ := many_lit 85 12 12 rfl (by decide)
  have HS := Lib.hid hS
  have HM := Lib.hid hM
  clear hS hM
  have HB := Lib.hid (Below.alloc0 (Below.refl w.heap.size w) (Obj.cells #[.int .i64 30, .int .i64 9, .int .i64 (r : Int)] 24))
  have hn : cntN b ≤ 100 := by have : cntN b ≤ 16 := upP_len b false 8; omega
  obtain ⟨S2, hS2, hz2, hM2⟩ := many_lit 85 (cntN b : Int) (cntN b) rfl hn
  have CN := Lib.hid (fun w => ones23_any b hb w)
  generalize cntN b = N at CN hS2 hz2 hM2 hn ⊢
  have HS2 := Lib.hid hS2
  have HM2 := Lib.hid hM2
  have y1 : ¬ 9223372036854775807 < 3 + S2.size := by omega
  have y2 : ¬ 9223372036854775807 < 2 + S2.size := by omega
  have y3 : ¬ 9223372036854775807 < 2 + S2.size + 1 := by omega
  clear hS2 hM2 hn hz2
  go_enter Tryd.func12, Tryd.ntmps12
  go_wp2_with fail
  refine (HM.out _).mono ?_
  rintro e w' ⟨rfl, rfl⟩
  go_wp2_with fail
  refine (CN.out _).mono ?_
  rintro e w' ⟨rfl, rfl⟩
  go_wp2_with fail
  refine (HM2.out _).mono ?_
  rintro e w' ⟨rfl, rfl⟩
  go_wp2
  go_ret
  exact ⟨ret_str (by rw [HS2.out, show (⟨#[73, 73, 75]⟩ : ByteArray) = strOfNums [73, 73, 75] from rfl, strOf_append]; rfl), HB.out⟩
set_option maxRecDepth 100000 in
set_option maxHeartbeats 4000000 in
theorem tl_31 (r b : Nat) (hr : r < 16) (hb : b < 256) (cc : Int) (hcc : CC cc) (w : World) :
    Calls Tryd.prog 12 #[.agg #[.int .i64 31, .int .i64 9, .int .i64 (r : Int)], .int .u8 (b : Int), .int .u8 cc] w fun e w' => e = .returned (.string (strOfNums (tailS 31 9 (grpN 31).toNat (holdsB r cc) (cntN b)))) ∧ Below w.heap.size w w' := by
  obtain ⟨S, hS, hz, hM⟩ := many_lit 85 12 12 rfl (by decide)
  have HS := Lib.hid hS
  have HM := Lib.hid hM
  clear hS hM
  have HB := Lib.hid (Below.alloc0 (Below.refl w.heap.size w) (Obj.cells #[.int .i64 31, .int .i64 9, .int .i64 (r : Int)] 24))
  have hn : cntN b ≤ 100 := by have : cntN b ≤ 16 := upP_len b false 8; omega
  obtain ⟨S2, hS2, hz2, hM2⟩ := many_lit 68 (cntN b : Int) (cntN b) rfl hn
  have CN := Lib.hid (fun w => ones23_any b hb w)
  generalize cntN b = N at CN hS2 hz2 hM2 hn ⊢
  have HS2 := Lib.hid hS2
  have HM2 := Lib.hid hM2
  have y1 : ¬ 9223372036854775807 < 3 + S2.size := by omega
  have y2 : ¬ 9223372036854775807 < 2 + S2.size := by omega
  have y3 : ¬ 9223372036854775807 < 2 + S2.size + 1 := by omega
  clear hS2 hM2 hn hz2
  go_enter Tryd.func12, Tryd.ntmps12
  go_wp2_with fail
  refine (HM.out _).mono ?_
  rintro e w' ⟨rfl, rfl⟩
  go_wp2_with fail
  refine (CN.out _).mono ?_
  rintro e w' ⟨rfl, rfl⟩
  go_wp2_with fail
  refine (HM2.out _).mono ?_
  rintro e w' ⟨rfl, rfl⟩
  go_wp2
  go_ret
  exact ⟨ret_str (by rw [HS2.out, show (⟨#[73, 73]⟩ : ByteArray) = strOfNums [73, 73] from rfl, show (⟨#[75]⟩ : ByteArray) = strOfNums [75] from rfl, strOf_append, strOf_append]; rfl), HB.out⟩
set_option maxRecDepth 100000 in
set_option maxHeartbeats 4000000 in
theorem tl_mem (o m : Nat) (ho : o < 52) (r b : Nat) (hr : r < 16) (hb : b < 256) (cc : Int) (hcc : CC cc) (hm : 3 ≤ m ∧ m ≤ 5) (w : World) :
    Calls Tryd.prog 12 #[.agg #[.int .i64 (o : Int), .int .i64 (m : Int), .int .i64 (r : Int)], .int .u8 (b : Int), .int .u8 cc] w fun e w' => e = .returned (.string (strOfNums (tailS o m (grpN (o : Int)).toNat (holdsB r cc) (cntN b)))) ∧ Below w.heap.size w w' := by
  obtain ⟨S, hS, hz, hM⟩ := many_lit 85 12 12 rfl (by decide)
  have HS := Lib.hid hS
  have HM := Lib.hid hM
  clear hS hM
  have HB := Lib.hid (Below.alloc0 (Below.refl w.heap.size w) (Obj.cells #[.int .i64 (o : Int), .int .i64 (m : Int), .int .i64 (r : Int)] 24))
  have CG := Lib.hid (fun w => group13_any o ho w)
  obtain ⟨g0, g1⟩ := grp_le (o : Int)
  obtain ⟨g, hg⟩ := Int.eq_ofNat_of_zero_le g0
  rw [hg] at CG g1
  have hT : tailS o m (grpN (o : Int)).toNat (holdsB r cc) (cntN b) = memS g := by
    unfold tailS
    rw [if_pos (by omega), hg, Int.toNat_natCast]
  rw [hT]
  have d1 : decide ((3 : Int) ≤ (m : Int)) = true := decide_eq_true (by omega)
  have d2 : decide ((m : Int) ≤ 5) = true := decide_eq_true (by omega)
  have LT := Lib.hid (show w.heap.size + 1 = (w.alloc (Obj.cells #[.int .i64 (o : Int), .int .i64 (m : Int), .int .i64 (r : Int)] 24)).heap.size by simp)
  clear hT hg g0 hm
  rcases (show g = 0 ∨ g = 1 ∨ g = 2 ∨ g = 3 ∨ g = 4 ∨ g = 5 ∨ g = 6 ∨ g = 7 ∨ g = 8 ∨ g = 9 ∨ g = 10 by omega) with rfl | rfl | rfl | rfl | rfl | rfl | rfl | rfl | rfl | rfl | rfl
  · go_enter Tryd.func12, Tryd.ntmps12
    go_wp2_with fail
    refine (HM.out _).mono ?_
    rintro e w' ⟨rfl, rfl⟩
    go_wp2_with fail
    refine (CG.out _).mono ?_
    rintro e w1 ⟨rfl, hb1⟩
    have HL := Lib.hid (Blk.below (Blk.new (w.alloc (Obj.cells #[.int .i64 (o : Int), .int .i64 (m : Int), .int .i64 (r : Int)] 24)) 61 #[.string ⟨#[]⟩, .string ⟨#[76]⟩, .string ⟨#[83]⟩, .string ⟨#[43, 76, 43, 73, 83]⟩, .string ⟨#[76, 73, 73]⟩, .string ⟨#[43, 76, 76]⟩, .string ⟨#[43, 83, 83]⟩, .string ⟨#[43, 76, 76, 73]⟩, .string ⟨#[73]⟩, .string ⟨#[]⟩, .string ⟨#[80, 73, 85, 85]⟩] (0, 0)) hb1 (by simp))
    have cg := HL.out.cell 0
    rw [← LT.out] at cg
    replace HB := Lib.hid (Below.trans0 (Below.alloc0 HB.out (Obj.cells #[.string ⟨#[]⟩, .string ⟨#[76]⟩, .string ⟨#[83]⟩, .string ⟨#[43, 76, 43, 73, 83]⟩, .string ⟨#[76, 73, 73]⟩, .string ⟨#[43, 76, 76]⟩, .string ⟨#[43, 83, 83]⟩, .string ⟨#[43, 76, 76, 73]⟩, .string ⟨#[73]⟩, .string ⟨#[]⟩, .string ⟨#[80, 73, 85, 85]⟩] 61)) hb1)
    clear hb1
    simp only [List.getElem?_toArray, List.getElem?_cons_zero] at cg
    go_wp2
    go_ret
    exact ⟨rfl, HB.out⟩
  · go_enter Tryd.func12, Tryd.ntmps12
    go_wp2_with fail
    refine (HM.out _).mono ?_
    rintro e w' ⟨rfl, rfl⟩
    go_wp2_with fail
    refine (CG.out _).mono ?_
    rintro e w1 ⟨rfl, hb1⟩
    have HL := Lib.hid (Blk.below (Blk.new (w.alloc (Obj.cells #[.int .i64 (o : Int), .int .i64 (m : Int), .int .i64 (r : Int)] 24)) 61 #[.string ⟨#[]⟩, .string ⟨#[76]⟩, .string ⟨#[83]⟩, .string ⟨#[43, 76, 43, 73, 83]⟩, .string ⟨#[76, 73, 73]⟩, .string ⟨#[43, 76, 76]⟩, .string ⟨#[43, 83, 83]⟩, .string ⟨#[43, 76, 76, 73]⟩, .string ⟨#[73]⟩, .string ⟨#[]⟩, .string ⟨#[80, 73, 85, 85]⟩] (0, 0)) hb1 (by simp))
    have cg := HL.out.cell 1
    rw [← LT.out] at cg
    replace HB := Lib.hid (Below.trans0 (Below.alloc0 HB.out (Obj.cells #[.string ⟨#[]⟩, .string ⟨#[76]⟩, .string ⟨#[83]⟩, .string ⟨#[43, 76, 43, 73, 83]⟩, .string ⟨#[76, 73, 73]⟩, .string ⟨#[43, 76, 76]⟩, .string ⟨#[43, 83, 83]⟩, .string ⟨#[43, 76, 76, 73]⟩, .string ⟨#[73]⟩, .string ⟨#[]⟩, .string ⟨#[80, 73, 85, 85]⟩] 61)) hb1)
    clear hb1
    simp only [List.getElem?_toArray, List.getElem?_cons_zero, List.getElem?_cons_succ] at cg
    go_wp2
    go_ret
    exact ⟨rfl, HB.out⟩
  · go_enter Tryd.func12, Tryd.ntmps12
    go_wp2_with fail
    refine (HM.out _).mono ?_
    rintro e w' ⟨rfl, rfl⟩
    go_wp2_with fail
    refine (CG.out _).mono ?_
    rintro e w1 ⟨rfl, hb1⟩
    have HL := Lib.hid (Blk.below (Blk.new (w.alloc (Obj.cells #[.int .i64 (o : Int), .int .i64 (m : Int), .int .i64 (r : Int)] 24)) 61 #[.string ⟨#[]⟩, .string ⟨#[76]⟩, .string ⟨#[83]⟩, .string ⟨#[43, 76, 43, 73, 83]⟩, .string ⟨#[76, 73, 73]⟩, .string ⟨#[43, 76, 76]⟩, .string ⟨#[43, 83, 83]⟩, .string ⟨#[43, 76, 76, 73]⟩, .string ⟨#[73]⟩, .string ⟨#[]⟩, .string ⟨#[80, 73, 85, 85]⟩] (0, 0)) hb1 (by simp))
    have cg := HL.out.cell 2
    rw [← LT.out] at cg
    replace HB := Lib.hid (Below.trans0 (Below.alloc0 HB.out (Obj.cells #[.string ⟨#[]⟩, .string ⟨#[76]⟩, .string ⟨#[83]⟩, .string ⟨#[43, 76, 43, 73, 83]⟩, .string ⟨#[76, 73, 73]⟩, .string ⟨#[43, 76, 76]⟩, .string ⟨#[43, 83, 83]⟩, .string ⟨#[43, 76, 76, 73]⟩, .string ⟨#[73]⟩, .string ⟨#[]⟩, .string ⟨#[80, 73, 85, 85]⟩] 61)) hb1)
    clear hb1
    simp only [List.getElem?_toArray, List.getElem?_cons_zero, List.getElem?_cons_succ] at cg
    go_wp2
    go_ret
    exact ⟨rfl, HB.out⟩
  · go_enter Tryd.func12, Tryd.ntmps12
    go_wp2_with fail
    refine (HM.out _).mono ?_
    rintro e w' ⟨rfl, rfl⟩
    go_wp2_with fail
    refine (CG.out _).mono ?_
    rintro e w1 ⟨rfl, hb1⟩
    have HL := Lib.hid (Blk.below (Blk.new (w.alloc (Obj.cells #[.int .i64 (o : Int), .int .i64 (m : Int), .int .i64 (r : Int)] 24)) 61 #[.string ⟨#[]⟩, .string ⟨#[76]⟩, .string ⟨#[83]⟩, .string ⟨#[43, 76, 43, 73, 83]⟩, .string ⟨#[76, 73, 73]⟩, .string ⟨#[43, 76, 76]⟩, .string ⟨#[43, 83, 83]⟩, .string ⟨#[43, 76, 76, 73]⟩, .string ⟨#[73]⟩, .string ⟨#[]⟩, .string ⟨#[80, 73, 85, 85]⟩] (0, 0)) hb1 (by simp))
    have cg := HL.out.cell 3
    rw [← LT.out] at cg
    replace HB := Lib.hid (Below.trans0 (Below.alloc0 HB.out (Obj.cells #[.string ⟨#[]⟩, .string ⟨#[76]⟩, .string ⟨#[83]⟩, .string ⟨#[43, 76, 43, 73, 83]⟩, .string ⟨#[76, 73, 73]⟩, .string ⟨#[43, 76, 76]⟩, .string ⟨#[43, 83, 83]⟩, .string ⟨#[43, 76, 76, 73]⟩, .string ⟨#[73]⟩, .string ⟨#[]⟩, .string ⟨#[80, 73, 85, 85]⟩] 61)) hb1)
    clear hb1
    simp only [List.getElem?_toArray, List.getElem?_cons_zero, List.getElem?_cons_succ] at cg
    go_wp2
    go_ret
    exact ⟨rfl, HB.out⟩
  · go_enter Tryd.func12, Tryd.ntmps12
    go_wp2_with fail
    refine (HM.out _).mono ?_
    rintro e w' ⟨rfl, rfl⟩
    go_wp2_with fail
    refine (CG.out _).mono ?_
    rintro e w1 ⟨rfl, hb1⟩
    have HL := Lib.hid (Blk.below (Blk.new (w.alloc (Obj.cells #[.int .i64 (o : Int), .int .i64 (m : Int), .int .i64 (r : Int)] 24)) 61 #[.string ⟨#[]⟩, .string ⟨#[76]⟩, .string ⟨#[83]⟩, .string ⟨#[43, 76, 43, 73, 83]⟩, .string ⟨#[76, 73, 73]⟩, .string ⟨#[43, 76, 76]⟩, .string ⟨#[43, 83, 83]⟩, .string ⟨#[43, 76, 76, 73]⟩, .string ⟨#[73]⟩, .string ⟨#[]⟩, .string ⟨#[80, 73, 85, 85]⟩] (0, 0)) hb1 (by simp))
    have cg := HL.out.cell 4
    rw [← LT.out] at cg
    replace HB := Lib.hid (Below.trans0 (Below.alloc0 HB.out (Obj.cells #[.string ⟨#[]⟩, .string ⟨#[76]⟩, .string ⟨#[83]⟩, .string ⟨#[43, 76, 43, 73, 83]⟩, .string ⟨#[76, 73, 73]⟩, .string ⟨#[43, 76, 76]⟩, .string ⟨#[43, 83, 83]⟩, .string ⟨#[43, 76, 76, 73]⟩, .string ⟨#[73]⟩, .string ⟨#[]⟩, .string ⟨#[80, 73, 85, 85]⟩] 61)) hb1)
    clear hb1
    simp only [List.getElem?_toArray, List.getElem?_cons_zero, List.getElem?_cons_succ] at cg
    go_wp2
    go_ret
    exact ⟨rfl, HB.out⟩
  · go_enter Tryd.func12, Tryd.ntmps12
    go_wp2_with fail
    refine (HM.out _).mono ?_
    rintro e w' ⟨rfl, rfl⟩
    go_wp2_with fail
    refine (CG.out _).mono ?_
    rintro e w1 ⟨rfl, hb1⟩
    have HL := Lib.hid (Blk.below (Blk.new (w.alloc (Obj.cells #[.int .i64 (o : Int), .int .i64 (m : Int), .int .i64 (r : Int)] 24)) 61 #[.string ⟨#[]⟩, .string ⟨#[76]⟩, .string ⟨#[83]⟩, .string ⟨#[43, 76, 43, 73, 83]⟩, .string ⟨#[76, 73, 73]⟩, .string ⟨#[43, 76, 76]⟩, .string ⟨#[43, 83, 83]⟩, .string ⟨#[43, 76, 76, 73]⟩, .string ⟨#[73]⟩, .string ⟨#[]⟩, .string ⟨#[80, 73, 85, 85]⟩] (0, 0)) hb1 (by simp))
    have cg := HL.out.cell 5
    rw [← LT.out] at cg
    replace HB := Lib.hid (Below.trans0 (Below.alloc0 HB.out (Obj.cells #[.string ⟨#[]⟩, .string ⟨#[76]⟩, .string ⟨#[83]⟩, .string ⟨#[43, 76, 43, 73, 83]⟩, .string ⟨#[76, 73, 73]⟩, .string ⟨#[43, 76, 76]⟩, .string ⟨#[43, 83, 83]⟩, .string ⟨#[43, 76, 76, 73]⟩, .string ⟨#[73]⟩, .string ⟨#[]⟩, .string ⟨#[80, 73, 85, 85]⟩] 61)) hb1)
    clear hb1
    simp only [List.getElem?_toArray, List.getElem?_cons_zero, List.getElem?_cons_succ] at cg
    go_wp2
    go_ret
    exact ⟨rfl, HB.out⟩
  · go_enter Tryd.func12, Tryd.ntmps12
    go_wp2_with fail
    refine (HM.out _).mono ?_
    rintro e w' ⟨rfl, rfl⟩
    go_wp2_with fail
    refine (CG.out _).mono ?_
    rintro e w1 ⟨rfl, hb1⟩
    have HL := Lib.hid (Blk.below (Blk.new (w.alloc (Obj.cells #[.int .i64 (o : Int), .int .i64 (m : Int), .int .i64 (r : Int)] 24)) 61 #[.string ⟨#[]⟩, .string ⟨#[76]⟩, .string ⟨#[83]⟩, .string ⟨#[43, 76, 43, 73, 83]⟩, .string ⟨#[76, 73, 73]⟩, .string ⟨#[43, 76, 76]⟩, .string ⟨#[43, 83, 83]⟩, .string ⟨#[43, 76, 76, 73]⟩, .string ⟨#[73]⟩, .string ⟨#[]⟩, .string ⟨#[80, 73, 85, 85]⟩] (0, 0)) hb1 (by simp))
    have cg := HL.out.cell 6
    rw [← LT.out] at cg
    replace HB := Lib.hid (Below.trans0 (Below.alloc0 HB.out (Obj.cells #[.string ⟨#[]⟩, .string ⟨#[76]⟩, .string ⟨#[83]⟩, .string ⟨#[43, 76, 43, 73, 83]⟩, .string ⟨#[76, 73, 73]⟩, .string ⟨#[43, 76, 76]⟩, .string ⟨#[43, 83, 83]⟩, .string ⟨#[43, 76, 76, 73]⟩, .string ⟨#[73]⟩, .string ⟨#[]⟩, .string ⟨#[80, 73, 85, 85]⟩] 61)) hb1)
    clear hb1
    simp only [List.getElem?_toArray, List.getElem?_cons_zero, List.getElem?_cons_succ] at cg
    go_wp2
    go_ret
    exact ⟨rfl, HB.out⟩
  · go_enter Tryd.func12, Tryd.ntmps12
    go_wp2_with fail
    refine (HM.out _).mono ?_
    rintro e w' ⟨rfl, rfl⟩
    go_wp2_with fail
    refine (CG.out _).mono ?_
    rintro e w1 ⟨rfl, hb1⟩
    have HL := Lib.hid (Blk.below (Blk.new (w.alloc (Obj.cells #[.int .i64 (o : Int), .int .i64 (m : Int), .int .i64 (r : Int)] 24)) 61 #[.string ⟨#[]⟩, .string ⟨#[76]⟩, .string ⟨#[83]⟩, .string ⟨#[43, 76, 43, 73, 83]⟩, .string ⟨#[76, 73, 73]⟩, .string ⟨#[43, 76, 76]⟩, .string ⟨#[43, 83, 83]⟩, .string ⟨#[43, 76, 76, 73]⟩, .string ⟨#[73]⟩, .string ⟨#[]⟩, .string ⟨#[80, 73, 85, 85]⟩] (0, 0)) hb1 (by simp))
    have cg := HL.out.cell 7
    rw [← LT.out] at cg
    replace HB := Lib.hid (Below.trans0 (Below.alloc0 HB.out (Obj.cells #[.string ⟨#[]⟩, .string ⟨#[76]⟩, .string ⟨#[83]⟩, .string ⟨#[43, 76, 43, 73, 83]⟩, .string ⟨#[76, 73, 73]⟩, .string ⟨#[43, 76, 76]⟩, .string ⟨#[43, 83, 83]⟩, .string ⟨#[43, 76, 76, 73]⟩, .string ⟨#[73]⟩, .string ⟨#[]⟩, .string ⟨#[80, 73, 85, 85]⟩] 61)) hb1)
    clear hb1
    simp only [List.getElem?_toArray, List.getElem?_cons_zero, List.getElem?_cons_succ] at cg
    go_wp2
    go_ret
    exact ⟨rfl, HB.out⟩
  · go_enter Tryd.func12, Tryd.ntmps12
    go_wp2_with fail
    refine (HM.out _).mono ?_
    rintro e w' ⟨rfl, rfl⟩
    go_wp2_with fail
    refine (CG.out _).mono ?_
    rintro e w1 ⟨rfl, hb1⟩
    have HL := Lib.hid (Blk.below (Blk.new (w.alloc (Obj.cells #[.int .i64 (o : Int), .int .i64 (m : Int), .int .i64 (r : Int)] 24)) 61 #[.string ⟨#[]⟩, .string ⟨#[76]⟩, .string ⟨#[83]⟩, .string ⟨#[43, 76, 43, 73, 83]⟩, .string ⟨#[76, 73, 73]⟩, .string ⟨#[43, 76, 76]⟩, .string ⟨#[43, 83, 83]⟩, .string ⟨#[43, 76, 76, 73]⟩, .string ⟨#[73]⟩, .string ⟨#[]⟩, .string ⟨#[80, 73, 85, 85]⟩] (0, 0)) hb1 (by simp))
    have cg := HL.out.cell 8
    rw [← LT.out] at cg
    replace HB := Lib.hid (Below.trans0 (Below.alloc0 HB.out (Obj.cells #[.string ⟨#[]⟩, .string ⟨#[76]⟩, .string ⟨#[83]⟩, .string ⟨#[43, 76, 43, 73, 83]⟩, .string ⟨#[76, 73, 73]⟩, .string ⟨#[43, 76, 76]⟩, .string ⟨#[43, 83, 83]⟩, .string ⟨#[43, 76, 76, 73]⟩, .string ⟨#[73]⟩, .string ⟨#[]⟩, .string ⟨#[80, 73, 85, 85]⟩] 61)) hb1)
    clear hb1
    simp only [List.getElem?_toArray, List.getElem?_cons_zero, List.getElem?_cons_succ] at cg
    go_wp2
    go_ret
    exact ⟨rfl, HB.out⟩
  · go_enter Tryd.func12, Tryd.ntmps12
    go_wp2_with fail
    refine (HM.out _).mono ?_
    rintro e w' ⟨rfl, rfl⟩
    go_wp2_with fail
    refine (CG.out _).mono ?_
    rintro e w1 ⟨rfl, hb1⟩
    have HL := Lib.hid (Blk.below (Blk.new (w.alloc (Obj.cells #[.int .i64 (o : Int), .int .i64 (m : Int), .int .i64 (r : Int)] 24)) 61 #[.string ⟨#[]⟩, .string ⟨#[76]⟩, .string ⟨#[83]⟩, .string ⟨#[43, 76, 43, 73, 83]⟩, .string ⟨#[76, 73, 73]⟩, .string ⟨#[43, 76, 76]⟩, .string ⟨#[43, 83, 83]⟩, .string ⟨#[43, 76, 76, 73]⟩, .string ⟨#[73]⟩, .string ⟨#[]⟩, .string ⟨#[80, 73, 85, 85]⟩] (0, 0)) hb1 (by simp))
    have cg := HL.out.cell 9
    rw [← LT.out] at cg
    replace HB := Lib.hid (Below.trans0 (Below.alloc0 HB.out (Obj.cells #[.string ⟨#[]⟩, .string ⟨#[76]⟩, .string ⟨#[83]⟩, .string ⟨#[43, 76, 43, 73, 83]⟩, .string ⟨#[76, 73, 73]⟩, .string ⟨#[43, 76, 76]⟩, .string ⟨#[43, 83, 83]⟩, .string ⟨#[43, 76, 76, 73]⟩, .string ⟨#[73]⟩, .string ⟨#[]⟩, .string ⟨#[80, 73, 85, 85]⟩] 61)) hb1)
    clear hb1
    simp only [List.getElem?_toArray, List.getElem?_cons_zero, List.getElem?_cons_succ] at cg
    go_wp2
    go_ret
    exact ⟨rfl, HB.out⟩
  · go_enter Tryd.func12, Tryd.ntmps12
    go_wp2_with fail
    refine (HM.out _).mono ?_
    rintro e w' ⟨rfl, rfl⟩
    go_wp2_with fail
    refine (CG.out _).mono ?_
    rintro e w1 ⟨rfl, hb1⟩
    have HL := Lib.hid (Blk.below (Blk.new (w.alloc (Obj.cells #[.int .i64 (o : Int), .int .i64 (m : Int), .int .i64 (r : Int)] 24)) 61 #[.string ⟨#[]⟩, .string ⟨#[76]⟩, .string ⟨#[83]⟩, .string ⟨#[43, 76, 43, 73, 83]⟩, .string ⟨#[76, 73, 73]⟩, .string ⟨#[43, 76, 76]⟩, .string ⟨#[43, 83, 83]⟩, .string ⟨#[43, 76, 76, 73]⟩, .string ⟨#[73]⟩, .string ⟨#[]⟩, .string ⟨#[80, 73, 85, 85]⟩] (0, 0)) hb1 (by simp))
    have cg := HL.out.cell 10
    rw [← LT.out] at cg
    replace HB := Lib.hid (Below.trans0 (Below.alloc0 HB.out (Obj.cells #[.string ⟨#[]⟩, .string ⟨#[76]⟩, .string ⟨#[83]⟩, .string ⟨#[43, 76, 43, 73, 83]⟩, .string ⟨#[76, 73, 73]⟩, .string ⟨#[43, 76, 76]⟩, .string ⟨#[43, 83, 83]⟩, .string ⟨#[43, 76, 76, 73]⟩, .string ⟨#[73]⟩, .string ⟨#[]⟩, .string ⟨#[80, 73, 85, 85]⟩] 61)) hb1)
    clear hb1
    simp only [List.getElem?_toArray, List.getElem?_cons_zero, List.getElem?_cons_succ] at cg
    go_wp2
    go_ret
    exact ⟨rfl, HB.out⟩
set_option maxRecDepth 100000 in
set_option maxHeartbeats 4000000 in
theorem tl_2a (o : Nat) (ho : o < 52) (r b : Nat) (hr : r < 16) (hb : b < 256) (cc : Int) (hcc : CC cc) (hs : spO o = false) (h7 : grpN (o : Int) = 7) (w : World) :
    Calls Tryd.prog 12 #[.agg #[.int .i64 (o : Int), .int .i64 2, .int .i64 (r : Int)], .int .u8 (b : Int), .int .u8 cc] w fun e w' => e = .returned (.string (strOfNums (tailS o 2 (grpN (o : Int)).toNat (holdsB r cc) (cntN b)))) ∧ Below w.heap.size w w' := by
  obtain ⟨S, hS, hz, hM⟩ := many_lit 85 12 12 rfl (by decide)
  have HS := Lib.hid hS
  have HM := Lib.hid hM
  clear hS hM
  have HB := Lib.hid (Below.alloc0 (Below.refl w.heap.size w) (Obj.cells #[.int .i64 (o : Int), .int .i64 2, .int .i64 (r : Int)] 24))
  have hs' : ¬ o = 43 ∧ ¬ o = 44 ∧ ¬ o = 41 ∧ ¬ o = 1 ∧ ¬ o = 40 ∧ ¬ o = 50 ∧ ¬ o = 48 ∧ ¬ o = 49 ∧ ¬ o = 51 ∧ ¬ o = 34 ∧ ¬ o = 35 ∧ ¬ o = 36 ∧ ¬ o = 37 ∧ ¬ o = 38 ∧ ¬ o = 46 ∧ ¬ o = 47 ∧ ¬ o = 30 ∧ ¬ o = 31 := by simpa [spO] using hs
  have hT : tailS o 2 (grpN (o : Int)).toNat (holdsB r cc) (cntN b) = [73] := by
    unfold tailS
    repeat (first | rfl | (rw [if_pos (by omega)]; done) | rw [if_neg (by omega)])
  rw [hT]
  have e43 : ((o : Int) == 43) = false := ne_beq (by omega)
  have e44 : ((o : Int) == 44) = false := ne_beq (by omega)
  have e41 : ((o : Int) == 41) = false := ne_beq (by omega)
  have e1 : ((o : Int) == 1) = false := ne_beq (by omega)
  have e40 : ((o : Int) == 40) = false := ne_beq (by omega)
  have e50 : ((o : Int) == 50) = false := ne_beq (by omega)
  have e48 : ((o : Int) == 48) = false := ne_beq (by omega)
  have e49 : ((o : Int) == 49) = false := ne_beq (by omega)
  have e51 : ((o : Int) == 51) = false := ne_beq (by omega)
  have e34 : ((o : Int) == 34) = false := ne_beq (by omega)
  have e35 : ((o : Int) == 35) = false := ne_beq (by omega)
  have e36 : ((o : Int) == 36) = false := ne_beq (by omega)
  have e37 : ((o : Int) == 37) = false := ne_beq (by omega)
  have e38 : ((o : Int) == 38) = false := ne_beq (by omega)
  have e46 : ((o : Int) == 46) = false := ne_beq (by omega)
  have e47 : ((o : Int) == 47) = false := ne_beq (by omega)
  have e30 : ((o : Int) == 30) = false := ne_beq (by omega)
  have e31 : ((o : Int) == 31) = false := ne_beq (by omega)
  have CG := Lib.hid (fun w => group13_any o ho w)
  rw [h7] at CG
  clear h7 hs hs' hT
  go_enter Tryd.func12, Tryd.ntmps12
  go_wp2_with fail
  refine (HM.out _).mono ?_
  rintro e w' ⟨rfl, rfl⟩
  go_wp2_with fail
  refine (CG.out _).mono ?_
  rintro e w1 ⟨rfl, hb1⟩
  have HE := Lib.hid (Blk.below (Blk.new w 24 #[.int .i64 (o : Int), .int .i64 2, .int .i64 (r : Int)] (0, 0)) hb1 (by simp))
  replace HB := Lib.hid (Below.trans0 HB.out hb1)
  clear hb1
  obtain ⟨c0, c1, c2⟩ := blkE HE.out
  go_wp2
  go_ret
  exact ⟨rfl, HB.out⟩
set_option maxRecDepth 100000 in
set_option maxHeartbeats 4000000 in
theorem tl_2b (o : Nat) (ho : o < 52) (r b : Nat) (hr : r < 16) (hb : b < 256) (cc : Int) (hcc : CC cc) (hs : spO o = false) (h7 : ¬ grpN (o : Int) = 7) (w : World) :
    Calls Tryd.prog 12 #[.agg #[.int .i64 (o : Int), .int .i64 2, .int .i64 (r : Int)], .int .u8 (b : Int), .int .u8 cc] w fun e w' => e = .returned (.string (strOfNums (tailS o 2 (grpN (o : Int)).toNat (holdsB r cc) (cntN b)))) ∧ Below w.heap.size w w' := by
  obtain ⟨S, hS, hz, hM⟩ := many_lit 85 12 12 rfl (by decide)
  have HS := Lib.hid hS
  have HM := Lib.hid hM
  clear hS hM
  have HB := Lib.hid (Below.alloc0 (Below.refl w.heap.size w) (Obj.cells #[.int .i64 (o : Int), .int .i64 2, .int .i64 (r : Int)] 24))
  have hs' : ¬ o = 43 ∧ ¬ o = 44 ∧ ¬ o = 41 ∧ ¬ o = 1 ∧ ¬ o = 40 ∧ ¬ o = 50 ∧ ¬ o = 48 ∧ ¬ o = 49 ∧ ¬ o = 51 ∧ ¬ o = 34 ∧ ¬ o = 35 ∧ ¬ o = 36 ∧ ¬ o = 37 ∧ ¬ o = 38 ∧ ¬ o = 46 ∧ ¬ o = 47 ∧ ¬ o = 30 ∧ ¬ o = 31 := by simpa [spO] using hs
  have hT : tailS o 2 (grpN (o : Int)).toNat (holdsB r cc) (cntN b) = [] := by
    unfold tailS
    repeat (first | rfl | (rw [if_pos (by omega)]; done) | rw [if_neg (by omega)])
  rw [hT]
  have e43 : ((o : Int) == 43) = false := ne_beq (by omega)
  have e44 : ((o : Int) == 44) = false := ne_beq (by omega)
  have e41 : ((o : Int) == 41) = false := ne_beq (by omega)
  have e1 : ((o : Int) == 1) = false := ne_beq (by omega)
  have e40 : ((o : Int) == 40) = false := ne_beq (by omega)
  have e50 : ((o : Int) == 50) = false := ne_beq (by omega)
  have e48 : ((o : Int) == 48) = false := ne_beq (by omega)
  have e49 : ((o : Int) == 49) = false := ne_beq (by omega)
  have e51 : ((o : Int) == 51) = false := ne_beq (by omega)
  have e34 : ((o : Int) == 34) = false := ne_beq (by omega)
  have e35 : ((o : Int) == 35) = false := ne_beq (by omega)
  have e36 : ((o : Int) == 36) = false := ne_beq (by omega)
  have e37 : ((o : Int) == 37) = false := ne_beq (by omega)
  have e38 : ((o : Int) == 38) = false := ne_beq (by omega)
  have e46 : ((o : Int) == 46) = false := ne_beq (by omega)
  have e47 : ((o : Int) == 47) = false := ne_beq (by omega)
  have e30 : ((o : Int) == 30) = false := ne_beq (by omega)
  have e31 : ((o : Int) == 31) = false := ne_beq (by omega)
  have CG := Lib.hid (fun w => group13_any o ho w)
  have e7 : (grpN (o : Int) == 7) = false := ne_beq h7
  generalize grpN (o : Int) = g at CG e7
  clear h7 hs hs' hT
  go_enter Tryd.func12, Tryd.ntmps12
  go_wp2_with fail
  refine (HM.out _).mono ?_
  rintro e w' ⟨rfl, rfl⟩
  go_wp2_with fail
  refine (CG.out _).mono ?_
  rintro e w1 ⟨rfl, hb1⟩
  have HE := Lib.hid (Blk.below (Blk.new w 24 #[.int .i64 (o : Int), .int .i64 2, .int .i64 (r : Int)] (0, 0)) hb1 (by simp))
  replace HB := Lib.hid (Below.trans0 HB.out hb1)
  clear hb1
  obtain ⟨c0, c1, c2⟩ := blkE HE.out
  go_wp2
  go_ret
  exact ⟨rfl, HB.out⟩
set_option maxRecDepth 100000 in
set_option maxHeartbeats 4000000 in
theorem tl_0 (o : Nat) (ho : o < 52) (r b : Nat) (hr : r < 16) (hb : b < 256) (cc : Int) (hcc : CC cc) (hs : spO o = false) (w : World) :
    Calls Tryd.prog 12 #[.agg #[.int .i64 (o : Int), .int .i64 0, .int .i64 (r : Int)], .int .u8 (b : Int), .int .u8 cc] w fun e w' => e = .returned (.string (strOfNums (tailS o 0 (grpN (o : Int)).toNat (holdsB r cc) (cntN b)))) ∧ Below w.heap.size w w' := by
  obtain ⟨S, hS, hz, hM⟩ := many_lit 85 12 12 rfl (by decide)
  have HS := Lib.hid hS
  have HM := Lib.hid hM
  clear hS hM
  have HB := Lib.hid (Below.alloc0 (Below.refl w.heap.size w) (Obj.cells #[.int .i64 (o : Int), .int .i64 0, .int .i64 (r : Int)] 24))
  have hs' : ¬ o = 43 ∧ ¬ o = 44 ∧ ¬ o = 41 ∧ ¬ o = 1 ∧ ¬ o = 40 ∧ ¬ o = 50 ∧ ¬ o = 48 ∧ ¬ o = 49 ∧ ¬ o = 51 ∧ ¬ o = 34 ∧ ¬ o = 35 ∧ ¬ o = 36 ∧ ¬ o = 37 ∧ ¬ o = 38 ∧ ¬ o = 46 ∧ ¬ o = 47 ∧ ¬ o = 30 ∧ ¬ o = 31 := by simpa [spO] using hs
  have hT : tailS o 0 (grpN (o : Int)).toNat (holdsB r cc) (cntN b) = [78] := by
    unfold tailS
    repeat (first | rfl | (rw [if_pos (by omega)]; done) | rw [if_neg (by omega)])
  rw [hT]
  have e43 : ((o : Int) == 43) = false := ne_beq (by omega)
  have e44 : ((o : Int) == 44) = false := ne_beq (by omega)
  have e41 : ((o : Int) == 41) = false := ne_beq (by omega)
  have e1 : ((o : Int) == 1) = false := ne_beq (by omega)
  have e40 : ((o : Int) == 40) = false := ne_beq (by omega)
  have e50 : ((o : Int) == 50) = false := ne_beq (by omega)
  have e48 : ((o : Int) == 48) = false := ne_beq (by omega)
  have e49 : ((o : Int) == 49) = false := ne_beq (by omega)
  have e51 : ((o : Int) == 51) = false := ne_beq (by omega)
  have e34 : ((o : Int) == 34) = false := ne_beq (by omega)
  have e35 : ((o : Int) == 35) = false := ne_beq (by omega)
  have e36 : ((o : Int) == 36) = false := ne_beq (by omega)
  have e37 : ((o : Int) == 37) = false := ne_beq (by omega)
  have e38 : ((o : Int) == 38) = false := ne_beq (by omega)
  have e46 : ((o : Int) == 46) = false := ne_beq (by omega)
  have e47 : ((o : Int) == 47) = false := ne_beq (by omega)
  have e30 : ((o : Int) == 30) = false := ne_beq (by omega)
  have e31 : ((o : Int) == 31) = false := ne_beq (by omega)
  clear hs hs' hT
  go_enter Tryd.func12, Tryd.ntmps12
  go_wp2_with fail
  refine (HM.out _).mono ?_
  rintro e w' ⟨rfl, rfl⟩
  go_wp2
  go_ret
  exact ⟨rfl, HB.out⟩
set_option maxRecDepth 100000 in
set_option maxHeartbeats 4000000 in
theorem tl_1z (o : Nat) (ho : o < 52) (r b : Nat) (hr : r < 16) (hb : b < 256) (cc : Int) (hcc : CC cc) (hs : spO o = false) (w : World) :
    Calls Tryd.prog 12 #[.agg #[.int .i64 (o : Int), .int .i64 1, .int .i64 (r : Int)], .int .u8 (b : Int), .int .u8 cc] w fun e w' => e = .returned (.string (strOfNums (tailS o 1 (grpN (o : Int)).toNat (holdsB r cc) (cntN b)))) ∧ Below w.heap.size w w' := by
  obtain ⟨S, hS, hz, hM⟩ := many_lit 85 12 12 rfl (by decide)
  have HS := Lib.hid hS
  have HM := Lib.hid hM
  clear hS hM
  have HB := Lib.hid (Below.alloc0 (Below.refl w.heap.size w) (Obj.cells #[.int .i64 (o : Int), .int .i64 1, .int .i64 (r : Int)] 24))
  have hs' : ¬ o = 43 ∧ ¬ o = 44 ∧ ¬ o = 41 ∧ ¬ o = 1 ∧ ¬ o = 40 ∧ ¬ o = 50 ∧ ¬ o = 48 ∧ ¬ o = 49 ∧ ¬ o = 51 ∧ ¬ o = 34 ∧ ¬ o = 35 ∧ ¬ o = 36 ∧ ¬ o = 37 ∧ ¬ o = 38 ∧ ¬ o = 46 ∧ ¬ o = 47 ∧ ¬ o = 30 ∧ ¬ o = 31 := by simpa [spO] using hs
  have hT : tailS o 1 (grpN (o : Int)).toNat (holdsB r cc) (cntN b) = [] := by
    unfold tailS
    repeat (first | rfl | (rw [if_pos (by omega)]; done) | rw [if_neg (by omega)])
  rw [hT]
  have e43 : ((o : Int) == 43) = false := ne_beq (by omega)
  have e44 : ((o : Int) == 44) = false := ne_beq (by omega)
  have e41 : ((o : Int) == 41) = false := ne_beq (by omega)
  have e1 : ((o : Int) == 1) = false := ne_beq (by omega)
  have e40 : ((o : Int) == 40) = false := ne_beq (by omega)
  have e50 : ((o : Int) == 50) = false := ne_beq (by omega)
  have e48 : ((o : Int) == 48) = false := ne_beq (by omega)
  have e49 : ((o : Int) == 49) = false := ne_beq (by omega)
  have e51 : ((o : Int) == 51) = false := ne_beq (by omega)
  have e34 : ((o : Int) == 34) = false := ne_beq (by omega)
  have e35 : ((o : Int) == 35) = false := ne_beq (by omega)
  have e36 : ((o : Int) == 36) = false := ne_beq (by omega)
  have e37 : ((o : Int) == 37) = false := ne_beq (by omega)
  have e38 : ((o : Int) == 38) = false := ne_beq (by omega)
  have e46 : ((o : Int) == 46) = false := ne_beq (by omega)
  have e47 : ((o : Int) == 47) = false := ne_beq (by omega)
  have e30 : ((o : Int) == 30) = false := ne_beq (by omega)
  have e31 : ((o : Int) == 31) = false := ne_beq (by omega)
  clear hs hs' hT
  go_enter Tryd.func12, Tryd.ntmps12
  go_wp2_with fail
  refine (HM.out _).mono ?_
  rintro e w' ⟨rfl, rfl⟩
  go_wp2
  go_ret
  exact ⟨rfl, HB.out⟩
theorem tail23_any (o m r b : Nat) (ho : o < 52) (hr : r < 16) (hb : b < 256) (cc : Int) (hcc : CC cc) (hv : vp o m = true) (w : World) :
    Calls Tryd.prog 12 #[.agg #[.int .i64 (o : Int), .int .i64 (m : Int), .int .i64 (r : Int)], .int .u8 (b : Int), .int .u8 cc] w fun e w' => e = .returned (.string (strOfNums (tailS o m (grpN (o : Int)).toNat (holdsB r cc) (cntN b)))) ∧ Below w.heap.size w w' := by
  unfold vp at hv
  cases hs : spO o
  · rw [hs] at hv
    simp only [Bool.false_eq_true, if_false, decide_eq_true_eq] at hv
    rcases (show m = 0 ∨ m = 1 ∨ m = 2 ∨ (3 ≤ m ∧ m ≤ 5) by omega) with rfl | rfl | rfl | h
    · exact tl_0 o ho r b hr hb cc hcc hs w
    · exact tl_1z o ho r b hr hb cc hcc hs w
    · by_cases h7 : grpN (o : Int) = 7
      · exact tl_2a o ho r b hr hb cc hcc hs h7 w
      · exact tl_2b o ho r b hr hb cc hcc hs h7 w
    · exact tl_mem o m ho r b hr hb cc hcc h w
  · rw [hs] at hv
    simp only [if_true, decide_eq_true_eq] at hv
    have hs' : o = 43 ∨ o = 44 ∨ o = 41 ∨ o = 1 ∨ o = 40 ∨ o = 50 ∨ o = 48 ∨ o = 49 ∨ o = 51 ∨ o = 34 ∨ o = 35 ∨ o = 36 ∨ o = 37 ∨ o = 38 ∨ o = 46 ∨ o = 47 ∨ o = 30 ∨ o = 31 := by simpa [spO] using hs
    subst hv
    rcases hs' with rfl | rfl | rfl | rfl | rfl | rfl | rfl | rfl | rfl | rfl | rfl | rfl | rfl | rfl | rfl | rfl | rfl | rfl
    · exact tl_43 r b hr hb cc hcc w
    · exact tl_44 r b hr hb cc hcc w
    · exact tl_41 r b hr hb cc hcc w
    · exact tl_1 r b hr hb cc hcc w
    · exact tl_40 r b hr hb cc hcc w
    · exact tl_50 r b hr hb cc hcc w
    · exact tl_48 r b hr hb cc hcc w
    · exact tl_49 r b hr hb cc hcc w
    · exact tl_51 r b hr hb cc hcc w
    · exact tl_34 r b hr hb cc hcc w
    · exact tl_35 r b hr hb cc hcc w
    · exact tl_36 r b hr hb cc hcc w
    · exact tl_37 r b hr hb cc hcc w
    · exact tl_38 r b hr hb cc hcc w
    · exact tl_46 r b hr hb cc hcc w
    · exact tl_47 r b hr hb cc hcc w
    · exact tl_30 r b hr hb cc hcc w
    · exact tl_31 r b hr hb cc hcc w


set_option maxRecDepth 100000 in
set_option maxHeartbeats 1000000 in
theorem rest23_any (p : Int) (w : World) :
    Calls Tryd.prog 14 #[.int .u8 p] w fun e w' => e = .returned (.string (strOfNums (restS (decide (127 < p))))) ∧ w = w' := by
  obtain ⟨S, hS, hz, hM⟩ := many_lit 68 11 11 rfl (by decide)
  have HS := Lib.hid hS
  have HM := Lib.hid hM
  clear hS hM
  by_cases h : 127 < p
  · rw [show decide (127 < p) = true from decide_eq_true h]
    go_enter Tryd.func14, Tryd.ntmps14
    go_wp2_with fail
    refine (HM.out _).mono ?_
    rintro e w' ⟨rfl, rfl⟩
    go_wp2
    go_ret
    exact ⟨ret_str (by rw [HS.out, show (⟨#[75]⟩ : ByteArray) = strOfNums [75] from rfl, strOf_append]; rfl), rfl⟩
  · rw [show decide (127 < p) = false from decide_eq_false h]
    go_enter Tryd.func14, Tryd.ntmps14
    go_wp2
    go_ret
    exact ⟨rfl, rfl⟩
def ofS (p o m b : Nat) (h d : Bool) : List Int :=
  rep [79] (if 1 < p then 2 else 1) ++ aheadS m ++ (if m = 4 then behindS (poBytes (poK b)) (poIdle (poK b)) (poI b) else []) ++ tailS o m (grpN (o : Int)).toNat h (cntN b) ++ (if o = 49 then restS d else [])
set_option maxRecDepth 100000 in
set_option maxHeartbeats 4000000 in
theorem of23_any (p o m r b : Nat) (hp : 1 ≤ p ∧ p ≤ 3) (ho : o < 52) (hm : m ≤ 9) (hr : r < 16) (hb : b < 256) (c v l cc pulled : Int) (hcc : CC cc) (hv : vp o m = true) (hlA : (aheadS m).length ≤ 100) (hlB : (behindS (poBytes (poK b)) (poIdle (poK b)) (poI b)).length ≤ 100) (hlT : (tailS o m (grpN (o : Int)).toNat (holdsB r cc) (cntN b)).length ≤ 100) (w : World) :
    Calls Tryd.prog 10 #[.agg #[.int .i64 (p : Int), .int .u8 c, .int .i64 (o : Int), .int .i64 (m : Int), .int .i64 (r : Int), .int .u8 (b : Int), .int .u16 v, .int .i64 l], .int .u8 cc, .int .u8 pulled] w fun e w' => e = .returned (.string (strOfNums (ofS p o m b (holdsB r cc) (decide (127 < pulled))))) ∧ Below w.heap.size w w' := by
  have CA := Lib.hid (fun w => ahead23_in m hm w)
  have CB := Lib.hid (fun w => behind23_any b hb w)
  have CT := Lib.hid (fun w => tail23_any o m r b ho hr hb cc hcc hv w)
  have CR := Lib.hid (fun w => rest23_any pulled w)
  have hlR : (restS (decide (127 < pulled))).length ≤ 100 := by cases decide (127 < pulled) <;> decide
  have HB := Lib.hid (Below.alloc0 (Below.refl w.heap.size w) (Obj.cells #[.int .i64 (p : Int), .int .u8 c, .int .i64 (o : Int), .int .i64 (m : Int), .int .i64 (r : Int), .int .u8 (b : Int), .int .u16 v, .int .i64 l] 27))
  have HK := Lib.hid (Blk.new w 27 #[.int .i64 (p : Int), .int .u8 c, .int .i64 (o : Int), .int .i64 (m : Int), .int .i64 (r : Int), .int .u8 (b : Int), .int .u16 v, .int .i64 l] (0, 0))
  have HO := Lib.hid (show ofS p o m b (holdsB r cc) (decide (127 < pulled)) = rep [79] (if 1 < p then 2 else 1) ++ aheadS m ++ (if m = 4 then behindS (poBytes (poK b)) (poIdle (poK b)) (poI b) else []) ++ tailS o m (grpN (o : Int)).toNat (holdsB r cc) (cntN b) ++ (if o = 49 then restS (decide (127 < pulled)) else []) from rfl)
  rw [HO.out]
  rw [← size_str] at hlA hlB hlT hlR
  obtain ⟨xA, hA⟩ : ∃ x, aheadS m = x := ⟨_, rfl⟩
  obtain ⟨xB, hB⟩ : ∃ x, behindS (poBytes (poK b)) (poIdle (poK b)) (poI b) = x := ⟨_, rfl⟩
  obtain ⟨xT, hT⟩ : ∃ x, tailS o m (grpN (o : Int)).toNat (holdsB r cc) (cntN b) = x := ⟨_, rfl⟩
  obtain ⟨xR, hR⟩ : ∃ x, restS (decide (127 < pulled)) = x := ⟨_, rfl⟩
  rw [hA] at CA hlA ⊢
  rw [hB] at CB hlB ⊢
  rw [hT] at CT hlT ⊢
  rw [hR] at CR hlR ⊢
  clear HO hA hB hT hR hv hcc
  obtain ⟨SA, hSA⟩ : ∃ x, strOfNums xA = x := ⟨_, rfl⟩
  obtain ⟨SB, hSB⟩ : ∃ x, strOfNums xB = x := ⟨_, rfl⟩
  obtain ⟨ST, hST⟩ : ∃ x, strOfNums xT = x := ⟨_, rfl⟩
  obtain ⟨SR, hSR⟩ : ∃ x, strOfNums xR = x := ⟨_, rfl⟩
  rw [hSA] at CA hlA
  rw [hSB] at CB hlB
  rw [hST] at CT hlT
  rw [hSR] at CR hlR
  have HA := Lib.hid hSA
  have HBs := Lib.hid hSB
  have HT := Lib.hid hST
  have HR := Lib.hid hSR
  clear hSA hSB hST hSR
  have y1 : ¬ 9223372036854775807 < 1 + SA.size := by omega
  have y2 : ¬ 9223372036854775807 < 1 + SA.size + SB.size := by omega
  have y3 : ¬ 9223372036854775807 < 1 + SA.size + ST.size := by omega
  have y4 : ¬ 9223372036854775807 < 1 + SA.size + SB.size + ST.size := by omega
  have y5 : ¬ 9223372036854775807 < 1 + SA.size + ST.size + SR.size := by omega
  have y6 : ¬ 9223372036854775807 < 1 + SA.size + SB.size + ST.size + SR.size := by omega
  have y7 : ¬ 9223372036854775807 < 2 + SA.size := by omega
  have y8 : ¬ 9223372036854775807 < 2 + SA.size + SB.size := by omega
  have y9 : ¬ 9223372036854775807 < 2 + SA.size + ST.size := by omega
  have y10 : ¬ 9223372036854775807 < 2 + SA.size + SB.size + ST.size := by omega
  have y11 : ¬ 9223372036854775807 < 2 + SA.size + ST.size + SR.size := by omega
  have y12 : ¬ 9223372036854775807 < 2 + SA.size + SB.size + ST.size + SR.size := by omega
  clear hlA hlB hlT hlR
  by_cases q1 : 1 < p <;> by_cases q4 : m = 4 <;> by_cases q49 : o = 49
  · have e1 : decide ((1 : Int) < (p : Int)) = true := decide_eq_true (by omega)
    have e4 : ((m : Int) == 4) = true := by rw [beq_iff_eq]; omega
    have e49 : ((o : Int) == 49) = true := by rw [beq_iff_eq]; omega
    rw [if_pos q1, if_pos q4, if_pos q49]
    clear q1 q4 q49 hp ho hm hr hb
    go_enter Tryd.func10, Tryd.ntmps10
    go_wp2_with fail
    refine (CA.out _).mono ?_
    rintro e w1 ⟨rfl, hb1⟩
    replace HK := Lib.hid (Blk.below HK.out hb1 HK.out.lt)
    replace HB := Lib.hid (Below.trans0 HB.out hb1)
    clear hb1
    obtain ⟨c0, c1, c2, c3, c4, c5, c6, c7⟩ := blkI HK.out
    go_wp2_with fail
    refine (CB.out _).mono ?_
    rintro e w2 ⟨rfl, hb1⟩
    clear c0 c1 c2 c3 c4 c5 c6 c7
    replace HK := Lib.hid (Blk.below HK.out hb1 HK.out.lt)
    replace HB := Lib.hid (Below.trans0 HB.out hb1)
    clear hb1
    obtain ⟨c0, c1, c2, c3, c4, c5, c6, c7⟩ := blkI HK.out
    go_wp2_with fail
    refine (CT.out _).mono ?_
    rintro e w3 ⟨rfl, hb1⟩
    clear c0 c1 c2 c3 c4 c5 c6 c7
    replace HK := Lib.hid (Blk.below HK.out hb1 HK.out.lt)
    replace HB := Lib.hid (Below.trans0 HB.out hb1)
    clear hb1
    obtain ⟨c0, c1, c2, c3, c4, c5, c6, c7⟩ := blkI HK.out
    go_wp2_with fail
    refine (CR.out _).mono ?_
    rintro e w' ⟨rfl, rfl⟩
    go_wp2
    go_ret
    exact ⟨ret_str (by rw [← HA.out, ← HBs.out, ← HT.out, ← HR.out, show (⟨#[79, 79]⟩ : ByteArray) = strOfNums [79, 79] from rfl, strOf_append, strOf_append, strOf_append, strOf_append]; simp [rep]), HB.out⟩
  · have e1 : decide ((1 : Int) < (p : Int)) = true := decide_eq_true (by omega)
    have e4 : ((m : Int) == 4) = true := by rw [beq_iff_eq]; omega
    have e49 : ((o : Int) == 49) = false := ne_beq (by omega)
    rw [if_pos q1, if_pos q4, if_neg q49]
    clear q1 q4 q49 hp ho hm hr hb
    go_enter Tryd.func10, Tryd.ntmps10
    go_wp2_with fail
    refine (CA.out _).mono ?_
    rintro e w1 ⟨rfl, hb1⟩
    replace HK := Lib.hid (Blk.below HK.out hb1 HK.out.lt)
    replace HB := Lib.hid (Below.trans0 HB.out hb1)
    clear hb1
    obtain ⟨c0, c1, c2, c3, c4, c5, c6, c7⟩ := blkI HK.out
    go_wp2_with fail
    refine (CB.out _).mono ?_
    rintro e w2 ⟨rfl, hb1⟩
    clear c0 c1 c2 c3 c4 c5 c6 c7
    replace HK := Lib.hid (Blk.below HK.out hb1 HK.out.lt)
    replace HB := Lib.hid (Below.trans0 HB.out hb1)
    clear hb1
    obtain ⟨c0, c1, c2, c3, c4, c5, c6, c7⟩ := blkI HK.out
    go_wp2_with fail
    refine (CT.out _).mono ?_
    rintro e w3 ⟨rfl, hb1⟩
    clear c0 c1 c2 c3 c4 c5 c6 c7
    replace HK := Lib.hid (Blk.below HK.out hb1 HK.out.lt)
    replace HB := Lib.hid (Below.trans0 HB.out hb1)
    clear hb1
    obtain ⟨c0, c1, c2, c3, c4, c5, c6, c7⟩ := blkI HK.out
    go_wp2
    go_ret
    exact ⟨ret_str (by rw [← HA.out, ← HBs.out, ← HT.out, show (⟨#[79, 79]⟩ : ByteArray) = strOfNums [79, 79] from rfl, strOf_append, strOf_append, strOf_append]; simp [rep]), HB.out⟩
  · have e1 : decide ((1 : Int) < (p : Int)) = true := decide_eq_true (by omega)
    have e4 : ((m : Int) == 4) = false := ne_beq (by omega)
    have e49 : ((o : Int) == 49) = true := by rw [beq_iff_eq]; omega
    rw [if_pos q1, if_neg q4, if_pos q49]
    clear q1 q4 q49 hp ho hm hr hb
    go_enter Tryd.func10, Tryd.ntmps10
    go_wp2_with fail
    refine (CA.out _).mono ?_
    rintro e w1 ⟨rfl, hb1⟩
    replace HK := Lib.hid (Blk.below HK.out hb1 HK.out.lt)
    replace HB := Lib.hid (Below.trans0 HB.out hb1)
    clear hb1
    obtain ⟨c0, c1, c2, c3, c4, c5, c6, c7⟩ := blkI HK.out
    go_wp2_with fail
    refine (CT.out _).mono ?_
    rintro e w3 ⟨rfl, hb1⟩
    clear c0 c1 c2 c3 c4 c5 c6 c7
    replace HK := Lib.hid (Blk.below HK.out hb1 HK.out.lt)
    replace HB := Lib.hid (Below.trans0 HB.out hb1)
    clear hb1
    obtain ⟨c0, c1, c2, c3, c4, c5, c6, c7⟩ := blkI HK.out
    go_wp2_with fail
    refine (CR.out _).mono ?_
    rintro e w' ⟨rfl, rfl⟩
    go_wp2
    go_ret
    exact ⟨ret_str (by rw [← HA.out, ← HT.out, ← HR.out, show (⟨#[79, 79]⟩ : ByteArray) = strOfNums [79, 79] from rfl, strOf_append, strOf_append, strOf_append]; simp [rep]), HB.out⟩
  · have e1 : decide ((1 : Int) < (p : Int)) = true := decide_eq_true (by omega)
    have e4 : ((m : Int) == 4) = false := ne_beq (by omega)
    have e49 : ((o : Int) == 49) = false := ne_beq (by omega)
    rw [if_pos q1, if_neg q4, if_neg q49]
    clear q1 q4 q49 hp ho hm hr hb
    go_enter Tryd.func10, Tryd.ntmps10
    go_wp2_with fail
    refine (CA.out _).mono ?_
    rintro e w1 ⟨rfl, hb1⟩
    replace HK := Lib.hid (Blk.below HK.out hb1 HK.out.lt)
    replace HB := Lib.hid (Below.trans0 HB.out hb1)
    clear hb1
    obtain ⟨c0, c1, c2, c3, c4, c5, c6, c7⟩ := blkI HK.out
    go_wp2_with fail
    refine (CT.out _).mono ?_
    rintro e w3 ⟨rfl, hb1⟩
    clear c0 c1 c2 c3 c4 c5 c6 c7
    replace HK := Lib.hid (Blk.below HK.out hb1 HK.out.lt)
    replace HB := Lib.hid (Below.trans0 HB.out hb1)
    clear hb1
    obtain ⟨c0, c1, c2, c3, c4, c5, c6, c7⟩ := blkI HK.out
    go_wp2
    go_ret
    exact ⟨ret_str (by rw [← HA.out, ← HT.out, show (⟨#[79, 79]⟩ : ByteArray) = strOfNums [79, 79] from rfl, strOf_append, strOf_append]; simp [rep]), HB.out⟩
  · have e1 : decide ((1 : Int) < (p : Int)) = false := decide_eq_false (by omega)
    have e4 : ((m : Int) == 4) = true := by rw [beq_iff_eq]; omega
    have e49 : ((o : Int) == 49) = true := by rw [beq_iff_eq]; omega
    rw [if_neg q1, if_pos q4, if_pos q49]
    clear q1 q4 q49 hp ho hm hr hb
    go_enter Tryd.func10, Tryd.ntmps10
    go_wp2_with fail
    refine (CA.out _).mono ?_
    rintro e w1 ⟨rfl, hb1⟩
    replace HK := Lib.hid (Blk.below HK.out hb1 HK.out.lt)
    replace HB := Lib.hid (Below.trans0 HB.out hb1)
    clear hb1
    obtain ⟨c0, c1, c2, c3, c4, c5, c6, c7⟩ := blkI HK.out
    go_wp2_with fail
    refine (CB.out _).mono ?_
    rintro e w2 ⟨rfl, hb1⟩
    clear c0 c1 c2 c3 c4 c5 c6 c7
    replace HK := Lib.hid (Blk.below HK.out hb1 HK.out.lt)
    replace HB := Lib.hid (Below.trans0 HB.out hb1)
    clear hb1
    obtain ⟨c0, c1, c2, c3, c4, c5, c6, c7⟩ := blkI HK.out
    go_wp2_with fail
    refine (CT.out _).mono ?_
    rintro e w3 ⟨rfl, hb1⟩
    clear c0 c1 c2 c3 c4 c5 c6 c7
    replace HK := Lib.hid (Blk.below HK.out hb1 HK.out.lt)
    replace HB := Lib.hid (Below.trans0 HB.out hb1)
    clear hb1
    obtain ⟨c0, c1, c2, c3, c4, c5, c6, c7⟩ := blkI HK.out
    go_wp2_with fail
    refine (CR.out _).mono ?_
    rintro e w' ⟨rfl, rfl⟩
    go_wp2
    go_ret
    exact ⟨ret_str (by rw [← HA.out, ← HBs.out, ← HT.out, ← HR.out, show (⟨#[79]⟩ : ByteArray) = strOfNums [79] from rfl, strOf_append, strOf_append, strOf_append, strOf_append]; simp [rep]), HB.out⟩
  · have e1 : decide ((1 : Int) < (p : Int)) = false := decide_eq_false (by omega)
    have e4 : ((m : Int) == 4) = true := by rw [beq_iff_eq]; omega
    have e49 : ((o : Int) == 49) = false := ne_beq (by omega)
    rw [if_neg q1, if_pos q4, if_neg q49]
    clear q1 q4 q49 hp ho hm hr hb
    go_enter Tryd.func10, Tryd.ntmps10
    go_wp2_with fail
    refine (CA.out _).mono ?_
    rintro e w1 ⟨rfl, hb1⟩
    replace HK := Lib.hid (Blk.below HK.out hb1 HK.out.lt)
    replace HB := Lib.hid (Below.trans0 HB.out hb1)
    clear hb1
    obtain ⟨c0, c1, c2, c3, c4, c5, c6, c7⟩ := blkI HK.out
    go_wp2_with fail
    refine (CB.out _).mono ?_
    rintro e w2 ⟨rfl, hb1⟩
    clear c0 c1 c2 c3 c4 c5 c6 c7
    replace HK := Lib.hid (Blk.below HK.out hb1 HK.out.lt)
    replace HB := Lib.hid (Below.trans0 HB.out hb1)
    clear hb1
    obtain ⟨c0, c1, c2, c3, c4, c5, c6, c7⟩ := blkI HK.out
    go_wp2_with fail
    refine (CT.out _).mono ?_
    rintro e w3 ⟨rfl, hb1⟩
    clear c0 c1 c2 c3 c4 c5 c6 c7
    replace HK := Lib.hid (Blk.below HK.out hb1 HK.out.lt)
    replace HB := Lib.hid (Below.trans0 HB.out hb1)
    clear hb1
    obtain ⟨c0, c1, c2, c3, c4, c5, c6, c7⟩ := blkI HK.out
    go_wp2
    go_ret
    exact ⟨ret_str (by rw [← HA.out, ← HBs.out, ← HT.out, show (⟨#[79]⟩ : ByteArray) = strOfNums [79] from rfl, strOf_append, strOf_append, strOf_append]; simp [rep]), HB.out⟩
  · have e1 : decide ((1 : Int) < (p : Int)) = false := decide_eq_false (by omega)
    have e4 : ((m : Int) == 4) = false := ne_beq (by omega)
    have e49 : ((o : Int) == 49) = true := by rw [beq_iff_eq]; omega
    rw [if_neg q1, if_neg q4, if_pos q49]
    clear q1 q4 q49 hp ho hm hr hb
    go_enter Tryd.func10, Tryd.ntmps10
    go_wp2_with fail
    refine (CA.out _).mono ?_
    rintro e w1 ⟨rfl, hb1⟩
    replace HK := Lib.hid (Blk.below HK.out hb1 HK.out.lt)
    replace HB := Lib.hid (Below.trans0 HB.out hb1)
    clear hb1
    obtain ⟨c0, c1, c2, c3, c4, c5, c6, c7⟩ := blkI HK.out
    go_wp2_with fail
    refine (CT.out _).mono ?_
    rintro e w3 ⟨rfl, hb1⟩
    clear c0 c1 c2 c3 c4 c5 c6 c7
    replace HK := Lib.hid (Blk.below HK.out hb1 HK.out.lt)
    replace HB := Lib.hid (Below.trans0 HB.out hb1)
    clear hb1
    obtain ⟨c0, c1, c2, c3, c4, c5, c6, c7⟩ := blkI HK.out
    go_wp2_with fail
    refine (CR.out _).mono ?_
    rintro e w' ⟨rfl, rfl⟩
    go_wp2
    go_ret
    exact ⟨ret_str (by rw [← HA.out, ← HT.out, ← HR.out, show (⟨#[79]⟩ : ByteArray) = strOfNums [79] from rfl, strOf_append, strOf_append, strOf_append]; simp [rep]), HB.out⟩
  · have e1 : decide ((1 : Int) < (p : Int)) = false := decide_eq_false (by omega)
    have e4 : ((m : Int) == 4) = false := ne_beq (by omega)
    have e49 : ((o : Int) == 49) = false := ne_beq (by omega)
    rw [if_neg q1, if_neg q4, if_neg q49]
    clear q1 q4 q49 hp ho hm hr hb
    go_enter Tryd.func10, Tryd.ntmps10
    go_wp2_with fail
    refine (CA.out _).mono ?_
    rintro e w1 ⟨rfl, hb1⟩
    replace HK := Lib.hid (Blk.below HK.out hb1 HK.out.lt)
    replace HB := Lib.hid (Below.trans0 HB.out hb1)
    clear hb1
    obtain ⟨c0, c1, c2, c3, c4, c5, c6, c7⟩ := blkI HK.out
    go_wp2_with fail
    refine (CT.out _).mono ?_
    rintro e w3 ⟨rfl, hb1⟩
    clear c0 c1 c2 c3 c4 c5 c6 c7
    replace HK := Lib.hid (Blk.below HK.out hb1 HK.out.lt)
    replace HB := Lib.hid (Below.trans0 HB.out hb1)
    clear hb1
    obtain ⟨c0, c1, c2, c3, c4, c5, c6, c7⟩ := blkI HK.out
    go_wp2
    go_ret
    exact ⟨ret_str (by rw [← HA.out, ← HT.out, show (⟨#[79]⟩ : ByteArray) = strOfNums [79] from rfl, strOf_append, strOf_append]; simp [rep]), HB.out⟩


def okS23 (xs : List Int) : Bool := xs.all (fun x => decide (0 ≤ x) && decide (x < 256)) && decide (xs.length ≤ 100) && endsQ xs
theorem okS23_out {xs : List Int} (h : okS23 xs = true) : (∀ x ∈ xs, 0 ≤ x ∧ x < 256) ∧ xs.length ≤ 100 ∧ endsQ xs = true := by
  unfold okS23 at h
  rw [Bool.and_eq_true, Bool.and_eq_true, List.all_eq_true, decide_eq_true_eq] at h
  refine ⟨fun x hx => ?_, h.1.2, h.2⟩
  have := h.1.1 x hx
  simpa using this
theorem okA : ((List.range 10).all fun m => okS23 (aheadS m)) = true := by decide +kernel
theorem okB : ((List.range 256).all fun b => okS23 (behindS (poBytes (poK b)) (poIdle (poK b)) (poI b))) = true := by decide +kernel
theorem okT : ((List.range 768).all fun j => (List.range 13).all fun n => okS23 (tailS (eOp (pgT j)) (eMode (pgT j)) (grpN (eOp (pgT j))).toNat true n) && okS23 (tailS (eOp (pgT j)) (eMode (pgT j)) (grpN (eOp (pgT j))).toNat false n)) = true := by decide +kernel
theorem okR : ∀ d : Bool, okS23 (restS d) = true := by decide +kernel
theorem holdsX_one' (cc : Int) : holdsX 1 cc = false := by unfold holdsX; rw [if_pos (by omega)]; rfl
theorem of_same (p o m b : Nat) (h d : Bool) (hp : p = 1 ∨ p = 2 ∨ p = 3) (a1 : endsQ (aheadS m) = true) (a2 : stepsOf (aheadS m) = aheadL m) (b1 : endsQ (behindS (poBytes (poK b)) (poIdle (poK b)) (poI b)) = true) (b2 : stepsOf (behindS (poBytes (poK b)) (poIdle (poK b)) (poI b)) = behindL (poBytes (poK b)) (poIdle (poK b)) (poI b))
    (t1 : endsQ (tailS o m (grpN (o : Int)).toNat h (cntN b)) = true) (t2 : stepsOf (tailS o m (grpN (o : Int)).toNat h (cntN b)) = tailL o m h (cntN b)) : stepsOf (ofS p o m b h d) = ofL p o m b h d := by
  have hN : (if ((p : Nat) : Int) = 2 ∨ ((p : Nat) : Int) = 3 then 2 else 1) = (if 1 < p then 2 else 1) := by rcases hp with rfl | rfl | rfl <;> rfl
  have c4 : ((m : Int) = 4) = (m = 4) := by simp; omega
  have c49 : ((o : Int) = 49) = (o = 49) := by simp; omega
  unfold ofS ofL
  rw [hN]
  simp only [c4, c49]
  have e0 : endsQ (rep [79] (if 1 < p then 2 else 1)) = true := by split <;> decide
  have s0 : stepsOf (rep [79] (if 1 < p then 2 else 1)) = someL 1 (if 1 < p then 2 else 1) := by split <;> decide
  have eB : endsQ (if m = 4 then behindS (poBytes (poK b)) (poIdle (poK b)) (poI b) else []) = true := by split; exact b1; rfl
  have e01 := ends_app _ _ e0 a1
  have e02 := ends_app _ _ e01 eB
  have e03 := ends_app _ _ e02 t1
  rw [steps_app _ _ e03, steps_app _ _ e02, steps_app _ _ e01, steps_app _ _ e0, s0, a2, t2, apply_ite stepsOf, apply_ite stepsOf, b2, rest_same]
  have n0 : stepsOf [] = [] := rfl
  rw [n0]
  generalize someL 1 (if 1 < p then 2 else 1) = A
  generalize aheadL (m : Int) = B
  generalize behindL (poBytes (poK b)) (poIdle (poK b)) (poI b) = C
  generalize tailL (o : Int) (m : Int) h (cntN b) = T
  generalize restL d = R
  by_cases q4 : m = 4 <;> by_cases q49 : o = 49
  · rw [if_pos q4, if_pos q49, if_pos q4, if_pos q49]; simp only [List.flatten_cons, List.flatten_nil, List.append_nil]
  · rw [if_pos q4, if_neg q49, if_pos q4, if_neg q49]; simp only [List.flatten_cons, List.flatten_nil, List.append_nil]
  · rw [if_neg q4, if_pos q49, if_neg q4, if_pos q49]; simp only [List.flatten_cons, List.flatten_nil, List.append_nil]
  · rw [if_neg q4, if_neg q49, if_neg q4, if_neg q49]; simp only [List.flatten_cons, List.flatten_nil, List.append_nil]
set_option maxRecDepth 100000 in
set_option maxHeartbeats 8000000 in
theorem law_insts23 (A : Option Addr) (n cap : Nat) (xs : List Int) (cc pulled : Int) (hcc : CC cc) (q0 : 0 ≤ pulled) (q1 : pulled < 256) (w : World) (hI : Ints .u8 w w.heap.size A n xs) (hA : A = none → n = 0 ∧ cap = 0) (hn : n ≤ 140737488351232) (hT : KindsAt w) :
    Calls Tryd.prog 3 #[.slice A n cap, .int .u8 cc, .int .u8 pulled] w fun e w' => e = .returned (.bool true) ∧ Below w.heap.size w w' := by
  have HT0 := Lib.hid hT
  have C0 := of18_any A n cap xs w hI hA hn
  have CO := Lib.hid C0
  have HAg : Hid (inOk xs = true → inAgg xs = #[.int .i64 (inPg xs : Int), .int .u8 (inCo xs), .int .i64 (eOp (inE xs)), .int .i64 (eMode (inE xs)), .int .i64 (eReg (inE xs)), .int .u8 (inPo xs), .int .u16 (inVa xs), .int .i64 (inLn xs : Int)]) := Lib.hid (fun h => iC23 xs h)
  have HAz : Hid (inOk xs = false → inAgg xs = #[.int .i64 0, .int .u8 0, .int .i64 0, .int .i64 0, .int .i64 0, .int .u8 0, .int .u16 0, .int .i64 0]) := Lib.hid (fun h => by unfold inAgg; rw [h]; rfl)
  obtain ⟨j, b, hj, hb, h1, h2, h3, h4⟩ := in_parts hI.2.1
  have hmd := inMd_le hI.2.1
  unfold inMd at hmd
  rw [h1] at hmd
  rw [h1, h2, h3] at HAg
  have hv := allB 768 _ vp_fin j hj
  rw [Bool.and_eq_true, Nat.blt_eq] at hv
  obtain ⟨hv, ho⟩ := hv
  have hreg : eReg (pgT j) < 16 := by unfold eReg; omega
  have hp3 : 1 ≤ j / 256 + 1 ∧ j / 256 + 1 ≤ 3 := by omega
  have hcn := Nat.le_of_ble_eq_true (allB 256 _ cnt12 b hb)
  have hX : holdsX (eReg (pgT j) : Int) cc = holdsB (eReg (pgT j)) cc := by unfold holdsX; rw [if_pos (by omega), Int.toNat_natCast]
  have kA := okS23_out (allB 10 _ okA (eMode (pgT j)) (by omega))
  have kB := okS23_out (allB 256 _ okB b hb)
  have kT0 := allB 13 _ (allB 768 _ okT j hj) (cntN b) (by omega)
  have kT : okS23 (tailS (eOp (pgT j)) (eMode (pgT j)) (grpN (eOp (pgT j))).toNat (holdsB (eReg (pgT j)) cc) (cntN b)) = true := by
    rw [Bool.and_eq_true] at kT0
    cases holdsB (eReg (pgT j)) cc
    · exact kT0.2
    · exact kT0.1
  have kT := okS23_out kT
  have kR := okS23_out (okR (decide (127 < pulled)))
  have sA := allB 10 _ ahead_same (eMode (pgT j)) (by omega)
  have sB := allB 256 _ behind_same b hb
  have sT0 := allB 13 _ (allB 768 _ tail_same j hj) (cntN b) (by omega)
  rw [decide_eq_true_eq] at sA sB
  have sT : stepsOf (tailS (eOp (pgT j)) (eMode (pgT j)) (grpN (eOp (pgT j))).toNat (holdsB (eReg (pgT j)) cc) (cntN b)) = tailL (eOp (pgT j)) (eMode (pgT j)) (holdsB (eReg (pgT j)) cc) (cntN b) := by
    rw [Bool.and_eq_true] at sT0
    cases holdsB (eReg (pgT j)) cc
    · exact of_decide_eq_true sT0.2
    · exact of_decide_eq_true sT0.1
  have hsame := of_same (j / 256 + 1) (eOp (pgT j)) (eMode (pgT j)) b (holdsB (eReg (pgT j)) cc) (decide (127 < pulled)) (by omega) kA.2.2 sA kB.2.2 sB kT.2.2 sT
  have hSl : (∀ x ∈ ofS (j / 256 + 1) (eOp (pgT j)) (eMode (pgT j)) b (holdsB (eReg (pgT j)) cc) (decide (127 < pulled)), 0 ≤ x ∧ x < 256) ∧ (ofS (j / 256 + 1) (eOp (pgT j)) (eMode (pgT j)) b (holdsB (eReg (pgT j)) cc) (decide (127 < pulled))).length ≤ 1000 := by
    have g0 : (∀ x ∈ rep [79] (if 1 < j / 256 + 1 then 2 else 1), 0 ≤ x ∧ x < 256) ∧ (rep [79] (if 1 < j / 256 + 1 then 2 else 1)).length ≤ 100 := by split <;> decide
    have gB : (∀ x ∈ (if eMode (pgT j) = 4 then behindS (poBytes (poK b)) (poIdle (poK b)) (poI b) else []), 0 ≤ x ∧ x < 256) ∧ (if eMode (pgT j) = 4 then behindS (poBytes (poK b)) (poIdle (poK b)) (poI b) else []).length ≤ 100 := by
      split
      · exact ⟨kB.1, kB.2.1⟩
      · simp
    have gR : (∀ x ∈ (if eOp (pgT j) = 49 then restS (decide (127 < pulled)) else []), 0 ≤ x ∧ x < 256) ∧ (if eOp (pgT j) = 49 then restS (decide (127 < pulled)) else []).length ≤ 100 := by
      split
      · exact ⟨kR.1, kR.2.1⟩
      · simp
    unfold ofS
    refine ⟨fun x hx => ?_, ?_⟩
    · simp only [List.mem_append] at hx
      rcases hx with (((hx | hx) | hx) | hx) | hx
      · exact g0.1 x hx
      · exact kA.1 x hx
      · exact gB.1 x hx
      · exact kT.1 x hx
      · exact gR.1 x hx
    · simp only [List.length_append]
      have := kA.2.1; have := kT.2.1; have := g0.2; have := gB.2; have := gR.2
      omega
  have hh : ¬ (eOp (pgT j) = 35 ∧ eReg (pgT j) = 1 ∧ holdsX (eReg (pgT j) : Int) cc = true) := fun e => by
    have := e.2.2
    rw [e.2.1] at this
    exact absurd (this.symm.trans (holdsX_one' cc)) (by decide)
  have hrl := restL_len (decide (127 < pulled))
  have htl := tailL_len (eOp (pgT j) : Int) (eMode (pgT j) : Int) (holdsB (eReg (pgT j)) cc) (cntN b)
  have hal := aheadL_len (eMode (pgT j) : Int)
  have hbl := behindL_len (poBytes (poK b)) (poIdle (poK b)) (poI b)
  have hpo := allB 14 _ po_le (poK b) (poK_lt b hb)
  rw [Bool.and_eq_true, Nat.ble_eq, Nat.ble_eq] at hpo
  have hll : (ofL ((j / 256 + 1 : Nat) : Int) (eOp (pgT j)) (eMode (pgT j)) b (holdsB (eReg (pgT j)) cc) (decide (127 < pulled))).length ≤ 1000 := by
    rw [← hsame]
    have hq := foldS_len (ofS (j / 256 + 1) (eOp (pgT j)) (eMode (pgT j)) b (holdsB (eReg (pgT j)) cc) (decide (127 < pulled))) ([], false)
    unfold stepsOf
    simp only [List.length_nil] at hq
    have := hSl.2
    omega
  have R1 := Lib.hid (fun w hT => rowsOf_st ((j / 256 + 1 : Nat) : Int) (inCo xs) (eOp (pgT j)) (eMode (pgT j)) (eReg (pgT j)) (inVa xs) (inLn xs : Int) b hb cc pulled hcc q0 q1 w hT)
  have R2 := Lib.hid (fun w => tail_st (eOp (pgT j) : Int) (eMode (pgT j) : Int) (eReg (pgT j) : Int) cc b hb hcc w)
  have R3 := Lib.hid (fun w => rest_st pulled q0 q1 w)
  rw [hX] at R1 R2
  have S1 := Lib.hid (fun w => of23_any (j / 256 + 1) (eOp (pgT j)) (eMode (pgT j)) (eReg (pgT j)) b hp3 ho hmd hreg hb (inCo xs) (inVa xs) (inLn xs : Int) cc pulled hcc hv kA.2.1 kB.2.1 kT.2.1 w)
  have S2 := Lib.hid (fun w => tail23_any (eOp (pgT j)) (eMode (pgT j)) (eReg (pgT j)) b ho hreg hb cc hcc hv w)
  have S3 := Lib.hid (fun w => rest23_any pulled w)
  have T1 : Hid (∀ w, Calls Tryd.prog 9 #[.string (strOfNums (ofS (j / 256 + 1) (eOp (pgT j)) (eMode (pgT j)) b (holdsB (eReg (pgT j)) cc) (decide (127 < pulled))))] w (GivesR w (ofL ((j / 256 + 1 : Nat) : Int) (eOp (pgT j)) (eMode (pgT j)) b (holdsB (eReg (pgT j)) cc) (decide (127 < pulled))))) := Lib.hid (fun w => by
    have := steps_str _ hSl.1 hSl.2 w
    rw [hsame] at this
    exact this)
  have T2 : Hid (∀ w, Calls Tryd.prog 9 #[.string (strOfNums (tailS (eOp (pgT j)) (eMode (pgT j)) (grpN (eOp (pgT j))).toNat (holdsB (eReg (pgT j)) cc) (cntN b)))] w (GivesR w (tailL (eOp (pgT j)) (eMode (pgT j)) (holdsB (eReg (pgT j)) cc) (cntN b)))) := Lib.hid (fun w => by
    have := steps_str _ kT.1 (by have := kT.2.1; omega) w
    rw [sT] at this
    exact this)
  have T3 : Hid (∀ w, Calls Tryd.prog 9 #[.string (strOfNums (restS (decide (127 < pulled))))] w (GivesR w (restL (decide (127 < pulled))))) := Lib.hid (fun w => by
    have := steps_str _ kR.1 (by have := kR.2.1; omega) w
    rw [rest_same] at this
    exact this)
  have L1 := Lib.hid hll
  have L2 := Lib.hid (show (tailL (eOp (pgT j)) (eMode (pgT j)) (holdsB (eReg (pgT j)) cc) (cntN b)).length ≤ 1000 by omega)
  have L3 := Lib.hid (show (restL (decide (127 < pulled))).length ≤ 1000 by omega)
  generalize strOfNums (ofS (j / 256 + 1) (eOp (pgT j)) (eMode (pgT j)) b (holdsB (eReg (pgT j)) cc) (decide (127 < pulled))) = s1 at S1 T1
  generalize strOfNums (tailS (eOp (pgT j)) (eMode (pgT j)) (grpN (eOp (pgT j))).toNat (holdsB (eReg (pgT j)) cc) (cntN b)) = s2 at S2 T2
  generalize strOfNums (restS (decide (127 < pulled))) = s3 at S3 T3
  generalize ofL ((j / 256 + 1 : Nat) : Int) (eOp (pgT j)) (eMode (pgT j)) b (holdsB (eReg (pgT j)) cc) (decide (127 < pulled)) = l1 at R1 T1 L1
  generalize tailL (eOp (pgT j)) (eMode (pgT j)) (holdsB (eReg (pgT j)) cc) (cntN b) = l2 at R2 T2 L2
  generalize restL (decide (127 < pulled)) = l3 at R3 T3 L3
  generalize ((j / 256 + 1 : Nat) : Int) = p at R1 S1 HAg
  generalize inCo xs = co at R1 S1 HAg
  generalize inVa xs = va at R1 S1 HAg
  generalize (inLn xs : Int) = ln at R1 S1 HAg
  generalize (eOp (pgT j) : Int) = o at R1 R2 S1 S2 HAg
  generalize (eMode (pgT j) : Int) = m at R1 R2 S1 S2 HAg
  generalize (eReg (pgT j) : Int) = r at R1 R2 S1 S2 HAg
  generalize inAgg xs = ag at CO HAg HAz
  generalize inOk xs = ok at CO HAg HAz
  clear hI hA hn hT C0 h1 h2 h3 h4 hmd hv ho hreg hp3 hcn hX kA kB kT0 kT kR sA sB sT0 sT hsame hSl hh hrl htl hal hbl hpo hll hcc q0 q1 hj
  cases ok
  · obtain rfl := HAz.out rfl
    go_enter Tryd.func3, Tryd.ntmps3
    go_wp2_with fail
    refine CO.out.mono ?_
    rintro e v1 ⟨rfl, hb1⟩
    have HB1 := Lib.hid (Below.alloc0 hb1 (Obj.cells #[.int .i64 0, .int .u8 0, .int .i64 0, .int .i64 0, .int .i64 0, .int .u8 0, .int .u16 0, .int .i64 0] 27))
    clear hb1
    by_cases hlen : 20 < n
    · have d1 : decide ((20 : Int) < (n : Int)) = true := decide_eq_true (by omega)
      clear hlen
      go_wp2
      go_ret
      exact ⟨rfl, HB1.out⟩
    · have d1 : decide ((20 : Int) < (n : Int)) = false := decide_eq_false (by omega)
      clear hlen
      go_wp2
      go_ret
      exact ⟨rfl, HB1.out⟩
  · obtain rfl := HAg.out rfl
    go_enter Tryd.func3, Tryd.ntmps3
    go_wp2_with fail
    refine CO.out.mono ?_
    rintro e v1 ⟨rfl, hb1⟩
    have HB1 := Lib.hid (Below.alloc0 hb1 (Obj.cells #[.int .i64 p, .int .u8 co, .int .i64 o, .int .i64 m, .int .i64 r, .int .u8 b, .int .u16 va, .int .i64 ln] 27))
    have HT1 := Lib.hid (KindsAt.bel HT0.out (Below.alloc0 hb1 (Obj.cells #[.int .i64 p, .int .u8 co, .int .i64 o, .int .i64 m, .int .i64 r, .int .u8 b, .int .u16 va, .int .i64 ln] 27)))
    have HK1 := Lib.hid (Blk.new v1 27 #[.int .i64 p, .int .u8 co, .int .i64 o, .int .i64 m, .int .i64 r, .int .u8 b, .int .u16 va, .int .i64 ln] (0, 0))
    clear hb1
    by_cases hlen : 20 < n
    · have d1 : decide ((20 : Int) < (n : Int)) = true := decide_eq_true (by omega)
      clear hlen
      go_wp2
      go_ret
      exact ⟨rfl, HB1.out⟩
    · have d1 : decide ((20 : Int) < (n : Int)) = false := decide_eq_false (by omega)
      clear hlen
      obtain ⟨c0, c1, c2, c3, c4, c5, c6, c7⟩ := blkI HK1.out
      have HK0 := Lib.hid (show Blk (v1.alloc (Obj.cells #[.int .i64 p, .int .u8 co, .int .i64 o, .int .i64 m, .int .i64 r, .int .u8 (b : Int), .int .u16 va, .int .i64 ln] 27)).drew v1.heap.size 27 #[.int .i64 p, .int .u8 co, .int .i64 o, .int .i64 m, .int .i64 r, .int .u8 (b : Int), .int .u16 va, .int .i64 ln] from HK1.out)
      have HT0' := Lib.hid (show KindsAt (v1.alloc (Obj.cells #[.int .i64 p, .int .u8 co, .int .i64 o, .int .i64 m, .int .i64 r, .int .u8 (b : Int), .int .u16 va, .int .i64 ln] 27)).drew from HT1.out)
      have HB0 := Lib.hid (Below.drew0 HB1.out)
      clear HK1 HT1 HB1 HT0 c0 c1 c2 c3 c4 c5 c6 c7
      have HT0 := HT0'
      go_upto_region 4 with (fail)
      go_region_held3 (fun w' => w'.cell? ⟨v1.heap.size, 0, none⟩ = some (.int .i64 p) ∧ w'.cell? ⟨v1.heap.size, 1, none⟩ = some (.int .u8 co) ∧ w'.cell? ⟨v1.heap.size, 2, none⟩ = some (.int .i64 o) ∧ w'.cell? ⟨v1.heap.size, 3, none⟩ = some (.int .i64 m) ∧ w'.cell? ⟨v1.heap.size, 4, none⟩ = some (.int .i64 r) ∧ w'.cell? ⟨v1.heap.size, 5, none⟩ = some (.int .u8 (b : Int)) ∧ w'.cell? ⟨v1.heap.size, 6, none⟩ = some (.int .u16 va) ∧ w'.cell? ⟨v1.heap.size, 7, none⟩ = some (.int .i64 ln))
        (first
          | (with_reducible exact blkI HK0.out)
          | (with_reducible exact blkI HK1.out)
          | (with_reducible exact blkI HK2.out)
          | (with_reducible exact blkI HK3.out)
          | (with_reducible exact blkI HK4.out)
          | (with_reducible exact blkI HK5.out)
          | (with_reducible exact blkI HK6.out)
          | (with_reducible exact blkI HK7.out)
          | (with_reducible exact blkI HK8.out)
          | (with_reducible exact blkI HK9.out)
          | (with_reducible exact blkI HK10.out)
          | (with_reducible exact blkI HK11.out)
          | (with_reducible exact blkI HK12.out))
        (first
          | (go_at_call 8; ((with_reducible refine (R1.out _ HT0'.out).mono ?_); rintro e u1 ⟨vv1, rfl, hr, hb⟩; have RA := Lib.hid hr; have HK1 := Lib.hid (Blk.below HK0.out hb HK0.out.lt); have HT1 := Lib.hid (KindsAt.bel HT0.out hb); have HB1 := Lib.hid (Below.trans0 HB0.out hb); clear hb hr))
          | (go_at_call 10; ((with_reducible refine (S1.out _).mono ?_); rintro e u2 ⟨rfl, hb⟩; have HK2 := Lib.hid (Blk.below HK1.out hb HK1.out.lt); have HT2 := Lib.hid (KindsAt.bel HT1.out hb); have HB2 := Lib.hid (Below.trans0 HB1.out hb); have RA2 := Lib.hid (RA.out.below hb); clear hb))
          | (go_at_call 9; ((with_reducible refine (T1.out _).mono ?_); rintro e u3 ⟨vv3, rfl, hr, hb⟩; have RB := Lib.hid hr; have HK3 := Lib.hid (Blk.below HK2.out hb HK2.out.lt); have HT3 := Lib.hid (KindsAt.bel HT2.out hb); have HB3 := Lib.hid (Below.trans0 HB2.out hb); have RA3 := Lib.hid (RA2.out.below hb); clear hb hr))
          | (go_at_call 7; ((with_reducible refine (eqSt_same _ _ _ _ _ RA3.out RB.out rfl (by have := L1.out; omega)).mono ?_); rintro e u4 ⟨rfl, hb⟩; have HK4 := Lib.hid (Blk.below HK3.out hb HK3.out.lt); have HT4 := Lib.hid (KindsAt.bel HT3.out hb); have HB4 := Lib.hid (Below.trans0 HB3.out hb); clear hb))
          | (go_at_call 11; ((with_reducible refine (R2.out _).mono ?_); rintro e u5 ⟨vv5, rfl, hr, hb⟩; have RC := Lib.hid hr; have HK5 := Lib.hid (Blk.below HK4.out hb HK4.out.lt); have HT5 := Lib.hid (KindsAt.bel HT4.out hb); have HB5 := Lib.hid (Below.trans0 HB4.out hb); clear hb hr))
          | (go_at_call 12; ((with_reducible refine (S2.out _).mono ?_); rintro e u6 ⟨rfl, hb⟩; have HK6 := Lib.hid (Blk.below HK5.out hb HK5.out.lt); have HT6 := Lib.hid (KindsAt.bel HT5.out hb); have HB6 := Lib.hid (Below.trans0 HB5.out hb); have RC2 := Lib.hid (RC.out.below hb); clear hb))
          | (go_at_call 9; ((with_reducible refine (T2.out _).mono ?_); rintro e u7 ⟨vv7, rfl, hr, hb⟩; have RD := Lib.hid hr; have HK7 := Lib.hid (Blk.below HK6.out hb HK6.out.lt); have HT7 := Lib.hid (KindsAt.bel HT6.out hb); have HB7 := Lib.hid (Below.trans0 HB6.out hb); have RC3 := Lib.hid (RC2.out.below hb); clear hb hr))
          | (go_at_call 7; ((with_reducible refine (eqSt_same _ _ _ _ _ RC3.out RD.out rfl (by have := L2.out; omega)).mono ?_); rintro e u8 ⟨rfl, hb⟩; have HK8 := Lib.hid (Blk.below HK7.out hb HK7.out.lt); have HT8 := Lib.hid (KindsAt.bel HT7.out hb); have HB8 := Lib.hid (Below.trans0 HB7.out hb); clear hb))
          | (go_at_call 13; ((with_reducible refine (R3.out _).mono ?_); rintro e u9 ⟨vv9, rfl, hr, hb⟩; have RE := Lib.hid hr; have HK9 := Lib.hid (Blk.below HK8.out hb HK8.out.lt); have HT9 := Lib.hid (KindsAt.bel HT8.out hb); have HB9 := Lib.hid (Below.trans0 HB8.out hb); clear hb hr))
          | (go_at_call 14; ((with_reducible refine (S3.out _).mono ?_); rintro e w' ⟨rfl, rfl⟩))
          | (go_at_call 9; ((with_reducible refine (T3.out _).mono ?_); rintro e u10 ⟨vv10, rfl, hr, hb⟩; have RF := Lib.hid hr; have HK10 := Lib.hid (Blk.below HK9.out hb HK9.out.lt); have HT10 := Lib.hid (KindsAt.bel HT9.out hb); have HB10 := Lib.hid (Below.trans0 HB9.out hb); have RE2 := Lib.hid (RE.out.below hb); clear hb hr))
          | (go_at_call 7; ((with_reducible refine (eqSt_same _ _ _ _ _ RE2.out RF.out rfl (by have := L3.out; omega)).mono ?_); rintro e u11 ⟨rfl, hb⟩; have HK11 := Lib.hid (Blk.below HK10.out hb HK10.out.lt); have HT11 := Lib.hid (KindsAt.bel HT10.out hb); have HB11 := Lib.hid (Below.trans0 HB10.out hb); clear hb))
          | (go_at_call 15; ((with_reducible refine (alive23 _ HT11.out).mono ?_); rintro e u12 ⟨rfl, hb⟩; have HK12 := Lib.hid (Blk.below HK11.out hb HK11.out.lt); have HT12 := Lib.hid (KindsAt.bel HT11.out hb); have HB12 := Lib.hid (Below.trans0 HB11.out hb); clear hb)))
      go_wp2
      go_ret
      exact ⟨rfl, HB12.out⟩


theorem IsRow.none0 {k : IntKind} {w : World} {a : Option Addr} {len cap : Nat} {zs : List Int} (h : IsRow k w a len cap zs) (ha : a = none) : len = 0 ∧ cap = 0 := by
  rcases h with ⟨_, h1, h2, _⟩ | ⟨x, hx, _⟩
  · exact ⟨h1, h2⟩
  · rw [ha] at hx; cases hx
theorem IsRow.le_cap {k : IntKind} {w : World} {a : Option Addr} {len cap : Nat} {zs : List Int} (h : IsRow k w a len cap zs) : len ≤ cap := by
  rcases h with ⟨_, h1, h2, _⟩ | ⟨x, hx, hl, _⟩ <;> omega


def kindsM : List Int := [7, 8, 9, 10, 0, 5, 4, 0, 2, 3, 0, 6, 11, 12, 0, 13]
theorem kindsM_at : ∀ k : Fin 16, kindsM.getD k.val 0 = (kinds16 k.val : Int) := by decide +kernel
theorem kindsAt_of_one {W : World} (h1 : OneLaid Tryd.prog W "spinet/post.kinds" (Lib.tabData .i64 kindsM)) : KindsAt W := fun k hk => by
  have := h1.ints (g := 0) (t := 76) (e := 3) (n := 16) (by kernel_rfl) (by kernel_rfl) Tryd.underlying76 Tryd.underlying3 (by kernel_rfl) (by kernel_rfl) k hk
  rw [this, kindsM_at ⟨k, hk⟩]
theorem kindsAt_of_laid {W : World} (h : laidMetH Tryd.prog [("spinet/post.kinds", Lib.tabData .i64 kindsM)] W) : KindsAt W := by
  rw [MakeChecks.laidMetH_plain _ _ _ (by rfl)] at h
  obtain ⟨ps, h, _⟩ := h
  exact kindsAt_of_one (laidVars_cons h).1
end Go.Proofs.YtkdekhcnamkcgabDoor
