/- Contracts of package logic's calls, and of the document's, bit by bit. -/
import Derived.Test.YtkdekhcnamkcgabCod
import Derived.Test.YtkdekhcnamkcgabBit
namespace Go.Proofs.Ytkdekhcnamkcgab
open Go.ChangeShapes Go.WideShapes Go.ChangeAt Go.RowKit
set_option linter.unusedVariables false

def tstC (cc r : Int) : Int := putRef (nzRef cc r 128) 2 false
theorem CC.tst {cc : Int} (h : CC cc) (r : Int) : CC (tstC cc r) := (h.nz _ _).put _ _
theorem tstC_ref (cc r : Int) (h : CC cc) : nzRef (putRef cc 2 false) r 128 = tstC cc r := by
  unfold tstC
  rw [nzRef_swap cc 2 _ _ _ h.1 h.2 bit2 (by decide) (by decide)]
/-- What bit by bit comes of two bytes, the highest bit first; how: which of the document's ways. -/
def takes (how : Nat) (x y : Bool) : Bool := match how with
  | 1 => x && y
  | 2 => x || y
  | 3 => x != y
  | _ => !x
def pw7 (k : Nat) : Int := ((128 / 2 ^ k : Nat) : Int)
def bitsTo (how : Nat) (a b : Int) : Nat → Int
  | 0 => 0
  | k + 1 => bitsTo how a b k + (if takes how (hasRef a (pw7 k)) (hasRef b (pw7 k)) then pw7 k else 0)
theorem pw7_bit (k : Nat) (h : k < 8) : IsBit (pw7 k) := by
  rcases (show k = 0 ∨ k = 1 ∨ k = 2 ∨ k = 3 ∨ k = 4 ∨ k = 5 ∨ k = 6 ∨ k = 7 by omega) with rfl | rfl | rfl | rfl | rfl | rfl | rfl | rfl <;> simp [IsBit, pw7]
theorem pw7_range (k : Nat) (h : k < 8) : 0 < pw7 k ∧ pw7 k < 256 := by
  have := pw7_bit k h; unfold IsBit at this; omega
theorem pw7_next (k : Nat) (h : k < 8) : pw7 k / 2 = pw7 (k + 1) := by
  rcases (show k = 0 ∨ k = 1 ∨ k = 2 ∨ k = 3 ∨ k = 4 ∨ k = 5 ∨ k = 6 ∨ k = 7 by omega) with rfl | rfl | rfl | rfl | rfl | rfl | rfl | rfl <;> decide
theorem bitsTo_range (how : Nat) (a b : Int) : ∀ k, k ≤ 8 → 0 ≤ bitsTo how a b k ∧ bitsTo how a b k + ((2 ^ (8 - k) : Nat) : Int) ≤ 256
  | 0, _ => by simp [bitsTo]
  | k + 1, h => by
    have ih := bitsTo_range how a b k (by omega)
    have h1 := pw7_range k (by omega)
    have h2 : ((2 ^ (8 - k) : Nat) : Int) = 2 * ((2 ^ (8 - (k + 1)) : Nat) : Int) ∧ pw7 k = ((2 ^ (8 - (k + 1)) : Nat) : Int) := by
      rcases (show k = 0 ∨ k = 1 ∨ k = 2 ∨ k = 3 ∨ k = 4 ∨ k = 5 ∨ k = 6 ∨ k = 7 by omega) with rfl | rfl | rfl | rfl | rfl | rfl | rfl | rfl <;> decide
    unfold bitsTo
    split <;> omega
theorem bitsTo_room (how : Nat) (a b : Int) (k : Nat) (h : k < 8) : 0 ≤ bitsTo how a b k ∧ bitsTo how a b k + pw7 k ≤ 255 := by
  have ih := bitsTo_range how a b k (by omega)
  have h1 := pw7_range k h
  have h2 : ((2 ^ (8 - k) : Nat) : Int) = 2 * pw7 k := by
    rcases (show k = 0 ∨ k = 1 ∨ k = 2 ∨ k = 3 ∨ k = 4 ∨ k = 5 ∨ k = 6 ∨ k = 7 by omega) with rfl | rfl | rfl | rfl | rfl | rfl | rfl | rfl <;> decide
  omega
theorem bitsTo_on (how : Nat) (a b : Int) (k : Nat) (h : takes how (hasRef a (pw7 k)) (hasRef b (pw7 k)) = true) : bitsTo how a b (k + 1) = bitsTo how a b k + pw7 k := by
  simp [bitsTo, h]
theorem bitsTo_off (how : Nat) (a b : Int) (k : Nat) (h : takes how (hasRef a (pw7 k)) (hasRef b (pw7 k)) = false) : bitsTo how a b (k + 1) = bitsTo how a b k := by
  simp [bitsTo, h]
theorem has_bv : ∀ (x : Fin 256) (k : Fin 8), hasRef (x.val : Int) (pw7 k.val) = (BitVec.ofNat 8 x.val).getLsbD (7 - k.val) := by decide +kernel
def sumBits (f : Nat → Bool) : Nat → Int
  | 0 => 0
  | k + 1 => sumBits f k + (if f k then pw7 k else 0)
theorem sum_bv : ∀ x : Fin 256, sumBits (fun k => (BitVec.ofNat 8 x.val).getLsbD (7 - k)) 8 = (x.val : Int) := by decide +kernel
theorem sum_bv' (r : BitVec 8) : sumBits (fun k => r.getLsbD (7 - k)) 8 = (r.toNat : Int) := by
  have h := sum_bv ⟨r.toNat, r.isLt⟩
  rw [← h]
  simp
theorem bitsTo_sum (how : Nat) (a b : Int) (r : BitVec 8) (ha : 0 ≤ a) (ha' : a < 256) (hb : 0 ≤ b) (hb' : b < 256)
    (h : ∀ i, i < 8 → r.getLsbD i = takes how ((bv a).getLsbD i) ((bv b).getLsbD i)) : bitsTo how a b 8 = (r.toNat : Int) := by
  rw [← sum_bv' r]
  obtain ⟨n, rfl⟩ := Int.eq_ofNat_of_zero_le ha
  obtain ⟨m, rfl⟩ := Int.eq_ofNat_of_zero_le hb
  have key : ∀ k, k ≤ 8 → bitsTo how (n : Int) (m : Int) k = sumBits (fun k => r.getLsbD (7 - k)) k := by
    intro k
    induction k with
    | zero => intro _; rfl
    | succ k ih =>
      intro hk
      unfold bitsTo sumBits
      have e1 := has_bv ⟨n, by omega⟩ ⟨k, by omega⟩
      have e2 := has_bv ⟨m, by omega⟩ ⟨k, by omega⟩
      simp only at e1 e2
      rw [ih (by omega), h (7 - k) (by omega), e1, e2]
      unfold bv
      rw [BitVec.ofInt_natCast, BitVec.ofInt_natCast]
  exact key 8 (Nat.le_refl _)
theorem bits1 (a b : Int) (ha : 0 ≤ a) (ha' : a < 256) (hb : 0 ≤ b) (hb' : b < 256) : bitsTo 1 a b 8 = bits .and .u8 a b := by
  rw [bv_and]; exact bitsTo_sum 1 a b _ ha ha' hb hb' fun i _ => by rw [BitVec.getLsbD_and]; rfl
theorem bits2 (a b : Int) (ha : 0 ≤ a) (ha' : a < 256) (hb : 0 ≤ b) (hb' : b < 256) : bitsTo 2 a b 8 = bits .or .u8 a b := by
  rw [bv_or]; exact bitsTo_sum 2 a b _ ha ha' hb hb' fun i _ => by rw [BitVec.getLsbD_or]; rfl
theorem bits3 (a b : Int) (ha : 0 ≤ a) (ha' : a < 256) (hb : 0 ≤ b) (hb' : b < 256) : bitsTo 3 a b 8 = bits .xor .u8 a b := by
  rw [bv_xor]; exact bitsTo_sum 3 a b _ ha ha' hb hb' fun i _ => by rw [BitVec.getLsbD_xor]; rfl
theorem bits4 (a b : Int) (ha : 0 ≤ a) (ha' : a < 256) (hb : 0 ≤ b) (hb' : b < 256) : bitsTo 4 a b 8 = 255 - a := by
  have e := bitsTo_sum 4 a b (~~~ bv a) ha ha' hb hb' fun i hi => by rw [BitVec.getLsbD_not]; simp [hi, takes]
  rw [e, BitVec.toNat_not]
  have := bv_back a ha ha'
  have := (bv a).isLt
  omega
theorem and_or_sum (a b : Int) (ha : 0 ≤ a) (ha' : a < 256) (hb : 0 ≤ b) (hb' : b < 256) : bits .and .u8 a b + bits .or .u8 a b = a + b ∧ bits .xor .u8 a b = bits .or .u8 a b - bits .and .u8 a b := by
  have hsum : ∀ k, bitsTo 1 a b k + bitsTo 2 a b k = sumBits (fun k => hasRef a (pw7 k)) k + sumBits (fun k => hasRef b (pw7 k)) k ∧ bitsTo 3 a b k = bitsTo 2 a b k - bitsTo 1 a b k := by
    intro k
    induction k with
    | zero => exact ⟨rfl, rfl⟩
    | succ k ih =>
      unfold bitsTo sumBits
      cases hasRef a (pw7 k) <;> cases hasRef b (pw7 k) <;> simp [takes] <;> omega
  have hv : ∀ x : Int, 0 ≤ x → x < 256 → sumBits (fun k => hasRef x (pw7 k)) 8 = x := by
    intro x h0 h1
    obtain ⟨n, rfl⟩ := Int.eq_ofNat_of_zero_le h0
    have := sum_bv ⟨n, by omega⟩
    have e : ∀ k, k ≤ 8 → sumBits (fun k => hasRef (n : Int) (pw7 k)) k = sumBits (fun k => (BitVec.ofNat 8 n).getLsbD (7 - k)) k := by
      intro k
      induction k with
      | zero => intro _; rfl
      | succ k ih =>
        intro hk
        unfold sumBits
        rw [ih (by omega)]
        have e1 := has_bv ⟨n, by omega⟩ ⟨k, by omega⟩
        simp only at e1
        simp only [e1]
    rw [e 8 (Nat.le_refl _)]
    exact this
  have h8 := hsum 8
  rw [hv a ha ha', hv b hb hb', bits1 a b ha ha' hb hb', bits2 a b ha ha' hb hb', bits3 a b ha ha' hb hb'] at h8
  exact h8
theorem xor_back (a b : Int) (ha : 0 ≤ a) (ha' : a < 256) : bits .xor .u8 (bits .xor .u8 a b) b = a := by
  rw [bv_xor, bv_xor, bv_nat, BitVec.xor_assoc, BitVec.xor_self, BitVec.xor_zero, bv_back a ha ha']
theorem xor_255 : ∀ a : Fin 256, bits .xor .u8 IntKind.u8.max (a.val : Int) = 255 - (a.val : Int) := by decide +kernel
theorem tst_any (a cc : Int) (w : World) (hcc : CC cc) :
    Calls Try.prog 33 #[.int .u8 a, .int .u8 cc] w fun e w' => e = .returned (.int .u8 (tstC cc a)) ∧ Below w.heap.size w w' := by
  go_enter Try.func33, Try.ntmps33
  go_wp2_with (first
    | (go_at_call 58; refine (nz_bits _ _ _ hcc).mono ?_; rintro e w1 ⟨rfl, hb1⟩)
    | (go_at_call 57; refine (with_bit _ _ _ _ _ _ _ _ (by repeat (first | assumption | apply CC.put | apply CC.nz)) bit2 (Ints.new1 (by simp) (by decide)) (by omega)).mono ?_; rintro e w' ⟨rfl, rfl⟩))
  go_ret
  exact ⟨rfl, by repeat (first | assumption | apply Below.alloc0)⟩
theorem land_any (a b cc : Int) (w : World) (hcc : CC cc) :
    Calls Try.prog 28 #[.int .u8 a, .int .u8 b, .int .u8 cc] w fun e w' => e = .returned (.tuple #[.int .u8 (bits .and .u8 a b), .int .u8 (tstC cc (bits .and .u8 a b))]) ∧ Below w.heap.size w w' := by
  go_enter Try.func28, Try.ntmps28
  go_wp2_with (go_at_call 33; refine (tst_any _ _ _ hcc).mono ?_; rintro e w1 ⟨rfl, hb1⟩)
  go_ret2
  exact ⟨rfl, hb1⟩
theorem lor_any (a b cc : Int) (w : World) (hcc : CC cc) :
    Calls Try.prog 30 #[.int .u8 a, .int .u8 b, .int .u8 cc] w fun e w' => e = .returned (.tuple #[.int .u8 (bits .or .u8 a b), .int .u8 (tstC cc (bits .or .u8 a b))]) ∧ Below w.heap.size w w' := by
  go_enter Try.func30, Try.ntmps30
  go_wp2_with (go_at_call 33; refine (tst_any _ _ _ hcc).mono ?_; rintro e w1 ⟨rfl, hb1⟩)
  go_ret2
  exact ⟨rfl, hb1⟩
theorem leor_any (a b cc : Int) (w : World) (hcc : CC cc) :
    Calls Try.prog 29 #[.int .u8 a, .int .u8 b, .int .u8 cc] w fun e w' => e = .returned (.tuple #[.int .u8 (bits .xor .u8 a b), .int .u8 (tstC cc (bits .xor .u8 a b))]) ∧ Below w.heap.size w w' := by
  go_enter Try.func29, Try.ntmps29
  go_wp2_with (go_at_call 33; refine (tst_any _ _ _ hcc).mono ?_; rintro e w1 ⟨rfl, hb1⟩)
  go_ret2
  exact ⟨rfl, hb1⟩
theorem lbit_any (a b cc : Int) (w : World) (hcc : CC cc) :
    Calls Try.prog 34 #[.int .u8 a, .int .u8 b, .int .u8 cc] w fun e w' => e = .returned (.int .u8 (tstC cc (bits .and .u8 a b))) ∧ Below w.heap.size w w' := by
  go_enter Try.func34, Try.ntmps34
  go_wp2_with (go_at_call 33; refine (tst_any _ _ _ hcc).mono ?_; rintro e w1 ⟨rfl, hb1⟩)
  go_ret
  exact ⟨rfl, hb1⟩
theorem com_any (a cc : Int) (w : World) (ha : 0 ≤ a) (ha' : a < 256) (hcc : CC cc) :
    Calls Try.prog 42 #[.int .u8 a, .int .u8 cc] w fun e w' => e = .returned (.tuple #[.int .u8 (255 - a), .int .u8 (putRef (tstC cc (255 - a)) 1 true)]) ∧ Below w.heap.size w w' := by
  have hx : bits .xor .u8 IntKind.u8.max a = 255 - a := by obtain ⟨n, rfl⟩ := Int.eq_ofNat_of_zero_le ha; exact xor_255 ⟨n, by omega⟩
  go_enter Try.func42, Try.ntmps42
  go_wp2_with (first
    | (go_at_call 33; refine (tst_any _ _ _ hcc).mono ?_; rintro e w1 ⟨rfl, hb1⟩)
    | (go_at_call 57; refine (with_bit _ _ _ _ _ _ _ _ (CC.tst hcc _) bit1 (Ints.new1 (by simp) (by decide)) (by omega)).mono ?_; rintro e w' ⟨rfl, rfl⟩))
  go_ret2
  exact ⟨rfl, by repeat (first | assumption | apply Below.alloc0)⟩
theorem clr_any (cc : Int) (w : World) (hcc : CC cc) :
    Calls Try.prog 50 #[.int .u8 cc] w fun e w' => e = .returned (.tuple #[.int .u8 0, .int .u8 (putRef (tstC cc 0) 1 false)]) ∧ Below w.heap.size w w' := by
  go_enter Try.func50, Try.ntmps50
  go_wp2_with (first
    | (go_at_call 33; refine (tst_any _ _ _ hcc).mono ?_; rintro e w1 ⟨rfl, hb1⟩)
    | (go_at_call 57; refine (with_bit _ _ _ _ _ _ _ _ (CC.tst hcc _) bit1 (Ints.new1 (by simp) (by decide)) (by omega)).mono ?_; rintro e w' ⟨rfl, rfl⟩))
  go_ret2
  exact ⟨rfl, by repeat (first | assumption | apply Below.alloc0)⟩
theorem told_any (cc r : Int) (w : World) (hcc : CC cc) (hr : 0 ≤ r) (hr' : r < 256) :
    Calls Try.prog 38 #[.int .u8 cc, .int .u8 r] w fun e w' => e = .returned (.int .u8 (tstC cc r)) ∧ w = w' := by
  have hA := Lib.hid (tstC_ref cc r hcc)
  go_enter Try.func38, Try.ntmps38
  go_wp2_with (first
    | (go_at_call 51; refine (putRef_cc _ _ _ _ hcc bit2).mono ?_; rintro e w' ⟨rfl, rfl⟩)
    | (go_at_call 60; refine (nzRef_cc _ _ _ (CC.put hcc _ _) (by omega)).mono ?_; rintro e w' ⟨rfl, rfl⟩))
  go_ret
  exact ⟨ret_int hA.out, rfl⟩
set_option maxRecDepth 100000 in
set_option maxHeartbeats 1000000 in
theorem refBits1 (a b : Int) (w : World) (ha : 0 ≤ a) (ha' : a < 256) (hb : 0 ≤ b) (hb' : b < 256) :
    Calls Try.prog 37 #[.int .i64 1, .int .u8 a, .int .u8 b] w fun e w' => e = .returned (.int .u8 (bitsTo 1 a b 8)) ∧ w = w' := by
  have ca : CC a := CC.mk' ha ha'
  have cb : CC b := CC.mk' hb hb'
  go_enter Try.func37, Try.ntmps37
  go_wp2
  go_loop [7, 8, 9] (fun r m i => ∃ k : Nat, k ≤ 8 ∧ i = .int .i64 k ∧ m = .int .u8 (pw7 k) ∧ r = .int .u8 (bitsTo 1 a b k)) (fun _ _ i => 8 - (intOf i).toNat)
  case atStart => exact ⟨0, Nat.zero_le _, rfl, rfl, rfl⟩
  case round =>
    obtain ⟨k, hk, rfl, rfl, rfl⟩ := hrel
    by_cases hlt : k < 8
    · obtain ⟨p0, p1⟩ := pw7_range k hlt
      obtain ⟨q0, q1⟩ := bitsTo_room 1 a b k hlt
      have hbit := pw7_bit k hlt
      have HN := Lib.hid (pw7_next k hlt)
      cases hx : hasRef a (pw7 k)
      all_goals cases hy : hasRef b (pw7 k)
      all_goals
        first
          | have HS2 := Lib.hid (bitsTo_on 1 a b k (by rw [hx, hy]; rfl))
          | have HS2 := Lib.hid (bitsTo_off 1 a b k (by rw [hx, hy]; rfl))
        go_wp2_with (go_at_call 61; refine (hasRef_cc _ _ _ (by assumption) hbit).mono ?_; rintro e w' ⟨rfl, rfl⟩)
        go_round
        case rel => exact ⟨k + 1, by omega, by go_num, by rw [HN.out], by rw [HS2.out]⟩
        case measure => simp [intOf]; omega
    · obtain rfl : k = 8 := by omega
      go_wp2
      go_ret
      exact ⟨rfl, rfl⟩
set_option maxRecDepth 100000 in
set_option maxHeartbeats 1000000 in
theorem refBits2 (a b : Int) (w : World) (ha : 0 ≤ a) (ha' : a < 256) (hb : 0 ≤ b) (hb' : b < 256) :
    Calls Try.prog 37 #[.int .i64 2, .int .u8 a, .int .u8 b] w fun e w' => e = .returned (.int .u8 (bitsTo 2 a b 8)) ∧ w = w' := by
  have ca : CC a := CC.mk' ha ha'
  have cb : CC b := CC.mk' hb hb'
  go_enter Try.func37, Try.ntmps37
  go_wp2
  go_loop [7, 8, 9] (fun r m i => ∃ k : Nat, k ≤ 8 ∧ i = .int .i64 k ∧ m = .int .u8 (pw7 k) ∧ r = .int .u8 (bitsTo 2 a b k)) (fun _ _ i => 8 - (intOf i).toNat)
  case atStart => exact ⟨0, Nat.zero_le _, rfl, rfl, rfl⟩
  case round =>
    obtain ⟨k, hk, rfl, rfl, rfl⟩ := hrel
    by_cases hlt : k < 8
    · obtain ⟨p0, p1⟩ := pw7_range k hlt
      obtain ⟨q0, q1⟩ := bitsTo_room 2 a b k hlt
      have hbit := pw7_bit k hlt
      have HN := Lib.hid (pw7_next k hlt)
      cases hx : hasRef a (pw7 k)
      all_goals cases hy : hasRef b (pw7 k)
      all_goals
        first
          | have HS2 := Lib.hid (bitsTo_on 2 a b k (by rw [hx, hy]; rfl))
          | have HS2 := Lib.hid (bitsTo_off 2 a b k (by rw [hx, hy]; rfl))
        go_wp2_with (go_at_call 61; refine (hasRef_cc _ _ _ (by assumption) hbit).mono ?_; rintro e w' ⟨rfl, rfl⟩)
        go_round
        case rel => exact ⟨k + 1, by omega, by go_num, by rw [HN.out], by rw [HS2.out]⟩
        case measure => simp [intOf]; omega
    · obtain rfl : k = 8 := by omega
      go_wp2
      go_ret
      exact ⟨rfl, rfl⟩
set_option maxRecDepth 100000 in
set_option maxHeartbeats 1000000 in
theorem refBits3 (a b : Int) (w : World) (ha : 0 ≤ a) (ha' : a < 256) (hb : 0 ≤ b) (hb' : b < 256) :
    Calls Try.prog 37 #[.int .i64 3, .int .u8 a, .int .u8 b] w fun e w' => e = .returned (.int .u8 (bitsTo 3 a b 8)) ∧ w = w' := by
  have ca : CC a := CC.mk' ha ha'
  have cb : CC b := CC.mk' hb hb'
  go_enter Try.func37, Try.ntmps37
  go_wp2
  go_loop [7, 8, 9] (fun r m i => ∃ k : Nat, k ≤ 8 ∧ i = .int .i64 k ∧ m = .int .u8 (pw7 k) ∧ r = .int .u8 (bitsTo 3 a b k)) (fun _ _ i => 8 - (intOf i).toNat)
  case atStart => exact ⟨0, Nat.zero_le _, rfl, rfl, rfl⟩
  case round =>
    obtain ⟨k, hk, rfl, rfl, rfl⟩ := hrel
    by_cases hlt : k < 8
    · obtain ⟨p0, p1⟩ := pw7_range k hlt
      obtain ⟨q0, q1⟩ := bitsTo_room 3 a b k hlt
      have hbit := pw7_bit k hlt
      have HN := Lib.hid (pw7_next k hlt)
      cases hx : hasRef a (pw7 k)
      all_goals cases hy : hasRef b (pw7 k)
      all_goals
        first
          | have HS2 := Lib.hid (bitsTo_on 3 a b k (by rw [hx, hy]; rfl))
          | have HS2 := Lib.hid (bitsTo_off 3 a b k (by rw [hx, hy]; rfl))
        go_wp2_with (go_at_call 61; refine (hasRef_cc _ _ _ (by assumption) hbit).mono ?_; rintro e w' ⟨rfl, rfl⟩)
        go_round
        case rel => exact ⟨k + 1, by omega, by go_num, by rw [HN.out], by rw [HS2.out]⟩
        case measure => simp [intOf]; omega
    · obtain rfl : k = 8 := by omega
      go_wp2
      go_ret
      exact ⟨rfl, rfl⟩
set_option maxRecDepth 100000 in
set_option maxHeartbeats 1000000 in
theorem refBits4 (a b : Int) (w : World) (ha : 0 ≤ a) (ha' : a < 256) (hb : 0 ≤ b) (hb' : b < 256) :
    Calls Try.prog 37 #[.int .i64 4, .int .u8 a, .int .u8 b] w fun e w' => e = .returned (.int .u8 (bitsTo 4 a b 8)) ∧ w = w' := by
  have ca : CC a := CC.mk' ha ha'
  have cb : CC b := CC.mk' hb hb'
  go_enter Try.func37, Try.ntmps37
  go_wp2
  go_loop [7, 8, 9] (fun r m i => ∃ k : Nat, k ≤ 8 ∧ i = .int .i64 k ∧ m = .int .u8 (pw7 k) ∧ r = .int .u8 (bitsTo 4 a b k)) (fun _ _ i => 8 - (intOf i).toNat)
  case atStart => exact ⟨0, Nat.zero_le _, rfl, rfl, rfl⟩
  case round =>
    obtain ⟨k, hk, rfl, rfl, rfl⟩ := hrel
    by_cases hlt : k < 8
    · obtain ⟨p0, p1⟩ := pw7_range k hlt
      obtain ⟨q0, q1⟩ := bitsTo_room 4 a b k hlt
      have hbit := pw7_bit k hlt
      have HN := Lib.hid (pw7_next k hlt)
      cases hx : hasRef a (pw7 k)
      all_goals cases hy : hasRef b (pw7 k)
      all_goals
        first
          | have HS2 := Lib.hid (bitsTo_on 4 a b k (by rw [hx, hy]; rfl))
          | have HS2 := Lib.hid (bitsTo_off 4 a b k (by rw [hx, hy]; rfl))
        go_wp2_with (go_at_call 61; refine (hasRef_cc _ _ _ (by assumption) hbit).mono ?_; rintro e w' ⟨rfl, rfl⟩)
        go_round
        case rel => exact ⟨k + 1, by omega, by go_num, by rw [HN.out], by rw [HS2.out]⟩
        case measure => simp [intOf]; omega
    · obtain rfl : k = 8 := by omega
      go_wp2
      go_ret
      exact ⟨rfl, rfl⟩
end Go.Proofs.Ytkdekhcnamkcgab
