/- Contracts of package logic's calls, and of the document's, bit by bit. -/
import Derived.Test.YtkdekhcnamkcgacCod
import Derived.Test.YtkdekhcnamkcgacBit
namespace Go.Proofs.Ytkdekhcnamkcgac
open Go.ChangeShapes Go.WideShapes Go.ChangeAt Go.RowKit
set_option linter.unusedVariables false

def tstC (cc r : Int) : Int := putRef (nzRef cc r 128) 2 false
theorem CC.tst {cc : Int} (h : CC cc) (r : Int) : CC (tstC cc r) := (h.nz _ _).put _ _
theorem tstC_ref (cc r : Int) (h : CC cc) : nzRef (putRef cc 2 false) r 128 = tstC cc r := by
  unfold tstC
  rw [nzRef_swap cc 2 _ _ _ h.1 h.2 bit2 (by decide) (by decide)]
/-- What bit by bit comes of two bytes, the highest bit first; how: which of the document's ways. -/
def takes (how : Nat) (x y : Bool) : Bool := match how with
  | 1 => x && y
  | 2 => x || y
  | 3 => x != y
  | _ => !x
def pw7 (k : Nat) : Int := ((128 / 2 ^ k : Nat) : Int)
def bitsTo (how : Nat) (a b : Int) : Nat → Int
  | 0 => 0
  | k + 1 => bitsTo how a b k + (if takes how (hasRef a (pw7 k)) (hasRef b (pw7 k)) then pw7 k else 0)
theorem pw7_bit (k : Nat) (h : k < 8) : IsBit (pw7 k) := by
  rcases (show k = 0 ∨ k = 1 ∨ k = 2 ∨ k = 3 ∨ k = 4 ∨ k = 5 ∨ k = 6 ∨ k = 7 by omega) with rfl | rfl | rfl | rfl | rfl | rfl | rfl | rfl <;> simp [IsBit, pw7]
theorem pw7_range (k : Nat) (h : k < 8) : 0 < pw7 k ∧ pw7 k < 256 := by
  have := pw7_bit k h; unfold IsBit at this; omega
theorem pw7_next (k : Nat) (h : k < 8) : pw7 k / 2 = pw7 (k + 1) := by
  rcases (show k = 0 ∨ k = 1 ∨ k = 2 ∨ k = 3 ∨ k = 4 ∨ k = 5 ∨ k = 6 ∨ k = 7 by omega) with rfl | rfl | rfl | rfl | rfl | rfl | rfl | rfl <;> decide
theorem bitsTo_range (how : Nat) (a b : Int) : ∀ k, k ≤ 8 → 0 ≤ bitsTo how a b k ∧ bitsTo how a b k + ((2 ^ (8 - k) : Nat) : Int) ≤ 256
  | 0, _ => by simp [bitsTo]
  | k + 1, h => by
    have ih := bitsTo_range how a b k (by omega)
    have h1 := pw7_range k (by omega)
    have h2 : ((2 ^ (8 - k) : Nat) : Int) = 2 * ((2 ^ (8 - (k + 1)) : Nat) : Int) ∧ pw7 k = ((2 ^ (8 - (k + 1)) : Nat) : Int) := by
      rcases (show k = 0 ∨ k = 1 ∨ k = 2 ∨ k = 3 ∨ k = 4 ∨ k = 5 ∨ k = 6 ∨ k = 7 by omega) with rfl | rfl | rfl | rfl | rfl | rfl | rfl | rfl <;> decide
    unfold bitsTo
    split <;> omega
theorem bitsTo_room (how : Nat) (a b : Int) (k : Nat) (h : k < 8) : 0 ≤ bitsTo how a b k ∧ bitsTo how a b k + pw7 k ≤ 255 := by
  have ih := bitsTo_range how a b k (by omega)
  have h1 := pw7_range k h
  have h2 : ((2 ^ (8 - k) : Nat) : Int) = 2 * pw7 k := by
    rcases (show k = 0 ∨ k = 1 ∨ k = 2 ∨ k = 3 ∨ k = 4 ∨ k = 5 ∨ k = 6 ∨ k = 7 by omega) with rfl | rfl | rfl | rfl | rfl | rfl | rfl | rfl <;> decide
  omega
theorem bitsTo_on (how : Nat) (a b : Int) (k : Nat) (h : takes how (hasRef a (pw7 k)) (hasRef b (pw7 k)) = true) : bitsTo how a b (k + 1) = bitsTo how a b k + pw7 k := by
  simp [bitsTo, h]
theorem bitsTo_off (how : Nat) (a b : Int) (k : Nat) (h : takes how (hasRef a (pw7 k)) (hasRef b (pw7 k)) = false) : bitsTo how a b (k + 1) = bitsTo how a b k := by
  simp [bitsTo, h]
theorem has_bv : ∀ (x : Fin 256) (k : Fin 8), hasRef (x.val : Int) (pw7 k.val) = (BitVec.ofNat 8 x.val).getLsbD (7 - k.val) := by decide +kernel
def sumBits (f : Nat → Bool) : Nat → Int
  | 0 => 0
  | k + 1 => sumBits f k + (if f k then pw7 k else 0)
theorem sum_bv : ∀ x : Fin 256, sumBits (fun k => (BitVec.ofNat 8 x.val).getLsbD (7 - k)) 8 = (x.val : Int) := by decide +kernel
theorem sum_bv' (r : BitVec 8) : sumBits (fun k => r.getLsbD (7 - k)) 8 = (r.toNat : Int) := by
  have h := sum_bv ⟨r.toNat, r.isLt⟩
  rw [← h]
  simp
theorem bitsTo_sum (how : Nat) (a b : Int) (r : BitVec 8) (ha : 0 ≤ a) (ha' : a < 256) (hb : 0 ≤ b) (hb' : b < 256)
    (h : ∀ i, i < 8 → r.getLsbD i = takes how ((bv a).getLsbD i) ((bv b).getLsbD i)) : bitsTo how a b 8 = (r.toNat : Int) := by
  rw [← sum_bv' r]
  obtain ⟨n, rfl⟩ := Int.eq_ofNat_of_zero_le ha
  obtain ⟨m, rfl⟩ := Int.eq_ofNat_of_zero_le hb
  have key : ∀ k, k ≤ 8 → bitsTo how (n : Int) (m : Int) k = sumBits (fun k => r.getLsbD (7 - k)) k := by
    intro k
    induction k with
    | zero => intro _; rfl
    | succ k ih =>
      intro hk
      unfold bitsTo sumBits
      have e1 := has_bv ⟨n, by omega⟩ ⟨k, by omega⟩
      have e2 := has_bv ⟨m, by omega⟩ ⟨k, by omega⟩
      simp only at e1 e2
      rw [ih (by omega), h (7 - k) (by omega), e1, e2]
      unfold bv
      rw [BitVec.ofInt_natCast, BitVec.ofInt_natCast]
  exact key 8 (Nat.le_refl _)
theorem bits1 (a b : Int) (ha : 0 ≤ a) (ha' : a < 256) (hb : 0 ≤ b) (hb' : b < 256) : bitsTo 1 a b 8 = bits .and .u8 a b := by
  rw [bv_and]; exact bitsTo_sum 1 a b _ ha ha' hb hb' fun i _ => by rw [BitVec.getLsbD_and]; rfl
theorem bits2 (a b : Int) (ha : 0 ≤ a) (ha' : a < 256) (hb : 0 ≤ b) (hb' : b < 256) : bitsTo 2 a b 8 = bits .or .u8 a b := by
  rw [bv_or]; exact bitsTo_sum 2 a b _ ha ha' hb hb' fun i _ => by rw [BitVec.getLsbD_or]; rfl
theorem bits3 (a b : Int) (ha : 0 ≤ a) (ha' : a < 256) (hb : 0 ≤ b) (hb' : b < 256) : bitsTo 3 a b 8 = bits .xor .u8 a b := by
  rw [bv_xor]; exact bitsTo_sum 3 a b _ ha ha' hb hb' fun i _ => by rw [BitVec.getLsbD_xor]; rfl
theorem bits4 (a b : Int) (ha : 0 ≤ a) (ha' : a < 256) (hb : 0 ≤ b) (hb' : b < 256) : bitsTo 4 a b 8 = 255 - a := by
  have e := bitsTo_sum 4 a b (~~~ bv a) ha ha' hb hb' fun i hi => by rw [BitVec.getLsbD_not]; simp [hi, takes]
  rw [e, BitVec.toNat_not]
  have := bv_back a ha ha'
  have := (bv a).isLt
  omega
theorem and_or_sum (a b : Int) (ha : 0 ≤ a) (ha' : a < 256) (hb : 0 ≤ b) (hb' : b < 256) : bits .and .u8 a b + bits .or .u8 a b = a + b ∧ bits .xor .u8 a b = bits .or .u8 a b - bits .and .u8 a b := by
  have hsum : ∀ k, bitsTo 1 a b k + bitsTo 2 a b k = sumBits (fun k => hasRef a (pw7 k)) k + sumBits (fun k => hasRef b (pw7 k)) k ∧ bitsTo 3 a b k = bitsTo 2 a b k - bitsTo 1 a b k := by
    intro k
    induction k with
    | zero => exact ⟨rfl, rfl⟩
    | succ k ih =>
      unfold bitsTo sumBits
      cases hasRef a (pw7 k) <;> cases hasRef b (pw7 k) <;> simp [takes] <;> omega
  have hv : ∀ x : Int, 0 ≤ x → x < 256 → sumBits (fun k => hasRef x (pw7 k)) 8 = x := by
    intro x h0 h1
    obtain ⟨n, rfl⟩ := Int.eq_ofNat_of_zero_le h0
    have := sum_bv ⟨n, by omega⟩
    have e : ∀ k, k ≤ 8 → sumBits (fun k => hasRef (n : Int) (pw7 k)) k = sumBits (fun k => (BitVec.ofNat 8 n).getLsbD (7 - k)) k := by
      intro k
      induction k with
      | zero => intro _; rfl
      | succ k ih =>
        intro hk
        unfold sumBits
        rw [ih (by omega)]
        have e1 := has_bv ⟨n, by omega⟩ ⟨k, by omega⟩
        simp only at e1
        simp only [e1]
    rw [e 8 (Nat.le_refl _)]
    exact this
  have h8 := hsum 8
  rw [hv a ha ha', hv b hb hb', bits1 a b ha ha' hb hb', bits2 a b ha ha' hb hb', bits3 a b ha ha' hb hb'] at h8
  exact h8
theorem xor_back (a b : Int) (ha : 0 ≤ a) (ha' : a < 256) : bits .xor .u8 (bits .xor .u8 a b) b = a := by
  rw [bv_xor, bv_xor, bv_nat, BitVec.xor_assoc, BitVec.xor_self, BitVec.xor_zero, bv_back a ha ha']
theorem xor_255 : ∀ a : Fin 256, bits .xor .u8 IntKind.u8.max (a.val : Int) = 255 - (a.val : Int) := by decide +kernel
theorem tst_any (a cc : Int) (w : World) (hcc : CC cc) :
    Calls Try.prog 44 #[.int .u8 a, .int .u8 cc] w fun e w' => e = .returned (.int .u8 (tstC cc a)) ∧ Below w.heap.size w w' := by
  go_enter Try.func44, Try.ntmps44
  go_wp2_with (first
    | (go_at_call 81; refine (nz_bits _ _ _ hcc).mono ?_; rintro e w1 ⟨rfl, hb1⟩)
    | (go_at_call 74; refine (with_bit _ _ _ _ _ _ _ _ (by repeat (first | assumption | apply CC.put | apply CC.nz)) bit2 (Ints.new1 (by simp) (by decide)) (by omega)).mono ?_; rintro e w' ⟨rfl, rfl⟩))
  go_ret
  exact ⟨rfl, by repeat (first | assumption | apply Below.alloc0)⟩
theorem land_any (a b cc : Int) (w : World) (hcc : CC cc) :
    Calls Try.prog 39 #[.int .u8 a, .int .u8 b, .int .u8 cc] w fun e w' => e = .returned (.tuple #[.int .u8 (bits .and .u8 a b), .int .u8 (tstC cc (bits .and .u8 a b))]) ∧ Below w.heap.size w w' := by
  go_enter Try.func39, Try.ntmps39
  go_wp2_with (go_at_call 44; refine (tst_any _ _ _ hcc).mono ?_; rintro e w1 ⟨rfl, hb1⟩)
  go_ret2
  exact ⟨rfl, hb1⟩
theorem lor_any (a b cc : Int) (w : World) (hcc : CC cc) :
    Calls Try.prog 41 #[.int .u8 a, .int .u8 b, .int .u8 cc] w fun e w' => e = .returned (.tuple #[.int .u8 (bits .or .u8 a b), .int .u8 (tstC cc (bits .or .u8 a b))]) ∧ Below w.heap.size w w' := by
  go_enter Try.func41, Try.ntmps41
  go_wp2_with (go_at_call 44; refine (tst_any _ _ _ hcc).mono ?_; rintro e w1 ⟨rfl, hb1⟩)
  go_ret2
  exact ⟨rfl, hb1⟩
theorem leor_any (a b cc : Int) (w : World) (hcc : CC cc) :
    Calls Try.prog 40 #[.int .u8 a, .int .u8 b, .int .u8 cc] w fun e w' => e = .returned (.tuple #[.int .u8 (bits .xor .u8 a b), .int .u8 (tstC cc (bits .xor .u8 a b))]) ∧ Below w.heap.size w w' := by
  go_enter Try.func40, Try.ntmps40
  go_wp2_with (go_at_call 44; refine (tst_any _ _ _ hcc).mono ?_; rintro e w1 ⟨rfl, hb1⟩)
  go_ret2
  exact ⟨rfl, hb1⟩
theorem lbit_any (a b cc : Int) (w : World) (hcc : CC cc) :
    Calls Try.prog 45 #[.int .u8 a, .int .u8 b, .int .u8 cc] w fun e w' => e = .returned (.int .u8 (tstC cc (bits .and .u8 a b))) ∧ Below w.heap.size w w' := by
  go_enter Try.func45, Try.ntmps45
  go_wp2_with (go_at_call 44; refine (tst_any _ _ _ hcc).mono ?_; rintro e w1 ⟨rfl, hb1⟩)
  go_ret
  exact ⟨rfl, hb1⟩
theorem com_any (a cc : Int) (w : World) (ha : 0 ≤ a) (ha' : a < 256) (hcc : CC cc) :
    Calls Try.prog 49 #[.int .u8 a, .int .u8 cc] w fun e w' => e = .returned (.tuple #[.int .u8 (255 - a), .int .u8 (putRef (tstC cc (255 - a)) 1 true)]) ∧ Below w.heap.size w w' := by
  have hx : bits .xor .u8 IntKind.u8.max a = 255 - a := by obtain ⟨n, rfl⟩ := Int.eq_ofNat_of_zero_le ha; exact xor_255 ⟨n, by omega⟩
  go_enter Try.func49, Try.ntmps49
  go_wp2_with (first
    | (go_at_call 44; refine (tst_any _ _ _ hcc).mono ?_; rintro e w1 ⟨rfl, hb1⟩)
    | (go_at_call 74; refine (with_bit _ _ _ _ _ _ _ _ (CC.tst hcc _) bit1 (Ints.new1 (by simp) (by decide)) (by omega)).mono ?_; rintro e w' ⟨rfl, rfl⟩))
  go_ret2
  exact ⟨rfl, by repeat (first | assumption | apply Below.alloc0)⟩
theorem clr_any (cc : Int) (w : World) (hcc : CC cc) :
    Calls Try.prog 57 #[.int .u8 cc] w fun e w' => e = .returned (.tuple #[.int .u8 0, .int .u8 (putRef (tstC cc 0) 1 false)]) ∧ Below w.heap.size w w' := by
  go_enter Try.func57, Try.ntmps57
  go_wp2_with (first
    | (go_at_call 44; refine (tst_any _ _ _ hcc).mono ?_; rintro e w1 ⟨rfl, hb1⟩)
    | (go_at_call 74; refine (with_bit _ _ _ _ _ _ _ _ (CC.tst hcc _) bit1 (Ints.new1 (by simp) (by decide)) (by omega)).mono ?_; rintro e w' ⟨rfl, rfl⟩))
  go_ret2
  exact ⟨rfl, by repeat (first | assumption | apply Below.alloc0)⟩
end Go.Proofs.Ytkdekhcnamkcgac
