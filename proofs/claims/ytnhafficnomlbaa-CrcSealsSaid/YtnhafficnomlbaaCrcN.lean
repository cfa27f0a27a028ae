/- Numbers of layer 36: the code's sum and the document's, bit by bit. -/
import Derived.Test.YtnhafficnomlbaaMem
namespace Go.Proofs.Ytnhafficnomlbaa
set_option linter.unusedVariables false
/-- One bit on: of the code (sums are below 65536). -/
def shN (s : Nat) : Nat := (2 * s % 65536) ^^^ (if 32768 ≤ s then 4129 else 0)
def shs : Nat → Nat → Nat
  | 0, s => s
  | k + 1, s => shs k (shN s)
/-- k shifts, from the front. -/
def shTo (s : Nat) : Nat → Nat
  | 0 => s
  | k + 1 => shN (shTo s k)
def crcByte (s x : Nat) : Nat := shTo (s ^^^ (x * 256)) 8
/-- One bit in, of the document. -/
def stN (r : Nat) (out : Bool) : Nat := (2 * r % 65536) ^^^ (if out then 4129 else 0)
def topN (r : Nat) : Bool := r.testBit 15
def outN (r x : Nat) (k : Nat) : Bool := r.testBit 15 != x.testBit (7 - k)
def stTo (r x : Nat) : Nat → Nat
  | 0 => r
  | k + 1 => stN (stTo r x k) (outN (stTo r x k) x k)
theorem top15 (s : Nat) (h : s < 65536) : decide (32768 ≤ s) = s.testBit 15 := by
  rw [Nat.testBit_eq_decide_div_mod_eq, decide_eq_decide]; omega
theorem shN_lt (s : Nat) : shN s < 65536 := by
  unfold shN
  exact Nat.xor_lt_two_pow (n := 16) (by omega) (by split <;> omega)
theorem stN_lt (s : Nat) (o : Bool) : stN s o < 65536 := by
  unfold stN
  exact Nat.xor_lt_two_pow (n := 16) (by omega) (by cases o <;> simp)
theorem shTo_lt (s : Nat) (h : s < 65536) : ∀ k, shTo s k < 65536
  | 0 => h
  | k + 1 => shN_lt _
theorem stTo_lt (r x : Nat) (h : r < 65536) : ∀ k, stTo r x k < 65536
  | 0 => h
  | k + 1 => stN_lt _ _
theorem dbl_xor (a b : Nat) : 2 * (a ^^^ b) % 65536 = (2 * a % 65536) ^^^ (2 * b % 65536) := by
  apply Nat.eq_of_testBit_eq
  intro i
  rw [show 65536 = 2 ^ 16 from rfl, Nat.testBit_xor, Nat.testBit_mod_two_pow, Nat.testBit_mod_two_pow, Nat.testBit_mod_two_pow]
  cases i with
  | zero => simp
  | succ i => 
    have e : ∀ n : Nat, (2 * n).testBit (i + 1) = n.testBit i := fun n => by
      rw [Nat.mul_comm, show n * 2 = n * 2 ^ 1 from rfl, Nat.testBit_mul_two_pow]; simp
    rw [e, e, e, Nat.testBit_xor]
    by_cases h : i + 1 < 16 <;> simp [h]
theorem step_in (r b : Nat) (hr : r < 65536) (hb : b < 65536) : shN (r ^^^ b) = stN r (r.testBit 15 != b.testBit 15) ^^^ (2 * b % 65536) := by
  unfold shN stN
  have hx : r ^^^ b < 65536 := Nat.xor_lt_two_pow (n := 16) hr hb
  have e := top15 _ hx
  rw [Nat.testBit_xor] at e
  rw [dbl_xor]
  have : (if 32768 ≤ r ^^^ b then 4129 else 0) = (if (r.testBit 15 != b.testBit 15) = true then 4129 else 0) := by
    have e2 : (r.testBit 15 != b.testBit 15) = decide (32768 ≤ r ^^^ b) := e.symm
    rw [e2]; simp
  rw [this, Nat.xor_assoc, Nat.xor_assoc]
  congr 1
  exact Nat.xor_comm _ _
theorem xs_bit (x k : Nat) (hx : x < 256) (hk : k < 8) : (x * 2 ^ (8 + k) % 65536).testBit 15 = x.testBit (7 - k) := by
  rw [show 65536 = 2 ^ 16 from rfl, Nat.testBit_mod_two_pow, Nat.testBit_mul_two_pow]
  simp
  rw [show 15 - (8 + k) = 7 - k by omega, show decide (8 + k ≤ 15) = true by simp; omega, Bool.true_and]
/-- Behind k bits: the code's sum is the document's, and what is left of the byte above it. -/
theorem byte_in (s x : Nat) (hs : s < 65536) (hx : x < 256) : ∀ k, k ≤ 8 → shTo (s ^^^ (x * 256)) k = stTo s x k ^^^ (x * 2 ^ (8 + k) % 65536)
  | 0, _ => by
    show s ^^^ (x * 256) = s ^^^ (x * 256 % 65536)
    rw [Nat.mod_eq_of_lt (by omega)]
  | k + 1, hk => by
    show shN (shTo (s ^^^ (x * 256)) k) = stN (stTo s x k) (outN (stTo s x k) x k) ^^^ _
    rw [byte_in s x hs hx k (by omega), step_in _ _ (stTo_lt s x hs k) (Nat.mod_lt _ (by omega)), xs_bit x k hx (by omega)]
    unfold outN
    congr 1
    rw [show 8 + (k + 1) = (8 + k) + 1 by omega, Nat.pow_succ, ← Nat.mul_assoc]
    generalize x * 2 ^ (8 + k) = z
    omega
theorem byte_same (s x : Nat) (hs : s < 65536) (hx : x < 256) : crcByte s x = stTo s x 8 := by
  unfold crcByte
  rw [byte_in s x hs hx 8 (Nat.le_refl _)]
  have : x * 2 ^ (8 + 8) % 65536 = 0 := by omega
  rw [this, Nat.xor_zero]
/-- The document's row of bools. -/
def bitsN (r : Nat) : List Bool := (List.range 16).map fun i => r.testBit (15 - i)
def polyB (i : Nat) : Bool := i == 3 || i == 10 || i == 15
/-- Behind the first j of the sixteen. -/
def midN (r : Nat) (out : Bool) (j : Nat) : List Bool := (List.range 16).map fun i => if i < j then (if i = 15 then out else (r.testBit (14 - i) != (out && polyB i))) else r.testBit (15 - i)
theorem midN_zero (r : Nat) (out : Bool) : midN r out 0 = bitsN r := by simp [midN, bitsN]
theorem midN_all (r : Nat) (out : Bool) (hr : r < 65536) : midN r out 16 = bitsN (stN r out) := by
  unfold midN bitsN
  apply List.map_congr_left
  intro i hi
  rw [List.mem_range] at hi
  rw [if_pos hi]
  unfold stN
  rw [Nat.testBit_xor, show 65536 = 2 ^ 16 from rfl, Nat.testBit_mod_two_pow, Nat.mul_comm, show r * 2 = r * 2 ^ 1 from rfl, Nat.testBit_mul_two_pow]
  have e : (if out = true then 4129 else 0).testBit (15 - i) = (out && polyB i) := by
    cases out
    · simp
    · simp only [Bool.true_and, if_true]
      have : ∀ i : Fin 16, Nat.testBit 4129 (15 - i.val) = polyB i.val := by decide
      exact this ⟨i, hi⟩
  rw [e]
  by_cases h : i = 15
  · subst h; cases out <;> simp [polyB]
  · rw [if_neg h]
    have h1 : 15 - i < 16 := by omega
    have h2 : 1 ≤ 15 - i := by omega
    simp [h1, h2]
    rw [show 15 - i - 1 = 14 - i by omega]
theorem midN_set (r : Nat) (out : Bool) (j : Nat) (hj : j < 15) : (midN r out j).set j (r.testBit (14 - j) != (out && polyB j)) = midN r out (j + 1) := by
  apply List.ext_getElem?
  intro i
  unfold midN
  rw [List.getElem?_set]
  by_cases h : i < 16
  · by_cases hij : j = i
    · subst hij
      rw [if_pos rfl, if_pos (by simp; omega)]
      simp [h]
      intro; omega
    · rw [if_neg hij]
      simp [h]
      by_cases h3 : i < j
      · simp [h3, show i < j + 1 by omega]
      · simp [h3, show ¬ i < j + 1 by omega]
  · rw [if_neg (by omega)]
    simp [h]
theorem midN_last (r : Nat) (out : Bool) : (midN r out 15).set 15 out = midN r out 16 := by
  apply List.ext_getElem?
  intro i
  unfold midN
  rw [List.getElem?_set]
  by_cases h : i < 16
  · by_cases hij : 15 = i
    · subst hij; simp
    · rw [if_neg hij]
      simp [h, show i < 15 by omega]
  · rw [if_neg (by omega)]
    simp [h]
theorem midN_at (r : Nat) (out : Bool) (j : Nat) (hj : j < 15) : (midN r out j)[j + 1]? = some (r.testBit (14 - j)) := by
  unfold midN
  rw [List.getElem?_map, List.getElem?_range (by omega)]
  simp only [Option.map_some]
  rw [if_neg (by omega), show 15 - (j + 1) = 14 - j by omega]
/-- And back: the number of such a row. -/
def valN (l : List Bool) : Nat := l.foldl (fun n b => 2 * n + b.toNat) 0
theorem valN_bits (r : Nat) (h : r < 65536) (k : Nat) (hk : k ≤ 16) : valN ((bitsN r).take k) = r / 2 ^ (16 - k) := by
  induction k with
  | zero => simp [valN]; omega
  | succ k ih =>
    have hl : k < (bitsN r).length := by simp [bitsN]; omega
    rw [List.take_succ_eq_append_getElem hl]
    unfold valN at ih ⊢
    rw [List.foldl_append, ih (by omega)]
    simp only [List.foldl_cons, List.foldl_nil, bitsN, List.getElem_map, List.getElem_range]
    have e : 16 - k = (16 - (k + 1)) + 1 := by omega
    rw [show 15 - k = 16 - (k + 1) by omega, e, Nat.pow_succ, ← Nat.div_div_eq_div_mul, Nat.toNat_testBit]
    omega
theorem bits16_top (s : Nat) (h : s < 65536) : bits .and .u16 (s : Int) 32768 = if 32768 ≤ s then 32768 else 0 := by
  rw [u16_and _ 32768 (by omega) (by omega) (by decide) (by decide)]
  show ((s &&& 2 ^ 15 : Nat) : Int) = _
  have e : s &&& 2 ^ 15 = if 32768 ≤ s then 2 ^ 15 else 0 := by
    apply Nat.eq_of_testBit_eq
    intro i
    have ht := top15 s h
    rw [Nat.testBit_and, Nat.testBit_two_pow]
    by_cases hi : 15 = i
    · subst hi
      rw [← ht]
      by_cases h2 : 32768 ≤ s
      · rw [if_pos h2, Nat.testBit_two_pow]; simp [h2]
      · rw [if_neg h2]; simp [h2]
    · by_cases h2 : 32768 ≤ s
      · rw [if_pos h2, Nat.testBit_two_pow]; simp [hi]
      · rw [if_neg h2]; simp [hi]
  rw [e]
  by_cases h2 : 32768 ≤ s <;> simp [h2]
theorem bits16_sh (s : Nat) (h : s < 65536) : bits .xor .u16 (((2 * s % 65536 : Nat) : Nat) : Int) 4129 = ((2 * s % 65536 ^^^ 4129 : Nat) : Int) :=
  u16_xor_nat _ 4129 (by omega) (by decide)
end Go.Proofs.Ytnhafficnomlbaa
