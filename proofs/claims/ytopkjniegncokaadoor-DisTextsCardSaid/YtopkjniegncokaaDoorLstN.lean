/- Postbytes as lists of registers: bits, registers, parts, in numbers. No program in sight. -/
import Derived.Test.YtopkjniegncokaaDoorMem
namespace Go.Proofs.YtopkjniegncokaaDoor
set_option linter.unusedVariables false

def regL (k : Nat) : Nat := [10, 8, 9, 11, 1, 2, 3, 5].getD k 0
/-- The register of a bit's place; is the stack the user's? -/
def regN (k : Nat) (u : Bool) : Nat := if k = 6 ∧ u = true then 4 else regL k
def bitN (p k : Nat) : Bool := Nat.beq (p / 2 ^ k % 2) 1
abbrev Pt := Nat × Bool
def ptK (p : Nat) (u : Bool) (k : Nat) : List Pt := if bitN p k then (if 4 ≤ k then [(regN k u, true), (regN k u, false)] else [(regN k u, false)]) else []
def upP (p : Nat) (u : Bool) : Nat → List Pt
  | 0 => []
  | k + 1 => upP p u k ++ ptK p u k
def ordL (p : Nat) (u : Bool) : List Pt := upP p u 8
def ptC (x : Pt) : List Value := [.int .i64 (x.1 : Int), .bool x.2]
def pC (l : List Pt) : List Value := l.flatMap ptC
theorem pC_snoc (l : List Pt) (x : Pt) : pC (l ++ [x]) = pC l ++ ptC x := by simp [pC]
theorem pC_at (l : List Pt) : ∀ (i j : Nat), i < l.length → j < 2 → (pC l)[2 * i + j]? = (ptC (l.getD i (0, false)))[j]? := by
  induction l with
  | nil => intro i j h; exact absurd h (by simp)
  | cons x l ih =>
    intro i j h hj
    cases i with
    | zero => simp only [pC, List.flatMap_cons]; rw [List.getElem?_append_left (by simp [ptC]; omega)]; simp
    | succ i =>
      have := ih i j (by simpa using h) hj
      simp only [pC, List.flatMap_cons] at this ⊢
      rw [List.getElem?_append_right (by simp [ptC]; omega)]
      simp only [List.getD_cons_succ]
      rw [← this]
      congr 1
      simp [ptC]; omega
theorem ptK_len (p : Nat) (u : Bool) (k : Nat) : (ptK p u k).length ≤ 2 := by unfold ptK; split <;> (try split) <;> simp
theorem upP_len (p : Nat) (u : Bool) : ∀ k, (upP p u k).length ≤ 2 * k
  | 0 => Nat.zero_le _
  | k + 1 => by
    have := upP_len p u k
    have := ptK_len p u k
    simp only [upP, List.length_append]; omega
/-- How many bytes a postbyte pulls. -/
def cntN (p : Nat) : Nat := (ordL p false).length
theorem ptK_lenU (p : Nat) (u : Bool) (k : Nat) : (ptK p u k).length = (ptK p false k).length := by
  unfold ptK
  cases bitN p k
  · rfl
  · simp only [if_true]; split <;> rfl
theorem upP_lenU (p : Nat) (u : Bool) : ∀ k, (upP p u k).length = (upP p false k).length
  | 0 => rfl
  | k + 1 => by simp only [upP, List.length_append, upP_lenU p u k, ptK_lenU p u k]
theorem ordL_len (p : Nat) (u : Bool) : (ordL p u).length = cntN p := upP_lenU p u 8
theorem allB2 (n : Nat) (f : Nat → Bool) (h : (List.range n).all f = true) (k : Nat) (hk : k < n) : f k = true := List.all_eq_true.1 h k (List.mem_range.2 hk)
theorem and_fin : ((List.range 2048).all fun j => Nat.beq ((j / 8) &&& (2 ^ (j % 8))) (if bitN (j / 8) (j % 8) then 2 ^ (j % 8) else 0)) = true := by decide +kernel
theorem and_bit (p k : Nat) (hp : p < 256) (hk : k < 8) : p &&& 2 ^ k = if bitN p k then 2 ^ k else 0 := by
  have h := allB2 2048 _ and_fin (8 * p + k) (by omega)
  rw [Nat.beq_eq, show (8 * p + k) / 8 = p by omega, show (8 * p + k) % 8 = k by omega] at h
  exact h
theorem pow_lt8 (k : Nat) (hk : k < 8) : 2 ^ k < 256 := by
  have := Nat.pow_lt_pow_right (a := 2) (by decide) hk
  simpa using this
theorem u8_bit (p k : Nat) (hp : p < 256) (hk : k < 8) : bits .and .u8 (p : Int) ((2 ^ k : Nat) : Int) = if bitN p k then ((2 ^ k : Nat) : Int) else 0 := by
  rw [u8_and_nat p (2 ^ k) hp (pow_lt8 k hk), and_bit p k hp hk]
  split <;> rfl
theorem u8_wide : ∀ k : Fin 8, bits .and .u8 ((2 ^ k.val : Nat) : Int) 240 = if 4 ≤ k.val then ((2 ^ k.val : Nat) : Int) else 0 := by decide +kernel
theorem shl_fin : ∀ k : Fin 8, IntKind.u8.wrap (2 ^ k.val) = ((2 ^ k.val : Nat) : Int) := by decide +kernel
end Go.Proofs.YtopkjniegncokaaDoor
