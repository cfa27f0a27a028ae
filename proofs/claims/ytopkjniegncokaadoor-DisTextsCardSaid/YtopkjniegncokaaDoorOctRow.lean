/- Contracts of package octet's calls on any many bytes and words, and of the library's Equal on slices of them. -/
import Derived.Test.YtopkjniegncokaaDoorOct
import Derived.Test.YtopkjniegncokaaDoorOwn
import Derived.Outline
namespace Go.Proofs.YtopkjniegncokaaDoor
open Go.ChangeShapes Go.WideShapes Go.ChangeAt Go.RowKit
set_option linter.unusedVariables false
/-- A call that answers a new slice of integers, and writes nothing that was there. -/
def Gives (k : IntKind) (t : TypeId) (w : World) (zs : List Int) (e : Ending) (w' : World) : Prop := ∃ v, e = .returned v ∧ Own k t w' w.heap.size v zs ∧ Below w.heap.size w w'
def wordAt (zs : List Int) (j : Nat) : Int := 256 * iat zs (2 * j) + iat zs (2 * j + 1)
def wordsTo (zs : List Int) (k : Nat) : List Int := (List.range k).map (wordAt zs)
def wordsOf (zs : List Int) : List Int := wordsTo zs ((zs.length + 1) / 2)
theorem wordsTo_next (zs : List Int) (k : Nat) : wordsTo zs (k + 1) = wordsTo zs k ++ [wordAt zs k] := by unfold wordsTo; rw [List.range_succ, List.map_append]; rfl
theorem wordsTo_len (zs : List Int) (k : Nat) : (wordsTo zs k).length = k := by simp [wordsTo]
theorem iat_end (zs : List Int) (k : Nat) (h : zs.length ≤ k) : iat zs k = 0 := by simp [iat, List.getD_eq_getElem?_getD, List.getElem?_eq_none h]
theorem bytesTo_next (ws : List Int) (k : Nat) (h : k < ws.length) : (ws.take (k + 1)).flatMap (fun x => [x / 256, x % 256]) = (ws.take k).flatMap (fun x => [x / 256, x % 256]) ++ [iat ws k / 256, iat ws k % 256] := by
  rw [List.take_succ_eq_append_getElem h, List.flatMap_append, iat_eq _ _ h]; simp
def bytesTo (ws : List Int) (k : Nat) : List Int := (ws.take k).flatMap (fun x => [x / 256, x % 256])
def bytesOf (ws : List Int) : List Int := ws.flatMap (fun x => [x / 256, x % 256])
theorem bytesTo_len (ws : List Int) (k : Nat) (h : k ≤ ws.length) : (bytesTo ws k).length = 2 * k := by
  induction k with
  | zero => simp [bytesTo]
  | succ k ih => unfold bytesTo at *; rw [bytesTo_next ws k (by omega), List.length_append, ih (by omega)]; simp; omega
def onesFrom (m : Int) : Nat → Int
  | 0 => 0
  | f + 1 => m % 2 + onesFrom (m / 2) f
theorem onesFrom_range : ∀ (f : Nat) (m : Int), 0 ≤ onesFrom m f ∧ onesFrom m f ≤ f
  | 0, m => by simp [onesFrom]
  | f + 1, m => by
    have := onesFrom_range f (m / 2)
    unfold onesFrom; omega
theorem onesFrom_zero : ∀ f, onesFrom 0 f = 0
  | 0 => rfl
  | f + 1 => by unfold onesFrom; simp [onesFrom_zero f]
def onesAll (zs : List Int) : Int := zs.foldl (fun n x => n + onesFrom x 8) 0
theorem foldl_bound (f : Int → Int) (hf : ∀ x, 0 ≤ f x ∧ f x ≤ 256) : ∀ (zs : List Int) (a : Int), 0 ≤ a → 0 ≤ zs.foldl (fun n x => n + f x) a ∧ zs.foldl (fun n x => n + f x) a ≤ a + 256 * zs.length
  | [], a, h => by simp [h]
  | z :: zs, a, h => by
    have h1 := hf z
    have := foldl_bound f hf zs (a + f z) (by omega)
    simp only [List.foldl_cons, List.length_cons]
    omega
theorem onesAll_range (zs : List Int) : 0 ≤ onesAll zs ∧ onesAll zs ≤ 256 * zs.length := by
  have := foldl_bound (fun x => onesFrom x 8) (fun x => by have := onesFrom_range 8 x; omega) zs 0 (by omega)
  unfold onesAll; omega
theorem tbl_lookup (T : ByteArray) (c : Int) (h : c.toNat < T.size) (f : Nat → Int) (key : ∀ i : Fin T.size, wrap64 (((T[i.val]'i.isLt).toNat : Nat) : Int) = f i.val) :
    wrap64 (((T[c.toNat]'h).toNat : Nat) : Int) = f c.toNat := key ⟨c.toNat, h⟩
def sumAll (zs : List Int) : Int := zs.foldl (fun s x => (s + x) % 256) 0
theorem sumAll_range (zs : List Int) : 0 ≤ sumAll zs ∧ sumAll zs < 256 := by
  unfold sumAll
  rcases List.eq_nil_or_concat zs with rfl | ⟨ys, y, rfl⟩
  · simp
  · simp only [List.concat_eq_append, List.foldl_append, List.foldl_cons, List.foldl_nil]
    omega
end Go.Proofs.YtopkjniegncokaaDoor
