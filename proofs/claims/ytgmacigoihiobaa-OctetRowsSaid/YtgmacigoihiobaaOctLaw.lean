/- Plain laws under OctetRows: what its own loops reckon. -/
import Derived.Test.YtgmacigoihiobaaOctRow
import Derived.Test.YtgmacigoihiobaaEq
namespace Go.Proofs.Ytgmacigoihiobaa
open Go.ChangeShapes Go.WideShapes Go.ChangeAt Go.RowKit
set_option linter.unusedVariables false
theorem wf_of_u8 {x : Int} (h0 : 0 ≤ x) (h1 : x < 256) : (Lit.int .u8 x).wf = true := by
  simp [Lit.wf, IntKind.min, IntKind.max, IntKind.signed, IntKind.bits]; omega
theorem wf_of_u16 {x : Int} (h0 : 0 ≤ x) (h1 : x < 65536) : (Lit.int .u16 x).wf = true := by
  simp [Lit.wf, IntKind.min, IntKind.max, IntKind.signed, IntKind.bits]; omega
theorem iat_range8 {xs : List Int} (h : ∀ z ∈ xs, (Lit.int .u8 z).wf = true) (k : Nat) : 0 ≤ iat xs k ∧ iat xs k < 256 := by
  by_cases hk : k < xs.length
  · have := bounds_u8 (iat_wf h k hk); omega
  · rw [iat_end _ _ (by omega)]; omega
theorem iat_range16 {xs : List Int} (h : ∀ z ∈ xs, (Lit.int .u16 z).wf = true) (k : Nat) : 0 ≤ iat xs k ∧ iat xs k < 65536 := by
  by_cases hk : k < xs.length
  · have := bounds_u16 (iat_wf h k hk); omega
  · rw [iat_end _ _ (by omega)]; omega
theorem wordsOf_wf {xs : List Int} (h : ∀ z ∈ xs, (Lit.int .u8 z).wf = true) : ∀ z ∈ wordsOf xs, (Lit.int .u16 z).wf = true := by
  intro z hz
  simp only [wordsOf, wordsTo, List.mem_map] at hz
  obtain ⟨k, _, rfl⟩ := hz
  have a := iat_range8 h (2 * k)
  have b := iat_range8 h (2 * k + 1)
  exact wf_of_u16 (by unfold wordAt; omega) (by unfold wordAt; omega)
theorem bytesOf_wf {ys : List Int} (h : ∀ z ∈ ys, (Lit.int .u16 z).wf = true) : ∀ z ∈ bytesOf ys, (Lit.int .u8 z).wf = true := by
  intro z hz
  simp only [bytesOf, List.mem_flatMap] at hz
  obtain ⟨y, hy, hz⟩ := hz
  have := bounds_u16 (h y hy)
  simp at hz
  rcases hz with rfl | rfl
  · exact wf_of_u8 (by omega) (by omega)
  · exact wf_of_u8 (by omega) (by omega)
theorem bytesOf_len (ys : List Int) : (bytesOf ys).length = 2 * ys.length := by
  have := bytesTo_len ys ys.length (Nat.le_refl _)
  unfold bytesTo at this
  rw [List.take_length] at this
  exact this
theorem wordsOf_len (xs : List Int) : (wordsOf xs).length = (xs.length + 1) / 2 := by unfold wordsOf; exact wordsTo_len _ _
theorem iat_cons (x : Int) (xs : List Int) (k : Nat) : iat (x :: xs) (k + 1) = iat xs k := by simp [iat, List.getD_eq_getElem?_getD]
theorem iat_bytes : ∀ (ys : List Int) (k : Nat), k < ys.length → iat (bytesOf ys) (2 * k) = iat ys k / 256 ∧ iat (bytesOf ys) (2 * k + 1) = iat ys k % 256
  | [], k, h => by simp at h
  | y :: ys, 0, _ => by constructor <;> rfl
  | y :: ys, k + 1, h => by
    have e : bytesOf (y :: ys) = y / 256 :: y % 256 :: bytesOf ys := rfl
    have ih := iat_bytes ys k (by simpa using h)
    rw [e, show 2 * (k + 1) = 2 * k + 1 + 1 by omega, iat_cons, iat_cons, iat_cons, ih.1, iat_cons, iat_cons, ih.2]
    exact ⟨rfl, rfl⟩
theorem words_bytes (ys : List Int) (h : ∀ z ∈ ys, (Lit.int .u16 z).wf = true) : wordsOf (bytesOf ys) = ys := by
  apply List.ext_getElem
  · rw [wordsOf_len, bytesOf_len]; omega
  · intro k h1 h2
    have hb := iat_bytes ys k h2
    have hr := iat_range16 h k
    simp only [wordsOf, wordsTo, List.getElem_map, List.getElem_range, wordAt]
    rw [hb.1, hb.2, ← iat_eq _ _ h2]
    omega
def sumN (zs : List Int) : Int := zs.foldl (fun s x => s + x) 0
theorem sumN_aux : ∀ (zs : List Int) (a : Int), zs.foldl (fun s x => (s + x) % 256) (a % 256) = zs.foldl (fun s x => s + x) a % 256
  | [], a => rfl
  | z :: zs, a => by
    rw [List.foldl_cons, List.foldl_cons, show (a % 256 + z) % 256 = (a + z) % 256 by omega]
    exact sumN_aux zs (a + z)
theorem sumN_mod (zs : List Int) : sumAll zs = sumN zs % 256 := by
  have := sumN_aux zs 0
  exact this
theorem sumN_range (zs : List Int) (h : ∀ z ∈ zs, (Lit.int .u8 z).wf = true) : 0 ≤ sumN zs ∧ sumN zs ≤ 256 * zs.length := by
  have key : ∀ (zs : List Int) (a : Int), (∀ z ∈ zs, (Lit.int .u8 z).wf = true) → 0 ≤ a → 0 ≤ zs.foldl (fun s x => s + x) a ∧ zs.foldl (fun s x => s + x) a ≤ a + 256 * zs.length := by
    intro zs
    induction zs with
    | nil => intro a _ h; simp [h]
    | cons z zs ih =>
      intro a hz ha
      have h1 := bounds_u8 (hz z (by simp))
      have := ih (a + z) (fun y hy => hz y (by simp [hy])) (by omega)
      simp only [List.foldl_cons, List.length_cons]
      omega
  have := key zs 0 h (by omega)
  unfold sumN; omega
theorem onesFrom_step (m : Int) (f : Nat) : onesFrom m (f + 1) = m % 2 + onesFrom (m / 2) f := rfl
theorem pow_half (m : Int) (f : Nat) (h : m < 2 ^ (f + 1)) : m / 2 < 2 ^ f := by rw [Int.pow_succ] at h; omega
theorem ones_step (m : Int) (f : Nat) (h0 : 0 < m) (h : m < 2 ^ f) : ∃ g, g + 1 = f ∧ m / 2 < 2 ^ g ∧ onesFrom m f = m % 2 + onesFrom (m / 2) g := by
  match f, h with
  | 0, h => simp at h; omega
  | g + 1, h => exact ⟨g, rfl, pow_half m g h, rfl⟩
theorem drewN_below {B : Nat} {a w : World} (h : Below B a w) (n : Nat) : Below B a (w.drewN n) := ⟨h.os, h.tape, h.output, h.size, h.block⟩
end Go.Proofs.Ytgmacigoihiobaa
