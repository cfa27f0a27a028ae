/- Counts by addresses (layer 53): a part more, all together; no two at one address. No program in sight. -/
import Derived.Test.YtlgaedhbgkhmeaaPfN
namespace Go.Proofs.Ytlgaedhbgkhmeaa
set_option linter.unusedVariables false
def incN (o l : Int) (x : SpN) : SpN := ⟨x.a, x.t + 1, x.c + o, x.l + l⟩
/-- A part more at an address, with so many own and so many lost records. -/
def addN (L : List SpN) (a o l : Int) : List SpN :=
  if L.any (fun x => x.a == a) then L.map (fun x => if x.a = a then incN o l x else x) else L ++ [⟨a, 1, o, l⟩]
/-- No two at one address. -/
def DisN (L : List SpN) : Prop := L.Pairwise (fun x y => x.a ≠ y.a)
theorem addN_dis {L : List SpN} {a o l : Int} (h : DisN L) : DisN (addN L a o l) := by
  unfold addN DisN
  split
  · rw [List.pairwise_map]
    refine h.imp ?_
    intro x y hxy
    have e : ∀ z : SpN, (if z.a = a then incN o l z else z).a = z.a := fun z => by split <;> rfl
    rw [e, e]; exact hxy
  · rename_i hn
    rw [List.pairwise_append]
    refine ⟨h, List.pairwise_singleton _ _, ?_⟩
    intro x hx y hy
    obtain rfl := List.mem_singleton.1 hy
    intro e
    exact hn (List.any_eq_true.2 ⟨x, hx, by simpa using e⟩)
theorem addN_len (L : List SpN) (a o l : Int) : (addN L a o l).length ≤ L.length + 1 := by
  unfold addN
  split
  · rw [List.length_map]; omega
  · rw [List.length_append]; simp
/-- All together. -/
def sumN (L : List SpN) : Int × Int × Int := L.foldl (fun s x => (s.1 + x.t, s.2.1 + x.c, s.2.2 + x.l)) (0, 0, 0)
theorem sumN_from (L : List SpN) : ∀ s : Int × Int × Int, L.foldl (fun s x => (s.1 + x.t, s.2.1 + x.c, s.2.2 + x.l)) s = (s.1 + (sumN L).1, s.2.1 + (sumN L).2.1, s.2.2 + (sumN L).2.2) := by
  induction L with
  | nil => intro s; simp [sumN]
  | cons x L ih =>
    intro s
    have h0 := ih (0 + x.t, 0 + x.c, 0 + x.l)
    have h1 := ih (s.1 + x.t, s.2.1 + x.c, s.2.2 + x.l)
    unfold sumN
    rw [List.foldl_cons, List.foldl_cons, h1, h0]
    simp only [Prod.mk.injEq]
    refine ⟨by omega, by omega, by omega⟩
theorem sumN_cons (x : SpN) (L : List SpN) : sumN (x :: L) = (x.t + (sumN L).1, x.c + (sumN L).2.1, x.l + (sumN L).2.2) := by
  have := sumN_from L (0 + x.t, 0 + x.c, 0 + x.l)
  unfold sumN
  rw [List.foldl_cons, this]
  simp only [Int.zero_add]
  rfl
/-- In whatever order they come. -/
theorem sumN_perm {L M : List SpN} (h : L.Perm M) : sumN L = sumN M := by
  induction h with
  | nil => rfl
  | cons x _ ih => rw [sumN_cons, sumN_cons, ih]
  | swap x y l =>
    rw [sumN_cons, sumN_cons, sumN_cons, sumN_cons]
    simp only [Prod.mk.injEq]
    refine ⟨by omega, by omega, by omega⟩
  | trans _ _ h1 h2 => rw [h1, h2]
/-- The counts stay small: n parts of at most m records. -/
def BndN (n m : Int) (L : List SpN) : Prop := ∀ x ∈ L, (0 ≤ x.a ∧ x.a < 65536) ∧ (0 ≤ x.t ∧ x.t ≤ n) ∧ (0 ≤ x.c ∧ x.c ≤ n * m) ∧ (0 ≤ x.l ∧ x.l ≤ n * m)
theorem addN_bnd {L : List SpN} {a o l n m : Int} (h : BndN n m L) (hn : 0 ≤ n) (hm : 0 ≤ m) (ha : 0 ≤ a ∧ a < 65536) (ho : 0 ≤ o ∧ o ≤ m) (hl : 0 ≤ l ∧ l ≤ m) : BndN (n + 1) m (addN L a o l) := by
  have e : (n + 1) * m = n * m + m := by rw [Int.add_mul, Int.one_mul]
  have p : 0 ≤ n * m := Int.mul_nonneg hn hm
  intro x hx
  rw [e]
  unfold addN at hx
  split at hx
  · obtain ⟨y, hy, rfl⟩ := List.mem_map.1 hx
    obtain ⟨h1, h2, h3, h4⟩ := h y hy
    split
    · unfold incN
      refine ⟨h1, ⟨by show 0 ≤ y.t + 1; omega, by show y.t + 1 ≤ _; omega⟩, ⟨by show 0 ≤ y.c + o; omega, by show y.c + o ≤ _; omega⟩, by show 0 ≤ y.l + l; omega, by show y.l + l ≤ _; omega⟩
    · exact ⟨h1, by omega, by omega, by omega⟩
  · rcases List.mem_append.1 hx with hx | hx
    · obtain ⟨h1, h2, h3, h4⟩ := h x hx
      exact ⟨h1, by omega, by omega, by omega⟩
    · obtain rfl := List.mem_singleton.1 hx
      exact ⟨ha, ⟨by show (0 : Int) ≤ 1; omega, by show (1 : Int) ≤ _; omega⟩, ⟨ho.1, by show o ≤ _; omega⟩, hl.1, by show l ≤ _; omega⟩
end Go.Proofs.Ytlgaedhbgkhmeaa
