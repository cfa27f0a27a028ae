/- Counts by addresses (layer 53): the document's row, and how it is put in order. No program in sight. -/
import Derived.Test.YtlgaedhbgkhmeaaMem
namespace Go.Proofs.Ytlgaedhbgkhmeaa
set_option linter.unusedVariables false
/-- A count: its address, how often, how many cycles, how many more. -/
structure SpN where
  a : Int
  t : Int
  c : Int
  l : Int
deriving DecidableEq
/-- Is a count ahead of another one? -/
def befN (x y : SpN) : Bool := decide (x.c > y.c) || (decide (x.c = y.c) && decide (x.a < y.a))
theorem befN_iff (x y : SpN) : befN x y = true ↔ x.c > y.c ∨ (x.c = y.c ∧ x.a < y.a) := by simp [befN]
theorem befN_trans {x y z : SpN} (h : befN x y = true) (h' : befN y z = true) : befN x z = true := by
  rw [befN_iff] at *; omega
theorem befN_total {x y : SpN} (h : x.a ≠ y.a) : befN x y = true ∨ befN y x = true := by
  rw [befN_iff, befN_iff]; omega
theorem befN_asymm {x y : SpN} (h : befN x y = true) : befN y x = false := by
  rw [Bool.eq_false_iff]; intro h'
  rw [befN_iff] at *; omega
/-- In order: each is ahead of all behind it. -/
def OrdN (l : List SpN) : Prop := l.Pairwise (fun x y => befN x y = true)
/-- Two rows in order that hold the same are one. -/
theorem OrdN.one : ∀ {l m : List SpN}, OrdN l → OrdN m → l.Perm m → l = m
  | [], m, _, _, hp => (List.Perm.nil_eq hp)
  | x :: l, [], _, _, hp => absurd hp.length_eq (by simp)
  | x :: l, y :: m, hl, hm, hp => by
    have hl' := List.pairwise_cons.1 hl
    have hm' := List.pairwise_cons.1 hm
    have hxy : x = y := by
      have h1 : x ∈ y :: m := hp.mem_iff.1 (List.mem_cons_self ..)
      have h2 : y ∈ x :: l := hp.mem_iff.2 (List.mem_cons_self ..)
      rcases List.mem_cons.1 h1 with e | e
      · exact e
      · rcases List.mem_cons.1 h2 with e2 | e2
        · exact e2.symm
        · have a1 := hm'.1 x e
          have a2 := hl'.1 y e2
          rw [befN_asymm a1] at a2
          cases a2
    subst hxy
    rw [OrdN.one hl'.2 hm'.2 (List.Perm.cons_inv hp)]
/-- A count more, put behind the last one that isn't behind it: k is where the document's loop ends. -/
def putN (top : List SpN) (x : SpN) (k : Nat) : List SpN := top.take k ++ x :: top.drop k
theorem putN_perm (top : List SpN) (x : SpN) (k : Nat) : (putN top x k).Perm (x :: top) := by
  unfold putN
  have := List.perm_middle (a := x) (l₁ := top.take k) (l₂ := top.drop k)
  rw [List.take_append_drop] at this
  exact this
theorem putN_ord {top : List SpN} {x : SpN} {k : Nat} (h : OrdN top) (hk : k ≤ top.length) (hd : ∀ y ∈ top, y.a ≠ x.a) (h1 : ∀ (j : Nat) (y : SpN), k ≤ j → top[j]? = some y → befN x y = true)
    (h2 : k = 0 ∨ ∃ y, top[k - 1]? = some y ∧ befN x y = false) : OrdN (putN top x k) := by
  unfold putN OrdN
  have hp : (top.take k ++ top.drop k).Pairwise (fun x y => befN x y = true) := by rw [List.take_append_drop]; exact h
  rw [List.pairwise_append] at hp ⊢
  obtain ⟨p1, p2, p3⟩ := hp
  have hx : ∀ y ∈ top.drop k, befN x y = true := by
    intro y hy
    obtain ⟨j, hj⟩ := List.mem_iff_getElem?.1 hy
    rw [List.getElem?_drop] at hj
    exact h1 (k + j) y (by omega) hj
  refine ⟨p1, List.pairwise_cons.2 ⟨hx, p2⟩, ?_⟩
  intro y hy z hz
  have hyx : befN y x = true := by
    rcases h2 with rfl | ⟨u, hu, hb⟩
    · simp at hy
    · have hux : befN u x = true := by
        rcases befN_total (hd u (List.mem_of_getElem? hu)) with e | e
        · exact e
        · rw [e] at hb; cases hb
      obtain ⟨i, hi⟩ := List.mem_iff_getElem?.1 hy
      rw [List.getElem?_take] at hi
      split at hi
      · rename_i hik
        by_cases hik2 : i = k - 1
        · rw [hik2, hu] at hi
          obtain rfl := Option.some.inj hi
          exact hux
        · obtain ⟨hi1, rfl⟩ := List.getElem?_eq_some_iff.1 hi
          obtain ⟨hu1, rfl⟩ := List.getElem?_eq_some_iff.1 hu
          exact befN_trans (List.pairwise_iff_getElem.1 h i (k - 1) hi1 hu1 (by omega)) hux
      · cases hi
  rcases List.mem_cons.1 hz with rfl | hz
  · exact hyx
  · exact p3 y hy z hz
end Go.Proofs.Ytlgaedhbgkhmeaa
