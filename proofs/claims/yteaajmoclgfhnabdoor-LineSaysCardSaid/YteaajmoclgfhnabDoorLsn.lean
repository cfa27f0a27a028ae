/- Operands: what their postbytes are, in plain words. -/
import Derived.Test.YteaajmoclgfhnabDoorLip
import Derived.Test.YteaajmoclgfhnabDoorPostT
namespace Go.Proofs.YteaajmoclgfhnabDoor
open Go.ChangeShapes Go.WideShapes Go.ChangeAt Go.RowKit
set_option linter.unusedVariables false

theorem fnd_true (h : Nat → Bool) : ∀ (m k : Nat), fnd h m k < k + m → h (fnd h m k) = true := by
  intro m
  induction m with
  | zero => intro k hk; exact absurd hk (by unfold fnd; omega)
  | succ m ih =>
    intro k hk
    unfold fnd at hk ⊢
    cases hh : h k
    · rw [hh] at hk
      exact ih (k + 1) (by simpa using (show fnd h m (k + 1) < k + (m + 1) from hk) |> fun x => by omega)
    · exact hh
def kA : List Int := [0, 7, 8, 9, 10, 4, 5, 6, 2, 3]
def rA : List Int := [1, 2, 3, 4]
def oA : List Int := (List.range 16).map (fun o : Nat => (o : Int)) ++ (List.range 16).map (fun o : Nat => ((65520 + o : Nat) : Int))
theorem okA0 : (kA.all fun k => rA.all fun r => Nat.blt (codeL k r 0 true) 256 && Nat.blt (codeL k r 0 false) 256) = true := by decide +kernel
theorem okB0 : (rA.all fun r => oA.all fun o => Nat.blt (codeL 1 r o false) 256) = true := by decide +kernel
theorem okC0 : (([11, 12] : List Int).all fun k => Nat.blt (codeL k 5 0 true) 256 && Nat.blt (codeL k 5 0 false) 256) = true := by decide +kernel
theorem okD0 : codeL 13 0 0 true < 256 := by decide +kernel
theorem okA {k r : Int} (hk : k ∈ kA) (hr : r ∈ rA) (i : Bool) : codeL k r 0 i < 256 := by
  have h := List.all_eq_true.1 (List.all_eq_true.1 okA0 k hk) r hr
  rw [Bool.and_eq_true, Nat.blt_eq, Nat.blt_eq] at h
  cases i
  · exact h.2
  · exact h.1
theorem okB {r o : Int} (hr : r ∈ rA) (ho : o ∈ oA) : codeL 1 r o false < 256 := by
  have h := List.all_eq_true.1 (List.all_eq_true.1 okB0 r hr) o ho
  rwa [Nat.blt_eq] at h
theorem okC {k : Int} (hk : k = 11 ∨ k = 12) (i : Bool) : codeL k 5 0 i < 256 := by
  have h := List.all_eq_true.1 okC0 k (by simpa using hk)
  rw [Bool.and_eq_true, Nat.blt_eq, Nat.blt_eq] at h
  cases i
  · exact h.2
  · exact h.1
theorem mem_oA {o : Int} (h0 : 0 ≤ o) (h1 : o < 65536) (h : o ≤ 15 ∨ 65520 ≤ o) : o ∈ oA := by
  unfold oA
  rw [List.mem_append, List.mem_map, List.mem_map]
  rcases h with h | h
  · exact .inl ⟨o.toNat, List.mem_range.2 (by omega), by omega⟩
  · exact .inr ⟨(o - 65520).toNat, List.mem_range.2 (by omega), by omega⟩
theorem mem_rA {r : Int} (h : r = 1 ∨ r = 2 ∨ r = 3 ∨ r = 4) : r ∈ rA := by unfold rA; simpa using h
def okP (a : AgV) : Prop := codeL a.k a.r a.o a.i < 256
def noP (a : AgV) : Prop := a.k = 0 ∧ a.r = 0 ∧ a.o = 0 ∧ a.i = false
theorem ptB_r {r k : Int} (h : ptB r k = true) : r ∈ rA ∨ (r = 5 ∧ k = 0) := by
  unfold ptB at h
  simp only [Bool.or_eq_true, Bool.and_eq_true, decide_eq_true_eq] at h
  rcases h with (((h | h) | h) | h) | h
  · exact .inl (mem_rA (.inl h))
  · exact .inl (mem_rA (.inr (.inl h)))
  · exact .inl (mem_rA (.inr (.inr (.inl h))))
  · exact .inl (mem_rA (.inr (.inr (.inr h))))
  · exact .inr h
theorem stepL_k (l : List Int) : (stepL l).2 ∈ ([0, 7, 8, 9, 10] : List Int) := by
  unfold stepL
  repeat' split
  all_goals simp
theorem accL_k {l : List Int} (h : 0 < accL l) : accL l = 4 ∨ accL l = 5 ∨ accL l = 6 := by
  unfold accL at h ⊢
  split
  · exact .inl rfl
  split
  · exact .inr (.inl rfl)
  split
  · exact .inr (.inr rfl)
  · rename_i h1 h2 h3
    rw [if_neg h1, if_neg h2, if_neg h3] at h
    exact absurd h (by decide)
theorem offL_ok (s r : Int) (i : Bool) (x : List Int) (hx : BytL x) (hr : r ∈ rA ∨ r = 5) : codeL (offL s r i x).1 r (offL s r i x).2 i < 256 := by
  have hv := constV_in x hx
  have h5 : ∀ r, r ∈ rA → r ≠ 5 := by decide
  unfold offL
  by_cases h : r = 5
  · subst h
    rw [if_pos rfl]
    split
    · exact okC (.inl rfl) i
    · exact okC (.inr rfl) i
  · have hr' : r ∈ rA := hr.resolve_right h
    rw [if_neg h]
    split
    · exact okA (by decide) hr' i
    split
    · exact okA (by decide) hr' i
    split
    · rename_i hh
      rw [hh.2]
      exact okB hr' (mem_oA hv.1 hv.2 hh.1)
    split
    · exact okA (by decide) hr' i
    · exact okA (by decide) hr' i
theorem idxR_ok (left : List Int) (r : Int) (ok : Bool) (k : Int) (i : Bool) (hl : BytL left) (hk : k ∈ ([0, 7, 8, 9, 10] : List Int)) (h : (idxR left r ok k i).2 = true) : (idxR left r ok k i).1.f = 3 ∧ okP (idxR left r ok k i).1 := by
  have hkA : k ∈ kA := by
    have : ∀ k, k ∈ ([0, 7, 8, 9, 10] : List Int) → k ∈ kA := by decide
    exact this k hk
  have h5 : ∀ r, r ∈ rA → r ≠ 5 := by decide
  unfold idxR at h ⊢
  by_cases h1 : ok = false ∨ ptB r k = false
  · rw [if_pos h1] at h; exact absurd h (by decide)
  rw [if_neg h1] at h ⊢
  have hp : ptB r k = true := by
    cases hh : ptB r k
    · exact absurd (.inr hh) h1
    · rfl
  have hr := ptB_r hp
  by_cases h2 : left = []
  · rw [if_pos h2] at h ⊢
    have hr5 : r ≠ 5 := by simpa using h
    exact ⟨rfl, okA hkA (hr.resolve_right (fun e => hr5 e.1)) i⟩
  rw [if_neg h2] at h ⊢
  by_cases h3 : k ≠ 0
  · rw [if_pos h3] at h; exact absurd h (by decide)
  rw [if_neg h3] at h ⊢
  by_cases h4 : 0 < accL left ∧ r ≠ 5
  · rw [if_pos h4]
    refine ⟨rfl, okA (k := accL left) ?_ (hr.resolve_right (fun e => h4.2 e.1)) i⟩
    rcases accL_k h4.1 with e | e | e <;> rw [e] <;> decide
  · rw [if_neg h4]
    exact ⟨rfl, offL_ok _ _ _ _ (sizL_byt hl) (hr.imp id And.left)⟩
theorem memL_ok (s : ByteArray) (i : Bool) (h : (memL s i).2 = true) : ((memL s i).1.f = 3 ∧ okP (memL s i).1) ∨ ((memL s i).1.f ≠ 3 ∧ noP (memL s i).1) := by
  unfold memL at h ⊢
  by_cases h1 : 0 ≤ Lib.lastIndexByte s 44
  · rw [if_pos h1] at h ⊢
    rw [idxL_eq] at h ⊢
    exact .inl (idxR_ok _ _ _ _ _ ((BytL.nums s).take _) (stepL_k _) h)
  rw [if_neg h1] at h ⊢
  by_cases h2 : i = true
  · rw [if_pos h2] at h ⊢
    split at h
    · exact absurd h (by decide)
    · rename_i h3
      rw [if_neg h3]
      exact .inl ⟨rfl, okD0⟩
  · rw [if_neg h2]
    exact .inr ⟨(by show (2 : Int) ≠ 3; decide), rfl, rfl, rfl, rfl⟩
theorem parR_ok (m : AgV × Bool) (h : m.2 = true → (m.1.f = 3 ∧ okP m.1) ∨ (m.1.f ≠ 3 ∧ noP m.1)) : ((parR m).2 = 0 ∧ (parR m).1.f = 3 ∧ okP (parR m).1) ∨ (((parR m).2 = 21 ∨ ((parR m).2 = 0 ∧ (parR m).1.f ≠ 3)) ∧ noP (parR m).1) := by
  unfold parR
  by_cases hm : m.2 = true
  · rw [if_pos hm]
    rcases h hm with h | h
    · exact .inl ⟨rfl, h⟩
    · exact .inr ⟨.inr ⟨rfl, h.1⟩, h.2⟩
  · rw [if_neg hm]
    exact .inr ⟨.inl rfl, rfl, rfl, rfl, rfl⟩
theorem parL_ok (s : ByteArray) : ((parL s).2 = 0 ∧ (parL s).1.f = 3 ∧ okP (parL s).1) ∨ (((parL s).2 = 21 ∨ ((parL s).2 = 0 ∧ (parL s).1.f ≠ 3)) ∧ noP (parL s).1) := by
  unfold parL
  split
  · exact .inr ⟨.inr ⟨rfl, by decide⟩, rfl, rfl, rfl, rfl⟩
  split
  · exact .inr ⟨.inr ⟨rfl, by show (1 : Int) ≠ 3; decide⟩, rfl, rfl, rfl, rfl⟩
  split
  · split
    · exact parR_ok _ (memL_ok _ _)
    · exact .inr ⟨.inl rfl, rfl, rfl, rfl, rfl⟩
  · exact parR_ok _ (memL_ok _ _)
end Go.Proofs.YteaajmoclgfhnabDoor
