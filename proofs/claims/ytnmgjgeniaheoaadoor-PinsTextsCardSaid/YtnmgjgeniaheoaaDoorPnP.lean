/- The pins of a text's cycles, read piece by piece, and sign by sign. -/
import Derived.Test.YtnmgjgeniaheoaaDoorPnM
import Derived.Test.YtnmgjgeniaheoaaDoorSpl
namespace Go.Proofs.YtnmgjgeniaheoaaDoor
open Go.ChangeShapes Go.WideShapes Go.ChangeAt Go.RowKit
set_option linter.unusedVariables false

/-- Read sign by sign. -/
def run : List Pn → List UInt8 → List UInt8 → Sum Int (List Pn)
  | out, _, [] => .inr out
  | out, word, c :: l => if c = 32 then (match stp out ⟨word.toArray⟩ with | .inl e => .inl e | .inr o => run o [] l) else run out (word ++ [c]) l
def hd1 (l : List (List UInt8)) : List UInt8 := l.headD []
theorem run_pcs : ∀ (l : List UInt8) (out : List Pn) (word : List UInt8), run out word (l ++ [32]) = fld out ((⟨(word ++ (pcs 32 l).headD []).toArray⟩ : ByteArray) :: ((pcs 32 l).tail.map fun q => ⟨q.toArray⟩))
  | [], out, word => by
    show run out word [32] = fld out [⟨(word ++ []).toArray⟩]
    rw [run, if_pos rfl, List.append_nil, fld]
    cases stp out ⟨word.toArray⟩ with
    | inl e => rfl
    | inr o => rfl
  | c :: l, out, word => by
    rw [List.cons_append, run]
    by_cases h : c = 32
    · subst h
      rw [if_pos rfl]
      have e : pcs 32 (32 :: l) = [] :: pcs 32 l := by rw [pcs, if_pos rfl]
      rw [e]
      simp only [List.headD_cons, List.append_nil, List.tail_cons]
      rw [fld]
      cases stp out ⟨word.toArray⟩ with
      | inl e => rfl
      | inr o =>
        have := run_pcs l o []
        simp only
        rw [this, List.nil_append]
        obtain ⟨p, r, hp⟩ : ∃ p r, pcs 32 l = p :: r := by
          cases hq : pcs 32 l with
          | nil => exact absurd hq (pcs_ne _ _)
          | cons p r => exact ⟨p, r, rfl⟩
        rw [hp]; rfl
    · rw [if_neg h, run_pcs l out (word ++ [c])]
      obtain ⟨p, r, hp⟩ : ∃ p r, pcs 32 l = p :: r := by
        cases hq : pcs 32 l with
        | nil => exact absurd hq (pcs_ne _ _)
        | cons p r => exact ⟨p, r, rfl⟩
      have e : pcs 32 (c :: l) = (c :: p) :: r := by rw [pcs, if_neg h, hp]
      rw [e, hp]
      simp only [List.headD_cons, List.tail_cons, List.append_assoc, List.singleton_append]
/-- What any text says. -/
def prs (s : ByteArray) : Sum Int (List Pn) := fld [] (pcsB 32 s)
theorem run_prs (s : ByteArray) : run [] [] (s.data.toList ++ [32]) = prs s := by
  rw [run_pcs, List.nil_append]
  unfold prs pcsB
  obtain ⟨p, r, hp⟩ : ∃ p r, pcs 32 s.data.toList = p :: r := by
    cases hq : pcs 32 s.data.toList with
    | nil => exact absurd hq (pcs_ne _ _)
    | cons p r => exact ⟨p, r, rfl⟩
  rw [hp]; rfl
theorem prs_len {s : ByteArray} {o : List Pn} (h : prs s = .inr o) : o.length ≤ 4096 := fld_len _ _ _ h (by simp)
end Go.Proofs.YtnmgjgeniaheoaaDoor
