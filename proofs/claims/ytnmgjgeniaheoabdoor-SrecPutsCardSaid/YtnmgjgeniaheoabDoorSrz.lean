/- SrecPuts: what comes back, plain. -/
import Derived.Test.YtnmgjgeniaheoabDoorSrh
import Derived.Test.YtnmgjgeniaheoabDoorSrl
namespace Go.Proofs.YtnmgjgeniaheoabDoor
open Go.ChangeShapes Go.WideShapes Go.ChangeAt Go.RowKit
set_option linter.unusedVariables false

theorem ldP_byt : ∀ (l : List Pc) (f : Nat → Int), (∀ i, 0 ≤ f i ∧ f i < 256) → (∀ p ∈ l, Byt p.2) → ∀ i, 0 ≤ ldP f l i ∧ ldP f l i < 256
  | [], f, hf, _, i => hf i
  | p :: l, f, hf, h, i => by
    refine ldP_byt l (cpR f p.1.toNat p.2) (fun j => ?_) (fun q hq => h q (List.mem_cons_of_mem _ hq)) i
    unfold cpR
    split
    · exact (h p (List.mem_cons_self ..)).at_ _
    · exact hf j
theorem ldP_rwl (l : List Pc) (h : ∀ p ∈ l, Byt p.2) (N : Nat) : Byt (rwL (ldP (fun _ => 0) l) N) := fun x hx => by
  unfold rwL at hx
  obtain ⟨i, _, rfl⟩ := List.mem_map.1 hx
  exact ldP_byt l _ (fun _ => by decide) h i
theorem pc_facts (l : List Pc) (q : Bool) (w : World) (v : Value) (h : PcR q w v l) : ∀ p ∈ l, 0 ≤ p.1 ∧ Byt p.2 := by
  obtain ⟨L, h1, h2, h3⟩ := h
  intro p hp
  obtain ⟨i, hi, hir⟩ := List.mem_iff_getElem.1 hp
  obtain ⟨a1, a2, a3, a4, a5, a6, a7⟩ := h3 i (L[i]'(by rw [h2]; exact hi)) p (List.getElem?_eq_getElem _) (by rw [List.getElem?_eq_getElem hi, hir])
  exact ⟨a2, a6⟩
theorem ck_all (l : List Pc) (q : Bool) (w : World) (v : Value) (h : PcR q w v l) (hf : fitsP l = true) : ∀ p ∈ ckAll l, PcOk p ∧ fitP p = true := by
  obtain ⟨L, h1, h2, h3⟩ := h
  intro p hp
  unfold ckAll at hp
  obtain ⟨r, hr, hpr⟩ := List.mem_flatMap.1 hp
  unfold ckL at hpr
  obtain ⟨j, hj, rfl⟩ := List.mem_map.1 hpr
  obtain ⟨i, hi, hir⟩ := List.mem_iff_getElem.1 hr
  have hx := h3 i (L[i]'(by rw [h2]; exact hi)) r (List.getElem?_eq_getElem _) (by rw [List.getElem?_eq_getElem hi, hir])
  obtain ⟨a1, a2, a3, a4, a5, a6, a7⟩ := hx
  have hjn := (ckN_lt r j).1 (List.mem_range.1 hj)
  obtain ⟨b1, b2, b3, b4, b5, b6, b7⟩ := ckP_ok r (List.all_eq_true.1 hf r hr) a2 a6 j hjn
  exact ⟨⟨b1, b2, b3, b4, b5, b6⟩, b7⟩
theorem pcs_back (start : Int) (s0 : 0 ≤ start) (s1 : start < 65536) (l : List Pc) (h : ∀ p ∈ ckAll l, PcOk p ∧ fitP p = true) : pcsB 10 (catN (lnsA l ++ [lnE start])) = ((ckAll l).map lnT ++ [lnE start]) ++ [⟨#[]⟩] := by
  refine pcsB_lines (lnsA l ++ [lnE start]) (fun x hx => ?_)
  rcases List.mem_append.1 hx with hx | hx
  · unfold lnsA at hx
    obtain ⟨p, hp, rfl⟩ := List.mem_map.1 hx
    obtain ⟨⟨b1, b2, b3, b4, b5, b6⟩, -⟩ := h p hp
    exact str_no10 _ (lnX_byt (.inr (.inl rfl)) ⟨b1, b2⟩ b3) (lnX_no10 1 p.1 p.2 (.inl rfl))
  · obtain rfl : x = lnE start := by simpa using hx
    exact str_no10 _ (lnX_byt (.inr (.inr rfl)) ⟨s0, s1⟩ Byt.nil_) (lnX_no10 9 start [] (.inr rfl))
end Go.Proofs.YtnmgjgeniaheoabDoor
