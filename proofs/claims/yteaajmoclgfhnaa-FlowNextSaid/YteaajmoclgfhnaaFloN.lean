/- Where an instruction goes on, in numbers: operation, mode, register, postbyte, value, length, address. No program in sight. -/
import Derived.Test.YteaajmoclgfhnaaPagT
namespace Go.Proofs.Yteaajmoclgfhnaa
set_option linter.unusedVariables false

def nxN (l a : Int) : Int := (a + l) % 65536
def tgN (l v a : Int) : Int := (a + l + v) % 65536
/-- Does it take PC from a register, or from a stack? -/
def pcB (o : Nat) (b : Int) : Bool := Nat.beq o 48 || (Nat.beq o 49 || ((Nat.beq o 47 && b % 16 == 5) || ((Nat.beq o 46 && (b / 16 == 5 || b % 16 == 5)) || (Nat.beq o 31 && decide (127 < b)))))
def flL (o : Nat) (m r : Int) (b v l a : Int) : List Int :=
  if o = 34 ∨ o = 35 then (if r = 0 then [tgN l v a] else if r = 1 then [nxN l a] else [tgN l v a, nxN l a]) else
  if o = 36 then [tgN l v a] else if o = 37 ∨ o = 38 then [tgN l v a, nxN l a] else
  if o = 32 then (if m = 5 then [v] else []) else if o = 33 then (if m = 5 then [v, nxN l a] else [nxN l a]) else
  if o = 51 then [nxN l a] else bif pcB o b then [] else [nxN l a]
def flA (o : Nat) (m : Int) (b : Int) : Bool :=
  if o = 34 ∨ o = 35 ∨ o = 36 ∨ o = 37 ∨ o = 38 then true else if o = 32 ∨ o = 33 then decide (m = 5) else if o = 51 then false else !pcB o b
/-- Branches have relative modes; a long one by a condition isn't the one that always goes. -/
theorem pgT_rel : ((List.range 768).all fun j => let e := pgT j; (!(Nat.ble 34 (eOp e) && Nat.ble (eOp e) 38) || (Nat.beq (eMode e) 6 || Nat.beq (eMode e) 7)) && (!Nat.beq (eOp e) 35 || !Nat.beq (eReg e) 0)) = true := by decide +kernel
theorem ofN_rel (p : Int) (c : Nat) (hc : c < 256) : (34 ≤ eOp (ofN p c) → eOp (ofN p c) ≤ 38 → eMode (ofN p c) = 6 ∨ eMode (ofN p c) = 7) ∧ (eOp (ofN p c) = 35 → eReg (ofN p c) ≠ 0) := by
  unfold ofN
  split
  · have h := allB 768 _ pgT_rel (256 * (p.toNat - 1) + c) (by omega)
    simp only [Bool.and_eq_true, Bool.or_eq_true, Bool.not_eq_true', Bool.and_eq_false_iff, Nat.beq_eq] at h
    obtain ⟨h1, h2⟩ := h
    generalize pgT (256 * (p.toNat - 1) + c) = E at h1 h2 ⊢
    refine ⟨fun a b => ?_, fun a => ?_⟩
    · rcases h1 with (h1 | h1) | h1
      · rw [← Bool.not_eq_true, Nat.ble_eq] at h1; exact absurd a h1
      · rw [← Bool.not_eq_true, Nat.ble_eq] at h1; exact absurd b h1
      · exact h1
    · rcases h2 with h2 | h2
      · rw [← Bool.not_eq_true, Nat.beq_eq] at h2; exact absurd a h2
      · rw [← Bool.not_eq_true, Nat.beq_eq] at h2; exact h2
  · exact ⟨fun a => absurd a (by decide), fun a => absurd a (by decide)⟩
end Go.Proofs.Yteaajmoclgfhnaa
