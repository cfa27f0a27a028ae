/- Bytes, bit by bit: plain laws of and, or, and-not on numbers from 0 to 255. No program in sight. -/
import Derived.Test.YtmdpgekbiohfbabDoorMem
namespace Go.Proofs.YtmdpgekbiohfbabDoor
open Go.ChangeShapes Go.WideShapes Go.ChangeAt Go.RowKit
set_option linter.unusedVariables false

def bv (a : Int) : BitVec 8 := BitVec.ofInt 8 a
theorem u8_keep (r : BitVec 8) : IntKind.u8.wrap (r.toNat : Int) = (r.toNat : Int) := by
  rw [IntKind.wrap_u8]; have := r.isLt; omega
theorem bv_and (a b : Int) : bits .and .u8 a b = ((bv a &&& bv b).toNat : Int) := u8_keep _
theorem bv_or (a b : Int) : bits .or .u8 a b = ((bv a ||| bv b).toNat : Int) := u8_keep _
theorem bv_xor (a b : Int) : bits .xor .u8 a b = ((bv a ^^^ bv b).toNat : Int) := u8_keep _
theorem bv_andNot (a b : Int) : bits .andNot .u8 a b = ((bv a &&& ~~~ bv b).toNat : Int) := u8_keep _
theorem bv_nat (r : BitVec 8) : bv (r.toNat : Int) = r := by
  unfold bv
  rw [BitVec.ofInt_natCast]
  apply BitVec.eq_of_toNat_eq
  rw [BitVec.toNat_ofNat]
  exact Nat.mod_eq_of_lt r.isLt
theorem bv_back (a : Int) (h0 : 0 ≤ a) (h1 : a < 256) : ((bv a).toNat : Int) = a := by
  obtain ⟨n, rfl⟩ := Int.eq_ofNat_of_zero_le h0
  unfold bv
  rw [BitVec.ofInt_natCast, BitVec.toNat_ofNat]
  omega
theorem bv_inj (r s : BitVec 8) : ((r.toNat : Int) = (s.toNat : Int)) ↔ r = s := by
  constructor
  · intro h; exact BitVec.eq_of_toNat_eq (by exact_mod_cast h)
  · rintro rfl; rfl
theorem bool_has1 : ∀ c m b : Bool, (c && (m || b)) = (m || b) → (c && m) = m := by decide
theorem bool_has2 : ∀ c m b : Bool, (c && (m || b)) = (m || b) → (c && b) = b := by decide
theorem bool_has3 : ∀ c m b : Bool, (c && m) = m → (c && b) = b → (c && (m || b)) = (m || b) := by decide
theorem bvec_has (c m b : BitVec 8) : (c &&& (m ||| b) = m ||| b) ↔ (c &&& m = m ∧ c &&& b = b) := by
  have hg : ∀ {x y : BitVec 8}, x = y → ∀ i, x.getLsbD i = y.getLsbD i := fun h i => by rw [h]
  constructor
  · intro h
    constructor
    · apply BitVec.eq_of_getLsbD_eq
      intro i _
      have := hg h i
      rw [BitVec.getLsbD_and, BitVec.getLsbD_or] at this
      rw [BitVec.getLsbD_and]
      exact bool_has1 _ _ _ this
    · apply BitVec.eq_of_getLsbD_eq
      intro i _
      have := hg h i
      rw [BitVec.getLsbD_and, BitVec.getLsbD_or] at this
      rw [BitVec.getLsbD_and]
      exact bool_has2 _ _ _ this
  · rintro ⟨h1, h2⟩
    apply BitVec.eq_of_getLsbD_eq
    intro i _
    have a1 := hg h1 i
    have a2 := hg h2 i
    rw [BitVec.getLsbD_and] at a1 a2
    rw [BitVec.getLsbD_and, BitVec.getLsbD_or]
    exact bool_has3 _ _ _ a1 a2
/-- All bits of two masks are on just if all of the one and all of the other are. -/
theorem has_or (c m b : Int) (m0 : 0 ≤ m) (m1 : m < 256) (b0 : 0 ≤ b) (b1 : b < 256) :
    (bits .and .u8 c (bits .or .u8 m b) == bits .or .u8 m b) = ((bits .and .u8 c m == m) && (bits .and .u8 c b == b)) := by
  rw [Bool.eq_iff_iff, Bool.and_eq_true, beq_iff_eq, beq_iff_eq, beq_iff_eq]
  have e1 : bits .and .u8 c m = m ↔ bv c &&& bv m = bv m := by
    conv => lhs; rw [bv_and]; rhs; rw [← bv_back m m0 m1]
    exact bv_inj _ _
  have e2 : bits .and .u8 c b = b ↔ bv c &&& bv b = bv b := by
    conv => lhs; rw [bv_and]; rhs; rw [← bv_back b b0 b1]
    exact bv_inj _ _
  rw [e1, e2, bv_and, bv_or, bv_nat, bv_inj]
  exact bvec_has _ _ _
theorem or_or (c m b : Int) : bits .or .u8 (bits .or .u8 c m) b = bits .or .u8 c (bits .or .u8 m b) := by
  rw [bv_or, bv_or, bv_or, bv_or, bv_nat, bv_nat, BitVec.or_assoc]
theorem andNot_or (c m b : Int) : bits .andNot .u8 (bits .andNot .u8 c m) b = bits .andNot .u8 c (bits .or .u8 m b) := by
  rw [bv_andNot, bv_andNot, bv_andNot, bv_or, bv_nat, bv_nat, BitVec.not_or, BitVec.and_assoc]
theorem or_zero (c : Int) (h0 : 0 ≤ c) (h1 : c < 256) : bits .or .u8 c 0 = c := by
  rw [bv_or, show bv 0 = 0#8 from rfl, BitVec.or_zero, bv_back c h0 h1]
theorem zero_or (c : Int) (h0 : 0 ≤ c) (h1 : c < 256) : bits .or .u8 0 c = c := by
  rw [bv_or, show bv 0 = 0#8 from rfl, BitVec.zero_or, bv_back c h0 h1]
theorem andNot_zero (c : Int) (h0 : 0 ≤ c) (h1 : c < 256) : bits .andNot .u8 c 0 = c := by
  rw [bv_andNot, show bv 0 = 0#8 from rfl, show ~~~ (0#8) = BitVec.allOnes 8 from rfl, BitVec.and_allOnes, bv_back c h0 h1]
theorem and_zero (c : Int) : bits .and .u8 c 0 = 0 := by
  rw [bv_and, show bv 0 = 0#8 from rfl, BitVec.and_zero]; rfl
end Go.Proofs.YtmdpgekbiohfbabDoor
