/- Contracts of package flags' calls with one bit, told in the document's own words: a bit put on or off, N and Z. -/
import Derived.Test.YtfjkbjkbpbnalabDoorFin
namespace Go.Proofs.YtfjkbjkbpbnalabDoor
open Go.ChangeShapes Go.WideShapes Go.ChangeAt Go.RowKit
set_option linter.unusedVariables false

theorem ret_two {k l : IntKind} {a b c d : Int} (h : a = c) (h2 : b = d) : Ending.returned (.tuple #[.int k a, .int l b]) = .returned (.tuple #[.int k c, .int l d]) := by rw [h, h2]
/-- These are one bit. -/
def IsBit (m : Int) : Prop := m = 1 ∨ m = 2 ∨ m = 4 ∨ m = 8 ∨ m = 16 ∨ m = 32 ∨ m = 64 ∨ m = 128
theorem putRef_one (cc m : Int) (on : Bool) (h0 : 0 ≤ cc) (h1 : cc < 256) (hm : IsBit m) : withOf cc on (orAll [m]) = putRef cc m on := by
  have key : orAll [m] = m := by rcases hm with rfl | rfl | rfl | rfl | rfl | rfl | rfl | rfl <;> decide
  rw [key]
  rcases hm with rfl | rfl | rfl | rfl | rfl | rfl | rfl | rfl
  · exact (putRef_with' 0 (by decide) cc on h0 h1).symm
  · exact (putRef_with' 1 (by decide) cc on h0 h1).symm
  · exact (putRef_with' 2 (by decide) cc on h0 h1).symm
  · exact (putRef_with' 3 (by decide) cc on h0 h1).symm
  · exact (putRef_with' 4 (by decide) cc on h0 h1).symm
  · exact (putRef_with' 5 (by decide) cc on h0 h1).symm
  · exact (putRef_with' 6 (by decide) cc on h0 h1).symm
  · exact (putRef_with' 7 (by decide) cc on h0 h1).symm
theorem hasRef_bit' (j : Nat) (hj : j < 8) (cc : Int) (h0 : 0 ≤ cc) (h1 : cc < 256) : (bits .and .u8 cc ((2 ^ j : Nat) : Int) == ((2 ^ j : Nat) : Int)) = hasRef cc ((2 ^ j : Nat) : Int) := by
  obtain ⟨n, rfl⟩ := Int.eq_ofNat_of_zero_le h0
  exact (hasRef_fin8 ⟨n, by omega⟩ ⟨j, hj⟩).symm
theorem hasRef_one (cc m : Int) (h0 : 0 ≤ cc) (h1 : cc < 256) (hm : IsBit m) : (bits .and .u8 cc (orAll [m]) == orAll [m]) = hasRef cc m := by
  have key : orAll [m] = m := by rcases hm with rfl | rfl | rfl | rfl | rfl | rfl | rfl | rfl <;> decide
  rw [key]
  rcases hm with rfl | rfl | rfl | rfl | rfl | rfl | rfl | rfl
  · exact hasRef_bit' 0 (by decide) cc h0 h1
  · exact hasRef_bit' 1 (by decide) cc h0 h1
  · exact hasRef_bit' 2 (by decide) cc h0 h1
  · exact hasRef_bit' 3 (by decide) cc h0 h1
  · exact hasRef_bit' 4 (by decide) cc h0 h1
  · exact hasRef_bit' 5 (by decide) cc h0 h1
  · exact hasRef_bit' 6 (by decide) cc h0 h1
  · exact hasRef_bit' 7 (by decide) cc h0 h1
/-- Codes: a byte. Kept closed, so that a walk asks for it by name. -/
def CC (cc : Int) : Prop := 0 ≤ cc ∧ cc < 256
theorem CC.put {cc : Int} (h : CC cc) (m : Int) (on : Bool) : CC (putRef cc m on) := putRef_range cc m on h.1 h.2
theorem CC.nz {cc : Int} (h : CC cc) (r half : Int) : CC (nzRef cc r half) := (h.put 8 _).put 4 _
theorem CC.mk' {cc : Int} (h0 : 0 ≤ cc) (h1 : cc < 256) : CC cc := ⟨h0, h1⟩
theorem bit1 : IsBit 1 := .inl rfl
theorem bit2 : IsBit 2 := .inr (.inl rfl)
theorem bit4 : IsBit 4 := .inr (.inr (.inl rfl))
theorem bit8 : IsBit 8 := .inr (.inr (.inr (.inl rfl)))
theorem bit32 : IsBit 32 := .inr (.inr (.inr (.inr (.inr (.inl rfl)))))
theorem with_bit (cc m : Int) (on : Bool) (A : Option Addr) (n c : Nat) (B : Nat) (w : World) (hcc : CC cc) (hm : IsBit m) (h : Ints .u8 w B A n [m]) (hn : n ≤ 9223372036854775807) :
    Calls Tryd.prog 84 #[.int .u8 cc, .bool on, .slice A n c] w fun e w' => e = .returned (.int .u8 (putRef cc m on)) ∧ w = w' := by
  rw [← putRef_one cc m on hcc.1 hcc.2 hm]
  exact with_any cc on A n c [m] B w h hn
theorem has_bit (cc m : Int) (A : Option Addr) (n c : Nat) (B : Nat) (w : World) (hcc : CC cc) (hm : IsBit m) (h : Ints .u8 w B A n [m]) (hn : n ≤ 9223372036854775807) :
    Calls Tryd.prog 40 #[.int .u8 cc, .slice A n c] w fun e w' => e = .returned (.bool (hasRef cc m)) ∧ w = w' := by
  rw [← hasRef_one cc m hcc.1 hcc.2 hm]
  exact has_any cc A n c [m] B w h hn
theorem nzRef_range (cc r half : Int) (h0 : 0 ≤ cc) (h1 : cc < 256) : 0 ≤ nzRef cc r half ∧ nzRef cc r half < 256 := by
  have a := putRef_range cc 8 (decide (half ≤ r)) h0 h1
  exact putRef_range _ 4 (r == 0) a.1 a.2
theorem bit_pow (m : Int) (hm : IsBit m) : ∃ i : Fin 8, m = ((2 ^ i.val : Nat) : Int) := by
  rcases hm with rfl | rfl | rfl | rfl | rfl | rfl | rfl | rfl
  · exact ⟨0, rfl⟩
  · exact ⟨1, rfl⟩
  · exact ⟨2, rfl⟩
  · exact ⟨3, rfl⟩
  · exact ⟨4, rfl⟩
  · exact ⟨5, rfl⟩
  · exact ⟨6, rfl⟩
  · exact ⟨7, rfl⟩
/-- Two bits are put one after the other, whichever comes first. -/
theorem putRef_swap (cc m k : Int) (a b : Bool) (h0 : 0 ≤ cc) (h1 : cc < 256) (hm : IsBit m) (hk : IsBit k) (hne : m ≠ k) : putRef (putRef cc m a) k b = putRef (putRef cc k b) m a := by
  obtain ⟨n, rfl⟩ := Int.eq_ofNat_of_zero_le h0
  obtain ⟨i, rfl⟩ := bit_pow m hm
  obtain ⟨j, rfl⟩ := bit_pow k hk
  exact putRef_swap8 ⟨n, by omega⟩ i j a b (fun h => hne (by rw [h]))
theorem nzRef_swap (cc m r half : Int) (a : Bool) (h0 : 0 ≤ cc) (h1 : cc < 256) (hm : IsBit m) (h8 : m ≠ 8) (h4 : m ≠ 4) : putRef (nzRef cc r half) m a = nzRef (putRef cc m a) r half := by
  unfold nzRef
  have p := putRef_range cc 8 (decide (half ≤ r)) h0 h1
  have i8 : IsBit 8 := by unfold IsBit; omega
  have i4 : IsBit 4 := by unfold IsBit; omega
  rw [putRef_swap _ 4 m _ _ p.1 p.2 i4 hm (by omega), putRef_swap cc 8 m _ _ h0 h1 i8 hm (by omega)]
theorem hasRef_put (cc m : Int) (a : Bool) (h0 : 0 ≤ cc) (h1 : cc < 256) (hm : IsBit m) : hasRef (putRef cc m a) m = a := by
  obtain ⟨n, rfl⟩ := Int.eq_ofNat_of_zero_le h0
  obtain ⟨i, rfl⟩ := bit_pow m hm
  have := hasRef_put8 ⟨n, by omega⟩ i i a
  rw [if_pos rfl] at this
  exact this
theorem hasRef_putN (cc m k : Int) (a : Bool) (h0 : 0 ≤ cc) (h1 : cc < 256) (hm : IsBit m) (hk : IsBit k) (hne : m ≠ k) : hasRef (putRef cc m a) k = hasRef cc k := by
  obtain ⟨n, rfl⟩ := Int.eq_ofNat_of_zero_le h0
  obtain ⟨i, rfl⟩ := bit_pow m hm
  obtain ⟨j, rfl⟩ := bit_pow k hk
  have := hasRef_put8 ⟨n, by omega⟩ i j a
  rw [if_neg (fun h => hne (by rw [h]))] at this
  exact this
theorem hasRef_nz (cc r half k : Int) (h0 : 0 ≤ cc) (h1 : cc < 256) (hk : IsBit k) (h8 : k ≠ 8) (h4 : k ≠ 4) : hasRef (nzRef cc r half) k = hasRef cc k := by
  have p := putRef_range cc 8 (decide (half ≤ r)) h0 h1
  have i8 : IsBit 8 := by unfold IsBit; omega
  have i4 : IsBit 4 := by unfold IsBit; omega
  unfold nzRef
  rw [hasRef_putN _ 4 k _ p.1 p.2 i4 hk (by omega), hasRef_putN _ 8 k _ h0 h1 i8 hk (by omega)]
/-- The lowest bit of the codes. -/
theorem and_one (cc : Int) (h0 : 0 ≤ cc) (h1 : cc < 256) : bits .and .u8 cc 1 = cc % 2 := by
  rw [u8_and cc 1 h0 h1 (by decide) (by decide)]
  have := nat_mask1 cc.toNat
  rw [show (1 : Int).toNat = 1 from rfl, this]
  omega
theorem and_15 (a : Int) (h0 : 0 ≤ a) (h1 : a < 256) : bits .and .u8 a 15 = a % 16 := by
  rw [u8_and a 15 h0 h1 (by decide) (by decide)]
  have := nat_mask4 a.toNat
  rw [show (15 : Int).toNat = 15 from rfl, this]
  omega
theorem low_put (cc m : Int) (a : Bool) (h0 : 0 ≤ cc) (h1 : cc < 256) (hm : IsBit m) (h : m ≠ 1) : putRef cc m a % 2 = cc % 2 := by
  unfold putRef
  have : m % 2 = 0 := by rcases hm with rfl | rfl | rfl | rfl | rfl | rfl | rfl | rfl <;> simp_all
  split
  · omega
  · split <;> omega
theorem low_put1 (cc : Int) (a : Bool) (h0 : 0 ≤ cc) (h1 : cc < 256) : putRef cc 1 a % 2 = if a then 1 else 0 := by
  unfold putRef hasRef
  rw [Int.ediv_one]
  rcases (show cc % 2 = 0 ∨ cc % 2 = 1 by omega) with e | e
  all_goals
    cases a
    all_goals
      simp [e]
    all_goals omega
theorem low_nz (cc r half : Int) (h0 : 0 ≤ cc) (h1 : cc < 256) : nzRef cc r half % 2 = cc % 2 := by
  unfold nzRef
  have p := putRef_range cc 8 (decide (half ≤ r)) h0 h1
  rw [low_put _ 4 _ p.1 p.2 (by unfold IsBit; omega) (by omega), low_put _ 8 _ h0 h1 (by unfold IsBit; omega) (by omega)]
end Go.Proofs.YtfjkbjkbpbnalabDoor
