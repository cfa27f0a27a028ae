/- Contracts of package prio, and of the document's own (spinetref29); the laws PrioRows and PrioOnly over numbers. -/
import Derived.Test.YtoogaenknjdpcaaCod
namespace Go.Proofs.Ytoogaenknjdpcaa
open Go.ChangeShapes Go.WideShapes Go.ChangeAt Go.RowKit
set_option linter.unusedVariables false

abbrev laV (l a s : Bool) : Array Value := #[.bool l, .bool a, .bool s]
abbrev piA (r n f i h q : Bool) : Array Value := #[.bool r, .bool n, .bool f, .bool i, .bool h, .bool q]
theorem bit64p : IsBit 64 := .inr (.inr (.inr (.inr (.inr (.inr (.inl rfl))))))
theorem bit16p : IsBit 16 := .inr (.inr (.inr (.inr (.inl rfl))))
/-- What begins at a boundary: by an edge that is kept, FIRQ, IRQ, and whether F and I mask them. -/
def rowN (s f i hf hi : Bool) : Int := if s then 1 else if f && !hf then 2 else if i && !hi then 3 else 0
def wakN (s f i : Bool) : Bool := s || f || i
def behN (s f i hf hi : Bool) : Int := if rowN s f i hf hi > 0 then rowN s f i hf hi + 4 else 0
def behB (s f i hf hi : Bool) : Bool := decide (rowN s f i hf hi > 0)
set_option maxHeartbeats 1000000 in
theorem prioRow_any (l a s r n f i h q : Bool) (cc : Int) (hcc : CC cc) (w : World) :
    Calls Try.prog 17 #[.agg (laV l a s), .agg (piA r n f i h q), .int .u8 cc] w fun e w' => e = .returned (.int .i64 (rowN s f i (hasRef cc 64) (hasRef cc 16))) ∧ Below w.heap.size w w' := by
  have C64 := Lib.hid (fun (w : World) (A : Option Addr) (n c B : Nat) (h : Ints .u8 w B A n [64]) (hn : n ≤ 9223372036854775807) => has_bit cc 64 A n c B w hcc bit64p h hn)
  have C16 := Lib.hid (fun (w : World) (A : Option Addr) (n c B : Nat) (h : Ints .u8 w B A n [16]) (hn : n ≤ 9223372036854775807) => has_bit cc 16 A n c B w hcc bit16p h hn)
  generalize hasRef cc 64 = hf at C64 ⊢
  generalize hasRef cc 16 = hi at C16 ⊢
  cases s <;> cases f <;> cases i <;> cases hf <;> cases hi
  all_goals
    go_enter Try.func17, Try.ntmps17
    go_wp2_with (first
      | (go_at_call 27; with_reducible refine (C64.out _ _ _ _ _ (Ints.new1 (by simp) (by decide)) (by omega)).mono ?_; rintro e w' ⟨rfl, rfl⟩)
      | (go_at_call 27; with_reducible refine (C16.out _ _ _ _ _ (Ints.new1 (by simp) (by decide)) (by omega)).mono ?_; rintro e w' ⟨rfl, rfl⟩))
    go_ret
    exact ⟨rfl, by repeat (first | exact Below.refl _ _ | apply Below.alloc0)⟩
theorem wakes_any (l a s r n f i h q : Bool) (w : World) :
    Calls Try.prog 18 #[.agg (laV l a s), .agg (piA r n f i h q)] w fun e w' => e = .returned (.bool (wakN s f i)) ∧ Below w.heap.size w w' := by
  cases s <;> cases f <;> cases i
  all_goals
    go_enter Try.func18, Try.ntmps18
    go_wp2
    go_ret
    exact ⟨rfl, by repeat (first | exact Below.refl _ _ | apply Below.alloc0)⟩
set_option maxHeartbeats 1000000 in
theorem behind_any (l a s r n f i h q : Bool) (cc : Int) (hcc : CC cc) (w : World) :
    Calls Try.prog 16 #[.agg (laV l a s), .agg (piA r n f i h q), .int .u8 cc] w fun e w' => e = .returned (.tuple #[.int .i64 (behN s f i (hasRef cc 64) (hasRef cc 16)), .bool (behB s f i (hasRef cc 64) (hasRef cc 16))]) ∧ Below w.heap.size w w' := by
  have C := Lib.hid (fun w => prioRow_any l a s r n f i h q cc hcc w)
  unfold behN behB
  have hv : rowN s f i (hasRef cc 64) (hasRef cc 16) = 0 ∨ rowN s f i (hasRef cc 64) (hasRef cc 16) = 1 ∨ rowN s f i (hasRef cc 64) (hasRef cc 16) = 2 ∨ rowN s f i (hasRef cc 64) (hasRef cc 16) = 3 := by unfold rowN; repeat (first | omega | split)
  generalize rowN s f i (hasRef cc 64) (hasRef cc 16) = v at C hv ⊢
  rcases hv with rfl | rfl | rfl | rfl
  all_goals
    go_enter Try.func16, Try.ntmps16
    go_wp2_with (go_at_call 17; refine (C.out _).mono ?_; rintro e w1 ⟨rfl, hb⟩)
    go_ret2
    exact ⟨rfl, Below.trans0 (Below.alloc0 (Below.alloc0 (Below.refl _ _) _) _) hb⟩
set_option maxHeartbeats 1000000 in
theorem refRow29_any (s r n f i h q : Bool) (cc : Int) (hcc : CC cc) (w : World) :
    Calls Try.prog 15 #[.bool s, .agg (piA r n f i h q), .int .u8 cc] w fun e w' => e = .returned (.int .i64 (rowN s f i (hasRef cc 64) (hasRef cc 16))) ∧ Below w.heap.size w w' := by
  have C64 := Lib.hid (fun (w : World) => hasRef_cc cc 64 w hcc bit64p)
  have C16 := Lib.hid (fun (w : World) => hasRef_cc cc 16 w hcc bit16p)
  generalize hasRef cc 64 = hf at C64 ⊢
  generalize hasRef cc 16 = hi at C16 ⊢
  cases s <;> cases f <;> cases i <;> cases hf <;> cases hi
  all_goals
    go_enter Try.func15, Try.ntmps15
    go_wp2_with (first
      | (go_at_call 26; with_reducible refine (C64.out _).mono ?_; rintro e w' ⟨rfl, rfl⟩)
      | (go_at_call 26; with_reducible refine (C16.out _).mono ?_; rintro e w' ⟨rfl, rfl⟩))
    go_ret
    exact ⟨rfl, by repeat (first | exact Below.refl _ _ | apply Below.alloc0)⟩
theorem alive29 (w : World) : Calls Try.prog 19 #[] w fun e w' => e = .returned (.bool true) ∧ Below w.heap.size w w' := by
  have h0 : hasRef 64 64 = true := by decide
  have h1 : hasRef 64 16 = false := by decide
  have C := Lib.hid (fun w => prioRow_any false false false false false true true false false 64 (CC.mk' (by decide) (by decide)) w)
  rw [h0, h1] at C
  clear h0 h1
  go_enter Try.func19, Try.ntmps19
  go_wp2_with (go_at_call 17; refine (C.out _).mono ?_; rintro e w1 ⟨rfl, hb⟩)
  go_ret
  first
    | exact ⟨rfl, Below.trans0 (Below.refl _ _) hb⟩
    | exact ⟨rfl, Below.trans0 (Below.alloc0 (Below.refl _ _) _) hb⟩
    | exact ⟨rfl, Below.trans0 (Below.alloc0 (Below.alloc0 (Below.refl _ _) _) _) hb⟩
/-- The masks F and I of codes of which the others are off, or both on. -/
theorem mask80 : ((List.range 256).all fun c => hasRef (bits .and .u8 (c : Int) 80) 64 == hasRef (c : Int) 64 && hasRef (bits .and .u8 (c : Int) 80) 16 == hasRef (c : Int) 16 && hasRef (bits .or .u8 (c : Int) 80) 64 && hasRef (bits .or .u8 (c : Int) 80) 16) = true := by decide +kernel
theorem mask80_of {cc : Int} (h : CC cc) : hasRef (bits .and .u8 cc 80) 64 = hasRef cc 64 ∧ hasRef (bits .and .u8 cc 80) 16 = hasRef cc 16 ∧ hasRef (bits .or .u8 cc 80) 64 = true ∧ hasRef (bits .or .u8 cc 80) 16 = true ∧ CC (bits .and .u8 cc 80) ∧ CC (bits .or .u8 cc 80) := by
  obtain ⟨n, rfl⟩ := Int.eq_ofNat_of_zero_le h.1
  have := List.all_eq_true.1 mask80 n (List.mem_range.2 (by have := h.2; omega))
  simp only [Bool.and_eq_true, beq_iff_eq] at this
  obtain ⟨⟨⟨a, b⟩, c⟩, d⟩ := this
  exact ⟨a, b, c, d, bits_u8_range _ _ _, bits_u8_range _ _ _⟩
end Go.Proofs.Ytoogaenknjdpcaa
