/- Instructions as bytes say them, in numbers; contracts of the document's Sign and Shape (spinetref18). -/
import Derived.Test.YtljhfalgplihhaaGreatDoorPagE
import Derived.Test.YtljhfalgplihhaaGreatDoorPostR
import Derived.Test.YtljhfalgplihhaaGreatDoorOwn
namespace Go.Proofs.YtljhfalgplihhaaGreatDoor
open Go.ChangeShapes Go.WideShapes Go.ChangeAt Go.RowKit
set_option linter.unusedVariables false

/-- The page, how many bytes the opcode takes, the opcode, what it stands for. -/
def inPg (xs : List Int) : Nat := if iat xs 0 = 16 then 2 else if iat xs 0 = 17 then 3 else 1
def inL1 (xs : List Int) : Nat := if inPg xs = 1 then 1 else 2
def inCo (xs : List Int) : Int := if inPg xs = 1 then iat xs 0 else iat xs 1
def inE (xs : List Int) : Nat := ofN (inPg xs : Int) (inCo xs).toNat
/-- Has a mode a postbyte; how many bytes stand behind; are they signed? -/
def pstd (m : Nat) : Bool := Nat.beq m 4 || Nat.beq m 8 || Nat.beq m 9
def shTab : List Nat := [0, 1, 2, 1, 0, 2, 1, 2, 0, 0]
def shN (m : Nat) (b : Int) : Nat := if m = 4 then poBytes (poK b.toNat) else shTab.getD m 0
def shS (m : Nat) : Bool := Nat.beq m 4 || Nat.beq m 6
def inMd (xs : List Int) : Nat := eMode (inE xs)
def inL2 (xs : List Int) : Nat := inL1 xs + if pstd (inMd xs) then 1 else 0
def inPo (xs : List Int) : Int := if pstd (inMd xs) then iat xs (inL1 xs) else 0
def inN (xs : List Int) : Nat := shN (inMd xs) (inPo xs)
def inVa (xs : List Int) : Int :=
  if inN xs = 1 then (if shS (inMd xs) then signOf (iat xs (inL2 xs)) else iat xs (inL2 xs)) else if inN xs = 2 then 256 * iat xs (inL2 xs) + iat xs (inL2 xs + 1) else 0
def inLn (xs : List Int) : Nat := inL2 xs + inN xs
def inOk (xs : List Int) : Bool := decide (inLn xs ≤ xs.length)
theorem pgT_mode : ((List.range 768).all fun j => Nat.ble (eMode (pgT j)) 9) = true := by decide +kernel
theorem ofN_mode (p : Int) (c : Nat) (hc : c < 256) : eMode (ofN p c) ≤ 9 := by
  unfold ofN
  split
  · have := allB 768 _ pgT_mode (256 * (p.toNat - 1) + c) (by omega)
    exact Nat.le_of_ble_eq_true this
  · decide
theorem iat_pad (xs : List Int) (i : Nat) : iat (xs ++ [0, 0, 0, 0, 0]) i = iat xs i := by
  unfold iat
  rw [List.getD_eq_getElem?_getD, List.getD_eq_getElem?_getD]
  by_cases h : i < xs.length
  · rw [List.getElem?_append_left h]
  · rw [List.getElem?_append_right (by omega), List.getElem?_eq_none (show xs.length ≤ i by omega)]
    rcases (show i - xs.length = 0 ∨ i - xs.length = 1 ∨ i - xs.length = 2 ∨ i - xs.length = 3 ∨ i - xs.length = 4 ∨ 5 ≤ i - xs.length by omega) with h | h | h | h | h | h
    iterate 5 · rw [h]; rfl
    · rw [List.getElem?_eq_none (by simpa using h)]
theorem iat_range8' {xs : List Int} (h : ∀ z ∈ xs, (Lit.int .u8 z).wf = true) (k : Nat) : 0 ≤ iat xs k ∧ iat xs k < 256 := by
  by_cases hk : k < xs.length
  · have := bounds_u8 (iat_wf h k hk); omega
  · simp [iat, List.getD_eq_getElem?_getD, List.getElem?_eq_none (show xs.length ≤ k by omega)]
theorem inCo_range {xs : List Int} (h : ∀ z ∈ xs, (Lit.int .u8 z).wf = true) : 0 ≤ inCo xs ∧ inCo xs < 256 := by
  unfold inCo; split <;> exact iat_range8' h _
theorem inPo_range {xs : List Int} (h : ∀ z ∈ xs, (Lit.int .u8 z).wf = true) : 0 ≤ inPo xs ∧ inPo xs < 256 := by
  unfold inPo; split
  · exact iat_range8' h _
  · decide
theorem inMd_le {xs : List Int} (h : ∀ z ∈ xs, (Lit.int .u8 z).wf = true) : inMd xs ≤ 9 := by
  have := inCo_range h
  exact ofN_mode _ _ (by omega)
theorem poBytes_le : ((List.range 256).all fun b => Nat.ble (poBytes (poK b)) 2) = true := by decide +kernel
theorem shN_le (m : Nat) (b : Int) (hm : m ≤ 9) (hb : 0 ≤ b ∧ b < 256) : shN m b ≤ 2 := by
  unfold shN
  split
  · exact Nat.le_of_ble_eq_true (allB 256 _ poBytes_le b.toNat (by omega))
  · rcases (show m = 0 ∨ m = 1 ∨ m = 2 ∨ m = 3 ∨ m = 4 ∨ m = 5 ∨ m = 6 ∨ m = 7 ∨ m = 8 ∨ m = 9 by omega) with rfl | rfl | rfl | rfl | rfl | rfl | rfl | rfl | rfl | rfl <;> decide
theorem sign18_any (a : Int) (w : World) (ha : 0 ≤ a) (ha' : a < 256) :
    Calls Tryz.prog 16 #[.int .u8 a] w fun e w' => e = .returned (.int .u16 (signOf a)) ∧ w = w' := by
  unfold signOf
  by_cases h : 127 < a
  · rw [if_neg (by omega)]
    go_enter Tryz.func16, Tryz.ntmps16
    go_wp2
    go_ret
    exact ⟨ret_int (by omega), rfl⟩
  · rw [if_pos (by omega)]
    go_enter Tryz.func16, Tryz.ntmps16
    go_wp2
    go_ret
    exact ⟨rfl, rfl⟩
theorem field4 (w : World) (x0 x1 x2 x3 x4 x5 : Value) : (Instr.field 79 (.agg #[x0, x1, x2, x3, x4, x5]) 4).run Tryz.prog w = .ok x4 w := by kernel_rfl
set_option maxRecDepth 100000 in
set_option maxHeartbeats 4000000 in
theorem shape_any (m : Nat) (hm : m ≤ 9) (b : Int) (hb0 : 0 ≤ b) (hb1 : b < 256) (w : World) :
    Calls Tryz.prog 15 #[.int .i64 (m : Int), .int .u8 b] w fun e w' => e = .returned (.tuple #[.bool (pstd m), .int .i64 (shN m b : Int), .bool (shS m)]) ∧ Below w.heap.size w w' := by
  rcases (show m = 0 ∨ m = 1 ∨ m = 2 ∨ m = 3 ∨ m = 5 ∨ m = 6 ∨ m = 7 ∨ m = 8 ∨ m = 9 ∨ m = 4 by omega) with rfl | rfl | rfl | rfl | rfl | rfl | rfl | rfl | rfl | rfl
  rotate_left 9
  · obtain ⟨n, rfl⟩ := Int.eq_ofNat_of_zero_le hb0
    have CP := Lib.hid (fun w => refOf_any n (by omega) w)
    unfold shN
    rw [if_pos rfl, Int.toNat_natCast]
    go_enter Tryz.func15, Tryz.ntmps15
    go_wp2_with fail
    refine (CP.out _).mono ?_
    rintro e w1 ⟨rfl, hb1⟩
    have HB := Lib.hid ((Below.alloc0 (Below.refl w.heap.size w) (Obj.cells #[.int .i64 0, .int .i64 1, .int .i64 2, .int .i64 1, .int .i64 0, .int .i64 2, .int .i64 1, .int .i64 2, .int .i64 0, .int .i64 0] 77)).trans (hb1.mono (by simp)))
    clear hb1
    unfold refP
    have hfl := field4 w1 (.int .i64 (poK n : Int)) (.int .i64 (poR n : Int)) (.int .i64 (poO n : Int)) (.bool (poI n)) (.int .i64 (poBytes (poK n) : Int)) (.int .i64 (poIdle (poK n) : Int))
    go_wp2
    go_ret3
    exact ⟨rfl, HB.out⟩
  all_goals
    go_enter Tryz.func15, Tryz.ntmps15
    go_wp2
    go_quiet (fail)
    go_wp2
    go_ret3
    exact ⟨rfl, by repeat (first | exact Below.refl _ _ | apply Below.drewN0 | apply Below.alloc0)⟩
end Go.Proofs.YtljhfalgplihhaaGreatDoor
