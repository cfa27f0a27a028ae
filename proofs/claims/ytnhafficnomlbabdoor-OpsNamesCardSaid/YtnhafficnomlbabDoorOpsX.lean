/- Contracts of the document's answer for layer 13: all rows. -/
import Derived.Test.YtnhafficnomlbabDoorOpsW
import Derived.Test.YtnhafficnomlbabDoorStc
import Derived.Deep.RegionHeld3
namespace Go.Proofs.YtnhafficnomlbabDoor
open Go.ChangeShapes Go.WideShapes Go.ChangeAt Go.RowKit
set_option linter.unusedVariables false
def eightL : List Txt := [[65, 68, 67], [65, 68, 68], [65, 78, 68], [66, 73, 84], [67, 77, 80], [69, 79, 82], [79, 82], [83, 66, 67], [83, 85, 66], [76, 68], [83, 84]]
def chgL : List Txt := [[78, 69, 71], [67, 79, 77], [76, 83, 82], [82, 79, 82], [65, 83, 82], [65, 83, 76], [82, 79, 76], [68, 69, 67], [73, 78, 67], [84, 83, 84], [67, 76, 82]]
def aloneL : List Txt := [[76, 66, 82, 65], [66, 83, 82], [76, 66, 83, 82], [78, 79, 80], [83, 89, 78, 67], [67, 87, 65, 73], [68, 65, 65], [79, 82, 67, 67], [65, 78, 68, 67, 67], [83, 69, 88], [69, 88, 71], [84, 70, 82], [82, 84, 83], [82, 84, 73], [77, 85, 76]]
def l1 (k : Nat) : List RowT := (List.range k).flatMap fun i => withW (eightL.getD i []) (2 + (i : Int)) [65, 66] 10
def m2 (i : Nat) : List RowT := (chgL.getD i [], 13 + (i : Int), 0) :: withW (chgL.getD i []) (13 + (i : Int)) [65, 66] 10
def l2 (k : Nat) : List RowT := l1 11 ++ (List.range k).flatMap m2
def l3a : List RowT := l2 11 ++ withW [76, 68] 24 [68, 88, 89, 85, 83] 10
def l3b : List RowT := l3a ++ withW [83, 84] 25 [68, 88, 89, 85, 83] 10
def l3 : List RowT := l3b ++ withW [67, 77, 80] 28 [68, 88, 89, 85, 83] 10
def l4 : List RowT := l3 ++ [([65, 68, 68, 68], 26, 0), ([83, 85, 66, 68], 27, 0)]
def l5a : List RowT := l4 ++ withW [76, 69, 65] 29 [88, 89, 85, 83] 10
def l5b : List RowT := l5a ++ withW [80, 83, 72] 30 [85, 83] 10
def l5 : List RowT := l5b ++ withW [80, 85, 76] 31 [85, 83] 10
def m6 (i : Nat) : List RowT := ([66] ++ cndNames.getD i [], 34, (i : Int)) :: if 0 < i then [([76, 66] ++ cndNames.getD i [], 35, (i : Int))] else []
def l6 (k : Nat) : List RowT := l5 ++ (List.range k).flatMap m6
def l7 : List RowT := l6 16 ++ [([83, 87, 73], 51, 1), ([83, 87, 73, 50], 51, 2), ([83, 87, 73, 51], 51, 3), ([65, 66, 88], 1, 0), ([74, 77, 80], 32, 0), ([74, 83, 82], 33, 0)]
def l8 (k : Nat) : List RowT := l7 ++ (List.range k).map fun i => (aloneL.getD i [], 36 + (i : Int), 0)
theorem l8_all : l8 15 = rowsW.map fun p => (p.1, (p.2.1 : Int), (p.2.2 : Int)) := by decide +kernel
theorem l1_next (k : Nat) : l1 (k + 1) = l1 k ++ withW (eightL.getD k []) (2 + (k : Int)) [65, 66] 10 := by simp [l1, List.range_succ]
theorem l2_next (k : Nat) : l2 (k + 1) = l2 k ++ m2 k := by simp [l2, List.range_succ]
theorem l6_next (k : Nat) : l6 (k + 1) = l6 k ++ m6 k := by simp [l6, List.range_succ]
theorem l8_next (k : Nat) : l8 (k + 1) = l8 k ++ [(aloneL.getD k [], 36 + (k : Int), 0)] := by simp [l8, List.range_succ]
theorem l1_len : ∀ k : Fin 12, (l1 k.val).length ≤ 1000 := by decide +kernel
theorem l2_len : ∀ k : Fin 12, (l2 k.val).length ≤ 1000 := by decide +kernel
theorem l6_len : ∀ k : Fin 17, (l6 k.val).length ≤ 1000 := by decide +kernel
theorem l8_len : ∀ k : Fin 16, (l8 k.val).length ≤ 1000 := by decide +kernel
theorem l3_len : l3a.length ≤ 1000 ∧ l3b.length ≤ 1000 ∧ l3.length ≤ 1000 ∧ l4.length ≤ 1000 ∧ l5a.length ≤ 1000 ∧ l5b.length ≤ 1000 ∧ l5.length ≤ 1000 ∧ l7.length ≤ 1000 := by decide +kernel
theorem eight_short : ∀ k : Fin 11, (eightL.getD k.val []).length ≤ 100 := by decide +kernel
theorem chg_short : ∀ k : Fin 11, (chgL.getD k.val []).length ≤ 100 := by decide +kernel
def csS (l : List Txt) : Array Value := (l.map fun s => Value.string (byteStr s)).toArray
theorem csS_at (l : List Txt) (k : Nat) (h : k < l.length) : (csS l)[k]? = some (.string (byteStr (l.getD k []))) := by
  unfold csS
  rw [List.getElem?_toArray, List.getElem?_map, List.getElem?_eq_getElem h, List.getD_eq_getElem?_getD, List.getElem?_eq_getElem h]; rfl
theorem own_ne {w : World} {t : TypeId} {base : Nat} {v : Value} {l : List RowT} (h : eW.Own t w base v l) : v.ownBlock ≠ some w.heap.size := fun e => by
  have := (Els.Own.lt h _ e).2; omega
theorem own_grw {w w' : World} {t : TypeId} {base : Nat} {v v' : Value} {l : List RowT} (h : eW.Own t w base v l) (hb : base ≤ w.heap.size) (hg : Grw w w' v v') : Below base w w' := hg.below hb (fun g hv => (Els.Own.lt h g hv).1)
theorem rdW_lit2 (w : World) (t : TypeId) : eW.Rd (w.alloc (.cells #[.string ⟨#[65, 68, 68, 68]⟩, .int .i64 26, .int .i64 0, .string ⟨#[83, 85, 66, 68]⟩, .int .i64 27, .int .i64 0] t)) (.slice (some ⟨w.heap.size, 0, none⟩) 2 2) [([65, 68, 68, 68], 26, 0), ([83, 85, 66, 68], 27, 0)] := Els.Rd.lit w t [([65, 68, 68, 68], 26, 0), ([83, 85, 66, 68], 27, 0)] _ 2 rfl rfl 2
theorem rdW_lit6 (w : World) (t : TypeId) : eW.Rd (w.alloc (.cells #[.string ⟨#[83, 87, 73]⟩, .int .i64 51, .int .i64 1, .string ⟨#[83, 87, 73, 50]⟩, .int .i64 51, .int .i64 2, .string ⟨#[83, 87, 73, 51]⟩, .int .i64 51, .int .i64 3, .string ⟨#[65, 66, 88]⟩, .int .i64 1, .int .i64 0, .string ⟨#[74, 77, 80]⟩, .int .i64 32, .int .i64 0, .string ⟨#[74, 83, 82]⟩, .int .i64 33, .int .i64 0] t)) (.slice (some ⟨w.heap.size, 0, none⟩) 6 6) [([83, 87, 73], 51, 1), ([83, 87, 73, 50], 51, 2), ([83, 87, 73, 51], 51, 3), ([65, 66, 88], 1, 0), ([74, 77, 80], 32, 0), ([74, 83, 82], 33, 0)] := Els.Rd.lit w t [([83, 87, 73], 51, 1), ([83, 87, 73, 50], 51, 2), ([83, 87, 73, 51], 51, 3), ([65, 66, 88], 1, 0), ([74, 77, 80], 32, 0), ([74, 83, 82], 33, 0)] _ 6 rfl rfl 6
set_option maxRecDepth 100000 in
theorem refCnd_any (k : Nat) (hk : k < 16) (w : World) :
    Calls Tryd.prog 52 #[.int .i64 (k : Int)] w fun e w' => e = .returned (.string (byteStr (cndNames.getD k []))) ∧ Below w.heap.size w w' := by
  have k0 : (0 : Int) ≤ (k : Int) := by omega
  have k1 : (k : Int) < 16 := by omega
  have k2 : ¬ ((15 : Int) < (k : Int)) := by omega
  go_enter Tryd.func52, Tryd.ntmps52
  go_wp2
  go_ret
  refine ⟨?_, Below.alloc0 (Below.refl _ _) _⟩
  rcases (show k = 0 ∨ k = 1 ∨ k = 2 ∨ k = 3 ∨ k = 4 ∨ k = 5 ∨ k = 6 ∨ k = 7 ∨ k = 8 ∨ k = 9 ∨ k = 10 ∨ k = 11 ∨ k = 12 ∨ k = 13 ∨ k = 14 ∨ k = 15 by omega) with rfl | rfl | rfl | rfl | rfl | rfl | rfl | rfl | rfl | rfl | rfl | rfl | rfl | rfl | rfl | rfl
  all_goals rfl
end Go.Proofs.YtnhafficnomlbabDoor
