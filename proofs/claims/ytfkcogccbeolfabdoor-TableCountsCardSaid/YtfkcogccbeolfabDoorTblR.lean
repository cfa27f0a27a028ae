/- The contract of the document's own least count (spinetref19.Least). -/
import Derived.Test.YtfkcogccbeolfabDoorTblO
import Derived.Test.YtfkcogccbeolfabDoorPostR
import Derived.Test.YtfkcogccbeolfabDoorPostU
import Derived.Deep.CutBlock
import Derived.Deep.RegionHeld3
import Derived.Laws.Tables
import Derived.Great.Walk
namespace Go.Proofs.YtfkcogccbeolfabDoor
open Go.ChangeShapes Go.WideShapes Go.ChangeAt Go.RowKit
set_option linter.unusedVariables false

/-- The document's table, three numbers an operation. -/
def tb19 (i : Nat) : Nat := gB 8 0x1300000b000006000005000006000008000002000300000300000002001000000003000002000009000007000005000004000003070000030000000005000005040000060400060400060400050000050300060002060002060002060002060002060002060002060002060002060002060002040000040200040200040200040200040200040200040200040200040200040200000003000002 i
def pop8 (b : Nat) : Nat := b % 2 + b / 2 % 2 + b / 4 % 2 + b / 8 % 2 + b / 16 % 2 + b / 32 % 2 + b / 64 % 2 + b / 128 % 2
theorem pop8_step (b : Nat) (h : b < 256) : pop8 b = b % 2 + pop8 (b / 2) := by unfold pop8; omega
theorem pop8_zero : pop8 0 = 0 := rfl
theorem pop8_le (b : Nat) : pop8 b ≤ 8 := by unfold pop8; omega
def refFirstN (o m b : Nat) : Nat :=
  if m = 1 ∨ m = 2 then tb19 (o * 3 + 1) else if m = 3 then tb19 (o * 3 + 2) else if m = 4 then tb19 (o * 3 + 2) + poExtra (poK b) (poI b) else if m = 5 then tb19 (o * 3 + 2) + 1 else if m = 9 then tb19 (o * 3) + pop8 b + pop8 (b / 16) else tb19 (o * 3)
def refLeastN (p : Int) (o m b : Nat) : Int := if 1 < p then (refFirstN o m b : Int) + 1 else (refFirstN o m b : Int)
theorem tb19_lt (i : Nat) : tb19 i < 256 := gB_lt _ _ _
def tab19 : Array Value := #[.int .i64 2, .int .i64 0, .int .i64 0, .int .i64 3, .int .i64 0, .int .i64 0, .int .i64 0, .int .i64 2, .int .i64 4, .int .i64 0, .int .i64 2, .int .i64 4, .int .i64 0, .int .i64 2, .int .i64 4, .int .i64 0, .int .i64 2, .int .i64 4, .int .i64 0, .int .i64 2, .int .i64 4, .int .i64 0, .int .i64 2, .int .i64 4, .int .i64 0, .int .i64 2, .int .i64 4, .int .i64 0, .int .i64 2, .int .i64 4, .int .i64 0, .int .i64 2, .int .i64 4, .int .i64 0, .int .i64 2, .int .i64 4, .int .i64 0, .int .i64 0, .int .i64 4, .int .i64 2, .int .i64 0, .int .i64 6, .int .i64 2, .int .i64 0, .int .i64 6, .int .i64 2, .int .i64 0, .int .i64 6, .int .i64 2, .int .i64 0, .int .i64 6, .int .i64 2, .int .i64 0, .int .i64 6, .int .i64 2, .int .i64 0, .int .i64 6, .int .i64 2, .int .i64 0, .int .i64 6, .int .i64 2, .int .i64 0, .int .i64 6, .int .i64 2, .int .i64 0, .int .i64 6, .int .i64 2, .int .i64 0, .int .i64 6, .int .i64 2, .int .i64 0, .int .i64 6, .int .i64 0, .int .i64 3, .int .i64 5, .int .i64 0, .int .i64 0, .int .i64 5, .int .i64 0, .int .i64 4, .int .i64 6, .int .i64 0, .int .i64 4, .int .i64 6, .int .i64 0, .int .i64 4, .int .i64 6, .int .i64 0, .int .i64 0, .int .i64 4, .int .i64 5, .int .i64 0, .int .i64 0, .int .i64 5, .int .i64 0, .int .i64 0, .int .i64 0, .int .i64 0, .int .i64 3, .int .i64 0, .int .i64 0, .int .i64 7, .int .i64 3, .int .i64 0, .int .i64 0, .int .i64 4, .int .i64 0, .int .i64 0, .int .i64 5, .int .i64 0, .int .i64 0, .int .i64 7, .int .i64 0, .int .i64 0, .int .i64 9, .int .i64 0, .int .i64 0, .int .i64 2, .int .i64 0, .int .i64 0, .int .i64 3, .int .i64 0, .int .i64 0, .int .i64 0, .int .i64 16, .int .i64 0, .int .i64 2, .int .i64 0, .int .i64 0, .int .i64 0, .int .i64 3, .int .i64 0, .int .i64 0, .int .i64 3, .int .i64 0, .int .i64 2, .int .i64 0, .int .i64 0, .int .i64 8, .int .i64 0, .int .i64 0, .int .i64 6, .int .i64 0, .int .i64 0, .int .i64 5, .int .i64 0, .int .i64 0, .int .i64 6, .int .i64 0, .int .i64 0, .int .i64 11, .int .i64 0, .int .i64 0, .int .i64 19, .int .i64 0, .int .i64 0]
def zero156 : Array Value := #[.int .i64 0, .int .i64 0, .int .i64 0, .int .i64 0, .int .i64 0, .int .i64 0, .int .i64 0, .int .i64 0, .int .i64 0, .int .i64 0, .int .i64 0, .int .i64 0, .int .i64 0, .int .i64 0, .int .i64 0, .int .i64 0, .int .i64 0, .int .i64 0, .int .i64 0, .int .i64 0, .int .i64 0, .int .i64 0, .int .i64 0, .int .i64 0, .int .i64 0, .int .i64 0, .int .i64 0, .int .i64 0, .int .i64 0, .int .i64 0, .int .i64 0, .int .i64 0, .int .i64 0, .int .i64 0, .int .i64 0, .int .i64 0, .int .i64 0, .int .i64 0, .int .i64 0, .int .i64 0, .int .i64 0, .int .i64 0, .int .i64 0, .int .i64 0, .int .i64 0, .int .i64 0, .int .i64 0, .int .i64 0, .int .i64 0, .int .i64 0, .int .i64 0, .int .i64 0, .int .i64 0, .int .i64 0, .int .i64 0, .int .i64 0, .int .i64 0, .int .i64 0, .int .i64 0, .int .i64 0, .int .i64 0, .int .i64 0, .int .i64 0, .int .i64 0, .int .i64 0, .int .i64 0, .int .i64 0, .int .i64 0, .int .i64 0, .int .i64 0, .int .i64 0, .int .i64 0, .int .i64 0, .int .i64 0, .int .i64 0, .int .i64 0, .int .i64 0, .int .i64 0, .int .i64 0, .int .i64 0, .int .i64 0, .int .i64 0, .int .i64 0, .int .i64 0, .int .i64 0, .int .i64 0, .int .i64 0, .int .i64 0, .int .i64 0, .int .i64 0, .int .i64 0, .int .i64 0, .int .i64 0, .int .i64 0, .int .i64 0, .int .i64 0, .int .i64 0, .int .i64 0, .int .i64 0, .int .i64 0, .int .i64 0, .int .i64 0, .int .i64 0, .int .i64 0, .int .i64 0, .int .i64 0, .int .i64 0, .int .i64 0, .int .i64 0, .int .i64 0, .int .i64 0, .int .i64 0, .int .i64 0, .int .i64 0, .int .i64 0, .int .i64 0, .int .i64 0, .int .i64 0, .int .i64 0, .int .i64 0, .int .i64 0, .int .i64 0, .int .i64 0, .int .i64 0, .int .i64 0, .int .i64 0, .int .i64 0, .int .i64 0, .int .i64 0, .int .i64 0, .int .i64 0, .int .i64 0, .int .i64 0, .int .i64 0, .int .i64 0, .int .i64 0, .int .i64 0, .int .i64 0, .int .i64 0, .int .i64 0, .int .i64 0, .int .i64 0, .int .i64 0, .int .i64 0, .int .i64 0, .int .i64 0, .int .i64 0, .int .i64 0, .int .i64 0, .int .i64 0, .int .i64 0, .int .i64 0, .int .i64 0, .int .i64 0, .int .i64 0, .int .i64 0]
theorem tab19_eq : tab19 = ((List.range 156).map fun i => Value.int .i64 (tb19 i : Int)).toArray := by kernel_rfl
theorem tab19_get (i : Nat) (h : i < 156) : tab19[i]? = some (.int .i64 (tb19 i : Int)) := by
  rw [tab19_eq, List.getElem?_toArray, List.getElem?_map, List.getElem?_range h]; rfl
theorem tab19_at (o : Nat) (ho : o < 52) : tab19[o * 3]? = some (.int .i64 (tb19 (o * 3) : Int)) ∧ tab19[o * 3 + 1]? = some (.int .i64 (tb19 (o * 3 + 1) : Int)) ∧ tab19[o * 3 + 2]? = some (.int .i64 (tb19 (o * 3 + 2) : Int)) :=
  ⟨tab19_get _ (by omega), tab19_get _ (by omega), tab19_get _ (by omega)⟩
theorem cell2 {w : World} {g : Nat} {t : TypeId} {a b c : Value} (h : Blk w g t #[a, b, c]) : w.cell? ⟨g, 2, none⟩ = some c := by rw [h.cell]; rfl
set_option maxRecDepth 100000 in
set_option maxHeartbeats 4000000 in
theorem refLeast_any (p c v l r : Int) (o m b : Nat) (ho : o < 52) (hm : m ≤ 9) (hb : b < 256) (w : World) :
    Calls Tryd.prog 21 #[.agg (iC p c (o : Int) (m : Int) r (b : Int) v l)] w fun e w' => e = .returned (.int .i64 (refLeastN p o m b)) ∧ Below w.heap.size w w' := by
  have HF : Hid (refFirstN o m b = if m = 1 ∨ m = 2 then tb19 (o * 3 + 1) else if m = 3 then tb19 (o * 3 + 2) else if m = 4 then tb19 (o * 3 + 2) + poExtra (poK b) (poI b) else if m = 5 then tb19 (o * 3 + 2) + 1 else if m = 9 then tb19 (o * 3) + pop8 b + pop8 (b / 16) else tb19 (o * 3)) := Lib.hid rfl
  obtain ⟨P, hP⟩ : ∃ P, decide (1 < p) = P := ⟨_, rfl⟩
  have HR : Hid (refLeastN p o m b = (refFirstN o m b : Int) + (if P then 1 else 0)) := Lib.hid (by
    unfold refLeastN
    cases P
    · rw [if_neg (of_decide_eq_false hP)]; simp
    · rw [if_pos (of_decide_eq_true hP)]; simp)
  obtain ⟨V, hV⟩ : ∃ V, refLeastN p o m b = V := ⟨_, rfl⟩
  obtain ⟨F, hF⟩ : ∃ F, refFirstN o m b = F := ⟨_, rfl⟩
  rw [hV, hF] at HR
  rw [hF] at HF
  rw [hV]
  clear hV hF
  go_enter Tryd.func21, Tryd.ntmps21
  go_upto_region 1 with (fail)
  refine wp_region_lit ?_
  refine Great.wpList_readTo rfl (some 8) rfl (.agg #[.int .i64 2, .int .i64 0, .int .i64 0]) (by kernel_rfl) ?_
  refine Great.wpList_readTo rfl (some 9) rfl (.agg #[.int .i64 3, .int .i64 0, .int .i64 0]) (by kernel_rfl) ?_
  refine Great.wpList_readTo rfl (some 10) rfl (.agg #[.int .i64 0, .int .i64 2, .int .i64 4]) (by kernel_rfl) ?_
  refine Great.wpList_readTo rfl (some 11) rfl (.agg #[.int .i64 0, .int .i64 2, .int .i64 4]) (by kernel_rfl) ?_
  refine Great.wpList_readTo rfl (some 12) rfl (.agg #[.int .i64 0, .int .i64 2, .int .i64 4]) (by kernel_rfl) ?_
  refine Great.wpList_readTo rfl (some 13) rfl (.agg #[.int .i64 0, .int .i64 2, .int .i64 4]) (by kernel_rfl) ?_
  refine Great.wpList_readTo rfl (some 14) rfl (.agg #[.int .i64 0, .int .i64 2, .int .i64 4]) (by kernel_rfl) ?_
  refine Great.wpList_readTo rfl (some 15) rfl (.agg #[.int .i64 0, .int .i64 2, .int .i64 4]) (by kernel_rfl) ?_
  refine Great.wpList_readTo rfl (some 16) rfl (.agg #[.int .i64 0, .int .i64 2, .int .i64 4]) (by kernel_rfl) ?_
  refine Great.wpList_readTo rfl (some 17) rfl (.agg #[.int .i64 0, .int .i64 2, .int .i64 4]) (by kernel_rfl) ?_
  refine Great.wpList_readTo rfl (some 18) rfl (.agg #[.int .i64 0, .int .i64 2, .int .i64 4]) (by kernel_rfl) ?_
  refine Great.wpList_readTo rfl (some 19) rfl (.agg #[.int .i64 0, .int .i64 2, .int .i64 4]) (by kernel_rfl) ?_
  refine Great.wpList_readTo rfl (some 20) rfl (.agg #[.int .i64 0, .int .i64 0, .int .i64 4]) (by kernel_rfl) ?_
  refine Great.wpList_readTo rfl (some 21) rfl (.agg #[.int .i64 2, .int .i64 0, .int .i64 6]) (by kernel_rfl) ?_
  refine Great.wpList_readTo rfl (some 22) rfl (.agg #[.int .i64 2, .int .i64 0, .int .i64 6]) (by kernel_rfl) ?_
  refine Great.wpList_readTo rfl (some 23) rfl (.agg #[.int .i64 2, .int .i64 0, .int .i64 6]) (by kernel_rfl) ?_
  refine Great.wpList_readTo rfl (some 24) rfl (.agg #[.int .i64 2, .int .i64 0, .int .i64 6]) (by kernel_rfl) ?_
  refine Great.wpList_readTo rfl (some 25) rfl (.agg #[.int .i64 2, .int .i64 0, .int .i64 6]) (by kernel_rfl) ?_
  refine Great.wpList_readTo rfl (some 26) rfl (.agg #[.int .i64 2, .int .i64 0, .int .i64 6]) (by kernel_rfl) ?_
  refine Great.wpList_readTo rfl (some 27) rfl (.agg #[.int .i64 2, .int .i64 0, .int .i64 6]) (by kernel_rfl) ?_
  refine Great.wpList_readTo rfl (some 28) rfl (.agg #[.int .i64 2, .int .i64 0, .int .i64 6]) (by kernel_rfl) ?_
  refine Great.wpList_readTo rfl (some 29) rfl (.agg #[.int .i64 2, .int .i64 0, .int .i64 6]) (by kernel_rfl) ?_
  refine Great.wpList_readTo rfl (some 30) rfl (.agg #[.int .i64 2, .int .i64 0, .int .i64 6]) (by kernel_rfl) ?_
  refine Great.wpList_readTo rfl (some 31) rfl (.agg #[.int .i64 2, .int .i64 0, .int .i64 6]) (by kernel_rfl) ?_
  refine Great.wpList_readTo rfl (some 32) rfl (.agg #[.int .i64 0, .int .i64 3, .int .i64 5]) (by kernel_rfl) ?_
  refine Great.wpList_readTo rfl (some 33) rfl (.agg #[.int .i64 0, .int .i64 0, .int .i64 5]) (by kernel_rfl) ?_
  refine Great.wpList_readTo rfl (some 34) rfl (.agg #[.int .i64 0, .int .i64 4, .int .i64 6]) (by kernel_rfl) ?_
  refine Great.wpList_readTo rfl (some 35) rfl (.agg #[.int .i64 0, .int .i64 4, .int .i64 6]) (by kernel_rfl) ?_
  refine Great.wpList_readTo rfl (some 36) rfl (.agg #[.int .i64 0, .int .i64 4, .int .i64 6]) (by kernel_rfl) ?_
  refine Great.wpList_readTo rfl (some 37) rfl (.agg #[.int .i64 0, .int .i64 0, .int .i64 4]) (by kernel_rfl) ?_
  refine Great.wpList_readTo rfl (some 38) rfl (.agg #[.int .i64 5, .int .i64 0, .int .i64 0]) (by kernel_rfl) ?_
  refine Great.wpList_readTo rfl (some 39) rfl (.agg #[.int .i64 5, .int .i64 0, .int .i64 0]) (by kernel_rfl) ?_
  refine Great.wpList_readTo rfl (some 40) rfl (.agg #[.int .i64 0, .int .i64 0, .int .i64 3]) (by kernel_rfl) ?_
  refine Great.wpList_readTo rfl (some 41) rfl (.agg #[.int .i64 0, .int .i64 0, .int .i64 7]) (by kernel_rfl) ?_
  refine Great.wpList_readTo rfl (some 42) rfl (.agg #[.int .i64 3, .int .i64 0, .int .i64 0]) (by kernel_rfl) ?_
  refine Great.wpList_readTo rfl (some 43) rfl (.agg #[.int .i64 4, .int .i64 0, .int .i64 0]) (by kernel_rfl) ?_
  refine Great.wpList_readTo rfl (some 44) rfl (.agg #[.int .i64 5, .int .i64 0, .int .i64 0]) (by kernel_rfl) ?_
  refine Great.wpList_readTo rfl (some 45) rfl (.agg #[.int .i64 7, .int .i64 0, .int .i64 0]) (by kernel_rfl) ?_
  refine Great.wpList_readTo rfl (some 46) rfl (.agg #[.int .i64 9, .int .i64 0, .int .i64 0]) (by kernel_rfl) ?_
  refine Great.wpList_readTo rfl (some 47) rfl (.agg #[.int .i64 2, .int .i64 0, .int .i64 0]) (by kernel_rfl) ?_
  refine Great.wpList_readTo rfl (some 48) rfl (.agg #[.int .i64 3, .int .i64 0, .int .i64 0]) (by kernel_rfl) ?_
  refine Great.wpList_readTo rfl (some 49) rfl (.agg #[.int .i64 0, .int .i64 16, .int .i64 0]) (by kernel_rfl) ?_
  refine Great.wpList_readTo rfl (some 50) rfl (.agg #[.int .i64 2, .int .i64 0, .int .i64 0]) (by kernel_rfl) ?_
  refine Great.wpList_readTo rfl (some 51) rfl (.agg #[.int .i64 0, .int .i64 3, .int .i64 0]) (by kernel_rfl) ?_
  refine Great.wpList_readTo rfl (some 52) rfl (.agg #[.int .i64 0, .int .i64 3, .int .i64 0]) (by kernel_rfl) ?_
  refine Great.wpList_readTo rfl (some 53) rfl (.agg #[.int .i64 2, .int .i64 0, .int .i64 0]) (by kernel_rfl) ?_
  refine Great.wpList_readTo rfl (some 54) rfl (.agg #[.int .i64 8, .int .i64 0, .int .i64 0]) (by kernel_rfl) ?_
  refine Great.wpList_readTo rfl (some 55) rfl (.agg #[.int .i64 6, .int .i64 0, .int .i64 0]) (by kernel_rfl) ?_
  refine Great.wpList_readTo rfl (some 56) rfl (.agg #[.int .i64 5, .int .i64 0, .int .i64 0]) (by kernel_rfl) ?_
  refine Great.wpList_readTo rfl (some 57) rfl (.agg #[.int .i64 6, .int .i64 0, .int .i64 0]) (by kernel_rfl) ?_
  refine Great.wpList_readTo rfl (some 58) rfl (.agg #[.int .i64 11, .int .i64 0, .int .i64 0]) (by kernel_rfl) ?_
  refine Great.wpList_readTo rfl (some 59) rfl (.agg #[.int .i64 19, .int .i64 0, .int .i64 0]) (by kernel_rfl) ?_
  refine Great.wpList_readTo rfl (some 60) rfl (.agg tab19) (by kernel_rfl) ?_
  refine Great.wpList_allocTo rfl (some 3) rfl (.pointer (some ⟨(w.alloc (.cells (iC p c (o : Int) (m : Int) r (b : Int) v l) 36)).heap.size, 0, none⟩)) (.cells zero156 78) (by kernel_rfl) ?_
  refine wpList_store_rowTo rfl 78 _ _ rfl rfl (w.alloc (.cells (iC p c (o : Int) (m : Int) r (b : Int) v l) 36)).heap.size tab19 (by kernel_rfl) (by kernel_rfl) 78 zero156 (heap_alloc_last (w.alloc (.cells (iC p c (o : Int) (m : Int) r (b : Int) v l) 36)) (.cells zero156 78)) (by kernel_rfl) (by kernel_rfl) (by kernel_rfl) ?_
  refine wpList_nil ?_
  rw [World.setRow_alloc_new]
  simp only [Act.put, List.setIfInBounds_toArray, List.set_cons_zero, List.set_cons_succ]
  obtain ⟨T, hT⟩ : ∃ T, T = tab19 := ⟨_, rfl⟩
  rw [← hT]
  have HT := Lib.hid hT
  clear hT
  obtain ⟨k0, k1, k2⟩ := tab19_at o ho
  rw [← HT.out] at k0 k1 k2
  have hk0 := tb19_lt (o * 3)
  have hk1 := tb19_lt (o * 3 + 1)
  have hk2 := tb19_lt (o * 3 + 2)
  generalize tb19 (o * 3) = x0 at k0 hk0 HF
  generalize tb19 (o * 3 + 1) = x1 at k1 hk1 HF
  generalize tb19 (o * 3 + 2) = x2 at k2 hk2 HF
  have ho0 : (0 : Int) ≤ (o : Int) := by omega
  have ho1 : (o : Int) < 52 := by omega
  go_upto_region 3 with (fail)
  have HB := Lib.hid (show Below w.heap.size w (((w.alloc (Obj.cells (iC p c (o : Int) (m : Int) r (b : Int) v l) 36)).alloc (Obj.cells T 78)).alloc (Obj.cells #[.int .i64 (x0 : Int), .int .i64 (x1 : Int), .int .i64 (x2 : Int)] 77)) from by repeat (first | exact Below.refl _ _ | apply Below.alloc0))
  have HI := Lib.hid (show Blk (((w.alloc (Obj.cells (iC p c (o : Int) (m : Int) r (b : Int) v l) 36)).alloc (Obj.cells T 78)).alloc (Obj.cells #[.int .i64 (x0 : Int), .int .i64 (x1 : Int), .int .i64 (x2 : Int)] 77)) w.heap.size 36 (iC p c (o : Int) (m : Int) r (b : Int) v l) from Blk.alloc (Blk.alloc (Blk.new _ _ _ _) _) _)
  have HX := Lib.hid (show Blk (((w.alloc (Obj.cells (iC p c (o : Int) (m : Int) r (b : Int) v l) 36)).alloc (Obj.cells T 78)).alloc (Obj.cells #[.int .i64 (x0 : Int), .int .i64 (x1 : Int), .int .i64 (x2 : Int)] 77)) (w.heap.size + 1 + 1) 77 #[.int .i64 (x0 : Int), .int .i64 (x1 : Int), .int .i64 (x2 : Int)] from by
    have := Blk.new ((w.alloc (Obj.cells (iC p c (o : Int) (m : Int) r (b : Int) v l) 36)).alloc (Obj.cells T 78)) 77 #[.int .i64 (x0 : Int), .int .i64 (x1 : Int), .int .i64 (x2 : Int)] (0, 0)
    rw [show ((w.alloc (Obj.cells (iC p c (o : Int) (m : Int) r (b : Int) v l) 36)).alloc (Obj.cells T 78)).heap.size = w.heap.size + 1 + 1 by simp] at this
    exact this)
  generalize ((w.alloc _).alloc _).alloc _ = W at HB HI HX ⊢
  have CO := Lib.hid (fun w => refOf_any b hb w)
  have CE := Lib.hid (fun w => refExtra_any b hb w)
  have hxe := Nat.le_of_ble_eq_true (allB 256 _ poExtra_le b hb)
  have hp1 := pop8_le b
  have hp2 := pop8_le (b / 16)
  obtain ⟨i0, i1, i2, i3, i4, i5, i6, i7⟩ := blk8 HI.out
  obtain ⟨y0, y1, y2⟩ := (show W.cell? ⟨w.heap.size + 1 + 1, 0, none⟩ = some (.int .i64 (x0 : Int)) ∧ W.cell? ⟨w.heap.size + 1 + 1, 1, none⟩ = some (.int .i64 (x1 : Int)) ∧ W.cell? ⟨w.heap.size + 1 + 1, 2, none⟩ = some (.int .i64 (x2 : Int)) from by
    refine ⟨?_, ?_, ?_⟩ <;> (rw [HX.out.cell]; rfl))
  clear k0 k1 k2 HT ho0 ho1
  cases P
  all_goals
    rcases (show m = 0 ∨ m = 6 ∨ m = 7 ∨ m = 8 ∨ m = 1 ∨ m = 2 ∨ m = 3 ∨ m = 5 ∨ m = 4 ∨ m = 9 by omega) with rfl | rfl | rfl | rfl | rfl | rfl | rfl | rfl | rfl | rfl
    iterate 8
      · have hv := HF.out
        simp at hv
        subst hv
        go_wp2
        go_ret
        exact ⟨ret_int (by rw [HR.out]; simp), HB.out⟩
    · have hv := HF.out
      simp at hv
      obtain ⟨E, hE⟩ : ∃ E, poExtra (poK b) (poI b) = E := ⟨_, rfl⟩
      rw [hE] at CE hxe hv
      clear hE
      subst hv
      have HId := Lib.hid (Blk.drew HI.out)
      have HXd := Lib.hid (Blk.drew HX.out)
      have HBd := Lib.hid (Below.drew0 HB.out)
      have t1 : IntKind.i64.wrap ((x2 : Int) + (E : Int)) = (x2 : Int) + (E : Int) := IntWalk.i64_in _ (by omega)
      go_wp2
      go_region_held3 (fun w' => w'.cell? ⟨w.heap.size + 1 + 1, 2, none⟩ = some (.int .i64 (x2 : Int)) ∧ w'.cell? ⟨w.heap.size, 5, none⟩ = some (.int .u8 (b : Int)))
        (first
          | (with_reducible exact ⟨cell2 HXd.out, (six HId.out).2.2⟩)
          | (with_reducible exact ⟨cell2 HX2.out, (six HI2.out).2.2⟩)
          | (with_reducible exact ⟨cell2 HX3.out, (six HI3.out).2.2⟩))
        (first
          | (go_at_call 46; ((with_reducible refine (CO.out _).mono ?_); rintro e w2 ⟨rfl, hb2⟩; have HI2 := Lib.hid (Blk.below HId.out hb2 HId.out.lt); have HX2 := Lib.hid (Blk.below HXd.out hb2 HXd.out.lt); have HB2 := Lib.hid (Below.trans0 HBd.out hb2); clear hb2))
          | (go_at_call 47; ((with_reducible refine (CE.out _).mono ?_); rintro e w3 ⟨rfl, hb2⟩; have HI3 := Lib.hid (Blk.below HI2.out hb2 HI2.out.lt); have HX3 := Lib.hid (Blk.below HX2.out hb2 HX2.out.lt); have HB3 := Lib.hid (Below.trans0 HB2.out hb2); clear hb2)))
      have hI3 := (blk8 HI3.out).1
      clear i0 i1 i2 i3 i4 i5 i6 i7 y0 y1 y2
      go_wp2
      all_goals
        go_ret
        exact ⟨ret_int (by rw [HR.out]; simp), HB3.out⟩
    · have hv := HF.out
      simp at hv
      have HV := Lib.hid hv
      clear hv
      go_wp2
      go_loopw [5, 6] (fun u5 u6 wr => ∃ (n k : Nat), u5 = .int .i64 n ∧ u6 = .int .i64 k ∧ k < 256 ∧ n ≤ 300 ∧ Hid (n + pop8 k = x0 + pop8 b) ∧ wr = W) (fun _ u6 _ => (intOf u6).toNat)
      case atStart => exact ⟨x0, b, rfl, rfl, hb, by omega, Lib.hid rfl, rfl⟩
      case round =>
        obtain ⟨n, k, rfl, rfl, hk, hn, HN, rfl⟩ := hrel
        by_cases h0 : 0 < k
        · have d1 : decide ((0 : Int) < (k : Int)) = true := decide_eq_true (by omega)
          have d2 : decide (0 < k) = true := decide_eq_true h0
          have k0 : (0 : Int) ≤ (k : Int) := by omega
          have t1 : (k : Int).tmod 2 = ((k % 2 : Nat) : Int) := by rw [Int.tmod_eq_emod_of_nonneg k0]; omega
          have t2 : (k : Int).tdiv 2 = ((k / 2 : Nat) : Int) := by rw [Int.tdiv_eq_ediv_of_nonneg k0]; omega
          have t3 : IntKind.i64.wrap ((n : Int) + ((k % 2 : Nat) : Int)) = (n : Int) + ((k % 2 : Nat) : Int) := IntWalk.i64_in _ (by omega)
          go_wp2
          go_roundw
          case rel => exact ⟨n + k % 2, k / 2, by go_num, by go_num, by omega, by have := HN.out; have := pop8_step k hk; have := pop8_le k; omega, Lib.hid (by have := HN.out; have := pop8_step k hk; omega), by first | rfl | trivial⟩
          case measure => simp [intOf]; omega
        · obtain rfl : k = 0 := by omega
          have hn1 : n = x0 + pop8 b := by have := HN.out; rw [pop8_zero] at this; omega
          clear HN h0 hk
          have b0 : (0 : Int) ≤ (b : Int) := by omega
          have t4 : (b : Int).tdiv 16 = ((b / 16 : Nat) : Int) := by rw [Int.tdiv_eq_ediv_of_nonneg b0]; omega
          go_wp2
          go_loopw [5, 7] (fun u5 u7 wx => ∃ (n k : Nat), u5 = .int .i64 n ∧ u7 = .int .i64 k ∧ k < 256 ∧ n ≤ 300 ∧ Hid (n + pop8 k = x0 + pop8 b + pop8 (b / 16)) ∧ wx = wr) (fun _ u7 _ => (intOf u7).toNat)
          case atStart => exact ⟨n, b / 16, rfl, by go_num, by omega, hn, Lib.hid (by rw [hn1]), by first | rfl | trivial⟩
          case round =>
            obtain ⟨n', k, rfl, rfl, hk, hn', HN, rfl⟩ := hrel
            by_cases h0 : 0 < k
            · have d1 : decide ((0 : Int) < (k : Int)) = true := decide_eq_true (by omega)
              have d2 : decide (0 < k) = true := decide_eq_true h0
              have k0 : (0 : Int) ≤ (k : Int) := by omega
              have t1 : (k : Int).tmod 2 = ((k % 2 : Nat) : Int) := by rw [Int.tmod_eq_emod_of_nonneg k0]; omega
              have t2 : (k : Int).tdiv 2 = ((k / 2 : Nat) : Int) := by rw [Int.tdiv_eq_ediv_of_nonneg k0]; omega
              have t3 : IntKind.i64.wrap ((n' : Int) + ((k % 2 : Nat) : Int)) = (n' : Int) + ((k % 2 : Nat) : Int) := IntWalk.i64_in _ (by omega)
              clear t4
              go_wp2
              go_roundw
              case rel => exact ⟨n' + k % 2, k / 2, by go_num, by go_num, by omega, by have := HN.out; have := pop8_step k hk; have := pop8_le k; omega, Lib.hid (by have := HN.out; have := pop8_step k hk; omega), by first | rfl | trivial⟩
              case measure => simp [intOf]; omega
            · obtain rfl : k = 0 := by omega
              have hn2 : n' = x0 + pop8 b + pop8 (b / 16) := by have := HN.out; rw [pop8_zero] at this; omega
              have HN2 := Lib.hid hn2
              clear HN h0 hk t4 hn1 hn2
              go_wp2
              go_ret
              exact ⟨ret_int (by rw [HR.out, HV.out, HN2.out]; simp), HB.out⟩
end Go.Proofs.YtfkcogccbeolfabDoor
