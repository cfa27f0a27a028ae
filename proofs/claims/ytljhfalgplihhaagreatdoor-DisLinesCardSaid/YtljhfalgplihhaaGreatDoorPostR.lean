/- Contracts of the document's own postbytes (spinetref15). -/
import Derived.Test.YtljhfalgplihhaaGreatDoorGPag
import Derived.Deep.CutBlock
import Derived.Deep.WholeRow
import Derived.Laws.Tables
import Derived.Great.Walk
import Derived.Great.BuildSlice
namespace Go.Proofs.YtljhfalgplihhaaGreatDoor
open Go.ChangeShapes Go.WideShapes Go.ChangeAt Go.RowKit
set_option linter.unusedVariables false

abbrev refP (b : Nat) : Array Value := #[.int .i64 (poK b : Int), .int .i64 (poR b : Int), .int .i64 (poO b : Int), .bool (poI b), .int .i64 (poBytes (poK b) : Int), .int .i64 (poIdle (poK b) : Int)]
set_option maxRecDepth 100000 in
set_option maxHeartbeats 1000000 in
theorem refOf_low (b : Nat) (hb : b < 128) (w : World) :
    Calls Tryz.prog 32 #[.int .u8 (b : Int)] w fun e w' => e = .returned (.agg (refP b)) ∧ Below w.heap.size w w' := by
  have HL := Lib.hid (poT_low b hb)
  by_cases h : b % 32 < 16
  all_goals
    go_enter Tryz.func32, Tryz.ntmps32
    go_wp2
    refine bodyPost_ret (v := .agg (refP b)) ?_ rfl ⟨rfl, by repeat (first | exact Below.refl _ _ | apply Below.alloc0)⟩
    obtain ⟨l1, l2, l3, l4⟩ := HL.out
    unfold refP
    rw [l1, l2, l3, l4]
    simp [results, Tryz.results32, go_sem, h, poBytes, poIdle, gB]
def zero6 : Array Value := #[.int .i64 0, .int .i64 0, .int .i64 0, .bool false, .int .i64 0, .int .i64 0]
def tab15 : Array Value := #[.int .i64 7, .int .i64 0, .int .i64 3, .int .i64 8, .int .i64 0, .int .i64 4, .int .i64 9, .int .i64 0, .int .i64 3, .int .i64 10, .int .i64 0, .int .i64 4, .int .i64 0, .int .i64 0, .int .i64 1, .int .i64 5, .int .i64 0, .int .i64 2, .int .i64 4, .int .i64 0, .int .i64 2, .int .i64 0, .int .i64 0, .int .i64 1, .int .i64 2, .int .i64 1, .int .i64 1, .int .i64 3, .int .i64 2, .int .i64 3, .int .i64 0, .int .i64 0, .int .i64 1, .int .i64 6, .int .i64 0, .int .i64 5, .int .i64 11, .int .i64 1, .int .i64 1, .int .i64 12, .int .i64 2, .int .i64 4, .int .i64 0, .int .i64 0, .int .i64 1, .int .i64 13, .int .i64 2, .int .i64 1]
def zero48 : Array Value := #[.int .i64 0, .int .i64 0, .int .i64 0, .int .i64 0, .int .i64 0, .int .i64 0, .int .i64 0, .int .i64 0, .int .i64 0, .int .i64 0, .int .i64 0, .int .i64 0, .int .i64 0, .int .i64 0, .int .i64 0, .int .i64 0, .int .i64 0, .int .i64 0, .int .i64 0, .int .i64 0, .int .i64 0, .int .i64 0, .int .i64 0, .int .i64 0, .int .i64 0, .int .i64 0, .int .i64 0, .int .i64 0, .int .i64 0, .int .i64 0, .int .i64 0, .int .i64 0, .int .i64 0, .int .i64 0, .int .i64 0, .int .i64 0, .int .i64 0, .int .i64 0, .int .i64 0, .int .i64 0, .int .i64 0, .int .i64 0, .int .i64 0, .int .i64 0, .int .i64 0, .int .i64 0, .int .i64 0, .int .i64 0]
theorem tab15_at (k : Nat) (hk : k < 16) : tab15[k * 3]? = some (.int .i64 (kinds16 k : Int)) ∧ tab15[k * 3 + 1]? = some (.int .i64 (poBytes (kinds16 k) : Int)) ∧ tab15[k * 3 + 2]? = some (.int .i64 (poIdle (kinds16 k) : Int)) := by
  rcases (show k = 0 ∨ k = 1 ∨ k = 2 ∨ k = 3 ∨ k = 4 ∨ k = 5 ∨ k = 6 ∨ k = 7 ∨ k = 8 ∨ k = 9 ∨ k = 10 ∨ k = 11 ∨ k = 12 ∨ k = 13 ∨ k = 14 ∨ k = 15 by omega) with rfl | rfl | rfl | rfl | rfl | rfl | rfl | rfl | rfl | rfl | rfl | rfl | rfl | rfl | rfl | rfl
  all_goals exact ⟨rfl, rfl, rfl⟩
theorem kinds16_fin : ∀ k : Fin 16, (kinds16 k.val = 11 ↔ k.val = 12) ∧ (kinds16 k.val = 12 ↔ k.val = 13) ∧ (kinds16 k.val = 13 ↔ k.val = 15) ∧ kinds16 k.val < 14 := by decide +kernel
set_option maxRecDepth 100000 in
set_option maxHeartbeats 1000000 in
theorem refOf_high (b : Nat) (h1 : 128 ≤ b) (hb : b < 256) (w : World) :
    Calls Tryz.prog 32 #[.int .u8 (b : Int)] w fun e w' => e = .returned (.agg (refP b)) ∧ Below w.heap.size w w' := by
  have HL := Lib.hid (poT_high b h1 hb)
  go_enter Tryz.func32, Tryz.ntmps32
  go_upto_region 8 with (fail)
  refine wp_region_lit ?_
  refine Great.wpList_readTo rfl (some 25) rfl (.agg #[.int .i64 7, .int .i64 0, .int .i64 3]) (by kernel_rfl) ?_
  refine Great.wpList_readTo rfl (some 26) rfl (.agg #[.int .i64 8, .int .i64 0, .int .i64 4]) (by kernel_rfl) ?_
  refine Great.wpList_readTo rfl (some 27) rfl (.agg #[.int .i64 9, .int .i64 0, .int .i64 3]) (by kernel_rfl) ?_
  refine Great.wpList_readTo rfl (some 28) rfl (.agg #[.int .i64 10, .int .i64 0, .int .i64 4]) (by kernel_rfl) ?_
  refine Great.wpList_readTo rfl (some 29) rfl (.agg #[.int .i64 0, .int .i64 0, .int .i64 1]) (by kernel_rfl) ?_
  refine Great.wpList_readTo rfl (some 30) rfl (.agg #[.int .i64 5, .int .i64 0, .int .i64 2]) (by kernel_rfl) ?_
  refine Great.wpList_readTo rfl (some 31) rfl (.agg #[.int .i64 4, .int .i64 0, .int .i64 2]) (by kernel_rfl) ?_
  refine Great.wpList_readTo rfl (some 32) rfl (.agg #[.int .i64 0, .int .i64 0, .int .i64 1]) (by kernel_rfl) ?_
  refine Great.wpList_readTo rfl (some 33) rfl (.agg #[.int .i64 2, .int .i64 1, .int .i64 1]) (by kernel_rfl) ?_
  refine Great.wpList_readTo rfl (some 34) rfl (.agg #[.int .i64 3, .int .i64 2, .int .i64 3]) (by kernel_rfl) ?_
  refine Great.wpList_readTo rfl (some 35) rfl (.agg #[.int .i64 0, .int .i64 0, .int .i64 1]) (by kernel_rfl) ?_
  refine Great.wpList_readTo rfl (some 36) rfl (.agg #[.int .i64 6, .int .i64 0, .int .i64 5]) (by kernel_rfl) ?_
  refine Great.wpList_readTo rfl (some 37) rfl (.agg #[.int .i64 11, .int .i64 1, .int .i64 1]) (by kernel_rfl) ?_
  refine Great.wpList_readTo rfl (some 38) rfl (.agg #[.int .i64 12, .int .i64 2, .int .i64 4]) (by kernel_rfl) ?_
  refine Great.wpList_readTo rfl (some 39) rfl (.agg #[.int .i64 0, .int .i64 0, .int .i64 1]) (by kernel_rfl) ?_
  refine Great.wpList_readTo rfl (some 40) rfl (.agg #[.int .i64 13, .int .i64 2, .int .i64 1]) (by kernel_rfl) ?_
  refine Great.wpList_readTo rfl (some 41) rfl (.agg tab15) (by kernel_rfl) ?_
  refine Great.wpList_allocTo rfl (some 6) rfl (.pointer (some ⟨(w.alloc (.cells zero6 79)).heap.size, 0, none⟩)) (.cells zero48 120) (by kernel_rfl) ?_
  refine wpList_store_rowTo rfl 120 _ _ rfl rfl (w.alloc (.cells zero6 79)).heap.size tab15 (by kernel_rfl) (by kernel_rfl) 120 zero48 (heap_alloc_last (w.alloc (.cells zero6 79)) (.cells zero48 120)) (by kernel_rfl) (by kernel_rfl) (by kernel_rfl) ?_
  refine wpList_nil ?_
  rw [show zero6 = #[.int .i64 0, .int .i64 0, .int .i64 0, .bool false, .int .i64 0, .int .i64 0] from rfl]
  rw [World.setRow_alloc_new]
  simp only [Act.put, List.setIfInBounds_toArray, List.set_cons_zero, List.set_cons_succ]
  obtain ⟨T, hT⟩ : ∃ T, T = tab15 := ⟨_, rfl⟩
  rw [← hT]
  have HT := Lib.hid hT
  clear hT
  obtain ⟨k0, k1, k2⟩ := tab15_at (b % 16) (by omega)
  rw [← HT.out] at k0 k1 k2
  obtain ⟨j1, j2, j3, j4⟩ := kinds16_fin ⟨b % 16, by omega⟩
  simp only at j1 j2 j3 j4
  have HJ := Lib.hid (And.intro j1 (And.intro j2 j3))
  clear j1 j2 j3 j4
  rcases (show b % 16 = 12 ∨ b % 16 = 13 ∨ b % 16 = 15 ∨ (¬ b % 16 = 12 ∧ ¬ b % 16 = 13 ∧ ¬ b % 16 = 15) by omega) with c | c | c | ⟨c1, c2, c3⟩
  iterate 3
    · rw [c] at k0 k1 k2
      have d1 : ((b : Int) % 16 == 12) = decide (b % 16 = 12) := by rw [Bool.eq_iff_iff]; simp; omega
      have d2 : ((b : Int) % 16 == 13) = decide (b % 16 = 13) := by rw [Bool.eq_iff_iff]; simp; omega
      have d3 : ((b : Int) % 16 == 15) = decide (b % 16 = 15) := by rw [Bool.eq_iff_iff]; simp; omega
      rw [c] at d1 d2 d3
      simp only [Nat.reduceEqDiff, decide_false, decide_true] at d1 d2 d3
      go_wp2
      all_goals
        have q : Hid (Nat.beq (b / 16 % 2) 1 = decide ((b : Int) / 16 % 2 = 1)) := Lib.hid (by rw [Bool.eq_iff_iff, Nat.beq_eq, decide_eq_true_eq]; omega)
        refine bodyPost_ret (v := .agg (refP b)) ?_ rfl ⟨rfl, by repeat (first | exact Below.refl _ _ | apply Below.alloc0)⟩
        obtain ⟨l1, l2, l3, l4⟩ := HL.out
        rw [c] at l1 l3 l4
        have q' := q.out
        unfold refP
        rw [l1, l2, l3, l4, q']
        have u1 : Nat.beq 11 13 = false := rfl
        have u2 : Nat.beq 12 13 = false := rfl
        have u3 : Nat.beq 13 13 = true := rfl
        simp_all [results, Tryz.results32, go_sem, kinds16, poBytes, poIdle, gB]
  · have d1 : ((b : Int) % 16 == 12) = false := by simp; omega
    have d2 : ((b : Int) % 16 == 13) = false := by simp; omega
    have d3 : ((b : Int) % 16 == 15) = false := by simp; omega
    go_wp2
    all_goals
      have q : Hid (Nat.beq (b / 16 % 2) 1 = decide ((b : Int) / 16 % 2 = 1)) := Lib.hid (by rw [Bool.eq_iff_iff, Nat.beq_eq, decide_eq_true_eq]; omega)
      refine bodyPost_ret (v := .agg (refP b)) ?_ rfl ⟨rfl, by repeat (first | exact Below.refl _ _ | apply Below.alloc0)⟩
      obtain ⟨l1, l2, l3, l4⟩ := HL.out
      obtain ⟨m1, m2, m3⟩ := HJ.out
      have q' := q.out
      have n1 : ¬ kinds16 (b % 16) = 11 := fun h => c1 (m1.1 h)
      have n2 : ¬ kinds16 (b % 16) = 12 := fun h => c2 (m2.1 h)
      have n3 : ¬ kinds16 (b % 16) = 13 := fun h => c3 (m3.1 h)
      have n4 : Nat.beq (kinds16 (b % 16)) 13 = false := by cases hh : Nat.beq (kinds16 (b % 16)) 13 <;> simp_all [Nat.beq_eq]
      unfold refP
      rw [l1, l2, l3, l4, q', n4]
      simp [results, Tryz.results32, go_sem, n1, n2, n3]
      try first | omega | rfl | (rw [Bool.eq_iff_iff, beq_iff_eq, decide_eq_true_eq])
theorem refOf_any (b : Nat) (hb : b < 256) (w : World) :
    Calls Tryz.prog 32 #[.int .u8 (b : Int)] w fun e w' => e = .returned (.agg (refP b)) ∧ Below w.heap.size w w' := by
  by_cases h : b < 128
  · exact refOf_low b h w
  · exact refOf_high b (by omega) hb w
end Go.Proofs.YtljhfalgplihhaaGreatDoor
