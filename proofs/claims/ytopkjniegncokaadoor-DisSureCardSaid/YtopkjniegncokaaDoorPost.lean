/- Contracts of package post's calls that only look at a byte, and of the document's own (spinetref15). -/
import Derived.Test.YtopkjniegncokaaDoorPostT
import Derived.Test.YtopkjniegncokaaDoorOct
import Derived.Lib.LaidTab
import Derived.LaidMore
import Derived.MakeChecks
import Derived.Deep.QuietTactic
import Derived.BigQuiet
import Derived.Outline
namespace Go.Proofs.YtopkjniegncokaaDoor
open Go.ChangeShapes Go.WideShapes Go.ChangeAt Go.RowKit
set_option linter.unusedVariables false

theorem bcell {W w1 : World} (hb : Below W.heap.size W w1) : (∀ b o, b < W.heap.size → w1.cell? ⟨b, o, none⟩ = W.cell? ⟨b, o, none⟩) ∧ (∀ b o, b < W.heap.size → w1.frozen? ⟨b, o, none⟩ = W.frozen? ⟨b, o, none⟩) :=
  ⟨fun b o h => hb.cell (p := ⟨b, o, none⟩) h, fun b o h => hb.frozen (p := ⟨b, o, none⟩) h⟩
/-- The package-level table stands in its block. -/
def KindsAt (w : World) : Prop := ∀ k, k < 16 → w.cell? ⟨0, k, none⟩ = some (.int .i64 (kinds16 k : Int))
theorem shr_fin : ∀ b : Fin 256, bits .and .u8 ((b.val : Int) / 32) 3 = ((b.val / 32 % 4 : Nat) : Int) := by decide +kernel
theorem and15_fin8 : ∀ b : Fin 256, bits .and .u8 (b.val : Int) 15 = ((b.val % 16 : Nat) : Int) := by decide +kernel
theorem and16_fin8 : ∀ b : Fin 256, decide (0 < bits .and .u8 (b.val : Int) 16) = Nat.beq (b.val / 16 % 2) 1 := by decide +kernel
set_option maxRecDepth 100000 in
theorem of_any (b : Nat) (hb : b < 256) (w : World) (hT : KindsAt w) :
    Calls Tryd.prog 19 #[.int .u8 (b : Int)] w fun e w' => e = .returned (.agg #[.int .i64 (poK b : Int), .int .i64 (poR b : Int), .int .u16 (poO b : Int), .bool (poI b)]) ∧ Below w.heap.size w w' := by
  have e1 := shr_fin ⟨b, hb⟩
  have e2 := and15_fin8 ⟨b, hb⟩
  have e3 := and16_fin8 ⟨b, hb⟩
  simp only at e1 e2 e3
  have hk0 := hT (b % 16) (by omega)
  by_cases h128 : b < 128
  · have HL := Lib.hid (poT_low b h128)
    clear hk0
    go_enter Tryd.func19, Tryd.ntmps19
    go_wp2_with (go_at_call 34; refine (sign5_any _ _ (by omega) (by omega)).mono ?_; rintro e w' ⟨rfl, rfl⟩)
    refine bodyPost_ret (v := .agg #[.int .i64 (poK b : Int), .int .i64 (poR b : Int), .int .u16 (poO b : Int), .bool (poI b)]) ?_ rfl ⟨rfl, by repeat (first | exact Below.refl _ _ | apply Below.alloc0)⟩
    obtain ⟨l1, l2, l3, l4⟩ := HL.out
    rw [l1, l2, l3, l4]
    simp [results, Tryd.results19, go_sem]
    refine ⟨by omega, ?_⟩
    unfold sign5Of
    split <;> split <;> omega
  · have hc := bcell ((Below.alloc0 (Below.refl w.heap.size w) (Obj.cells #[.int .i64 0, .int .i64 0, .int .u16 0, .bool false] 46)))
    have hlt : 0 < w.heap.size := cell_lt hk0
    have hk := (hc.1 0 (b % 16) hlt).trans hk0
    have HH := Lib.hid (poT_high b (by omega) hb)
    clear hc
    rcases (show kinds16 (b % 16) = 11 ∨ kinds16 (b % 16) = 12 ∨ kinds16 (b % 16) = 13 ∨ (¬ kinds16 (b % 16) = 11 ∧ ¬ kinds16 (b % 16) = 12 ∧ ¬ kinds16 (b % 16) = 13) by omega) with c | c | c | ⟨c1, c2, c3⟩
    iterate 3
      · rw [c] at hk
        go_enter Tryd.func19, Tryd.ntmps19
        go_wp2
        refine bodyPost_ret (v := .agg #[.int .i64 (poK b : Int), .int .i64 (poR b : Int), .int .u16 (poO b : Int), .bool (poI b)]) ?_ rfl ⟨rfl, by repeat (first | exact Below.refl _ _ | apply Below.alloc0)⟩
        obtain ⟨l1, l2, l3, l4⟩ := HH.out
        rw [l1, l2, l3, l4, c]
        simp [results, Tryd.results19, go_sem]
        try omega
    · have d1 : ((kinds16 (b % 16) : Int) == 11) = false := by simp; omega
      have d2 : ((kinds16 (b % 16) : Int) == 12) = false := by simp; omega
      have d3 : ((kinds16 (b % 16) : Int) == 13) = false := by simp; omega
      go_enter Tryd.func19, Tryd.ntmps19
      go_wp2
      refine bodyPost_ret (v := .agg #[.int .i64 (poK b : Int), .int .i64 (poR b : Int), .int .u16 (poO b : Int), .bool (poI b)]) ?_ rfl ⟨rfl, by repeat (first | exact Below.refl _ _ | apply Below.alloc0)⟩
      obtain ⟨l1, l2, l3, l4⟩ := HH.out
      rw [l1, l2, l3, l4]
      simp [results, Tryd.results19, go_sem, c1, c2, c3]
      try omega
set_option maxRecDepth 100000 in
theorem bytes_any (k r o : Int) (d : Bool) (w : World) (n : Nat) (hk : k = n) (hn : n < 14) :
    Calls Tryd.prog 64 #[.agg #[.int .i64 k, .int .i64 r, .int .u16 o, .bool d]] w fun e w' => e = .returned (.int .i64 (poBytes n : Int)) ∧ Below w.heap.size w w' := by
  subst hk
  rcases (show n = 0 ∨ n = 1 ∨ n = 2 ∨ n = 3 ∨ n = 4 ∨ n = 5 ∨ n = 6 ∨ n = 7 ∨ n = 8 ∨ n = 9 ∨ n = 10 ∨ n = 11 ∨ n = 12 ∨ n = 13 by omega) with rfl | rfl | rfl | rfl | rfl | rfl | rfl | rfl | rfl | rfl | rfl | rfl | rfl | rfl
  all_goals
    go_enter Tryd.func64, Tryd.ntmps64
    go_wp2
    go_ret
    exact ⟨rfl, Below.alloc0 (Below.refl _ _) _⟩
end Go.Proofs.YtopkjniegncokaaDoor
