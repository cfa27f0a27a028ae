/- Contracts of package page: the words' opcodes, what changes a byte, what would be immediate. -/
import Derived.Test.YtopkjniegncokaaDoorPagN
import Derived.Test.YtopkjniegncokaaDoorPost
namespace Go.Proofs.YtopkjniegncokaaDoor
open Go.ChangeShapes Go.WideShapes Go.ChangeAt Go.RowKit
set_option linter.unusedVariables false

/-- What is listed, as the program's struct. -/
abbrev entA (n : Nat) : Array Value := #[.int .i64 (eOp n : Int), .int .i64 (eMode n : Int), .int .i64 (eReg n : Int)]
def EiAt (w : World) : Prop := ∀ k, k < 16 → w.cell? ⟨8, k, none⟩ = some (.int .i64 (eiN k : Int))
def ChAt (w : World) : Prop := ∀ k, k < 16 → w.cell? ⟨9, k, none⟩ = some (.int .i64 (chN k : Int))
def TenAt (w : World) : Prop := ∀ k, k < 16 → w.cell? ⟨5, k * 3, none⟩ = some (.int .i64 (eOp (tenN k) : Int)) ∧ w.cell? ⟨5, k * 3 + 1, none⟩ = some (.int .i64 (eMode (tenN k) : Int)) ∧ w.cell? ⟨5, k * 3 + 2, none⟩ = some (.int .i64 (eReg (tenN k) : Int))
def ThiAt (w : World) : Prop := ∀ k, k < 16 → w.cell? ⟨6, k * 3, none⟩ = some (.int .i64 (eOp (thiN k) : Int)) ∧ w.cell? ⟨6, k * 3 + 1, none⟩ = some (.int .i64 (eMode (thiN k) : Int)) ∧ w.cell? ⟨6, k * 3 + 2, none⟩ = some (.int .i64 (eReg (thiN k) : Int))
/-- All four tables of the package stand in their blocks. -/
def PagAt (w : World) : Prop := EiAt w ∧ ChAt w ∧ TenAt w ∧ ThiAt w
theorem PagAt.below {w w' : World} (h : PagAt w) (hb : Below w.heap.size w w') : PagAt w' := by
  obtain ⟨h1, h2, h3, h4⟩ := h
  refine ⟨fun k hk => (hb.cell (p := ⟨8, k, none⟩) (cell_lt (h1 k hk))).trans (h1 k hk), fun k hk => (hb.cell (p := ⟨9, k, none⟩) (cell_lt (h2 k hk))).trans (h2 k hk), fun k hk => ?_, fun k hk => ?_⟩
  · obtain ⟨a, b, c⟩ := h3 k hk
    exact ⟨(hb.cell (p := ⟨5, k * 3, none⟩) (cell_lt a)).trans a, (hb.cell (p := ⟨5, k * 3 + 1, none⟩) (cell_lt b)).trans b, (hb.cell (p := ⟨5, k * 3 + 2, none⟩) (cell_lt c)).trans c⟩
  · obtain ⟨a, b, c⟩ := h4 k hk
    exact ⟨(hb.cell (p := ⟨6, k * 3, none⟩) (cell_lt a)).trans a, (hb.cell (p := ⟨6, k * 3 + 1, none⟩) (cell_lt b)).trans b, (hb.cell (p := ⟨6, k * 3 + 2, none⟩) (cell_lt c)).trans c⟩
theorem or8_fin : ∀ (p : Fin 4) (c : Fin 256), bits .or .i64 ((p.val : Int) * 256) (c.val : Int) = ((256 * p.val + c.val : Nat) : Int) := by decide +kernel
theorem chN_lt (l : Nat) : chN l < 64 := gB_lt _ _ _
theorem ent_mk (o m r : Nat) (hm : m < 16) (hr : r < 16) : eOp (o * 256 + m * 16 + r) = o ∧ eMode (o * 256 + m * 16 + r) = m ∧ eReg (o * 256 + m * 16 + r) = r := by unfold eOp eMode eReg; omega
set_option maxRecDepth 100000 in
set_option maxHeartbeats 1000000 in
theorem change_any (c m r : Nat) (hc : c < 256) (hm : m < 16) (hr : r < 16) (w : World) (hT : PagAt w) :
    Calls Tryd.prog 83 #[.int .u8 (c : Int), .int .i64 (m : Int), .int .i64 (r : Int)] w fun e w' => e = .returned (.agg (entA (chE (c % 16) m r))) ∧ Below w.heap.size w w' := by
  have e2 := and15_fin8 ⟨c, hc⟩
  simp only at e2
  have hk0 := hT.2.1 (c % 16) (by omega)
  have hcc := (bcell (Below.alloc0 (Below.refl w.heap.size w) (Obj.cells #[.int .i64 0, .int .i64 0, .int .i64 0] 25))).1 9 (c % 16) (cell_lt hk0)
  have hk := hcc.trans hk0
  obtain ⟨x, hx⟩ : ∃ x, chN (c % 16) = x := ⟨_, rfl⟩
  have HE : Hid (chE (c % 16) m r = if x = 0 ∨ (x = 32 ∧ m = 0) then 0 else x * 256 + m * 16 + r) := Lib.hid (by unfold chE; rw [hx])
  rw [hx] at hk
  clear hk0 hcc hx
  rcases (show x = 0 ∨ (x = 32 ∧ m = 0) ∨ (¬ x = 0 ∧ ¬ (x = 32 ∧ m = 0)) by omega) with h | ⟨h, h'⟩ | ⟨h, h'⟩
  · subst h
    go_enter Tryd.func83, Tryd.ntmps83
    go_wp2
    refine bodyPost_ret (v := .agg (entA (chE (c % 16) m r))) ?_ rfl ⟨rfl, by repeat (first | exact Below.refl _ _ | apply Below.alloc0)⟩
    rw [HE.out]
    simp [results, Tryd.results83, go_sem, eOp, eMode, eReg]
  · subst h h'
    go_enter Tryd.func83, Tryd.ntmps83
    go_wp2
    refine bodyPost_ret (v := .agg (entA (chE (c % 16) 0 r))) ?_ rfl ⟨rfl, by repeat (first | exact Below.refl _ _ | apply Below.alloc0)⟩
    rw [HE.out]
    simp [results, Tryd.results83, go_sem, eOp, eMode, eReg]
  · have d1 : ((x : Int) == 0) = false := by simp; omega
    obtain ⟨b, hb⟩ : ∃ b, ((x : Int) == 32) = b := ⟨_, rfl⟩
    have hm0 : b = true → ((m : Int) == 0) = false := by rintro rfl; simp at hb ⊢; omega
    cases b
    all_goals
      try have hm1 := hm0 rfl
      clear hm0
      go_enter Tryd.func83, Tryd.ntmps83
      go_wp2
      refine bodyPost_ret (v := .agg (entA (chE (c % 16) m r))) ?_ rfl ⟨rfl, by repeat (first | exact Below.refl _ _ | apply Below.alloc0)⟩
      obtain ⟨q1, q2, q3⟩ := ent_mk x m r hm hr
      rw [HE.out, if_neg (by omega)]
      unfold entA
      rw [q1, q2, q3]
      simp [results, Tryd.results83, go_sem]
end Go.Proofs.YtopkjniegncokaaDoor
