/- Contracts of the document's own registers' words (spinetref16). -/
import Derived.Test.YtfjkbjkbpbnalabDoorFil
namespace Go.Proofs.YtfjkbjkbpbnalabDoor
open Go.ChangeShapes Go.WideShapes Go.ChangeAt Go.RowKit
set_option linter.unusedVariables false

/-- Two new blocks, and nothing else. -/
def Two (w w' : World) : Prop := ∃ o1 o2, w' = (w.alloc o1).alloc o2
theorem Two.below {w w' : World} (h : Two w w') : Below w.heap.size w w' := by
  obtain ⟨o1, o2, rfl⟩ := h
  exact Below.alloc0 (Below.alloc0 (Below.refl _ _) _) _
set_option maxRecDepth 100000 in
set_option maxHeartbeats 4000000 in
theorem refGet_any (r : Rg) (hr : r.Ok) (c : Int) (w : World) :
    Calls Tryd.prog 39 #[.agg r.cells, .int .i64 c] w fun e w' => e = .returned (.int .u16 (getR r c)) ∧ Two w w' := by
  obtain ⟨a0, a1, b0, b1, d0, d1, c0, c1, x0, x1, y0, y1, u0, u1, s0, s1, p0, p1⟩ := hr
  by_cases hc : 0 ≤ c ∧ c ≤ 11
  · obtain ⟨k, rfl⟩ := Int.eq_ofNat_of_zero_le hc.1
    have hk : k < 12 := by omega
    clear hc
    go_enter Tryd.func39, Tryd.ntmps39
    go_wp2
    go_ret
    refine ⟨?_, _, _, rfl⟩
    rcases (show k = 0 ∨ k = 1 ∨ k = 2 ∨ k = 3 ∨ k = 4 ∨ k = 5 ∨ k = 6 ∨ k = 7 ∨ k = 8 ∨ k = 9 ∨ k = 10 ∨ k = 11 by omega) with rfl | rfl | rfl | rfl | rfl | rfl | rfl | rfl | rfl | rfl | rfl | rfl
    all_goals
      refine ret_int ?_
      first
        | rfl
        | (unfold getR; simp; omega)
  · have hc2 : c < 0 ∨ 11 < c := by omega
    clear hc
    rcases hc2 with hc | hc
    all_goals
      go_enter Tryd.func39, Tryd.ntmps39
      go_wp2
      go_ret
      refine ⟨ret_int ?_, _, _, rfl⟩
      unfold getR
      repeat (rw [if_neg (by omega)])
set_option maxRecDepth 100000 in
set_option maxHeartbeats 4000000 in
theorem refSet_any (r : Rg) (hr : r.Ok) (c v : Int) (h0 : 0 ≤ v) (h1 : v < 65536) (w : World) :
    Calls Tryd.prog 44 #[.agg r.cells, .int .i64 c, .int .u16 v] w fun e w' => e = .returned (.agg (setR r c v).cells) ∧ Two w w' := by
  have hw1 : IntKind.u16.wrap (v.tdiv 256) % 256 = v / 256 := by rw [IntKind.wrap_u16, Int.tdiv_eq_ediv_of_nonneg h0]; omega
  have HW := Lib.hid hw1
  clear hw1
  rcases code_cases c with rfl | rfl | rfl | rfl | rfl | rfl | rfl | rfl | rfl | rfl | rfl | rfl | hc | hc
  · go_enter Tryd.func44, Tryd.ntmps44
    go_wp2
    refine bodyPost_ret (v := .agg (setR r 0 v).cells) (by have hw1 := HW.out; simp [results, Tryd.results44, go_sem, setR, hw1]) rfl ⟨rfl, _, _, rfl⟩
  · go_enter Tryd.func44, Tryd.ntmps44
    go_wp2
    refine bodyPost_ret (v := .agg (setR r 1 v).cells) (by simp [results, Tryd.results44, go_sem, setR]) rfl ⟨rfl, _, _, rfl⟩
  · go_enter Tryd.func44, Tryd.ntmps44
    go_wp2
    refine bodyPost_ret (v := .agg (setR r 2 v).cells) (by simp [results, Tryd.results44, go_sem, setR]) rfl ⟨rfl, _, _, rfl⟩
  · go_enter Tryd.func44, Tryd.ntmps44
    go_wp2
    refine bodyPost_ret (v := .agg (setR r 3 v).cells) (by simp [results, Tryd.results44, go_sem, setR]) rfl ⟨rfl, _, _, rfl⟩
  · go_enter Tryd.func44, Tryd.ntmps44
    go_wp2
    refine bodyPost_ret (v := .agg (setR r 4 v).cells) (by simp [results, Tryd.results44, go_sem, setR]) rfl ⟨rfl, _, _, rfl⟩
  · go_enter Tryd.func44, Tryd.ntmps44
    go_wp2
    refine bodyPost_ret (v := .agg (setR r 5 v).cells) (by simp [results, Tryd.results44, go_sem, setR]) rfl ⟨rfl, _, _, rfl⟩
  · go_enter Tryd.func44, Tryd.ntmps44
    go_wp2
    refine bodyPost_ret (v := .agg (setR r 8 v).cells) (by simp [results, Tryd.results44, go_sem, setR]) rfl ⟨rfl, _, _, rfl⟩
  · go_enter Tryd.func44, Tryd.ntmps44
    go_wp2
    refine bodyPost_ret (v := .agg (setR r 9 v).cells) (by simp [results, Tryd.results44, go_sem, setR]) rfl ⟨rfl, _, _, rfl⟩
  · go_enter Tryd.func44, Tryd.ntmps44
    go_wp2
    refine bodyPost_ret (v := .agg (setR r 10 v).cells) (by simp [results, Tryd.results44, go_sem, setR]) rfl ⟨rfl, _, _, rfl⟩
  · go_enter Tryd.func44, Tryd.ntmps44
    go_wp2
    refine bodyPost_ret (v := .agg (setR r 11 v).cells) (by simp [results, Tryd.results44, go_sem, setR]) rfl ⟨rfl, _, _, rfl⟩
  · go_enter Tryd.func44, Tryd.ntmps44
    go_wp2
    refine bodyPost_ret (v := .agg (setR r 6 v).cells) (by simp [results, Tryd.results44, go_sem, setR]) rfl ⟨rfl, _, _, rfl⟩
  · go_enter Tryd.func44, Tryd.ntmps44
    go_wp2
    refine bodyPost_ret (v := .agg (setR r 7 v).cells) (by simp [results, Tryd.results44, go_sem, setR]) rfl ⟨rfl, _, _, rfl⟩
  all_goals
    have e : setR r c v = r := by unfold setR; repeat (rw [if_neg (by omega)])
    rw [e]
    go_enter Tryd.func44, Tryd.ntmps44
    go_wp2
    refine bodyPost_ret (v := .agg r.cells) (by simp [results, Tryd.results44, go_sem]) rfl ⟨rfl, _, _, rfl⟩
end Go.Proofs.YtfjkbjkbpbnalabDoor
