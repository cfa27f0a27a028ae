/- Package prof: two counts together. -/
import Derived.Test.YtlgaedhbgkhmeaaMem
import Derived.Test.YtlgaedhbgkhmeaaPfN
namespace Go.Proofs.Ytlgaedhbgkhmeaa
open Go.ChangeShapes Go.WideShapes Go.ChangeAt Go.RowKit
set_option linter.unusedVariables false
set_option maxRecDepth 100000 in
set_option maxHeartbeats 2000000 in
theorem spotAnd_any (a t c l b u d m : Int) (w : World) (h0 : 0 ≤ t ∧ t ≤ 1000000 ∧ 0 ≤ c ∧ c ≤ 1000000 ∧ 0 ≤ l ∧ l ≤ 1000000) (h1 : 0 ≤ u ∧ u ≤ 1000000 ∧ 0 ≤ d ∧ d ≤ 1000000 ∧ 0 ≤ m ∧ m ≤ 1000000) :
    Calls Try.prog 15 #[.agg #[.int .u16 a, .int .i64 t, .int .i64 c, .int .i64 l], .agg #[.int .u16 b, .int .i64 u, .int .i64 d, .int .i64 m]] w fun e w' => e = .returned (.agg #[.int .u16 a, .int .i64 (t + u), .int .i64 (c + d), .int .i64 (l + m)]) ∧ Below w.heap.size w w' := by
  have x1 : wrap64 (t + u) = t + u := by unfold wrap64; omega
  have x2 : wrap64 (c + d) = c + d := by unfold wrap64; omega
  have x3 : wrap64 (l + m) = l + m := by unfold wrap64; omega
  go_enter Try.func15, Try.ntmps15
  go_wp2
  have HG := Blk.new ((w.alloc (Obj.cells #[.int .u16 a, .int .i64 t, .int .i64 c, .int .i64 l] 35)).alloc (Obj.cells #[.int .u16 b, .int .i64 u, .int .i64 d, .int .i64 m] 35)) 35 #[.int .u16 a, .int .i64 (t + u), .int .i64 (c + d), .int .i64 (l + m)] (0, 0)
  rw [show ((w.alloc (Obj.cells #[.int .u16 a, .int .i64 t, .int .i64 c, .int .i64 l] 35)).alloc (Obj.cells #[.int .u16 b, .int .i64 u, .int .i64 d, .int .i64 m] 35)).heap.size = w.heap.size + 1 + 1 by simp] at HG
  refine bodyPost_ret (v := .agg #[.int .u16 a, .int .i64 (t + u), .int .i64 (c + d), .int .i64 (l + m)]) (results_cell_row Try.results15 _ _ (w.heap.size + 1 + 1) 35 _ (0, 0) _ rfl HG Try.underlying35 rfl (by kernel_rfl)) rfl ⟨rfl, Below.alloc0 (Below.alloc0 (Below.alloc0 (Below.refl _ w) _) _) _⟩
def cmpN (x y : Int) : Int := if x < y then -1 else if y < x then 1 else 0
set_option maxRecDepth 100000 in
set_option maxHeartbeats 2000000 in
theorem cmpI_any (x y : Int) (w : World) : Calls Try.prog 25 #[.int .i64 x, .int .i64 y] w fun e w' => e = .returned (.int .i64 (cmpN x y)) ∧ ∃ k, w' = w.drewN k := by
  unfold cmpN
  by_cases h1 : x < y
  · rw [if_pos h1]
    have d1 := decide_eq_true h1
    go_enter Try.func25, Try.ntmps25
    go_wp2
    go_ret
    exact ⟨rfl, 0, rfl⟩
  · rw [if_neg h1]
    have d1 := decide_eq_false h1
    by_cases h2 : y < x
    · rw [if_pos h2]
      have d2 := decide_eq_true h2
      go_enter Try.func25, Try.ntmps25
      go_wp2
      go_ret
      exact ⟨rfl, 0, rfl⟩
    · rw [if_neg h2]
      have d2 := decide_eq_false h2
      go_enter Try.func25, Try.ntmps25
      go_wp2
      go_ret
      exact ⟨rfl, 0, rfl⟩
set_option maxRecDepth 100000 in
set_option maxHeartbeats 2000000 in
theorem cmpU_any (x y : Int) (w : World) : Calls Try.prog 26 #[.int .u16 x, .int .u16 y] w fun e w' => e = .returned (.int .i64 (cmpN x y)) ∧ ∃ k, w' = w.drewN k := by
  unfold cmpN
  by_cases h1 : x < y
  · rw [if_pos h1]
    have d1 := decide_eq_true h1
    go_enter Try.func26, Try.ntmps26
    go_wp2
    go_ret
    exact ⟨rfl, 0, rfl⟩
  · rw [if_neg h1]
    have d1 := decide_eq_false h1
    by_cases h2 : y < x
    · rw [if_pos h2]
      have d2 := decide_eq_true h2
      go_enter Try.func26, Try.ntmps26
      go_wp2
      go_ret
      exact ⟨rfl, 0, rfl⟩
    · rw [if_neg h2]
      have d2 := decide_eq_false h2
      go_enter Try.func26, Try.ntmps26
      go_wp2
      go_ret
      exact ⟨rfl, 0, rfl⟩
def orN (x y : Int) : Int := if x ≠ 0 then x else y
set_option maxRecDepth 100000 in
set_option maxHeartbeats 2000000 in
theorem cmpOr_any (g c : Nat) (x y : Int) (w : World) (h0 : w.cell? ⟨g, 0, none⟩ = some (.int .i64 x)) (h1 : w.cell? ⟨g, 1, none⟩ = some (.int .i64 y)) :
    Calls Try.prog 24 #[.slice (some ⟨g, 0, none⟩) 2 c] w fun e w' => e = .returned (.int .i64 (orN x y)) ∧ ∃ k, w' = w.drewN k := by
  go_enter Try.func24, Try.ntmps24
  go_wp2
  go_loop [5, 8] (fun _ i => ∃ k : Nat, k ≤ 2 ∧ i = .int .i64 k ∧ (1 ≤ k → x = 0) ∧ (2 ≤ k → y = 0)) (fun _ i => 2 - (intOf i).toNat)
  case atStart => exact ⟨0, by omega, rfl, fun h => absurd h (by decide), fun h => absurd h (by decide)⟩
  case round =>
    obtain ⟨k, hk, rfl, hx, hy⟩ := hrel
    rcases (show k = 0 ∨ k = 1 ∨ k = 2 by omega) with rfl | rfl | rfl
    · by_cases hz : x = 0
      · subst hz
        go_wp2
        go_round
        case rel => exact ⟨1, by omega, rfl, by simp, by simp⟩
        case measure => simp [intOf]
      · have e : orN x y = x := if_pos hz
        have n1 : (x != 0) = true := by simpa using hz
        go_wp2
        go_ret
        exact ⟨by first | rfl | (rw [e]; rfl), 0, rfl⟩
    · have hx0 := hx (by decide)
      subst hx0
      by_cases hz : y = 0
      · subst hz
        go_wp2
        go_round
        case rel => exact ⟨2, by omega, rfl, by simp, by simp⟩
        case measure => simp [intOf]
      · have e : orN 0 y = y := if_neg (by simp)
        have n1 : (y != 0) = true := by simpa using hz
        go_wp2
        go_ret
        exact ⟨by first | rfl | (rw [e]; rfl), 0, rfl⟩
    · have hx0 := hx (by decide)
      have hy0 := hy (by decide)
      subst hx0
      subst hy0
      have e : orN 0 0 = 0 := rfl
      go_wp2
      go_ret
      exact ⟨by first | rfl | (rw [e]; rfl), 0, rfl⟩
end Go.Proofs.Ytlgaedhbgkhmeaa
