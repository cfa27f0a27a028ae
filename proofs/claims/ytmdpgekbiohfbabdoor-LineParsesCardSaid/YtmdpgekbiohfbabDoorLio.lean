/- Contracts of package line: offset. -/
import Derived.Test.YtmdpgekbiohfbabDoorLin
namespace Go.Proofs.YtmdpgekbiohfbabDoor
open Go.ChangeShapes Go.WideShapes Go.ChangeAt Go.RowKit
set_option linter.unusedVariables false

theorem constV_range (a : Int) (l : List Int) (lk : List Int → Option Int) : constB (evalE a lk l) = true → (evalE a lk l).2.1 = 0 := by
  unfold constB
  intro h
  simp only [Bool.and_eq_true, decide_eq_true_eq] at h
  exact h.1
set_option maxRecDepth 100000 in
set_option maxHeartbeats 2000000 in
theorem liShort_any (v : Int) (w : World) (h0 : 0 ≤ v) (h1 : v < 65536) : Calls Tryd.prog 105 #[.int .u16 v] w fun e w' => e = .returned (.bool (decide (v ≤ 127) || decide (65408 ≤ v))) ∧ w = w' := by
  by_cases h2 : v ≤ 127
  all_goals by_cases h3 : 65408 ≤ v
  all_goals try (exfalso; omega)
  all_goals
    go_enter Tryd.func105, Tryd.ntmps105
    go_wp2
    go_ret
    exact ⟨by first | rfl | simp [h2, h3], rfl⟩
theorem constV_in (l : List Int) (hl : BytL l) : 0 ≤ constV (evalE 0 (lookL look0) l) ∧ constV (evalE 0 (lookL look0) l) < 65536 := by
  have key : ∀ (f : Nat) (neg : Bool) (t : Int) (st nm : Bool) (m : List Int), 0 ≤ (evalF 0 (lookL look0) f neg t st nm m).1 ∧ (evalF 0 (lookL look0) f neg t st nm m).1 < 65536 := by
    intro f
    induction f with
    | zero => intro neg t st nm m; simp [evalF]
    | succ f ih =>
      intro neg t st nm m
      unfold evalF
      split
      · simp
      split
      · simp only; omega
      split
      · exact ih _ _ _ _ _
      split
      · exact ih _ _ _ _ _
      · simp
  have h2 : 0 ≤ (evalE 0 (lookL look0) l).1 ∧ (evalE 0 (lookL look0) l).1 < 65536 := by
    unfold evalE
    split
    · simp
    split
    · exact key _ _ _ _ _ _
    split
    · exact key _ _ _ _ _ _
    · exact key _ _ _ _ _ _
  unfold constV
  split
  · exact h2
  · decide
set_option maxRecDepth 100000 in
set_option maxHeartbeats 2000000 in
theorem liOffset_any (f s k r o : Int) (i : Bool) (X : ByteArray) (hX : X.size ≤ 1099511627776) (w : World) :
    Calls Tryd.prog 88 #[.agg #[.int .i64 f, .int .i64 s, .string X, .int .i64 k, .int .i64 r, .int .u16 o, .bool i]] w fun e w' => e = .returned (.tuple #[.int .i64 (offL s r i (nums X)).1, .int .u16 (offL s r i (nums X)).2]) ∧ Below w.heap.size w w' := by
  have CC := Lib.hid (fun u => exConst_any u X hX)
  have HVR := Lib.hid (constV_in (nums X) (BytL.nums X))
  have HE : Hid (offL s r i (nums X) = if r = 5 then (if s = 1 then (11, 0) else (12, 0))
    else if s = 1 then (2, 0)
    else if s = 2 ∨ constB (evalE 0 (lookL look0) (nums X)) = false then (3, 0)
    else if (constV (evalE 0 (lookL look0) (nums X)) ≤ 15 ∨ 65520 ≤ constV (evalE 0 (lookL look0) (nums X))) ∧ i = false then (1, constV (evalE 0 (lookL look0) (nums X)))
    else if constV (evalE 0 (lookL look0) (nums X)) ≤ 127 ∨ 65408 ≤ constV (evalE 0 (lookL look0) (nums X)) then (2, 0)
    else (3, 0)) := Lib.hid rfl
  obtain ⟨V, hV⟩ : ∃ V, constV (evalE 0 (lookL look0) (nums X)) = V := ⟨_, rfl⟩
  obtain ⟨C, hC⟩ : ∃ C, constB (evalE 0 (lookL look0) (nums X)) = C := ⟨_, rfl⟩
  obtain ⟨R, hR⟩ : ∃ R, offL s r i (nums X) = R := ⟨_, rfl⟩
  rw [hV, hC] at CC HE
  rw [hV] at HVR
  rw [hR] at HE ⊢
  obtain ⟨v0, v1⟩ := HVR.out
  have Z0 := Lib.hid (Blk.new w 42 #[.int .i64 f, .int .i64 s, .string X, .int .i64 k, .int .i64 r, .int .u16 o, .bool i] (0, 0))
  have B0 := Lib.hid (Below.alloc0 (Below.refl w.heap.size w) (.cells #[.int .i64 f, .int .i64 s, .string X, .int .i64 k, .int .i64 r, .int .u16 o, .bool i] 42))
  clear hV hC hR
  by_cases h5 : r = 5
  · subst h5
    by_cases h1 : s = 1
    · have hE := HE.out
      rw [if_pos rfl, if_pos h1] at hE
      subst hE h1
      clear HE CC HVR
      go_enter Tryd.func88, Tryd.ntmps88
      go_wp2
      go_ret2
      exact ⟨rfl, B0.out⟩
    · have hE := HE.out
      rw [if_pos rfl, if_neg h1] at hE
      subst hE
      have b1 : (s == 1) = false := by simpa using h1
      clear HE CC HVR h1
      go_enter Tryd.func88, Tryd.ntmps88
      go_wp2
      go_ret2
      exact ⟨rfl, B0.out⟩
  have hE := HE.out
  rw [if_neg h5] at hE
  have HE1 := Lib.hid hE
  have b5 : (r == 5) = false := by simpa using h5
  clear hE HE h5
  go_enter Tryd.func88, Tryd.ntmps88
  go_wp2_with fail
  refine (CC.out _).mono ?_
  rintro e w1 ⟨hb, rfl⟩
  have B1 := Lib.hid (Below.trans0 B0.out hb)
  have Z1 := Lib.hid (Blk.below Z0.out hb (by simp))
  clear hb CC Z0 B0 HVR
  obtain ⟨c0, c1, c2, c3, c4, c5, c6⟩ := Z1.out.c7
  by_cases h1 : s = 1
  · have hE := HE1.out
    rw [if_pos h1] at hE
    subst hE h1
    go_wp2
    go_ret2
    exact ⟨rfl, B1.out⟩
  have b1 : (s == 1) = false := by simpa using h1
  have hE := HE1.out
  rw [if_neg h1] at hE
  by_cases h2 : s = 2
  · rw [if_pos (.inl h2)] at hE
    subst hE h2
    clear HE1 h1 b1
    go_wp2
    go_ret2
    exact ⟨rfl, B1.out⟩
  have b2 : (s == 2) = false := by simpa using h2
  cases C
  · rw [if_pos (.inr rfl)] at hE
    subst hE
    clear HE1 h1 h2
    go_wp2
    go_ret2
    exact ⟨rfl, B1.out⟩
  rw [if_neg (by intro h; rcases h with h | h; exact h2 h; cases h)] at hE
  have HE2 := Lib.hid hE
  clear hE HE1 h1 h2
  have CSh := Lib.hid (fun u => liShort_any V u v0 v1)
  by_cases hf : (V ≤ 15 ∨ 65520 ≤ V) ∧ i = false
  · have hE := HE2.out
    rw [if_pos hf] at hE
    subst hE
    obtain ⟨hf1, rfl⟩ := hf
    by_cases h15 : V ≤ 15
    · clear hf1
      go_wp2
      go_ret2
      exact ⟨rfl, B1.out⟩
    · have h20 : 65520 ≤ V := by omega
      clear hf1
      go_wp2
      go_ret2
      exact ⟨rfl, B1.out⟩
  have hE := HE2.out
  rw [if_neg hf] at hE
  by_cases hsh : V ≤ 127 ∨ 65408 ≤ V
  · rw [if_pos hsh] at hE
    subst hE
    have hS : (decide (V ≤ 127) || decide (65408 ≤ V)) = true := by simpa using hsh
    rw [hS] at CSh
    clear hsh hS HE2
    cases i
    · have h15 : ¬ V ≤ 15 := fun h => hf ⟨.inl h, rfl⟩
      have h20 : ¬ 65520 ≤ V := fun h => hf ⟨.inr h, rfl⟩
      clear hf
      go_wp2_with (go_at_call 105; refine (CSh.out _).mono ?_; rintro e w' ⟨rfl, rfl⟩)
      go_ret2
      exact ⟨rfl, B1.out⟩
    · clear hf
      by_cases h15 : V ≤ 15
      all_goals by_cases h20 : 65520 ≤ V
      all_goals try (exfalso; omega)
      all_goals
        go_wp2_with (go_at_call 105; refine (CSh.out _).mono ?_; rintro e w' ⟨rfl, rfl⟩)
        go_ret2
        exact ⟨rfl, B1.out⟩
  · rw [if_neg hsh] at hE
    subst hE
    have hS : (decide (V ≤ 127) || decide (65408 ≤ V)) = false := by simpa using hsh
    rw [hS] at CSh
    have h15 : ¬ V ≤ 15 := by omega
    have h20 : ¬ 65520 ≤ V := by omega
    clear hsh hS HE2 hf
    cases i
    all_goals
      go_wp2_with (go_at_call 105; refine (CSh.out _).mono ?_; rintro e w' ⟨rfl, rfl⟩)
      go_ret2
      exact ⟨rfl, B1.out⟩
end Go.Proofs.YtmdpgekbiohfbabDoor
