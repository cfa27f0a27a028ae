/- The law FileTwice, over registers as numbers. -/
import Derived.Test.YtfkcogccbeolfaaFilX
import Derived.Test.YtfkcogccbeolfaaFilM
namespace Go.Proofs.Ytfkcogccbeolfaa
open Go.ChangeShapes Go.WideShapes Go.ChangeAt Go.RowKit
set_option linter.unusedVariables false

set_option maxRecDepth 100000 in
set_option maxHeartbeats 2000000 in
theorem law_twice_no (r : Rg) (a b : Int) (h : ¬ wide2 a b) (w : World) :
    Calls Try.prog 5 #[.agg r.cells, .int .i64 a, .int .i64 b] w fun e w' => e = .returned (.bool true) ∧ Below w.heap.size w w' := by
  unfold wide2 at h
  have h' : a < 0 ∨ (0 ≤ a ∧ a ≤ 5 ∧ b < 0) ∨ (0 ≤ a ∧ a ≤ 5 ∧ 0 ≤ b ∧ 5 < b) ∨ (5 < a ∧ a < 8) ∨ (8 ≤ a ∧ a ≤ 11 ∧ b < 8) ∨ (8 ≤ a ∧ a ≤ 11 ∧ 8 ≤ b ∧ 11 < b) ∨ 11 < a := by omega
  clear h
  rcases h' with h | ⟨h1, h2, h3⟩ | ⟨h1, h2, h3, h4⟩ | ⟨h1, h2⟩ | ⟨h1, h2, h3⟩ | ⟨h1, h2, h3, h4⟩ | h
  all_goals
    try have q1 : decide (b ≤ 5) = false := decide_eq_false (by omega)
    try have q2 : decide (b ≤ 11) = false := decide_eq_false (by omega)
    try have q3 : decide (0 ≤ b) = false := decide_eq_false (by omega)
    try have q4 : decide (8 ≤ b) = false := decide_eq_false (by omega)
    try have q5 : decide (a ≤ 5) = false := decide_eq_false (by omega)
    try have q6 : decide (a ≤ 11) = false := decide_eq_false (by omega)
    go_enter Try.func5, Try.ntmps5
    go_wp2_with fail
    go_ret
    exact ⟨rfl, Below.alloc0 (Below.refl _ _) _⟩
set_option maxRecDepth 100000 in
set_option maxHeartbeats 2000000 in
theorem law_twice (r : Rg) (hr : r.Ok) (a b : Int) (h : wide2 a b) (w : World) :
    Calls Try.prog 5 #[.agg r.cells, .int .i64 a, .int .i64 b] w fun e w' => e = .returned (.bool true) ∧ Below w.heap.size w w' := by
  obtain ⟨m1, m2, m3⟩ := exg_twice r hr a b h
  have ok2 := exg2_ok r hr a b
  obtain ⟨x0, x1⟩ := getR_range r hr b
  obtain ⟨y0, y1⟩ := getR_range r hr a
  obtain ⟨x, hx⟩ : ∃ x, getR r b = x := ⟨_, rfl⟩
  obtain ⟨y, hy⟩ : ∃ y, getR r a = y := ⟨_, rfl⟩
  obtain ⟨s, hs⟩ : ∃ s, exg2 r a b = s := ⟨_, rfl⟩
  have ha : 0 ≤ a ∧ a < 16 ∧ 0 ≤ b ∧ b < 16 := by unfold wide2 at h; omega
  have cx := fun (w : World) (g : Nat) (t : TypeId) (h : RgAt w g t r) => exg_any r hr (16 * a + b) (by omega) (by omega) w g t h
  have cy := fun (w : World) (g : Nat) (t : TypeId) (h : RgAt w g t (exg2 r a b)) => exg_any _ ok2 (16 * a + b) (by omega) (by omega) w g t h
  have ga := fun (w : World) (g : Nat) (t : TypeId) (h : RgAt w g t (exg2 r a b)) => get_any _ ok2 a w g t h
  have gb := fun (w : World) (g : Nat) (t : TypeId) (h : RgAt w g t (exg2 r a b)) => get_any _ ok2 b w g t h
  have ra := fun (w : World) => refGet_below r hr a w
  have rb := fun (w : World) => refGet_below r hr b w
  have cp := fun (w : World) => pair_any a b w ha.1 ha.2.1 ha.2.2.1 ha.2.2.2
  have q1 : (16 * a + b) / 16 = a := by omega
  have q2 : (16 * a + b) % 16 = b := by omega
  have ex : ∀ q : Rg, exgR q (16 * a + b) = exg2 q a b := fun q => by unfold exgR exg2; rw [q1, q2]
  rw [hx] at m2 rb x0 x1
  rw [hy] at m3 ra y0 y1
  rw [m2] at ga
  rw [m3] at gb
  rw [ex, m1] at cy
  rw [ex] at cx
  rw [hs] at cx cy ga gb
  have EX : (x == x) = true := by simp
  have EY : (y == y) = true := by simp
  have HB := Lib.hid (show RgAt ((w.alloc (.cells r.cells 24)).alloc (.cells r.cells 27)) w.heap.size 24 r from Blk.alloc (Blk.new _ _ _ _) _)
  have HF := Lib.hid (show RgAt ((w.alloc (.cells r.cells 24)).alloc (.cells r.cells 27)) (w.heap.size + 1) 27 r from RgAt.new2 _ _ _ _)
  have CX := Lib.hid cx
  have CY := Lib.hid cy
  have GA := Lib.hid ga
  have GB := Lib.hid gb
  have RA := Lib.hid ra
  have RB := Lib.hid rb
  have CP := Lib.hid cp
  clear cx cy ga gb ra rb cp m1 m2 m3 hx hy hs ex q1 q2 ok2
  obtain ⟨a0, a1, b0, b1⟩ := ha
  unfold wide2 at h
  have h' : (0 ≤ a ∧ a ≤ 5 ∧ 0 ≤ b ∧ b ≤ 5) ∨ (8 ≤ a ∧ a ≤ 11 ∧ 8 ≤ b ∧ b ≤ 11) := h
  clear h
  rcases h' with ⟨h1, h2, h3, h4⟩ | ⟨h1, h2, h3, h4⟩
  all_goals
    go_enter Try.func5, Try.ntmps5
    go_wp2_with fail
    refine (CP.out _).mono ?_
    rintro e w' ⟨rfl, rfl⟩
    go_wp2_with fail
    refine (CX.out _ _ _ HF.out).mono ?_
    rintro e w1 ⟨rfl, hp1⟩
    have HP1 := Lib.hid hp1
    have HB1 := Lib.hid (RgAt.grown HB.out hp1.2.1 (by simp))
    have Hb1 := Lib.hid (Put.below hp1 (B := w.heap.size) (by omega) (by simp; omega))
    clear hp1
    go_wp2_with fail
    refine (GA.out _ _ _ HP1.out.1).mono ?_
    rintro e w' ⟨rfl, n1, rfl⟩
    go_wp2_with fail
    refine (GB.out _ _ _ (HP1.out.1.drewN n1)).mono ?_
    rintro e w' ⟨rfl, n2, rfl⟩
    go_wp2_with fail
    refine (CP.out _).mono ?_
    rintro e w' ⟨rfl, rfl⟩
    go_wp2_with fail
    refine (CY.out _ _ _ (HP1.out.1.drewN (n1 + n2))).mono ?_
    rintro e w2 ⟨rfl, hp2⟩
    have HP := Lib.hid hp2
    have HB2 := Lib.hid (RgAt.grown (HB1.out.drewN (n1 + n2)) hp2.2.1 (by simp))
    have Hb2 := Lib.hid (Put.below hp2 (B := w.heap.size) (by omega) (by have := HB1.out.lt; simp; omega))
    clear hp2
    have HL := Lib.hid (HB2.out.lt)
    have HL2 := Lib.hid (HP.out.1.lt)
    go_wp2
    go_region_held3 (fun w' => (w'.cell? ⟨w.heap.size, 0, none⟩ = some (.int .u8 r.A) ∧ w'.cell? ⟨w.heap.size, 1, none⟩ = some (.int .u8 r.B) ∧ w'.cell? ⟨w.heap.size, 2, none⟩ = some (.int .u8 r.D) ∧ w'.cell? ⟨w.heap.size, 3, none⟩ = some (.int .u8 r.C) ∧ w'.cell? ⟨w.heap.size, 4, none⟩ = some (.int .u16 r.X) ∧ w'.cell? ⟨w.heap.size, 5, none⟩ = some (.int .u16 r.Y) ∧ w'.cell? ⟨w.heap.size, 6, none⟩ = some (.int .u16 r.U) ∧ w'.cell? ⟨w.heap.size, 7, none⟩ = some (.int .u16 r.S) ∧ w'.cell? ⟨w.heap.size, 8, none⟩ = some (.int .u16 r.P)) ∧ (w'.cell? ⟨w.heap.size + 1, 0, none⟩ = some (.int .u8 r.A) ∧ w'.cell? ⟨w.heap.size + 1, 1, none⟩ = some (.int .u8 r.B) ∧ w'.cell? ⟨w.heap.size + 1, 2, none⟩ = some (.int .u8 r.D) ∧ w'.cell? ⟨w.heap.size + 1, 3, none⟩ = some (.int .u8 r.C) ∧ w'.cell? ⟨w.heap.size + 1, 4, none⟩ = some (.int .u16 r.X) ∧ w'.cell? ⟨w.heap.size + 1, 5, none⟩ = some (.int .u16 r.Y) ∧ w'.cell? ⟨w.heap.size + 1, 6, none⟩ = some (.int .u16 r.U) ∧ w'.cell? ⟨w.heap.size + 1, 7, none⟩ = some (.int .u16 r.S) ∧ w'.cell? ⟨w.heap.size + 1, 8, none⟩ = some (.int .u16 r.P)))
      (first
        | exact ⟨HB2.out.cells, HP.out.1.cells⟩
        | exact ⟨HB3.out.cells, HF3.out.cells⟩
        | exact ⟨HB4.out.cells, HF4.out.cells⟩
        | exact ⟨HB5.out.cells, HF5.out.cells⟩)
      (first
        | (go_at_call 8; ((with_reducible refine (RB.out _).mono ?_); rintro e w3 ⟨rfl, hb3⟩; have HB3 := Lib.hid (by first | exact RgAt.below HB2.out hb3 HL.out | exact RgAt.belowD HB2.out hb3 HL.out); have HF3 := Lib.hid (by first | exact RgAt.below HP.out.1 hb3 HL2.out | exact RgAt.belowD HP.out.1 hb3 HL2.out); have Hb3 := Lib.hid hb3; clear hb3))
        | (go_at_call 8; ((with_reducible refine (RA.out _).mono ?_); rintro e w4 ⟨rfl, hb4⟩; have HB4 := Lib.hid (by first | exact RgAt.below HB3.out hb4 HB3.out.lt | exact RgAt.belowD HB3.out hb4 HB3.out.lt); have HF4 := Lib.hid (by first | exact RgAt.below HF3.out hb4 HF3.out.lt | exact RgAt.belowD HF3.out hb4 HF3.out.lt); have Hb4 := Lib.hid hb4; clear hb4))
        | (go_at_call 10; ((with_reducible refine (alive16 _).mono ?_); rintro e w5 ⟨rfl, hb5⟩; have HB5 := Lib.hid (by first | exact RgAt.below HB4.out hb5 HB4.out.lt | exact RgAt.belowD HB4.out hb5 HB4.out.lt); have HF5 := Lib.hid (by first | exact RgAt.below HF4.out hb5 HF4.out.lt | exact RgAt.belowD HF4.out hb5 HF4.out.lt); have Hb5 := Lib.hid hb5; clear hb5)))
    have b1 : Below w.heap.size w w1 := (Below.alloc0 (Below.alloc0 (Below.refl _ _) _) _).trans Hb1.out
    have b2 : Below w.heap.size w w2 := (Below.drewN0 b1 (n1 + n2)).trans Hb2.out
    have b3 : Below w.heap.size w w3 := by first | exact Below.trans0 b2 Hb3.out | exact Below.trans0 (Below.drew0 b2) Hb3.out
    have b4 : Below w.heap.size w w4 := by first | exact Below.trans0 b3 Hb4.out | exact Below.trans0 (Below.drew0 b3) Hb4.out
    have b5 : Below w.heap.size w w5 := by first | exact Below.trans0 b4 Hb5.out | exact Below.trans0 (Below.drew0 b4) Hb5.out
    have B5 := Lib.hid b5
    clear b1 b2 b3 b4 b5
    go_wp2
    go_ret
    exact ⟨rfl, by first | exact B5.out | exact Below.drew0 B5.out⟩
end Go.Proofs.Ytfkcogccbeolfaa
