/- The law FileSets, over registers as numbers. -/
import Derived.Test.YtfkcogccbeolfaaFilX
namespace Go.Proofs.Ytfkcogccbeolfaa
open Go.ChangeShapes Go.WideShapes Go.ChangeAt Go.RowKit
set_option linter.unusedVariables false

set_option maxRecDepth 100000 in
set_option maxHeartbeats 2000000 in
theorem law_sets (r : Rg) (hr : r.Ok) (c v : Int) (h0 : 0 ≤ v) (h1 : v < 65536) (w : World) :
    Calls Try.prog 3 #[.agg r.cells, .int .i64 c, .int .u16 v] w fun e w' => e = .returned (.bool true) ∧ Below w.heap.size w w' := by
  obtain ⟨g0, g1⟩ := getR_range r hr c
  obtain ⟨b, hb⟩ : ∃ b, isR c = b := ⟨_, rfl⟩
  obtain ⟨x, hx⟩ : ∃ x, getR r c = x := ⟨_, rfl⟩
  obtain ⟨s, hs⟩ : ∃ s, setR r c v = s := ⟨_, rfl⟩
  have cg := fun (w : World) (g : Nat) (t : TypeId) (h : RgAt w g t r) => get_any r hr c w g t h
  have cs := fun (w : World) (g : Nat) (t : TypeId) (h : RgAt w g t r) => set_any r hr c v h0 h1 w g t h
  have cg2 := fun (w : World) => refGet_below r hr c w
  rw [hx] at cg cg2 g0 g1
  rw [hs, hb] at cs
  have HS := Lib.hid hs
  have HB := Lib.hid (show RgAt ((w.alloc (.cells r.cells 24)).alloc (.cells r.cells 27)) w.heap.size 24 r from Blk.alloc (Blk.new _ _ _ _) _)
  have HF := Lib.hid (show RgAt ((w.alloc (.cells r.cells 24)).alloc (.cells r.cells 27)) (w.heap.size + 1) 27 r from RgAt.new2 _ _ _ _)
  have HH := Lib.hid hb
  have CG := Lib.hid cg
  have CG2 := Lib.hid cg2
  have CS := Lib.hid cs
  clear cg cg2 cs hs hb hx
  have ex : (x == x) = true := by simp
  have eb : (b == b) = true := by simp
  have hc : (c < 0 ∧ b = false) ∨ (12 ≤ c ∧ b = false) ∨ (c = 6 ∧ b = false) ∨ (c = 7 ∧ b = false) ∨ ((0 ≤ c ∧ c < 12 ∧ ¬ c = 6 ∧ ¬ c = 7) ∧ b = true) := by
    have h := HH.out
    unfold isR at h
    subst h
    simp only [Bool.or_eq_false_iff, Bool.or_eq_true, Bool.and_eq_false_iff, Bool.and_eq_true, decide_eq_true_eq, decide_eq_false_iff_not]
    omega
  rcases hc with ⟨hc, rfl⟩ | ⟨hc, rfl⟩ | ⟨rfl, rfl⟩ | ⟨rfl, rfl⟩ | ⟨⟨hc1, hc2, hc3, hc4⟩, rfl⟩
  rotate_left 4
  have e6 : (c != 6) = true := by simpa using hc3
  have e7 : (c != 7) = true := by simpa using hc4
  rotate_left 1
  all_goals
    go_enter Try.func3, Try.ntmps3
    go_wp2_with fail
    refine (CG.out _ _ _ HF.out).mono ?_
    rintro e w' ⟨rfl, n, rfl⟩
    go_wp2_with fail
    refine (CS.out _ _ _ (HF.out.drewN n)).mono ?_
    rintro e w1 ⟨rfl, hp⟩
    have HP := Lib.hid hp
    have HB1 := Lib.hid (RgAt.grown (RgAt.drewN HB.out n) hp.2.1 (by simp))
    have hb1 := Put.below hp (B := w.heap.size) (by omega) (by simp; omega)
    have HL := Lib.hid (HB1.out.lt)
    have HL2 := Lib.hid (HP.out.1.lt)
    have Hb1 := Lib.hid hb1
    clear hp hb1
    go_wp2
    go_region_held3 (fun w' => (w'.cell? ⟨w.heap.size, 0, none⟩ = some (.int .u8 r.A) ∧ w'.cell? ⟨w.heap.size, 1, none⟩ = some (.int .u8 r.B) ∧ w'.cell? ⟨w.heap.size, 2, none⟩ = some (.int .u8 r.D) ∧ w'.cell? ⟨w.heap.size, 3, none⟩ = some (.int .u8 r.C) ∧ w'.cell? ⟨w.heap.size, 4, none⟩ = some (.int .u16 r.X) ∧ w'.cell? ⟨w.heap.size, 5, none⟩ = some (.int .u16 r.Y) ∧ w'.cell? ⟨w.heap.size, 6, none⟩ = some (.int .u16 r.U) ∧ w'.cell? ⟨w.heap.size, 7, none⟩ = some (.int .u16 r.S) ∧ w'.cell? ⟨w.heap.size, 8, none⟩ = some (.int .u16 r.P)) ∧ (w'.cell? ⟨w.heap.size + 1, 0, none⟩ = some (.int .u8 s.A) ∧ w'.cell? ⟨w.heap.size + 1, 1, none⟩ = some (.int .u8 s.B) ∧ w'.cell? ⟨w.heap.size + 1, 2, none⟩ = some (.int .u8 s.D) ∧ w'.cell? ⟨w.heap.size + 1, 3, none⟩ = some (.int .u8 s.C) ∧ w'.cell? ⟨w.heap.size + 1, 4, none⟩ = some (.int .u16 s.X) ∧ w'.cell? ⟨w.heap.size + 1, 5, none⟩ = some (.int .u16 s.Y) ∧ w'.cell? ⟨w.heap.size + 1, 6, none⟩ = some (.int .u16 s.U) ∧ w'.cell? ⟨w.heap.size + 1, 7, none⟩ = some (.int .u16 s.S) ∧ w'.cell? ⟨w.heap.size + 1, 8, none⟩ = some (.int .u16 s.P)))
      (first
        | exact ⟨HB1.out.cells, HP.out.1.cells⟩
        | exact ⟨HB2.out.cells, HF2.out.cells⟩
        | exact ⟨HB3.out.cells, HF3.out.cells⟩
        | exact ⟨HB4.out.cells, HF4.out.cells⟩)
      (first
        | (go_at_call 8; ((with_reducible refine (CG2.out _).mono ?_); rintro e w2 ⟨rfl, hb2⟩; have HB2 := Lib.hid (by first | exact RgAt.below HB1.out hb2 HL.out | exact RgAt.belowD HB1.out hb2 HL.out); have HF2 := Lib.hid (by first | exact RgAt.below HP.out.1 hb2 HL2.out | exact RgAt.belowD HP.out.1 hb2 HL2.out); have Hb2 := Lib.hid hb2; clear hb2))
        | (go_at_call 9; ((with_reducible refine (refSet_eq r s hr _ _ h0 h1 HS _).mono ?_); rintro e w3 ⟨rfl, hb3⟩; have HB3 := Lib.hid (by first | exact RgAt.below HB2.out hb3 HB2.out.lt | exact RgAt.belowD HB2.out hb3 HB2.out.lt); have HF3 := Lib.hid (by first | exact RgAt.below HF2.out hb3 HF2.out.lt | exact RgAt.belowD HF2.out hb3 HF2.out.lt); have Hb3 := Lib.hid hb3; clear hb3))
        | (go_at_call 10; ((with_reducible refine (alive16 _).mono ?_); rintro e w4 ⟨rfl, hb4⟩; have HB4 := Lib.hid (by first | exact RgAt.below HB3.out hb4 HB3.out.lt | exact RgAt.belowD HB3.out hb4 HB3.out.lt); have HF4 := Lib.hid (by first | exact RgAt.below HF3.out hb4 HF3.out.lt | exact RgAt.belowD HF3.out hb4 HF3.out.lt); have Hb4 := Lib.hid hb4; clear hb4)))
    have b1 : Below w.heap.size w w1 := (Below.drewN0 (Below.alloc0 (Below.alloc0 (Below.refl _ _) _) _) n).trans Hb1.out
    have b2 : Below w.heap.size w w2 := by first | exact Below.trans0 b1 Hb2.out | exact Below.trans0 (Below.drew0 b1) Hb2.out
    have b3 : Below w.heap.size w w3 := by first | exact Below.trans0 b2 Hb3.out | exact Below.trans0 (Below.drew0 b2) Hb3.out
    have b4 : Below w.heap.size w w4 := by first | exact Below.trans0 b3 Hb4.out | exact Below.trans0 (Below.drew0 b3) Hb4.out
    have B4 := Lib.hid b4
    clear b1 b2 b3 b4
    go_wp2
    go_ret
    exact ⟨rfl, by first | exact B4.out | exact Below.drew0 B4.out⟩
end Go.Proofs.Ytfkcogccbeolfaa
