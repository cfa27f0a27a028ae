/- The law IndexWalks, over registers as numbers; the chapter's example. -/
import Derived.Test.YtkdekhcnamkcgaaDoorIdx
namespace Go.Proofs.YtkdekhcnamkcgaaDoor
open Go.ChangeShapes Go.WideShapes Go.ChangeAt Go.RowKit
set_option linter.unusedVariables false

set_option maxRecDepth 100000 in
theorem eql_rg (s : Rg) (w : World) : (binOp .eql 34 (.agg #[.int .u8 s.A, .int .u8 s.B, .int .u8 s.D, .int .u8 s.C, .int .u16 s.X, .int .u16 s.Y, .int .u16 s.U, .int .u16 s.S, .int .u16 s.P]) (.agg #[.int .u8 s.A, .int .u8 s.B, .int .u8 s.D, .int .u8 s.C, .int .u16 s.X, .int .u16 s.Y, .int .u16 s.U, .int .u16 s.S, .int .u16 s.P])).run Tryd.prog w = .ok (.bool true) w := by
  go_simp
theorem KindsAt.below20 {w w' : World} (h : KindsAt w) (hb : Below w.heap.size w w') : KindsAt w' := fun k hk => (hb.cell (p := ⟨2, k, none⟩) (cell_lt (h k hk))).trans (h k hk)
theorem po81 : poK 129 = 8 ∧ poR 129 = 1 ∧ poO 129 = 0 := by decide +kernel
set_option maxRecDepth 100000 in
set_option maxHeartbeats 2000000 in
theorem alive20 (w : World) (hT : KindsAt w) : Calls Tryd.prog 21 #[] w fun e w' => e = .returned (.bool true) ∧ Below w.heap.size w w' := by
  have C1 := of_any 129 (by decide) w hT
  have C2 := fun w => idxOf_any 8 (by decide) 1 0 (poI 129) ⟨0, 0, 0, 0, 5, 0, 0, 0, 0⟩ (by constructor <;> decide) 0 0 (by decide) (by decide) (by decide) w
  rw [po81.1, po81.2.1, po81.2.2] at C1
  rw [show idA 8 1 0 0 0 ⟨0, 0, 0, 0, 5, 0, 0, 0, 0⟩ = 5 by decide, show idR 8 1 ⟨0, 0, 0, 0, 5, 0, 0, 0, 0⟩ = ⟨0, 0, 0, 0, 7, 0, 0, 0, 0⟩ by rfl] at C2
  have C1 := Lib.hid C1
  have C2 := Lib.hid C2
  have HE := eql_rg ⟨0, 0, 0, 0, 7, 0, 0, 0, 0⟩
  generalize poI 129 = d at C1 C2
  clear hT
  go_enter Tryd.func21, Tryd.ntmps21
  go_wp2_with fail
  refine C1.out.mono ?_
  rintro e w1 ⟨rfl, hb1⟩
  have B1 := Lib.hid hb1
  clear hb1
  go_wp2_with fail
  refine (C2.out _).mono ?_
  rintro e w2 ⟨rfl, hb2⟩
  have B2 := Lib.hid (Below.trans0 B1.out hb2)
  clear hb2
  go_wp2
  go_ret
  exact ⟨rfl, Below.alloc0 B2.out _⟩
theorem walk_up (r : Rg) (hr : r.Ok) (g : Int) (hg : 1 ≤ g ∧ g ≤ 4) (d : Int) (h0 : 0 ≤ d) (h2 : d ≤ 2) :
    getR (setR r g ((getR r g + d) % 65536)) g = (getR r g + d) % 65536 ∧ setR (setR r g ((getR r g + d) % 65536)) g (getR r g) = r := by
  obtain ⟨A, B, D, C, X, Y, U, S, P⟩ := r
  rcases (show g = 1 ∨ g = 2 ∨ g = 3 ∨ g = 4 by omega) with rfl | rfl | rfl | rfl <;> exact ⟨rfl, rfl⟩
theorem walk_back (r : Rg) (hr : r.Ok) (g : Int) (d : Int) (h0 : 0 ≤ d) (h2 : d ≤ 2) : ((getR r g + d) % 65536 - d) % 65536 = getR r g := by
  obtain ⟨a, b⟩ := getR_range r hr g
  omega
theorem neq_rg (s r : Rg) (h : s ≠ r) (w : World) : (binOp .neq 34 (.agg #[.int .u8 s.A, .int .u8 s.B, .int .u8 s.D, .int .u8 s.C, .int .u16 s.X, .int .u16 s.Y, .int .u16 s.U, .int .u16 s.S, .int .u16 s.P]) (.agg #[.int .u8 r.A, .int .u8 r.B, .int .u8 r.D, .int .u8 r.C, .int .u16 r.X, .int .u16 r.Y, .int .u16 r.U, .int .u16 r.S, .int .u16 r.P])).run Tryd.prog w = .ok (.bool true) w := by
  have key : ¬ (s.A = r.A ∧ s.B = r.B ∧ s.D = r.D ∧ s.C = r.C ∧ s.X = r.X ∧ s.Y = r.Y ∧ s.U = r.U ∧ s.S = r.S ∧ s.P = r.P) := by
    rintro ⟨e1, e2, e3, e4, e5, e6, e7, e8, e9⟩
    apply h
    obtain ⟨_, _, _, _, _, _, _, _, _⟩ := s
    obtain ⟨_, _, _, _, _, _, _, _, _⟩ := r
    simp only at e1 e2 e3 e4 e5 e6 e7 e8 e9
    subst e1 e2 e3 e4 e5 e6 e7 e8 e9
    rfl
  by_cases e1 : s.A = r.A
  · by_cases e2 : s.B = r.B
    · by_cases e3 : s.D = r.D
      · by_cases e4 : s.C = r.C
        · by_cases e5 : s.X = r.X
          · by_cases e6 : s.Y = r.Y
            · by_cases e7 : s.U = r.U
              · by_cases e8 : s.S = r.S
                · by_cases e9 : s.P = r.P
                  · exact absurd ⟨e1, e2, e3, e4, e5, e6, e7, e8, e9⟩ key
                  · rw [e1, e2, e3, e4, e5, e6, e7, e8]; have e : (s.P == r.P) = false := by simpa using e9
                    clear key h; go_simp
                · rw [e1, e2, e3, e4, e5, e6, e7]; have e : (s.S == r.S) = false := by simpa using e8
                  clear key h; go_simp
              · rw [e1, e2, e3, e4, e5, e6]; have e : (s.U == r.U) = false := by simpa using e7
                clear key h; go_simp
            · rw [e1, e2, e3, e4, e5]; have e : (s.Y == r.Y) = false := by simpa using e6
              clear key h; go_simp
          · rw [e1, e2, e3, e4]; have e : (s.X == r.X) = false := by simpa using e5
            clear key h; go_simp
        · rw [e1, e2, e3]; have e : (s.C == r.C) = false := by simpa using e4
          clear key h; go_simp
      · rw [e1, e2]; have e : (s.D == r.D) = false := by simpa using e3
        clear key h; go_simp
    · rw [e1]; have e : (s.B == r.B) = false := by simpa using e2
      clear key h; go_simp
  · have e : (s.A == r.A) = false := by simpa using e1
    clear key h; go_simp
theorem up_ne (r : Rg) (hr : r.Ok) (g : Int) (hg : 1 ≤ g ∧ g ≤ 4) (d : Int) (h0 : 1 ≤ d) (h2 : d ≤ 2) : setR r g ((getR r g + d) % 65536) ≠ r := by
  obtain ⟨a0, a1, b0, b1, d0, d1, c0, c1, x0, x1, y0, y1, u0, u1, s0, s1, p0, p1⟩ := hr
  obtain ⟨A, B, D, C, X, Y, U, S, P⟩ := r
  simp only at *
  intro h
  rcases (show g = 1 ∨ g = 2 ∨ g = 3 ∨ g = 4 by omega) with rfl | rfl | rfl | rfl
  · have e := congrArg Rg.X h; simp [setR, getR] at e; omega
  · have e := congrArg Rg.Y h; simp [setR, getR] at e; omega
  · have e := congrArg Rg.U h; simp [setR, getR] at e; omega
  · have e := congrArg Rg.S h; simp [setR, getR] at e; omega
set_option maxRecDepth 100000 in
set_option maxHeartbeats 8000000 in
theorem law_walks (r : Rg) (hr : r.Ok) (g : Int) (two : Bool) (w : World) (hT : KindsAt w) :
    Calls Tryd.prog 7 #[.agg r.cells, .int .i64 g, .bool two] w fun e w' => e = .returned (.bool true) ∧ Below w.heap.size w w' := by
  by_cases hg : 1 ≤ g ∧ g ≤ 4
  rotate_left
  · have HB := Lib.hid (Below.alloc0 (Below.refl w.heap.size w) (Obj.cells r.cells 34))
    rcases (show g < 1 ∨ 4 < g by omega) with h | h
    all_goals
      clear hg
      go_enter Tryd.func7, Tryd.ntmps7
      go_wp2
      go_ret
      exact ⟨rfl, HB.out⟩
  · obtain ⟨d, hd⟩ : ∃ d : Int, d = (if two then 2 else 1) := ⟨_, rfl⟩
    have d1 : 1 ≤ d ∧ d ≤ 2 := by rw [hd]; split <;> omega
    obtain ⟨s, hs⟩ : ∃ s, setR r g ((getR r g + d) % 65536) = s := ⟨_, rfl⟩
    have hrange := getR_range r hr g
    have hsok : s.Ok := by rw [← hs]; exact setR_ok r hr g _ (by omega) (by omega)
    obtain ⟨k1, k2⟩ := walk_up r hr g hg d (by omega) d1.2
    rw [hs] at k1 k2
    have k3 := walk_back r hr g d (by omega) d1.2
    have hne : s ≠ r := by rw [← hs]; exact up_ne r hr g hg d d1.1 d1.2
    have HN := neq_rg s r hne
    have HE := eql_rg r
    obtain ⟨a, ha⟩ : ∃ a, getR r g = a := ⟨_, rfl⟩
    have C1 : Hid (∀ w, Calls Tryd.prog 19 #[.agg #[.int .i64 (if two then 8 else 7), .int .i64 g, .int .u16 0, .bool false], .agg r.cells, .int .u16 0, .int .u16 0] w fun e w' => e = .returned (.tuple #[.int .u16 a, .agg s.cells]) ∧ Below w.heap.size w w') := Lib.hid (fun w => by
      cases two
      · have hd' : d = 1 := hd
        subst hd'
        have C := idxOf_any 7 (by decide) g 0 false r hr 0 0 (by decide) (by decide) (by decide) w
        rw [show idA 7 g 0 0 0 r = getR r g from rfl, show idR 7 g r = setR r g ((getR r g + 1) % 65536) from rfl, hs, ha] at C
        exact C
      · have hd' : d = 2 := hd
        subst hd'
        have C := idxOf_any 8 (by decide) g 0 false r hr 0 0 (by decide) (by decide) (by decide) w
        rw [show idA 8 g 0 0 0 r = getR r g from rfl, show idR 8 g r = setR r g ((getR r g + 2) % 65536) from rfl, hs, ha] at C
        exact C)
    have C2 : Hid (∀ w, Calls Tryd.prog 19 #[.agg #[.int .i64 (if two then 10 else 9), .int .i64 g, .int .u16 0, .bool false], .agg s.cells, .int .u16 0, .int .u16 0] w fun e w' => e = .returned (.tuple #[.int .u16 a, .agg r.cells]) ∧ Below w.heap.size w w') := Lib.hid (fun w => by
      cases two
      · have hd' : d = 1 := hd
        subst hd'
        have C := idxOf_any 9 (by decide) g 0 false s hsok 0 0 (by decide) (by decide) (by decide) w
        rw [show idA 9 g 0 0 0 s = (getR s g - 1) % 65536 from rfl, show idR 9 g s = setR s g ((getR s g - 1) % 65536) from rfl, k1, k3, k2, ha] at C
        exact C
      · have hd' : d = 2 := hd
        subst hd'
        have C := idxOf_any 10 (by decide) g 0 false s hsok 0 0 (by decide) (by decide) (by decide) w
        rw [show idA 10 g 0 0 0 s = (getR s g - 2) % 65536 from rfl, show idR 10 g s = setR s g ((getR s g - 2) % 65536) from rfl, k1, k3, k2, ha] at C
        exact C)
    obtain ⟨g1, g2⟩ := hg
    have HR0 := Lib.hid (show RgAt (w.alloc (.cells r.cells 34)) w.heap.size 34 r from Blk.new _ _ _ _)
    have HB := Lib.hid (Below.alloc0 (Below.refl w.heap.size w) (Obj.cells r.cells 34))
    have HT := Lib.hid (KindsAt.below20 hT (Below.alloc0 (Below.refl _ w) (Obj.cells r.cells 34)))
    clear hd d1 hs hrange k1 k2 k3 hne ha hsok hr hT
    obtain ⟨r0, r1, r2, r3, r4, r5, r6, r7, r8⟩ := HR0.out.cells
    cases two
    · simp only [Bool.false_eq_true, if_false] at C1 C2
      go_enter Tryd.func7, Tryd.ntmps7
      go_wp2_with fail
      refine (C1.out _).mono ?_
      rintro e w1 ⟨rfl, hb⟩
      have HR1 := Lib.hid (Blk.alloc (RgAt.below HR0.out hb HR0.out.lt) (Obj.cells s.cells 34))
      have HS1 := Lib.hid (show RgAt (w1.alloc (.cells s.cells 34)) w1.heap.size 34 s from Blk.new _ _ _ _)
      replace HT := Lib.hid (KindsAt.below20 (KindsAt.below20 HT.out hb) (Below.alloc0 (Below.refl _ w1) (Obj.cells s.cells 34)))
      replace HB := Lib.hid (Below.alloc0 (Below.trans0 HB.out hb) (Obj.cells s.cells 34))
      clear hb r0 r1 r2 r3 r4 r5 r6 r7 r8
      go_wp2_with fail
      refine (C2.out _).mono ?_
      rintro e w2 ⟨rfl, hb⟩
      have HR2 := Lib.hid (show RgAt (w2.alloc (.cells r.cells 34)) w.heap.size 34 r from Blk.alloc (Blk.below HR1.out hb (Blk.lt HR1.out)) _)
      have HS2 := Lib.hid (show RgAt (w2.alloc (.cells r.cells 34)) w1.heap.size 34 s from Blk.alloc (Blk.below HS1.out hb (Blk.lt HS1.out)) _)
      have HT2 := Lib.hid (show RgAt (w2.alloc (.cells r.cells 34)) w2.heap.size 34 r from Blk.new _ _ _ _)
      replace HT := Lib.hid (KindsAt.below20 (KindsAt.below20 HT.out hb) (Below.alloc0 (Below.refl _ w2) (Obj.cells r.cells 34)))
      replace HB := Lib.hid (Below.alloc0 (Below.trans0 HB.out hb) (Obj.cells r.cells 34))
      clear hb HR1 HS1 HR0
      obtain ⟨r0, r1, r2, r3, r4, r5, r6, r7, r8⟩ := HR2.out.cells
      obtain ⟨s0, s1, s2, s3, s4, s5, s6, s7, s8⟩ := HS2.out.cells
      obtain ⟨t0, t1, t2, t3, t4, t5, t6, t7, t8⟩ := HT2.out.cells
      go_wp2_with fail
      refine (alive20 _ HT.out).mono ?_
      rintro e w3 ⟨rfl, hb⟩
      replace HB := Lib.hid (Below.trans0 HB.out hb)
      clear hb
      go_wp2
      go_ret
      exact ⟨rfl, HB.out⟩
    · simp only [if_true] at C1 C2
      go_enter Tryd.func7, Tryd.ntmps7
      go_wp2_with fail
      refine (C1.out _).mono ?_
      rintro e w1 ⟨rfl, hb⟩
      have HR1 := Lib.hid (Blk.alloc (RgAt.below HR0.out hb HR0.out.lt) (Obj.cells s.cells 34))
      have HS1 := Lib.hid (show RgAt (w1.alloc (.cells s.cells 34)) w1.heap.size 34 s from Blk.new _ _ _ _)
      replace HT := Lib.hid (KindsAt.below20 (KindsAt.below20 HT.out hb) (Below.alloc0 (Below.refl _ w1) (Obj.cells s.cells 34)))
      replace HB := Lib.hid (Below.alloc0 (Below.trans0 HB.out hb) (Obj.cells s.cells 34))
      clear hb r0 r1 r2 r3 r4 r5 r6 r7 r8
      go_wp2_with fail
      refine (C2.out _).mono ?_
      rintro e w2 ⟨rfl, hb⟩
      have HR2 := Lib.hid (show RgAt (w2.alloc (.cells r.cells 34)) w.heap.size 34 r from Blk.alloc (Blk.below HR1.out hb (Blk.lt HR1.out)) _)
      have HS2 := Lib.hid (show RgAt (w2.alloc (.cells r.cells 34)) w1.heap.size 34 s from Blk.alloc (Blk.below HS1.out hb (Blk.lt HS1.out)) _)
      have HT2 := Lib.hid (show RgAt (w2.alloc (.cells r.cells 34)) w2.heap.size 34 r from Blk.new _ _ _ _)
      replace HT := Lib.hid (KindsAt.below20 (KindsAt.below20 HT.out hb) (Below.alloc0 (Below.refl _ w2) (Obj.cells r.cells 34)))
      replace HB := Lib.hid (Below.alloc0 (Below.trans0 HB.out hb) (Obj.cells r.cells 34))
      clear hb HR1 HS1 HR0
      obtain ⟨r0, r1, r2, r3, r4, r5, r6, r7, r8⟩ := HR2.out.cells
      obtain ⟨s0, s1, s2, s3, s4, s5, s6, s7, s8⟩ := HS2.out.cells
      obtain ⟨t0, t1, t2, t3, t4, t5, t6, t7, t8⟩ := HT2.out.cells
      go_wp2_with fail
      refine (alive20 _ HT.out).mono ?_
      rintro e w3 ⟨rfl, hb⟩
      replace HB := Lib.hid (Below.trans0 HB.out hb)
      clear hb
      go_wp2
      go_ret
      exact ⟨rfl, HB.out⟩
end Go.Proofs.YtkdekhcnamkcgaaDoor
