/- The law of lexer.Cut and Fields: any line; the chapter's example. -/
import Derived.Test.YtmdpgekbiohfbaaDoorLxF
namespace Go.Proofs.YtmdpgekbiohfbaaDoor
open Go.ChangeShapes Go.WideShapes Go.ChangeAt Go.RowKit
set_option linter.unusedVariables false

theorem lxCut_no (l : List UInt8) (h : (lxCut l).ok = false) : lxCut l = lxNo := by
  rw [lxCut_eq] at h ⊢
  split at h
  · next hb => rw [if_pos hb]
  · cases h
theorem eql_lx (A B C : ByteArray) (w : World) : (binOp .eql 23 (.agg #[.string A, .string B, .string C]) (.agg #[.string A, .string B, .string C])).run Tryd.prog w = .ok (.bool true) w := by
  have e1 : (A.toList == A.toList) = true := by simp
  have e2 : (B.toList == B.toList) = true := by simp
  have e3 : (C.toList == C.toList) = true := by simp
  go_simp
def lxEx : List UInt8 := [97, 58, 32, 108, 100, 97, 32, 35, 32, 53, 32, 59, 32, 120]
theorem lxEx_cut : lxCut lxEx = ⟨[97], [76, 68, 65], [35, 53], true⟩ := by rfl
set_option maxRecDepth 100000 in
set_option maxHeartbeats 4000000 in
theorem alive43 (w : World) (hM : MxL w) : Calls Tryd.prog 10 #[] w fun e w' => e = .returned (.bool true) ∧ Below w.heap.size w w' := by
  have CC := Lib.hid (lxCut_any lxEx (by decide) w hM)
  rw [lxEx_cut] at CC
  have EQ := eql_lx (mkS [97]) (mkS [76, 68, 65]) (mkS [35, 53])
  have h1 : mkS [97] = ⟨#[97]⟩ := rfl
  have h2 : mkS [76, 68, 65] = ⟨#[76, 68, 65]⟩ := rfl
  have h3 : mkS [35, 53] = ⟨#[35, 53]⟩ := rfl
  have hx : mkS lxEx = ⟨#[97, 58, 32, 108, 100, 97, 32, 35, 32, 53, 32, 59, 32, 120]⟩ := rfl
  unfold lxV lxA lxE at CC
  simp only [h1, h2, h3] at EQ
  simp only [hx, h1, h2, h3] at CC
  clear h1 h2 h3 hx
  go_enter Tryd.func10, Tryd.ntmps10
  go_wp2_with fail
  refine CC.out.mono ?_
  rintro e w1 ⟨rfl, hb⟩
  have HB := Lib.hid (Below.alloc0 hb (.cells #[.string ⟨#[97]⟩, .string ⟨#[76, 68, 65]⟩, .string ⟨#[35, 53]⟩] 23))
  clear hb
  go_wp2
  go_ret
  exact ⟨rfl, HB.out⟩
set_option maxRecDepth 100000 in
set_option maxHeartbeats 8000000 in
theorem law_cuts (l : List UInt8) (w : World) (hM : MxL w) : Calls Tryd.prog 3 #[.string (mkS l)] w fun e w' => e = .returned (.bool true) ∧ Below w.heap.size w w' := by
  have hz : (mkS l).size = l.length := mkS_size l
  by_cases hbig : l.length ≤ 200
  case neg =>
    have hb : (200 : Int) < (l.length : Int) := by omega
    go_enter Tryd.func3, Tryd.ntmps3
    go_wp2
    go_ret
    exact ⟨rfl, Below.refl _ _⟩
  have hb : ¬ (200 : Int) < (l.length : Int) := by omega
  have HM := Lib.hid hM
  have C1 := Lib.hid (lxCut_any l (by omega) w hM)
  have C2 := Lib.hid (fun u => refCut_any l (by omega) u)
  have C3 := Lib.hid (fun u (h : Below w.heap.size w u) => lxFields_any l (by omega) u (hM.below h))
  have C4 := Lib.hid (fun u => refFields_any l (by omega) u)
  have CA := Lib.hid (fun u (h : Below w.heap.size w u) => alive43 u (hM.below h))
  have hfl : ((fldL l).map mkS).length ≤ 1000000 := by
    rw [List.length_map]; unfold fldL
    split
    · simp
    · have := pcz_len 44 l []; omega
  have C5 := Lib.hid (fun v v' u (h : eS.Rd u v ((fldL l).map mkS)) (h' : eS.Rd u v' ((fldL l).map mkS)) => eqS_any v v' _ _ u h h' hfl hfl (by
    cases hq : (fldL l).map mkS with
    | nil => exact .inl rfl
    | cons a b => exact .inr (by simp)))
  have hd : decide ((fldL l).map mkS = (fldL l).map mkS) = true := by simp
  rw [hd] at C5
  have hno := lxCut_no l
  generalize lxCut l = R at C1 C2 hno
  obtain ⟨lab, op, arg, ok⟩ := R
  unfold lxV lxA lxE at C1
  unfold lyA at C2
  dsimp only at C1 C2 hno
  obtain ⟨F, hF⟩ : ∃ F, (fldL l).map mkS = F := ⟨_, rfl⟩
  rw [hF] at C3 C4 C5
  clear hF hfl hd hM hbig
  cases ok
  case false =>
    have hn := hno rfl
    unfold lxNo at hn
    injection hn with h1 h2 h3
    subst h1 h2 h3
    have hs : mkS [] = ⟨#[]⟩ := rfl
    simp only [hs, Bool.false_eq_true, if_false] at C1 C2
    have EQ := eql_lx ⟨#[]⟩ ⟨#[]⟩ ⟨#[]⟩
    clear hs hno
    go_enter Tryd.func3, Tryd.ntmps3
    go_wp2_with fail
    refine C1.out.mono ?_
    rintro e w1 ⟨rfl, hb1⟩
    obtain ⟨g1, hg1⟩ : ∃ g, w1.heap.size = g := ⟨_, rfl⟩
    go_wp2_with fail
    obtain ⟨W1, hW1⟩ : ∃ W, w1.alloc (.cells #[.string ⟨#[]⟩, .string ⟨#[]⟩, .string ⟨#[]⟩] 23) = W := ⟨_, rfl⟩
    have B1 := Lib.hid (show Below w.heap.size w W1 by rw [← hW1]; exact Below.alloc0 hb1 _)
    have P1 := Lib.hid (show Blk W1 g1 23 #[.string ⟨#[]⟩, .string ⟨#[]⟩, .string ⟨#[]⟩] by rw [← hW1, ← hg1]; exact Blk.new _ _ _ _)
    clear hb1
    rw [hW1]
    refine (C2.out _).mono ?_
    rintro e w2 ⟨rfl, hb2⟩
    obtain ⟨g2, hg2⟩ : ∃ g, w2.heap.size = g := ⟨_, rfl⟩
    go_wp2_with fail
    obtain ⟨W2, hW2⟩ : ∃ W, w2.alloc (.cells #[.string ⟨#[]⟩, .string ⟨#[]⟩, .string ⟨#[]⟩] 27) = W := ⟨_, rfl⟩
    have B2 := Lib.hid (show Below w.heap.size w W2 by rw [← hW2]; exact Below.alloc0 (Below.trans0 B1.out hb2) _)
    have P2 := Lib.hid (show Blk W2 g1 23 #[.string ⟨#[]⟩, .string ⟨#[]⟩, .string ⟨#[]⟩] by rw [← hW2]; exact (P1.out.below hb2 P1.out.lt).alloc _)
    clear hb2 P1
    rw [hW2]
    refine (C3.out _ B2.out).mono ?_
    rintro e w3 ⟨v3, rfl, hr3, hb3⟩
    have R3 := Lib.hid hr3
    have P3 := Lib.hid (P2.out.below hb3 P2.out.lt)
    have B3 := Lib.hid (Below.trans0 B2.out hb3)
    clear hr3 hb3 P2
    go_wp2_with fail
    refine (C4.out _).mono ?_
    rintro e w4 ⟨v4, rfl, hr4, hb4⟩
    have R4 := Lib.hid hr4
    have S4 := Lib.hid (R3.out.below hb4)
    have P4 := Lib.hid (P3.out.below hb4 P3.out.lt)
    have B4 := Lib.hid (Below.trans0 B3.out hb4)
    clear hr4 hb4 P3 R3
    go_wp2_with fail
    refine (C5.out _ _ _ S4.out R4.out).mono ?_
    rintro e w5 ⟨rfl, q, hw5⟩
    have P5 := Lib.hid (show Blk w5 g1 23 #[.string ⟨#[]⟩, .string ⟨#[]⟩, .string ⟨#[]⟩] by rw [hw5]; exact P4.out)
    have B5 := Lib.hid (show Below w.heap.size w w5 by rw [hw5]; exact Below.drewN0 B4.out q)
    obtain ⟨c0, c1, c2⟩ := P5.out.c3s
    clear hw5 hW1 hW2 hg1 hg2
    go_wp2_with fail
    refine (CA.out _ B5.out).mono ?_
    rintro e w6 ⟨rfl, hb6⟩
    have B6 := Lib.hid (Below.trans0 B5.out hb6)
    clear hb6
    go_wp2
    go_ret
    exact ⟨rfl, B6.out⟩
  case true =>
    simp only [if_true] at C1 C2
    have EQ := eql_lx (mkS lab) (mkS op) (mkS arg)
    obtain ⟨A, hA⟩ : ∃ A, mkS lab = A := ⟨_, rfl⟩
    obtain ⟨B, hB⟩ : ∃ B, mkS op = B := ⟨_, rfl⟩
    obtain ⟨C, hC⟩ : ∃ C, mkS arg = C := ⟨_, rfl⟩
    rw [hA, hB, hC] at C1 C2
    simp only [hA, hB, hC] at EQ
    clear hno hA hB hC
    go_enter Tryd.func3, Tryd.ntmps3
    go_wp2_with fail
    refine C1.out.mono ?_
    rintro e w1 ⟨rfl, hb1⟩
    obtain ⟨g1, hg1⟩ : ∃ g, w1.heap.size = g := ⟨_, rfl⟩
    obtain ⟨W1, hW1⟩ : ∃ W, w1.alloc (.cells #[.string A, .string B, .string C] 23) = W := ⟨_, rfl⟩
    have B1 := Lib.hid (show Below w.heap.size w W1 by rw [← hW1]; exact Below.alloc0 hb1 _)
    have P1 := Lib.hid (show Blk W1 g1 23 #[.string A, .string B, .string C] by rw [← hW1, ← hg1]; exact Blk.new _ _ _ _)
    clear hb1
    go_wp2_with fail
    refine (C2.out _).mono ?_
    rintro e w2 ⟨rfl, hb2⟩
    obtain ⟨g2, hg2⟩ : ∃ g, w2.heap.size = g := ⟨_, rfl⟩
    obtain ⟨W2, hW2⟩ : ∃ W, w2.alloc (.cells #[.string A, .string B, .string C] 27) = W := ⟨_, rfl⟩
    have B2 := Lib.hid (show Below w.heap.size w W2 by rw [← hW2]; exact Below.alloc0 (Below.trans0 B1.out hb2) _)
    have P2 := Lib.hid (show Blk W2 g1 23 #[.string A, .string B, .string C] by rw [← hW2]; exact (P1.out.below hb2 P1.out.lt).alloc _)
    have Q2 := Lib.hid (show Blk W2 g2 27 #[.string A, .string B, .string C] by rw [← hW2, ← hg2]; exact Blk.new _ _ _ _)
    clear hb2 P1
    go_wp2_with fail
    refine (C3.out _ B2.out).mono ?_
    rintro e w3 ⟨v3, rfl, hr3, hb3⟩
    have R3 := Lib.hid hr3
    have P3 := Lib.hid (P2.out.below hb3 P2.out.lt)
    have Q3 := Lib.hid (Q2.out.below hb3 Q2.out.lt)
    have B3 := Lib.hid (Below.trans0 B2.out hb3)
    clear hr3 hb3 P2 Q2
    go_wp2_with fail
    refine (C4.out _).mono ?_
    rintro e w4 ⟨v4, rfl, hr4, hb4⟩
    have R4 := Lib.hid hr4
    have S4 := Lib.hid (R3.out.below hb4)
    have P4 := Lib.hid (P3.out.below hb4 P3.out.lt)
    have Q4 := Lib.hid (Q3.out.below hb4 Q3.out.lt)
    have B4 := Lib.hid (Below.trans0 B3.out hb4)
    clear hr4 hb4 P3 Q3 R3
    go_wp2_with fail
    refine (C5.out _ _ _ S4.out R4.out).mono ?_
    rintro e w5 ⟨rfl, q, hw5⟩
    have P5 := Lib.hid (show Blk w5 g1 23 #[.string A, .string B, .string C] by rw [hw5]; exact P4.out)
    have Q5 := Lib.hid (show Blk w5 g2 27 #[.string A, .string B, .string C] by rw [hw5]; exact Q4.out)
    have B5 := Lib.hid (show Below w.heap.size w w5 by rw [hw5]; exact Below.drewN0 B4.out q)
    obtain ⟨c0, c1, c2⟩ := P5.out.c3s
    obtain ⟨d0, d1, d2⟩ := Q5.out.c3s
    clear hw5 hW1 hW2 hg1 hg2
    go_wp2_with fail
    refine (CA.out _ B5.out).mono ?_
    rintro e w6 ⟨rfl, hb6⟩
    have B6 := Lib.hid (Below.trans0 B5.out hb6)
    clear hb6
    go_wp2
    go_ret
    exact ⟨rfl, B6.out⟩
end Go.Proofs.YtmdpgekbiohfbaaDoor
