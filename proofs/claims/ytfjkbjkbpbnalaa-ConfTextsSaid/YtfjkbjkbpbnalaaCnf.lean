/- Contracts of package conf: why there may be no such shape, as a text, read; the law's own text. -/
import Derived.Test.YtfjkbjkbpbnalaaDigLaw
import Derived.Test.YtfjkbjkbpbnalaaStc
import Derived.Test.YtfjkbjkbpbnalaaShelf
namespace Go.Proofs.Ytfjkbjkbpbnalaa
open Go.ChangeShapes Go.WideShapes Go.ChangeAt Go.RowKit
set_option linter.unusedVariables false

/-- The library's own variable holds some number. -/
def MaxL (w : World) : Prop := ∃ m, w.cell? ⟨0, 0, none⟩ = some (.int .i64 m)
theorem MaxL.below {w w' : World} (h : MaxL w) (hb : Below w.heap.size w w') : MaxL w' := by
  obtain ⟨m, hm⟩ := h
  exact ⟨m, (hb.cell (p := ⟨0, 0, none⟩) (cell_lt hm)).trans hm⟩
theorem MaxL.of_shaped {w : World} (h : w.ShapedOpen Try.prog) : MaxL w :=
  cell_of_shapedOpen_int (P := Try.prog) (g := 0) (t := 3) (zero := #[.int .i64 0]) h (of_decide_eq_true (by kernel_rfl)) (by kernel_rfl) rfl (by kernel_rfl) (by kernel_rfl) Try.underlying3
abbrev cfA (k r : Int) : Array Value := #[.int .i64 k, .int .i64 r]
/-- Why there may be no such machine. -/
def cfE (k r : Int) : Int := if k = 0 ∨ k = 1 then (if 0 ≤ r ∧ r ≤ 65536 then 0 else 11) else 10
def cfOk (k r : Int) : Bool := decide (k = 0 ∨ k = 1) && decide (0 ≤ r ∧ r ≤ 65536)
theorem cfE_ok (k r : Int) : cfE k r = 0 ↔ cfOk k r = true := by
  unfold cfE cfOk; split <;> (try split) <;> simp_all
/-- The text of a shape that may be. -/
noncomputable def cfT (k r : Int) : List Int := (if k = 1 then [68, 77, 65] else [84, 83, 67]) ++ (if r < 65536 then [32, 82, 79, 77, 32] ++ written 16 r 4 else [])
theorem toList_ne {T s : ByteArray} (h : ¬ T = s) : (T.toList == s.toList) = false := by
  rw [beq_eq_false_iff_ne]
  intro e
  rw [ByteArray.toList_eq, ByteArray.toList_eq] at e
  exact h (ByteArray.ext (Array.ext' e))
theorem toList_ne' {T : ByteArray} {l : List UInt8} (h : ¬ T = ⟨l.toArray⟩) : (T.toList == l) = false := by
  have := toList_ne h
  rw [ByteArray.toList_eq ⟨l.toArray⟩] at this
  exact this
theorem cfT_size (k r : Int) (h0 : 0 ≤ r) (h1 : r ≤ 65536) : (strOfNums (cfT k r)).size ≤ 100 := by
  have := size_written 16 r 16 4 (by decide) (by decide) (by decide) h0 (by omega)
  rw [strOfNums_size] at *
  unfold cfT
  rw [List.length_append]
  split <;> split <;> simp <;> omega
theorem cfT_str0 (r : Int) (h : r < 65536) : strOfNums (cfT 0 r) = ⟨#[84, 83, 67]⟩ ++ (⟨#[32, 82, 79, 77, 32]⟩ ++ strOfNums (written 16 r 4)) := by
  have e : cfT 0 r = [84, 83, 67] ++ ([32, 82, 79, 77, 32] ++ written 16 r 4) := by simp [cfT, h]
  rw [e, ← strOf_append, ← strOf_append]; rfl
theorem cfT_str1 (r : Int) (h : r < 65536) : strOfNums (cfT 1 r) = ⟨#[68, 77, 65]⟩ ++ (⟨#[32, 82, 79, 77, 32]⟩ ++ strOfNums (written 16 r 4)) := by
  have e : cfT 1 r = [68, 77, 65] ++ ([32, 82, 79, 77, 32] ++ written 16 r 4) := by simp [cfT, h]
  rw [e, ← strOf_append, ← strOf_append]; rfl
theorem cfCheck_any (k r : Int) (w : World) : Calls Try.prog 10 #[.agg (cfA k r)] w fun e w' => e = .returned (.int .i64 (cfE k r)) ∧ Below w.heap.size w w' := by
  obtain ⟨V, hV⟩ : ∃ V, cfE k r = V := ⟨_, rfl⟩
  have E := Lib.hid (hV.symm.trans (show cfE k r = if k = 0 ∨ k = 1 then (if 0 ≤ r ∧ r ≤ 65536 then 0 else 11) else 10 from rfl))
  rw [hV]
  clear hV
  by_cases h0 : k = 0
  all_goals by_cases h1 : k = 1
  all_goals by_cases h2 : r < 0
  all_goals by_cases h3 : 65536 < r
  all_goals try (exfalso; omega)
  all_goals try (subst h0)
  all_goals try (subst h1)
  all_goals try (have n0 : (k != 0) = true := by simpa using h0)
  all_goals try (have n1 : (k != 1) = true := by simpa using h1)
  all_goals
    go_enter Try.func10, Try.ntmps10
    go_wp2
    go_ret
    refine ⟨ret_int ?_, by repeat (first | exact Below.refl _ _ | apply Below.alloc0)⟩
    rw [E.out]
    clear E
    (repeat' split) <;> first | rfl | (exfalso; omega) | (exfalso; simp_all; done) | (exfalso; simp_all; omega)
theorem cfRight_any (k r : Int) (w : World) : Calls Try.prog 9 #[.agg (cfA k r)] w fun e w' => e = .returned (.bool (cfOk k r)) ∧ Below w.heap.size w w' := by
  have HE := Lib.hid (cfE_ok k r)
  obtain ⟨c, hc⟩ : ∃ c, cfE k r = c := ⟨_, rfl⟩
  have HC := Lib.hid (fun u => cfCheck_any k r u)
  rw [hc] at HE HC
  clear hc
  go_enter Try.func9, Try.ntmps9
  go_wp2_with fail
  refine (HC.out _).mono ?_
  rintro e w1 ⟨rfl, hb⟩
  have HB := Lib.hid (Below.trans0 (Below.alloc0 (Below.refl _ w) _) hb)
  clear hb
  go_wp2
  go_ret
  refine ⟨ret_bool ?_, HB.out⟩
  rw [Bool.eq_iff_iff, ← HE.out]
  simp
theorem cfText_any (k r : Int) (w : World) : Calls Try.prog 11 #[.agg (cfA k r)] w fun e w' => e = .returned (.string (strOfNums (if cfOk k r then cfT k r else []))) ∧ Below w.heap.size w w' := by
  have CR := Lib.hid (fun u => cfRight_any k r u)
  by_cases h : cfOk k r = true
  · have hr : (k = 0 ∨ k = 1) ∧ 0 ≤ r ∧ r ≤ 65536 := by simpa [cfOk] using h
    obtain ⟨hk, h0, h1⟩ := hr
    have CH := Lib.hid (fun u => hex_any r 4 u h0 (by omega))
    have tw : IntKind.u64.wrap r = r := by rw [IntKind.wrap_u64]; omega
    have hcl : clampW 4 = 4 := by decide
    have HS := Lib.hid (size_written 16 r 16 4 (by decide) (by decide) (by decide) h0 (by omega))
    have HT : Hid (cfT k r = (if k = 1 then [68, 77, 65] else [84, 83, 67]) ++ (if r < 65536 then [32, 82, 79, 77, 32] ++ written 16 r 4 else [])) := Lib.hid rfl
    rw [h] at CR
    rw [h]
    rw [hcl] at CH
    clear hcl h
    by_cases h2 : r < 65536
    · rcases hk with rfl | rfl
      case' inl => have KT0 := Lib.hid (cfT_str0 r h2)
      case' inr => have KT0 := Lib.hid (cfT_str1 r h2)
      all_goals
        have hs := HS.out
        have g1 : ¬ 9223372036854775807 < 5 + (strOfNums (written 16 r 4)).size := by omega
        have g2 : ¬ 9223372036854775807 < 3 + (5 + (strOfNums (written 16 r 4)).size) := by omega
        clear hs
        go_enter Try.func11, Try.ntmps11
        go_wp2_with fail
        refine (CR.out _).mono ?_
        rintro e w1 ⟨rfl, hb⟩
        have HB := Lib.hid (Below.trans0 (Below.alloc0 (Below.refl _ w) _) hb)
        have P1 := Lib.hid (Blk.below (Blk.new w 23 _ (0, 0)) hb (by simp))
        clear hb
        obtain ⟨p0, p1⟩ := Blk.c2 P1.out
        go_wp2_with fail
        refine (CH.out _).mono ?_
        rintro e w2 ⟨rfl, hb⟩
        have HB2 := Lib.hid (Below.trans0 HB.out hb)
        clear hb p0 p1
        go_wp2
        go_ret
        rw [KT0.out]
        exact ⟨rfl, HB2.out⟩
    · have e1 : r = 65536 := by omega
      rcases hk with rfl | rfl
      all_goals
        subst e1
        clear HT HS CH tw h0 h1
        go_enter Try.func11, Try.ntmps11
        go_wp2_with fail
        refine (CR.out _).mono ?_
        rintro e w1 ⟨rfl, hb⟩
        have HB := Lib.hid (Below.trans0 (Below.alloc0 (Below.refl _ w) _) hb)
        have P1 := Lib.hid (Blk.below (Blk.new w 23 _ (0, 0)) hb (by simp))
        clear hb
        obtain ⟨p0, p1⟩ := Blk.c2 P1.out
        go_wp2
        go_ret
        exact ⟨rfl, HB.out⟩
  · have h : cfOk k r = false := by simpa using h
    rw [h] at CR
    rw [h]
    clear h
    go_enter Try.func11, Try.ntmps11
    go_wp2_with fail
    refine (CR.out _).mono ?_
    rintro e w1 ⟨rfl, hb⟩
    have HB := Lib.hid (Below.trans0 (Below.alloc0 (Below.refl _ w) _) hb)
    clear hb
    go_wp2
    go_ret
    exact ⟨rfl, HB.out⟩
theorem cfLaw_any (k r : Int) (w : World) (h : cfOk k r = true) : Calls Try.prog 14 #[.agg (cfA k r)] w fun e w' => e = .returned (.string (strOfNums (cfT k r))) ∧ Below w.heap.size w w' := by
  have hr : (k = 0 ∨ k = 1) ∧ 0 ≤ r ∧ r ≤ 65536 := by simpa [cfOk] using h
  obtain ⟨hk, h0, h1⟩ := hr
  clear h
  have CH := Lib.hid (fun u => refDigits16_int r 4 4 u h0 (by omega) (by decide) (by decide) rfl)
  have tw : IntKind.u64.wrap r = r := by rw [IntKind.wrap_u64]; omega
  have HS := Lib.hid (size_written 16 r 16 4 (by decide) (by decide) (by decide) h0 (by omega))
  by_cases h2 : r < 65536
  · rcases hk with rfl | rfl
    case' inl => have KT0 := Lib.hid (cfT_str0 r h2)
    case' inr => have KT0 := Lib.hid (cfT_str1 r h2)
    all_goals
      have hs := HS.out
      have g1 : ¬ 9223372036854775807 < 5 + (strOfNums (written 16 r 4)).size := by omega
      have g2 : ¬ 9223372036854775807 < 3 + (5 + (strOfNums (written 16 r 4)).size) := by omega
      clear hs
      go_enter Try.func14, Try.ntmps14
      go_wp2_with fail
      refine (CH.out _).mono ?_
      rintro e w2 ⟨rfl, rfl⟩
      go_wp2
      go_ret
      rw [KT0.out]
      refine ⟨rfl, by repeat (first | exact Below.refl _ _ | apply Below.alloc0)⟩
  · have e1 : r = 65536 := by omega
    rcases hk with rfl | rfl
    all_goals
      subst e1
      clear HS CH tw h0 h1
      go_enter Try.func14, Try.ntmps14
      go_wp2
      go_ret
      refine ⟨rfl, by repeat (first | exact Below.refl _ _ | apply Below.alloc0)⟩
def romL : List UInt8 := [32, 82, 79, 77, 32]
def cutK (s : ByteArray) : Int := if (Lib.cut s.data.toList romL).1 = [68, 77, 65] then 1 else 0
def cutR (s : ByteArray) : Int := if (Lib.cut s.data.toList romL).2.2 then wrap64 (numV 16 16 (nums ⟨(Lib.cut s.data.toList romL).2.1.toArray⟩)) else 65536
theorem told_any (s : ByteArray) (w : World) (hM : MaxL w) (hs : s.size ≤ 1000) : Calls Try.prog 48 #[.string s] w fun e w' => e = .returned (.agg (cfA (cutK s) (cutR s))) ∧ Below w.heap.size w w' := by
  have CC := Lib.hid (fun u (h : MaxL u) => let ⟨m, hm⟩ := h; Try.strings_Cut s ⟨#[32, 82, 79, 77, 32]⟩ m u (by omega) hm)
  have HM := Lib.hid hM
  have K0 : Hid (cutK s = if (Lib.cut s.data.toList romL).1 = [68, 77, 65] then 1 else 0) := Lib.hid rfl
  have R0 : Hid (cutR s = if (Lib.cut s.data.toList romL).2.2 then wrap64 (numV 16 16 (nums ⟨(Lib.cut s.data.toList romL).2.1.toArray⟩)) else 65536) := Lib.hid rfl
  have hz : (Lib.cut s.data.toList romL).2.1.length ≤ 1000 := by
    have hl : s.data.toList.length = s.size := by rw [Array.length_toList]; rfl
    unfold Lib.cut
    split
    · simp only [List.length_drop]; omega
    · simp
  have hl : (⟨#[32, 82, 79, 77, 32]⟩ : ByteArray).data.toList = romL := rfl
  rw [hl] at CC
  generalize cutK s = k at K0 ⊢
  generalize cutR s = r at R0 ⊢
  generalize Lib.cut s.data.toList romL = V at CC K0 R0 hz
  obtain ⟨a, b, c⟩ := V
  dsimp only at CC K0 R0 hz
  have CR := Lib.hid (fun u => readHex_any ⟨b.toArray⟩ u (by show b.toArray.size ≤ maxLen; rw [List.size_toArray]; unfold maxLen; omega))
  clear hl hs hM hz
  by_cases hab : a = [68, 77, 65]
  case' pos => have hE : (a == [68, 77, 65]) = true := by simpa using hab
  case' pos => have HK : Hid (k = 1) := Lib.hid (by rw [K0.out, if_pos hab])
  case' neg => have hE : (a == [68, 77, 65]) = false := by simpa using hab
  case' neg => have HK : Hid (k = 0) := Lib.hid (by rw [K0.out, if_neg hab])
  all_goals
    clear hab K0
    cases c
    case' true => have HR : Hid (r = wrap64 (numV 16 16 (nums ⟨b.toArray⟩))) := Lib.hid (by rw [R0.out]; rfl)
    case' false => have HR : Hid (r = 65536) := Lib.hid (by rw [R0.out]; rfl)
    all_goals
      generalize numV 16 16 (nums ⟨b.toArray⟩) = n9 at *
      generalize numE 16 16 (nums ⟨b.toArray⟩) = n8 at *
      clear R0
      go_enter Try.func48, Try.ntmps48
      go_wp2_with fail
      refine (CC.out _ (MaxL.below HM.out (Below.alloc0 (Below.refl _ w) _))).mono ?_
      rintro e w2 ⟨rfl, n, rfl⟩
      go_wp2_with (go_at_call 52; refine (CR.out _).mono ?_; rintro e w3 ⟨rfl, rfl⟩)
      rw [HK.out, HR.out]
      refine bodyPost_ret (v := .agg (cfA _ _)) (by simp [results, Try.results48, go_sem] <;> first | exact ⟨rfl, rfl⟩ | rfl) rfl ⟨rfl, by go_grown; exact Below.drewN0 (Below.alloc0 (Below.refl _ _) _) _⟩
/-- The text of the shape that a text tells. -/
noncomputable def tellT (s : ByteArray) : ByteArray := strOfNums (if cfOk (cutK s) (cutR s) then cfT (cutK s) (cutR s) else [])
theorem cut_no (s : ByteArray) (h : Lib.cut s.data.toList romL = (s.data.toList, [], false)) : cutR s = 65536 := by unfold cutR; rw [h]; rfl
theorem cut_tsc : cutK ⟨#[84, 83, 67]⟩ = 0 ∧ cutR ⟨#[84, 83, 67]⟩ = 65536 := ⟨by decide, cut_no _ (by decide)⟩
theorem cut_dma : cutK ⟨#[68, 77, 65]⟩ = 1 ∧ cutR ⟨#[68, 77, 65]⟩ = 65536 := ⟨by decide, cut_no _ (by decide)⟩
theorem cut_emp : cutK ⟨#[]⟩ = 0 ∧ cutR ⟨#[]⟩ = 65536 := ⟨by decide, cut_no _ (by decide)⟩
theorem tell_tsc : tellT ⟨#[84, 83, 67]⟩ = ⟨#[84, 83, 67]⟩ := by
  unfold tellT; rw [cut_tsc.1, cut_tsc.2]; rfl
theorem tell_dma : tellT ⟨#[68, 77, 65]⟩ = ⟨#[68, 77, 65]⟩ := by
  unfold tellT; rw [cut_dma.1, cut_dma.2]; rfl
/-- A text that is told again is that of a shape that may be. -/
theorem tell_ok (s : ByteArray) (h : tellT s = s) : cfOk (cutK s) (cutR s) = true ∧ s = strOfNums (cfT (cutK s) (cutR s)) := by
  by_cases hc : cfOk (cutK s) (cutR s) = true
  · refine ⟨hc, ?_⟩
    rw [← h]
    conv => lhs; unfold tellT
    rw [if_pos hc, h]
  · exfalso
    have e : s = ⟨#[]⟩ := by
      rw [← h]; unfold tellT; rw [if_neg hc]; rfl
    subst e
    rw [cut_emp.1, cut_emp.2] at hc
    exact hc (by decide)
/-- A shape's text tells the shape. -/
theorem tell_back (k r : Int) (h : cfOk k r = true) : cutK (strOfNums (cfT k r)) = k ∧ cutR (strOfNums (cfT k r)) = r := by
  have hr : (k = 0 ∨ k = 1) ∧ 0 ≤ r ∧ r ≤ 65536 := by simpa [cfOk] using h
  obtain ⟨hk, h0, h1⟩ := hr
  by_cases h2 : r < 65536
  · have key : ∀ a b c : UInt8, (∀ j, j < 3 → Lib.occAt (a :: b :: c :: romL) romL j = false) → ∀ D : ByteArray, ∀ l, l = a :: b :: c :: (romL ++ D.data.toList) → (∀ j, j < 3 → Lib.occAt l romL j = false) → Lib.cut l romL = ([a, b, c], D.data.toList, true) := by
      intro a b c _ D l hl hn
      have hi : Lib.index l romL = 3 := by
        refine Lib.index_first (i := 3) (by rw [hl]; simp) ?_ hn
        rw [hl]; rfl
      unfold Lib.cut
      rw [hi, if_pos (by decide), hl]
      rfl
    have hrd := read_hex r 4 h0 (by omega)
    have hcl : clampW 4 = 4 := by decide
    rw [hcl] at hrd
    have hw : wrap64 r = r := by unfold wrap64; omega
    rcases hk with rfl | rfl
    · have hc : Lib.cut (strOfNums (cfT 0 r)).data.toList romL = ([84, 83, 67], (strOfNums (written 16 r 4)).data.toList, true) := by
        refine key 84 83 67 (by decide) (strOfNums (written 16 r 4)) _ ?_ ?_
        · rw [cfT_str0 r h2]; simp [ByteArray.data_append, romL]
        · rw [cfT_str0 r h2]
          intro j hj
          rcases (show j = 0 ∨ j = 1 ∨ j = 2 by omega) with rfl | rfl | rfl <;> (simp [ByteArray.data_append, Lib.occAt, romL]; rfl)
      constructor
      · unfold cutK; rw [hc]; rfl
      · unfold cutR; rw [hc]
        show wrap64 (numV 16 16 (nums ⟨(strOfNums (written 16 r 4)).data.toList.toArray⟩)) = r
        rw [show (⟨(strOfNums (written 16 r 4)).data.toList.toArray⟩ : ByteArray) = strOfNums (written 16 r 4) by apply ByteArray.ext; simp, hrd.1, hw]
    · have hc : Lib.cut (strOfNums (cfT 1 r)).data.toList romL = ([68, 77, 65], (strOfNums (written 16 r 4)).data.toList, true) := by
        refine key 68 77 65 (by decide) (strOfNums (written 16 r 4)) _ ?_ ?_
        · rw [cfT_str1 r h2]; simp [ByteArray.data_append, romL]
        · rw [cfT_str1 r h2]
          intro j hj
          rcases (show j = 0 ∨ j = 1 ∨ j = 2 by omega) with rfl | rfl | rfl <;> (simp [ByteArray.data_append, Lib.occAt, romL]; rfl)
      constructor
      · unfold cutK; rw [hc]; rfl
      · unfold cutR; rw [hc]
        show wrap64 (numV 16 16 (nums ⟨(strOfNums (written 16 r 4)).data.toList.toArray⟩)) = r
        rw [show (⟨(strOfNums (written 16 r 4)).data.toList.toArray⟩ : ByteArray) = strOfNums (written 16 r 4) by apply ByteArray.ext; simp, hrd.1, hw]
  · obtain rfl : r = 65536 := by omega
    rcases hk with rfl | rfl
    · have e : strOfNums (cfT 0 65536) = ⟨#[84, 83, 67]⟩ := by simp [cfT]; rfl
      rw [e]; exact cut_tsc
    · have e : strOfNums (cfT 1 65536) = ⟨#[68, 77, 65]⟩ := by simp [cfT]; rfl
      rw [e]; exact cut_dma
theorem cfRead_any (s : ByteArray) (w : World) (hM : MaxL w) (hs : s.size ≤ 1000) : Calls Try.prog 13 #[.string s] w fun e w' => (tellT s = s ∧ e = .returned (.tuple #[.agg (cfA (cutK s) (cutR s)), .int .i64 0]) ∨ tellT s ≠ s ∧ e = .returned (.tuple #[.agg (cfA 0 0), .int .i64 21])) ∧ Below w.heap.size w w' := by
  have CT := Lib.hid (fun u h => told_any s u h hs)
  have CX := Lib.hid (fun u => cfText_any (cutK s) (cutR s) u)
  have HM := Lib.hid hM
  have HT : Hid (tellT s = strOfNums (if cfOk (cutK s) (cutR s) then cfT (cutK s) (cutR s) else [])) := Lib.hid rfl
  rw [← HT.out] at CX
  generalize cutK s = k at *
  generalize cutR s = r at *
  generalize tellT s = T at *
  clear hs hM HT
  by_cases h : T = s
  case' pos => have hE : (T.toList == s.toList) = true := by rw [h]; simp
  case' neg => have hE : (T.toList == s.toList) = false := toList_ne h
  all_goals
    have H := Lib.hid h
    clear h
    go_enter Try.func13, Try.ntmps13
    go_wp2_with fail
    refine (CT.out _ (MaxL.below HM.out (Below.alloc0 (Below.refl _ w) _))).mono ?_
    rintro e w1 ⟨rfl, hb⟩
    have HB := Lib.hid (Below.trans0 (Below.alloc0 (Below.refl _ w) _) hb)
    have P0 := Lib.hid (Blk.below (Blk.new w 23 _ (0, 0)) hb (by simp))
    clear hb
    go_wp2_with fail
    refine (CX.out _).mono ?_
    rintro e w2 ⟨rfl, hb⟩
    have HB2 := Lib.hid (Below.trans0 (Below.alloc0 HB.out _) hb)
    have P2 := Lib.hid (Blk.below (Blk.alloc P0.out (Obj.cells #[.int .i64 k, .int .i64 r] 23)) hb (by have := P0.out.lt; simp; omega))
    have P4 := Lib.hid (Blk.below (Blk.new w1 23 #[.int .i64 k, .int .i64 r] (0, 0)) hb (by simp))
    clear hb P0
    obtain ⟨⟨p0, p1⟩, f0, f1⟩ := Blk.b2 P2.out
    obtain ⟨q0, q1⟩ := Blk.c2 P4.out
    go_wp2
    first
      | (have r0 := World.cell?_setCell_same _ _ (.int .i64 k) p0; have r1 := World.cell?_setCell_same _ _ (.int .i64 r) ((World.cell?_setCell_other w2 ⟨w.heap.size, 0, none⟩ ⟨w.heap.size, 1, none⟩ (.int .i64 k) (by simp)).trans p1); refine bodyPost_ret (v := .tuple #[.agg (cfA k r), .int .i64 0]) (by simp [results, Try.results13, go_sem, r0, r1] <;> rfl) rfl ⟨.inl ⟨H.out, rfl⟩, Below.set0 (Below.set0 HB2.out (Nat.le_refl _) _) (Nat.le_refl _) _⟩; done)
      | (have r0 := World.cell?_setCell_same _ _ (.int .i64 0) p0; have r1 := World.cell?_setCell_same _ _ (.int .i64 0) ((World.cell?_setCell_other w2 ⟨w.heap.size, 0, none⟩ ⟨w.heap.size, 1, none⟩ (.int .i64 0) (by simp)).trans p1); refine bodyPost_ret (v := .tuple #[.agg (cfA 0 0), .int .i64 21]) (by simp [results, Try.results13, go_sem, r0, r1] <;> rfl) rfl ⟨.inr ⟨H.out, rfl⟩, Below.set0 (Below.set0 HB2.out (Nat.le_refl _) _) (Nat.le_refl _) _⟩; done)
theorem tell_same (k r : Int) (h : cfOk k r = true) : tellT (strOfNums (cfT k r)) = strOfNums (cfT k r) := by
  obtain ⟨e1, e2⟩ := tell_back k r h
  unfold tellT
  rw [e1, e2, if_pos h]
theorem cfBack_any (k r : Int) (h : cfOk k r = true) (w : World) (hM : MaxL w) : Calls Try.prog 13 #[.string (strOfNums (cfT k r))] w fun e w' => e = .returned (.tuple #[.agg (cfA k r), .int .i64 0]) ∧ Below w.heap.size w w' := by
  have hr := h
  simp only [cfOk, Bool.and_eq_true, decide_eq_true_eq] at hr
  have hz := cfT_size k r hr.2.1 hr.2.2
  obtain ⟨e1, e2⟩ := tell_back k r h
  refine (cfRead_any _ w hM (by omega)).mono ?_
  rintro e w' ⟨(⟨-, h2⟩ | ⟨h1, -⟩), hb⟩
  · rw [e1, e2] at h2; exact ⟨h2, hb⟩
  · exact absurd (tell_same k r h) h1
theorem cf_F000 : strOfNums (cfT 1 61440) = ⟨#[68, 77, 65, 32, 82, 79, 77, 32, 70, 48, 48, 48]⟩ := by
  have hn : Need 16 61440 4 4 := ⟨by decide, by decide, .inl rfl⟩
  have e : written 16 61440 4 = [70, 48, 48, 48] := by rw [written_eq (by decide) hn]; decide +kernel
  rw [cfT_str1 _ (by decide), e]; rfl
theorem alive33 (w : World) : Calls Try.prog 12 #[] w fun e w' => e = .returned (.bool true) ∧ Below w.heap.size w w' := by
  have CT := Lib.hid (fun u => cfText_any 1 61440 u)
  rw [show cfOk 1 61440 = true by decide, if_pos rfl, cf_F000] at CT
  go_enter Try.func12, Try.ntmps12
  go_wp2_with fail
  refine (CT.out _).mono ?_
  rintro e w1 ⟨rfl, hb⟩
  go_wp2
  go_ret
  exact ⟨rfl, hb⟩
end Go.Proofs.Ytfjkbjkbpbnalaa
