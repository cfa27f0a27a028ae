/- Contracts: symbols.Right, spinetref41.Right, spinetref41.Letter. -/
import Derived.Test.YtopkjniegncokaaSymN
namespace Go.Proofs.Ytopkjniegncokaa
open Go.ChangeShapes Go.WideShapes Go.ChangeAt Go.RowKit
set_option linter.unusedVariables false

theorem symLetter_any (c : Int) (w : World) (h0 : 0 ≤ c) (h1 : c < 256) : Calls Try.prog 18 #[.int .u8 c] w fun e w' => e = .returned (.bool (letC c)) ∧ w = w' := by
  by_cases a1 : 65 ≤ c
  all_goals by_cases a2 : c ≤ 90
  all_goals by_cases a3 : 97 ≤ c
  all_goals by_cases a4 : c ≤ 122
  all_goals by_cases a5 : c = 46
  all_goals by_cases a6 : c = 95
  all_goals try (exfalso; omega)
  all_goals
    try subst a5
    try subst a6
    try have b5 : (c == 46) = false := by simpa using a5
    try have b6 : (c == 95) = false := by simpa using a6
    go_enter Try.func18, Try.ntmps18
    go_wp2
    go_ret
    exact ⟨ret_bool (by first | decide | (cases hL : letC _ <;> simp only [letC, Bool.or_eq_true, Bool.or_eq_false_iff, Bool.and_eq_true, Bool.and_eq_false_iff, decide_eq_true_eq, decide_eq_false_iff_not] at hL <;> first | rfl | (exfalso; omega))), rfl⟩
theorem symFigure_any (c : Int) (w : World) (h0 : 0 ≤ c) (h1 : c < 256) : Calls Try.prog 17 #[.int .u8 c] w fun e w' => e = .returned (.bool (figC c)) ∧ w = w' := by
  by_cases a1 : 48 ≤ c
  all_goals by_cases a2 : c ≤ 57
  all_goals try (exfalso; omega)
  all_goals
    go_enter Try.func17, Try.ntmps17
    go_wp2
    go_ret
    exact ⟨ret_bool (by simp [figC, *]), rfl⟩
theorem refLetter_any (c : Int) (w : World) (h0 : 0 ≤ c) (h1 : c < 256) : Calls Try.prog 19 #[.int .u8 c] w fun e w' => e = .returned (.bool (letC c)) ∧ w = w' := by
  by_cases a1 : 65 ≤ c
  all_goals by_cases a2 : c ≤ 90
  all_goals by_cases a3 : 97 ≤ c
  all_goals by_cases a4 : c ≤ 122
  all_goals by_cases a5 : c = 46
  all_goals by_cases a6 : c = 95
  all_goals try (exfalso; omega)
  all_goals
    try subst a5
    try subst a6
    try have b5 : (c == 46) = false := by simpa using a5
    try have b6 : (c == 95) = false := by simpa using a6
    go_enter Try.func19, Try.ntmps19
    go_wp2
    go_ret
    exact ⟨ret_bool (by first | decide | (cases hL : letC _ <;> simp only [letC, Bool.or_eq_true, Bool.or_eq_false_iff, Bool.and_eq_true, Bool.and_eq_false_iff, decide_eq_true_eq, decide_eq_false_iff_not] at hL <;> first | rfl | (exfalso; omega))), rfl⟩
set_option maxRecDepth 100000 in
set_option maxHeartbeats 1000000 in
theorem symRight_any (s : ByteArray) (w : World) : Calls Try.prog 4 #[.string s] w fun e w' => e = .returned (.bool (rightL (nums s))) ∧ w = w' := by
  have HL := Lib.hid (nums_len s)
  have hb := get_nums s
  by_cases he : s.size = 0
  · have HR : Hid (rightL (nums s) = false) := Lib.hid (by unfold rightL; rw [HL.out, he]; rfl)
    obtain rfl : s = ByteArray.empty := ByteArray.size_eq_zero_iff.1 he
    clear hb
    go_enter Try.func4, Try.ntmps4
    go_wp2
    go_ret
    exact ⟨ret_bool HR.out.symm, rfl⟩
  · have hne : s.toList.isEmpty = false := empty_beqS s (by omega)
    have hgt : 0 < s.size := by omega
    obtain ⟨r0, r1⟩ := iat_nums_range s 0
    by_cases hbig : 16 < s.size
    · have HR : Hid (rightL (nums s) = false) := Lib.hid (by unfold rightL; rw [HL.out, decide_eq_false (show ¬ s.size ≤ 16 by omega)]; simp)
      have hbi : (16 : Int) < (s.size : Int) := by omega
      clear he
      go_enter Try.func4, Try.ntmps4
      go_wp2
      go_ret
      exact ⟨ret_bool HR.out.symm, rfl⟩
    · have hsm : ¬ (16 : Int) < (s.size : Int) := by omega
      by_cases hf : figC (iat (nums s) 0) = true
      · have HR : Hid (rightL (nums s) = false) := Lib.hid (by unfold rightL; rw [let_fig _ hf]; simp)
        clear he hbig
        go_enter Try.func4, Try.ntmps4
        go_wp2_with (go_at_call 17; refine (symFigure_any _ _ r0 r1).mono ?_; rintro e w' ⟨rfl, rfl⟩)
        go_ret
        exact ⟨ret_bool HR.out.symm, rfl⟩
      · have hf' : figC (iat (nums s) 0) = false := by simpa using hf
        have HF := Lib.hid hf'
        clear he hbig hf
        go_enter Try.func4, Try.ntmps4
        go_wp2_with (go_at_call 17; refine (symFigure_any _ _ r0 r1).mono ?_; rintro e w' ⟨rfl, rfl⟩)
        clear hf'
        go_loop [18] (fun i => ∃ k : Nat, k ≤ s.size ∧ i = .int .i64 k ∧ Hid (((nums s).take k).all worC = true)) (fun i => s.size - (intOf i).toNat)
        case atStart => exact ⟨0, Nat.zero_le _, rfl, Lib.hid rfl⟩
        case round =>
          obtain ⟨k, hk, rfl, hall⟩ := hrel
          by_cases hlt : k < s.size
          · obtain ⟨x0, x1⟩ := iat_nums_range s k
            have hlk : k < (nums s).length := by rw [HL.out]; exact hlt
            cases hL : letC (iat (nums s) k)
            · cases hG : figC (iat (nums s) k)
              · have HR : Hid (rightL (nums s) = false) := Lib.hid (by unfold rightL; rw [all_bad worC _ _ hlk (by simp [worC, hL, hG])]; simp)
                go_wp2_with (first
                  | (go_at_call 18; refine (symLetter_any _ _ x0 x1).mono ?_; rintro e w' ⟨rfl, rfl⟩)
                  | (go_at_call 17; refine (symFigure_any _ _ x0 x1).mono ?_; rintro e w' ⟨rfl, rfl⟩))
                go_ret
                exact ⟨ret_bool HR.out.symm, rfl⟩
              · have hnx : Hid (((nums s).take (k + 1)).all worC = true) := Lib.hid (by rw [all_take worC _ _ hlk, hall.out]; simp [worC, hG])
                go_wp2_with (first
                  | (go_at_call 18; refine (symLetter_any _ _ x0 x1).mono ?_; rintro e w' ⟨rfl, rfl⟩)
                  | (go_at_call 17; refine (symFigure_any _ _ x0 x1).mono ?_; rintro e w' ⟨rfl, rfl⟩))
                go_round
                case rel => exact ⟨k + 1, by omega, by go_num, hnx⟩
                case measure => simp [intOf]; omega
            · have hnx : Hid (((nums s).take (k + 1)).all worC = true) := Lib.hid (by rw [all_take worC _ _ hlk, hall.out]; simp [worC, hL])
              go_wp2_with (go_at_call 18; refine (symLetter_any _ _ x0 x1).mono ?_; rintro e w' ⟨rfl, rfl⟩)
              go_round
              case rel => exact ⟨k + 1, by omega, by go_num, hnx⟩
              case measure => simp [intOf]; omega
          · have HR : Hid (rightL (nums s) = true) := Lib.hid (by
              have ha := hall.out
              rw [List.take_of_length_le (by rw [HL.out]; omega)] at ha
              have h0 : worC (iat (nums s) 0) = true := by
                rw [iat_eq _ _ (by rw [HL.out]; exact hgt)]
                exact List.all_eq_true.1 ha _ (List.getElem_mem _)
              have hl0 : letC (iat (nums s) 0) = true := by simpa [worC, HF.out] using h0
              unfold rightL
              rw [HL.out, ha, hl0, decide_eq_true (show 1 ≤ s.size by omega), decide_eq_true (show s.size ≤ 16 by omega)]; rfl)
            go_wp2
            go_ret
            exact ⟨ret_bool HR.out.symm, rfl⟩
set_option maxRecDepth 100000 in
set_option maxHeartbeats 1000000 in
theorem refRight_any (s : ByteArray) (w : World) : Calls Try.prog 5 #[.string s] w fun e w' => e = .returned (.bool (rightL (nums s))) ∧ w = w' := by
  have HL := Lib.hid (nums_len s)
  have hb := get_nums s
  by_cases he : s.size = 0
  · have HR : Hid (rightL (nums s) = false) := Lib.hid (by unfold rightL; rw [HL.out, he]; rfl)
    have hlt1 : (s.size : Int) < 1 := by omega
    clear hb
    go_enter Try.func5, Try.ntmps5
    go_wp2
    go_ret
    exact ⟨ret_bool HR.out.symm, rfl⟩
  · have hgt : 0 < s.size := by omega
    have hge1 : ¬ (s.size : Int) < 1 := by omega
    obtain ⟨r0, r1⟩ := iat_nums_range s 0
    by_cases hbig : 16 < s.size
    · have HR : Hid (rightL (nums s) = false) := Lib.hid (by unfold rightL; rw [HL.out, decide_eq_false (show ¬ s.size ≤ 16 by omega)]; simp)
      have hbi : (16 : Int) < (s.size : Int) := by omega
      clear he
      go_enter Try.func5, Try.ntmps5
      go_wp2
      go_ret
      exact ⟨ret_bool HR.out.symm, rfl⟩
    · have hsm : ¬ (16 : Int) < (s.size : Int) := by omega
      cases hf : letC (iat (nums s) 0)
      · have HR : Hid (rightL (nums s) = false) := Lib.hid (by unfold rightL; rw [hf]; simp)
        clear he hbig
        go_enter Try.func5, Try.ntmps5
        go_wp2_with (go_at_call 19; refine (refLetter_any _ _ r0 r1).mono ?_; rintro e w' ⟨rfl, rfl⟩)
        go_ret
        exact ⟨ret_bool HR.out.symm, rfl⟩
      · have HF := Lib.hid hf
        have hF0 : Hid (((nums s).take 1).all worC = true) := Lib.hid (by rw [all_take worC _ 0 (by rw [HL.out]; exact hgt)]; simp [worC, hf])
        clear he hbig
        go_enter Try.func5, Try.ntmps5
        go_wp2_with (go_at_call 19; refine (refLetter_any _ _ r0 r1).mono ?_; rintro e w' ⟨rfl, rfl⟩)
        clear hf
        go_loop [3] (fun i => ∃ k : Nat, 1 ≤ k ∧ k ≤ s.size ∧ i = .int .i64 k ∧ Hid (((nums s).take k).all worC = true)) (fun i => s.size - (intOf i).toNat)
        case atStart => exact ⟨1, Nat.le_refl _, hgt, rfl, hF0⟩
        case round =>
          obtain ⟨k, hk1, hk, rfl, hall⟩ := hrel
          by_cases hlt : k < s.size
          · obtain ⟨x0, x1⟩ := iat_nums_range s k
            have hlk : k < (nums s).length := by rw [HL.out]; exact hlt
            have hnx : letC (iat (nums s) k) = true ∨ figC (iat (nums s) k) = true → Hid (((nums s).take (k + 1)).all worC = true) := fun h => Lib.hid (by
              rw [all_take worC _ _ hlk, hall.out]; rcases h with h | h <;> simp [worC, h])
            have hno : letC (iat (nums s) k) = false → figC (iat (nums s) k) = false → Hid (rightL (nums s) = false) := fun h1 h2 => Lib.hid (by
              unfold rightL; rw [all_bad worC _ _ hlk (by simp [worC, h1, h2])]; simp)
            have HN := Lib.hid hnx
            have HO := Lib.hid hno
            clear hnx hno
            cases hL : letC (iat (nums s) k)
            · by_cases g1 : iat (nums s) k < 48
              · have g2 : figC (iat (nums s) k) = false := by simp only [figC, Bool.and_eq_false_iff, decide_eq_false_iff_not]; omega
                have HR := HO.out hL g2
                clear g2
                go_wp2_with (go_at_call 19; refine (refLetter_any _ _ x0 x1).mono ?_; rintro e w' ⟨rfl, rfl⟩)
                go_ret
                exact ⟨ret_bool HR.out.symm, rfl⟩
              · by_cases g3 : 57 < iat (nums s) k
                · have g2 : figC (iat (nums s) k) = false := by simp only [figC, Bool.and_eq_false_iff, decide_eq_false_iff_not]; omega
                  have HR := HO.out hL g2
                  clear g2
                  go_wp2_with (go_at_call 19; refine (refLetter_any _ _ x0 x1).mono ?_; rintro e w' ⟨rfl, rfl⟩)
                  go_ret
                  exact ⟨ret_bool HR.out.symm, rfl⟩
                · have g2 : figC (iat (nums s) k) = true := by simp only [figC, Bool.and_eq_true, decide_eq_true_eq]; omega
                  have HR := HN.out (.inr g2)
                  clear g2
                  go_wp2_with (go_at_call 19; refine (refLetter_any _ _ x0 x1).mono ?_; rintro e w' ⟨rfl, rfl⟩)
                  go_round
                  case rel => exact ⟨k + 1, by omega, by omega, by go_num, HR⟩
                  case measure => simp [intOf]; omega
            · have HR := HN.out (.inl hL)
              go_wp2_with (go_at_call 19; refine (refLetter_any _ _ x0 x1).mono ?_; rintro e w' ⟨rfl, rfl⟩)
              go_round
              case rel => exact ⟨k + 1, by omega, by omega, by go_num, HR⟩
              case measure => simp [intOf]; omega
          · have HR : Hid (rightL (nums s) = true) := Lib.hid (by
              have ha := hall.out
              rw [List.take_of_length_le (by rw [HL.out]; omega)] at ha
              unfold rightL
              rw [HL.out, ha, HF.out, decide_eq_true (show 1 ≤ s.size by omega), decide_eq_true (show s.size ≤ 16 by omega)]; rfl)
            go_wp2
            go_ret
            exact ⟨ret_bool HR.out.symm, rfl⟩
end Go.Proofs.Ytopkjniegncokaa
