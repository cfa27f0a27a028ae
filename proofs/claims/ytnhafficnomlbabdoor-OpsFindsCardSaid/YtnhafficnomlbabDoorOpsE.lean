/- Contracts of package ops: what stands behind a stem, and the name. -/
import Derived.Test.YtnhafficnomlbabDoorOps
namespace Go.Proofs.YtnhafficnomlbabDoor
open Go.ChangeShapes Go.WideShapes Go.ChangeAt Go.RowKit
set_option linter.unusedVariables false
def EndPost (op r : Int) (w : World) (e : Ending) (w' : World) : Prop := e = .returned (.tuple #[.string (byteStr (endI op r).1), .bool (endI op r).2]) ∧ w = w'
theorem end24_any (r : Int) (w : World) (hT : TabO w) : Calls Tryd.prog 37 #[.int .i64 24, .int .i64 r] w (EndPost 24 r w) := by
  have CL := Lib.hid (letter_any r ⟨#[68, 88, 89, 85, 83]⟩ (by decide) w hT)
  unfold EndPost
  rw [show endI 24 r = letI' [68, 88, 89, 85, 83] r from rfl]
  clear hT
  go_enter Tryd.func37, Tryd.ntmps37
  go_wp2_with fail
  refine CL.out.mono ?_
  rintro e w1 ⟨rfl, rfl⟩
  go_wp2
  go_ret2
  exact ⟨rfl, rfl⟩
theorem end25_any (r : Int) (w : World) (hT : TabO w) : Calls Tryd.prog 37 #[.int .i64 25, .int .i64 r] w (EndPost 25 r w) := by
  have CL := Lib.hid (letter_any r ⟨#[68, 88, 89, 85, 83]⟩ (by decide) w hT)
  unfold EndPost
  rw [show endI 25 r = letI' [68, 88, 89, 85, 83] r from rfl]
  clear hT
  go_enter Tryd.func37, Tryd.ntmps37
  go_wp2_with fail
  refine CL.out.mono ?_
  rintro e w1 ⟨rfl, rfl⟩
  go_wp2
  go_ret2
  exact ⟨rfl, rfl⟩
theorem end28_any (r : Int) (w : World) (hT : TabO w) : Calls Tryd.prog 37 #[.int .i64 28, .int .i64 r] w (EndPost 28 r w) := by
  have CL := Lib.hid (letter_any r ⟨#[68, 88, 89, 85, 83]⟩ (by decide) w hT)
  unfold EndPost
  rw [show endI 28 r = letI' [68, 88, 89, 85, 83] r from rfl]
  clear hT
  go_enter Tryd.func37, Tryd.ntmps37
  go_wp2_with fail
  refine CL.out.mono ?_
  rintro e w1 ⟨rfl, rfl⟩
  go_wp2
  go_ret2
  exact ⟨rfl, rfl⟩
theorem end26_any (r : Int) (w : World) (hT : TabO w) : Calls Tryd.prog 37 #[.int .i64 26, .int .i64 r] w (EndPost 26 r w) := by
  have CL := Lib.hid (letter_any r ⟨#[68]⟩ (by decide) w hT)
  unfold EndPost
  rw [show endI 26 r = letI' [68] r from rfl]
  clear hT
  go_enter Tryd.func37, Tryd.ntmps37
  go_wp2_with fail
  refine CL.out.mono ?_
  rintro e w1 ⟨rfl, rfl⟩
  go_wp2
  go_ret2
  exact ⟨rfl, rfl⟩
theorem end27_any (r : Int) (w : World) (hT : TabO w) : Calls Tryd.prog 37 #[.int .i64 27, .int .i64 r] w (EndPost 27 r w) := by
  have CL := Lib.hid (letter_any r ⟨#[68]⟩ (by decide) w hT)
  unfold EndPost
  rw [show endI 27 r = letI' [68] r from rfl]
  clear hT
  go_enter Tryd.func37, Tryd.ntmps37
  go_wp2_with fail
  refine CL.out.mono ?_
  rintro e w1 ⟨rfl, rfl⟩
  go_wp2
  go_ret2
  exact ⟨rfl, rfl⟩
theorem end29_any (r : Int) (w : World) (hT : TabO w) : Calls Tryd.prog 37 #[.int .i64 29, .int .i64 r] w (EndPost 29 r w) := by
  have CL := Lib.hid (letter_any r ⟨#[88, 89, 85, 83]⟩ (by decide) w hT)
  unfold EndPost
  rw [show endI 29 r = letI' [88, 89, 85, 83] r from rfl]
  clear hT
  go_enter Tryd.func37, Tryd.ntmps37
  go_wp2_with fail
  refine CL.out.mono ?_
  rintro e w1 ⟨rfl, rfl⟩
  go_wp2
  go_ret2
  exact ⟨rfl, rfl⟩
theorem end30_any (r : Int) (w : World) (hT : TabO w) : Calls Tryd.prog 37 #[.int .i64 30, .int .i64 r] w (EndPost 30 r w) := by
  have CL := Lib.hid (letter_any r ⟨#[85, 83]⟩ (by decide) w hT)
  unfold EndPost
  rw [show endI 30 r = letI' [85, 83] r from rfl]
  clear hT
  go_enter Tryd.func37, Tryd.ntmps37
  go_wp2_with fail
  refine CL.out.mono ?_
  rintro e w1 ⟨rfl, rfl⟩
  go_wp2
  go_ret2
  exact ⟨rfl, rfl⟩
theorem end31_any (r : Int) (w : World) (hT : TabO w) : Calls Tryd.prog 37 #[.int .i64 31, .int .i64 r] w (EndPost 31 r w) := by
  have CL := Lib.hid (letter_any r ⟨#[85, 83]⟩ (by decide) w hT)
  unfold EndPost
  rw [show endI 31 r = letI' [85, 83] r from rfl]
  clear hT
  go_enter Tryd.func37, Tryd.ntmps37
  go_wp2_with fail
  refine CL.out.mono ?_
  rintro e w1 ⟨rfl, rfl⟩
  go_wp2
  go_ret2
  exact ⟨rfl, rfl⟩
theorem end34_any (r : Int) (w : World) (hT : TabO w) : Calls Tryd.prog 37 #[.int .i64 34, .int .i64 r] w (EndPost 34 r w) := by
  have CL := Lib.hid (condition_any r 0 w hT.2.1)
  unfold EndPost
  rw [show endI 34 r = cndE 0 r from rfl]
  clear hT
  go_enter Tryd.func37, Tryd.ntmps37
  go_wp2_with fail
  refine CL.out.mono ?_
  rintro e w1 ⟨rfl, rfl⟩
  go_wp2
  go_ret2
  exact ⟨rfl, rfl⟩
theorem end35_any (r : Int) (w : World) (hT : TabO w) : Calls Tryd.prog 37 #[.int .i64 35, .int .i64 r] w (EndPost 35 r w) := by
  have CL := Lib.hid (condition_any r 1 w hT.2.1)
  unfold EndPost
  rw [show endI 35 r = cndE 1 r from rfl]
  clear hT
  go_enter Tryd.func37, Tryd.ntmps37
  go_wp2_with fail
  refine CL.out.mono ?_
  rintro e w1 ⟨rfl, rfl⟩
  go_wp2
  go_ret2
  exact ⟨rfl, rfl⟩
theorem end51_any (r : Int) (w : World) : Calls Tryd.prog 37 #[.int .i64 51, .int .i64 r] w (EndPost 51 r w) := by
  have CL := Lib.hid (interrupt_any r w)
  unfold EndPost
  rw [show endI 51 r = intE r from rfl]
  go_enter Tryd.func37, Tryd.ntmps37
  go_wp2_with fail
  refine CL.out.mono ?_
  rintro e w1 ⟨rfl, rfl⟩
  go_wp2
  go_ret2
  exact ⟨rfl, rfl⟩
set_option maxHeartbeats 1000000 in
theorem endElse_any (op r : Int) (hop : op ≠ 24 ∧ op ≠ 25 ∧ op ≠ 28 ∧ op ≠ 26 ∧ op ≠ 27 ∧ op ≠ 29 ∧ op ≠ 30 ∧ op ≠ 31 ∧ op ≠ 34 ∧ op ≠ 35 ∧ op ≠ 51) (w : World) (hT : TabO w) : Calls Tryd.prog 37 #[.int .i64 op, .int .i64 r] w (EndPost op r w) := by
  have CL := Lib.hid (letter_any r ⟨#[65, 66]⟩ (by decide) w hT)
  have CG := Lib.hid (opsGroup_any op w)
  have HE : Hid (endI op r = if grpN op = 1 ∨ grpN op = 2 then letI' [65, 66] r else if (grpN op = 3 ∨ grpN op = 4) ∧ r ≠ 0 then letI' [65, 66] r else ([], r == 0)) := Lib.hid (by
    unfold endI
    rw [if_neg (by omega), if_neg (by omega), if_neg (by omega), if_neg (by omega), if_neg (by omega), if_neg (by omega), if_neg (by omega)])
  unfold EndPost
  rw [HE.out]
  have e24 : (op == 24) = false := by simp; omega
  have e25 : (op == 25) = false := by simp; omega
  have e28 : (op == 28) = false := by simp; omega
  have e26 : (op == 26) = false := by simp; omega
  have e27 : (op == 27) = false := by simp; omega
  have e29 : (op == 29) = false := by simp; omega
  have e30 : (op == 30) = false := by simp; omega
  have e31 : (op == 31) = false := by simp; omega
  have e34 : (op == 34) = false := by simp; omega
  have e35 : (op == 35) = false := by simp; omega
  have e51 : (op == 51) = false := by simp; omega
  generalize grpN op = g at *
  clear hop HE hT
  by_cases h1 : g = 1
  · subst h1
    rw [if_pos (.inl rfl)]
    go_enter Tryd.func37, Tryd.ntmps37
    go_wp2_with fail
    refine CG.out.mono ?_
    rintro e w1 ⟨rfl, rfl⟩
    go_wp2_with fail
    refine CL.out.mono ?_
    rintro e w1 ⟨rfl, rfl⟩
    go_wp2
    go_ret2
    exact ⟨rfl, rfl⟩
  · by_cases h2 : g = 2
    · subst h2
      rw [if_pos (.inr rfl)]
      go_enter Tryd.func37, Tryd.ntmps37
      go_wp2_with fail
      refine CG.out.mono ?_
      rintro e w1 ⟨rfl, rfl⟩
      go_wp2_with fail
      refine CL.out.mono ?_
      rintro e w1 ⟨rfl, rfl⟩
      go_wp2
      go_ret2
      exact ⟨rfl, rfl⟩
    · rw [if_neg (by omega)]
      have g1 : (g == 1) = false := by simpa using h1
      have g2 : (g == 2) = false := by simpa using h2
      by_cases h3 : g = 3 ∨ g = 4
      · by_cases hr : r = 0
        · subst hr
          rw [if_neg (by simp)]
          clear h1 h2
          rcases h3 with rfl | rfl
          all_goals
            go_enter Tryd.func37, Tryd.ntmps37
            go_wp2_with fail
            refine CG.out.mono ?_
            rintro e w1 ⟨rfl, rfl⟩
            go_wp2
            go_ret2
            exact ⟨rfl, rfl⟩
        · rw [if_pos ⟨h3, hr⟩]
          have hr2 : (r != 0) = true := by simpa using hr
          clear h1 h2 hr
          rcases h3 with rfl | rfl
          all_goals
            go_enter Tryd.func37, Tryd.ntmps37
            go_wp2_with fail
            refine CG.out.mono ?_
            rintro e w1 ⟨rfl, rfl⟩
            go_wp2_with fail
            refine CL.out.mono ?_
            rintro e w1 ⟨rfl, rfl⟩
            go_wp2
            go_ret2
            exact ⟨rfl, rfl⟩
      · rw [if_neg (by omega)]
        have g3 : (g == 3) = false := by simp; omega
        have g4 : (g == 4) = false := by simp; omega
        clear h1 h2 h3
        go_enter Tryd.func37, Tryd.ntmps37
        go_wp2_with fail
        refine CG.out.mono ?_
        rintro e w1 ⟨rfl, rfl⟩
        go_wp2
        go_ret2
        exact ⟨rfl, rfl⟩
theorem ending_any (op r : Int) (w : World) (hT : TabO w) : Calls Tryd.prog 37 #[.int .i64 op, .int .i64 r] w (EndPost op r w) := by
  by_cases h : op ≠ 24 ∧ op ≠ 25 ∧ op ≠ 28 ∧ op ≠ 26 ∧ op ≠ 27 ∧ op ≠ 29 ∧ op ≠ 30 ∧ op ≠ 31 ∧ op ≠ 34 ∧ op ≠ 35 ∧ op ≠ 51
  · exact endElse_any op r h w hT
  · rcases (show op = 24 ∨ op = 25 ∨ op = 28 ∨ op = 26 ∨ op = 27 ∨ op = 29 ∨ op = 30 ∨ op = 31 ∨ op = 34 ∨ op = 35 ∨ op = 51 by omega) with rfl | rfl | rfl | rfl | rfl | rfl | rfl | rfl | rfl | rfl | rfl
    · exact end24_any r w hT
    · exact end25_any r w hT
    · exact end28_any r w hT
    · exact end26_any r w hT
    · exact end27_any r w hT
    · exact end29_any r w hT
    · exact end30_any r w hT
    · exact end31_any r w hT
    · exact end34_any r w hT
    · exact end35_any r w hT
    · exact end51_any r w
theorem regI_size (r : Int) : (regI r).length ≤ 100 := by
  unfold regI
  split
  · rename_i h
    have : ∀ k : Fin 12, (regNames.getD k.val []).length ≤ 100 := by decide +kernel
    exact this ⟨r.toNat, by omega⟩
  · decide
theorem cndI_size (r : Int) : (cndI r).length ≤ 100 := by
  unfold cndI
  split
  · rename_i h
    have : ∀ k : Fin 16, (cndNames.getD k.val []).length ≤ 100 := by decide +kernel
    exact this ⟨r.toNat, by omega⟩
  · decide
theorem byteStr_size (s : Txt) : (byteStr s).size = s.length := rfl
theorem end_size (op r : Int) : (byteStr (endI op r).1).size ≤ 1000 := by
  rw [byteStr_size]
  have a := regI_size r
  have b := cndI_size r
  have c : (intE r).1.length ≤ 100 := by unfold intE; split <;> (try split) <;> (try split) <;> simp
  unfold endI
  repeat' split
  all_goals first
    | (show (regI r).length ≤ 1000; omega)
    | (show (cndI r).length ≤ 1000; omega)
    | omega
    | simp
theorem byteStr_append (a b : Txt) : byteStr (a ++ b) = byteStr a ++ byteStr b := by
  apply ByteArray.ext
  simp [byteStr]
theorem opsName_any (op r : Int) (w : World) (hT : TabO w) : Calls Tryd.prog 17 #[.int .i64 op, .int .i64 r] w fun e w' => e = .returned (.string (byteStr (nameI op r))) ∧ w = w' := by
  by_cases h0 : 0 < op
  · by_cases h1 : op < 52
    · obtain ⟨k, rfl⟩ := Int.eq_ofNat_of_zero_le (show 0 ≤ op by omega)
      have CE := Lib.hid (ending_any (k : Int) r w hT)
      have hc := hT.2.2.1 k (by omega)
      have HN : Hid (nameI (k : Int) r = if (endI (k : Int) r).2 then stemNames.getD k [] ++ (endI (k : Int) r).1 else []) := Lib.hid (by
        unfold nameI; rw [if_pos ⟨h0, h1⟩]; rfl)
      have hs1 : (byteStr (stemNames.getD k [])).size ≤ 100 := by
        have : ∀ k : Fin 52, (byteStr (stemNames.getD k.val [])).size ≤ 100 := by decide +kernel
        exact this ⟨k, by omega⟩
      have k0 : (0 : Int) ≤ (k : Int) := by omega
      rw [HN.out]
      unfold EndPost at CE
      have hs2 : (byteStr (endI (k : Int) r).1).size ≤ 1000 := end_size _ _
      generalize endI (k : Int) r = E at *
      obtain ⟨x, b⟩ := E
      simp only at CE hs2 ⊢
      have HS : Hid (byteStr (stemNames.getD k [] ++ x) = byteStr (stemNames.getD k []) ++ byteStr x) := Lib.hid (byteStr_append _ _)
      generalize stemNames.getD k [] = s at *
      have hsz : ¬ (9223372036854775807 < (byteStr s).size + (byteStr x).size) := by omega
      clear hT HN hs1 hs2
      cases b
      · go_enter Tryd.func17, Tryd.ntmps17
        go_wp2_with fail
        refine CE.out.mono ?_
        rintro e w1 ⟨rfl, rfl⟩
        go_wp2
        go_ret
        exact ⟨rfl, rfl⟩
      · rw [if_pos rfl, HS.out]
        generalize byteStr s = S at *
        generalize byteStr x = X at *
        go_enter Tryd.func17, Tryd.ntmps17
        go_wp2_with fail
        refine CE.out.mono ?_
        rintro e w1 ⟨rfl, rfl⟩
        go_wp2
        go_ret
        exact ⟨rfl, rfl⟩
    · have h2 : (52 : Int) ≤ op := by omega
      rw [show nameI op r = [] by unfold nameI; rw [if_neg (by omega)]]
      clear hT
      go_enter Tryd.func17, Tryd.ntmps17
      go_wp2
      go_ret
      exact ⟨rfl, rfl⟩
  · have h2 : op ≤ 0 := by omega
    rw [show nameI op r = [] by unfold nameI; rw [if_neg (by omega)]]
    clear hT h0
    go_enter Tryd.func17, Tryd.ntmps17
    go_wp2
    go_ret
    exact ⟨rfl, rfl⟩
end Go.Proofs.YtnhafficnomlbabDoor
