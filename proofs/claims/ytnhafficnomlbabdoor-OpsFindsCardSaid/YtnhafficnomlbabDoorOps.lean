/- Contracts of package ops: names. -/
import Derived.Test.YtnhafficnomlbabDoorOpsT
import Derived.Deep.DeepCutAuto
namespace Go.Proofs.YtnhafficnomlbabDoor
open Go.ChangeShapes Go.WideShapes Go.ChangeAt Go.RowKit
set_option linter.unusedVariables false
def MaxO (w : World) : Prop := ∃ m, w.cell? ⟨2, 0, none⟩ = some (.int .i64 m)
def CndAt (w : World) : Prop := ∀ k, k < 16 → w.cell? ⟨3, k, none⟩ = some (.string (byteStr (cndNames.getD k [])))
def StmAt (w : World) : Prop := ∀ k, k < 52 → w.cell? ⟨0, k, none⟩ = some (.string (byteStr (stemNames.getD k [])))
/-- All tables read as listed, and the library's own variable holds some number. -/
def TabO (w : World) : Prop := OregAt w ∧ CndAt w ∧ StmAt w ∧ MaxO w
theorem TabO.below {w w' : World} (h : TabO w) (hb : Below w.heap.size w w') : TabO w' := by
  obtain ⟨h1, h2, h3, m, h4⟩ := h
  exact ⟨h1.below hb, fun k hk => (hb.cell (p := ⟨3, k, none⟩) (cell_lt (h2 k hk))).trans (h2 k hk), fun k hk => (hb.cell (p := ⟨0, k, none⟩) (cell_lt (h3 k hk))).trans (h3 k hk), m, (hb.cell (p := ⟨2, 0, none⟩) (cell_lt h4)).trans h4⟩
theorem TabO.drewN {w : World} (h : TabO w) (n : Nat) : TabO (w.drewN n) := h
theorem regI_at (k : Nat) (hk : k < 12) : byteStr (regI (k : Int)) = regS k := by
  unfold regI regS
  rw [if_pos (by omega)]; rfl
theorem byteStr_list (s : Txt) : (byteStr s).toList = s := by rw [ByteArray.toList_eq]; rfl
theorem opsRegI_any (r : Int) (w : World) (hT : OregAt w) :
    Calls Tryd.prog 21 #[.int .i64 r] w fun e w' => e = .returned (.string (byteStr (regI r))) ∧ w = w' := by
  by_cases h0 : 0 ≤ r
  · by_cases h1 : r < 12
    · obtain ⟨k, rfl⟩ := Int.eq_ofNat_of_zero_le h0
      have hc := hT k (by omega)
      rw [regI_at k (by omega)]
      clear hT
      generalize regS k = s at hc ⊢
      go_enter Tryd.func21, Tryd.ntmps21
      go_wp2
      go_ret
      exact ⟨rfl, rfl⟩
    · have h2 : (12 : Int) ≤ r := by omega
      rw [show regI r = [] by unfold regI; rw [if_neg (by omega)]]
      go_enter Tryd.func21, Tryd.ntmps21
      go_wp2
      go_ret
      exact ⟨rfl, rfl⟩
  · have h2 : r < 0 := by omega
    rw [show regI r = [] by unfold regI; rw [if_neg (by omega)]]
    go_enter Tryd.func21, Tryd.ntmps21
    go_wp2
    go_ret
    exact ⟨rfl, rfl⟩
theorem knownO (n : Int) (w : World) : Calls Tryd.prog 76 #[.int .i64 n] w fun e w' => e = .returned (.bool (decide (0 ≤ n) && decide (n < 16))) ∧ w = w' := by
  by_cases h : 0 ≤ n
  · have h2 : decide (0 ≤ n) = true := by simpa using h
    rw [h2]
    go_enter Tryd.func76, Tryd.ntmps76
    go_wp2
    go_ret
    exact ⟨rfl, rfl⟩
  · have h3 : n < 0 := by omega
    have h2 : decide (0 ≤ n) = false := by simpa using h3
    rw [h2]
    clear h
    go_enter Tryd.func76, Tryd.ntmps76
    go_wp2
    go_ret
    exact ⟨rfl, rfl⟩
theorem cndName_any (r : Int) (w : World) (hT : CndAt w) :
    Calls Tryd.prog 62 #[.int .i64 r] w fun e w' => e = .returned (.string (byteStr (cndI r))) ∧ w = w' := by
  by_cases h : 0 ≤ r ∧ r < 16
  · obtain ⟨h0, h1⟩ := h
    have CK := Lib.hid (knownO r w)
    rw [show decide (0 ≤ r) = true by simpa using h0, show decide (r < 16) = true by simpa using h1] at CK
    obtain ⟨k, rfl⟩ := Int.eq_ofNat_of_zero_le h0
    have hc := hT k (by omega)
    rw [show cndI (k : Int) = cndNames.getD k [] by unfold cndI; rw [if_pos (by omega)]; rfl]
    clear hT
    generalize byteStr (cndNames.getD k []) = s at hc ⊢
    go_enter Tryd.func62, Tryd.ntmps62
    go_wp2_with fail
    refine CK.out.mono ?_
    rintro e w1 ⟨rfl, rfl⟩
    go_wp2
    go_ret
    exact ⟨rfl, rfl⟩
  · have CK := Lib.hid (knownO r w)
    have hf : (decide (0 ≤ r) && decide (r < 16)) = false := by
      rw [Bool.and_eq_false_iff, decide_eq_false_iff_not, decide_eq_false_iff_not]; omega
    rw [hf] at CK
    rw [show cndI r = [] by unfold cndI; rw [if_neg h]]
    clear h hf
    go_enter Tryd.func62, Tryd.ntmps62
    go_wp2_with fail
    refine CK.out.mono ?_
    rintro e w1 ⟨rfl, rfl⟩
    go_wp2
    go_ret
    exact ⟨rfl, rfl⟩
theorem letter_any (r : Int) (B : ByteArray) (hB : B.size < 1000) (w : World) (hT : TabO w) :
    Calls Tryd.prog 48 #[.int .i64 r, .string B] w fun e w' => e = .returned (.tuple #[.string (byteStr (letI' B.data.toList r).1), .bool (letI' B.data.toList r).2]) ∧ w = w' := by
  obtain ⟨m, hm⟩ := hT.2.2.2
  have CR := Lib.hid (opsRegI_any r w hT.1)
  have CC := Lib.hid ((Tryd.strings_Contains B (byteStr (regI r)) m w (by omega) hm).mono (fun e w' h => (⟨h.1, h.2.symm⟩ : e = .returned (.bool (Lib.contains B.data.toList (regI r))) ∧ w = w')))
  have HE := Lib.hid (byteStr_list (regI r))
  unfold letI'
  clear hT hm
  generalize Lib.contains B.data.toList (regI r) = C at *
  cases he : (regI r).isEmpty
  · have e1 : (byteStr (regI r)).toList.isEmpty = false := by rw [HE.out]; exact he
    generalize byteStr (regI r) = t at *
    clear he HE
    go_enter Tryd.func48, Tryd.ntmps48
    go_wp2_with fail
    refine CR.out.mono ?_
    rintro e w1 ⟨rfl, rfl⟩
    go_wp2_with fail
    refine CC.out.mono ?_
    rintro e w1 ⟨rfl, rfl⟩
    go_wp2
    go_ret2
    exact ⟨rfl, rfl⟩
  · have e1 : (byteStr (regI r)).toList.isEmpty = true := by rw [HE.out]; exact he
    generalize byteStr (regI r) = t at *
    clear he HE
    go_enter Tryd.func48, Tryd.ntmps48
    go_wp2_with fail
    refine CR.out.mono ?_
    rintro e w1 ⟨rfl, rfl⟩
    go_wp2
    go_ret2
    exact ⟨rfl, rfl⟩
theorem condition_any (r least : Int) (w : World) (hT : CndAt w) :
    Calls Tryd.prog 49 #[.int .i64 r, .int .i64 least] w fun e w' => e = .returned (.tuple #[.string (byteStr (cndE least r).1), .bool (cndE least r).2]) ∧ w = w' := by
  have CR := Lib.hid (cndName_any r w hT)
  have HE := Lib.hid (byteStr_list (cndI r))
  unfold cndE
  clear hT
  cases he : (cndI r).isEmpty
  · have e1 : (byteStr (cndI r)).toList.isEmpty = false := by rw [HE.out]; exact he
    generalize byteStr (cndI r) = t at *
    clear he HE
    go_enter Tryd.func49, Tryd.ntmps49
    go_wp2_with fail
    refine CR.out.mono ?_
    rintro e w1 ⟨rfl, rfl⟩
    go_wp2
    go_ret2
    exact ⟨rfl, rfl⟩
  · have e1 : (byteStr (cndI r)).toList.isEmpty = true := by rw [HE.out]; exact he
    generalize byteStr (cndI r) = t at *
    clear he HE
    go_enter Tryd.func49, Tryd.ntmps49
    go_wp2_with fail
    refine CR.out.mono ?_
    rintro e w1 ⟨rfl, rfl⟩
    go_wp2
    go_ret2
    exact ⟨rfl, rfl⟩
theorem interrupt_any (r : Int) (w : World) :
    Calls Tryd.prog 50 #[.int .i64 r] w fun e w' => e = .returned (.tuple #[.string (byteStr (intE r).1), .bool (intE r).2]) ∧ w = w' := by
  by_cases h1 : r = 1
  · subst h1
    go_enter Tryd.func50, Tryd.ntmps50
    go_wp2
    go_ret2
    exact ⟨rfl, rfl⟩
  · by_cases h2 : r = 2
    · subst h2
      go_enter Tryd.func50, Tryd.ntmps50
      go_wp2
      go_ret2
      exact ⟨rfl, rfl⟩
    · by_cases h3 : r = 3
      · subst h3
        go_enter Tryd.func50, Tryd.ntmps50
        go_wp2
        go_ret2
        exact ⟨rfl, rfl⟩
      · have e1 : (r == 1) = false := by simpa using h1
        have e2 : (r == 2) = false := by simpa using h2
        have e3 : (r == 3) = false := by simpa using h3
        have HE : Hid (intE r = ([], false)) := Lib.hid (by unfold intE; rw [if_neg h1, if_neg h2, if_neg h3])
        rw [HE.out]
        clear h1 h2 h3
        go_enter Tryd.func50, Tryd.ntmps50
        go_wp2
        go_ret2
        exact ⟨rfl, rfl⟩
set_option maxRecDepth 100000 in
set_option maxHeartbeats 4000000 in
theorem opsGroup_any (op : Int) (w : World) :
    Calls Tryd.prog 19 #[.int .i64 op] w fun e w' => e = .returned (.int .i64 (grpN op)) ∧ w = w' := by
  by_cases h : 2 ≤ op ∧ op ≤ 33 ∧ op ≠ 30 ∧ op ≠ 31
  · rcases (show op = 2 ∨ op = 3 ∨ op = 4 ∨ op = 5 ∨ op = 6 ∨ op = 7 ∨ op = 8 ∨ op = 9 ∨ op = 10 ∨ op = 11 ∨ op = 12 ∨ op = 13 ∨ op = 14 ∨ op = 15 ∨ op = 16 ∨ op = 17 ∨ op = 18 ∨ op = 19 ∨ op = 20 ∨ op = 21 ∨ op = 22 ∨ op = 23 ∨ op = 24 ∨ op = 25 ∨ op = 26 ∨ op = 27 ∨ op = 28 ∨ op = 29 ∨ op = 32 ∨ op = 33 by omega) with rfl | rfl | rfl | rfl | rfl | rfl | rfl | rfl | rfl | rfl | rfl | rfl | rfl | rfl | rfl | rfl | rfl | rfl | rfl | rfl | rfl | rfl | rfl | rfl | rfl | rfl | rfl | rfl | rfl | rfl
    all_goals
      clear h
      go_enter Tryd.func19, Tryd.ntmps19
      go_wp2
      go_ret
      exact ⟨rfl, rfl⟩
  · have HE : Hid (grpN op = 0) := Lib.hid (by
      unfold grpN
      rw [if_neg (by omega), if_neg (by omega), if_neg (by omega), if_neg (by omega), if_neg (by omega), if_neg (by omega), if_neg (by omega), if_neg (by omega), if_neg (by omega), if_neg (by omega)])
    rw [HE.out]
    have e2 : (op == 2) = false := by simp; omega
    have e3 : (op == 3) = false := by simp; omega
    have e4 : (op == 4) = false := by simp; omega
    have e5 : (op == 5) = false := by simp; omega
    have e6 : (op == 6) = false := by simp; omega
    have e7 : (op == 7) = false := by simp; omega
    have e8 : (op == 8) = false := by simp; omega
    have e9 : (op == 9) = false := by simp; omega
    have e10 : (op == 10) = false := by simp; omega
    have e11 : (op == 11) = false := by simp; omega
    have e12 : (op == 12) = false := by simp; omega
    have e13 : (op == 13) = false := by simp; omega
    have e14 : (op == 14) = false := by simp; omega
    have e15 : (op == 15) = false := by simp; omega
    have e16 : (op == 16) = false := by simp; omega
    have e17 : (op == 17) = false := by simp; omega
    have e18 : (op == 18) = false := by simp; omega
    have e19 : (op == 19) = false := by simp; omega
    have e20 : (op == 20) = false := by simp; omega
    have e21 : (op == 21) = false := by simp; omega
    have e22 : (op == 22) = false := by simp; omega
    have e23 : (op == 23) = false := by simp; omega
    have e24 : (op == 24) = false := by simp; omega
    have e25 : (op == 25) = false := by simp; omega
    have e26 : (op == 26) = false := by simp; omega
    have e27 : (op == 27) = false := by simp; omega
    have e28 : (op == 28) = false := by simp; omega
    have e29 : (op == 29) = false := by simp; omega
    have e32 : (op == 32) = false := by simp; omega
    have e33 : (op == 33) = false := by simp; omega
    clear h
    go_enter Tryd.func19, Tryd.ntmps19
    go_wp2
    go_ret
    exact ⟨rfl, rfl⟩
end Go.Proofs.YtnhafficnomlbabDoor
