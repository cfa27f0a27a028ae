/- Contracts of package srec: right, begins, Read. -/
import Derived.Test.YtnmgjgeniaheoabDoorSrN
import Derived.Test.YtnmgjgeniaheoabDoorStc
import Derived.Test.YtnmgjgeniaheoabDoorOct
import Derived.Test.YtnmgjgeniaheoabDoorDigNums
namespace Go.Proofs.YtnmgjgeniaheoabDoor
open Go.ChangeShapes Go.WideShapes Go.ChangeAt Go.RowKit
set_option linter.unusedVariables false

theorem own_eY {t : TypeId} {w : World} {base : Nat} {v : Value} {zs : List Int} (h : Own .u8 t w base v zs) : eY.Own t w base v zs := by
  show w.ownsRow base t 1 v zs.length (eY.cells zs)
  rw [eY_cells]; exact h
def rightB (k : Int) (n : Nat) : Bool := (decide (k = 0) || decide (k = 1)) && decide (n ≤ 252) || decide (k = 9) && decide (n = 0)
set_option maxRecDepth 100000 in
theorem srRight_any (k a : Int) (A : Option Addr) (n c : Nat) (w : World) :
    Calls Tryd.prog 49 #[.agg #[.int .i64 k, .int .u16 a, .slice A n c]] w fun e w' => e = .returned (.bool (rightB k n)) ∧ Below w.heap.size w w' := by
  by_cases k0 : k = 0
  · subst k0
    by_cases hn : n ≤ 252
    all_goals
      have hR : Hid (rightB 0 n = decide (n ≤ 252)) := Lib.hid (by simp [rightB])
      go_enter Tryd.func49, Tryd.ntmps49
      go_wp2
      go_ret
      exact ⟨ret_bool (by rw [hR.out]; simp [hn] <;> omega), Below.alloc0 (Below.refl _ _) _⟩
  by_cases k1 : k = 1
  · subst k1
    by_cases hn : n ≤ 252
    all_goals
      have hR : Hid (rightB 1 n = decide (n ≤ 252)) := Lib.hid (by simp [rightB])
      go_enter Tryd.func49, Tryd.ntmps49
      go_wp2
      go_ret
      exact ⟨ret_bool (by rw [hR.out]; simp [hn] <;> omega), Below.alloc0 (Below.refl _ _) _⟩
  have b0 : (k == 0) = false := by simpa using k0
  have b1 : (k == 1) = false := by simpa using k1
  by_cases k9 : k = 9
  · subst k9
    by_cases hn : n = 0
    all_goals
      have hR : Hid (rightB 9 n = decide (n = 0)) := Lib.hid (by simp [rightB])
      clear k0 k1
      go_enter Tryd.func49, Tryd.ntmps49
      go_wp2
      go_ret
      exact ⟨ret_bool (by rw [hR.out]; simp [hn] <;> omega), Below.alloc0 (Below.refl _ _) _⟩
  have b9 : (k == 9) = false := by simpa using k9
  have hR : Hid (rightB k n = false) := Lib.hid (by simp [rightB, k0, k1, k9])
  clear k0 k1 k9
  go_enter Tryd.func49, Tryd.ntmps49
  go_wp2
  go_ret
  exact ⟨ret_bool hR.out.symm, Below.alloc0 (Below.refl _ _) _⟩
set_option maxRecDepth 100000 in
set_option maxHeartbeats 1000000 in
theorem srBegins_any (s : ByteArray) (w : World) (hs : s.size ≤ 1099511627776) :
    Calls Tryd.prog 56 #[.string s] w fun e w' => Below w.heap.size w w' ∧
      ((srK (nums s) < 0 ∧ e = .returned (.tuple #[.int .i64 0, .string ⟨#[]⟩])) ∨ (0 ≤ srK (nums s) ∧ e = .returned (.tuple #[.int .i64 (srK (nums s)), .string (strOfNums ((nums s).drop 2))]))) := by
  have CD := Lib.hid (fun (n : Int) (h : n = 0 ∨ n = 1 ∨ n = 9) u => dec_any n u (by omega) (by omega))
  have D1 := Lib.hid dec1
  have CP := Lib.hid (fun (d : Int) u => cutPre_any s (strOfNums [83, d]) u hs (by rw [strOfNums_size]; simp))
  have HS2 : Hid (∀ d : Int, 0 ≤ d ∧ d < 256 → nums (strOfNums [83, d]) = [83, d] ∧ (strOfNums [83, d]).size = 2) := Lib.hid (fun d hd => ⟨str_nums _ (by intro x hx; simp at hx; rcases hx with rfl | rfl; decide; exact hd), by rw [strOfNums_size]; rfl⟩)
  have HA : Hid (∀ d : Int, (⟨#[83]⟩ : ByteArray) ++ strOfNums [d] = strOfNums [83, d]) := Lib.hid (fun d => by rw [show (⟨#[83]⟩ : ByteArray) = strOfNums [83] from rfl, strOf_append]; rfl)
  have z1 : ∀ d : Int, (strOfNums [d]).size = 1 := fun d => by rw [strOfNums_size]; rfl
  have hix0 : ∀ u : World, (Instr.index 160 (.agg #[.int .i64 0, .int .i64 1, .int .i64 9]) (.int .i64 0)).run Tryd.prog u = .ok (.int .i64 0) u := fun u => by kernel_rfl
  have hix1 : ∀ u : World, (Instr.index 160 (.agg #[.int .i64 0, .int .i64 1, .int .i64 9]) (.int .i64 1)).run Tryd.prog u = .ok (.int .i64 1) u := fun u => by kernel_rfl
  have hix2 : ∀ u : World, (Instr.index 160 (.agg #[.int .i64 0, .int .i64 1, .int .i64 9]) (.int .i64 2)).run Tryd.prog u = .ok (.int .i64 9) u := fun u => by kernel_rfl
  have HK : Hid (srK (nums s) = if preL [83, 48] (nums s) then 0 else if preL [83, 49] (nums s) then 1 else if preL [83, 57] (nums s) then 9 else -1) := Lib.hid rfl
  go_enter Tryd.func56, Tryd.ntmps56
  go_wp2
  go_loopw [9] (fun i wr => Hid (Below w.heap.size w wr) ∧ (i = .int .i64 0 ∨ (i = .int .i64 1 ∧ Hid (preL [83, 48] (nums s) = false)) ∨ (i = .int .i64 2 ∧ Hid (preL [83, 48] (nums s) = false ∧ preL [83, 49] (nums s) = false)) ∨
    (i = .int .i64 3 ∧ Hid (preL [83, 48] (nums s) = false ∧ preL [83, 49] (nums s) = false ∧ preL [83, 57] (nums s) = false)))) (fun i _ => 4 - (intOf i).toNat)
  case atStart => exact ⟨Lib.hid (Below.refl _ _), .inl rfl⟩
  case round =>
    obtain ⟨HB, ⟨rfl⟩ | ⟨rfl, h⟩ | ⟨rfl, h⟩ | ⟨rfl, h⟩⟩ := hrel
    · have C1 := Lib.hid (fun u => CD.out 0 (by decide) u)
      rw [D1.out 0 (by decide)] at C1
      have C2 := Lib.hid (fun u => CP.out 48 u)
      rw [(HS2.out 48 (by decide)).1, (HS2.out 48 (by decide)).2] at C2
      have ha := HA.out 48
      cases hp : preL [83, 48] (nums s)
      · rw [hp] at C2
        clear hp
        go_wp2_with fail
        refine (C1.out _).mono ?_
        rintro e w1 ⟨rfl, hb⟩
        have HB1 := Lib.hid (Below.trans0 HB.out hb)
        clear hb
        rw [show (48 : Int) + 0 = 48 from rfl]
        go_wp2_with fail
        refine (C2.out _).mono ?_
        rintro e w2 ⟨rfl, ⟨-, rfl⟩ | ⟨hf, -⟩⟩
        rotate_left 1
        · cases hf
        clear C1 C2 ha
        go_wp2
        go_roundw
        case rel => exact ⟨HB1, .inr (.inl ⟨rfl, Lib.hid trivial⟩)⟩
        case measure => decide
      · rw [hp] at C2
        have hK := HK.out
        rw [hp] at hK
        simp only [if_true] at hK
        have HK2 := Lib.hid hK
        clear hp hK
        go_wp2_with fail
        refine (C1.out _).mono ?_
        rintro e w1 ⟨rfl, hb⟩
        have HB1 := Lib.hid (Below.trans0 HB.out hb)
        clear hb
        rw [show (48 : Int) + 0 = 48 from rfl]
        go_wp2_with fail
        refine (C2.out _).mono ?_
        rintro e w2 ⟨rfl, ⟨hf, -⟩ | ⟨-, rfl⟩⟩
        · cases hf
        clear C1 C2 ha
        go_wp2
        go_ret2
        exact ⟨HB1.out, .inr ⟨by rw [HK2.out]; decide, by rw [HK2.out]; rfl⟩⟩
    · have C1 := Lib.hid (fun u => CD.out 1 (by decide) u)
      rw [D1.out 1 (by decide)] at C1
      have C2 := Lib.hid (fun u => CP.out 49 u)
      rw [(HS2.out 49 (by decide)).1, (HS2.out 49 (by decide)).2] at C2
      have ha := HA.out 49
      cases hp : preL [83, 49] (nums s)
      · rw [hp] at C2
        clear hp
        go_wp2_with fail
        refine (C1.out _).mono ?_
        rintro e w1 ⟨rfl, hb⟩
        have HB1 := Lib.hid (Below.trans0 HB.out hb)
        clear hb
        rw [show (48 : Int) + 1 = 49 from rfl]
        go_wp2_with fail
        refine (C2.out _).mono ?_
        rintro e w2 ⟨rfl, ⟨-, rfl⟩ | ⟨hf, -⟩⟩
        rotate_left 1
        · cases hf
        clear C1 C2 ha
        go_wp2
        go_roundw
        case rel => exact ⟨HB1, .inr (.inr (.inl ⟨rfl, Lib.hid ⟨h.out, trivial⟩⟩))⟩
        case measure => decide
      · rw [hp] at C2
        have hK := HK.out
        rw [h.out, hp] at hK
        simp only [if_true, Bool.false_eq_true, if_false] at hK
        have HK2 := Lib.hid hK
        clear hp hK
        go_wp2_with fail
        refine (C1.out _).mono ?_
        rintro e w1 ⟨rfl, hb⟩
        have HB1 := Lib.hid (Below.trans0 HB.out hb)
        clear hb
        rw [show (48 : Int) + 1 = 49 from rfl]
        go_wp2_with fail
        refine (C2.out _).mono ?_
        rintro e w2 ⟨rfl, ⟨hf, -⟩ | ⟨-, rfl⟩⟩
        · cases hf
        clear C1 C2 ha
        go_wp2
        go_ret2
        exact ⟨HB1.out, .inr ⟨by rw [HK2.out]; decide, by rw [HK2.out]; rfl⟩⟩
    · have C1 := Lib.hid (fun u => CD.out 9 (by decide) u)
      rw [D1.out 9 (by decide)] at C1
      have C2 := Lib.hid (fun u => CP.out 57 u)
      rw [(HS2.out 57 (by decide)).1, (HS2.out 57 (by decide)).2] at C2
      have ha := HA.out 57
      cases hp : preL [83, 57] (nums s)
      · rw [hp] at C2
        clear hp
        go_wp2_with fail
        refine (C1.out _).mono ?_
        rintro e w1 ⟨rfl, hb⟩
        have HB1 := Lib.hid (Below.trans0 HB.out hb)
        clear hb
        rw [show (48 : Int) + 9 = 57 from rfl]
        go_wp2_with fail
        refine (C2.out _).mono ?_
        rintro e w2 ⟨rfl, ⟨-, rfl⟩ | ⟨hf, -⟩⟩
        rotate_left 1
        · cases hf
        clear C1 C2 ha
        go_wp2
        go_roundw
        case rel => exact ⟨HB1, .inr (.inr (.inr ⟨rfl, Lib.hid ⟨h.out.1, h.out.2, trivial⟩⟩))⟩
        case measure => decide
      · rw [hp] at C2
        have hK := HK.out
        rw [h.out.1, h.out.2, hp] at hK
        simp only [if_true, Bool.false_eq_true, if_false] at hK
        have HK2 := Lib.hid hK
        clear hp hK
        go_wp2_with fail
        refine (C1.out _).mono ?_
        rintro e w1 ⟨rfl, hb⟩
        have HB1 := Lib.hid (Below.trans0 HB.out hb)
        clear hb
        rw [show (48 : Int) + 9 = 57 from rfl]
        go_wp2_with fail
        refine (C2.out _).mono ?_
        rintro e w2 ⟨rfl, ⟨hf, -⟩ | ⟨-, rfl⟩⟩
        · cases hf
        clear C1 C2 ha
        go_wp2
        go_ret2
        exact ⟨HB1.out, .inr ⟨by rw [HK2.out]; decide, by rw [HK2.out]; rfl⟩⟩
    · have hK := HK.out
      rw [h.out.1, h.out.2.1, h.out.2.2] at hK
      simp only [Bool.false_eq_true, if_false] at hK
      have HK2 := Lib.hid hK
      clear hK
      go_wp2
      go_ret2
      exact ⟨HB.out, .inl ⟨by rw [HK2.out]; decide, rfl⟩⟩
end Go.Proofs.YtnmgjgeniaheoabDoor
