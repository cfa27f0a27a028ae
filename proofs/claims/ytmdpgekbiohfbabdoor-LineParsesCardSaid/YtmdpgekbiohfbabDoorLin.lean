/- Contracts of package line, the small calls: stepped, sized, accumulator, points. -/
import Derived.Test.YtmdpgekbiohfbabDoorLinN
namespace Go.Proofs.YtmdpgekbiohfbabDoor
open Go.ChangeShapes Go.WideShapes Go.ChangeAt Go.RowKit
set_option linter.unusedVariables false

set_option maxRecDepth 100000 in
set_option maxHeartbeats 1000000 in
theorem liSized_any (s : ByteArray) (w : World) (hs : s.size ≤ 1099511627776) :
    Calls Tryd.prog 57 #[.string s] w fun e w' => e = .returned (.tuple #[.int .i64 (sizL (nums s)).1, .string (strOfNums (sizL (nums s)).2)]) ∧ w = w' := by
  have C0 := Lib.hid (fun u => cutPre_any s ⟨#[60]⟩ u hs (by decide))
  rw [show nums ⟨#[60]⟩ = [60] from rfl, show (⟨#[60]⟩ : ByteArray).size = 1 from rfl] at C0
  obtain ⟨N0, hN0⟩ : ∃ N, strOfNums ((nums s).drop 1) = N := ⟨_, rfl⟩
  rw [hN0] at C0
  have HN0 := Lib.hid hN0
  clear hN0
  have C1 := Lib.hid (fun u => cutPre_any s ⟨#[62]⟩ u hs (by decide))
  rw [show nums ⟨#[62]⟩ = [62] from rfl, show (⟨#[62]⟩ : ByteArray).size = 1 from rfl] at C1
  obtain ⟨N1, hN1⟩ : ∃ N, strOfNums ((nums s).drop 1) = N := ⟨_, rfl⟩
  rw [hN1] at C1
  have HN1 := Lib.hid hN1
  clear hN1
  have HE : Hid (sizL (nums s) = if preL [60] (nums s) then (1, (nums s).drop 1) else if preL [62] (nums s) then (2, (nums s).drop 1) else (0, nums s)) := Lib.hid rfl
  have HS := Lib.hid (nums_str s)
  obtain ⟨R, hR⟩ : ∃ R, sizL (nums s) = R := ⟨_, rfl⟩
  rw [hR] at HE ⊢
  clear hR
  cases h0 : preL [60] (nums s)
  · rw [h0] at C0 HE
    clear h0
    cases h1 : preL [62] (nums s)
    · rw [h1] at C1 HE
      clear h1
      have hE := HE.out
      simp only [Bool.false_eq_true, if_false] at hE
      subst hE
      rw [HS.out]
      go_enter Tryd.func57, Tryd.ntmps57
      go_wp2_with fail
      refine (C0.out _).mono ?_
      rintro e w' ⟨rfl, ⟨-, rfl⟩ | ⟨hf, -⟩⟩
      rotate_left 1
      · cases hf
      go_wp2_with fail
      refine (C1.out _).mono ?_
      rintro e w' ⟨rfl, ⟨-, rfl⟩ | ⟨hf, -⟩⟩
      rotate_left 1
      · cases hf
      go_wp2
      go_ret2
      exact ⟨rfl, rfl⟩
    · rw [h1] at C1 HE
      clear h1
      have hE := HE.out
      simp only [Bool.false_eq_true, if_false, if_true] at hE
      have HE2 := Lib.hid hE
      clear hE HE
      go_enter Tryd.func57, Tryd.ntmps57
      go_wp2_with fail
      refine (C0.out _).mono ?_
      rintro e w' ⟨rfl, ⟨-, rfl⟩ | ⟨hf, -⟩⟩
      rotate_left 1
      · cases hf
      go_wp2_with fail
      refine (C1.out _).mono ?_
      rintro e w' ⟨rfl, ⟨hf, -⟩ | ⟨-, rfl⟩⟩
      · cases hf
      go_wp2
      go_ret2
      have hE := HE2.out
      subst hE
      exact ⟨by rw [← HN1.out]; rfl, rfl⟩
  · rw [h0] at C0 HE
    clear h0
    have hE := HE.out
    simp only [if_true] at hE
    have HE2 := Lib.hid hE
    clear hE HE
    go_enter Tryd.func57, Tryd.ntmps57
    go_wp2_with fail
    refine (C0.out _).mono ?_
    rintro e w' ⟨rfl, ⟨hf, -⟩ | ⟨-, rfl⟩⟩
    · cases hf
    go_wp2
    go_ret2
    have hE := HE2.out
    subst hE
    exact ⟨by rw [← HN0.out]; rfl, rfl⟩
set_option maxRecDepth 100000 in
set_option maxHeartbeats 1000000 in
theorem liStepped_any (s : ByteArray) (w : World) (hs : s.size ≤ 1099511627776) :
    Calls Tryd.prog 84 #[.string s] w fun e w' => e = .returned (.tuple #[.string (strOfNums (stepL (nums s)).1), .int .i64 (stepL (nums s)).2]) ∧ w = w' := by
  have C0 := Lib.hid (fun u => cutPre_any s ⟨#[45, 45]⟩ u hs (by decide))
  rw [show nums ⟨#[45, 45]⟩ = [45, 45] from rfl, show (⟨#[45, 45]⟩ : ByteArray).size = 2 from rfl] at C0
  obtain ⟨N0, hN0⟩ : ∃ N, strOfNums ((nums s).drop 2) = N := ⟨_, rfl⟩
  rw [hN0] at C0
  have HN0 := Lib.hid hN0
  clear hN0
  have C1 := Lib.hid (fun u => cutPre_any s ⟨#[45]⟩ u hs (by decide))
  rw [show nums ⟨#[45]⟩ = [45] from rfl, show (⟨#[45]⟩ : ByteArray).size = 1 from rfl] at C1
  obtain ⟨N1, hN1⟩ : ∃ N, strOfNums ((nums s).drop 1) = N := ⟨_, rfl⟩
  rw [hN1] at C1
  have HN1 := Lib.hid hN1
  clear hN1
  have C2 := Lib.hid (fun u => cutSuf_any s ⟨#[43, 43]⟩ u hs (by decide))
  rw [show nums ⟨#[43, 43]⟩ = [43, 43] from rfl, show (⟨#[43, 43]⟩ : ByteArray).size = 2 from rfl] at C2
  obtain ⟨N2, hN2⟩ : ∃ N, strOfNums ((nums s).take (s.size - 2)) = N := ⟨_, rfl⟩
  rw [hN2] at C2
  have HN2 := Lib.hid hN2
  clear hN2
  have C3 := Lib.hid (fun u => cutSuf_any s ⟨#[43]⟩ u hs (by decide))
  rw [show nums ⟨#[43]⟩ = [43] from rfl, show (⟨#[43]⟩ : ByteArray).size = 1 from rfl] at C3
  obtain ⟨N3, hN3⟩ : ∃ N, strOfNums ((nums s).take (s.size - 1)) = N := ⟨_, rfl⟩
  rw [hN3] at C3
  have HN3 := Lib.hid hN3
  clear hN3
  have HE : Hid (stepL (nums s) = if preL [45, 45] (nums s) then ((nums s).drop 2, 10) else if preL [45] (nums s) then ((nums s).drop 1, 9) else if sufL [43, 43] (nums s) then ((nums s).take ((nums s).length - 2), 8) else if sufL [43] (nums s) then ((nums s).take ((nums s).length - 1), 7) else (nums s, 0)) := Lib.hid rfl
  rw [nums_len] at HE
  have HS := Lib.hid (nums_str s)
  obtain ⟨R, hR⟩ : ∃ R, stepL (nums s) = R := ⟨_, rfl⟩
  rw [hR] at HE ⊢
  clear hR
  cases h0 : preL [45, 45] (nums s)
  · rw [h0] at C0 HE
    clear h0
    cases h1 : preL [45] (nums s)
    · rw [h1] at C1 HE
      clear h1
      cases h2 : sufL [43, 43] (nums s)
      · rw [h2] at C2 HE
        clear h2
        cases h3 : sufL [43] (nums s)
        · rw [h3] at C3 HE
          clear h3
          have hE := HE.out
          simp only [Bool.false_eq_true, if_false] at hE
          subst hE
          rw [HS.out]
          go_enter Tryd.func84, Tryd.ntmps84
          go_wp2_with fail
          refine (C0.out _).mono ?_
          rintro e w' ⟨rfl, ⟨-, rfl⟩ | ⟨hf, -⟩⟩
          rotate_left 1
          · cases hf
          go_wp2_with fail
          refine (C1.out _).mono ?_
          rintro e w' ⟨rfl, ⟨-, rfl⟩ | ⟨hf, -⟩⟩
          rotate_left 1
          · cases hf
          go_wp2_with fail
          refine (C2.out _).mono ?_
          rintro e w' ⟨rfl, ⟨-, rfl⟩ | ⟨hf, -⟩⟩
          rotate_left 1
          · cases hf
          go_wp2_with fail
          refine (C3.out _).mono ?_
          rintro e w' ⟨rfl, ⟨-, rfl⟩ | ⟨hf, -⟩⟩
          rotate_left 1
          · cases hf
          go_wp2
          go_ret2
          exact ⟨rfl, rfl⟩
        · rw [h3] at C3 HE
          clear h3
          have hE := HE.out
          simp only [Bool.false_eq_true, if_false, if_true] at hE
          have HE2 := Lib.hid hE
          clear hE HE
          go_enter Tryd.func84, Tryd.ntmps84
          go_wp2_with fail
          refine (C0.out _).mono ?_
          rintro e w' ⟨rfl, ⟨-, rfl⟩ | ⟨hf, -⟩⟩
          rotate_left 1
          · cases hf
          go_wp2_with fail
          refine (C1.out _).mono ?_
          rintro e w' ⟨rfl, ⟨-, rfl⟩ | ⟨hf, -⟩⟩
          rotate_left 1
          · cases hf
          go_wp2_with fail
          refine (C2.out _).mono ?_
          rintro e w' ⟨rfl, ⟨-, rfl⟩ | ⟨hf, -⟩⟩
          rotate_left 1
          · cases hf
          go_wp2_with fail
          refine (C3.out _).mono ?_
          rintro e w' ⟨rfl, ⟨hf, -⟩ | ⟨-, rfl⟩⟩
          · cases hf
          go_wp2
          go_ret2
          have hE := HE2.out
          subst hE
          exact ⟨by rw [← HN3.out]; rfl, rfl⟩
      · rw [h2] at C2 HE
        clear h2
        have hE := HE.out
        simp only [Bool.false_eq_true, if_false, if_true] at hE
        have HE2 := Lib.hid hE
        clear hE HE
        go_enter Tryd.func84, Tryd.ntmps84
        go_wp2_with fail
        refine (C0.out _).mono ?_
        rintro e w' ⟨rfl, ⟨-, rfl⟩ | ⟨hf, -⟩⟩
        rotate_left 1
        · cases hf
        go_wp2_with fail
        refine (C1.out _).mono ?_
        rintro e w' ⟨rfl, ⟨-, rfl⟩ | ⟨hf, -⟩⟩
        rotate_left 1
        · cases hf
        go_wp2_with fail
        refine (C2.out _).mono ?_
        rintro e w' ⟨rfl, ⟨hf, -⟩ | ⟨-, rfl⟩⟩
        · cases hf
        go_wp2
        go_ret2
        have hE := HE2.out
        subst hE
        exact ⟨by rw [← HN2.out]; rfl, rfl⟩
    · rw [h1] at C1 HE
      clear h1
      have hE := HE.out
      simp only [Bool.false_eq_true, if_false, if_true] at hE
      have HE2 := Lib.hid hE
      clear hE HE
      go_enter Tryd.func84, Tryd.ntmps84
      go_wp2_with fail
      refine (C0.out _).mono ?_
      rintro e w' ⟨rfl, ⟨-, rfl⟩ | ⟨hf, -⟩⟩
      rotate_left 1
      · cases hf
      go_wp2_with fail
      refine (C1.out _).mono ?_
      rintro e w' ⟨rfl, ⟨hf, -⟩ | ⟨-, rfl⟩⟩
      · cases hf
      go_wp2
      go_ret2
      have hE := HE2.out
      subst hE
      exact ⟨by rw [← HN1.out]; rfl, rfl⟩
  · rw [h0] at C0 HE
    clear h0
    have hE := HE.out
    simp only [if_true] at hE
    have HE2 := Lib.hid hE
    clear hE HE
    go_enter Tryd.func84, Tryd.ntmps84
    go_wp2_with fail
    refine (C0.out _).mono ?_
    rintro e w' ⟨rfl, ⟨hf, -⟩ | ⟨-, rfl⟩⟩
    · cases hf
    go_wp2
    go_ret2
    have hE := HE2.out
    subst hE
    exact ⟨by rw [← HN0.out]; rfl, rfl⟩
set_option maxRecDepth 100000 in
theorem liAcc_any (s : ByteArray) (w : World) :
    Calls Tryd.prog 87 #[.string s] w fun e w' => e = .returned (.tuple #[.int .i64 (accL (nums s)), .bool (decide (0 < accL (nums s)))]) ∧ w = w' := by
  have e0 := str_is s [65] ⟨#[65]⟩ rfl
  rw [ByteArray.toList_eq ⟨#[65]⟩] at e0
  dsimp only at e0
  have e1 := str_is s [66] ⟨#[66]⟩ rfl
  rw [ByteArray.toList_eq ⟨#[66]⟩] at e1
  dsimp only at e1
  have e2 := str_is s [68] ⟨#[68]⟩ rfl
  rw [ByteArray.toList_eq ⟨#[68]⟩] at e2
  dsimp only at e2
  have HE : Hid (accL (nums s) = if nums s = [65] then 4 else if nums s = [66] then 5 else if nums s = [68] then 6 else 0) := Lib.hid rfl
  obtain ⟨R, hR⟩ : ∃ R, accL (nums s) = R := ⟨_, rfl⟩
  rw [hR] at HE ⊢
  clear hR
  by_cases h0 : nums s = [65]
  · rw [decide_eq_true h0] at e0
    have hE := HE.out
    rw [if_pos h0] at hE
    subst hE
    clear e1 e2 h0
    go_enter Tryd.func87, Tryd.ntmps87
    go_wp2
    go_ret2
    exact ⟨rfl, rfl⟩
  rw [decide_eq_false h0] at e0
  by_cases h1 : nums s = [66]
  · rw [decide_eq_true h1] at e1
    have hE := HE.out
    rw [if_neg h0, if_pos h1] at hE
    subst hE
    clear e2 h0 h1
    go_enter Tryd.func87, Tryd.ntmps87
    go_wp2
    go_ret2
    exact ⟨rfl, rfl⟩
  rw [decide_eq_false h1] at e1
  by_cases h2 : nums s = [68]
  · rw [decide_eq_true h2] at e2
    have hE := HE.out
    rw [if_neg h0, if_neg h1, if_pos h2] at hE
    subst hE
    clear h0 h1 h2
    go_enter Tryd.func87, Tryd.ntmps87
    go_wp2
    go_ret2
    exact ⟨rfl, rfl⟩
  · rw [decide_eq_false h2] at e2
    have hE := HE.out
    rw [if_neg h0, if_neg h1, if_neg h2] at hE
    subst hE
    clear h0 h1 h2
    go_enter Tryd.func87, Tryd.ntmps87
    go_wp2
    go_ret2
    exact ⟨rfl, rfl⟩
set_option maxRecDepth 100000 in
theorem liPoints_any (r k : Int) (w : World) : Calls Tryd.prog 86 #[.int .i64 r, .int .i64 k] w fun e w' => e = .returned (.bool (ptB r k)) ∧ w = w' := by
  have HE : Hid (ptB r k = (decide (r = 1) || decide (r = 2) || decide (r = 3) || decide (r = 4) || (decide (r = 5) && decide (k = 0)))) := Lib.hid rfl
  obtain ⟨R, hR⟩ : ∃ R, ptB r k = R := ⟨_, rfl⟩
  rw [hR] at HE ⊢
  clear hR
  by_cases r1 : r = 1
  · subst r1
    obtain rfl : R = true := by rw [HE.out]; rfl
    go_enter Tryd.func86, Tryd.ntmps86
    go_wp2
    go_ret
    exact ⟨rfl, rfl⟩
  have b1 : (r == 1) = false := by simpa using r1
  by_cases r2 : r = 2
  · subst r2
    obtain rfl : R = true := by rw [HE.out]; rfl
    go_enter Tryd.func86, Tryd.ntmps86
    go_wp2
    go_ret
    exact ⟨rfl, rfl⟩
  have b2 : (r == 2) = false := by simpa using r2
  by_cases r3 : r = 3
  · subst r3
    obtain rfl : R = true := by rw [HE.out]; rfl
    go_enter Tryd.func86, Tryd.ntmps86
    go_wp2
    go_ret
    exact ⟨rfl, rfl⟩
  have b3 : (r == 3) = false := by simpa using r3
  by_cases r4 : r = 4
  · subst r4
    obtain rfl : R = true := by rw [HE.out]; rfl
    go_enter Tryd.func86, Tryd.ntmps86
    go_wp2
    go_ret
    exact ⟨rfl, rfl⟩
  have b4 : (r == 4) = false := by simpa using r4
  have hE := HE.out
  rw [decide_eq_false r1, decide_eq_false r2, decide_eq_false r3, decide_eq_false r4] at hE
  simp only [Bool.false_or] at hE
  by_cases r5 : r = 5
  · subst r5
    by_cases k0 : k = 0
    · subst k0
      obtain rfl : R = true := by rw [hE]; rfl
      clear r1 r2 r3 r4 hE HE
      go_enter Tryd.func86, Tryd.ntmps86
      go_wp2
      go_ret
      exact ⟨rfl, rfl⟩
    · have bk : (k == 0) = false := by simpa using k0
      obtain rfl : R = false := by rw [hE, decide_eq_false k0]; rfl
      clear r1 r2 r3 r4 hE HE k0
      go_enter Tryd.func86, Tryd.ntmps86
      go_wp2
      go_ret
      exact ⟨rfl, rfl⟩
  · have b5 : (r == 5) = false := by simpa using r5
    obtain rfl : R = false := by rw [hE, decide_eq_false r5]; rfl
    clear r1 r2 r3 r4 hE HE r5
    go_enter Tryd.func86, Tryd.ntmps86
    go_wp2
    go_ret
    exact ⟨rfl, rfl⟩
end Go.Proofs.YtmdpgekbiohfbabDoor
