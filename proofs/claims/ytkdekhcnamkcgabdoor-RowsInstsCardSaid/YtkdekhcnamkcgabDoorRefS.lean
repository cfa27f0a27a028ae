/- Contracts of the document's own rows as letters (spinetref23): Steps, many, Ahead, Behind, Row. -/
import Derived.Test.YtkdekhcnamkcgabDoorRowP
import Derived.Test.YtkdekhcnamkcgabDoorPostR
import Derived.Deep.RegionHeld3
namespace Go.Proofs.YtkdekhcnamkcgabDoor
open Go.ChangeShapes Go.WideShapes Go.ChangeAt Go.RowKit
set_option linter.unusedVariables false

theorem ret_str {a b : ByteArray} (h : a = b) : Ending.returned (.string a) = .returned (.string b) := by rw [h]
theorem ne_beq23 {o k : Int} (h : ¬ o = k) : (o == k) = false := by simpa using h
theorem size_str (xs : List Int) : (strOfNums xs).size = xs.length := by simp [strOfNums, ByteArray.size]
theorem let_at (w : World) (k : Nat) (hk : k < 13) :
    (Instr.index 9 (.string ⟨#[63, 79, 65, 78, 73, 76, 83, 80, 85, 68, 75, 82, 86]⟩) (.int .i64 (k : Int))).run Tryd.prog w = .ok (.int .u8 (letN k)) w := by
  rcases (show k = 0 ∨ k = 1 ∨ k = 2 ∨ k = 3 ∨ k = 4 ∨ k = 5 ∨ k = 6 ∨ k = 7 ∨ k = 8 ∨ k = 9 ∨ k = 10 ∨ k = 11 ∨ k = 12 by omega) with rfl | rfl | rfl | rfl | rfl | rfl | rfl | rfl | rfl | rfl | rfl | rfl | rfl
  all_goals kernel_rfl
set_option maxRecDepth 100000 in
set_option maxHeartbeats 1000000 in
theorem many23_any (xs : List Int) (hx : xs.length ≤ 4) (n : Int) (N : Nat) (hn : n = N) (hN : N ≤ 100) (w : World) :
    Calls Tryd.prog 38 #[.string (strOfNums xs), .int .i64 n] w fun e w' => e = .returned (.string (strOfNums (rep xs N))) ∧ w = w' := by
  subst hn
  go_enter Tryd.func38, Tryd.ntmps38
  go_wp2
  have e0 : Value.string ByteArray.empty = Value.string (strOfNums (rep xs 0)) := rfl
  go_loopw [5, 6] (fun u5 u6 wr => ∃ j : Nat, j ≤ N ∧ u6 = .int .i64 j ∧ u5 = .string (strOfNums (rep xs j)) ∧ Hid (wr = w)) (fun _ u6 _ => N - (intOf u6).toNat)
  case atStart => exact ⟨0, Nat.zero_le _, rfl, rfl, Lib.hid rfl⟩
  case round =>
    obtain ⟨j, hj, rfl, rfl, HW⟩ := hrel
    by_cases hlt : j < N
    · have hs := strOf_append (rep xs j) xs
      have hz : ¬ 9223372036854775807 < (strOfNums (rep xs j)).size + (strOfNums xs).size := by
        rw [size_str, size_str, rep_len]
        have := Nat.mul_le_mul (show j ≤ 100 by omega) hx
        omega
      go_wp2
      go_roundw
      case rel => exact ⟨j + 1, by omega, by go_num, by first | rfl | (rw [hs]; rfl), HW⟩
      case measure => simp [intOf]; omega
    · obtain rfl : j = N := by omega
      go_wp2
      go_ret
      exact ⟨rfl, HW.out.symm⟩
set_option maxRecDepth 100000 in
set_option maxHeartbeats 4000000 in
theorem steps_any (s : ByteArray) (hs : s.size ≤ 1000) (w : World) :
    Calls Tryd.prog 9 #[.string s] w (GivesR w (stepsOf (nums s))) := by
  go_enter Tryd.func9, Tryd.ntmps9
  have HS0 := Lib.hid (Sts.nil_ w w.heap.size)
  have HB0 := Lib.hid (Below.refl w.heap.size w)
  have hb := get_nums s
  obtain ⟨L, hL⟩ : ∃ L, nums s = L := ⟨_, rfl⟩
  have HLl : Hid (L.length = s.size) := Lib.hid (by rw [← hL, nums_len])
  rw [hL] at hb ⊢
  have HSz := Lib.hid hs
  clear hL hs
  go_wp2
  go_loopw [4, 5, 6] (fun u4 u5 u6 wr => ∃ (j : Nat) (l : List Stp) (b : Bool), j ≤ s.size ∧ u6 = .int .i64 j ∧ u5 = .bool b ∧ Hid ((L.take j).foldl stepS ([], false) = (l, b)) ∧ Hid (l.length ≤ j) ∧ Hid (Sts wr w.heap.size u4 l) ∧ Hid (Below w.heap.size w wr)) (fun _ _ u6 _ => s.size - (intOf u6).toNat)
  case atStart => exact ⟨0, [], false, Nat.zero_le _, rfl, rfl, Lib.hid rfl, Lib.hid (by simp), HS0, HB0⟩
  case round =>
    clear HS0 HB0
    obtain ⟨j, l, b, hj, rfl, rfl, HF, HLen, HS, HB⟩ := hrel
    have hj1 : (j : Int) ≤ 1000 := by have := HSz.out; omega
    by_cases hlt : j < s.size
    · have HN := Lib.hid (foldl_take stepS L ([], false) j (by rw [HLl.out]; exact hlt))
      obtain ⟨c, hc⟩ : ∃ c, iat L j = c := ⟨_, rfl⟩
      have hbj := hb j hlt
      rw [hc] at HN
      rw [HF.out] at HN
      clear hbj
      by_cases h43 : c = 43
      · subst h43
        have HN2 : Hid ((L.take (j + 1)).foldl stepS ([], false) = (l, true)) := Lib.hid (by rw [HN.out]; unfold stepS; rw [if_pos rfl])
        go_wp2
        go_roundw
        case rel => exact ⟨j + 1, l, true, by omega, by go_num, rfl, HN2, Lib.hid (by have := HLen.out; omega), HS, HB⟩
        case measure => simp [intOf]; omega
      · have e43 : (c == 43) = false := by simpa using h43
        have HN2 : Hid ((L.take (j + 1)).foldl stepS ([], false) = (l ++ [(kindOf c, b)], false)) := Lib.hid (by rw [HN.out]; unfold stepS; rw [if_neg h43])
        clear h43 HN
        go_wp2
        go_loopw [7, 8] (fun u7 u8 wx => ∃ k : Nat, k ≤ 13 ∧ u8 = .int .i64 k ∧ u7 = .int .i64 (kindTo c k) ∧ ∃ q, wx = wr.drewN q) (fun _ u8 _ => 13 - (intOf u8).toNat)
        case atStart => exact ⟨0, Nat.zero_le _, rfl, rfl, 0, rfl⟩
        case round =>
          obtain ⟨k, hk, rfl, rfl, q, rfl⟩ := hrel
          by_cases hlk : k < 13
          · have hix := fun w => let_at w k hlk
            have k0 : (0 : Int) ≤ (k : Int) := by omega
            have k1 : (k : Int) < 13 := by omega
            by_cases he : letN k = c
            · have HK : Hid (kindTo c (k + 1) = (k : Int)) := Lib.hid (by show (if letN k = c then (k : Int) else kindTo c k) = k; rw [if_pos he])
              have el : (letN k == c) = true := by simpa using he
              clear he
              go_wp2
              go_quiet (fail)
              go_wp2
              exact ⟨⟨k + 1, by omega, rfl, by rw [HK.out], _, rfl⟩, by simp [intOf]; omega⟩
            · have HK : Hid (kindTo c (k + 1) = kindTo c k) := Lib.hid (by show (if letN k = c then (k : Int) else kindTo c k) = kindTo c k; rw [if_neg he])
              have el : (letN k == c) = false := by simpa using he
              clear he
              go_wp2
              go_quiet (fail)
              go_wp2
              exact ⟨⟨k + 1, by omega, rfl, by rw [HK.out], _, rfl⟩, by simp [intOf]; omega⟩
          · obtain rfl : k = 13 := by omega
            have HK : Hid (kindTo c 13 = kindOf c) := Lib.hid rfl
            have HSq := Lib.hid (HS.out.drewN q)
            have HBq := Lib.hid (Below.drewN0 HB.out q)
            generalize wr.drewN q = W2 at HSq HBq ⊢
            rw [HK.out]
            generalize kindOf c = kc at HN2 ⊢
            have HSL := Lib.hid (show l.length + [(kc, b)].length ≤ 1099511627776 by have := HLen.out; simp; omega)
            clear hlk hk HK
            go_wp2_with (at_builtin; refine wpList_appSt rfl _ (.tmp 33) (.tmp 37) rfl w.heap.size _ _ _ [(kc, b)] rfl (HSq.out.alloc _) rfl (Rd.lit W2 [(kc, b)] _ 1 rfl rfl 1) HSL.out (by have := HBq.out.size; simp; omega) ?_)
            intro v' w' p1 p2 p3
            have HS2 := Lib.hid p1
            have HB2 := Lib.hid ((Below.alloc0 HBq.out _).trans p2)
            clear p1 p2 p3
            go_wp2
            go_roundw
            case rel => exact ⟨j + 1, l ++ [(kc, b)], false, by omega, by go_num, rfl, HN2, Lib.hid (by have := HLen.out; simp; omega), HS2, HB2⟩
            case measure => simp [intOf]; omega
    · obtain rfl : j = s.size := by omega
      have HE : Hid (stepsOf L = l) := Lib.hid (by
        have := HF.out
        rw [List.take_of_length_le (by rw [HLl.out]; omega)] at this
        unfold stepsOf; rw [this])
      go_wp2
      go_ret
      exact ⟨_, rfl, by rw [HE.out]; exact HS.out.rd, HB.out⟩
theorem steps_str (xs : List Int) (h : ∀ x ∈ xs, 0 ≤ x ∧ x < 256) (hl : xs.length ≤ 1000) (w : World) :
    Calls Tryd.prog 9 #[.string (strOfNums xs)] w (GivesR w (stepsOf xs)) := by
  have := steps_any (strOfNums xs) (by rw [size_str]; exact hl) w
  rw [str_nums xs h] at this
  exact this
set_option maxRecDepth 100000 in
set_option maxHeartbeats 1000000 in
theorem ahead23_in (m : Nat) (hm : m ≤ 9) (w : World) :
    Calls Tryd.prog 28 #[.int .i64 (m : Int)] w fun e w' => e = .returned (.string (strOfNums (aheadS m))) ∧ Below w.heap.size w w' := by
  rcases (show m = 0 ∨ m = 1 ∨ m = 2 ∨ m = 3 ∨ m = 4 ∨ m = 5 ∨ m = 6 ∨ m = 7 ∨ m = 8 ∨ m = 9 by omega) with rfl | rfl | rfl | rfl | rfl | rfl | rfl | rfl | rfl | rfl
  all_goals
    go_enter Tryd.func28, Tryd.ntmps28
    go_wp2
    go_ret
    exact ⟨rfl, by repeat (first | exact Below.refl _ _ | apply Below.drewN0 | apply Below.alloc0)⟩
set_option maxRecDepth 100000 in
set_option maxHeartbeats 1000000 in
theorem ahead23_out (m : Int) (hm : m < 0 ∨ 9 < m) (w : World) :
    Calls Tryd.prog 28 #[.int .i64 m] w fun e w' => e = .returned (.string (strOfNums [])) ∧ Below w.heap.size w w' := by
  rcases hm with hm | hm
  all_goals
    go_enter Tryd.func28, Tryd.ntmps28
    go_wp2
    go_ret
    exact ⟨rfl, by repeat (first | exact Below.refl _ _ | apply Below.drewN0 | apply Below.alloc0)⟩
theorem blk6 {w : World} {g : Nat} {t : TypeId} {v0 v1 v2 v3 v4 v5 : Value} (h : Blk w g t #[v0, v1, v2, v3, v4, v5]) : w.cell? ⟨g, 0, none⟩ = some v0 ∧ w.cell? ⟨g, 1, none⟩ = some v1 ∧ w.cell? ⟨g, 2, none⟩ = some v2 ∧ w.cell? ⟨g, 3, none⟩ = some v3 ∧ w.cell? ⟨g, 4, none⟩ = some v4 ∧ w.cell? ⟨g, 5, none⟩ = some v5 := by
  refine ⟨?_, ?_, ?_, ?_, ?_, ?_⟩ <;> (rw [h.cell]; rfl)
theorem po_le23 : ((List.range 256).all fun b => Nat.ble (poBytes (poK b)) 4 && Nat.ble (poIdle (poK b)) 9) = true := by decide +kernel
set_option maxRecDepth 100000 in
set_option maxHeartbeats 4000000 in
theorem behind23_any (b : Nat) (hb : b < 256) (w : World) :
    Calls Tryd.prog 29 #[.int .u8 (b : Int)] w fun e w' => e = .returned (.string (strOfNums (behindS (poBytes (poK b)) (poIdle (poK b)) (poI b)))) ∧ Below w.heap.size w w' := by
  have CP := Lib.hid (fun w => refOf_any b hb w)
  unfold refP at CP
  have hp := allB 256 _ po_le23 b hb
  rw [Bool.and_eq_true, Nat.ble_eq, Nat.ble_eq] at hp
  obtain ⟨p1, p2⟩ := hp
  generalize poBytes (poK b) = nb at CP p1 ⊢
  generalize poIdle (poK b) = ni at CP p2 ⊢
  generalize (poK b : Int) = k at CP
  generalize (poR b : Int) = r at CP
  generalize (poO b : Int) = o at CP
  generalize poI b = d at CP ⊢
  have M1 : Hid (∀ w, Calls Tryd.prog 38 #[.string ⟨#[65]⟩, .int .i64 (nb : Int)] w fun e w' => e = .returned (.string (strOfNums (rep [65] nb))) ∧ w = w') := Lib.hid (fun w => many23_any [65] (by decide) (nb : Int) nb rfl (by omega) w)
  have M2 : Hid (∀ w, Calls Tryd.prog 38 #[.string ⟨#[73]⟩, .int .i64 (ni : Int)] w fun e w' => e = .returned (.string (strOfNums (rep [73] ni))) ∧ w = w') := Lib.hid (fun w => many23_any [73] (by decide) (ni : Int) ni rfl (by omega) w)
  obtain ⟨S1, h1⟩ : ∃ S, strOfNums (rep [65] nb) = S := ⟨_, rfl⟩
  obtain ⟨S2, h2⟩ : ∃ S, strOfNums (rep [73] ni) = S := ⟨_, rfl⟩
  have z1 : S1.size ≤ 100 := by rw [← h1, size_str, rep_len]; simp; omega
  have z2 : S2.size ≤ 100 := by rw [← h2, size_str, rep_len]; simp; omega
  have H1 := Lib.hid h1
  have H2 := Lib.hid h2
  rw [h1] at M1
  rw [h2] at M2
  have y1 : ¬ 9223372036854775807 < S1.size + S2.size := by omega
  have y2 : ¬ 9223372036854775807 < S1.size + S2.size + 4 := by omega
  clear h1 h2 z1 z2 p1 p2
  cases d
  · go_enter Tryd.func29, Tryd.ntmps29
    go_wp2_with fail
    refine (CP.out _).mono ?_
    rintro e w1 ⟨rfl, hb1⟩
    have HB := Lib.hid (Below.alloc0 hb1 (Obj.cells #[.int .i64 k, .int .i64 r, .int .i64 o, .bool false, .int .i64 nb, .int .i64 ni] 71))
    clear hb1
    have HK0 := Lib.hid (show Blk (w1.alloc (Obj.cells #[.int .i64 k, .int .i64 r, .int .i64 o, .bool false, .int .i64 nb, .int .i64 ni] 71)).drew w1.heap.size 71 #[.int .i64 k, .int .i64 r, .int .i64 o, .bool false, .int .i64 nb, .int .i64 ni] from Blk.new _ _ _ (0, 0))
    replace HB := Lib.hid (Below.drew0 HB.out)
    go_upto_region 2 with (fail)
    go_region_held3 (fun w' => w'.cell? ⟨w1.heap.size, 4, none⟩ = some (.int .i64 (nb : Int)) ∧ w'.cell? ⟨w1.heap.size, 5, none⟩ = some (.int .i64 (ni : Int)))
      (first
        | exact ⟨(blk6 HK0.out).2.2.2.2.1, (blk6 HK0.out).2.2.2.2.2⟩)
      (first
        | (go_at_call 38; ((with_reducible refine (M1.out _).mono ?_); rintro e w' ⟨rfl, rfl⟩))
        | (go_at_call 38; ((with_reducible refine (M2.out _).mono ?_); rintro e w' ⟨rfl, rfl⟩)))
    obtain ⟨k0, k1, k2, k3, k4, k5⟩ := blk6 HK0.out
    go_wp2
    go_ret
    refine ⟨ret_str ?_, HB.out⟩
    rw [← H1.out, ← H2.out]
    rw [strOf_append]
    unfold behindS
    simp
  · go_enter Tryd.func29, Tryd.ntmps29
    go_wp2_with fail
    refine (CP.out _).mono ?_
    rintro e w1 ⟨rfl, hb1⟩
    have HB := Lib.hid (Below.alloc0 hb1 (Obj.cells #[.int .i64 k, .int .i64 r, .int .i64 o, .bool true, .int .i64 nb, .int .i64 ni] 71))
    clear hb1
    have HK0 := Lib.hid (show Blk (w1.alloc (Obj.cells #[.int .i64 k, .int .i64 r, .int .i64 o, .bool true, .int .i64 nb, .int .i64 ni] 71)).drew w1.heap.size 71 #[.int .i64 k, .int .i64 r, .int .i64 o, .bool true, .int .i64 nb, .int .i64 ni] from Blk.new _ _ _ (0, 0))
    replace HB := Lib.hid (Below.drew0 HB.out)
    go_upto_region 2 with (fail)
    go_region_held3 (fun w' => w'.cell? ⟨w1.heap.size, 4, none⟩ = some (.int .i64 (nb : Int)) ∧ w'.cell? ⟨w1.heap.size, 5, none⟩ = some (.int .i64 (ni : Int)))
      (first
        | exact ⟨(blk6 HK0.out).2.2.2.2.1, (blk6 HK0.out).2.2.2.2.2⟩)
      (first
        | (go_at_call 38; ((with_reducible refine (M1.out _).mono ?_); rintro e w' ⟨rfl, rfl⟩))
        | (go_at_call 38; ((with_reducible refine (M2.out _).mono ?_); rintro e w' ⟨rfl, rfl⟩)))
    obtain ⟨k0, k1, k2, k3, k4, k5⟩ := blk6 HK0.out
    go_wp2
    go_ret
    refine ⟨ret_str ?_, HB.out⟩
    rw [← H1.out, ← H2.out]
    rw [strOf_append, show (⟨#[43, 82, 82, 73]⟩ : ByteArray) = strOfNums [43, 82, 82, 73] from rfl, strOf_append]
    rfl
set_option maxRecDepth 100000 in
set_option maxHeartbeats 1000000 in
theorem row23_any (k : Int) (w : World) :
    Calls Tryd.prog 17 #[.int .i64 k] w fun e w' => e = .returned (.string (strOfNums (rowS k))) ∧ w = w' := by
  rcases (show k = 1 ∨ k = 2 ∨ k = 3 ∨ k = 4 ∨ k = 5 ∨ k = 6 ∨ k = 7 ∨ (k < 1 ∨ 7 < k) by omega) with rfl | rfl | rfl | rfl | rfl | rfl | rfl | hk
  · go_enter Tryd.func17, Tryd.ntmps17
    go_wp2_with fail
    refine (many23_any [85] (by decide) 12 12 rfl (by decide) _).mono ?_
    rintro e w' ⟨rfl, rfl⟩
    obtain ⟨S, hS⟩ : ∃ S, strOfNums (rep [85] 12) = S := ⟨_, rfl⟩
    have hz : S.size = 12 := by rw [← hS, size_str, rep_len]; rfl
    have HS := Lib.hid hS
    rw [hS]
    clear hS
    go_wp2
    go_ret
    refine ⟨?_, rfl⟩
    exact ret_str (by rw [← HS.out, show (⟨#[78, 78, 73]⟩ : ByteArray) = strOfNums [78, 78, 73] from rfl, show (⟨#[73, 43, 86, 86, 73]⟩ : ByteArray) = strOfNums [73, 43, 86, 86, 73] from rfl, strOf_append, strOf_append]; rfl)
  · go_enter Tryd.func17, Tryd.ntmps17
    go_wp2
    go_ret
    exact ⟨rfl, rfl⟩
  · go_enter Tryd.func17, Tryd.ntmps17
    go_wp2_with fail
    refine (many23_any [85] (by decide) 12 12 rfl (by decide) _).mono ?_
    rintro e w' ⟨rfl, rfl⟩
    obtain ⟨S, hS⟩ : ∃ S, strOfNums (rep [85] 12) = S := ⟨_, rfl⟩
    have hz : S.size = 12 := by rw [← hS, size_str, rep_len]; rfl
    have HS := Lib.hid hS
    rw [hS]
    clear hS
    go_wp2
    go_ret
    refine ⟨?_, rfl⟩
    exact ret_str (by rw [← HS.out, show (⟨#[78, 78, 73]⟩ : ByteArray) = strOfNums [78, 78, 73] from rfl, show (⟨#[73, 43, 86, 86, 73]⟩ : ByteArray) = strOfNums [73, 43, 86, 86, 73] from rfl, strOf_append, strOf_append]; rfl)
  · go_enter Tryd.func17, Tryd.ntmps17
    go_wp2
    go_ret
    exact ⟨rfl, rfl⟩
  · go_enter Tryd.func17, Tryd.ntmps17
    go_wp2
    go_ret
    exact ⟨rfl, rfl⟩
  · go_enter Tryd.func17, Tryd.ntmps17
    go_wp2
    go_ret
    exact ⟨rfl, rfl⟩
  · go_enter Tryd.func17, Tryd.ntmps17
    go_wp2
    go_ret
    exact ⟨rfl, rfl⟩
  · have hz : rowS k = [] := by unfold rowS; repeat (rw [if_neg (by omega)])
    rw [hz]
    have e1 : (k == 1) = false := ne_beq23 (by omega)
    have e2 : (k == 2) = false := ne_beq23 (by omega)
    have e3 : (k == 3) = false := ne_beq23 (by omega)
    have e4 : (k == 4) = false := ne_beq23 (by omega)
    have e5 : (k == 5) = false := ne_beq23 (by omega)
    have e6 : (k == 6) = false := ne_beq23 (by omega)
    have e7 : (k == 7) = false := ne_beq23 (by omega)
    clear hz hk
    go_enter Tryd.func17, Tryd.ntmps17
    go_wp2
    go_ret
    exact ⟨rfl, rfl⟩
end Go.Proofs.YtkdekhcnamkcgabDoor
