/- Contracts: pins.Word, the document's Word, its count. -/
import Derived.Test.YtnmgjgeniaheoaaDoorPnM
import Derived.Test.YtnmgjgeniaheoaaDoorRwF
import Derived.Deep.QuietTactic
import Derived.BigQuiet
import Derived.IntWalk
namespace Go.Proofs.YtnmgjgeniaheoaaDoor
open Go.ChangeShapes Go.WideShapes Go.ChangeAt Go.RowKit
set_option linter.unusedVariables false

theorem ltr_at (k : Nat) (h : k < 6) (u : World) : (Instr.index 9 (.string ⟨#[82, 78, 70, 73, 72, 81]⟩) (.int .i64 (k : Int))).run Tryd.prog u = .ok (.int .u8 (ltr k)) u := by
  rcases (show k = 0 ∨ k = 1 ∨ k = 2 ∨ k = 3 ∨ k = 4 ∨ k = 5 by omega) with rfl | rfl | rfl | rfl | rfl | rfl <;> kernel_rfl
theorem ltr_cut (k : Nat) (h : k < 6) (u : World) : (Instr.slice 9 (.string ⟨#[82, 78, 70, 73, 72, 81]⟩) (some (.int .i64 (k : Int))) (some (.int .i64 ((k : Int) + 1))) none).run Tryd.prog u = .ok (.string (strOfNums [ltr k])) u := by
  rw [run_slice_string u 9 _ .i64 .i64 _ _ Tryd.underlying9 (by omega) (by omega) (by show ((k : Int) + 1) ≤ 6; omega), show (k : Int).toNat = k by omega, show ((k : Int) + 1).toNat = k + 1 by omega]
  rcases (show k = 0 ∨ k = 1 ∨ k = 2 ∨ k = 3 ∨ k = 4 ∨ k = 5 by omega) with rfl | rfl | rfl | rfl | rfl | rfl <;> rfl
theorem pn_index (x : Pn) (k : Nat) (h : k < 6) (u : World) : (Instr.index 42 (.agg #[.bool x.p0, .bool x.p1, .bool x.p2, .bool x.p3, .bool x.p4, .bool x.p5]) (.int .i64 (k : Int))).run Tryd.prog u = .ok (.bool (pnAt x k)) u := by
  rcases (show k = 0 ∨ k = 1 ∨ k = 2 ∨ k = 3 ∨ k = 4 ∨ k = 5 by omega) with rfl | rfl | rfl | rfl | rfl | rfl
  all_goals go_simp
  all_goals rfl
theorem pnL_next (x : Pn) (k : Nat) (h : pnAt x k = true) : pnL x (k + 1) = pnL x k ++ [ltr k] := by rw [pnL, if_pos h]
theorem pnL_stay (x : Pn) (k : Nat) (h : pnAt x k = false) : pnL x (k + 1) = pnL x k := by rw [pnL, if_neg (by simp [h])]
theorem retSp {a b : ByteArray} (h : a = b) : Ending.returned (.string a) = .returned (.string b) := by rw [h]
theorem str_nil : strOfNums [] = ⟨#[]⟩ := rfl
theorem strOf_sizeP (l : List Int) : (strOfNums l).size = l.length := by
  unfold strOfNums
  show (List.map _ l).toArray.size = _
  simp
set_option maxRecDepth 100000 in
set_option maxHeartbeats 4000000 in
theorem pnWord_any (x : Pn) (w : World) : Calls Tryd.prog 6 #[.agg x.cells] w fun e w' => e = .returned (.string (pnW x)) ∧ Below w.heap.size w w' := by
  have CL := Lib.hid (fun u => levels_any x u)
  have IX := Lib.hid (pn_index x)
  have LT := Lib.hid ltr_at
  go_enter Tryd.func6, Tryd.ntmps6
  go_wp2_with fail
  refine (CL.out _).mono ?_
  rintro e w1 ⟨rfl, hb⟩
  have HB := Lib.hid (Below.trans0 (Below.alloc0 (Below.refl _ _) _) hb)
  clear hb
  go_wp2
  go_loopw [3, 8] (fun o i wr => ∃ k : Nat, k ≤ 6 ∧ i = .int .i64 k ∧ Hid (Own .u8 5 wr w.heap.size o (pnL x k)) ∧ Hid (Below w.heap.size w wr)) (fun _ i _ => 6 - (intOf i).toNat)
  case atStart => exact ⟨0, by omega, rfl, Lib.hid (Own.nil_ _ _ _ _), HB⟩
  case round =>
    obtain ⟨k, hk, rfl, hown, hbel⟩ := hrel
    by_cases hlt : k < 6
    · have k0 : (0 : Int) ≤ k := by omega
      have k1 : (k : Int) < 6 := by omega
      have ix := fun u => IX.out k hlt u
      have lt := fun u => LT.out k hlt u
      have HSZ := Lib.hid hbel.out.size
      have HLN := Lib.hid (pnL_len x k)
      obtain ⟨q, hq⟩ : ∃ q, pnAt x k = q := ⟨_, rfl⟩
      simp only [hq] at ix
      cases q
      case false =>
        have HN := Lib.hid (pnL_stay x k hq)
        clear hq
        go_wp2
        go_roundw
        case rel => exact ⟨k + 1, by omega, by go_num, Lib.hid (by rw [HN.out]; exact hown.out), hbel⟩
        case measure => simp [intOf]; omega
      case true =>
        have HN := Lib.hid (pnL_next x k hq)
        clear hq
        go_wp2_with (at_builtin; refine wpList_app8 rfl _ (.tmp 13) (.tmp 16) rfl w.heap.size _ (pnL x k) rfl (hown.out.alloc _) ⟨wr.heap.size, 0, none⟩ 1 1 [ltr k] rfl rfl (cells_lit _ _ _ _ _ rfl _ rfl) (by have := HLN.out; simp; omega) (by have := HSZ.out; simp; omega) ?_; intro v1 w2 ho1 hb1 hg1)
        have HO := Lib.hid (show Own .u8 5 w2 w.heap.size v1 (pnL x (k + 1)) by rw [HN.out]; exact ho1)
        have HB2 := Lib.hid ((Below.alloc0 hbel.out _).trans hb1)
        clear ho1 hb1 hg1
        go_roundw
        case rel => exact ⟨k + 1, by omega, by go_num, HO, HB2⟩
        case measure => simp [intOf]; omega
    · have hk6 : k = 6 := by omega
      have k1 : ¬ (k : Int) < 6 := by omega
      have HW : Hid (pnW x = if pnL x k = [] then ⟨#[46]⟩ else strOfNums (pnL x k)) := Lib.hid (by rw [hk6]; rfl)
      obtain ⟨A, c, rfl, hI⟩ := hown.out.ints (pnL_wf x k)
      obtain ⟨L, hL⟩ : ∃ L, pnL x k = L := ⟨_, rfl⟩
      rw [hL] at hI HW ⊢
      obtain ⟨n, hn⟩ : ∃ n, L.length = n := ⟨_, rfl⟩
      rw [hn] at hI ⊢
      clear hk6 hown hlt
      by_cases hz : L = []
      · have hl : n = 0 := by rw [← hn, hz]; rfl
        have HW2 := Lib.hid (HW.out.trans (if_pos hz))
        clear hz hI hL hn HW
        subst hl
        go_wp2
        go_ret
        exact ⟨retSp HW2.out.symm, hbel.out⟩
      · have HW2 := Lib.hid (HW.out.trans (if_neg hz))
        have hp : 0 < n := by
          rcases Nat.eq_zero_or_pos n with h | h
          · exact absurd (List.eq_nil_of_length_eq_zero (hn.trans h)) hz
          · exact h
        obtain ⟨b, off, rfl, hb, hcell⟩ := hI.2.2 hp
        have ST := bytes_at' wr b off n c L hn (fun i hi => hcell i hi)
        have n0 : ((n : Int) == 0) = false := by simp; omega
        have n1 : (n == 0) = false := by simp; omega
        clear hI hcell hz hL hn HW hk
        go_wp2
        go_ret
        exact ⟨retSp HW2.out.symm, hbel.out⟩
theorem pnW_str (x : Pn) : (strOfNums (pnL x 6) = ⟨#[]⟩ ∧ pnW x = ⟨#[46]⟩) ∨ (0 < (strOfNums (pnL x 6)).size ∧ pnW x = strOfNums (pnL x 6)) := by
  unfold pnW
  by_cases h : pnL x 6 = []
  · left; rw [h]; exact ⟨rfl, rfl⟩
  · right
    rw [if_neg h]
    refine ⟨?_, rfl⟩
    rw [strOf_sizeP]
    rcases Nat.eq_zero_or_pos (pnL x 6).length with q | q
    · exact absurd (List.eq_nil_of_length_eq_zero q) h
    · exact q
set_option maxRecDepth 100000 in
set_option maxHeartbeats 4000000 in
theorem refPnWord_any (x : Pn) (w : World) : Calls Tryd.prog 7 #[.agg x.cells] w fun e w' => e = .returned (.string (pnW x)) ∧ Below w.heap.size w w' := by
  have LC := Lib.hid ltr_cut
  have HB : Hid (Below w.heap.size w ((w.alloc (.cells x.cells 24)).alloc (.cells x.cells 42))) := Lib.hid (Below.alloc0 (Below.alloc0 (Below.refl _ _) _) _)
  have HK : Hid (Blk ((w.alloc (.cells x.cells 24)).alloc (.cells x.cells 42)) (w.heap.size + 1) 42 x.cells) := Lib.hid (Blk.at1 _)
  have HE := Lib.hid (pnW_str x)
  go_enter Tryd.func7, Tryd.ntmps7
  go_wp2
  generalize (w.alloc (.cells x.cells 24)).alloc (.cells x.cells 42) = w1 at HB HK ⊢
  have HC : Hid (∀ k, k < 6 → w1.cell? ⟨w.heap.size + 1, k, none⟩ = some (.bool (pnAt x k))) := Lib.hid (fun k hk => by
    rw [HK.out.cell]
    rcases (show k = 0 ∨ k = 1 ∨ k = 2 ∨ k = 3 ∨ k = 4 ∨ k = 5 by omega) with rfl | rfl | rfl | rfl | rfl | rfl <;> rfl)
  go_loopw [4, 5] (fun s i wr => ∃ k : Nat, k ≤ 6 ∧ i = .int .i64 k ∧ s = .string (strOfNums (pnL x k)) ∧ wr = w1) (fun _ i _ => 6 - (intOf i).toNat)
  case atStart => exact ⟨0, by omega, rfl, rfl, rfl⟩
  case round =>
    obtain ⟨k, hk, rfl, rfl, rfl⟩ := hrel
    by_cases hlt : k < 6
    · have k0 : (0 : Int) ≤ k := by omega
      have k1 : (k : Int) < 6 := by omega
      have lc := fun u => LC.out k hlt u
      have ck := HC.out k hlt
      have sz : (strOfNums (pnL x k)).size = (pnL x k).length := strOf_sizeP _
      have HSZ := pnL_len x k
      have s1 : ¬ 9223372036854775807 < (strOfNums (pnL x k)).size + (strOfNums [ltr k]).size := by rw [sz, strOf_sizeP]; simp; omega
      have s2 : ¬ 9223372036854775807 < (strOfNums (pnL x k)).size + 1 := by rw [sz]; omega
      obtain ⟨q, hq⟩ : ∃ q, pnAt x k = q := ⟨_, rfl⟩
      simp only [hq] at ck
      have HA := Lib.hid (strOf_append (pnL x k) [ltr k])
      cases q
      case false =>
        have HN := Lib.hid (pnL_stay x k hq)
        clear hq
        go_wp2
        go_roundw
        case rel => exact ⟨k + 1, by omega, by go_num, by rw [HN.out], by trivial⟩
        case measure => simp [intOf]; omega
      case true =>
        have HN := Lib.hid (pnL_next x k hq)
        clear hq
        go_wp2
        go_roundw
        case rel => exact ⟨k + 1, by omega, by go_num, by rw [HN.out, ← HA.out], by trivial⟩
        case measure => simp [intOf]; omega
    · have hk6 : k = 6 := by omega
      have k1 : ¬ (k : Int) < 6 := by omega
      have HE2 := HE.out
      rw [← hk6] at HE2
      clear hk6 hlt
      rcases HE2 with ⟨h1, h2⟩ | ⟨h1, h2⟩
      · rw [h1]
        have H2 := Lib.hid h2
        clear h1 h2
        go_wp2
        go_ret
        exact ⟨retSp H2.out.symm, HB.out⟩
      · have H2 := Lib.hid h2
        have h3 := empty_beq _ h1
        obtain ⟨S, hS⟩ : ∃ S, strOfNums (pnL x k) = S := ⟨_, rfl⟩
        rw [hS] at H2 h3 ⊢
        clear h1 h2 hS
        go_wp2
        go_ret
        exact ⟨retSp H2.out.symm, HB.out⟩
end Go.Proofs.YtnmgjgeniaheoaaDoor
