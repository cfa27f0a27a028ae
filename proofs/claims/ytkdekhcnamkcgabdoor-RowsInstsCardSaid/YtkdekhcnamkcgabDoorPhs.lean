/- Contracts of package phase's calls that make rows. -/
import Derived.Test.YtkdekhcnamkcgabDoorStq
import Derived.Deep.RegionHeld3
import Derived.Laws.MakeOwn
namespace Go.Proofs.YtkdekhcnamkcgabDoor
open Go.ChangeShapes Go.WideShapes Go.ChangeAt Go.RowKit
set_option linter.unusedVariables false

def someN (n : Int) : Nat := (min (max n 0) 1000).toNat
theorem someN_le (n : Int) : someN n ≤ 1000 := by unfold someN; omega
def half (k : Int) (N j : Nat) : List Stp := List.replicate j (k, false) ++ List.replicate (N - j) (0, false)
theorem half_len (k : Int) (N j : Nat) (h : j ≤ N) : (half k N j).length = N := by simp [half]; omega
theorem half_at (k : Int) (N j : Nat) (h : j < N) : (half k N j).getD j (0, false) = (0, false) := by
  unfold half
  rw [List.getD_eq_getElem?_getD, List.getElem?_append_right (by simp)]
  simp [show 0 < N - j by omega]
theorem half_set (k : Int) (N j : Nat) (h : j < N) : ((sC (half k N j)).toArray).setIfInBounds (j * 2) (.int .i64 k) = (sC (half k N (j + 1))).toArray := by
  have e1 : half k N j = List.replicate j (k, false) ++ ((0, false) :: List.replicate (N - (j + 1)) (0, false)) := by
    unfold half
    rw [show N - j = (N - (j + 1)) + 1 by omega, List.replicate_succ]
  have e2 : half k N (j + 1) = List.replicate j (k, false) ++ ((k, false) :: List.replicate (N - (j + 1)) (0, false)) := by
    unfold half
    rw [List.replicate_succ', List.append_assoc]; rfl
  rw [e1, e2, sC_append, sC_append, List.setIfInBounds_toArray]
  have hl : (sC (List.replicate j (k, false))).length = j * 2 := by rw [sC_len, List.length_replicate]
  rw [List.set_append_right _ _ (by omega), hl, Nat.sub_self]
  rfl
theorem made_st (n : Nat) : madeCells (Value.agg #[.int .i64 0, .bool false]).cells (n * 2) = (sC (half 0 n 0)).toArray := by
  apply Array.ext
  · rw [size_madeCells]; simp [sC_len, half_len]
  · intro i h1 h2
    have hl : i < n * 2 := by rw [size_madeCells] at h1; exact h1
    have hq : (sC (half 0 n 0))[2 * (i / 2) + i % 2]? = (stC ((half 0 n 0).getD (i / 2) (0, false)))[i % 2]? := sC_at _ _ _ (by rw [half_len _ _ _ (by omega)]; omega) (by omega)
    rw [show 2 * (i / 2) + i % 2 = i by omega] at hq
    have hd : (half 0 n 0).getD (i / 2) (0, false) = (0, false) := by
      unfold half
      simp [List.getD_eq_getElem?_getD, show i / 2 < n by omega]
    rw [hd] at hq
    have h3 : ((sC (half 0 n 0)).toArray)[i]? = (stC (0, false))[i % 2]? := by rw [List.getElem?_toArray]; exact hq
    have h4 : (madeCells (Value.agg #[.int .i64 0, .bool false]).cells (n * 2))[i]? = (stC (0, false))[i % 2]? := by
      simp [madeCells, Value.cells, stC, hl]
      rcases (show i % 2 = 0 ∨ i % 2 = 1 by omega) with e | e <;> simp [e]
    rw [Array.getElem?_eq_getElem h2] at h3
    rw [Array.getElem?_eq_getElem h1] at h4
    exact Option.some.inj (h4.trans h3.symm)
theorem make_st (w : World) (n : Nat) (hn : n ≤ 1000) :
    (Instr.makeSlice 31 (.int .i64 (n : Int)) (.int .i64 (n : Int))).run Tryd.prog w = .ok (.slice (some ⟨w.heap.size, 0, none⟩) n n) (w.alloc (.cells (sC (half 0 n 0)).toArray 33)) := by
  obtain ⟨i0, hi, hz0, hz1, hz2⟩ := info_parts infoStep
  have hr := run_make (P := Tryd.prog) w 31 33 i0 (.agg #[.int .i64 0, .bool false]) Tryd.underlying31 hi hz0 .i64 .i64 n n (by omega) (by omega) (by rw [hz2]; omega) (by omega)
  simp only [Int.toNat_natCast] at hr
  rw [hz1, made_st] at hr
  exact hr
theorem make_st' (w : World) (n : Nat) (hn : n ≤ 1000) (x : Int) (hx : x = (n : Int)) :
    (Instr.makeSlice 31 (.int .i64 x) (.int .i64 x)).run Tryd.prog w = .ok (.slice (some ⟨w.heap.size, 0, none⟩) n n) (w.alloc (.cells (sC (half 0 n 0)).toArray 33)) := by
  subst hx; exact make_st w n hn
set_option maxRecDepth 100000 in
set_option maxHeartbeats 1000000 in
theorem some_any (k n : Int) (w : World) :
    Calls Tryd.prog 24 #[.int .i64 k, .int .i64 n] w fun e w' => ∃ v, e = .returned v ∧ Rd w' v (someL k (someN n)) ∧ Below w.heap.size w w' := by
  have hmk := fun (x : Int) (hx : x = (someN n : Int)) => make_st' w (someN n) (someN_le n) x hx
  have hs : (n < 0 ∧ (0 : Int) = (someN n : Int)) ∨ (1000 < n ∧ (1000 : Int) = (someN n : Int)) ∨ (0 ≤ n ∧ n ≤ 1000 ∧ n = (someN n : Int)) := by unfold someN; omega
  have hle := someN_le n
  generalize someN n = N at *
  have HN := Lib.hid hle
  clear hle
  rcases hs with ⟨h1, h2⟩ | ⟨h1, h2⟩ | ⟨h1, h3, h2⟩
  all_goals
    have hm := hmk _ h2
    clear hmk h2
    go_enter Tryd.func24, Tryd.ntmps24
    go_wp2
  all_goals
    clear hm h1
    have HB0 := Lib.hid (Below.alloc0 (Below.refl w.heap.size w) (Obj.cells (sC (half 0 N 0)).toArray 33))
    have HK0 : Hid (Blk (w.alloc (Obj.cells (sC (half 0 N 0)).toArray 33)) w.heap.size 33 (sC (half k N 0)).toArray) := Lib.hid (Blk.new w _ _ _)
    go_loopw [13] (fun u13 wr => ∃ j : Nat, j ≤ N ∧ u13 = .int .i64 j ∧ Hid (Blk wr w.heap.size 33 (sC (half k N j)).toArray) ∧ Hid (Below w.heap.size w wr)) (fun u13 _ => N - (intOf u13).toNat)
    case atStart => exact ⟨0, Nat.zero_le _, rfl, HK0, HB0⟩
    case round =>
      clear HB0 HK0
      obtain ⟨j, hj, rfl, HK, HB⟩ := hrel
      by_cases hlt : j < N
      · have c0 : wr.cell? ⟨w.heap.size, j * 2, none⟩ = some (.int .i64 0) := by
          have a := sC_at (half k N j) j 0 (by rw [half_len k N j hj]; exact hlt) (by decide)
          rw [half_at k N j hlt] at a
          rw [Blk.cell HK.out, List.getElem?_toArray, show j * 2 = 2 * j + 0 by omega, a]; rfl
        have f0 : wr.frozen? ⟨w.heap.size, j * 2, none⟩ = false := Blk.frozen HK.out _
        have k0 : (0 : Int) ≤ (j : Int) := by omega
        have k1 : (j : Int) < (N : Int) := by omega
        have k2 : (j : Int) < 1000 := by have := HN.out; omega
        have HK2 := Lib.hid (Blk.set_ HK.out (j * 2) (.int .i64 k))
        have HS := Lib.hid (half_set k N j hlt)
        have HB2 := Lib.hid (Below.setCell (p := ⟨w.heap.size, j * 2, none⟩) HB.out (Nat.le_refl _) (.int .i64 k))
        go_wp2
        go_roundw
        case rel => exact ⟨j + 1, by omega, by go_num, Lib.hid (by have := HK2.out; rw [HS.out] at this; exact this), HB2⟩
        case measure => simp [intOf]; omega
      · obtain rfl : j = N := by omega
        have HR : Hid (Rd wr (.slice (some ⟨w.heap.size, 0, none⟩) j j) (someL k j)) := Lib.hid (by
          refine .inr ⟨⟨w.heap.size, 0, none⟩, j, by simp [someL], fun _ => ⟨w.heap.size, 0, rfl, Blk.lt HK.out⟩, fun i u hi => ?_⟩
          rw [add_plain', Nat.zero_add, Blk.cell HK.out, List.getElem?_toArray]
          unfold half; rw [Nat.sub_self]; simpa [someL] using hi)
        go_wp2
        go_ret
        exact ⟨_, rfl, HR.out, HB.out⟩
set_option maxRecDepth 100000 in
theorem firstP_any (k : Int) (w : World) :
    Calls Tryd.prog 52 #[.int .i64 k] w fun e w' => ∃ v, e = .returned v ∧ Rd w' v (firstL k) ∧ Below w.heap.size w w' := by
  go_enter Tryd.func52, Tryd.ntmps52
  go_wp2
  go_ret
  exact ⟨_, rfl, Rd.lit w (firstL k) _ 2 rfl rfl 2, Below.alloc0 (Below.refl _ _) _⟩
/-- A slice of rows: each element reads as one. -/
def RdL (w : World) (A : Option Addr) (n : Nat) (ls : List (List Stp)) : Prop :=
  ls.length = n ∧ (0 < n → ∃ g off, A = some ⟨g, off, none⟩ ∧ g < w.heap.size ∧ ∀ i, i < n → ∃ v, w.cell? ⟨g, off + i, none⟩ = some v ∧ Rd w v (ls.getD i []))
theorem flat_next (ls : List (List Stp)) (k : Nat) (h : k < ls.length) : (ls.take (k + 1)).flatten = (ls.take k).flatten ++ ls.getD k [] := by
  rw [List.take_succ_eq_append_getElem h, List.flatten_append, List.getD_eq_getElem?_getD, List.getElem?_eq_getElem h]; simp
theorem flat_le (ls : List (List Stp)) (k : Nat) : (ls.take k).flatten.length ≤ ls.flatten.length := by
  conv => rhs; rw [← List.take_append_drop k ls, List.flatten_append, List.length_append]
  omega
set_option maxRecDepth 100000 in
set_option maxHeartbeats 1000000 in
theorem rowP_any (A : Option Addr) (n c : Nat) (ls : List (List Stp)) (w : World) (h : RdL w A n ls) (hn : n ≤ 1099511627776) (ht : ls.flatten.length ≤ 1099511627776) :
    Calls Tryd.prog 23 #[.slice A n c] w fun e w' => ∃ v, e = .returned v ∧ Sts w' w.heap.size v ls.flatten ∧ Below w.heap.size w w' := by
  obtain ⟨hl, hc⟩ := h
  have HL := Lib.hid hl
  have HC := Lib.hid hc
  have HT := Lib.hid ht
  have HS0 := Lib.hid (Sts.nil_ w w.heap.size)
  have HB0 := Lib.hid (Below.refl w.heap.size w)
  clear hl hc ht
  go_enter Tryd.func23, Tryd.ntmps23
  go_wp2
  go_loopw [3, 8] (fun u3 u8 wr => ∃ k : Nat, k ≤ n ∧ u8 = .int .i64 k ∧ Hid (Sts wr w.heap.size u3 (ls.take k).flatten) ∧ Hid (Below w.heap.size w wr)) (fun _ u8 _ => n - (intOf u8).toNat)
  case atStart => exact ⟨0, Nat.zero_le _, rfl, HS0, HB0⟩
  case round =>
    clear HS0 HB0
    obtain ⟨k, hk, rfl, HS, HB⟩ := hrel
    by_cases hlt : k < n
    · obtain ⟨g, off, rfl, hg, hcell⟩ := HC.out (by omega)
      obtain ⟨v, hc, hr⟩ := hcell k hlt
      have hcw : wr.cell? ⟨g, off + k, none⟩ = some v := (HB.out.cell (p := ⟨g, off + k, none⟩) hg).trans hc
      have HR := Lib.hid (Rd.below hr HB.out)
      have HF := Lib.hid (flat_next ls k (by rw [HL.out]; exact hlt))
      have HLe := Lib.hid (flat_le ls (k + 1))
      have hk0 : (0 : Int) ≤ k := by omega
      have hkn : (k : Int) < n := by omega
      clear hcell hc hr
      go_wp2_with (at_builtin; refine wpList_appSt rfl _ (.tmp 12) (.tmp 13) rfl w.heap.size _ _ _ _ rfl HS.out rfl HR.out (by have := HLe.out; have := HT.out; rw [HF.out, List.length_append] at *; omega) HB.out.size ?_)
      intro v' w' h1 h2 h3
      have HS2 := Lib.hid h1
      have HB2 := Lib.hid (HB.out.trans h2)
      clear h1 h2 h3
      go_wp2
      go_roundw
      case rel => exact ⟨k + 1, by omega, by go_num, Lib.hid (by rw [HF.out]; exact HS2.out), HB2⟩
      case measure => simp [intOf]; omega
    · have HE := Lib.hid (List.take_of_length_le (show ls.length ≤ k by rw [HL.out]; omega))
      go_wp2
      go_ret
      exact ⟨_, rfl, by have := HS.out; rw [HE.out] at this; exact this, HB.out⟩
end Go.Proofs.YtkdekhcnamkcgabDoor
