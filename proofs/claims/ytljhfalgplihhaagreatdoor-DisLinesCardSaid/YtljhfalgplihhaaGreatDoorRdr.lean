/- Contracts of package inst's small calls: the reader's next, posted, width, single, Next, Target. -/
import Derived.Test.YtljhfalgplihhaaGreatDoorInsO
import Derived.Test.YtljhfalgplihhaaGreatDoorGPag
import Derived.Deep.RegionHeld3
import Derived.Test.YtljhfalgplihhaaGreatDoorGTbl
import Derived.Test.YtljhfalgplihhaaGreatDoorGLai
namespace Go.Proofs.YtljhfalgplihhaaGreatDoor
open Go.ChangeShapes Go.WideShapes Go.ChangeAt Go.RowKit
set_option linter.unusedVariables false

/-- A reader's cells when m bytes have been asked for. -/
def RdC (A : Option Addr) (n cap m : Nat) : Array Value := #[.slice A n cap, .int .i64 ((min m n : Nat) : Int), .bool (decide (n < m))]
theorem Blk.r3 {w : World} {g : Nat} {t : TypeId} {a b c : Value} (h : Blk w g t #[a, b, c]) : w.cell? ⟨g, 0, none⟩ = some a ∧ w.cell? ⟨g, 1, none⟩ = some b ∧ w.cell? ⟨g, 2, none⟩ = some c := by
  refine ⟨?_, ?_, ?_⟩ <;> (rw [h.cell]; rfl)
theorem grown_set1 (w : World) (g i : Nat) (u : Value) : w.grownBy (w.setCell ⟨g, i, none⟩ u) (some g) :=
  ⟨rfl, rfl, rfl, by simp, fun k _ hk => heap_setCell_other w _ k u (fun e => hk (by rw [e]))⟩
theorem grown_set1' (w : World) (k g i : Nat) (u : Value) : w.grownBy ((w.drewN k).setCell ⟨g, i, none⟩ u) (some g) :=
  ⟨rfl, rfl, rfl, by simp, fun k _ hk => heap_setCell_other w _ k u (fun e => hk (by rw [e]))⟩
/-- Behind next: one byte more has been asked for, and no other block is touched. -/
def Nexted (w : World) (g : Nat) (A : Option Addr) (n cap m : Nat) (x : Int) (e : Ending) (w' : World) : Prop :=
  e = .returned (.int .u8 x) ∧ Blk w' g 125 (RdC A n cap (m + 1)) ∧ w.grownBy w' (some g) ∧ w'.heap.size = w.heap.size
set_option maxRecDepth 100000 in
set_option maxHeartbeats 2000000 in
theorem next_any (A : Option Addr) (n cap m : Nat) (xs : List Int) (hn : n ≤ 140737488351232) (w : World) (g B : Nat) (hI : Ints .u8 w B A n xs) (hB : B ≤ g) (h : Blk w g 125 (RdC A n cap m)) :
    Calls Tryz.prog 58 #[.pointer (some ⟨g, 0, none⟩)] w (Nexted w g A n cap m (iat xs m)) := by
  unfold Nexted
  by_cases hm : m < n
  · have e1 : min m n = m := by omega
    have e2 : min (m + 1) n = m + 1 := by omega
    have e3 : decide (n < m) = false := decide_eq_false (by omega)
    have e4 : decide (n < m + 1) = false := decide_eq_false (by omega)
    unfold RdC at h ⊢
    rw [e1, e3] at h
    rw [e2, e4]
    obtain ⟨b, off, rfl, hb, hc⟩ := hI.2.2 (by omega)
    have hc1 := hc m hm
    have HC1 := Lib.hid hc1
    have hbg : b ≠ g := by omega
    obtain ⟨c0, c1, c2⟩ := h.r3
    have f1 := h.frozen 1
    have hne : ((m : Int) == (n : Int)) = false := by simp; omega
    have H := Lib.hid h
    have hm0 : (0 : Int) ≤ (m : Int) := by omega
    have hm1 : (m : Int) < (n : Int) := by omega
    have hm2 : (m : Int) ≤ 140737488351232 := by omega
    clear e1 e2 e3 e4 hc hI h
    generalize iat xs m = X at hc1 HC1 ⊢
    go_enter Tryz.func58, Tryz.ntmps58
    go_wp2
    go_quiet (fail)
    go_upto_region 5 with (fail)
    have HW := Lib.hid (grown_set1' w nq g 1 (.int .i64 ((m : Int) + 1)))
    have H1 := Lib.hid (show Blk ((w.drewN nq).setCell ⟨g, 1, none⟩ (.int .i64 ((m : Int) + 1))) g 125 #[.slice (some ⟨b, off, none⟩) n cap, .int .i64 ((m : Int) + 1), .bool false] from Blk.set_ (Blk.drewN H.out nq) 1 _)
    have HC2 : Hid (((w.drewN nq).setCell ⟨g, 1, none⟩ (.int .i64 ((m : Int) + 1))).cell? ⟨b, off + m, none⟩ = some (.int .u8 X)) := Lib.hid (by
      rw [World.cell?_setCell_other _ _ _ _ (fun e => hbg (by injection e with e1; exact e1.symm))]
      exact HC1.out)
    have hsz : ((w.drewN nq).setCell ⟨g, 1, none⟩ (.int .i64 ((m : Int) + 1))).heap.size = w.heap.size := by simp
    clear c0 c1 c2 f1 hc1 hne
    obtain ⟨c0, c1, c2⟩ := H1.out.r3
    have hc1 := HC2.out
    generalize (w.drewN nq).setCell ⟨g, 1, none⟩ (.int .i64 ((m : Int) + 1)) = W1 at HW H1 HC2 hsz c0 c1 c2 hc1 ⊢
    have t1 : IntKind.i64.wrap ((m : Int) + 1 - 1) = (m : Int) := by rw [show (m : Int) + 1 - 1 = m by omega]; exact IntWalk.i64_in _ (by omega)
    go_quiet (fail)
    go_wp2
    go_ret
    exact ⟨rfl, Blk.drewN H1.out _, ⟨HW.out.os, HW.out.tape, HW.out.output, HW.out.size, HW.out.block⟩, hsz⟩
  · have e1 : min m n = n := by omega
    have e2 : min (m + 1) n = n := by omega
    have e4 : decide (n < m + 1) = true := decide_eq_true (by omega)
    unfold RdC at h ⊢
    rw [e1] at h
    rw [e2, e4]
    have hx : iat xs m = 0 := by
      have := hI.1
      simp [iat, List.getD_eq_getElem?_getD, List.getElem?_eq_none (show xs.length ≤ m by omega)]
    rw [hx]
    obtain ⟨c0, c1, c2⟩ := h.r3
    have f2 := h.frozen 2
    have H := Lib.hid h
    clear e1 e2 e4 hx hI h
    go_enter Tryz.func58, Tryz.ntmps58
    go_wp2
    go_quiet (fail)
    go_wp2
    go_ret
    exact ⟨rfl, Blk.set_ H.out 2 (.bool true), grown_set1' _ _ _ _ _, by simp⟩
def pstdI (m : Int) : Bool := m == 4 || (m == 8 || m == 9)
theorem pstdI_nat (m : Nat) : pstdI (m : Int) = pstd m := by
  unfold pstdI pstd
  rw [Bool.eq_iff_iff]
  simp
  omega
set_option maxRecDepth 100000 in
theorem posted_any (m : Int) (w : World) : Calls Tryz.prog 39 #[.int .i64 m] w fun e w' => e = .returned (.bool (pstdI m)) ∧ w = w' := by
  unfold pstdI
  rcases (show m = 4 ∨ m = 8 ∨ m = 9 ∨ (¬ m = 4 ∧ ¬ m = 8 ∧ ¬ m = 9) by omega) with rfl | rfl | rfl | ⟨h1, h2, h3⟩
  iterate 3
    · go_enter Tryz.func39, Tryz.ntmps39
      go_wp2
      go_ret
      exact ⟨rfl, rfl⟩
  · have e1 := ne_beq h1
    have e2 := ne_beq h2
    have e3 := ne_beq h3
    clear h1 h2 h3
    go_enter Tryz.func39, Tryz.ntmps39
    go_wp2
    go_ret
    exact ⟨ret_bool (by rw [e1, e2, e3]; rfl), rfl⟩
def widI (m : Int) (b : Nat) : Nat := if m = 1 ∨ m = 3 ∨ m = 6 then 1 else if m = 2 ∨ m = 5 ∨ m = 7 then 2 else if m = 4 then poBytes (poK b) else 0
theorem widI_nat (m b : Nat) (hm : m ≤ 9) : widI (m : Int) b = shN m (b : Int) := by
  unfold widI shN
  rcases (show m = 0 ∨ m = 1 ∨ m = 2 ∨ m = 3 ∨ m = 4 ∨ m = 5 ∨ m = 6 ∨ m = 7 ∨ m = 8 ∨ m = 9 by omega) with rfl | rfl | rfl | rfl | rfl | rfl | rfl | rfl | rfl | rfl
  all_goals simp [shTab]
theorem widI_le (m : Int) (b : Nat) (hb : b < 256) : widI m b ≤ 2 := by
  have := Nat.le_of_ble_eq_true (allB 256 _ poBytes_le b hb)
  unfold widI
  repeat (first | (split; · omega) | omega)
set_option maxRecDepth 100000 in
set_option maxHeartbeats 2000000 in
theorem width_any (p c o m r v l : Int) (b : Nat) (hb : b < 256) (w : World) (hT : KindsAt w) :
    Calls Tryz.prog 40 #[.agg (iC p c o m r (b : Int) v l)] w fun e w' => e = .returned (.int .i64 (widI m b : Int)) ∧ Below w.heap.size w w' := by
  have HT := Lib.hid (kinds_below hT (Below.alloc0 (Below.refl _ w) (Obj.cells (iC p c o m r (b : Int) v l) 37)))
  have HB := Lib.hid (Below.alloc0 (Below.refl w.heap.size w) (Obj.cells (iC p c o m r (b : Int) v l) 37))
  clear hT
  rcases (show m = 1 ∨ m = 3 ∨ m = 6 ∨ m = 2 ∨ m = 5 ∨ m = 7 ∨ m = 4 ∨ (¬ m = 1 ∧ ¬ m = 2 ∧ ¬ m = 3 ∧ ¬ m = 4 ∧ ¬ m = 5 ∧ ¬ m = 6 ∧ ¬ m = 7) by omega) with rfl | rfl | rfl | rfl | rfl | rfl | rfl | ⟨h1, h2, h3, h4, h5, h6, h7⟩
  iterate 6
    · go_enter Tryz.func40, Tryz.ntmps40
      go_wp2
      go_ret
      exact ⟨rfl, HB.out⟩
  · have CO := Lib.hid (fun w hT => of_any b hb w hT)
    have CY := Lib.hid (fun w => bytes_any (poK b) (poR b) (poO b) (poI b) w (poK b) rfl (poK_lt b hb))
    have hr : widI 4 b = poBytes (poK b) := by unfold widI; simp
    rw [hr]
    go_enter Tryz.func40, Tryz.ntmps40
    go_wp2_with (first
      | (go_at_call 63; refine (CO.out _ HT.out).mono ?_; rintro e w2 ⟨rfl, hb2⟩; have HB2 := Lib.hid (Below.trans0 HB.out hb2); clear hb2)
      | (go_at_call 64; refine (CY.out _).mono ?_; rintro e w3 ⟨rfl, hb2⟩; have HB3 := Lib.hid (Below.trans0 HB2.out hb2); clear hb2))
    go_ret
    exact ⟨rfl, HB3.out⟩
  · have hr : widI m b = 0 := by unfold widI; rw [if_neg (by omega), if_neg (by omega), if_neg h4]
    rw [hr]
    have e1 := ne_beq h1
    have e2 := ne_beq h2
    have e3 := ne_beq h3
    have e4 := ne_beq h4
    have e5 := ne_beq h5
    have e6 := ne_beq h6
    have e7 := ne_beq h7
    clear h1 h2 h3 h4 h5 h6 h7
    go_enter Tryz.func40, Tryz.ntmps40
    go_wp2
    go_ret
    exact ⟨rfl, HB.out⟩
def sglI (m v : Int) : Int := if m = 6 ∨ m = 4 then signOf v else v
theorem sglI_nat (m : Nat) (v : Int) : sglI (m : Int) v = if shS m then signOf v else v := by
  unfold sglI shS
  by_cases h4 : m = 4
  · subst h4; rfl
  · by_cases h6 : m = 6
    · subst h6; rfl
    · rw [if_neg (by omega)]
      have e4 : Nat.beq m 4 = false := by rw [← Bool.not_eq_true, Nat.beq_eq]; exact h4
      have e6 : Nat.beq m 6 = false := by rw [← Bool.not_eq_true, Nat.beq_eq]; exact h6
      rw [e4, e6]; rfl
theorem sglI_range (m v : Int) (h0 : 0 ≤ v) (h1 : v < 256) : 0 ≤ sglI m v ∧ sglI m v < 65536 := by
  unfold sglI signOf
  split
  · split <;> omega
  · omega
set_option maxRecDepth 100000 in
theorem single_any (m v : Int) (h0 : 0 ≤ v) (h1 : v < 256) (w : World) : Calls Tryz.prog 61 #[.int .i64 m, .int .u8 v] w fun e w' => e = .returned (.int .u16 (sglI m v)) ∧ w = w' := by
  unfold sglI
  rcases (show m = 6 ∨ m = 4 ∨ (¬ m = 6 ∧ ¬ m = 4) by omega) with rfl | rfl | ⟨h3, h4⟩
  iterate 2
    · go_enter Tryz.func61, Tryz.ntmps61
      go_wp2_with (go_at_call 81; refine (sign_any _ _ h0 h1).mono ?_; rintro e w' ⟨rfl, rfl⟩)
      go_ret
      exact ⟨rfl, rfl⟩
  · have e3 := ne_beq h3
    have e4 := ne_beq h4
    rw [if_neg (by omega)]
    clear h3 h4
    go_enter Tryz.func61, Tryz.ntmps61
    go_wp2
    go_ret
    exact ⟨ret_int (by first | rfl | omega), rfl⟩
end Go.Proofs.YtljhfalgplihhaaGreatDoor
