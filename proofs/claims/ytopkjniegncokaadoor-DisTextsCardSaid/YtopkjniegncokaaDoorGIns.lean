/- Rdr, InsP, InsW, Eq, InsX in one text. -/
import Derived.Test.YtopkjniegncokaaDoorInsO
import Derived.Test.YtopkjniegncokaaDoorPagR
import Derived.Test.YtopkjniegncokaaDoorPostS
import Derived.Deep.RegionHeld3
import Derived.Test.YtopkjniegncokaaDoorPostU
import Derived.Test.YtopkjniegncokaaDoorLaid
import Derived.Test.YtopkjniegncokaaDoorTblF
import Derived.Deep.CutBlock
import Derived.Deep.AppendLies
import Derived.StillTailTactics
import Derived.Test.YtopkjniegncokaaDoorOwn
import Derived.Deep.QuietTactic
import Derived.BigQuiet
import Derived.Outline
namespace Go.Proofs.YtopkjniegncokaaDoor
open Go.ChangeShapes Go.WideShapes Go.ChangeAt Go.RowKit
set_option linter.unusedVariables false

/-- A reader's cells when m bytes have been asked for. -/
def RdC (A : Option Addr) (n cap m : Nat) : Array Value := #[.slice A n cap, .int .i64 ((min m n : Nat) : Int), .bool (decide (n < m))]
theorem Blk.r3 {w : World} {g : Nat} {t : TypeId} {a b c : Value} (h : Blk w g t #[a, b, c]) : w.cell? ⟨g, 0, none⟩ = some a ∧ w.cell? ⟨g, 1, none⟩ = some b ∧ w.cell? ⟨g, 2, none⟩ = some c := by
  refine ⟨?_, ?_, ?_⟩ <;> (rw [h.cell]; rfl)
theorem grown_set1 (w : World) (g i : Nat) (u : Value) : w.grownBy (w.setCell ⟨g, i, none⟩ u) (some g) :=
  ⟨rfl, rfl, rfl, by simp, fun k _ hk => heap_setCell_other w _ k u (fun e => hk (by rw [e]))⟩
theorem grown_set1' (w : World) (k g i : Nat) (u : Value) : w.grownBy ((w.drewN k).setCell ⟨g, i, none⟩ u) (some g) :=
  ⟨rfl, rfl, rfl, by simp, fun k _ hk => heap_setCell_other w _ k u (fun e => hk (by rw [e]))⟩
/-- Behind next: one byte more has been asked for, and no other block is touched. -/
def Nexted (w : World) (g : Nat) (A : Option Addr) (n cap m : Nat) (x : Int) (e : Ending) (w' : World) : Prop :=
  e = .returned (.int .u8 x) ∧ Blk w' g 122 (RdC A n cap (m + 1)) ∧ w.grownBy w' (some g) ∧ w'.heap.size = w.heap.size
set_option maxRecDepth 100000 in
set_option maxHeartbeats 2000000 in
theorem next_any (A : Option Addr) (n cap m : Nat) (xs : List Int) (hn : n ≤ 140737488351232) (w : World) (g B : Nat) (hI : Ints .u8 w B A n xs) (hB : B ≤ g) (h : Blk w g 122 (RdC A n cap m)) :
    Calls Tryd.prog 65 #[.pointer (some ⟨g, 0, none⟩)] w (Nexted w g A n cap m (iat xs m)) := by
  unfold Nexted
  by_cases hm : m < n
  · have e1 : min m n = m := by omega
    have e2 : min (m + 1) n = m + 1 := by omega
    have e3 : decide (n < m) = false := decide_eq_false (by omega)
    have e4 : decide (n < m + 1) = false := decide_eq_false (by omega)
    unfold RdC at h ⊢
    rw [e1, e3] at h
    rw [e2, e4]
    obtain ⟨b, off, rfl, hb, hc⟩ := hI.2.2 (by omega)
    have hc1 := hc m hm
    have HC1 := Lib.hid hc1
    have hbg : b ≠ g := by omega
    obtain ⟨c0, c1, c2⟩ := h.r3
    have f1 := h.frozen 1
    have hne : ((m : Int) == (n : Int)) = false := by simp; omega
    have H := Lib.hid h
    have hm0 : (0 : Int) ≤ (m : Int) := by omega
    have hm1 : (m : Int) < (n : Int) := by omega
    have hm2 : (m : Int) ≤ 140737488351232 := by omega
    clear e1 e2 e3 e4 hc hI h
    generalize iat xs m = X at hc1 HC1 ⊢
    go_enter Tryd.func65, Tryd.ntmps65
    go_wp2
    go_quiet (fail)
    go_upto_region 5 with (fail)
    have HW := Lib.hid (grown_set1' w nq g 1 (.int .i64 ((m : Int) + 1)))
    have H1 := Lib.hid (show Blk ((w.drewN nq).setCell ⟨g, 1, none⟩ (.int .i64 ((m : Int) + 1))) g 122 #[.slice (some ⟨b, off, none⟩) n cap, .int .i64 ((m : Int) + 1), .bool false] from Blk.set_ (Blk.drewN H.out nq) 1 _)
    have HC2 : Hid (((w.drewN nq).setCell ⟨g, 1, none⟩ (.int .i64 ((m : Int) + 1))).cell? ⟨b, off + m, none⟩ = some (.int .u8 X)) := Lib.hid (by
      rw [World.cell?_setCell_other _ _ _ _ (fun e => hbg (by injection e with e1; exact e1.symm))]
      exact HC1.out)
    have hsz : ((w.drewN nq).setCell ⟨g, 1, none⟩ (.int .i64 ((m : Int) + 1))).heap.size = w.heap.size := by simp
    clear c0 c1 c2 f1 hc1 hne
    obtain ⟨c0, c1, c2⟩ := H1.out.r3
    have hc1 := HC2.out
    generalize (w.drewN nq).setCell ⟨g, 1, none⟩ (.int .i64 ((m : Int) + 1)) = W1 at HW H1 HC2 hsz c0 c1 c2 hc1 ⊢
    have t1 : IntKind.i64.wrap ((m : Int) + 1 - 1) = (m : Int) := by rw [show (m : Int) + 1 - 1 = m by omega]; exact IntWalk.i64_in _ (by omega)
    go_quiet (fail)
    go_wp2
    go_ret
    exact ⟨rfl, Blk.drewN H1.out _, ⟨HW.out.os, HW.out.tape, HW.out.output, HW.out.size, HW.out.block⟩, hsz⟩
  · have e1 : min m n = n := by omega
    have e2 : min (m + 1) n = n := by omega
    have e4 : decide (n < m + 1) = true := decide_eq_true (by omega)
    unfold RdC at h ⊢
    rw [e1] at h
    rw [e2, e4]
    have hx : iat xs m = 0 := by
      have := hI.1
      simp [iat, List.getD_eq_getElem?_getD, List.getElem?_eq_none (show xs.length ≤ m by omega)]
    rw [hx]
    obtain ⟨c0, c1, c2⟩ := h.r3
    have f2 := h.frozen 2
    have H := Lib.hid h
    clear e1 e2 e4 hx hI h
    go_enter Tryd.func65, Tryd.ntmps65
    go_wp2
    go_quiet (fail)
    go_wp2
    go_ret
    exact ⟨rfl, Blk.set_ H.out 2 (.bool true), grown_set1' _ _ _ _ _, by simp⟩
def pstdI (m : Int) : Bool := m == 4 || (m == 8 || m == 9)
theorem pstdI_nat (m : Nat) : pstdI (m : Int) = pstd m := by
  unfold pstdI pstd
  rw [Bool.eq_iff_iff]
  simp
  omega
set_option maxRecDepth 100000 in
theorem posted_any (m : Int) (w : World) : Calls Tryd.prog 47 #[.int .i64 m] w fun e w' => e = .returned (.bool (pstdI m)) ∧ w = w' := by
  unfold pstdI
  rcases (show m = 4 ∨ m = 8 ∨ m = 9 ∨ (¬ m = 4 ∧ ¬ m = 8 ∧ ¬ m = 9) by omega) with rfl | rfl | rfl | ⟨h1, h2, h3⟩
  iterate 3
    · go_enter Tryd.func47, Tryd.ntmps47
      go_wp2
      go_ret
      exact ⟨rfl, rfl⟩
  · have e1 := ne_beq h1
    have e2 := ne_beq h2
    have e3 := ne_beq h3
    clear h1 h2 h3
    go_enter Tryd.func47, Tryd.ntmps47
    go_wp2
    go_ret
    exact ⟨ret_bool (by rw [e1, e2, e3]; rfl), rfl⟩
def widI (m : Int) (b : Nat) : Nat := if m = 1 ∨ m = 3 ∨ m = 6 then 1 else if m = 2 ∨ m = 5 ∨ m = 7 then 2 else if m = 4 then poBytes (poK b) else 0
theorem widI_nat (m b : Nat) (hm : m ≤ 9) : widI (m : Int) b = shN m (b : Int) := by
  unfold widI shN
  rcases (show m = 0 ∨ m = 1 ∨ m = 2 ∨ m = 3 ∨ m = 4 ∨ m = 5 ∨ m = 6 ∨ m = 7 ∨ m = 8 ∨ m = 9 by omega) with rfl | rfl | rfl | rfl | rfl | rfl | rfl | rfl | rfl | rfl
  all_goals simp [shTab]
theorem widI_le (m : Int) (b : Nat) (hb : b < 256) : widI m b ≤ 2 := by
  have := Nat.le_of_ble_eq_true (allB 256 _ poBytes_le b hb)
  unfold widI
  repeat (first | (split; · omega) | omega)
set_option maxRecDepth 100000 in
set_option maxHeartbeats 2000000 in
theorem width_any (p c o m r v l : Int) (b : Nat) (hb : b < 256) (w : World) (hT : KindsAt w) :
    Calls Tryd.prog 48 #[.agg (iC p c o m r (b : Int) v l)] w fun e w' => e = .returned (.int .i64 (widI m b : Int)) ∧ Below w.heap.size w w' := by
  have HT := Lib.hid (kinds_below hT (Below.alloc0 (Below.refl _ w) (Obj.cells (iC p c o m r (b : Int) v l) 27)))
  have HB := Lib.hid (Below.alloc0 (Below.refl w.heap.size w) (Obj.cells (iC p c o m r (b : Int) v l) 27))
  clear hT
  rcases (show m = 1 ∨ m = 3 ∨ m = 6 ∨ m = 2 ∨ m = 5 ∨ m = 7 ∨ m = 4 ∨ (¬ m = 1 ∧ ¬ m = 2 ∧ ¬ m = 3 ∧ ¬ m = 4 ∧ ¬ m = 5 ∧ ¬ m = 6 ∧ ¬ m = 7) by omega) with rfl | rfl | rfl | rfl | rfl | rfl | rfl | ⟨h1, h2, h3, h4, h5, h6, h7⟩
  iterate 6
    · go_enter Tryd.func48, Tryd.ntmps48
      go_wp2
      go_ret
      exact ⟨rfl, HB.out⟩
  · have CO := Lib.hid (fun w hT => of_any b hb w hT)
    have CY := Lib.hid (fun w => bytes_any (poK b) (poR b) (poO b) (poI b) w (poK b) rfl (poK_lt b hb))
    have hr : widI 4 b = poBytes (poK b) := by unfold widI; simp
    rw [hr]
    go_enter Tryd.func48, Tryd.ntmps48
    go_wp2_with (first
      | (go_at_call 19; refine (CO.out _ HT.out).mono ?_; rintro e w2 ⟨rfl, hb2⟩; have HB2 := Lib.hid (Below.trans0 HB.out hb2); clear hb2)
      | (go_at_call 64; refine (CY.out _).mono ?_; rintro e w3 ⟨rfl, hb2⟩; have HB3 := Lib.hid (Below.trans0 HB2.out hb2); clear hb2))
    go_ret
    exact ⟨rfl, HB3.out⟩
  · have hr : widI m b = 0 := by unfold widI; rw [if_neg (by omega), if_neg (by omega), if_neg h4]
    rw [hr]
    have e1 := ne_beq h1
    have e2 := ne_beq h2
    have e3 := ne_beq h3
    have e4 := ne_beq h4
    have e5 := ne_beq h5
    have e6 := ne_beq h6
    have e7 := ne_beq h7
    clear h1 h2 h3 h4 h5 h6 h7
    go_enter Tryd.func48, Tryd.ntmps48
    go_wp2
    go_ret
    exact ⟨rfl, HB.out⟩
def sglI (m v : Int) : Int := if m = 6 ∨ m = 4 then signOf v else v
theorem sglI_nat (m : Nat) (v : Int) : sglI (m : Int) v = if shS m then signOf v else v := by
  unfold sglI shS
  by_cases h4 : m = 4
  · subst h4; rfl
  · by_cases h6 : m = 6
    · subst h6; rfl
    · rw [if_neg (by omega)]
      have e4 : Nat.beq m 4 = false := by rw [← Bool.not_eq_true, Nat.beq_eq]; exact h4
      have e6 : Nat.beq m 6 = false := by rw [← Bool.not_eq_true, Nat.beq_eq]; exact h6
      rw [e4, e6]; rfl
theorem sglI_range (m v : Int) (h0 : 0 ≤ v) (h1 : v < 256) : 0 ≤ sglI m v ∧ sglI m v < 65536 := by
  unfold sglI signOf
  split
  · split <;> omega
  · omega
set_option maxRecDepth 100000 in
theorem single_any (m v : Int) (h0 : 0 ≤ v) (h1 : v < 256) (w : World) : Calls Tryd.prog 68 #[.int .i64 m, .int .u8 v] w fun e w' => e = .returned (.int .u16 (sglI m v)) ∧ w = w' := by
  unfold sglI
  rcases (show m = 6 ∨ m = 4 ∨ (¬ m = 6 ∧ ¬ m = 4) by omega) with rfl | rfl | ⟨h3, h4⟩
  iterate 2
    · go_enter Tryd.func68, Tryd.ntmps68
      go_wp2_with (go_at_call 77; refine (sign_any _ _ h0 h1).mono ?_; rintro e w' ⟨rfl, rfl⟩)
      go_ret
      exact ⟨rfl, rfl⟩
  · have e3 := ne_beq h3
    have e4 := ne_beq h4
    rw [if_neg (by omega)]
    clear h3 h4
    go_enter Tryd.func68, Tryd.ntmps68
    go_wp2
    go_ret
    exact ⟨ret_int (by first | rfl | omega), rfl⟩
end Go.Proofs.YtopkjniegncokaaDoor
namespace Go.Proofs.YtopkjniegncokaaDoor
open Go.ChangeShapes Go.WideShapes Go.ChangeAt Go.RowKit
set_option linter.unusedVariables false

/-- The call's three blocks (the result, the reader, of which m bytes have been asked for, the instruction), and what stands below. -/
structure InSt (w wx : World) (A : Option Addr) (n cap m : Nat) (cs : Array Value) : Prop where
  z : Blk wx w.heap.size 27 zInst
  rd : Blk wx (w.heap.size + 1) 122 (RdC A n cap m)
  ins : Blk wx (w.heap.size + 2) 27 cs
  bel : Below w.heap.size w wx
section
variable {w wx wy : World} {A : Option Addr} {n cap m : Nat} {cs : Array Value}
theorem InSt.below (h : InSt w wx A n cap m cs) (hb : Below wx.heap.size wx wy) : InSt w wy A n cap m cs :=
  ⟨Blk.below h.z hb h.z.lt, Blk.below h.rd hb h.rd.lt, Blk.below h.ins hb h.ins.lt, Below.trans0 h.bel hb⟩
theorem InSt.drew (h : InSt w wx A n cap m cs) : InSt w wx.drew A n cap m cs := ⟨Blk.drew h.z, Blk.drew h.rd, Blk.drew h.ins, Below.drew0 h.bel⟩
theorem InSt.drewN (h : InSt w wx A n cap m cs) (k : Nat) : InSt w (wx.drewN k) A n cap m cs := ⟨Blk.drewN h.z k, Blk.drewN h.rd k, Blk.drewN h.ins k, Below.drewN0 h.bel k⟩
theorem InSt.set (h : InSt w wx A n cap m cs) (i : Nat) (u : Value) : InSt w (wx.setCell ⟨w.heap.size + 2, i, none⟩ u) A n cap m (cs.setIfInBounds i u) :=
  ⟨Blk.far h.z (by simp) u, Blk.far h.rd (by simp) u, Blk.set_ h.ins i u, Below.setCell h.bel (by simp) u⟩
theorem InSt.next {x : Int} {e : Ending} (h : InSt w wx A n cap m cs) (hn : Nexted wx (w.heap.size + 1) A n cap m x e wy) : InSt w wy A n cap (m + 1) cs := by
  obtain ⟨_, h1, h2, h3⟩ := hn
  refine ⟨Blk.grown h.z h2 (fun e => ?_), h1, Blk.grown h.ins h2 (fun e => ?_), Below.grown h.bel h2 (Nat.le_of_lt h.z.lt) (fun k hk => ?_)⟩
  · injection e with e; omega
  · injection e with e; omega
  · injection hk with hk; omega
theorem InSt.lt (h : InSt w wx A n cap m cs) : w.heap.size + 2 < wx.heap.size := h.ins.lt
end
theorem rdC0 (A : Option Addr) (n cap : Nat) : RdC A n cap 0 = #[.slice A n cap, .int .i64 0, .bool false] := by unfold RdC; simp
theorem res13 (tmps : Array Value) (W : World) (g : Nat) (cs old : Array Value) (h : Blk W g 27 old) (hs : old.size = 8) (hc : cs.size = 8) (h2 : tmps.getD 2 undef = .pointer (some ⟨g, 0, none⟩)) (b : Int) (h3 : tmps.getD 3 undef = .int .i64 b) (h9 : True = True) :
    (results Tryd.f50 tmps).run Tryd.prog (W.setRow g cs) = .ok (.tuple #[.agg cs, .int .i64 b]) (W.setRow g cs) := by
  have hi : (Tryd.prog.info? 27).map (·.size) = some cs.size := by rw [hc]; kernel_rfl
  have hld := run_loadVar_row (P := Tryd.prog) (W.setRow g cs) g 27 27 cs (0, 0) _ (setRow_heap W g old cs _ (0, 0) h) Tryd.underlying27 rfl hi
  have h2' : tmps[2]?.getD undef = .pointer (some ⟨g, 0, none⟩) := by simpa using h2
  have h3' : tmps[3]?.getD undef = .int .i64 b := by simpa using h3
  simp [results, Tryd.results50, h2', h3', asAddr, hld]
set_option maxRecDepth 100000 in
set_option maxHeartbeats 4000000 in
theorem ofI_any (A : Option Addr) (n cap : Nat) (xs : List Int) (w : World) (hI : Ints .u8 w w.heap.size A n xs) (hn : n ≤ 140737488351232) (hP : PagAt w) (hK : KindsAt w) :
    Calls Tryd.prog 50 #[.slice A n cap] w fun e w' => e = .returned (.tuple #[.agg (inAgg xs), .int .i64 (if inOk xs then 0 else 20)]) ∧ Below w.heap.size w w' := by
  have HI := Lib.hid hI
  have HLx := Lib.hid hI.1
  have HW := Lib.hid hI.2.1
  have HPg := Lib.hid hP
  have HKd := Lib.hid hK
  have CN := Lib.hid (fun m wx (h : Blk wx (w.heap.size + 1) 122 (RdC A n cap m)) (hb : Below w.heap.size w wx) => next_any A n cap m xs hn wx (w.heap.size + 1) w.heap.size (hI.below (Nat.le_refl _) hb) (by omega) h)
  have HCN := Lib.hid (fun m wx cs (h : InSt w wx A n cap m cs) => next_any A n cap m xs hn wx (w.heap.size + 1) w.heap.size (hI.below (Nat.le_refl _) h.bel) (by omega) h.rd)
  have HPx := Lib.hid (fun wx (hb : Below w.heap.size w wx) => hP.below hb)
  have HKx := Lib.hid (fun wx (hb : Below w.heap.size w wx) => kinds_below hK hb)
  have hRg := fun k => iat_range8' hI.2.1 k
  have X0r := hRg 0
  have X1r := hRg 1
  have HRg := Lib.hid hRg
  have HE : Hid (inPg xs = (if iat xs 0 = 16 then 2 else if iat xs 0 = 17 then 3 else 1) ∧ inL1 xs = (if inPg xs = 1 then 1 else 2) ∧ inCo xs = (if inPg xs = 1 then iat xs 0 else iat xs 1)) := Lib.hid ⟨rfl, rfl, rfl⟩
  obtain ⟨X0, hX0⟩ : ∃ a, iat xs 0 = a := ⟨_, rfl⟩
  obtain ⟨X1, hX1⟩ : ∃ a, iat xs 1 = a := ⟨_, rfl⟩
  have N0 := CN.out 0
  have N1 := HCN.out 1
  rw [hX0] at X0r HE N0
  rw [hX1] at X1r HE N1
  have CN0 := Lib.hid N0
  have CN1 := Lib.hid N1
  obtain ⟨X0a, X0b⟩ := X0r
  obtain ⟨X1a, X1b⟩ := X1r
  clear hI hP hK hRg hX0 hX1 N0 N1 CN hn
  go_enter Tryd.func50, Tryd.ntmps50
  go_wp2_with fail
  have HB0 := Lib.hid (show Below w.heap.size w ((w.alloc (Obj.cells zInst 27)).alloc (Obj.cells #[.slice A n cap, .int .i64 0, .bool false] 122)) from Below.alloc0 (Below.alloc0 (Below.refl _ _) _) _)
  have HR0 := Lib.hid (show Blk ((w.alloc (Obj.cells zInst 27)).alloc (Obj.cells #[.slice A n cap, .int .i64 0, .bool false] 122)) (w.heap.size + 1) 122 (RdC A n cap 0) from by
    have := Blk.new (w.alloc (Obj.cells zInst 27)) 122 #[.slice A n cap, .int .i64 0, .bool false] (0, 0)
    rw [show (w.alloc (Obj.cells zInst 27)).heap.size = w.heap.size + 1 by simp] at this
    rw [rdC0]; exact this)
  have HZ0 := Lib.hid (show Blk ((w.alloc (Obj.cells zInst 27)).alloc (Obj.cells #[.slice A n cap, .int .i64 0, .bool false] 122)) w.heap.size 27 zInst from Blk.alloc (Blk.new _ _ _ _) _)
  refine (CN0.out _ HR0.out HB0.out).mono ?_
  rintro e w2 ⟨rfl, hr2, hg2, hs2⟩
  have hs : w2.heap.size = w.heap.size + 2 := by rw [hs2]; simp
  have HS := Lib.hid (show InSt w (w2.alloc (Obj.cells #[.int .i64 1, .int .u8 X0, .int .i64 0, .int .i64 0, .int .i64 0, .int .u8 0, .int .u16 0, .int .i64 0] 27)) A n cap 1 #[.int .i64 1, .int .u8 X0, .int .i64 0, .int .i64 0, .int .i64 0, .int .u8 0, .int .u16 0, .int .i64 0] from
    ⟨Blk.alloc (Blk.grown HZ0.out hg2 (fun e => by injection e with e; omega)) _, Blk.alloc hr2 _, by
      have := Blk.new w2 27 #[.int .i64 1, .int .u8 X0, .int .i64 0, .int .i64 0, .int .i64 0, .int .u8 0, .int .u16 0, .int .i64 0] (0, 0)
      rw [hs] at this; exact this, Below.alloc0 (Below.grown HB0.out hg2 (by simp; omega) (fun k hk => by injection hk with hk; omega)) _⟩)
  have hsz : (w2.alloc (Obj.cells #[.int .i64 1, .int .u8 X0, .int .i64 0, .int .i64 0, .int .i64 0, .int .u8 0, .int .u16 0, .int .i64 0] 27)).heap.size = w.heap.size + 3 := by simp [hs]
  clear hr2 hg2 hs2 HZ0 HR0 HB0
  go_upto_region 3 with (fail)
  generalize w2.alloc (Obj.cells #[.int .i64 1, .int .u8 X0, .int .i64 0, .int .i64 0, .int .i64 0, .int .u8 0, .int .u16 0, .int .i64 0] 27) = W1 at HS hsz ⊢
  clear hsz hs
  obtain ⟨c0, c1, c2, c3, c4, c5, c6, c7⟩ := HS.out.ins.s8
  have CPf := Lib.hid (fun w => prefix_any X0 X0a X0b w)
  have HPf : Hid (prefN X0 = if X0 = 16 then 2 else if X0 = 17 then 3 else 0) := Lib.hid rfl
  obtain ⟨F, hF⟩ : ∃ F, prefN X0 = F := ⟨_, rfl⟩
  rw [hF] at CPf HPf
  clear hF
  go_upto_if 16 with (go_at_call 66; refine (CPf.out _).mono ?_; rintro e w' ⟨rfl, rfl⟩)
  obtain ⟨D, hD⟩ : ∃ D, decide (0 < F) = D := ⟨_, rfl⟩
  rw [hD]
  go_cut [16] (fun _ wx => Hid (InSt w wx A n cap (inL1 xs) #[.int .i64 (inPg xs : Int), .int .u8 (inCo xs), .int .i64 0, .int .i64 0, .int .i64 0, .int .u8 0, .int .u16 0, .int .i64 0]))
  case first =>
    cases D
    · have hf := of_decide_eq_false hD
      have HQ : Hid (inPg xs = 1 ∧ inL1 xs = 1 ∧ inCo xs = X0) := Lib.hid (by
        obtain ⟨q1, q2, q3⟩ := HE.out
        have q4 := HPf.out
        have h16 : ¬ X0 = 16 := fun h => by rw [if_pos h] at q4; omega
        have h17 : ¬ X0 = 17 := fun h => by rw [if_neg h16, if_pos h] at q4; omega
        rw [if_neg h16, if_neg h17] at q1
        rw [q1] at q2 q3
        exact ⟨q1, q2, q3⟩)
      clear hf hD
      go_wp2_with fail
      go_meet
      case rel => rw [HQ.out.1, HQ.out.2.1, HQ.out.2.2]; exact HS
    · have hf := of_decide_eq_true hD
      have HQ : Hid ((inPg xs : Int) = F ∧ inL1 xs = 2 ∧ inCo xs = X1) := Lib.hid (by
        obtain ⟨q1, q2, q3⟩ := HE.out
        have q4 := HPf.out
        by_cases h16 : X0 = 16
        · rw [if_pos h16] at q1 q4
          rw [q1] at q2 q3 ⊢
          exact ⟨q4.symm, q2, q3⟩
        · by_cases h17 : X0 = 17
          · rw [if_neg h16, if_pos h17] at q1 q4
            rw [q1] at q2 q3 ⊢
            exact ⟨q4.symm, q2, q3⟩
          · rw [if_neg h16, if_neg h17] at q4; omega)
      clear hf hD
      go_wp2_with fail
      refine (CN1.out _ _ HS.out).mono ?_
      intro e w3 hN
      have HS3 := Lib.hid (HS.out.next hN)
      obtain ⟨rfl, -⟩ := hN
      clear c0 c1 c2 c3 c4 c5 c6 c7
      obtain ⟨c0, c1, c2, c3, c4, c5, c6, c7⟩ := HS3.out.ins.s8
      obtain ⟨f0, f1, f2, f3, f4, f5, f6, f7⟩ := HS3.out.ins.f8
      go_wp2_with fail
      go_meet
      case rel => rw [HQ.out.1, HQ.out.2.1, HQ.out.2.2]; exact Lib.hid ((HS3.out.set 0 (.int .i64 F)).set 1 (.int .u8 X1))
  case rest =>
    have HS2 := hcut
    clear hcut HS c0 c1 c2 c3 c4 c5 c6 c7 hD HPf CPf
    have hco := inCo_range HW.out
    have hmd := inMd_le HW.out
    have hpg : 1 ≤ inPg xs ∧ inPg xs ≤ 3 := by
      unfold inPg
      split
      · omega
      · split <;> omega
    have HDf : Hid (inMd xs = eMode (inE xs) ∧ inPo xs = (if pstd (inMd xs) then iat xs (inL1 xs) else 0) ∧ inL2 xs = inL1 xs + (if pstd (inMd xs) then 1 else 0) ∧ inN xs = shN (inMd xs) (inPo xs) ∧
      inVa xs = (if inN xs = 1 then (if shS (inMd xs) then signOf (iat xs (inL2 xs)) else iat xs (inL2 xs)) else if inN xs = 2 then 256 * iat xs (inL2 xs) + iat xs (inL2 xs + 1) else 0)) := Lib.hid ⟨rfl, rfl, rfl, rfl, rfl⟩
    have hpo := inPo_range HW.out
    have hE : ofE (inPg xs) (inCo xs).toNat = inE xs := by
      rw [ofE_eq _ _ hpg.1 hpg.2 (by omega)]
      unfold inE ofN
      rw [if_pos (by omega)]
      congr 1
    have HAg : Hid (inAgg xs = (if inOk xs then insC (inPg xs : Int) (inCo xs) (inE xs) (inPo xs) (inVa xs) (inLn xs : Int) else insC 0 0 0 0 0 0) ∧ inLn xs = inL2 xs + inN xs ∧ inOk xs = decide (inLn xs ≤ n)) := Lib.hid ⟨rfl, rfl, by unfold inOk; rw [HLx.out]⟩
    obtain ⟨PG, hPG⟩ : ∃ a, inPg xs = a := ⟨_, rfl⟩
    obtain ⟨CO, hCO⟩ : ∃ a : Nat, inCo xs = (a : Int) := Int.eq_ofNat_of_zero_le hco.1
    obtain ⟨E, hEE⟩ : ∃ a, inE xs = a := ⟨_, rfl⟩
    obtain ⟨L1, hL1⟩ : ∃ a, inL1 xs = a := ⟨_, rfl⟩
    obtain ⟨L2, hL2⟩ : ∃ a, inL2 xs = a := ⟨_, rfl⟩
    obtain ⟨PO, hPO⟩ : ∃ a : Nat, inPo xs = (a : Int) := Int.eq_ofNat_of_zero_le hpo.1
    obtain ⟨N, hN⟩ : ∃ a, inN xs = a := ⟨_, rfl⟩
    obtain ⟨VA, hVA⟩ : ∃ a, inVa xs = a := ⟨_, rfl⟩
    obtain ⟨LN, hLN⟩ : ∃ a, inLn xs = a := ⟨_, rfl⟩
    obtain ⟨MD, hMD⟩ : ∃ a, inMd xs = a := ⟨_, rfl⟩
    obtain ⟨OK, hOK⟩ : ∃ a, inOk xs = a := ⟨_, rfl⟩
    obtain ⟨AG, hAG⟩ : ∃ a, inAgg xs = a := ⟨_, rfl⟩
    rw [hPG, hCO, hEE, Int.toNat_natCast] at hE
    rw [hPG, hCO, hL1] at HS2
    rw [hMD, hEE, hPO, hL1, hL2, hN, hVA] at HDf
    rw [hAG, hOK, hPG, hCO, hEE, hPO, hVA, hLN, hL2, hN] at HAg
    have HFin := Lib.hid (And.intro hOK hAG)
    rw [hCO] at hco
    rw [hMD] at hmd
    rw [hPG] at hpg
    rw [hPO] at hpo
    have hco1 : CO < 256 := by omega
    have hpo1 : PO < 256 := by omega
    obtain ⟨pg0, pg1⟩ := hpg
    clear hPG hCO hEE hL1 hL2 hPO hN hVA hLN hMD hOK hAG hco hpo
    have CE := Lib.hid (fun w hT => pageOf_in PG CO pg0 pg1 hco1 w hT)
    rw [hE] at CE
    have HME := Lib.hid (show eMode E = MD from HDf.out.1.symm)
    have CPo := Lib.hid (fun w => posted_any (MD : Int) w)
    rw [pstdI_nat] at CPo
    have hN2 : N ≤ 2 := by
      have q4 := HDf.out.2.2.2.1
      have := shN_le MD (PO : Int) hmd ⟨by omega, by omega⟩
      omega
    have CWd := Lib.hid (fun p c o r v l w hT => width_any p c o (MD : Int) r v l PO hpo1 w hT)
    have hwd : widI (MD : Int) PO = N := by rw [widI_nat MD PO hmd]; exact HDf.out.2.2.2.1.symm
    rw [hwd] at CWd
    have CSg := Lib.hid (fun v h0 h1 w => single_any (MD : Int) v h0 h1 w)
    obtain ⟨P, hPs⟩ : ∃ P, pstd MD = P := ⟨_, rfl⟩
    rw [hPs] at HDf CPo
    clear hPs hE hwd
    obtain ⟨c0, c1, c2, c3, c4, c5, c6, c7⟩ := HS2.out.ins.s8
    go_wp2_with fail
    refine (CE.out _ (HPx.out _ HS2.out.bel)).mono ?_
    rintro e w3 ⟨rfl, hb3⟩
    have HS3 := Lib.hid (HS2.out.below hb3)
    clear hb3 c0 c1 c2 c3 c4 c5 c6 c7 HS2
    obtain ⟨c0, c1, c2, c3, c4, c5, c6, c7⟩ := HS3.out.ins.s8
    obtain ⟨f0, f1, f2, f3, f4, f5, f6, f7⟩ := HS3.out.ins.f8
    unfold entA
    go_upto_region 7 with (fail)
    have HS4 := Lib.hid (show InSt w (((w3.setCell ⟨w.heap.size + 2, 2, none⟩ (.int .i64 (eOp E : Int))).setCell ⟨w.heap.size + 2, 3, none⟩ (.int .i64 (eMode E : Int))).setCell ⟨w.heap.size + 2, 4, none⟩ (.int .i64 (eReg E : Int))) A n cap L1 #[.int .i64 (PG : Int), .int .u8 (CO : Int), .int .i64 (eOp E : Int), .int .i64 (eMode E : Int), .int .i64 (eReg E : Int), .int .u8 0, .int .u16 0, .int .i64 0] from ((HS3.out.set 2 (.int .i64 (eOp E : Int))).set 3 (.int .i64 (eMode E : Int))).set 4 (.int .i64 (eReg E : Int)))
    clear c0 c1 c2 c3 c4 c5 c6 c7 f0 f1 f2 f3 f4 f5 f6 f7
    generalize ((w3.setCell ⟨w.heap.size + 2, 2, none⟩ (.int .i64 (eOp E : Int))).setCell ⟨w.heap.size + 2, 3, none⟩ (.int .i64 (eMode E : Int))).setCell ⟨w.heap.size + 2, 4, none⟩ (.int .i64 (eReg E : Int)) = W4 at HS4 ⊢
    rw [HME.out] at HS4
    clear HS3
    obtain ⟨c0, c1, c2, c3, c4, c5, c6, c7⟩ := HS4.out.ins.s8
    go_upto_if 30 with (go_at_call 47; refine (CPo.out _).mono ?_; rintro e w' ⟨rfl, rfl⟩)
    go_cut [30] (fun _ wx => Hid (InSt w wx A n cap L2 #[.int .i64 (PG : Int), .int .u8 (CO : Int), .int .i64 (eOp E : Int), .int .i64 (MD : Int), .int .i64 (eReg E : Int), .int .u8 (PO : Int), .int .u16 0, .int .i64 0]))
    case first =>
      cases P
      · have HQ : Hid (PO = 0 ∧ L2 = L1) := Lib.hid (by
          obtain ⟨q1, q2, q3, _⟩ := HDf.out
          simp at q2 q3
          exact ⟨by omega, q3⟩)
        go_wp2_with fail
        go_meet
        case rel => rw [HQ.out.1, HQ.out.2]; exact HS4
      · have HQ : Hid ((PO : Int) = iat xs L1 ∧ L2 = L1 + 1) := Lib.hid (by
          obtain ⟨q1, q2, q3, _⟩ := HDf.out
          exact ⟨q2, q3⟩)
        go_wp2_with fail
        refine (HCN.out _ _ _ HS4.out).mono ?_
        intro e w5 hN
        have HS5 := Lib.hid (HS4.out.next hN)
        obtain ⟨rfl, -⟩ := hN
        rw [← HQ.out.1]
        clear c0 c1 c2 c3 c4 c5 c6 c7
        obtain ⟨c0, c1, c2, c3, c4, c5, c6, c7⟩ := HS5.out.ins.s8
        obtain ⟨f0, f1, f2, f3, f4, f5, f6, f7⟩ := HS5.out.ins.f8
        go_wp2_with fail
        go_meet
        case rel => rw [HQ.out.2]; exact Lib.hid (HS5.out.set 5 (.int .u8 (PO : Int)))
    case rest =>
      have HS6 := hcut
      clear hcut HS4 c0 c1 c2 c3 c4 c5 c6 c7
      obtain ⟨c0, c1, c2, c3, c4, c5, c6, c7⟩ := HS6.out.ins.s8
      go_wp2_with fail
      refine (CWd.out _ _ _ _ _ _ _ (HKx.out _ HS6.out.bel)).mono ?_
      rintro e w7 ⟨rfl, hb7⟩
      have HS7 := Lib.hid (HS6.out.below hb7)
      clear hb7 c0 c1 c2 c3 c4 c5 c6 c7 HS6
      go_upto_block 0 with (fail)
      go_cut [35] (fun _ wx => Hid (InSt w wx A n cap LN #[.int .i64 (PG : Int), .int .u8 (CO : Int), .int .i64 (eOp E : Int), .int .i64 (MD : Int), .int .i64 (eReg E : Int), .int .u8 (PO : Int), .int .u16 VA, .int .i64 0]))
      case first =>
        have hLN : LN = L2 + N := HAg.out.2.1
        have HVa : Hid (VA = (if N = 1 then (if shS MD then signOf (iat xs L2) else iat xs L2) else if N = 2 then 256 * iat xs L2 + iat xs (L2 + 1) else 0)) := Lib.hid HDf.out.2.2.2.2
        have CNa := HCN.out L2
        have CNb := HCN.out (L2 + 1)
        have ra := HRg.out L2
        have rb := HRg.out (L2 + 1)
        obtain ⟨XA, hXA⟩ : ∃ a, iat xs L2 = a := ⟨_, rfl⟩
        obtain ⟨XB, hXB⟩ : ∃ a, iat xs (L2 + 1) = a := ⟨_, rfl⟩
        rw [hXA] at CNa ra HVa
        rw [hXB] at CNb rb HVa
        have HNa := Lib.hid CNa
        have HNb := Lib.hid CNb
        obtain ⟨ra0, ra1⟩ := ra
        obtain ⟨rb0, rb1⟩ := rb
        clear hXA hXB CNa CNb
        rcases (show N = 0 ∨ N = 1 ∨ N = 2 by omega) with rfl | rfl | rfl
        · have HQ : Hid (VA = 0 ∧ LN = L2) := Lib.hid ⟨HVa.out, hLN⟩
          clear hLN
          go_wp2_with fail
          go_meet
          case rel => rw [HQ.out.1, HQ.out.2]; exact HS7
        · have HQ : Hid (LN = L2 + 1) := Lib.hid hLN
          have CS1 := CSg.out XA ra0 ra1
          rw [sglI_nat, show (if shS MD = true then signOf XA else XA) = VA from HVa.out.symm] at CS1
          have CS := Lib.hid CS1
          clear hLN CS1
          have HSd := Lib.hid (HS7.out.drew)
          go_upto_region 11 with (fail)
          go_region_held3 (fun w' => w'.cell? ⟨w.heap.size + 2, 3, none⟩ = some (.int .i64 (MD : Int)))
            (first
              | (with_reducible exact (HSd.out.ins.s8).2.2.2.1)
              | (with_reducible exact (HS8.out.ins.s8).2.2.2.1)
              | exact (Blk.s8 (show Blk _ (w.heap.size + 2) 27 #[.int .i64 (PG : Int), .int .u8 (CO : Int), .int .i64 (eOp E : Int), .int .i64 (MD : Int), .int .i64 (eReg E : Int), .int .u8 (PO : Int), .int .u16 VA, .int .i64 0] from (HS8.out.set 6 (.int .u16 VA)).ins)).2.2.2.1)
            (first
              | (go_at_call 65; ((with_reducible refine (HNa.out _ _ HSd.out).mono ?_); intro e w8 hN8; have HS8 := Lib.hid (HSd.out.next hN8); obtain ⟨rfl, -⟩ := hN8; have hf6 := HS8.out.ins.frozen 6; have hc6 := (HS8.out.ins.s8).2.2.2.2.2.2.1))
              | (go_at_call 68; ((with_reducible refine (CS.out _).mono ?_); rintro e w9 ⟨rfl, rfl⟩)))
          go_wp2_with fail
          go_meet
          case rel => rw [HQ.out]; exact Lib.hid (HS8.out.set 6 (.int .u16 VA))
        · have HQ : Hid (LN = L2 + 2 ∧ VA = 256 * XA + XB) := Lib.hid ⟨hLN, HVa.out⟩
          have CWo := Lib.hid (fun w => word_any XA XB w ra0 ra1 rb0 rb1)
          clear hLN
          go_wp2_with fail
          refine (HNa.out _ _ HS7.out).mono ?_
          intro e w8 hN8
          have HS8 := Lib.hid (HS7.out.next hN8)
          obtain ⟨rfl, -⟩ := hN8
          go_wp2_with fail
          refine (HNb.out _ _ HS8.out).mono ?_
          intro e w9 hN9
          have HS9 := Lib.hid (HS8.out.next hN9)
          obtain ⟨rfl, -⟩ := hN9
          obtain ⟨c0, c1, c2, c3, c4, c5, c6, c7⟩ := HS9.out.ins.s8
          have hf6 := HS9.out.ins.frozen 6
          go_wp2_with (go_at_call 69; refine (CWo.out _).mono ?_; rintro e w' ⟨rfl, rfl⟩)
          go_meet
          case rel => rw [HQ.out.1, HQ.out.2]; exact Lib.hid (HS9.out.set 6 (.int .u16 (256 * XA + XB)))
      case rest =>
        have HSf := hcut
        clear hcut HS7
        have hr := HSf.out.rd
        unfold RdC at hr
        have HMn : Hid (OK = true → min LN n = LN) := Lib.hid (fun h => by
          have := HAg.out.2.2
          rw [h] at this
          have := of_decide_eq_true this.symm
          omega)
        have HSh : Hid (decide (n < LN) = !OK) := Lib.hid (by
          rw [HAg.out.2.2]
          by_cases h : LN ≤ n
          · rw [decide_eq_true h]; exact decide_eq_false (by omega)
          · rw [decide_eq_false h]; exact decide_eq_true (by omega))
        rw [HSh.out] at hr
        obtain ⟨r0, r1, r2⟩ := hr.r3
        obtain ⟨c0, c1, c2, c3, c4, c5, c6, c7⟩ := HSf.out.ins.s8
        obtain ⟨f0, f1, f2, f3, f4, f5, f6, f7⟩ := HSf.out.ins.f8
        have HZ := Lib.hid HSf.out.z
        have HB := Lib.hid HSf.out.bel
        cases OK
        · have HAG2 : Hid (AG = zInst) := Lib.hid HAg.out.1
          simp only [Bool.not_false] at r2
          go_upto_region 16 with (fail)
          generalize wc = W9 at HZ HB ⊢
          refine wp_region_lit ?_
          refine Great.wpList_readTo rfl (some 52) rfl (.agg zInst) (by kernel_rfl) ?_
          refine wpList_store_rowTo rfl 27 _ _ rfl rfl w.heap.size zInst rfl rfl 27 zInst HZ.out (by kernel_rfl) rfl (by simp [Value.oneCell']) ?_
          refine Great.wpList_readTo rfl (some 3) rfl (.int .i64 20) (by kernel_rfl) ?_
          refine wpList_nil ?_
          simp only [Act.put, List.setIfInBounds_toArray, List.set_cons_zero, List.set_cons_succ]
          refine (‹∀ (a : Act) (w : World), Code.wp Tryd.prog Code.ret _ a w → _›) _ _ ?_
          refine wp_ret ?_
          show bodyPost Tryd.prog Tryd.f50 (fun e w' => e = Ending.returned (Value.tuple #[Value.agg (inAgg xs), Value.int .i64 (if inOk xs then 0 else 20)]) ∧ Below w.heap.size w w') .ret _ _
          refine bodyPost_ret (P := Tryd.prog) (fn := Tryd.f50) (v := .tuple #[.agg zInst, .int .i64 20]) ?_ rfl ⟨?_, HB.out.trans (below_rowI W9 _ _ _ (Nat.le_refl _))⟩
          · exact res13 _ W9 w.heap.size _ zInst HZ.out rfl rfl rfl 20 rfl rfl
          · rw [HFin.out.1, HFin.out.2, HAG2.out]; rfl
        · have HAG2 : Hid (AG = #[.int .i64 (PG : Int), .int .u8 (CO : Int), .int .i64 (eOp E : Int), .int .i64 (MD : Int), .int .i64 (eReg E : Int), .int .u8 (PO : Int), .int .u16 VA, .int .i64 (LN : Int)]) := Lib.hid (by rw [HAg.out.1, ← HME.out]; rfl)
          simp only [Bool.not_true] at r2
          rw [HMn.out rfl] at r1
          have HS9 := Lib.hid (show InSt w (wc.setCell ⟨w.heap.size + 2, 7, none⟩ (.int .i64 (LN : Int))) A n cap LN #[.int .i64 (PG : Int), .int .u8 (CO : Int), .int .i64 (eOp E : Int), .int .i64 (MD : Int), .int .i64 (eReg E : Int), .int .u8 (PO : Int), .int .u16 VA, .int .i64 (LN : Int)] from HSf.out.set 7 (.int .i64 (LN : Int)))
          go_upto_region 18 with (fail)
          generalize wc.setCell ⟨w.heap.size + 2, 7, none⟩ (.int .i64 (LN : Int)) = W9 at HS9 ⊢
          refine wp_region_lit ?_
          refine wpList_load_row rfl 27 _ rfl (w.heap.size + 2) rfl 27 _ (0, 0) _ HS9.out.ins Tryd.underlying27 rfl (by kernel_rfl) ?_
          refine wpList_store_rowTo rfl 27 _ _ rfl rfl w.heap.size _ rfl rfl 27 zInst HS9.out.z (by kernel_rfl) rfl (by simp [Value.oneCell']) ?_
          refine Great.wpList_readTo rfl (some 3) rfl (.int .i64 0) (by kernel_rfl) ?_
          refine wpList_nil ?_
          simp only [Act.put, List.setIfInBounds_toArray, List.set_cons_zero, List.set_cons_succ]
          refine (‹∀ (a : Act) (w : World), Code.wp Tryd.prog Code.ret _ a w → _›) _ _ ?_
          refine wp_ret ?_
          show bodyPost Tryd.prog Tryd.f50 (fun e w' => e = Ending.returned (Value.tuple #[Value.agg (inAgg xs), Value.int .i64 (if inOk xs then 0 else 20)]) ∧ Below w.heap.size w w') .ret _ _
          refine bodyPost_ret (P := Tryd.prog) (fn := Tryd.f50) (v := .tuple #[.agg #[.int .i64 (PG : Int), .int .u8 (CO : Int), .int .i64 (eOp E : Int), .int .i64 (MD : Int), .int .i64 (eReg E : Int), .int .u8 (PO : Int), .int .u16 VA, .int .i64 (LN : Int)], .int .i64 0]) ?_ rfl ⟨?_, HS9.out.bel.trans (below_rowI W9 _ _ _ (Nat.le_refl _))⟩
          · exact res13 _ W9 w.heap.size _ zInst HS9.out.z rfl rfl rfl 0 rfl rfl
          · rw [HFin.out.1, HFin.out.2, HAG2.out]; rfl
end Go.Proofs.YtopkjniegncokaaDoor
namespace Go.Proofs.YtopkjniegncokaaDoor
open Go.ChangeShapes Go.WideShapes Go.ChangeAt Go.RowKit
set_option linter.unusedVariables false

/-- The bytes that Put makes. -/
def putA (p : Int) : List Int := if p = 2 then [16] else if p = 3 then [17] else []
def putB (m b : Int) : List Int := if pstdI m then [b] else []
def putC (m : Int) (b : Nat) (v : Int) : List Int := if widI m b = 1 then [v % 256] else if widI m b = 2 then [v / 256, v % 256] else []
def putX (p c m : Int) (b : Nat) (v : Int) : List Int := putA p ++ [c] ++ putB m b ++ putC m b v
def insEq (p c o m r b v l p' c' o' m' r' b' v' l' : Int) : Bool := p == p' && (c == c' && ((o == o' && (m == m' && r == r')) && (b == b' && (v == v' && l == l'))))
def putOk (p c o m r : Int) (b : Nat) (v l : Int) (X : List Int) : Bool :=
  inOk X && insEq (inPg X : Int) (inCo X) (eOp (inE X)) (eMode (inE X)) (eReg (inE X)) (inPo X) (inVa X) (inLn X : Int) p c o m r b v l
theorem putA_len (p : Int) : (putA p).length ≤ 1 := by unfold putA; split <;> (try split) <;> simp
theorem putB_len (m b : Int) : (putB m b).length ≤ 1 := by unfold putB; split <;> simp
theorem putC_len (m : Int) (b : Nat) (v : Int) : (putC m b v).length ≤ 2 := by unfold putC; split <;> (try split) <;> simp
theorem putX_len (p c m : Int) (b : Nat) (v : Int) : (putX p c m b v).length ≤ 5 := by
  have := putA_len p
  have := putB_len m b
  have := putC_len m b v
  unfold putX
  simp only [List.length_append, List.length_cons, List.length_nil]
  omega
theorem putX_wf (p c m : Int) (b : Nat) (v : Int) (hc0 : 0 ≤ c) (hc1 : c < 256) (hb : b < 256) (v0 : 0 ≤ v) (v1 : v < 65536) : ∀ z ∈ putX p c m b v, (Lit.int .u8 z).wf = true := by
  have mk : ∀ z : Int, 0 ≤ z → z < 256 → (Lit.int .u8 z).wf = true := fun z h0 h1 => by simp [Lit.wf, IntKind.min, IntKind.max, IntKind.signed, IntKind.bits]; omega
  intro z hz
  unfold putX putA putB putC at hz
  simp only [List.mem_append, List.mem_singleton] at hz
  rcases hz with ((hz | hz) | hz) | hz
  · split at hz
    · simp at hz; subst hz; decide
    · split at hz
      · simp at hz; subst hz; decide
      · simp at hz
  · subst hz; exact mk _ hc0 hc1
  · split at hz
    · simp at hz; subst hz; exact mk _ (by omega) (by omega)
    · simp at hz
  · split at hz
    · simp at hz; subst hz; exact mk _ (by omega) (by omega)
    · split at hz
      · simp at hz
        rcases hz with rfl | rfl
        · exact mk _ (by omega) (by omega)
        · exact mk _ (by omega) (by omega)
      · simp at hz
set_option maxRecDepth 100000 in
set_option maxHeartbeats 1000000 in
theorem neq_ins (w : World) (p c o m r b v l p' c' o' m' r' b' v' l' : Int) :
    (binOp .neq 27 (.agg #[.int .i64 p, .int .u8 c, .int .i64 o, .int .i64 m, .int .i64 r, .int .u8 b, .int .u16 v, .int .i64 l]) (.agg #[.int .i64 p', .int .u8 c', .int .i64 o', .int .i64 m', .int .i64 r', .int .u8 b', .int .u16 v', .int .i64 l'])).run Tryd.prog w = .ok (.bool (!insEq p c o m r b v l p' c' o' m' r' b' v' l')) w := by
  unfold insEq
  by_cases h1 : p = p'
  · subst h1
    by_cases h2 : c = c'
    · subst h2
      by_cases h3 : o = o'
      · subst h3
        by_cases h4 : m = m'
        · subst h4
          by_cases h5 : r = r'
          · subst h5
            by_cases h6 : b = b'
            · subst h6
              by_cases h7 : v = v'
              · subst h7
                by_cases h8 : l = l'
                · subst h8
                  go_simp
                · have e : (l == l') = false := by simpa using h8
                  go_simp
              · have e : (v == v') = false := by simpa using h7
                go_simp
            · have e : (b == b') = false := by simpa using h6
              go_simp
          · have e : (r == r') = false := by simpa using h5
            go_simp
        · have e : (m == m') = false := by simpa using h4
          go_simp
      · have e : (o == o') = false := by simpa using h3
        go_simp
    · have e : (c == c') = false := by simpa using h2
      go_simp
  · have e : (p == p') = false := by simpa using h1
    go_simp
/-- The boxed instruction, the bytes so far (a slice of the call's own), and what stands below. -/
structure PuSt (w wx : World) (cs : Array Value) (v : Value) (zs : List Int) : Prop where
  box : Blk wx w.heap.size 27 cs
  own : Own .u8 5 wx (w.heap.size + 1) v zs
  bel : Below w.heap.size w wx
theorem PuSt.app {w wx w' : World} {cs : Array Value} {v v' : Value} {zs ys : List Int} {o : Obj} (h : PuSt w wx cs v zs) (ho : Own .u8 5 w' (w.heap.size + 1) v' ys) (hb : Below (w.heap.size + 1) (wx.alloc o) w') : PuSt w w' cs v' ys :=
  ⟨Blk.below (Blk.alloc h.box o) hb (by omega), ho, (Below.alloc0 h.bel o).trans (hb.mono (by omega))⟩
theorem Below.undrew {B : Nat} {w w' : World} (h : Below B w.drew w') : Below B w w' := ⟨h.os, h.tape, h.output, h.size, h.block⟩
theorem PuSt.step {w wx w' : World} {cs : Array Value} {v : Value} {zs : List Int} (h : PuSt w wx cs v zs) (hb : Below wx.heap.size wx w') : PuSt w w' cs v zs :=
  ⟨Blk.below h.box hb h.box.lt, h.own.below hb (fun g hg => (h.own.lt g hg).2), Below.trans0 h.bel hb⟩
theorem PuSt.lt {w wx : World} {cs : Array Value} {v : Value} {zs : List Int} (h : PuSt w wx cs v zs) : w.heap.size + 1 ≤ wx.heap.size := h.box.lt
def PutIs (w : World) (X : List Int) (ok : Bool) (e : Ending) (w' : World) : Prop :=
  ∃ A c, e = .returned (.tuple #[.slice A (if ok then X else []).length c, .int .i64 (if ok then 0 else 10)]) ∧ Ints .u8 w' w'.heap.size A (if ok then X else []).length (if ok then X else []) ∧ Below w.heap.size w w'
set_option maxRecDepth 100000 in
set_option maxHeartbeats 4000000 in
theorem put_any (p c o m r v l : Int) (b : Nat) (hc0 : 0 ≤ c) (hc1 : c < 256) (hb : b < 256) (v0 : 0 ≤ v) (v1 : v < 65536) (w : World) (hP : PagAt w) (hK : KindsAt w) :
    Calls Tryd.prog 35 #[.agg (iC p c o m r (b : Int) v l)] w (PutIs w (putX p c m b v) (putOk p c o m r b v l (putX p c m b v))) := by
  have hwf := putX_wf p c m b v hc0 hc1 hb v0 v1
  have hln := putX_len p c m b v
  have HPx := Lib.hid (fun wx (hb : Below w.heap.size w wx) => hP.below hb)
  have HKx := Lib.hid (fun wx (hb : Below w.heap.size w wx) => kinds_below hK hb)
  have CO := Lib.hid (fun A cap wx (hI : Ints .u8 wx wx.heap.size A (putX p c m b v).length (putX p c m b v)) hp hk => ofI_any A (putX p c m b v).length cap (putX p c m b v) wx hI (by omega) hp hk)
  have HX : Hid (putX p c m b v = putA p ++ [c] ++ putB m b ++ putC m b v) := Lib.hid rfl
  have HLs := Lib.hid (And.intro (putA_len p) (And.intro (putB_len m b) (putC_len m b v)))
  have HAg : Hid (inOk (putX p c m b v) = true → inAgg (putX p c m b v) = iC (inPg (putX p c m b v) : Int) (inCo (putX p c m b v)) (eOp (inE (putX p c m b v))) (eMode (inE (putX p c m b v))) (eReg (inE (putX p c m b v))) (inPo (putX p c m b v)) (inVa (putX p c m b v)) (inLn (putX p c m b v) : Int)) := Lib.hid (fun h => by unfold inAgg insC; rw [if_pos h])
  have HAz : Hid (inOk (putX p c m b v) = false → inAgg (putX p c m b v) = zInst) := Lib.hid (fun h => by unfold inAgg; rw [h]; rfl)
  have HOk : Hid (putOk p c o m r b v l (putX p c m b v) = (inOk (putX p c m b v) && insEq (inPg (putX p c m b v) : Int) (inCo (putX p c m b v)) (eOp (inE (putX p c m b v))) (eMode (inE (putX p c m b v))) (eReg (inE (putX p c m b v))) (inPo (putX p c m b v)) (inVa (putX p c m b v)) (inLn (putX p c m b v) : Int) p c o m r b v l)) := Lib.hid rfl
  generalize putOk p c o m r b v l (putX p c m b v) = OKP at HOk ⊢
  generalize (inPg (putX p c m b v) : Int) = p' at HAg HOk
  generalize inCo (putX p c m b v) = c' at HAg HOk
  generalize (eOp (inE (putX p c m b v)) : Int) = o' at HAg HOk
  generalize (eMode (inE (putX p c m b v)) : Int) = m' at HAg HOk
  generalize (eReg (inE (putX p c m b v)) : Int) = r' at HAg HOk
  generalize inPo (putX p c m b v) = b' at HAg HOk
  generalize inVa (putX p c m b v) = v' at HAg HOk
  generalize (inLn (putX p c m b v) : Int) = l' at HAg HOk
  generalize inAgg (putX p c m b v) = ag at CO HAg HAz
  generalize inOk (putX p c m b v) = ok at CO HAg HAz HOk
  obtain ⟨X, hX⟩ : ∃ X, putX p c m b v = X := ⟨_, rfl⟩
  rw [hX] at hwf hln CO HX ⊢
  have HWf := Lib.hid hwf
  have HLn := Lib.hid hln
  have HXA : Hid (putA p = if p = 2 then [16] else if p = 3 then [17] else []) := Lib.hid rfl
  have HXB : Hid (putB m b = if pstdI m then [(b : Int)] else []) := Lib.hid rfl
  have HXC : Hid (putC m b v = if widI m b = 1 then [v % 256] else if widI m b = 2 then [v / 256, v % 256] else []) := Lib.hid rfl
  generalize putA p = XA at HX HLs HXA
  generalize putB m b = XB at HX HLs HXB
  generalize putC m b v = XC at HX HLs HXC
  have CPo := Lib.hid (fun w => posted_any m w)
  have CWd := Lib.hid (fun wx h => width_any p c o m r v l b hb wx h)
  have hwd := widI_le m b hb
  obtain ⟨N, hN⟩ : ∃ N, widI m b = N := ⟨_, rfl⟩
  obtain ⟨P, hPs⟩ : ∃ P, pstdI m = P := ⟨_, rfl⟩
  rw [hN] at CWd HXC hwd
  rw [hPs] at CPo HXB
  have CH := Lib.hid (fun w => high_any v w v0 v1)
  have CLo := Lib.hid (fun w => low_any v w v0 v1)
  clear hX hwf hln hN hPs hP hK
  go_enter Tryd.func35, Tryd.ntmps35
  go_upto_block 0 with (fail)
  have HS0 := Lib.hid (show PuSt w (w.alloc (Obj.cells (iC p c o m r (b : Int) v l) 27)) (iC p c o m r (b : Int) v l) (.slice none 0 0) [] from ⟨Blk.new _ _ _ _, Own.nil_ _ _ _ _, Below.alloc0 (Below.refl _ _) _⟩)
  generalize w.alloc (Obj.cells (iC p c o m r (b : Int) v l) 27) = W0 at HS0 ⊢
  go_cut [4] (fun u4 wx => Hid (PuSt w wx (iC p c o m r (b : Int) v l) u4 XA))
  case first =>
    obtain ⟨c0, c1, c2, c3, c4, c5, c6, c7⟩ := HS0.out.box.s8
    rcases (show p = 2 ∨ p = 3 ∨ (¬ p = 2 ∧ ¬ p = 3) by omega) with rfl | rfl | ⟨h2, h3⟩
    · have HQ : Hid (XA = [16]) := Lib.hid HXA.out
      go_wp2_with (at_builtin; refine wpList_app8 rfl _ (.tmp 11) (.tmp 12) rfl (w.heap.size + 1) _ [] rfl (HS0.out.own.alloc _) ⟨W0.heap.size, 0, none⟩ 1 1 [16] rfl rfl (cells_lit _ _ _ _ _ rfl _ rfl) (by simp) (by have := HS0.out.lt; simp; omega) ?_; intro v1 w1 ho1 hb1 hg1)
      go_meet
      case rel => rw [HQ.out]; exact Lib.hid (HS0.out.app ho1 hb1)
    · have HQ : Hid (XA = [17]) := Lib.hid HXA.out
      go_wp2_with (at_builtin; refine wpList_app8 rfl _ (.tmp 16) (.tmp 17) rfl (w.heap.size + 1) _ [] rfl (HS0.out.own.alloc _) ⟨W0.heap.size, 0, none⟩ 1 1 [17] rfl rfl (cells_lit _ _ _ _ _ rfl _ rfl) (by simp) (by have := HS0.out.lt; simp; omega) ?_; intro v1 w1 ho1 hb1 hg1)
      go_meet
      case rel => rw [HQ.out]; exact Lib.hid (HS0.out.app ho1 hb1)
    · have HQ : Hid (XA = []) := Lib.hid (by rw [HXA.out, if_neg h2, if_neg h3])
      have e2 := ne_beq h2
      have e3 := ne_beq h3
      clear h2 h3
      go_wp2_with fail
      go_meet
      case rel => rw [HQ.out]; exact HS0
  case rest =>
    have HS1 := hcut
    clear hcut HS0
    obtain ⟨c0, c1, c2, c3, c4, c5, c6, c7⟩ := HS1.out.box.s8
    go_upto_region 8 with (at_builtin; refine wpList_app8 rfl _ (.tmp 19) (.tmp 22) rfl (w.heap.size + 1) u4 XA rfl (HS1.out.own.alloc _) ⟨wc.heap.size, 0, none⟩ 1 1 [c] rfl rfl (cells_lit _ _ _ _ _ rfl _ rfl) (by have := HLs.out.1; simp; omega) (by have := HS1.out.lt; simp; omega) ?_; intro v2 w2 ho2 hb2 hg2)
    have HS2 := Lib.hid (HS1.out.app ho2 hb2)
    clear c0 c1 c2 c3 c4 c5 c6 c7 ho2 hb2 hg2 HS1
    obtain ⟨c0, c1, c2, c3, c4, c5, c6, c7⟩ := HS2.out.box.s8
    go_upto_if 27 with (go_at_call 47; refine (CPo.out _).mono ?_; rintro e w' ⟨rfl, rfl⟩)
    go_cut [4] (fun u4 wx => Hid (PuSt w wx (iC p c o m r (b : Int) v l) u4 (XA ++ [c] ++ XB)))
    case first =>
      cases P
      · have HQ : Hid (XB = []) := Lib.hid HXB.out
        go_wp2_with fail
        go_meet
        case rel => rw [HQ.out, List.append_nil]; exact HS2
      · have HQ : Hid (XB = [(b : Int)]) := Lib.hid HXB.out
        go_wp2_with (at_builtin; refine wpList_app8 rfl _ (.tmp 28) (.tmp 31) rfl (w.heap.size + 1) v2 (XA ++ [c]) rfl (HS2.out.own.alloc _) ⟨w2.heap.size, 0, none⟩ 1 1 [(b : Int)] rfl rfl (cells_lit _ _ _ _ _ rfl _ rfl) (by have := HLs.out.1; simp; omega) (by have := HS2.out.lt; simp; omega) ?_; intro v3 w3 ho3 hb3 hg3)
        go_meet
        case rel => rw [HQ.out]; exact Lib.hid (HS2.out.app ho3 hb3)
    case rest =>
      have HS3 := hcut
      clear hcut HS2 c0 c1 c2 c3 c4 c5 c6 c7
      obtain ⟨c0, c1, c2, c3, c4, c5, c6, c7⟩ := HS3.out.box.s8
      go_upto_block 1 with (go_at_call 48; refine (CWd.out _ (HKx.out _ HS3.out.bel)).mono ?_; rintro e w4 ⟨rfl, hb4⟩)
      have HS4 := Lib.hid (HS3.out.step hb4)
      clear hb4 HS3 c0 c1 c2 c3 c4 c5 c6 c7
      go_cut [4] (fun u4 wx => Hid (PuSt w wx (iC p c o m r (b : Int) v l) u4 X))
      case first =>
        obtain ⟨c0, c1, c2, c3, c4, c5, c6, c7⟩ := HS4.out.box.s8
        rcases (show N = 0 ∨ N = 1 ∨ N = 2 by omega) with rfl | rfl | rfl
        · have HQ : Hid (X = XA ++ [c] ++ XB) := Lib.hid (by rw [HX.out, HXC.out]; simp)
          go_wp2_with fail
          go_meet
          case rel => rw [HQ.out]; exact HS4
        · have HQ : Hid (X = XA ++ [c] ++ XB ++ [v % 256]) := Lib.hid (by rw [HX.out, HXC.out]; rfl)
          go_wp2_with (first
            | (go_at_call 38; refine (CLo.out _).mono ?_; rintro e w' ⟨rfl, rfl⟩)
            | (at_builtin; refine wpList_app8 rfl _ (.tmp 37) (.tmp 41) rfl (w.heap.size + 1) u4 (XA ++ [c] ++ XB) rfl (HS4.out.own.alloc _) ⟨w4.heap.size, 0, none⟩ 1 1 [v % 256] rfl rfl (cells_lit _ _ _ _ _ rfl _ rfl) (by have := HLs.out.1; have := HLs.out.2.1; simp; omega) (by have := HS4.out.lt; simp; omega) ?_; intro v5 w5 ho5 hb5 hg5))
          go_meet
          case rel => rw [HQ.out]; exact Lib.hid (HS4.out.app ho5 hb5)
        · have HQ : Hid (X = XA ++ [c] ++ XB ++ [v / 256, v % 256]) := Lib.hid (by rw [HX.out, HXC.out]; rfl)
          have HSd := Lib.hid (show w4.drew.cell? ⟨w.heap.size, 6, none⟩ = some (.int .u16 v) from c6)
          go_upto_region 14 with (fail)
          go_region_held3 (fun w' => w'.cell? ⟨w.heap.size, 6, none⟩ = some (.int .u16 v))
            (first
              | (with_reducible exact HSd.out)
              | exact (Blk.s8 (show Blk _ w.heap.size 27 (iC p c o m r (b : Int) v l) from Blk.alloc HS4.out.box _)).2.2.2.2.2.2.1
              | exact (Blk.s8 (show Blk _ w.heap.size 27 (iC p c o m r (b : Int) v l) from (HS4.out.app ho5 (Below.undrew hb5)).box)).2.2.2.2.2.2.1)
            (first
              | (go_at_call 49; refine (CH.out _).mono ?_; rintro e w' ⟨rfl, rfl⟩)
              | (go_at_call 38; refine (CLo.out _).mono ?_; rintro e w' ⟨rfl, rfl⟩)
              | (refine step_app8 (by rfl) _ _ _ (by rfl) (w.heap.size + 1) u4 (XA ++ [c] ++ XB) (by rfl) ((HS4.out.own.alloc _).drew)
                  ⟨w4.heap.size, 0, none⟩ 2 2 [v / 256, v % 256] (by rfl) (by rfl) (cells_new _ _ _ _ _ _ rfl (heap_alloc_new w4 _)) (by have := HLs.out.1; have := HLs.out.2.1; simp; omega) (by have := HS4.out.lt; simp; omega) ?_; intro v5 w5 ho5 hb5 hg5))
          all_goals
            go_wp2_with fail
            go_meet
            case rel => rw [HQ.out]; exact Lib.hid (HS4.out.app ho5 (Below.undrew hb5))
      case rest =>
        have HS5 := hcut
        clear hcut HS4
        obtain ⟨A5, c5', rfl, HI5⟩ := HS5.out.own.ints HWf.out
        cases ok
        · obtain rfl := HAz.out rfl
          have HQ : Hid (OKP = false) := Lib.hid HOk.out
          go_wp2_with fail
          refine (CO.out A5 c5' _ HI5 (HPx.out _ HS5.out.bel) (HKx.out _ HS5.out.bel)).mono ?_
          rintro e w6 ⟨rfl, hb6⟩
          have HB6 := Lib.hid (Below.trans0 HS5.out.bel hb6)
          clear hb6
          go_wp2
          go_ret2
          refine ⟨none, 0, ?_, ?_, Below.alloc0 HB6.out _⟩
          · rw [HQ.out]; rfl
          · rw [HQ.out]; exact Ints.nil_ _ _ _ _
        · obtain rfl := HAg.out rfl
          have HQ : Hid (OKP = insEq p' c' o' m' r' b' v' l' p c o m r b v l) := Lib.hid (by rw [HOk.out]; rfl)
          obtain ⟨Z, hZ⟩ : ∃ Z, insEq p' c' o' m' r' b' v' l' p c o m r b v l = Z := ⟨_, rfl⟩
          have he := fun w => neq_ins w p' c' o' m' r' b' v' l' p c o m r b v l
          rw [hZ] at he HQ
          clear hZ
          cases Z
          · simp only [Bool.not_false] at he
            go_wp2_with fail
            refine (CO.out A5 c5' _ HI5 (HPx.out _ HS5.out.bel) (HKx.out _ HS5.out.bel)).mono ?_
            rintro e w6 ⟨rfl, hb6⟩
            have HB6 := Lib.hid (Below.alloc0 (Below.trans0 HS5.out.bel hb6) (Obj.cells (iC p' c' o' m' r' b' v' l') 27))
            have HX6 := Lib.hid (Blk.alloc (Blk.below HS5.out.box hb6 HS5.out.box.lt) (Obj.cells (iC p' c' o' m' r' b' v' l') 27))
            have HG6 := Lib.hid (Blk.new w6 27 (iC p' c' o' m' r' b' v' l') (0, 0))
            clear hb6
            go_upto_region 16 with (fail)
            obtain ⟨g, hg⟩ : ∃ g, w6.heap.size = g := ⟨_, rfl⟩
            rw [hg] at HG6 ⊢
            generalize w6.alloc (Obj.cells (iC p' c' o' m' r' b' v' l') 27) = W6 at HB6 HX6 HG6 ⊢
            obtain ⟨c0, c1, c2, c3, c4, c5, c6, c7⟩ := HX6.out.s8
            obtain ⟨d0, d1, d2, d3, d4, d5, d6, d7⟩ := HG6.out.s8
            go_wp2
            go_ret2
            refine ⟨none, 0, ?_, ?_, HB6.out⟩
            · rw [HQ.out]; rfl
            · rw [HQ.out]; exact Ints.nil_ _ _ _ _
          · simp only [Bool.not_true] at he
            go_wp2_with fail
            refine (CO.out A5 c5' _ HI5 (HPx.out _ HS5.out.bel) (HKx.out _ HS5.out.bel)).mono ?_
            rintro e w6 ⟨rfl, hb6⟩
            have hbl := Below.alloc0 hb6 (Obj.cells (iC p' c' o' m' r' b' v' l') 27)
            have HIx := Lib.hid (HI5.below hbl.size hbl)
            have HB6 := Lib.hid (Below.trans0 HS5.out.bel hbl)
            have HX6 := Lib.hid (Blk.alloc (Blk.below HS5.out.box hb6 HS5.out.box.lt) (Obj.cells (iC p' c' o' m' r' b' v' l') 27))
            have HG6 := Lib.hid (Blk.new w6 27 (iC p' c' o' m' r' b' v' l') (0, 0))
            clear hb6 hbl
            go_upto_region 16 with (fail)
            obtain ⟨g, hg⟩ : ∃ g, w6.heap.size = g := ⟨_, rfl⟩
            rw [hg] at HG6 ⊢
            generalize w6.alloc (Obj.cells (iC p' c' o' m' r' b' v' l') 27) = W6 at HB6 HX6 HG6 HIx ⊢
            obtain ⟨c0, c1, c2, c3, c4, c5, c6, c7⟩ := HX6.out.s8
            obtain ⟨d0, d1, d2, d3, d4, d5, d6, d7⟩ := HG6.out.s8
            go_wp2
            go_ret2
            refine ⟨A5, c5', ?_, ?_, HB6.out⟩
            · rw [HQ.out]; rfl
            · rw [HQ.out]; exact HIx.out
end Go.Proofs.YtopkjniegncokaaDoor
namespace Go.Proofs.YtopkjniegncokaaDoor
open Go.ChangeShapes Go.WideShapes Go.ChangeAt Go.RowKit
set_option linter.unusedVariables false
theorem take_eq_next (xs ys : List Int) (k : Nat) (hx : k < xs.length) (hy : k < ys.length) (h : xs.take k = ys.take k) (he : iat xs k = iat ys k) : xs.take (k + 1) = ys.take (k + 1) := by
  rw [List.take_succ_eq_append_getElem hx, List.take_succ_eq_append_getElem hy, h, ← iat_eq _ _ hx, ← iat_eq _ _ hy, he]
theorem ne_of_at (xs ys : List Int) (k : Nat) (he : iat xs k ≠ iat ys k) : (xs == ys) = false := by
  rw [beq_eq_false_iff_ne]; rintro rfl; exact he rfl
theorem bytes_str (A : Option Addr) (n c : Nat) (zs : List Int) (B : Nat) (w : World) (h : Ints .u8 w B A n zs) :
    (convert 22 9 (.slice A n c)).run Tryd.prog w = .ok (.string (strOfNums zs)) w := by
  obtain ⟨hl, hwf, hc⟩ := h
  rcases Nat.eq_zero_or_pos n with h0 | h0
  · subst h0
    obtain rfl : zs = [] := List.eq_nil_of_length_eq_zero hl
    cases A with
    | none => exact run_convert_bytes_nil w 22 5 Tryd.underlying22 Tryd.underlying5 0 c 9 Tryd.underlying9
    | some a => exact run_convert_bytes_back w 22 9 5 a c [] Tryd.underlying22 Tryd.underlying5 Tryd.underlying9 (fun j hj => absurd hj (by simp))
  · obtain ⟨b, off, rfl, hb, hcell⟩ := hc h0
    exact bytes_at' w b off n c zs hl hcell
end Go.Proofs.YtopkjniegncokaaDoor
namespace Go.Proofs.YtopkjniegncokaaDoor
open Go.ChangeShapes Go.WideShapes Go.ChangeAt Go.RowKit
set_option linter.unusedVariables false

theorem Ints.take_ {k : IntKind} {w : World} {B n : Nat} {A : Option Addr} {xs : List Int} (h : Ints k w B A n xs) (m : Nat) (hm : m ≤ n) : Ints k w B A m (xs.take m) := by
  obtain ⟨h1, h2, h3⟩ := h
  refine ⟨by rw [List.length_take]; omega, fun z hz => h2 z (List.mem_of_mem_take hz), fun h0 => ?_⟩
  obtain ⟨b, off, e, hb, hc⟩ := h3 (by omega)
  refine ⟨b, off, e, hb, fun i hi => ?_⟩
  rw [hc i (by omega), iat_eq _ _ (by rw [h1]; omega), iat_eq _ _ (by rw [List.length_take, h1]; omega), List.getElem_take]
theorem ints_blk18 {w : World} {g : Nat} {t : TypeId} {xs : List Int} (h : Blk w g t (xs.map (Value.int .u8)).toArray) (hwf : ∀ z ∈ xs, (Lit.int .u8 z).wf = true) (n : Nat) (hn : xs.length = n) :
    Ints .u8 w w.heap.size (some ⟨g, 0, none⟩) n xs :=
  ⟨hn, hwf, fun _ => ⟨g, 0, rfl, h.lt, fun i hi => by
    rw [Nat.zero_add, h.cell, List.getElem?_toArray, List.getElem?_map, List.getElem?_eq_getElem (by omega), iat_eq _ _ (by omega)]; rfl⟩⟩
def hasPre (xs ys : List Int) : Bool := decide (ys.length ≤ xs.length) && (xs.take ys.length == ys)
set_option maxRecDepth 100000 in
set_option maxHeartbeats 1000000 in
theorem nextI_any (p c o m r b v l a : Int) (l0 : 0 ≤ l) (l1 : l ≤ 100) (a0 : 0 ≤ a) (a1 : a < 65536) (w : World) :
    Calls Tryd.prog 58 #[.agg (iC p c o m r b v l), .int .u16 a] w fun e w' => e = .returned (.int .u16 ((a + l) % 65536)) ∧ Below w.heap.size w w' := by
  have HB := Lib.hid (Below.alloc0 (Below.refl w.heap.size w) (Obj.cells (iC p c o m r b v l) 27))
  have t1 : IntKind.u16.wrap l = l := by rw [IntKind.wrap_u16]; omega
  go_enter Tryd.func58, Tryd.ntmps58
  go_wp2
  go_ret
  exact ⟨ret_int (by first | rfl | (rw [IntKind.wrap_u16])), HB.out⟩
def tgtI (m l v a : Int) : Int := if m = 6 ∨ m = 7 then (a + l + v) % 65536 else 0
def isRel (m : Int) : Bool := m == 6 || m == 7
theorem ret_tgt {a b : Int} {p q : Bool} (h : a = b) (h2 : p = q) : Ending.returned (.tuple #[.int .u16 a, .bool p]) = .returned (.tuple #[.int .u16 b, .bool q]) := by rw [h, h2]
set_option maxRecDepth 100000 in
set_option maxHeartbeats 2000000 in
theorem target_any (p c o m r b v l a : Int) (l0 : 0 ≤ l) (l1 : l ≤ 100) (v0 : 0 ≤ v) (v1 : v < 65536) (a0 : 0 ≤ a) (a1 : a < 65536) (w : World) :
    Calls Tryd.prog 39 #[.agg (iC p c o m r b v l), .int .u16 a] w fun e w' => e = .returned (.tuple #[.int .u16 (tgtI m l v a), .bool (isRel m)]) ∧ Below w.heap.size w w' := by
  have HB := Lib.hid (Below.alloc0 (Below.refl w.heap.size w) (Obj.cells (iC p c o m r b v l) 27))
  have HI := Lib.hid (Blk.new w 27 (iC p c o m r b v l) (0, 0))
  have CN := Lib.hid (fun w => nextI_any p c o m r b v l a l0 l1 a0 a1 w)
  have HX : Hid (((a + l) % 65536 + v) % 65536 = (a + l + v) % 65536) := Lib.hid (by omega)
  obtain ⟨x, hx⟩ : ∃ x, (a + l) % 65536 = x := ⟨_, rfl⟩
  rw [hx] at CN HX
  have x0 : 0 ≤ x := by omega
  have x1 : x < 65536 := by omega
  clear hx
  have t1 : IntKind.u16.wrap (x + v) = (x + v) % 65536 := by rw [IntKind.wrap_u16]
  rcases (show m = 6 ∨ m = 7 ∨ (¬ m = 6 ∧ ¬ m = 7) by omega) with rfl | rfl | ⟨h6, h7⟩
  · have HId := Lib.hid (Blk.drew HI.out)
    have HBd := Lib.hid (Below.drew0 HB.out)
    go_enter Tryd.func39, Tryd.ntmps39
    go_wp2
    go_region_held3 (fun w' => w'.cell? ⟨w.heap.size, 0, none⟩ = some (.int .i64 p) ∧ w'.cell? ⟨w.heap.size, 1, none⟩ = some (.int .u8 c) ∧ w'.cell? ⟨w.heap.size, 2, none⟩ = some (.int .i64 o) ∧ w'.cell? ⟨w.heap.size, 3, none⟩ = some (.int .i64 6) ∧ w'.cell? ⟨w.heap.size, 4, none⟩ = some (.int .i64 r) ∧ w'.cell? ⟨w.heap.size, 5, none⟩ = some (.int .u8 b) ∧ w'.cell? ⟨w.heap.size, 6, none⟩ = some (.int .u16 v) ∧ w'.cell? ⟨w.heap.size, 7, none⟩ = some (.int .i64 l))
      (first
        | (with_reducible exact HId.out.s8)
        | (with_reducible exact HI2.out.s8))
      ((go_at_call 58; (with_reducible refine (CN.out _).mono ?_); rintro e w2 ⟨rfl, hb2⟩; have HI2 := Lib.hid (Blk.below HId.out hb2 HId.out.lt); have HB2 := Lib.hid (Below.trans0 HBd.out hb2); clear hb2))
    go_wp2
    all_goals
      go_ret2
      refine ⟨ret_tgt ?_ rfl, HB2.out⟩
      unfold tgtI
      first
        | (rw [if_pos (by simp)]; exact HX.out)
        | (rw [if_pos (by simp), ← HX.out, ← t1])
  · have HId := Lib.hid (Blk.drew HI.out)
    have HBd := Lib.hid (Below.drew0 HB.out)
    go_enter Tryd.func39, Tryd.ntmps39
    go_wp2
    go_region_held3 (fun w' => w'.cell? ⟨w.heap.size, 0, none⟩ = some (.int .i64 p) ∧ w'.cell? ⟨w.heap.size, 1, none⟩ = some (.int .u8 c) ∧ w'.cell? ⟨w.heap.size, 2, none⟩ = some (.int .i64 o) ∧ w'.cell? ⟨w.heap.size, 3, none⟩ = some (.int .i64 7) ∧ w'.cell? ⟨w.heap.size, 4, none⟩ = some (.int .i64 r) ∧ w'.cell? ⟨w.heap.size, 5, none⟩ = some (.int .u8 b) ∧ w'.cell? ⟨w.heap.size, 6, none⟩ = some (.int .u16 v) ∧ w'.cell? ⟨w.heap.size, 7, none⟩ = some (.int .i64 l))
      (first
        | (with_reducible exact HId.out.s8)
        | (with_reducible exact HI2.out.s8))
      ((go_at_call 58; (with_reducible refine (CN.out _).mono ?_); rintro e w2 ⟨rfl, hb2⟩; have HI2 := Lib.hid (Blk.below HId.out hb2 HId.out.lt); have HB2 := Lib.hid (Below.trans0 HBd.out hb2); clear hb2))
    go_wp2
    all_goals
      go_ret2
      refine ⟨ret_tgt ?_ rfl, HB2.out⟩
      unfold tgtI
      first
        | (rw [if_pos (by simp)]; exact HX.out)
        | (rw [if_pos (by simp), ← HX.out, ← t1])
  · have e6 := ne_beq h6
    have e7 := ne_beq h7
    have hr : tgtI m l v a = 0 := by unfold tgtI; rw [if_neg (by omega)]
    have hb : isRel m = false := by unfold isRel; rw [e6, e7]; rfl
    rw [hr, hb]
    clear h6 h7 hr hb
    go_enter Tryd.func39, Tryd.ntmps39
    go_wp2
    go_ret2
    exact ⟨rfl, HB.out⟩
end Go.Proofs.YtopkjniegncokaaDoor
