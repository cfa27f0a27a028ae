/- Contracts of package index's Of, and of the document's own (spinetref20). -/
import Derived.Test.YtoogaenknjdpcacDoorIdxN
import Derived.Test.YtoogaenknjdpcacDoorPost
import Derived.Test.YtoogaenknjdpcacDoorPostR
import Derived.Test.YtoogaenknjdpcacDoorPostU
import Derived.Test.YtoogaenknjdpcacDoorIns
import Derived.Deep.DeepCutAuto
import Derived.Deep.CutRange
import Derived.Deep.RegionHeld3
import Derived.Deep.CutBlock
import Derived.Laws.Tables
import Derived.Laws.Rows
import Derived.Great.Walk
import Derived.Great.BuildSlice
import Derived.Outline
import Derived.StillTailTactics
namespace Go.Proofs.YtoogaenknjdpcacDoor
open Go.ChangeShapes Go.WideShapes Go.ChangeAt Go.RowKit
set_option linter.unusedVariables false

/-- Nine stores, a cell each: a block that holds other registers whole. -/
abbrev set9i (w : World) (g : Nat) (s : Rg) : World :=
  ((((((((w.setCell ⟨g, 0, none⟩ (.int .u8 s.A)).setCell ⟨g, 1, none⟩ (.int .u8 s.B)).setCell ⟨g, 2, none⟩ (.int .u8 s.D)).setCell ⟨g, 3, none⟩ (.int .u8 s.C)).setCell ⟨g, 4, none⟩ (.int .u16 s.X)).setCell ⟨g, 5, none⟩ (.int .u16 s.Y)).setCell ⟨g, 6, none⟩ (.int .u16 s.U)).setCell ⟨g, 7, none⟩ (.int .u16 s.S)).setCell ⟨g, 8, none⟩ (.int .u16 s.P)
theorem set9i_at {w : World} {g : Nat} {t : TypeId} {r : Rg} (h : RgAt w g t r) (s : Rg) : RgAt (set9i w g s) g t s := by
  have h9 := Blk.set_ (Blk.set_ (Blk.set_ (Blk.set_ (Blk.set_ (Blk.set_ (Blk.set_ (Blk.set_ (Blk.set_ h 0 (.int .u8 s.A)) 1 (.int .u8 s.B)) 2 (.int .u8 s.D)) 3 (.int .u8 s.C)) 4 (.int .u16 s.X)) 5 (.int .u16 s.Y)) 6 (.int .u16 s.U)) 7 (.int .u16 s.S)) 8 (.int .u16 s.P)
  unfold Rg.cells at h9
  simp only [List.setIfInBounds_toArray, List.set_cons_zero, List.set_cons_succ] at h9
  exact h9
theorem set9i_far {w : World} {g g' : Nat} {t : TypeId} {r : Rg} (h : RgAt w g t r) (hg : g ≠ g') (s : Rg) : RgAt (set9i w g' s) g t r :=
  Blk.far (Blk.far (Blk.far (Blk.far (Blk.far (Blk.far (Blk.far (Blk.far (Blk.far h hg _) hg _) hg _) hg _) hg _) hg _) hg _) hg _) hg _
theorem set9i_below {w w1 : World} {B g : Nat} (h : Below B w w1) (hg : B ≤ g) (s : Rg) : Below B w (set9i w1 g s) :=
  Below.setCell (Below.setCell (Below.setCell (Below.setCell (Below.setCell (Below.setCell (Below.setCell (Below.setCell (Below.setCell h hg _) hg _) hg _) hg _) hg _) hg _) hg _) hg _) hg _
abbrev zRg : Rg := ⟨0, 0, 0, 0, 0, 0, 0, 0, 0⟩
theorem RgAt.frz {w : World} {g : Nat} {t : TypeId} {r : Rg} (h : RgAt w g t r) : w.frozen? ⟨g, 0, none⟩ = false ∧ w.frozen? ⟨g, 1, none⟩ = false ∧ w.frozen? ⟨g, 2, none⟩ = false ∧ w.frozen? ⟨g, 3, none⟩ = false ∧ w.frozen? ⟨g, 4, none⟩ = false ∧ w.frozen? ⟨g, 5, none⟩ = false ∧ w.frozen? ⟨g, 6, none⟩ = false ∧ w.frozen? ⟨g, 7, none⟩ = false ∧ w.frozen? ⟨g, 8, none⟩ = false :=
  ⟨h.frozen _, h.frozen _, h.frozen _, h.frozen _, h.frozen _, h.frozen _, h.frozen _, h.frozen _, h.frozen _⟩
theorem Blk.p4 {w : World} {g : Nat} {t : TypeId} {v0 v1 v2 v3 : Value} (h : Blk w g t #[v0, v1, v2, v3]) : w.cell? ⟨g, 0, none⟩ = some v0 ∧ w.cell? ⟨g, 1, none⟩ = some v1 ∧ w.cell? ⟨g, 2, none⟩ = some v2 ∧ w.cell? ⟨g, 3, none⟩ = some v3 := by
  refine ⟨?_, ?_, ?_, ?_⟩ <;> (rw [h.cell]; rfl)
theorem idx_four (w : World) (o1 o2 : Obj) (cs : Array Value) (t1 t2 t3 : TypeId) (r s : Rg) : Blk ((((w.alloc (.cells cs t1)).alloc o2).alloc (.cells r.cells t2)).alloc (.cells s.cells t3)) w.heap.size t1 cs ∧
    RgAt ((((w.alloc (.cells cs t1)).alloc o2).alloc (.cells r.cells t2)).alloc (.cells s.cells t3)) (w.heap.size + 2) t2 r ∧ RgAt ((((w.alloc (.cells cs t1)).alloc o2).alloc (.cells r.cells t2)).alloc (.cells s.cells t3)) (w.heap.size + 3) t3 s := by
  refine ⟨(((Blk.new w t1 cs (0, 0)).alloc o2).alloc _).alloc _, ?_, ?_⟩
  · have e : ((w.alloc (.cells cs t1)).alloc o2).heap.size = w.heap.size + 2 := by simp
    have := Blk.new ((w.alloc (.cells cs t1)).alloc o2) t2 r.cells (0, 0)
    rw [e] at this
    exact this.alloc _
  · have e : (((w.alloc (.cells cs t1)).alloc o2).alloc (.cells r.cells t2)).heap.size = w.heap.size + 3 := by simp
    have := Blk.new (((w.alloc (.cells cs t1)).alloc o2).alloc (.cells r.cells t2)) t3 s.cells (0, 0)
    rw [e] at this
    exact this
theorem cells_oneI (s : Rg) : (s.cells.all fun x => x.oneCell') = true := by simp [Value.oneCell']
theorem below_rowI' (w : World) (g B : Nat) (cs : Array Value) (hB : B ≤ g) : Below B w (w.setRow g cs) := ⟨rfl, rfl, rfl, by simp, fun k hk => setRow_other w g k cs (by omega)⟩
theorem resIdx (tmps : Array Value) (W : World) (g : Nat) (cs old : Array Value) (h : Blk W g 34 old) (hs : old.size = 9) (hc : cs.size = 9) (h2 : tmps.getD 9 undef = .pointer (some ⟨g, 0, none⟩)) (a : Int) (h3 : tmps.getD 8 undef = .int .u16 a) :
    (results Tryd.f19 tmps).run Tryd.prog (W.setRow g cs) = .ok (.tuple #[.int .u16 a, .agg cs]) (W.setRow g cs) := by
  have hi : (Tryd.prog.info? 34).map (·.size) = some cs.size := by rw [hc]; kernel_rfl
  have hld := run_loadVar_row (P := Tryd.prog) (W.setRow g cs) g 34 34 cs (0, 0) _ (setRow_heap W g old cs _ (0, 0) h) Tryd.underlying34 rfl hi
  have h2' : tmps[9]?.getD undef = .pointer (some ⟨g, 0, none⟩) := by simpa using h2
  have h3' : tmps[8]?.getD undef = .int .u16 a := by simpa using h3
  simp [results, Tryd.results19, h2', h3', asAddr, hld]
set_option maxRecDepth 100000 in
set_option maxHeartbeats 8000000 in
theorem idxOf_any (k : Nat) (hk : k < 14) (g o : Int) (d : Bool) (r : Rg) (hr : r.Ok) (v n : Int) (o0 : 0 ≤ o) (v0 : 0 ≤ v) (n0 : 0 ≤ n) (w : World) :
    Calls Tryd.prog 19 #[.agg #[.int .i64 (k : Int), .int .i64 g, .int .u16 o, .bool d], .agg r.cells, .int .u16 v, .int .u16 n] w fun e w' => e = .returned (.tuple #[.int .u16 (idA k g o v n r), .agg (idR k g r).cells]) ∧ Below w.heap.size w w' := by
  have HR := Lib.hid hr
  obtain ⟨g0, g1⟩ := getR_range r hr g
  have H4 := idx_four w (Obj.cells r.cells 34) (Obj.cells r.cells 34) #[.int .i64 (k : Int), .int .i64 g, .int .u16 o, .bool d] 40 34 90 zRg r
  have HB := Lib.hid (Below.alloc0 (Below.alloc0 (Below.alloc0 (Below.alloc0 (Below.refl w.heap.size w) (Obj.cells #[.int .i64 (k : Int), .int .i64 g, .int .u16 o, .bool d] 40)) (Obj.cells r.cells 34)) (Obj.cells zRg.cells 34)) (Obj.cells r.cells 90))
  have HP := Lib.hid H4.1
  have HZ := Lib.hid H4.2.1
  have HF := Lib.hid H4.2.2
  have CG := Lib.hid (fun w g' t (h : RgAt w g' t r) => get_any r hr g w g' t h)
  clear hr H4
  go_enter Tryd.func19, Tryd.ntmps19
  go_wp2_with fail
  refine (CG.out _ _ _ HF.out).mono ?_
  rintro e w1 ⟨rfl, m, rfl⟩
  replace HP := Lib.hid (HP.out.drewN m)
  replace HZ := Lib.hid (HZ.out.drewN m)
  replace HF := Lib.hid (HF.out.drewN m)
  replace HB := Lib.hid (Below.drewN0 HB.out m)
  go_upto_region 3 with (fail)
  generalize ((((w.alloc _).alloc _).alloc _).alloc _).drewN m = W at HP HZ HF HB ⊢
  have CG2 := Lib.hid (CG.out W _ _ HF.out)
  clear CG
  have CS := Lib.hid (fun (x : Int) (x0 : 0 ≤ x) (x1 : x < 65536) => set_any r HR.out g x x0 x1 W _ _ HF.out)
  obtain ⟨r0, r1, r2, r3, r4, r5, r6, r7, r8⟩ := HF.out.cells
  obtain ⟨p0, p1, p2, p3⟩ := HP.out.p4
  have HA := Lib.hid HR.out.a0
  have HA' := Lib.hid HR.out.a1
  have HB0 := Lib.hid HR.out.b0
  have HB1 := Lib.hid HR.out.b1
  have HD := Lib.hid (get_any r HR.out 0 W _ _ HF.out)
  have q1 : IntKind.u16.wrap (getR r g + o) = (getR r g + o) % 65536 := IntKind.wrap_u16 _
  have q2 : IntKind.u16.wrap (getR r g + v) = (getR r g + v) % 65536 := IntKind.wrap_u16 _
  have q3 : IntKind.u16.wrap (getR r g + signOf r.A) = (getR r g + signOf r.A) % 65536 := IntKind.wrap_u16 _
  have q4 : IntKind.u16.wrap (getR r g + signOf r.B) = (getR r g + signOf r.B) % 65536 := IntKind.wrap_u16 _
  have q5 : IntKind.u16.wrap (getR r g + getR r 0) = (getR r g + getR r 0) % 65536 := IntKind.wrap_u16 _
  have q6 : IntKind.u16.wrap (getR r g + 1) = (getR r g + 1) % 65536 := IntKind.wrap_u16 _
  have q7 : IntKind.u16.wrap (getR r g + 2) = (getR r g + 2) % 65536 := IntKind.wrap_u16 _
  have q8 : IntKind.u16.wrap (getR r g - 1) = (getR r g - 1) % 65536 := IntKind.wrap_u16 _
  have q9 : IntKind.u16.wrap (getR r g - 2) = (getR r g - 2) % 65536 := IntKind.wrap_u16 _
  have q10 : IntKind.u16.wrap (n + v) = (n + v) % 65536 := IntKind.wrap_u16 _
  go_upto_block 0 with (fail)
  go_cut [11] (fun u11 wx => u11 = .int .u16 (idA k g o v n r) ∧ Hid (RgAt wx (w.heap.size + 3) 90 (idR k g r)) ∧ Hid (RgAt wx (w.heap.size + 2) 34 zRg) ∧ Hid (Below w.heap.size w wx))
  case first =>
    rcases (show k = 0 ∨ k = 1 ∨ k = 2 ∨ k = 3 ∨ k = 4 ∨ k = 5 ∨ k = 6 ∨ k = 7 ∨ k = 8 ∨ k = 9 ∨ k = 10 ∨ k = 11 ∨ k = 12 ∨ k = 13 by omega) with rfl | rfl | rfl | rfl | rfl | rfl | rfl | rfl | rfl | rfl | rfl | rfl | rfl | rfl
    iterate 7
      · go_wp2_with (first
          | (go_at_call 39; refine (sign_any _ _ (by first | exact HA.out | exact HB0.out) (by first | exact HA'.out | exact HB1.out)).mono ?_; rintro e w' ⟨rfl, rfl⟩)
          | (go_at_call 38; refine HD.out.mono ?_; rintro e w' ⟨rfl, q, rfl⟩))
        go_meet
        case rel => exact ⟨rfl, by first | exact HF | exact Lib.hid (HF.out.drewN _), by first | exact HZ | exact Lib.hid (HZ.out.drewN _), by first | exact HB | exact Lib.hid (Below.drewN0 HB.out _)⟩
    iterate 4
      · go_wp2_with fail
        refine (CS.out _ (by omega) (by omega)).mono ?_
        rintro e w1 ⟨rfl, hp⟩
        have HF3 := Lib.hid hp.1
        have HZ3 := Lib.hid (RgAt.grown HZ.out hp.2.1 (by simp))
        have HB3 := Lib.hid (HB.out.trans (Put.below hp (B := w.heap.size) (by omega) HB.out.size))
        clear hp
        go_wp2
        go_meet
        case rel => exact ⟨rfl, HF3, HZ3, HB3⟩
    all_goals
      go_wp2
      go_meet
      case rel => exact ⟨rfl, HF, HZ, HB⟩
  case rest =>
    obtain ⟨rfl, HF2, HZ2, HB2⟩ := hcut
    clear CG2 CS HF HZ HB r0 r1 r2 r3 r4 r5 r6 r7 r8 p0 p1 p2 p3 HP HA HA' HB0 HB1 HD q1 q2 q3 q4 q5 q6 q7 q8 q9 q10
    go_upto_region 30 with (fail)
    obtain ⟨a, ha⟩ : ∃ x, idA k g o v n r = x := ⟨_, rfl⟩
    obtain ⟨s, hs⟩ : ∃ x, idR k g r = x := ⟨_, rfl⟩
    rw [ha]
    rw [hs] at HF2
    have HA := Lib.hid ha
    have HS := Lib.hid hs
    clear ha hs
    obtain ⟨gz, hgz⟩ : ∃ x, w.heap.size + 2 = x := ⟨_, rfl⟩
    obtain ⟨gf, hgf⟩ : ∃ x, w.heap.size + 3 = x := ⟨_, rfl⟩
    rw [show w.heap.size + 1 + 1 + 1 = w.heap.size + 3 from rfl, show w.heap.size + 1 + 1 = w.heap.size + 2 from rfl, hgz, hgf]
    rw [hgz] at HZ2
    rw [hgf] at HF2
    have hne : gf ≠ gz := by omega
    have hle : w.heap.size ≤ gz := by omega
    have HFd := Lib.hid (show RgAt wc.drew gf 90 s from HF2.out)
    have HZd := Lib.hid (show RgAt wc.drew gz 34 zRg from HZ2.out)
    have HBd := Lib.hid (Below.drew0 HB2.out)
    obtain ⟨y0, y1, y2, y3, y4, y5, y6, y7, y8⟩ := HF2.out.cells
    clear HF2 HZ2 HB2 hgz hgf
    obtain ⟨l0, l1, l2, l3, l4, l5, l6, l7, l8⟩ := HFd.out.cells
    go_still_tail 4, (by kernel_rfl)
    change wpList _ _ _ _ _ wc.drew
    generalize wc.drew = w2 at HFd HZd HBd ⊢
    refine wpList_store_rowTo rfl 34 _ _ rfl rfl gz s.cells rfl rfl 34 zRg.cells HZd.out (by kernel_rfl) rfl (cells_oneI s) ?_
    refine wpList_nil ?_
    rename_i hk'
    refine hk' _ _ ?_
    clear hk'
    refine wp_ret ?_
    exact bodyPost_ret (v := .tuple #[.int .u16 a, .agg s.cells]) (resIdx _ w2 gz s.cells zRg.cells HZd.out rfl rfl rfl a rfl) rfl ⟨by rw [HA.out, HS.out], HBd.out.trans (below_rowI' w2 gz _ s.cells hle)⟩
end Go.Proofs.YtoogaenknjdpcacDoor
