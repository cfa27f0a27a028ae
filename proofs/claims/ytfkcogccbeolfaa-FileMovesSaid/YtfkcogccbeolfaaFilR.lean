/- Contracts of the document's own Tfr and Exg (spinetref16): whole registers from register to register. -/
import Derived.Test.YtfkcogccbeolfaaFilX
import Derived.Laws.Tables
import Derived.Laws.Rows
import Derived.Outline
import Derived.Deep.RegionHeld3
import Derived.Deep.CutBlock
import Derived.Deep.DeepCutAuto
import Derived.Deep.CutRange
namespace Go.Proofs.Ytfkcogccbeolfaa
open Go.ChangeShapes Go.WideShapes Go.ChangeAt Go.RowKit
set_option linter.unusedVariables false

/-- Nine stores, a cell each: a block that holds other registers whole. -/
abbrev set9 (w : World) (g : Nat) (s : Rg) : World :=
  ((((((((w.setCell ⟨g, 0, none⟩ (.int .u8 s.A)).setCell ⟨g, 1, none⟩ (.int .u8 s.B)).setCell ⟨g, 2, none⟩ (.int .u8 s.D)).setCell ⟨g, 3, none⟩ (.int .u8 s.C)).setCell ⟨g, 4, none⟩ (.int .u16 s.X)).setCell ⟨g, 5, none⟩ (.int .u16 s.Y)).setCell ⟨g, 6, none⟩ (.int .u16 s.U)).setCell ⟨g, 7, none⟩ (.int .u16 s.S)).setCell ⟨g, 8, none⟩ (.int .u16 s.P)
theorem set9_at {w : World} {g : Nat} {t : TypeId} {r : Rg} (h : RgAt w g t r) (s : Rg) : RgAt (set9 w g s) g t s := by
  have h9 := Blk.set_ (Blk.set_ (Blk.set_ (Blk.set_ (Blk.set_ (Blk.set_ (Blk.set_ (Blk.set_ (Blk.set_ h 0 (.int .u8 s.A)) 1 (.int .u8 s.B)) 2 (.int .u8 s.D)) 3 (.int .u8 s.C)) 4 (.int .u16 s.X)) 5 (.int .u16 s.Y)) 6 (.int .u16 s.U)) 7 (.int .u16 s.S)) 8 (.int .u16 s.P)
  unfold Rg.cells at h9
  simp only [List.setIfInBounds_toArray, List.set_cons_zero, List.set_cons_succ] at h9
  exact h9
theorem set9_far {w : World} {g g' : Nat} {t : TypeId} {r : Rg} (h : RgAt w g t r) (hg : g ≠ g') (s : Rg) : RgAt (set9 w g' s) g t r :=
  Blk.far (Blk.far (Blk.far (Blk.far (Blk.far (Blk.far (Blk.far (Blk.far (Blk.far h hg _) hg _) hg _) hg _) hg _) hg _) hg _) hg _) hg _
theorem set9_below {w w1 : World} {B g : Nat} (h : Below B w w1) (hg : B ≤ g) (s : Rg) : Below B w (set9 w1 g s) :=
  Below.setCell (Below.setCell (Below.setCell (Below.setCell (Below.setCell (Below.setCell (Below.setCell (Below.setCell (Below.setCell h hg _) hg _) hg _) hg _) hg _) hg _) hg _) hg _) hg _
set_option maxRecDepth 100000 in
set_option maxHeartbeats 4000000 in
theorem refTfr_any (r : Rg) (hr : r.Ok) (p : Int) (h0 : 0 ≤ p) (h1 : p < 256) (w : World) :
    Calls Try.prog 13 #[.agg r.cells, .int .u8 p] w fun e w' => e = .returned (.agg (tfrR r p).cells) ∧ Below w.heap.size w w' := by
  obtain ⟨g0, g1⟩ := getR_range r hr (p / 16)
  obtain ⟨s, hs⟩ : ∃ s, setR r (p % 16) (getR r (p / 16)) = s := ⟨_, rfl⟩
  have HS := Lib.hid hs
  rw [show tfrR r p = s from hs]
  clear hs
  have CG := Lib.hid (fun w => refGet_below r hr (p / 16) w)
  have CS := Lib.hid (fun w => refSet_eq r s hr (p % 16) _ g0 g1 HS w)
  generalize getR r (p / 16) = x at CG CS g0 g1
  have t1 : p.tmod 16 = p % 16 := Int.tmod_eq_emod_of_nonneg h0
  have t2 : p.tdiv 16 = p / 16 := Int.tdiv_eq_ediv_of_nonneg h0
  have t3 : IntKind.u8.wrap (p / 16) = p / 16 := by rw [IntKind.wrap_u8]; omega
  have t4 : IntKind.u8.wrap (p % 16) = p % 16 := by rw [IntKind.wrap_u8]; omega
  have t5 : IntKind.i64.wrap (p / 16) = p / 16 := IntWalk.i64_in _ (by omega)
  have t6 : IntKind.i64.wrap (p % 16) = p % 16 := IntWalk.i64_in _ (by omega)
  have HBl := Lib.hid (show Below w.heap.size w ((w.alloc (.cells r.cells 24)).alloc (.cells zeroR.cells 24)) from Below.alloc0 (Below.alloc0 (Below.refl _ _) _) _)
  have HB := Lib.hid (show RgAt ((w.alloc (.cells r.cells 24)).alloc (.cells zeroR.cells 24)) w.heap.size 24 r from Blk.alloc (Blk.new _ _ _ _) _)
  have HZ := Lib.hid (show RgAt ((w.alloc (.cells r.cells 24)).alloc (.cells zeroR.cells 24)) (w.heap.size + 1) 24 zeroR from RgAt.new2 _ _ _ _)
  have hne : w.heap.size ≠ w.heap.size + 1 := by omega
  go_enter Try.func13, Try.ntmps13
  go_upto_region 1 with (fail)
  have hW : ((w.alloc (.cells r.cells 24)).alloc (.cells zeroR.cells 24)) = ((w.alloc (Obj.cells r.cells 24)).alloc (Obj.cells #[.int .u8 0, .int .u8 0, .int .u8 0, .int .u8 0, .int .u16 0, .int .u16 0, .int .u16 0, .int .u16 0, .int .u16 0] 24)) := rfl
  rw [hW] at HBl HB HZ
  clear hW
  generalize (w.alloc _).alloc _ = W at HBl HB HZ ⊢
  have HBd := Lib.hid (show RgAt W.drew w.heap.size 24 r from HB.out)
  have HZd := Lib.hid (show RgAt W.drew (w.heap.size + 1) 24 zeroR from HZ.out)
  have HLd := Lib.hid (Below.drew0 HBl.out)
  go_region_held3 (fun w' => w'.cell? ⟨w.heap.size, 0, none⟩ = some (.int .u8 r.A) ∧ w'.cell? ⟨w.heap.size, 1, none⟩ = some (.int .u8 r.B) ∧ w'.cell? ⟨w.heap.size, 2, none⟩ = some (.int .u8 r.D) ∧ w'.cell? ⟨w.heap.size, 3, none⟩ = some (.int .u8 r.C) ∧ w'.cell? ⟨w.heap.size, 4, none⟩ = some (.int .u16 r.X) ∧ w'.cell? ⟨w.heap.size, 5, none⟩ = some (.int .u16 r.Y) ∧ w'.cell? ⟨w.heap.size, 6, none⟩ = some (.int .u16 r.U) ∧ w'.cell? ⟨w.heap.size, 7, none⟩ = some (.int .u16 r.S) ∧ w'.cell? ⟨w.heap.size, 8, none⟩ = some (.int .u16 r.P))
    (first
      | (with_reducible exact HBd.out.cells)
      | (with_reducible exact HB1.out.cells)
      | (with_reducible exact HB2.out.cells)
      | exact (set9_far HB2.out hne s).cells)
    (first
      | (go_at_call 8; ((with_reducible refine (CG.out _).mono ?_); rintro e w1 ⟨rfl, hb1⟩; have HB1 := Lib.hid (RgAt.below HBd.out hb1 HBd.out.lt); have HZ1 := Lib.hid (RgAt.below HZd.out hb1 HZd.out.lt); have HL1 := Lib.hid (Below.trans0 HLd.out hb1); clear hb1))
      | (go_at_call 9; ((with_reducible refine (CS.out _).mono ?_); rintro e w2 ⟨rfl, hb2⟩; have HB2 := Lib.hid (RgAt.below HB1.out hb2 HB1.out.lt); have HZ2 := Lib.hid (RgAt.below HZ1.out hb2 HZ1.out.lt); have HL2 := Lib.hid (Below.trans0 HL1.out hb2); clear hb2; obtain ⟨z0, z1, z2, z3, z4, z5, z6, z7, z8⟩ := HZ2.out.cells; obtain ⟨f0, f1, f2, f3, f4, f5, f6, f7, f8⟩ := HZ2.out.frozens)))
  refine (‹∀ (a : Act) (w : World), Code.wp Try.prog Code.ret _ a w → _›) _ _ ?_
  refine wp_ret ?_
  exact bodyPost_ret (v := .agg s.cells) (results_cell_row Try.results13 _ _ (w.heap.size + 1) 24 s.cells (0, 0) _ rfl (set9_at HZ2.out s) Try.underlying24 rfl (by kernel_rfl)) rfl ⟨rfl, set9_below HL2.out (by omega) s⟩
set_option maxRecDepth 100000 in
set_option maxHeartbeats 4000000 in
theorem refExg_any (r : Rg) (hr : r.Ok) (p : Int) (h0 : 0 ≤ p) (h1 : p < 256) (w : World) :
    Calls Try.prog 14 #[.agg r.cells, .int .u8 p] w fun e w' => e = .returned (.agg (exgR r p).cells) ∧ Below w.heap.size w w' := by
  obtain ⟨g0, g1⟩ := getR_range r hr (p / 16)
  obtain ⟨g2, g3⟩ := getR_range r hr (p % 16)
  have hso := setR_ok r hr (p % 16) (getR r (p / 16)) g0 g1
  obtain ⟨s, hs⟩ : ∃ s, setR r (p % 16) (getR r (p / 16)) = s := ⟨_, rfl⟩
  have hq : exgR r p = setR s (p / 16) (getR r (p % 16)) := by rw [← hs]; rfl
  rw [hs] at hso
  rw [hq]
  obtain ⟨q, hqq⟩ : ∃ q, setR s (p / 16) (getR r (p % 16)) = q := ⟨_, rfl⟩
  have HS := Lib.hid hs
  have HQ := Lib.hid hqq
  rw [hqq]
  clear hs hq hqq
  have CG := Lib.hid (fun w => refGet_below r hr (p / 16) w)
  have CS := Lib.hid (fun w => refSet_eq r s hr (p % 16) _ g0 g1 HS w)
  have CG2 := Lib.hid (fun w => refGet_below r hr (p % 16) w)
  have CS2 := Lib.hid (fun w => refSet_eq s q hso (p / 16) _ g2 g3 HQ w)
  generalize getR r (p / 16) = x at CG CS g0 g1
  generalize getR r (p % 16) = y at CG2 CS2 g2 g3
  have t1 : p.tmod 16 = p % 16 := Int.tmod_eq_emod_of_nonneg h0
  have t2 : p.tdiv 16 = p / 16 := Int.tdiv_eq_ediv_of_nonneg h0
  have t3 : IntKind.u8.wrap (p / 16) = p / 16 := by rw [IntKind.wrap_u8]; omega
  have t4 : IntKind.u8.wrap (p % 16) = p % 16 := by rw [IntKind.wrap_u8]; omega
  have t5 : IntKind.i64.wrap (p / 16) = p / 16 := IntWalk.i64_in _ (by omega)
  have t6 : IntKind.i64.wrap (p % 16) = p % 16 := IntWalk.i64_in _ (by omega)
  have HBl := Lib.hid (show Below w.heap.size w ((w.alloc (.cells r.cells 24)).alloc (.cells zeroR.cells 24)) from Below.alloc0 (Below.alloc0 (Below.refl _ _) _) _)
  have HB := Lib.hid (show RgAt ((w.alloc (.cells r.cells 24)).alloc (.cells zeroR.cells 24)) w.heap.size 24 r from Blk.alloc (Blk.new _ _ _ _) _)
  have HZ := Lib.hid (show RgAt ((w.alloc (.cells r.cells 24)).alloc (.cells zeroR.cells 24)) (w.heap.size + 1) 24 zeroR from RgAt.new2 _ _ _ _)
  have hne : w.heap.size ≠ w.heap.size + 1 := by omega
  go_enter Try.func14, Try.ntmps14
  go_upto_region 1 with (fail)
  have hW : ((w.alloc (.cells r.cells 24)).alloc (.cells zeroR.cells 24)) = ((w.alloc (Obj.cells r.cells 24)).alloc (Obj.cells #[.int .u8 0, .int .u8 0, .int .u8 0, .int .u8 0, .int .u16 0, .int .u16 0, .int .u16 0, .int .u16 0, .int .u16 0] 24)) := rfl
  rw [hW] at HBl HB HZ
  clear hW
  generalize (w.alloc _).alloc _ = W at HBl HB HZ ⊢
  have HBd := Lib.hid (show RgAt W.drew w.heap.size 24 r from HB.out)
  have HZd := Lib.hid (show RgAt W.drew (w.heap.size + 1) 24 zeroR from HZ.out)
  have HLd := Lib.hid (Below.drew0 HBl.out)
  have HBa := Lib.hid (show RgAt (W.alloc (Obj.cells #[.int .u8 0, .int .u8 0, .int .u8 0, .int .u8 0, .int .u16 0, .int .u16 0, .int .u16 0, .int .u16 0, .int .u16 0] 24)).drew w.heap.size 24 r from Blk.alloc HB.out _)
  have HZa := Lib.hid (show RgAt (W.alloc (Obj.cells #[.int .u8 0, .int .u8 0, .int .u8 0, .int .u8 0, .int .u16 0, .int .u16 0, .int .u16 0, .int .u16 0, .int .u16 0] 24)).drew (w.heap.size + 1) 24 zeroR from Blk.alloc HZ.out _)
  have HNw := Lib.hid (show RgAt (W.alloc (Obj.cells #[.int .u8 0, .int .u8 0, .int .u8 0, .int .u8 0, .int .u16 0, .int .u16 0, .int .u16 0, .int .u16 0, .int .u16 0] 24)).drew W.heap.size 24 zeroR from Blk.new _ _ _ _)
  have HLa := Lib.hid (show Below w.heap.size w (W.alloc (Obj.cells #[.int .u8 0, .int .u8 0, .int .u8 0, .int .u8 0, .int .u16 0, .int .u16 0, .int .u16 0, .int .u16 0, .int .u16 0] 24)).drew from Below.drew0 (Below.alloc0 HBl.out _))
  go_cut [5] (fun u5 wx => ∃ g5, u5 = .pointer (some ⟨g5, 0, none⟩) ∧ Hid (RgAt wx w.heap.size 24 r ∧ RgAt wx (w.heap.size + 1) 24 zeroR ∧ RgAt wx g5 24 s ∧ Below w.heap.size w wx ∧ w.heap.size + 1 < g5))
  case first =>
    go_region_held3 (fun w' => w'.cell? ⟨w.heap.size, 0, none⟩ = some (.int .u8 r.A) ∧ w'.cell? ⟨w.heap.size, 1, none⟩ = some (.int .u8 r.B) ∧ w'.cell? ⟨w.heap.size, 2, none⟩ = some (.int .u8 r.D) ∧ w'.cell? ⟨w.heap.size, 3, none⟩ = some (.int .u8 r.C) ∧ w'.cell? ⟨w.heap.size, 4, none⟩ = some (.int .u16 r.X) ∧ w'.cell? ⟨w.heap.size, 5, none⟩ = some (.int .u16 r.Y) ∧ w'.cell? ⟨w.heap.size, 6, none⟩ = some (.int .u16 r.U) ∧ w'.cell? ⟨w.heap.size, 7, none⟩ = some (.int .u16 r.S) ∧ w'.cell? ⟨w.heap.size, 8, none⟩ = some (.int .u16 r.P))
      (first
        | (with_reducible exact HBd.out.cells)
        | (with_reducible exact HBa.out.cells)
        | (with_reducible exact HB1.out.cells)
        | (with_reducible exact HB1a.out.cells)
        | (with_reducible exact HB2.out.cells)
        | (with_reducible exact HB2a.out.cells)
        | (with_reducible exact HB2s.out.cells)
        | (with_reducible exact RgAt.cells HFa.out.1)
        | (with_reducible exact RgAt.cells HFb.out.1))
      (first
        | (go_at_call 8; ((with_reducible refine (CG.out _).mono ?_); rintro e w1 ⟨rfl, hb1⟩; have HB1 := Lib.hid (show RgAt w1 w.heap.size 24 r from by first | (with_reducible exact RgAt.below HBd.out hb1 HBd.out.lt) | (with_reducible exact RgAt.below HBa.out hb1 HBa.out.lt)); have HZ1 := Lib.hid (show RgAt w1 (w.heap.size + 1) 24 zeroR from by first | (with_reducible exact RgAt.below HZd.out hb1 HZd.out.lt) | (with_reducible exact RgAt.below HZa.out hb1 HZa.out.lt)); have HL1 := Lib.hid (show Below w.heap.size w w1 from by first | (with_reducible exact Below.trans0 HLd.out hb1) | (with_reducible exact Below.trans0 HLa.out hb1)); (try have HNa := Lib.hid (show RgAt w1 W.heap.size 24 zeroR from by with_reducible exact RgAt.below HNw.out hb1 HNw.out.lt)); have HB1a := Lib.hid (show RgAt (w1.alloc (Obj.cells #[.int .u8 0, .int .u8 0, .int .u8 0, .int .u8 0, .int .u16 0, .int .u16 0, .int .u16 0, .int .u16 0, .int .u16 0] 24)) w.heap.size 24 r from Blk.alloc HB1.out _); have HZ1a := Lib.hid (show RgAt (w1.alloc (Obj.cells #[.int .u8 0, .int .u8 0, .int .u8 0, .int .u8 0, .int .u16 0, .int .u16 0, .int .u16 0, .int .u16 0, .int .u16 0] 24)) (w.heap.size + 1) 24 zeroR from Blk.alloc HZ1.out _); have HN1a := Lib.hid (show RgAt (w1.alloc (Obj.cells #[.int .u8 0, .int .u8 0, .int .u8 0, .int .u8 0, .int .u16 0, .int .u16 0, .int .u16 0, .int .u16 0, .int .u16 0] 24)) w1.heap.size 24 zeroR from Blk.new _ _ _ _); have HL1a := Lib.hid (Below.alloc0 HL1.out (Obj.cells #[.int .u8 0, .int .u8 0, .int .u8 0, .int .u8 0, .int .u16 0, .int .u16 0, .int .u16 0, .int .u16 0, .int .u16 0] 24)); clear hb1))
        | (go_at_call 9; ((with_reducible refine (CS.out _).mono ?_); rintro e w2 ⟨rfl, hb2⟩; have HB2 := Lib.hid (show RgAt w2 w.heap.size 24 r from by first | (with_reducible exact RgAt.below HB1.out hb2 HB1.out.lt) | (with_reducible exact RgAt.below HB1a.out hb2 HB1a.out.lt)); have HZ2 := Lib.hid (show RgAt w2 (w.heap.size + 1) 24 zeroR from by first | (with_reducible exact RgAt.below HZ1.out hb2 HZ1.out.lt) | (with_reducible exact RgAt.below HZ1a.out hb2 HZ1a.out.lt)); have HL2 := Lib.hid (show Below w.heap.size w w2 from by first | (with_reducible exact Below.trans0 HL1.out hb2) | (with_reducible exact Below.trans0 HL1a.out hb2)); (try (have HN2 := Lib.hid (show RgAt w2 W.heap.size 24 zeroR from by with_reducible exact RgAt.below HNa.out hb2 HNa.out.lt); obtain ⟨z0, z1, z2, z3, z4, z5, z6, z7, z8⟩ := HN2.out.cells; obtain ⟨f0, f1, f2, f3, f4, f5, f6, f7, f8⟩ := HN2.out.frozens)); (try (have HN3 := Lib.hid (show RgAt w2 w1.heap.size 24 zeroR from by with_reducible exact RgAt.below HN1a.out hb2 HN1a.out.lt); obtain ⟨z0, z1, z2, z3, z4, z5, z6, z7, z8⟩ := HN3.out.cells; obtain ⟨f0, f1, f2, f3, f4, f5, f6, f7, f8⟩ := HN3.out.frozens)); have HB2a := Lib.hid (show RgAt (w2.alloc (Obj.cells #[.int .u8 0, .int .u8 0, .int .u8 0, .int .u8 0, .int .u16 0, .int .u16 0, .int .u16 0, .int .u16 0, .int .u16 0] 24)) w.heap.size 24 r from Blk.alloc HB2.out _); have HB2s := Lib.hid (show RgAt (w2.alloc (Obj.cells s.cells 24)) w.heap.size 24 r from Blk.alloc HB2.out _); have HFc := Lib.hid (show RgAt (w2.alloc (Obj.cells s.cells 24)) w.heap.size 24 r ∧ RgAt (w2.alloc (Obj.cells s.cells 24)) (w.heap.size + 1) 24 zeroR ∧ RgAt (w2.alloc (Obj.cells s.cells 24)) w2.heap.size 24 s ∧ Below w.heap.size w (w2.alloc (Obj.cells s.cells 24)) ∧ w.heap.size + 1 < w2.heap.size from ⟨Blk.alloc HB2.out _, Blk.alloc HZ2.out _, Blk.new _ _ _ _, Below.alloc0 HL2.out _, HZ2.out.lt⟩); (try have HFa := Lib.hid (show RgAt (set9 w2 W.heap.size s) w.heap.size 24 r ∧ RgAt (set9 w2 W.heap.size s) (w.heap.size + 1) 24 zeroR ∧ RgAt (set9 w2 W.heap.size s) W.heap.size 24 s ∧ Below w.heap.size w (set9 w2 W.heap.size s) ∧ w.heap.size + 1 < W.heap.size from ⟨set9_far HB2.out (by have := HZd.out.lt; simp at this; omega) s, set9_far HZ2.out (by have := HZd.out.lt; simp at this; omega) s, set9_at HN2.out s, set9_below HL2.out (by have := HZd.out.lt; simp at this; omega) s, by have := HZd.out.lt; simpa using this⟩)); (try have HFb := Lib.hid (show RgAt (set9 w2 w1.heap.size s) w.heap.size 24 r ∧ RgAt (set9 w2 w1.heap.size s) (w.heap.size + 1) 24 zeroR ∧ RgAt (set9 w2 w1.heap.size s) w1.heap.size 24 s ∧ Below w.heap.size w (set9 w2 w1.heap.size s) ∧ w.heap.size + 1 < w1.heap.size from ⟨set9_far HB2.out (by have := HZ1.out.lt; omega) s, set9_far HZ2.out (by have := HZ1.out.lt; omega) s, set9_at HN3.out s, set9_below HL2.out (by have := HZ1.out.lt; omega) s, HZ1.out.lt⟩)); clear hb2)))
    all_goals
      go_wp2_with fail
      go_meet
      case rel =>
        first
          | (with_reducible exact ⟨_, rfl, HFc⟩)
          | (with_reducible exact ⟨_, rfl, HFa⟩)
          | (with_reducible exact ⟨_, rfl, HFb⟩)
  case rest =>
    obtain ⟨g5, rfl, HA⟩ := hcut
    clear HB HZ HBl HBd HZd HLd HBa HZa HNw HLa CG CS
    have HBd := Lib.hid (show RgAt wc.drew w.heap.size 24 r from HA.out.1)
    have HZd := Lib.hid (show RgAt wc.drew (w.heap.size + 1) 24 zeroR from HA.out.2.1)
    have HXd := Lib.hid (show RgAt wc.drew g5 24 s from HA.out.2.2.1)
    have HLd := Lib.hid (Below.drew0 HA.out.2.2.2.1)
    have hg5 : g5 ≠ w.heap.size + 1 := by have := HA.out.2.2.2.2; omega
    go_upto_region 2 with (fail)
    go_region_held3 (fun w' => (w'.cell? ⟨w.heap.size, 0, none⟩ = some (.int .u8 r.A) ∧ w'.cell? ⟨w.heap.size, 1, none⟩ = some (.int .u8 r.B) ∧ w'.cell? ⟨w.heap.size, 2, none⟩ = some (.int .u8 r.D) ∧ w'.cell? ⟨w.heap.size, 3, none⟩ = some (.int .u8 r.C) ∧ w'.cell? ⟨w.heap.size, 4, none⟩ = some (.int .u16 r.X) ∧ w'.cell? ⟨w.heap.size, 5, none⟩ = some (.int .u16 r.Y) ∧ w'.cell? ⟨w.heap.size, 6, none⟩ = some (.int .u16 r.U) ∧ w'.cell? ⟨w.heap.size, 7, none⟩ = some (.int .u16 r.S) ∧ w'.cell? ⟨w.heap.size, 8, none⟩ = some (.int .u16 r.P)) ∧ (w'.cell? ⟨g5, 0, none⟩ = some (.int .u8 s.A) ∧ w'.cell? ⟨g5, 1, none⟩ = some (.int .u8 s.B) ∧ w'.cell? ⟨g5, 2, none⟩ = some (.int .u8 s.D) ∧ w'.cell? ⟨g5, 3, none⟩ = some (.int .u8 s.C) ∧ w'.cell? ⟨g5, 4, none⟩ = some (.int .u16 s.X) ∧ w'.cell? ⟨g5, 5, none⟩ = some (.int .u16 s.Y) ∧ w'.cell? ⟨g5, 6, none⟩ = some (.int .u16 s.U) ∧ w'.cell? ⟨g5, 7, none⟩ = some (.int .u16 s.S) ∧ w'.cell? ⟨g5, 8, none⟩ = some (.int .u16 s.P)))
      (first
        | (with_reducible exact ⟨HBd.out.cells, HXd.out.cells⟩)
        | (with_reducible exact ⟨HB1.out.cells, HX1.out.cells⟩)
        | (with_reducible exact ⟨HB2.out.cells, HX2.out.cells⟩)
        | (with_reducible exact ⟨HB3.out.cells, HX3.out.cells⟩))
      (first
        | (go_at_call 8; ((with_reducible refine (CG2.out _).mono ?_); rintro e w1 ⟨rfl, hb1⟩; have HB1 := Lib.hid (RgAt.below HBd.out hb1 HBd.out.lt); have HX1 := Lib.hid (RgAt.below HXd.out hb1 HXd.out.lt); have HZ1 := Lib.hid (RgAt.below HZd.out hb1 HZd.out.lt); have HL1 := Lib.hid (Below.trans0 HLd.out hb1); clear hb1))
        | (go_at_call 9; ((with_reducible refine (CS2.out _).mono ?_); rintro e w2 ⟨rfl, hb2⟩; have HB2 := Lib.hid (RgAt.below HB1.out hb2 HB1.out.lt); have HX2 := Lib.hid (RgAt.below HX1.out hb2 HX1.out.lt); have HZ2 := Lib.hid (RgAt.below HZ1.out hb2 HZ1.out.lt); have HL2 := Lib.hid (Below.trans0 HL1.out hb2); clear hb2; obtain ⟨z0, z1, z2, z3, z4, z5, z6, z7, z8⟩ := HZ2.out.cells; obtain ⟨f0, f1, f2, f3, f4, f5, f6, f7, f8⟩ := HZ2.out.frozens; have HB3 := Lib.hid (show RgAt (set9 w2 (w.heap.size + 1) q) w.heap.size 24 r from set9_far HB2.out hne q); have HX3 := Lib.hid (show RgAt (set9 w2 (w.heap.size + 1) q) g5 24 s from set9_far HX2.out hg5 q))))
    refine (‹∀ (a : Act) (w : World), Code.wp Try.prog Code.ret _ a w → _›) _ _ ?_
    refine wp_ret ?_
    exact bodyPost_ret (v := .agg q.cells) (results_cell_row Try.results14 _ _ (w.heap.size + 1) 24 q.cells (0, 0) _ rfl (set9_at HZ2.out q) Try.underlying24 rfl (by kernel_rfl)) rfl ⟨rfl, set9_below HL2.out (by omega) q⟩
end Go.Proofs.Ytfkcogccbeolfaa
