/- Memory of package ram: Copy. -/
import Derived.Test.YtnhafficnomlbaaRamN
import Derived.Deep.MidRow
namespace Go.Proofs.Ytnhafficnomlbaa
open Go.ChangeShapes Go.WideShapes Go.ChangeAt Go.RowKit
set_option linter.unusedVariables false

theorem raCs_size (p : Nat → Option Nat) (rom : Int) : (raCs p rom).size = 257 := by
  unfold raCs; rw [List.size_toArray, List.length_append, List.length_map, List.length_range]; rfl
theorem raCs_one (p : Nat → Option Nat) (rom : Int) : (raCs p rom).all (·.oneCell') = true := by
  rw [Array.all_eq_true]
  intro k hk
  have hk2 : k < 257 := by rw [raCs_size] at hk; exact hk
  by_cases e : k < 256
  · have h := raCs_at p rom k e
    rw [Array.getElem?_eq_getElem hk] at h
    rw [Option.some.inj h]
    unfold ptrTo
    rfl
  · obtain rfl : k = 256 := by omega
    have h := raCs_rom p rom
    rw [Array.getElem?_eq_getElem hk] at h
    rw [Option.some.inj h]
    rfl
def ptrsL (p : Nat → Option Nat) : List Value := (List.range 256).map fun i => ptrTo (p i)
theorem ptrsL_len (p : Nat → Option Nat) : (ptrsL p).length = 256 := by unfold ptrsL; rw [List.length_map, List.length_range]
theorem ptrsL_at (p : Nat → Option Nat) (i : Nat) (h : i < 256) : (ptrsL p)[i]? = some (ptrTo (p i)) := by
  unfold ptrsL; rw [List.getElem?_map, List.getElem?_range h]; rfl
theorem infoPtr : (Try.prog.info? 68).map (fun i => (i.zero, i.size, i.bytes)) = some (some (.pointer none), 1, 8) := by kernel_rfl
theorem ptr_at (w : World) (p : Nat → Option Nat) (k : Nat) (hk : k < 256) : (Instr.index 69 (.agg (ptrsL p).toArray) (.int .i64 (k : Int))).run Try.prog w = .ok (ptrTo (p k)) w := by
  obtain ⟨i0, hi, hz0, hz1, hz2⟩ := info_parts infoPtr
  have h0 : (0 : Int) ≤ (k : Int) ∧ (k : Int) < ((256 : Nat) : Int) := ⟨by omega, by omega⟩
  have hc : Try.prog.cellsOf 68 = 1 := by kernel_rfl
  have hs := run_sizeOf (P := Try.prog) w hi
  rw [hc] at hs
  have ha : (isAgg 68).run Try.prog w = .ok false w := by kernel_rfl
  have hp : (part 68 (ptrsL p).toArray k).run Try.prog w = .ok (ptrTo (p k)) w := by
    have := ptrsL_at p k hk
    rw [← List.getElem?_toArray] at this
    simp only [part, Sem.run_bind, ha, Result.andThen_ok, this]
    rfl
  simp only [Instr.index, asIntOf, Sem.run_bind, Sem.run_pure, run_underlying Try.underlying69, Result.andThen_ok, if_pos h0, hs, Nat.mul_one, Int.toNat_natCast, hp]
/-- A copy under way: of so many pages. -/
structure Cp (wr : World) (m k : Nat) (p pk : Nat → Option Nat) (f : Nat → Int) : Prop where
  eq : ∀ j, k ≤ j → pk j = p j
  no : ∀ j, j < k → p j = none → pk j = none
  page : ∀ j g, j < k → p j = some g → ∃ g', pk j = some g' ∧ m < g' ∧ Blk wr g' 73 (pgCs f j)
  inj : ∀ i j g, i < k → j < k → pk i = some g → pk j = some g → i = j
theorem Cp.done {wr w : World} {m m0 : Nat} {p pk : Nat → Option Nat} {f : Nat → Int} {rom : Int} (h : Cp wr m 256 p pk f) (h0 : Ra w m0 p rom f) (hb : Blk wr m 71 (raCs pk rom)) : Ra wr m pk rom f ∧ ∀ b, RS m pk b → m ≤ b := by
  have hp : ∀ j g, j < 256 → pk j = some g → ∃ g0, p j = some g0 := fun j g hj e => by
    cases e2 : p j with
    | none => rw [h.no j hj e2] at e; cases e
    | some g0 => exact ⟨g0, rfl⟩
  refine ⟨⟨hb, fun i hi e k hk => ?_, fun i g hi e => ?_, h.inj, h0.byt⟩, fun b hb => ?_⟩
  · cases e2 : p i with
    | none => exact h0.empty i hi e2 k hk
    | some g0 =>
      obtain ⟨g', e3, _⟩ := h.page i g0 hi e2
      rw [e] at e3; cases e3
  · obtain ⟨g0, e2⟩ := hp i g hi e
    obtain ⟨g', e3, hm, hB⟩ := h.page i g0 hi e2
    rw [e] at e3
    obtain rfl := Option.some.inj e3
    exact ⟨by omega, hB⟩
  · rcases hb with e | ⟨i, hi, e⟩
    · omega
    · obtain ⟨g0, e2⟩ := hp i b hi e
      obtain ⟨g', e3, hm, hB⟩ := h.page i g0 hi e2
      rw [e] at e3
      obtain rfl := Option.some.inj e3
      omega
theorem Cp.skip {wr : World} {m k : Nat} {p pk : Nat → Option Nat} {f : Nat → Int} (h : Cp wr m k p pk f) (hp : p k = none) : Cp wr m (k + 1) p pk f := by
  have hk : pk k = none := (h.eq k (Nat.le_refl _)).trans hp
  refine ⟨fun j hj => h.eq j (by omega), fun j hj e => ?_, fun j g hj e => ?_, fun i j g hi hj e e2 => ?_⟩
  · by_cases ej : j = k
    · rw [ej]; exact hk
    · exact h.no j (by omega) e
  · by_cases ej : j = k
    · rw [ej, hp] at e; cases e
    · exact h.page j g (by omega) e
  · have h1 : i ≠ k := fun e3 => by rw [e3, hk] at e; cases e
    have h2 : j ≠ k := fun e3 => by rw [e3, hk] at e2; cases e2
    exact h.inj i j g (by omega) (by omega) e e2
theorem Cp.put {wr w3 : World} {m k g g3 : Nat} {p pk : Nat → Option Nat} {f : Nat → Int} (h : Cp wr m k p pk f) (hp : p k = some g) (hg : wr.heap.size ≤ g3) (hm : m < g3) (hB : Blk w3 g3 73 (pgCs f k)) (hk : ∀ b, b < wr.heap.size → b ≠ m → w3.heap[b]? = wr.heap[b]?) : Cp w3 m (k + 1) p (updP pk k g3) f := by
  refine ⟨fun j hj => by rw [updP_else pk k g3 j (by omega)]; exact h.eq j (by omega), fun j hj e => ?_, fun j g' hj e => ?_, fun i j g' hi hj e e2 => ?_⟩
  · by_cases ej : j = k
    · rw [ej, hp] at e; cases e
    · rw [updP_else pk k g3 j ej]; exact h.no j (by omega) e
  · by_cases ej : j = k
    · subst ej; exact ⟨g3, updP_here _ _ _, hm, hB⟩
    · obtain ⟨g1, e1, h1, h2⟩ := h.page j g' (by omega) e
      exact ⟨g1, by rw [updP_else pk k g3 j ej]; exact e1, h1, (hk g1 h2.lt (by omega)).trans h2⟩
  · have lt : ∀ j, j < k → ∀ g', pk j = some g' → g' < wr.heap.size := fun j hj g' e => by
      cases e1 : p j with
      | none => rw [h.no j hj e1] at e; cases e
      | some g0 =>
        obtain ⟨g1, e2, _, h2⟩ := h.page j g0 hj e1
        rw [e] at e2
        obtain rfl := Option.some.inj e2
        exact h2.lt
    by_cases h1 : i = k
    · by_cases h2 : j = k
      · omega
      · rw [updP_else pk k g3 j h2] at e2
        rw [h1, updP_here] at e
        obtain rfl := Option.some.inj e
        have := lt j (by omega) g3 e2; omega
    · by_cases h2 : j = k
      · rw [updP_else pk k g3 i h1] at e
        rw [h2, updP_here] at e2
        obtain rfl := Option.some.inj e2
        have := lt i (by omega) g3 e; omega
      · rw [updP_else pk k g3 i h1] at e
        rw [updP_else pk k g3 j h2] at e2
        exact h.inj i j g' (by omega) (by omega) e e2
def CopyPost (w : World) (rom : Int) (f : Nat → Int) (e : Ending) (w' : World) : Prop :=
  ∃ m p, e = .returned (.pointer (some ⟨m, 0, none⟩)) ∧ Ra w' m p rom f ∧ Below w.heap.size w w' ∧ ∀ b, RS m p b → w.heap.size ≤ b
set_option maxRecDepth 100000 in
set_option maxHeartbeats 4000000 in
theorem raCopy_any (m : Nat) (p : Nat → Option Nat) (rom : Int) (f : Nat → Int) (w : World) (h : Ra w m p rom f) :
    Calls Try.prog 26 #[.pointer (some ⟨m, 0, none⟩)] w (CopyPost w rom f) := by
  have HR := Lib.hid h
  clear h
  obtain ⟨g2, hg2⟩ : ∃ g2, w.heap.size = g2 := ⟨_, rfl⟩
  have HG := Lib.hid hg2
  obtain ⟨cs, hcs⟩ : ∃ cs, raCs p rom = cs := ⟨_, rfl⟩
  have HCS := Lib.hid hcs
  have HC1 : Hid (cs.size = 257) := Lib.hid (by rw [← hcs]; exact raCs_size p rom)
  have HC2 : Hid (cs.all (·.oneCell') = true) := Lib.hid (by rw [← hcs]; exact raCs_one p rom)
  have HBL : Hid (Blk w m 71 cs) := Lib.hid (by rw [← hcs]; exact HR.out.blk)
  clear hg2 hcs
  go_enter Try.func26, Try.ntmps26
  go_upto_region 1 with (fail)
  refine wp_region_lit ?_
  refine Great.wpList_readTo rfl (some 7) rfl (.pointer (some ⟨m, 0, none⟩)) (by rfl) ?_
  refine Great.wpList_readTo rfl (some 8) rfl (.pointer (some ⟨m, 0, none⟩)) (by rfl) ?_
  refine wpList_load_row rfl 71 _ rfl m rfl 71 cs (0, 0) _ HBL.out Try.underlying71 rfl (by rw [HC1.out]; kernel_rfl) ?_
  refine Great.wpList_allocTo rfl (some 3) rfl (.pointer (some ⟨g2, 0, none⟩)) (.cells (raCs pNo 0) 71) (by rw [← HG.out]; kernel_rfl) ?_
  refine wpList_store_rowTo rfl 71 _ _ rfl rfl g2 cs rfl rfl 71 (raCs pNo 0) (by rw [← HG.out]; exact Blk.new w _ _ (0, 0)) (by rw [HC1.out]; kernel_rfl) (by rw [HC1.out]; rfl) HC2.out ?_
  have B1 : Hid (Blk ((w.alloc (.cells (raCs pNo 0) 71)).setRow g2 cs) g2 71 (raCs p rom)) := Lib.hid (by rw [HCS.out]; exact Blk.row (by rw [← HG.out]; exact Blk.new w _ _ (0, 0)) cs)
  have W1 : Hid (Below w.heap.size w ((w.alloc (.cells (raCs pNo 0) 71)).setRow g2 cs)) := Lib.hid (below_row' (Below.alloc0 (Below.refl _ _) _) g2 cs (by rw [HG.out]; exact Nat.le_refl _))
  generalize (w.alloc (.cells (raCs pNo 0) 71)).setRow g2 cs = w1 at B1 W1 ⊢
  have R1 := Lib.hid (HR.out.below W1.out)
  clear HCS HC1 HC2 HBL
  have C0 : Hid (Cp w1 g2 0 p p f) := Lib.hid ⟨fun _ _ => rfl, fun j hj => absurd hj (by omega), fun j g hj => absurd hj (by omega), fun i j g hi => absurd hi (by omega)⟩
  have HIX := Lib.hid (fun w k hk => ptr_at w p k hk)
  have HRG : Hid (w1.rangeAt m 0 (ptrsL p)) := Lib.hid (fun j v hj => by
    have hj2 : j < 256 := by
      rcases Nat.lt_or_ge j 256 with a | a
      · exact a
      · rw [List.getElem?_eq_none (by rw [ptrsL_len]; exact a)] at hj; cases hj
    rw [ptrsL_at p j hj2] at hj
    rw [Nat.zero_add, R1.out.ptr j hj2, hj])
  have HLN := Lib.hid (ptrsL_len p)
  go_upto_region 2 with (fail)
  refine wp_region_lit ?_
  refine Great.wpList_readTo rfl (some 10) rfl (.pointer (some ⟨m, 0, none⟩)) (by rfl) ?_
  refine Great.wpList_readTo rfl (some 11) rfl (.pointer (some ⟨m, 0, none⟩)) (by rfl) ?_
  refine Great.wpList_readTo rfl (some 12) rfl (.pointer (some ⟨m, 0, none⟩)) (by rfl) ?_
  refine wpList_load_mid rfl 69 _ rfl m 0 rfl (ptrsL p) _ HRG.out Try.underlying69 (by kernel_rfl) (by rw [HLN.out]; kernel_rfl) ?_
  generalize (ptrsL p).toArray = ps at HIX ⊢
  clear HRG HLN
  go_wp2
  go_loopw [14] (fun i wr => ∃ k : Nat, k ≤ 256 ∧ i = .int .i64 k ∧ Hid (∃ pk, Blk wr g2 71 (raCs pk rom) ∧ Cp wr g2 k p pk f) ∧ Hid (Below w.heap.size w wr)) (fun i _ => 256 - (intOf i).toNat)
  case atStart => exact ⟨0, Nat.zero_le _, rfl, Lib.hid ⟨p, B1.out, C0.out⟩, W1⟩
  case round =>
    obtain ⟨k, hk, rfl, HK, HW⟩ := hrel
    by_cases hlt : k < 256
    · have t0 : (0 : Int) ≤ k := by omega
      have t1 : (k : Int) < 256 := by omega
      obtain ⟨pk, hb, hcp⟩ := HK.out
      have hix := fun w => HIX.out w k hlt
      have hm := hb.lt
      cases hp : p k with
      | none =>
        rw [hp] at hix
        simp only [ptrTo, Option.map_none] at hix
        have HK2 : Hid (∃ pk, Blk wr g2 71 (raCs pk rom) ∧ Cp wr g2 (k + 1) p pk f) := Lib.hid ⟨pk, hb, hcp.skip hp⟩
        clear hb hcp hp hm
        go_wp2
        go_roundw
        case rel => exact ⟨k + 1, by omega, by go_num, HK2, HW⟩
        case measure => simp [intOf] <;> omega
      | some g =>
        rw [hp] at hix
        simp only [ptrTo, Option.map_some] at hix
        have HB := Lib.hid ((HR.out.below HW.out).page k g hlt hp).2
        have HS := Lib.hid (pgCs_size f k)
        have HO := Lib.hid (pgCs_one f k)
        have HPP := Lib.hid (fun (g3 : Nat) (w4 : World) => Cp.put (w3 := w4) (g3 := g3) hcp hp)
        have HBB := Lib.hid hb
        have HM := Lib.hid hm
        obtain ⟨ds, hds⟩ : ∃ ds, pgCs f k = ds := ⟨_, rfl⟩
        rw [hds] at HB HS HO HPP
        obtain ⟨g3, hg3⟩ : ∃ g3, wr.heap.size = g3 := ⟨_, rfl⟩
        have HG3 := Lib.hid hg3
        clear hb hcp hp hm hds hg3
        go_upto_region 6 with (fail)
        refine wp_region_lit ?_
        refine Great.wpList_readTo rfl (some 20) rfl (.pointer (some ⟨g, 0, none⟩)) (by rfl) ?_
        refine Great.wpList_readTo rfl (some 21) rfl (.pointer (some ⟨g, 0, none⟩)) (by rfl) ?_
        refine wpList_load_row rfl 73 _ rfl g rfl 73 ds (0, 0) _ HB.out Try.underlying73 rfl (by rw [HS.out]; kernel_rfl) ?_
        refine Great.wpList_allocTo rfl (some 6) rfl (.pointer (some ⟨g3, 0, none⟩)) (.cells (Array.replicate 256 (.int .u8 0)) 73) (by rw [← HG3.out]; kernel_rfl) ?_
        refine wpList_store_rowTo rfl 73 _ _ rfl rfl g3 ds rfl rfl 73 (Array.replicate 256 (.int .u8 0)) (by rw [← HG3.out]; exact Blk.new wr _ _ (0, 0)) (by rw [HS.out]; kernel_rfl) (by rw [HS.out]; rfl) HO.out ?_
        have HN : g2 ≠ g3 := by have := HM.out; have := HG3.out; omega
        have B3 : Hid (Blk ((wr.alloc (.cells (Array.replicate 256 (.int .u8 0)) 73)).setRow g3 ds) g3 73 ds) := Lib.hid (Blk.row (by rw [← HG3.out]; exact Blk.new wr _ _ (0, 0)) ds)
        have BR : Hid (Blk ((wr.alloc (.cells (Array.replicate 256 (.int .u8 0)) 73)).setRow g3 ds) g2 71 (raCs pk rom)) := Lib.hid (Blk.rowFar (HBB.out.alloc _) HN ds)
        have HE : Hid (∀ b, b < wr.heap.size → ((wr.alloc (.cells (Array.replicate 256 (.int .u8 0)) 73)).setRow g3 ds).heap[b]? = wr.heap[b]?) := Lib.hid (fun b hb => (setRow_other _ g3 b ds (by have := HG3.out; omega)).trans (Below.heap_alloc wr _ b hb))
        have W3 : Hid (Below w.heap.size w ((wr.alloc (.cells (Array.replicate 256 (.int .u8 0)) 73)).setRow g3 ds)) := Lib.hid (below_row' (Below.alloc0 HW.out _) g3 ds (by have := HW.out.size; have := HG3.out; omega))
        generalize (wr.alloc (.cells (Array.replicate 256 (.int .u8 0)) 73)).setRow g3 ds = w3 at B3 BR HE W3 ⊢
        have c1 : w3.cell? ⟨g2, k, none⟩ = some (ptrTo (pk k)) := by rw [BR.out.cell, raCs_at pk rom k hlt]
        have f1 := BR.out.frozen k
        have K4 : Hid (∃ pk, Blk (w3.setCell ⟨g2, k, none⟩ (.pointer (some ⟨g3, 0, none⟩))) g2 71 (raCs pk rom) ∧ Cp (w3.setCell ⟨g2, k, none⟩ (.pointer (some ⟨g3, 0, none⟩))) g2 (k + 1) p pk f) := Lib.hid ⟨updP pk k g3, by rw [← raCs_set pk rom k g3 hlt]; exact BR.out.set_ k _, HPP.out g3 _ (by rw [HG3.out]; exact Nat.le_refl _) (by have := HM.out; have := HG3.out; omega) (B3.out.far (fun e => HN e.symm) _) (fun b hb hn => (heap_setCell_other w3 _ b _ hn).trans (HE.out b hb))⟩
        have W4 : Hid (Below w.heap.size w (w3.setCell ⟨g2, k, none⟩ (.pointer (some ⟨g3, 0, none⟩)))) := Lib.hid (Below.set0 W3.out (by rw [HG.out]; exact Nat.le_refl _) _)
        generalize ptrTo (pk k) = old at c1
        clear HPP HBB HB HS HO B3 BR HE W3 HN
        go_wp2
        go_roundw
        case rel => exact ⟨k + 1, by omega, by go_num, K4, W4⟩
        case measure => simp [intOf] <;> omega
    · obtain rfl : k = 256 := by omega
      go_wp2
      go_ret
      obtain ⟨pk, hb, hcp⟩ := HK.out
      obtain ⟨h1, h2⟩ := hcp.done HR.out hb
      exact ⟨g2, pk, rfl, h1, HW.out, fun b hb => by rw [HG.out]; exact h2 b hb⟩
end Go.Proofs.Ytnhafficnomlbaa
