/- Memory of package ram: Part, Page. -/
import Derived.Test.YtnhafficnomlbaaRamL
import Derived.Laws.MakeOwn
namespace Go.Proofs.Ytnhafficnomlbaa
open Go.ChangeShapes Go.WideShapes Go.ChangeAt Go.RowKit
set_option linter.unusedVariables false

/-- A row of bytes, told as a function: its cells, its list. -/
def rowF (q : Nat → Int) (n : Nat) : Array Value := ((List.range n).map fun i => Value.int .u8 (q i)).toArray
def lstF (q : Nat → Int) (n : Nat) : List Int := (List.range n).map q
theorem lstF_len (q : Nat → Int) (n : Nat) : (lstF q n).length = n := by unfold lstF; rw [List.length_map, List.length_range]
theorem iat_lstF (q : Nat → Int) (n i : Nat) (h : i < n) : iat (lstF q n) i = q i := by
  rw [iat_eq _ _ (by rw [lstF_len]; exact h)]
  simp only [lstF, List.getElem_map, List.getElem_range]
theorem rowF_at (q : Nat → Int) (n i : Nat) (h : i < n) : (rowF q n)[i]? = some (.int .u8 (q i)) := by
  unfold rowF
  rw [List.getElem?_toArray, List.getElem?_map, List.getElem?_range h]; rfl
theorem rowF_set (q : Nat → Int) (n k : Nat) (x : Int) (hk : k < n) : (rowF q n).setIfInBounds k (.int .u8 x) = rowF (upd q k x) n := by
  unfold rowF
  rw [List.setIfInBounds_toArray]
  congr 1
  apply List.ext_getElem (by rw [List.length_set, List.length_map, List.length_map])
  intro j h1 h2
  rw [List.getElem_set]
  simp only [List.getElem_map, List.getElem_range, upd]
  by_cases e : k = j
  · subst e; simp
  · rw [if_neg e, if_neg (fun e2 => e e2.symm)]
theorem rowF_zero (n : Nat) : rowF (fun _ => 0) n = Array.replicate n (.int .u8 0) := by
  unfold rowF
  apply Array.ext'
  rw [Array.toList_replicate, List.toList_toArray]
  apply List.ext_getElem (by rw [List.length_map, List.length_range, List.length_replicate])
  intro j h1 h2
  simp only [List.getElem_map, List.getElem_replicate]
theorem rdY_row {w : World} {g n : Nat} {t : TypeId} {q : Nat → Int} (h : Blk w g t (rowF q n)) (c : Nat) : eY.Rd w (.slice (some ⟨g, 0, none⟩) n c) (lstF q n) := by
  refine rdY_mk (lstF_len q n) h.lt fun i hi => ?_
  rw [lstF_len] at hi
  rw [Nat.zero_add, h.cell, rowF_at q n i hi, iat_lstF q n i hi]
theorem made_N (w : World) (n : Nat) (hn : n ≤ 65536) : (Instr.makeSlice 22 (.int .i64 (n : Int)) (.int .i64 (n : Int))).run Try.prog w = .ok (.slice (some ⟨w.heap.size, 0, none⟩) n n) (w.alloc (.cells (rowF (fun _ => 0) n) 5)) := by
  obtain ⟨i0, hi, hz0, hz1, hz2⟩ := info_parts info8
  have hr := run_make (P := Try.prog) w 22 5 i0 _ Try.underlying22 hi hz0 .i64 .i64 n n (by omega) (by omega) (by rw [hz2]; omega) (by omega)
  simp only [Int.toNat_natCast] at hr
  rw [hr, hz1, Nat.mul_one, rowF_zero]
  congr 3
  apply Array.ext
  · rw [size_madeCells]; simp
  · intro i h1 h2
    have : i < n := by rw [size_madeCells] at h1; exact h1
    simp [madeCells, Value.cells, Nat.mod_one]
/-- What is read from an address on, beyond the end from 0 on again. -/
def partF (f : Nat → Int) (a : Nat) : Nat → Int := fun i => f ((a + i) % 65536)
def ReadsY (w : World) (l : List Int) (e : Ending) (w' : World) : Prop := ∃ v, e = .returned v ∧ eY.Rd w' v l ∧ Below w.heap.size w w'
set_option maxHeartbeats 2000000 in
theorem raPart_any (m : Nat) (p : Nat → Option Nat) (rom : Int) (f : Nat → Int) (a : Nat) (n : Int) (N : Nat) (w : World) (h : Ra w m p rom f) (ha : a < 65536) (hN : (n < 0 ∧ N = 0) ∨ (0 ≤ n ∧ n ≤ 65536 ∧ n = N) ∨ (65536 < n ∧ N = 65536)) :
    Calls Try.prog 33 #[.pointer (some ⟨m, 0, none⟩), .int .u16 (a : Int), .int .i64 n] w (ReadsY w (lstF (partF f a) N)) := by
  have HR := Lib.hid h
  have hN2 : N ≤ 65536 := by omega
  have hmk : (Instr.makeSlice 22 (.int .i64 (min (max n 0) 65536)) (.int .i64 (min (max n 0) 65536))).run Try.prog w = .ok (.slice (some ⟨w.heap.size, 0, none⟩) N N) (w.alloc (.cells (rowF (fun _ => 0) N) 5)) := by
    rw [show min (max n 0) 65536 = (N : Int) by omega]; exact made_N w N hN2
  obtain ⟨g, hg⟩ : ∃ g, w.heap.size = g := ⟨_, rfl⟩
  have B0 : Hid (Blk (w.alloc (.cells (rowF (fun _ => 0) N) 5)) g 5 (rowF (fun _ => 0) N)) := Lib.hid (by rw [← hg]; exact Blk.new w _ _ _)
  have R0 := Lib.hid (h.alloc (.cells (rowF (fun _ => 0) N) 5))
  have W0 : Hid (Below w.heap.size w (w.alloc (.cells (rowF (fun _ => 0) N) 5))) := Lib.hid (Below.alloc0 (Below.refl _ _) _)
  rw [hg] at hmk
  have HG := Lib.hid hg
  have HOW := Lib.hid (fun e => by have := h.own_lt g e; omega : ¬ RS m p g)
  clear h hg hN
  go_enter Try.func33, Try.ntmps33
  go_wp2
  generalize w.alloc (.cells (rowF (fun _ => 0) N) 5) = w1 at B0 R0 W0 ⊢
  go_loopw [15] (fun i wr => ∃ k : Nat, k ≤ N ∧ i = .int .i64 k ∧ Hid (∃ q, Blk wr g 5 (rowF q N) ∧ ∀ j, j < k → q j = partF f a j) ∧ Hid (Ra wr m p rom f) ∧ Hid (Below w.heap.size w wr)) (fun i _ => N - (intOf i).toNat)
  case atStart => exact ⟨0, Nat.zero_le _, rfl, Lib.hid ⟨_, B0.out, fun j hj => absurd hj (by omega)⟩, R0, W0⟩
  case round =>
    obtain ⟨k, hk, rfl, HK, HRr, HW⟩ := hrel
    by_cases hlt : k < N
    · obtain ⟨q, hb, hq⟩ := HK.out
      have t0 : (0 : Int) ≤ k := by omega
      have t1 : (k : Int) < N := by omega
      have c1 : wr.cell? ⟨g, k, none⟩ = some (.int .u8 (q k)) := by rw [hb.cell, rowF_at q N k hlt]
      have f1 := hb.frozen k
      have HRD := Lib.hid (raRead_any m p rom f ((a + k) % 65536) wr HRr.out (by omega))
      have HQ := Lib.hid hq
      have HBK := Lib.hid hb
      have hz : ((((a + k) % 65536 : Nat)) : Int) = IntKind.u16.wrap ((a : Int) + (k : Int)) := by rw [show IntKind.u16.wrap ((a : Int) + (k : Int)) = ((a : Int) + (k : Int)) % 65536 from rfl]; omega
      rw [hz] at HRD
      generalize q k = y at c1
      clear hb hq hz
      go_wp2_with fail
      refine HRD.out.mono ?_
      rintro e w' ⟨rfl, d, rfl⟩
      have HX : Hid (f ((a + k) % 65536) = partF f a k) := Lib.hid rfl
      generalize f ((a + k) % 65536) = x at HX ⊢
      have B1 : Hid (∃ q, Blk ((wr.drewN d).setCell ⟨g, k, none⟩ (.int .u8 x)) g 5 (rowF q N) ∧ ∀ j, j < k + 1 → q j = partF f a j) := Lib.hid ⟨upd q k x, by rw [← rowF_set q N k x hlt]; exact (HBK.out.drewN d).set_ k _, fun j hj => by
        unfold upd
        split
        · rename_i e; rw [e]; exact HX.out
        · exact HQ.out j (by omega)⟩
      have R1 : Hid (Ra ((wr.drewN d).setCell ⟨g, k, none⟩ (.int .u8 x)) m p rom f) := Lib.hid ((HRr.out.drewN d).keep fun b hb => heap_setCell_other _ _ b _ (fun e => HOW.out (by have e2 : b = g := e; rw [← e2]; exact hb)))
      have W1 : Hid (Below w.heap.size w ((wr.drewN d).setCell ⟨g, k, none⟩ (.int .u8 x))) := Lib.hid (Below.set0 (Below.drewN0 HW.out d) (by rw [HG.out]; exact Nat.le_refl _) _)
      clear HRD HX HQ HBK HK
      go_wp2
      go_roundw
      case rel => exact ⟨k + 1, by omega, by go_num, B1, R1, W1⟩
      case measure => simp [intOf] <;> omega
    · obtain rfl : k = N := by omega
      go_wp2
      go_ret
      obtain ⟨q, hb, hq⟩ := HK.out
      refine ⟨_, rfl, ?_, HW.out⟩
      have := rdY_row hb k
      have e : lstF q k = lstF (partF f a) k := by
        unfold lstF
        apply List.map_congr_left
        intro j hj
        exact hq j (List.mem_range.1 hj)
      rwa [e] at this
end Go.Proofs.Ytnhafficnomlbaa
