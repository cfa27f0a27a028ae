/- Memory of package ram: Page, page. -/
import Derived.Test.YtnhafficnomlbaaRamP
import Derived.Great.BuildSlice
import Derived.Deep.MidRow
namespace Go.Proofs.Ytnhafficnomlbaa
open Go.ChangeShapes Go.WideShapes Go.ChangeAt Go.RowKit
set_option linter.unusedVariables false

theorem raPage_no (m : Nat) (n : Int) (w : World) (hn : n < 0 ∨ 256 ≤ n) :
    Calls Try.prog 47 #[.pointer (some ⟨m, 0, none⟩), .int .i64 n] w fun e w' => e = .returned (.slice none 0 0) ∧ w = w' := by
  by_cases h0 : n < 0
  · have d0 := decide_eq_true h0
    go_enter Try.func47, Try.ntmps47
    go_wp2
    go_ret
    exact ⟨rfl, rfl⟩
  · have h1 : 256 ≤ n := by omega
    have d0 := decide_eq_false h0
    have d1 := decide_eq_true h1
    go_enter Try.func47, Try.ntmps47
    go_wp2
    go_ret
    exact ⟨rfl, rfl⟩
theorem raPage_any (m : Nat) (p : Nat → Option Nat) (rom : Int) (f : Nat → Int) (n : Nat) (w : World) (h : Ra w m p rom f) (hn : n < 256) :
    Calls Try.prog 47 #[.pointer (some ⟨m, 0, none⟩), .int .i64 (n : Int)] w (ReadsY w (lstF (partF f (256 * n)) 256)) := by
  have HP := Lib.hid (raPart_any m p rom f (256 * n) 256 256 w h (by omega) (by omega))
  have h0 : ¬ (n : Int) < 0 := by omega
  have h1 : ¬ (256 ≤ (n : Int)) := by omega
  have d0 := decide_eq_false h0
  have d1 := decide_eq_false h1
  have hw : IntKind.i64.wrap ((n : Int) * 256) = (n : Int) * 256 := IntWalk.i64_in _ (by omega)
  have hz : (((256 * n : Nat)) : Int) = (n : Int) * 256 := by omega
  rw [hz] at HP
  clear h hz
  go_enter Try.func47, Try.ntmps47
  go_wp2_with fail
  refine HP.out.mono ?_
  rintro e w' ⟨v, rfl, hr, hb⟩
  have HR := Lib.hid hr
  have HB := Lib.hid hb
  clear hr hb HP
  go_wp2
  go_ret
  exact ⟨v, rfl, HR.out, HB.out⟩
theorem pgCs_size (f : Nat → Int) (i : Nat) : (pgCs f i).size = 256 := by
  unfold pgCs; rw [List.size_toArray, List.length_map, List.length_range]
theorem pgCs_one (f : Nat → Int) (i : Nat) : (pgCs f i).all (·.oneCell') = true := by
  rw [Array.all_eq_true]
  intro k hk
  have h := pgCs_at f i k (by rw [pgCs_size] at hk; exact hk)
  rw [Array.getElem?_eq_getElem hk] at h
  rw [Option.some.inj h]
  rfl
def AggPost (w : World) (cs : Array Value) (e : Ending) (w' : World) : Prop := e = .returned (.agg cs) ∧ Below w.heap.size w w'
set_option maxRecDepth 100000 in
set_option maxHeartbeats 2000000 in
theorem raPg_any (m : Nat) (p : Nat → Option Nat) (rom : Int) (f : Nat → Int) (i : Nat) (w : World) (h : Ra w m p rom f) (hi : i < 256) :
    Calls Try.prog 45 #[.pointer (some ⟨m, 0, none⟩), .int .i64 (i : Int)] w (AggPost w (pgCs f i)) := by
  have i0 : (0 : Int) ≤ (i : Int) := by omega
  have i1 : (i : Int) < 256 := by omega
  have R1 := Lib.hid (h.alloc (.cells (Array.replicate 256 (.int .u8 0)) 73))
  have N1 : Hid (Blk (w.alloc (.cells (Array.replicate 256 (.int .u8 0)) 73)) w.heap.size 73 (Array.replicate 256 (.int .u8 0))) := Lib.hid (Blk.new w _ _ _)
  have W1 : Hid (Below w.heap.size w (w.alloc (.cells (Array.replicate 256 (.int .u8 0)) 73))) := Lib.hid (Below.alloc0 (Below.refl _ _) _)
  have H0 := Lib.hid h
  obtain ⟨g0, hg0⟩ : ∃ g0, w.heap.size = g0 := ⟨_, rfl⟩
  have HG := Lib.hid hg0
  rw [hg0] at N1
  clear h
  go_enter Try.func45, Try.ntmps45
  go_upto_region 0 with (fail)
  refine wp_region_lit ?_
  refine Great.wpList_allocTo rfl (some 4) rfl (.pointer (some ⟨g0, 0, none⟩)) (.cells (Array.replicate 256 (.int .u8 0)) 73) (by rw [← HG.out]; kernel_rfl) ?_
  generalize w.alloc (.cells (Array.replicate 256 (.int .u8 0)) 73) = w1 at R1 N1 W1 ⊢
  have c0 := R1.out.ptr i hi
  clear hg0
  cases hp : p i with
  | none =>
    rw [hp] at c0
    simp only [ptrTo, Option.map_none] at c0
    have HZ := Lib.hid (H0.out.empty i hi hp)
    clear hp
    go_upto_region 4 with (fail)
    refine wp_region_lit ?_
    refine Great.wpList_readTo rfl (some 17) rfl (.agg (Array.replicate 256 (.int .u8 0))) (by kernel_rfl) ?_
    refine wpList_store_rowTo rfl 73 _ _ rfl rfl g0 (Array.replicate 256 (.int .u8 0)) rfl rfl 73 _ N1.out (by kernel_rfl) rfl (by kernel_rfl) ?_
    have N2 := Lib.hid (Blk.row N1.out (Array.replicate 256 (.int .u8 0)))
    have W2 := Lib.hid (below_row' W1.out g0 (Array.replicate 256 (.int .u8 0)) (by rw [HG.out]; exact Nat.le_refl _))
    generalize w1.setRow g0 (Array.replicate 256 (.int .u8 0)) = w2 at N2 W2 ⊢
    rw [← pgCs_zero f i HZ.out] at N2
    go_wp2
    refine bodyPost_ret (v := .agg (pgCs f i)) (results_cell_row Try.results45 _ _ g0 73 (pgCs f i) (0, 0) _ rfl N2.out Try.underlying73 rfl (by rw [pgCs_size]; kernel_rfl)) rfl ⟨rfl, W2.out⟩
  | some g =>
    rw [hp] at c0
    simp only [ptrTo, Option.map_some] at c0
    have HB := Lib.hid (R1.out.page i g hi hp).2
    have HS := Lib.hid (pgCs_size f i)
    have HO := Lib.hid (pgCs_one f i)
    clear hp R1 H0
    obtain ⟨cs, hcs⟩ : ∃ cs, pgCs f i = cs := ⟨_, rfl⟩
    rw [hcs] at HB HS HO
    have HCS := Lib.hid hcs
    clear hcs
    go_upto_region 3 with (fail)
    refine wp_region_lit ?_
    refine Great.wpList_readTo rfl (some 14) rfl (.pointer (some ⟨g, 0, none⟩)) (by rfl) ?_
    refine Great.wpList_readTo rfl (some 15) rfl (.pointer (some ⟨g, 0, none⟩)) (by rfl) ?_
    refine wpList_load_row rfl 73 _ rfl g rfl 73 cs (0, 0) _ HB.out Try.underlying73 rfl (by rw [HS.out]; kernel_rfl) ?_
    refine wpList_store_rowTo rfl 73 _ _ rfl rfl g0 cs rfl rfl 73 _ N1.out (by rw [HS.out]; kernel_rfl) (by rw [HS.out]; rfl) HO.out ?_
    have N2 := Lib.hid (Blk.row N1.out cs)
    have W2 := Lib.hid (below_row' W1.out g0 cs (by rw [HG.out]; exact Nat.le_refl _))
    generalize w1.setRow g0 cs = w2 at N2 W2 ⊢
    go_wp2
    refine bodyPost_ret (v := .agg cs) (results_cell_row Try.results45 _ _ g0 73 cs (0, 0) _ rfl N2.out Try.underlying73 rfl (by rw [HS.out]; kernel_rfl)) rfl ⟨by rw [HCS.out], W2.out⟩
end Go.Proofs.Ytnhafficnomlbaa
