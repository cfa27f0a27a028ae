/- Contracts of package frame's Of and Soft, and of the document's own (spinetref25). -/
import Derived.Test.YtfjkbjkbpbnalabDoorFrmN
import Derived.Deep.CutBlock
import Derived.Laws.Tables
import Derived.Laws.Rows
import Derived.Great.Walk
import Derived.Great.BuildSlice
import Derived.Deep.RegionHeld3
namespace Go.Proofs.YtfjkbjkbpbnalabDoor
open Go.ChangeShapes Go.WideShapes Go.ChangeAt Go.RowKit
set_option linter.unusedVariables false

theorem ne_beqF {o k : Int} (h : ¬ o = k) : (o == k) = false := by simpa using h
theorem ints_lit8 (w : World) (xs : List Int) (hx : ∀ x ∈ xs, (Lit.int .u8 x).wf = true) (n : Nat) (hn : xs.length = n) (cs : Array Value) (hcs : cs = (xs.map (Value.int .u8)).toArray) :
    Ints .u8 (w.alloc (.cells cs 5)) (w.heap.size + 1) (some ⟨w.heap.size, 0, none⟩) n xs := by
  subst hn hcs
  refine ⟨rfl, hx, fun _ => ⟨w.heap.size, 0, rfl, by omega, fun i hi => ?_⟩⟩
  have hb := (Blk.new w 5 (xs.map (Value.int .u8)).toArray (0, 0)).cell i
  rw [Nat.zero_add, hb, List.getElem?_toArray, List.getElem?_map, List.getElem?_eq_getElem hi, iat_eq _ _ hi, Option.map_some]
set_option maxRecDepth 100000 in
set_option maxHeartbeats 1000000 in
theorem pushes_any (cc : Int) (hcc : CC cc) (b : Bool) (v : Int) (A : Option Addr) (n c : Nat) (zs : List Int) (w : World) (h : Ints .u8 w w.heap.size A n zs) (hn : n ≤ 1099511627776) :
    Calls Tryd.prog 66 #[.int .u8 cc, .bool b, .int .u16 v, .slice A n c] w fun e w' => e = .returned (.agg #[.int .u8 (putRef cc 128 b), .int .u8 (withOf (putRef cc 128 b) true (orAll zs)), .int .u16 v, .bool b]) ∧ Below w.heap.size w w' := by
  have HI := Lib.hid ((h.alloc (Nat.le_refl _) (Obj.cells #[.int .u8 0, .int .u8 0, .int .u16 0, .bool false] 26)).alloc (by simp) (Obj.cells #[.int .u8 128] 5))
  have HN := Lib.hid hn
  have HG := Lib.hid (show (w.alloc (Obj.cells #[.int .u8 0, .int .u8 0, .int .u16 0, .bool false] 26)).heap.size = w.heap.size + 1 by simp)
  have HB := Lib.hid (Below.alloc0 (Below.alloc0 (Below.refl w.heap.size w) (Obj.cells #[.int .u8 (putRef cc 128 b), .int .u8 (withOf (putRef cc 128 b) true (orAll zs)), .int .u16 v, .bool b] 26)) (Obj.cells #[.int .u8 128] 5))
  clear h hn
  go_enter Tryd.func66, Tryd.ntmps66
  go_wp2_with fail
  refine (with_bit cc 128 b _ _ _ _ _ hcc bit128' (Ints.new1 HG.out (by decide)) (by decide)).mono ?_
  rintro e w1 ⟨rfl, rfl⟩
  go_wp2_with fail
  refine (with_any (putRef cc 128 b) true _ _ _ zs _ _ HI.out (by have := HN.out; omega)).mono ?_
  rintro e w1 ⟨rfl, rfl⟩
  go_wp2
  refine bodyPost_ret (v := .agg #[.int .u8 (putRef cc 128 b), .int .u8 (withOf (putRef cc 128 b) true (orAll zs)), .int .u16 v, .bool b]) (by simp [results, Tryd.results66, go_sem]) rfl ⟨rfl, HB.out⟩
set_option maxRecDepth 100000 in
set_option maxHeartbeats 1000000 in
theorem goes_any (cc : Int) (v : Int) (A : Option Addr) (n c : Nat) (zs : List Int) (w : World) (h : Ints .u8 w w.heap.size A n zs) (hn : n ≤ 1099511627776) :
    Calls Tryd.prog 67 #[.int .u8 cc, .int .u16 v, .slice A n c] w fun e w' => e = .returned (.agg #[.int .u8 0, .int .u8 (withOf cc true (orAll zs)), .int .u16 v, .bool false]) ∧ Below w.heap.size w w' := by
  have HI := Lib.hid (h.alloc (Nat.le_refl _) (Obj.cells #[.int .u8 0, .int .u8 0, .int .u16 0, .bool false] 26))
  have HN := Lib.hid hn
  clear h hn
  go_enter Tryd.func67, Tryd.ntmps67
  go_wp2_with fail
  refine (with_any cc true _ _ _ zs _ _ HI.out (by have := HN.out; omega)).mono ?_
  rintro e w1 ⟨rfl, rfl⟩
  go_wp2
  refine bodyPost_ret (v := .agg #[.int .u8 0, .int .u8 (withOf cc true (orAll zs)), .int .u16 v, .bool false]) (by simp [results, Tryd.results67, go_sem]) rfl ⟨rfl, Below.alloc0 (Below.refl _ _) _⟩
theorem ints_new8 (w : World) (Z : Obj) (xs : List Int) (hx : ∀ x ∈ xs, (Lit.int .u8 x).wf = true) (n : Nat) (hn : xs.length = n) (cs : Array Value) (hcs : cs = (xs.map (Value.int .u8)).toArray) :
    Ints .u8 ((w.alloc Z).alloc (.cells cs 5)) ((w.alloc Z).alloc (.cells cs 5)).heap.size (some ⟨w.heap.size + 1, 0, none⟩) n xs := by
  have e : ((w.alloc Z).alloc (.cells cs 5)).heap.size = (w.alloc Z).heap.size + 1 := by simp
  have e2 : (w.alloc Z).heap.size = w.heap.size + 1 := by simp
  have := ints_lit8 (w.alloc Z) xs hx n hn cs hcs
  rw [← e, e2] at this
  exact this
theorem below_rowF (w : World) (g B : Nat) (cs : Array Value) (hB : B ≤ g) : Below B w (w.setRow g cs) := ⟨rfl, rfl, rfl, by simp, fun k hk => setRow_other w g k cs (by omega)⟩
abbrev zE : Array Value := #[.int .u8 0, .int .u8 0, .int .u16 0, .bool false]
abbrev enV (p t v : Int) (b : Bool) : Array Value := #[.int .u8 p, .int .u8 t, .int .u16 v, .bool b]
theorem pushes_at (cc : Int) (hcc : CC cc) (b : Bool) (v : Int) (xs : List Int) (hx : ∀ x ∈ xs, (Lit.int .u8 x).wf = true) (n : Nat) (hn : xs.length = n) (h40 : n ≤ 1099511627776) (cs : Array Value) (hcs : cs = (xs.map (Value.int .u8)).toArray) (w : World) :
    Calls Tryd.prog 66 #[.int .u8 cc, .bool b, .int .u16 v, .slice (some ⟨w.heap.size + 1, 0, none⟩) n n] ((w.alloc (.cells zE 26)).alloc (.cells cs 5)) fun e w1 => e = .returned (.agg (enV (putRef cc 128 b) (withOf (putRef cc 128 b) true (orAll xs)) v b)) ∧ Blk w1 w.heap.size 26 zE ∧ Below w.heap.size w w1 := by
  refine (pushes_any cc hcc b v _ n n xs _ (ints_new8 w _ xs hx n hn cs hcs) h40).mono ?_
  rintro e w1 ⟨rfl, hb⟩
  exact ⟨rfl, Blk.below (Blk.alloc (Blk.new w _ zE (0, 0)) _) hb (by simp; omega), (Below.alloc0 (Below.alloc0 (Below.refl w.heap.size w) _) _).trans (hb.mono (by simp; omega))⟩
theorem pushes_nil (cc : Int) (hcc : CC cc) (b : Bool) (v : Int) (w : World) :
    Calls Tryd.prog 66 #[.int .u8 cc, .bool b, .int .u16 v, .slice none 0 0] (w.alloc (.cells zE 26)) fun e w1 => e = .returned (.agg (enV (putRef cc 128 b) (withOf (putRef cc 128 b) true (orAll [])) v b)) ∧ Blk w1 w.heap.size 26 zE ∧ Below w.heap.size w w1 := by
  refine (pushes_any cc hcc b v _ 0 0 [] _ (Ints.nil_ _ _ _ _) (by decide)).mono ?_
  rintro e w1 ⟨rfl, hb⟩
  exact ⟨rfl, Blk.below (Blk.new w _ zE (0, 0)) hb (by simp), (Below.alloc0 (Below.refl w.heap.size w) _).trans (hb.mono (by simp))⟩
theorem goes_at (cc : Int) (v : Int) (xs : List Int) (hx : ∀ x ∈ xs, (Lit.int .u8 x).wf = true) (n : Nat) (hn : xs.length = n) (h40 : n ≤ 1099511627776) (cs : Array Value) (hcs : cs = (xs.map (Value.int .u8)).toArray) (w : World) :
    Calls Tryd.prog 67 #[.int .u8 cc, .int .u16 v, .slice (some ⟨w.heap.size + 1, 0, none⟩) n n] ((w.alloc (.cells zE 26)).alloc (.cells cs 5)) fun e w1 => e = .returned (.agg (enV 0 (withOf cc true (orAll xs)) v false)) ∧ Blk w1 w.heap.size 26 zE ∧ Below w.heap.size w w1 := by
  refine (goes_any cc v _ n n xs _ (ints_new8 w _ xs hx n hn cs hcs) h40).mono ?_
  rintro e w1 ⟨rfl, hb⟩
  exact ⟨rfl, Blk.below (Blk.alloc (Blk.new w _ zE (0, 0)) _) hb (by simp; omega), (Below.alloc0 (Below.alloc0 (Below.refl w.heap.size w) _) _).trans (hb.mono (by simp; omega))⟩
theorem resOf (tmps : Array Value) (W : World) (g : Nat) (cs old : Array Value) (h : Blk W g 26 old) (hs : old.size = 4) (hc : cs.size = 4) (h2 : tmps.getD 4 undef = .pointer (some ⟨g, 0, none⟩)) (b : Bool) (h3 : tmps.getD 5 undef = .bool b) :
    (results Tryd.f43 tmps).run Tryd.prog (W.setRow g cs) = .ok (.tuple #[.agg cs, .bool b]) (W.setRow g cs) := by
  have hi : (Tryd.prog.info? 26).map (·.size) = some cs.size := by rw [hc]; kernel_rfl
  have hld := run_loadVar_row (P := Tryd.prog) (W.setRow g cs) g 26 26 cs (0, 0) _ (setRow_heap W g old cs _ (0, 0) h) Tryd.underlying26 rfl hi
  have h2' : tmps[4]?.getD undef = .pointer (some ⟨g, 0, none⟩) := by simpa using h2
  have h3' : tmps[5]?.getD undef = .bool b := by simpa using h3
  simp [results, Tryd.results43, h2', h3', asAddr, hld]
set_option maxRecDepth 100000 in
set_option maxHeartbeats 1000000 in
theorem frameOf_any (k cc : Int) (hcc : CC cc) (w : World) :
    Calls Tryd.prog 43 #[.int .i64 k, .int .u8 cc] w fun e w' => e = .returned (.tuple #[.agg (enC (enO k cc)), .bool (enO k cc).2.2.2.2]) ∧ Below w.heap.size w w' := by
  rcases (show k = 1 ∨ k = 2 ∨ k = 3 ∨ k = 4 ∨ k = 5 ∨ k = 6 ∨ k = 7 ∨ (k < 1 ∨ 7 < k) by omega) with rfl | rfl | rfl | rfl | rfl | rfl | rfl | hk
  · have C := pushes_at cc hcc true 65532 [64, 16] (by decide) 2 rfl (by decide) #[.int .u8 64, .int .u8 16] rfl w
    rw [with_FI (hcc.put 128 true)] at C
    have C := Lib.hid C
    go_enter Tryd.func43, Tryd.ntmps43
    go_wp2_with fail
    refine C.out.mono ?_
    rintro e w1 ⟨rfl, hz, hb⟩
    dsimp only
    rename_i hk
    refine hk _ _ ?_
    clear hk
    refine wpList_store_rowTo rfl 26 _ _ rfl rfl w.heap.size (enV (putRef cc 128 true) (tFI (putRef cc 128 true)) 65532 true) rfl rfl 26 zE hz (by kernel_rfl) rfl (by simp [Value.oneCell']) ?_
    have HZ := Lib.hid hz
    have HB := Lib.hid hb
    clear hz hb
    go_wp2
    refine bodyPost_ret (v := .tuple #[.agg (enV (putRef cc 128 true) (tFI (putRef cc 128 true)) 65532 true), .bool true]) (resOf _ w1 w.heap.size _ zE HZ.out rfl rfl rfl true rfl) rfl ⟨rfl, HB.out.trans (below_rowF w1 _ _ _ (Nat.le_refl _))⟩
  · have C := pushes_at cc hcc false 65526 [64, 16] (by decide) 2 rfl (by decide) #[.int .u8 64, .int .u8 16] rfl w
    rw [with_FI (hcc.put 128 false)] at C
    have C := Lib.hid C
    go_enter Tryd.func43, Tryd.ntmps43
    go_wp2_with fail
    refine C.out.mono ?_
    rintro e w1 ⟨rfl, hz, hb⟩
    dsimp only
    rename_i hk
    refine hk _ _ ?_
    clear hk
    refine wpList_store_rowTo rfl 26 _ _ rfl rfl w.heap.size (enV (putRef cc 128 false) (tFI (putRef cc 128 false)) 65526 false) rfl rfl 26 zE hz (by kernel_rfl) rfl (by simp [Value.oneCell']) ?_
    have HZ := Lib.hid hz
    have HB := Lib.hid hb
    clear hz hb
    go_wp2
    refine bodyPost_ret (v := .tuple #[.agg (enV (putRef cc 128 false) (tFI (putRef cc 128 false)) 65526 false), .bool true]) (resOf _ w1 w.heap.size _ zE HZ.out rfl rfl rfl true rfl) rfl ⟨rfl, HB.out.trans (below_rowF w1 _ _ _ (Nat.le_refl _))⟩
  · have C := pushes_at cc hcc true 65528 [16] (by decide) 1 rfl (by decide) #[.int .u8 16] rfl w
    rw [with_I (hcc.put 128 true)] at C
    have C := Lib.hid C
    go_enter Tryd.func43, Tryd.ntmps43
    go_wp2_with fail
    refine C.out.mono ?_
    rintro e w1 ⟨rfl, hz, hb⟩
    dsimp only
    rename_i hk
    refine hk _ _ ?_
    clear hk
    refine wpList_store_rowTo rfl 26 _ _ rfl rfl w.heap.size (enV (putRef cc 128 true) (tI (putRef cc 128 true)) 65528 true) rfl rfl 26 zE hz (by kernel_rfl) rfl (by simp [Value.oneCell']) ?_
    have HZ := Lib.hid hz
    have HB := Lib.hid hb
    clear hz hb
    go_wp2
    refine bodyPost_ret (v := .tuple #[.agg (enV (putRef cc 128 true) (tI (putRef cc 128 true)) 65528 true), .bool true]) (resOf _ w1 w.heap.size _ zE HZ.out rfl rfl rfl true rfl) rfl ⟨rfl, HB.out.trans (below_rowF w1 _ _ _ (Nat.le_refl _))⟩
  · have C := goes_at cc 65534 [64, 16] (by decide) 2 rfl (by decide) #[.int .u8 64, .int .u8 16] rfl w
    rw [with_FI hcc] at C
    have C := Lib.hid C
    go_enter Tryd.func43, Tryd.ntmps43
    go_wp2_with fail
    refine C.out.mono ?_
    rintro e w1 ⟨rfl, hz, hb⟩
    dsimp only
    rename_i hk
    refine hk _ _ ?_
    clear hk
    refine wpList_store_rowTo rfl 26 _ _ rfl rfl w.heap.size (enV 0 (tFI cc) 65534 false) rfl rfl 26 zE hz (by kernel_rfl) rfl (by simp [Value.oneCell']) ?_
    have HZ := Lib.hid hz
    have HB := Lib.hid hb
    clear hz hb
    go_wp2
    refine bodyPost_ret (v := .tuple #[.agg (enV 0 (tFI cc) 65534 false), .bool true]) (resOf _ w1 w.heap.size _ zE HZ.out rfl rfl rfl true rfl) rfl ⟨rfl, HB.out.trans (below_rowF w1 _ _ _ (Nat.le_refl _))⟩
  · have C := goes_at cc 65532 [64, 16] (by decide) 2 rfl (by decide) #[.int .u8 64, .int .u8 16] rfl w
    rw [with_FI hcc] at C
    have C := Lib.hid C
    go_enter Tryd.func43, Tryd.ntmps43
    go_wp2_with fail
    refine C.out.mono ?_
    rintro e w1 ⟨rfl, hz, hb⟩
    dsimp only
    rename_i hk
    refine hk _ _ ?_
    clear hk
    refine wpList_store_rowTo rfl 26 _ _ rfl rfl w.heap.size (enV 0 (tFI cc) 65532 false) rfl rfl 26 zE hz (by kernel_rfl) rfl (by simp [Value.oneCell']) ?_
    have HZ := Lib.hid hz
    have HB := Lib.hid hb
    clear hz hb
    go_wp2
    refine bodyPost_ret (v := .tuple #[.agg (enV 0 (tFI cc) 65532 false), .bool true]) (resOf _ w1 w.heap.size _ zE HZ.out rfl rfl rfl true rfl) rfl ⟨rfl, HB.out.trans (below_rowF w1 _ _ _ (Nat.le_refl _))⟩
  · have C := goes_at cc 65526 [64, 16] (by decide) 2 rfl (by decide) #[.int .u8 64, .int .u8 16] rfl w
    rw [with_FI hcc] at C
    have C := Lib.hid C
    go_enter Tryd.func43, Tryd.ntmps43
    go_wp2_with fail
    refine C.out.mono ?_
    rintro e w1 ⟨rfl, hz, hb⟩
    dsimp only
    rename_i hk
    refine hk _ _ ?_
    clear hk
    refine wpList_store_rowTo rfl 26 _ _ rfl rfl w.heap.size (enV 0 (tFI cc) 65526 false) rfl rfl 26 zE hz (by kernel_rfl) rfl (by simp [Value.oneCell']) ?_
    have HZ := Lib.hid hz
    have HB := Lib.hid hb
    clear hz hb
    go_wp2
    refine bodyPost_ret (v := .tuple #[.agg (enV 0 (tFI cc) 65526 false), .bool true]) (resOf _ w1 w.heap.size _ zE HZ.out rfl rfl rfl true rfl) rfl ⟨rfl, HB.out.trans (below_rowF w1 _ _ _ (Nat.le_refl _))⟩
  · have C := goes_at cc 65528 [16] (by decide) 1 rfl (by decide) #[.int .u8 16] rfl w
    rw [with_I hcc] at C
    have C := Lib.hid C
    go_enter Tryd.func43, Tryd.ntmps43
    go_wp2_with fail
    refine C.out.mono ?_
    rintro e w1 ⟨rfl, hz, hb⟩
    dsimp only
    rename_i hk
    refine hk _ _ ?_
    clear hk
    refine wpList_store_rowTo rfl 26 _ _ rfl rfl w.heap.size (enV 0 (tI cc) 65528 false) rfl rfl 26 zE hz (by kernel_rfl) rfl (by simp [Value.oneCell']) ?_
    have HZ := Lib.hid hz
    have HB := Lib.hid hb
    clear hz hb
    go_wp2
    refine bodyPost_ret (v := .tuple #[.agg (enV 0 (tI cc) 65528 false), .bool true]) (resOf _ w1 w.heap.size _ zE HZ.out rfl rfl rfl true rfl) rfl ⟨rfl, HB.out.trans (below_rowF w1 _ _ _ (Nat.le_refl _))⟩
  · have hz : enO k cc = noE := by unfold enO; rw [if_neg (by omega)]
    rw [hz]
    have e1 : (k == 1) = false := ne_beqF (by omega)
    have e2 : (k == 2) = false := ne_beqF (by omega)
    have e3 : (k == 3) = false := ne_beqF (by omega)
    have e4 : (k == 4) = false := ne_beqF (by omega)
    have e5 : (k == 5) = false := ne_beqF (by omega)
    have e6 : (k == 6) = false := ne_beqF (by omega)
    have e7 : (k == 7) = false := ne_beqF (by omega)
    clear hz hk
    go_enter Tryd.func43, Tryd.ntmps43
    go_wp2
    refine bodyPost_ret (v := .tuple #[.agg zE, .bool false]) (by simp [results, Tryd.results43, go_sem]) rfl ⟨rfl, by repeat (first | exact Below.refl _ _ | apply Below.alloc0)⟩
end Go.Proofs.YtfjkbjkbpbnalabDoor
