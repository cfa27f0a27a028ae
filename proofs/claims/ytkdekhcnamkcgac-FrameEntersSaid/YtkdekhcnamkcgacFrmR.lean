/- Contracts of the document's own interrupts (spinetref25); the law FrameEnters. -/
import Derived.Test.YtkdekhcnamkcgacFrm
import Derived.Test.YtkdekhcnamkcgacFlgRef
namespace Go.Proofs.Ytkdekhcnamkcgac
open Go.ChangeShapes Go.WideShapes Go.ChangeAt Go.RowKit
set_option linter.unusedVariables false

theorem Blk.newF (w : World) (o : Obj) (t : TypeId) (cs : Array Value) : Blk ((w.alloc o).alloc (.cells cs t)) (w.heap.size + 1) t cs := by
  have e : (w.alloc o).heap.size = w.heap.size + 1 := by simp
  have := Blk.new (w.alloc o) t cs (0, 0)
  rw [e] at this
  exact this
theorem Blk.row {w : World} {g : Nat} {t : TypeId} {old cs : Array Value} (h : Blk w g t old) : Blk (w.setRow g cs) g t cs := setRow_heap w g old cs _ (0, 0) h
theorem Blk.rowFar {w : World} {g g' : Nat} {t : TypeId} {cs cs' : Array Value} (h : Blk w g t cs) (hg : g ≠ g') : Blk (w.setRow g' cs') g t cs := (setRow_other w g' g cs' hg).trans h
theorem Blk.c4 {w : World} {g : Nat} {t : TypeId} {v0 v1 v2 v3 : Value} (h : Blk w g t #[v0, v1, v2, v3]) : w.cell? ⟨g, 0, none⟩ = some v0 ∧ w.cell? ⟨g, 1, none⟩ = some v1 ∧ w.cell? ⟨g, 2, none⟩ = some v2 ∧ w.cell? ⟨g, 3, none⟩ = some v3 := by
  refine ⟨?_, ?_, ?_, ?_⟩ <;> (rw [h.cell]; rfl)
abbrev w4set (w : World) (g : Nat) (v0 v1 v2 v3 : Value) : World := (((w.setCell ⟨g, 0, none⟩ v0).setCell ⟨g, 1, none⟩ v1).setCell ⟨g, 2, none⟩ v2).setCell ⟨g, 3, none⟩ v3
theorem Blk.set4 {w : World} {g : Nat} {t : TypeId} {u0 u1 u2 u3 : Value} (h : Blk w g t #[u0, u1, u2, u3]) (v0 v1 v2 v3 : Value) : Blk (w4set w g v0 v1 v2 v3) g t #[v0, v1, v2, v3] := by
  have := (((h.set_ 0 v0).set_ 1 v1).set_ 2 v2).set_ 3 v3
  simpa using this
theorem Blk.far4 {w : World} {g g' : Nat} {t : TypeId} {cs : Array Value} (h : Blk w g t cs) (hg : g ≠ g') (v0 v1 v2 v3 : Value) : Blk (w4set w g' v0 v1 v2 v3) g t cs :=
  (((h.far (p := ⟨g', 0, none⟩) hg v0).far (p := ⟨g', 1, none⟩) hg v1).far (p := ⟨g', 2, none⟩) hg v2).far (p := ⟨g', 3, none⟩) hg v3
theorem Below.set4 {w w' : World} {B g : Nat} (h : Below B w w') (hg : B ≤ g) (v0 v1 v2 v3 : Value) : Below B w (w4set w' g v0 v1 v2 v3) :=
  (((h.setCell (p := ⟨g, 0, none⟩) hg v0).setCell (p := ⟨g, 1, none⟩) hg v1).setCell (p := ⟨g, 2, none⟩) hg v2).setCell (p := ⟨g, 3, none⟩) hg v3
theorem size_w4 (w : World) (g : Nat) (v0 v1 v2 v3 : Value) : (w4set w g v0 v1 v2 v3).heap.size = w.heap.size := by simp [w4set]
def onR (cc e : Int) (f i : Bool) : Int :=
  (fun c1 => (fun c2 => if i then putRef c2 16 true else c2) (if f then putRef c1 64 true else c1)) (if e < 2 then putRef cc 128 (e == 1) else cc)
set_option maxRecDepth 100000 in
set_option maxHeartbeats 1000000 in
theorem on_any (cc e : Int) (f i : Bool) (hcc : CC cc) (he : e = 0 ∨ e = 1 ∨ e = 2) (w : World) :
    Calls Try.prog 60 #[.int .u8 cc, .int .i64 e, .bool f, .bool i] w fun x w' => x = .returned (.int .u8 (onR cc e f i)) ∧ w = w' := by
  rcases he with rfl | rfl | rfl <;> cases f <;> cases i
  all_goals
    go_enter Try.func60, Try.ntmps60
    go_wp2_with (go_at_call 77; refine (putRef_cc _ _ _ _ (by first | exact hcc | exact hcc.put _ _ | exact (hcc.put _ _).put _ _) (by first | exact bit16' | exact bit64' | exact bit128')).mono ?_; rintro e w' ⟨rfl, rfl⟩)
    go_ret
    exact ⟨rfl, rfl⟩
set_option maxRecDepth 100000 in
set_option maxHeartbeats 2000000 in
theorem refOf25_any (k cc : Int) (hcc : CC cc) (hk : (1 ≤ k ∧ k ≤ 7) ∨ (11 ≤ k ∧ k ≤ 13)) (w : World) :
    Calls Try.prog 15 #[.int .i64 k, .int .u8 cc] w fun e w' => e = .returned (.tuple #[.agg (enC (enT k cc)), .bool (enT k cc).2.2.2.2]) ∧ Below w.heap.size w w' := by
  rcases (show k = 1 ∨ k = 2 ∨ k = 3 ∨ k = 4 ∨ k = 5 ∨ k = 6 ∨ k = 7 ∨ k = 11 ∨ k = 12 ∨ k = 13 by omega) with rfl | rfl | rfl | rfl | rfl | rfl | rfl | rfl | rfl | rfl
  · go_enter Try.func15, Try.ntmps15
    go_wp2_with (go_at_call 60; refine (on_any _ _ _ _ hcc (by omega) _).mono ?_; rintro e w' ⟨rfl, rfl⟩)
    refine bodyPost_ret (v := .tuple #[.agg #[.int .u8 (onR cc 1 false false), .int .u8 (onR cc 1 true true), .int .u16 65532, .bool true], .bool true]) (by simp [results, Try.results15, go_sem]) rfl ⟨by simp [enC, enT, onR, tFI], Below.alloc0 (Below.refl _ _) _⟩
  · go_enter Try.func15, Try.ntmps15
    go_wp2_with (go_at_call 60; refine (on_any _ _ _ _ hcc (by omega) _).mono ?_; rintro e w' ⟨rfl, rfl⟩)
    refine bodyPost_ret (v := .tuple #[.agg #[.int .u8 (onR cc 0 false false), .int .u8 (onR cc 0 true true), .int .u16 65526, .bool false], .bool true]) (by simp [results, Try.results15, go_sem]) rfl ⟨by simp [enC, enT, onR, tFI], Below.alloc0 (Below.refl _ _) _⟩
  · go_enter Try.func15, Try.ntmps15
    go_wp2_with (go_at_call 60; refine (on_any _ _ _ _ hcc (by omega) _).mono ?_; rintro e w' ⟨rfl, rfl⟩)
    refine bodyPost_ret (v := .tuple #[.agg #[.int .u8 (onR cc 1 false false), .int .u8 (onR cc 1 false true), .int .u16 65528, .bool true], .bool true]) (by simp [results, Try.results15, go_sem]) rfl ⟨by simp [enC, enT, onR, tI], Below.alloc0 (Below.refl _ _) _⟩
  · go_enter Try.func15, Try.ntmps15
    go_wp2_with (go_at_call 60; refine (on_any _ _ _ _ hcc (by omega) _).mono ?_; rintro e w' ⟨rfl, rfl⟩)
    refine bodyPost_ret (v := .tuple #[.agg #[.int .u8 0, .int .u8 (onR cc 2 true true), .int .u16 65534, .bool false], .bool true]) (by simp [results, Try.results15, go_sem]) rfl ⟨by simp [enC, enT, onR, tFI], Below.alloc0 (Below.refl _ _) _⟩
  · go_enter Try.func15, Try.ntmps15
    go_wp2_with (go_at_call 60; refine (on_any _ _ _ _ hcc (by omega) _).mono ?_; rintro e w' ⟨rfl, rfl⟩)
    refine bodyPost_ret (v := .tuple #[.agg #[.int .u8 0, .int .u8 (onR cc 2 true true), .int .u16 65532, .bool false], .bool true]) (by simp [results, Try.results15, go_sem]) rfl ⟨by simp [enC, enT, onR, tFI], Below.alloc0 (Below.refl _ _) _⟩
  · go_enter Try.func15, Try.ntmps15
    go_wp2_with (go_at_call 60; refine (on_any _ _ _ _ hcc (by omega) _).mono ?_; rintro e w' ⟨rfl, rfl⟩)
    refine bodyPost_ret (v := .tuple #[.agg #[.int .u8 0, .int .u8 (onR cc 2 true true), .int .u16 65526, .bool false], .bool true]) (by simp [results, Try.results15, go_sem]) rfl ⟨by simp [enC, enT, onR, tFI], Below.alloc0 (Below.refl _ _) _⟩
  · go_enter Try.func15, Try.ntmps15
    go_wp2_with (go_at_call 60; refine (on_any _ _ _ _ hcc (by omega) _).mono ?_; rintro e w' ⟨rfl, rfl⟩)
    refine bodyPost_ret (v := .tuple #[.agg #[.int .u8 0, .int .u8 (onR cc 2 false true), .int .u16 65528, .bool false], .bool true]) (by simp [results, Try.results15, go_sem]) rfl ⟨by simp [enC, enT, onR, tI], Below.alloc0 (Below.refl _ _) _⟩
  · go_enter Try.func15, Try.ntmps15
    go_wp2_with (go_at_call 60; refine (on_any _ _ _ _ hcc (by omega) _).mono ?_; rintro e w' ⟨rfl, rfl⟩)
    refine bodyPost_ret (v := .tuple #[.agg #[.int .u8 (onR cc 1 false false), .int .u8 (onR cc 1 true true), .int .u16 65530, .bool true], .bool true]) (by simp [results, Try.results15, go_sem]) rfl ⟨by simp [enC, enT, onR, tFI], Below.alloc0 (Below.refl _ _) _⟩
  · go_enter Try.func15, Try.ntmps15
    go_wp2_with (go_at_call 60; refine (on_any _ _ _ _ hcc (by omega) _).mono ?_; rintro e w' ⟨rfl, rfl⟩)
    refine bodyPost_ret (v := .tuple #[.agg #[.int .u8 (onR cc 1 false false), .int .u8 (onR cc 1 false false), .int .u16 65524, .bool true], .bool true]) (by simp [results, Try.results15, go_sem]) rfl ⟨by simp [enC, enT, onR], Below.alloc0 (Below.refl _ _) _⟩
  · go_enter Try.func15, Try.ntmps15
    go_wp2_with (go_at_call 60; refine (on_any _ _ _ _ hcc (by omega) _).mono ?_; rintro e w' ⟨rfl, rfl⟩)
    refine bodyPost_ret (v := .tuple #[.agg #[.int .u8 (onR cc 1 false false), .int .u8 (onR cc 1 false false), .int .u16 65522, .bool true], .bool true]) (by simp [results, Try.results15, go_sem]) rfl ⟨by simp [enC, enT, onR], Below.alloc0 (Below.refl _ _) _⟩
set_option maxRecDepth 100000 in
theorem same25_any (p t v : Int) (b o : Bool) (w : World) :
    Calls Try.prog 16 #[.agg (enV p t v b), .bool o, .agg (enV p t v b), .bool o] w fun e w' => e = .returned (.bool true) ∧ Below w.heap.size w w' := by
  have e1 : (p == p) = true := by simp
  have e2 : (t == t) = true := by simp
  have e3 : (v == v) = true := by simp
  have e4 : (b == b) = true := by simp
  have e5 : (o == o) = true := by simp
  go_enter Try.func16, Try.ntmps16
  go_wp2
  go_ret
  exact ⟨rfl, by repeat (first | exact Below.refl _ _ | apply Below.alloc0)⟩
set_option maxRecDepth 100000 in
set_option maxHeartbeats 1000000 in
theorem alive25 (w : World) : Calls Try.prog 17 #[] w fun e w' => e = .returned (.bool true) ∧ Below w.heap.size w w' := by
  have C := frameOf_any 3 0 (CC.mk' (by omega) (by omega)) w
  rw [show enO 3 0 = (128, 144, 65528, true, true) by decide +kernel] at C
  have C := Lib.hid C
  go_enter Try.func17, Try.ntmps17
  go_wp2_with fail
  refine C.out.mono ?_
  rintro e w1 ⟨rfl, hb⟩
  have HB := Lib.hid hb
  clear hb
  unfold enC
  simp only
  go_wp2
  go_ret
  exact ⟨rfl, Below.alloc0 HB.out _⟩
end Go.Proofs.Ytkdekhcnamkcgac
