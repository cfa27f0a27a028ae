/- Contracts: a byte of a register, registers with another one there (package lists; the document's own). -/
import Derived.Test.YtfjkbjkbpbnalabDoorLstO
import Derived.Test.YtfjkbjkbpbnalabDoorFilS
import Derived.Test.YtfjkbjkbpbnalabDoorFilG
import Derived.Deep.CutBlock
import Derived.Laws.Tables
import Derived.Laws.Rows
import Derived.Great.Walk
import Derived.Great.BuildSlice
import Derived.Deep.RegionHeld3
namespace Go.Proofs.YtfjkbjkbpbnalabDoor
open Go.ChangeShapes Go.WideShapes Go.ChangeAt Go.RowKit
set_option linter.unusedVariables false

def byB (r : Rg) (c : Int) (h : Bool) : Int := if h then getR r c / 256 else getR r c % 256
def withV (r : Rg) (c : Int) (h : Bool) (b : Int) : Int := if h then 256 * b + getR r c % 256 else 256 * (getR r c / 256) + b
def withR (r : Rg) (c : Int) (h : Bool) (b : Int) : Rg := setR r c (withV r c h b)
theorem below_rowL (w : World) (g B : Nat) (cs : Array Value) (hB : B ≤ g) : Below B w (w.setRow g cs) := ⟨rfl, rfl, rfl, by simp, fun k hk => setRow_other w g k cs (by omega)⟩
theorem cells_one (s : Rg) : (s.cells.all fun x => x.oneCell') = true := by simp [Value.oneCell']
def zeroRg : Rg := ⟨0, 0, 0, 0, 0, 0, 0, 0, 0⟩
theorem rgat3 (w : World) (o1 o2 : Obj) (t : TypeId) (r : Rg) : RgAt (((w.alloc o1).alloc o2).alloc (.cells r.cells t)) (w.heap.size + 2) t r := by
  have e : ((w.alloc o1).alloc o2).heap.size = w.heap.size + 2 := by simp
  have := Blk.new ((w.alloc o1).alloc o2) t r.cells (0, 0)
  rw [e] at this
  exact this
theorem rgat4 (w : World) (o1 o2 o3 : Obj) (t : TypeId) (r : Rg) : RgAt ((((w.alloc o1).alloc o2).alloc o3).alloc (.cells r.cells t)) (w.heap.size + 3) t r := by
  have e : (((w.alloc o1).alloc o2).alloc o3).heap.size = w.heap.size + 3 := by simp
  have := Blk.new (((w.alloc o1).alloc o2).alloc o3) t r.cells (0, 0)
  rw [e] at this
  exact this
theorem withV_range (r : Rg) (hr : r.Ok) (c : Int) (h : Bool) (b : Int) (b0 : 0 ≤ b) (b1 : b < 256) : 0 ≤ withV r c h b ∧ withV r c h b < 65536 := by
  obtain ⟨g0, g1⟩ := getR_range r hr c
  unfold withV; split <;> omega
set_option maxRecDepth 100000 in
set_option maxHeartbeats 2000000 in
theorem byte_any (r : Rg) (hr : r.Ok) (c : Int) (h : Bool) (w : World) :
    Calls Tryd.prog 42 #[.agg r.cells, .agg #[.int .i64 c, .bool h]] w fun e w' => e = .returned (.int .u8 (byB r c h)) ∧ Below w.heap.size w w' := by
  obtain ⟨g0, g1⟩ := getR_range r hr c
  have HF := Lib.hid (rgat3 w (Obj.cells r.cells 24) (Obj.cells #[.int .i64 c, .bool h] 35) 109 r)
  have CG := Lib.hid (fun w g t (h : RgAt w g t r) => get_any r hr c w g t h)
  unfold byB
  obtain ⟨v, hv⟩ : ∃ v, getR r c = v := ⟨_, rfl⟩
  rw [hv] at CG g0 g1
  rw [hv]
  clear hv
  cases h
  all_goals
    go_enter Tryd.func42, Tryd.ntmps42
    go_wp2_with fail
    refine (CG.out _ _ _ HF.out).mono ?_
    rintro e w1 ⟨rfl, n, rfl⟩
    go_wp2_with (first
      | (go_at_call 64; refine (high_any _ _ g0 g1).mono ?_; rintro e w' ⟨rfl, rfl⟩)
      | (go_at_call 63; refine (low_any _ _ g0 g1).mono ?_; rintro e w' ⟨rfl, rfl⟩))
    go_ret
    exact ⟨rfl, Below.drewN0 (Below.alloc0 (Below.alloc0 (Below.alloc0 (Below.refl _ _) _) _) _) n⟩
set_option maxRecDepth 100000 in
set_option maxHeartbeats 2000000 in
theorem refByte_any (r : Rg) (hr : r.Ok) (c : Int) (h : Bool) (w : World) :
    Calls Tryd.prog 10 #[.agg r.cells, .agg #[.int .i64 c, .bool h]] w fun e w' => e = .returned (.int .u8 (byB r c h)) ∧ Below w.heap.size w w' := by
  obtain ⟨g0, g1⟩ := getR_range r hr c
  have CG := Lib.hid (fun w => refGet_any r hr c w)
  unfold byB
  obtain ⟨v, hv⟩ : ∃ v, getR r c = v := ⟨_, rfl⟩
  rw [hv] at CG g0 g1
  rw [hv]
  clear hv
  cases h
  all_goals
    go_enter Tryd.func10, Tryd.ntmps10
    go_wp2_with fail
    refine (CG.out _).mono ?_
    rintro e w1 ⟨rfl, o1, o2, rfl⟩
    go_wp2
    go_ret
    refine ⟨ret_int ?_, Below.alloc0 (Below.alloc0 (Below.alloc0 (Below.alloc0 (Below.refl _ _) _) _) _) _⟩
    try rw [Int.tdiv_eq_ediv_of_nonneg g0]
    try rw [Int.tmod_eq_emod_of_nonneg g0]
    try rw [IntKind.wrap_u16]
    try omega
set_option maxRecDepth 100000 in
set_option maxHeartbeats 4000000 in
theorem lwith_any (r : Rg) (hr : r.Ok) (c : Int) (h : Bool) (b : Int) (b0 : 0 ≤ b) (b1 : b < 256) (w : World) :
    Calls Tryd.prog 41 #[.agg r.cells, .agg #[.int .i64 c, .bool h], .int .u8 b] w fun e w' => e = .returned (.agg (withR r c h b).cells) ∧ Below w.heap.size w w' := by
  obtain ⟨g0, g1⟩ := getR_range r hr c
  obtain ⟨v0, v1⟩ := withV_range r hr c h b b0 b1
  have HF := Lib.hid (rgat4 w (Obj.cells r.cells 24) (Obj.cells #[.int .i64 c, .bool h] 35) (Obj.cells zeroRg.cells 24) 109 r)
  have HZ := Lib.hid (show RgAt ((((w.alloc (Obj.cells r.cells 24)).alloc (Obj.cells #[.int .i64 c, .bool h] 35)).alloc (Obj.cells zeroRg.cells 24)).alloc (Obj.cells r.cells 109)) (w.heap.size + 2) 24 zeroRg from Blk.alloc (rgat3 w _ _ _ _) _)
  have CG := Lib.hid (fun w g t (h : RgAt w g t r) => get_any r hr c w g t h)
  have CS := Lib.hid (fun w g t (h2 : RgAt w g t r) => set_any r hr c (withV r c h b) v0 v1 w g t h2)
  rw [show setR r c (withV r c h b) = withR r c h b from rfl] at CS
  obtain ⟨s, hs⟩ : ∃ s, withR r c h b = s := ⟨_, rfl⟩
  rw [hs] at CS
  rw [hs]
  unfold withV at CS
  obtain ⟨v, hv⟩ : ∃ v, getR r c = v := ⟨_, rfl⟩
  rw [hv] at CG g0 g1 CS
  clear hv hs v0 v1
  cases h
  all_goals
    simp only [Bool.false_eq_true, if_false, if_true] at CS
    go_enter Tryd.func41, Tryd.ntmps41
    go_wp2_with fail
    refine (CG.out _ _ _ HF.out).mono ?_
    rintro e w1 ⟨rfl, n, rfl⟩
    go_wp2_with (first
      | (go_at_call 64; refine (high_any _ _ g0 g1).mono ?_; rintro e w' ⟨rfl, rfl⟩)
      | (go_at_call 63; refine (low_any _ _ g0 g1).mono ?_; rintro e w' ⟨rfl, rfl⟩)
      | (go_at_call 62; refine (word_any _ _ _ (by omega) (by omega) (by omega) (by omega)).mono ?_; rintro e w' ⟨rfl, rfl⟩))
    refine (CS.out _ _ _ (HF.out.drewN n)).mono ?_
    rintro e w1 ⟨rfl, hp⟩
    have HS := Lib.hid hp.1
    have HZ1 := Lib.hid (RgAt.grown (RgAt.drewN HZ.out n) hp.2.1 (by simp))
    have HB := Lib.hid ((Below.drewN0 (Below.alloc0 (Below.alloc0 (Below.alloc0 (Below.alloc0 (Below.refl w.heap.size w) _) _) _) _) n).trans (Put.below hp (B := w.heap.size) (by omega) (by simp; omega)))
    clear hp
    go_upto_region 7 with (fail)
    refine wp_region_lit ?_
    refine Great.wpList_readTo rfl (some 28) rfl (.pointer (some ⟨w.heap.size + 3, 0, none⟩)) (by kernel_rfl) ?_
    refine wpList_load_row rfl 24 _ rfl (w.heap.size + 3) rfl 109 s.cells (0, 0) _ HS.out Tryd.underlying24 rfl (by kernel_rfl) ?_
    refine wpList_store_rowTo rfl 24 _ _ rfl rfl (w.heap.size + 2) s.cells rfl rfl 24 zeroRg.cells HZ1.out (by kernel_rfl) rfl (cells_one s) ?_
    refine wpList_nil ?_
    simp only [Act.put, List.setIfInBounds_toArray, List.set_cons_zero, List.set_cons_succ]
    go_wp2
    refine bodyPost_ret (v := .agg s.cells) (results_cell_row Tryd.results41 _ _ (w.heap.size + 2) 24 s.cells (0, 0) _ rfl (setRow_heap w1 (w.heap.size + 2) _ s.cells _ (0, 0) HZ1.out) Tryd.underlying24 rfl (by kernel_rfl)) rfl ⟨rfl, ?_⟩
    exact HB.out.trans (below_rowL w1 _ _ _ (by omega))
set_option maxRecDepth 100000 in
set_option maxHeartbeats 4000000 in
theorem refWith_any (r : Rg) (hr : r.Ok) (c : Int) (h : Bool) (b : Int) (b0 : 0 ≤ b) (b1 : b < 256) (w : World) :
    Calls Tryd.prog 15 #[.agg r.cells, .agg #[.int .i64 c, .bool h], .int .u8 b] w fun e w' => e = .returned (.agg (withR r c h b).cells) ∧ Below w.heap.size w w' := by
  obtain ⟨g0, g1⟩ := getR_range r hr c
  obtain ⟨v0, v1⟩ := withV_range r hr c h b b0 b1
  have HZ := Lib.hid (rgat3 w (Obj.cells r.cells 24) (Obj.cells #[.int .i64 c, .bool h] 34) 24 zeroRg)
  have HW : Hid (∀ o1 o2 o3 o4 : Obj, RgAt (((((((w.alloc (Obj.cells r.cells 24)).alloc (Obj.cells #[.int .i64 c, .bool h] 34)).alloc (Obj.cells zeroRg.cells 24)).alloc o1).alloc o2).alloc o3).alloc o4) (w.heap.size + 2) 24 zeroRg ∧ Below w.heap.size w (((((((w.alloc (Obj.cells r.cells 24)).alloc (Obj.cells #[.int .i64 c, .bool h] 34)).alloc (Obj.cells zeroRg.cells 24)).alloc o1).alloc o2).alloc o3).alloc o4)) := Lib.hid (fun o1 o2 o3 o4 => ⟨Blk.alloc (Blk.alloc (Blk.alloc (Blk.alloc HZ.out _) _) _) _, by repeat (first | exact Below.refl _ _ | apply Below.alloc0)⟩)
  have CG := Lib.hid (fun w => refGet_any r hr c w)
  obtain ⟨s, hs⟩ : ∃ s, withR r c h b = s := ⟨_, rfl⟩
  have CS := Lib.hid (show ∀ (w : World) (x : Int), x = withV r c h b → Calls Tryd.prog 44 #[.agg r.cells, .int .i64 c, .int .u16 x] w fun e w' => e = .returned (.agg s.cells) ∧ Two w w' from fun w x hx => by
    subst hx
    have := refSet_any r hr c (withV r c h b) v0 v1 w
    rw [show setR r c (withV r c h b) = s from hs] at this
    exact this)
  rw [hs]
  unfold withV at CS v0 v1
  obtain ⟨v, hv⟩ : ∃ v, getR r c = v := ⟨_, rfl⟩
  rw [hv] at CG g0 g1 CS v0 v1
  clear hv hs
  have tq : v.tdiv 256 = v / 256 := Int.tdiv_eq_ediv_of_nonneg g0
  have tm : v.tmod 256 = v % 256 := Int.tmod_eq_emod_of_nonneg g0
  have tw : IntKind.u16.wrap (v / 256) = v / 256 := by rw [IntKind.wrap_u16]; omega
  cases h
  all_goals
    try simp only [Bool.false_eq_true, if_false] at CS v0 v1
    try simp only [if_true] at CS v0 v1
    go_enter Tryd.func15, Tryd.ntmps15
    go_wp2_with fail
    refine (CG.out _).mono ?_
    rintro e w1 ⟨rfl, o1, o2, rfl⟩
    go_wp2_with fail
    refine ((CS.out _ _ (by omega))).mono ?_
    rintro e w2 ⟨rfl, o3, o4, rfl⟩
    obtain ⟨hz2, hb2⟩ := HW.out o1 o2 o3 o4
    have HZ2 := Lib.hid hz2
    have HB := Lib.hid hb2
    clear hz2 hb2 HW
    unfold zeroRg at HZ2 HB
    generalize ((((((w.alloc _).alloc _).alloc _).alloc o1).alloc o2).alloc o3).alloc o4 = W at HZ2 HB ⊢
    go_wp2_with (refine wpList_store_rowTo rfl 24 _ _ rfl rfl (w.heap.size + 2) s.cells rfl rfl 24 zeroRg.cells HZ2.out (by kernel_rfl) rfl (cells_one s) ?_)
    refine bodyPost_ret (v := .agg s.cells) (results_cell_row Tryd.results15 _ _ (w.heap.size + 2) 24 s.cells (0, 0) _ rfl (setRow_heap W (w.heap.size + 2) _ s.cells _ (0, 0) HZ2.out) Tryd.underlying24 rfl (by kernel_rfl)) rfl ⟨rfl, ?_⟩
    exact HB.out.trans (below_rowL W _ _ _ (by omega))
end Go.Proofs.YtfjkbjkbpbnalabDoor
