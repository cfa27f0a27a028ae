/- Contracts of index.Inst, and of the document's own (spinetref20.Inst), by the mode. -/
import Derived.Test.YtoogaenknjdpcacDoorIdxM
namespace Go.Proofs.YtoogaenknjdpcacDoor
open Go.ChangeShapes Go.WideShapes Go.ChangeAt Go.RowKit
set_option linter.unusedVariables false

theorem direct_any (a b : Int) (w : World) (ha : 0 ≤ a) (ha' : a < 256) (hb : 0 ≤ b) (hb' : b < 256) :
    Calls Tryd.prog 25 #[.int .u8 a, .int .u8 b] w fun e w' => e = .returned (.int .u16 (256 * a + b)) ∧ w = w' := by
  go_enter Tryd.func25, Tryd.ntmps25
  go_wp2_with (go_at_call 48; refine (word_any _ _ _ ha ha' hb hb').mono ?_; rintro e w' ⟨rfl, rfl⟩)
  go_ret
  exact ⟨rfl, rfl⟩
theorem resInA (tmps : Array Value) (W : World) (g : Nat) (cs : Array Value) (h : Blk W g 34 cs) (hc : cs.size = 9) (h2 : tmps.getD 7 undef = .pointer (some ⟨g, 0, none⟩)) (a : Int) (h3 : tmps.getD 6 undef = .int .u16 a) (k : Bool) (h4 : tmps.getD 8 undef = .bool k) :
    (results Tryd.f23 tmps).run Tryd.prog W = .ok (.tuple #[.int .u16 a, .agg cs, .bool k]) W := by
  have hi : (Tryd.prog.info? 34).map (·.size) = some cs.size := by rw [hc]; kernel_rfl
  have hld := run_loadVar_row (P := Tryd.prog) W g 34 34 cs (0, 0) _ h Tryd.underlying34 rfl hi
  have h2' : tmps[7]?.getD undef = .pointer (some ⟨g, 0, none⟩) := by simpa using h2
  have h3' : tmps[6]?.getD undef = .int .u16 a := by simpa using h3
  have h4' : tmps[8]?.getD undef = .bool k := by simpa using h4
  simp [results, Tryd.results23, h2', h3', h4', asAddr, hld]
theorem resInF (tmps : Array Value) (W : World) (g : Nat) (cs : Array Value) (h : Blk W g 34 cs) (hc : cs.size = 9) (h2 : tmps.getD 7 undef = .pointer (some ⟨g, 0, none⟩)) (a : Int) (h3 : tmps.getD 6 undef = .int .u16 a) (k : Bool) (h4 : tmps.getD 8 undef = .bool k) :
    (results Tryd.f24 tmps).run Tryd.prog W = .ok (.tuple #[.int .u16 a, .agg cs, .bool k]) W := by
  have hi : (Tryd.prog.info? 34).map (·.size) = some cs.size := by rw [hc]; kernel_rfl
  have hld := run_loadVar_row (P := Tryd.prog) W g 34 34 cs (0, 0) _ h Tryd.underlying34 rfl hi
  have h2' : tmps[7]?.getD undef = .pointer (some ⟨g, 0, none⟩) := by simpa using h2
  have h3' : tmps[6]?.getD undef = .int .u16 a := by simpa using h3
  have h4' : tmps[8]?.getD undef = .bool k := by simpa using h4
  simp [results, Tryd.results24, h2', h3', h4', asAddr, hld]
set_option maxRecDepth 100000 in
set_option maxHeartbeats 8000000 in
theorem inA_3 (p c o q va ln at_ : Int) (b : Nat) (hb : b < 256) (r : Rg) (hr : r.Ok) (v0 : 0 ≤ va) (v1 : va < 65536) (w : World) :
    Calls Tryd.prog 23 #[.agg #[.int .i64 p, .int .u8 c, .int .i64 o, .int .i64 3, .int .i64 q, .int .u8 (b : Int), .int .u16 va, .int .i64 ln], .agg r.cells, .int .u16 at_] w fun e w' => e = .returned (.tuple #[.int .u16 (256 * r.D + va % 256), .agg r.cells, .bool true]) ∧ Below w.heap.size w w' := by
  have HI0 : Hid (Blk (((w.alloc (Obj.cells #[.int .i64 p, .int .u8 c, .int .i64 o, .int .i64 3, .int .i64 q, .int .u8 (b : Int), .int .u16 va, .int .i64 ln] 49)).alloc (Obj.cells r.cells 34)).alloc (Obj.cells zRg.cells 34)) w.heap.size 49 #[.int .i64 p, .int .u8 c, .int .i64 o, .int .i64 3, .int .i64 q, .int .u8 (b : Int), .int .u16 va, .int .i64 ln]) := Lib.hid (Blk.alloc (Blk.alloc (Blk.new _ _ _ (0, 0)) _) _)
  have HR0 : Hid (RgAt (((w.alloc (Obj.cells #[.int .i64 p, .int .u8 c, .int .i64 o, .int .i64 3, .int .i64 q, .int .u8 (b : Int), .int .u16 va, .int .i64 ln] 49)).alloc (Obj.cells r.cells 34)).alloc (Obj.cells zRg.cells 34)) (w.heap.size + 1) 34 r) := Lib.hid (Blk.alloc (Blk.at1 _) _)
  have HZ0 : Hid (RgAt (((w.alloc (Obj.cells #[.int .i64 p, .int .u8 c, .int .i64 o, .int .i64 3, .int .i64 q, .int .u8 (b : Int), .int .u16 va, .int .i64 ln] 49)).alloc (Obj.cells r.cells 34)).alloc (Obj.cells zRg.cells 34)) (w.heap.size + 1 + 1) 34 zRg) := Lib.hid (Blk.at2 _ _)
  have HB0 : Hid (Below w.heap.size w (((w.alloc (Obj.cells #[.int .i64 p, .int .u8 c, .int .i64 o, .int .i64 3, .int .i64 q, .int .u8 (b : Int), .int .u16 va, .int .i64 ln] 49)).alloc (Obj.cells r.cells 34)).alloc (Obj.cells zRg.cells 34))) := Lib.hid (Below.alloc0 (Below.alloc0 (Below.alloc0 (Below.refl _ _) _) _) _)
  have HS : Hid (∀ u : World, Blk u w.heap.size 49 #[.int .i64 p, .int .u8 c, .int .i64 o, .int .i64 3, .int .i64 q, .int .u8 (b : Int), .int .u16 va, .int .i64 ln] → RgAt u (w.heap.size + 1) 34 r → (fun w' => (w'.cell? ⟨w.heap.size, 3, none⟩ = some (.int .i64 3) ∧ w'.cell? ⟨w.heap.size, 5, none⟩ = some (.int .u8 (b : Int)) ∧ w'.cell? ⟨w.heap.size, 6, none⟩ = some (.int .u16 va) ∧ w'.cell? ⟨w.heap.size, 7, none⟩ = some (.int .i64 ln)) ∧ (w'.cell? ⟨w.heap.size + 1, 0, none⟩ = some (.int .u8 r.A) ∧ w'.cell? ⟨w.heap.size + 1, 1, none⟩ = some (.int .u8 r.B) ∧ w'.cell? ⟨w.heap.size + 1, 2, none⟩ = some (.int .u8 r.D) ∧ w'.cell? ⟨w.heap.size + 1, 3, none⟩ = some (.int .u8 r.C) ∧ w'.cell? ⟨w.heap.size + 1, 4, none⟩ = some (.int .u16 r.X) ∧ w'.cell? ⟨w.heap.size + 1, 5, none⟩ = some (.int .u16 r.Y) ∧ w'.cell? ⟨w.heap.size + 1, 6, none⟩ = some (.int .u16 r.U) ∧ w'.cell? ⟨w.heap.size + 1, 7, none⟩ = some (.int .u16 r.S) ∧ w'.cell? ⟨w.heap.size + 1, 8, none⟩ = some (.int .u16 r.P))) u) := Lib.hid (fun u h1 h2 => ⟨⟨(Blk.c8 h1).2.2.2.1, (Blk.c8 h1).2.2.2.2.2.1, (Blk.c8 h1).2.2.2.2.2.2.1, (Blk.c8 h1).2.2.2.2.2.2.2⟩, h2.cells⟩)
  have CL := Lib.hid (fun w => low_any va w v0 v1)
  have CW := Lib.hid (fun w => direct_any r.D (va % 256) w hr.d0 hr.d1 (by omega) (by omega))
  go_enter Tryd.func23, Tryd.ntmps23
  go_upto_region 3 with (fail)
  generalize (((w.alloc _).alloc _).alloc _) = V at HI0 HR0 HZ0 HB0 ⊢
  have S0 : Hid ((fun w' => (w'.cell? ⟨w.heap.size, 3, none⟩ = some (.int .i64 3) ∧ w'.cell? ⟨w.heap.size, 5, none⟩ = some (.int .u8 (b : Int)) ∧ w'.cell? ⟨w.heap.size, 6, none⟩ = some (.int .u16 va) ∧ w'.cell? ⟨w.heap.size, 7, none⟩ = some (.int .i64 ln)) ∧ (w'.cell? ⟨w.heap.size + 1, 0, none⟩ = some (.int .u8 r.A) ∧ w'.cell? ⟨w.heap.size + 1, 1, none⟩ = some (.int .u8 r.B) ∧ w'.cell? ⟨w.heap.size + 1, 2, none⟩ = some (.int .u8 r.D) ∧ w'.cell? ⟨w.heap.size + 1, 3, none⟩ = some (.int .u8 r.C) ∧ w'.cell? ⟨w.heap.size + 1, 4, none⟩ = some (.int .u16 r.X) ∧ w'.cell? ⟨w.heap.size + 1, 5, none⟩ = some (.int .u16 r.Y) ∧ w'.cell? ⟨w.heap.size + 1, 6, none⟩ = some (.int .u16 r.U) ∧ w'.cell? ⟨w.heap.size + 1, 7, none⟩ = some (.int .u16 r.S) ∧ w'.cell? ⟨w.heap.size + 1, 8, none⟩ = some (.int .u16 r.P))) V.drew) := Lib.hid (HS.out _ HI0.out HR0.out)
  obtain ⟨z0, z1, z2, z3, z4, z5, z6, z7, z8⟩ := RgAt.cells (show RgAt V (w.heap.size + 1 + 1) 34 zRg from HZ0.out)
  obtain ⟨f0, f1, f2, f3, f4, f5, f6, f7, f8⟩ := RgAt.frz (show RgAt V (w.heap.size + 1 + 1) 34 zRg from HZ0.out)
  have S2 : Hid ((fun w' => (w'.cell? ⟨w.heap.size, 3, none⟩ = some (.int .i64 3) ∧ w'.cell? ⟨w.heap.size, 5, none⟩ = some (.int .u8 (b : Int)) ∧ w'.cell? ⟨w.heap.size, 6, none⟩ = some (.int .u16 va) ∧ w'.cell? ⟨w.heap.size, 7, none⟩ = some (.int .i64 ln)) ∧ (w'.cell? ⟨w.heap.size + 1, 0, none⟩ = some (.int .u8 r.A) ∧ w'.cell? ⟨w.heap.size + 1, 1, none⟩ = some (.int .u8 r.B) ∧ w'.cell? ⟨w.heap.size + 1, 2, none⟩ = some (.int .u8 r.D) ∧ w'.cell? ⟨w.heap.size + 1, 3, none⟩ = some (.int .u8 r.C) ∧ w'.cell? ⟨w.heap.size + 1, 4, none⟩ = some (.int .u16 r.X) ∧ w'.cell? ⟨w.heap.size + 1, 5, none⟩ = some (.int .u16 r.Y) ∧ w'.cell? ⟨w.heap.size + 1, 6, none⟩ = some (.int .u16 r.U) ∧ w'.cell? ⟨w.heap.size + 1, 7, none⟩ = some (.int .u16 r.S) ∧ w'.cell? ⟨w.heap.size + 1, 8, none⟩ = some (.int .u16 r.P))) (set9i V (w.heap.size + 1 + 1) r).drew) := Lib.hid (HS.out (set9i V (w.heap.size + 1 + 1) r).drew (Blk.drew (set9i_farB (show Blk V w.heap.size 49 #[.int .i64 p, .int .u8 c, .int .i64 o, .int .i64 3, .int .i64 q, .int .u8 (b : Int), .int .u16 va, .int .i64 ln] from HI0.out) (by omega) r)) (Blk.drew (set9i_far (show RgAt V (w.heap.size + 1) 34 r from HR0.out) (by omega) r)))
  refine wp_region_noPanic ?_
  refine wp_region_held_drew (S := (fun w' => (w'.cell? ⟨w.heap.size, 3, none⟩ = some (.int .i64 3) ∧ w'.cell? ⟨w.heap.size, 5, none⟩ = some (.int .u8 (b : Int)) ∧ w'.cell? ⟨w.heap.size, 6, none⟩ = some (.int .u16 va) ∧ w'.cell? ⟨w.heap.size, 7, none⟩ = some (.int .i64 ln)) ∧ (w'.cell? ⟨w.heap.size + 1, 0, none⟩ = some (.int .u8 r.A) ∧ w'.cell? ⟨w.heap.size + 1, 1, none⟩ = some (.int .u8 r.B) ∧ w'.cell? ⟨w.heap.size + 1, 2, none⟩ = some (.int .u8 r.D) ∧ w'.cell? ⟨w.heap.size + 1, 3, none⟩ = some (.int .u8 r.C) ∧ w'.cell? ⟨w.heap.size + 1, 4, none⟩ = some (.int .u16 r.X) ∧ w'.cell? ⟨w.heap.size + 1, 5, none⟩ = some (.int .u16 r.Y) ∧ w'.cell? ⟨w.heap.size + 1, 6, none⟩ = some (.int .u16 r.U) ∧ w'.cell? ⟨w.heap.size + 1, 7, none⟩ = some (.int .u16 r.S) ∧ w'.cell? ⟨w.heap.size + 1, 8, none⟩ = some (.int .u16 r.P)))) (by kernel_rfl) ?_ (fun hH0 => ?_)
  · (try dsimp only); with_reducible exact S0.out
  refine wpAnyH_take (i := 0) (oi := ({ dst := some 16, op := Op.fieldAddr 34 (Operand.tmp 4) 2, type := 0, pos := "index.go:52", after := #[], guard := none } : Oper)) (v := ?_) rfl (by kernel_rfl) (by kernel_rfl) (by kernel_rfl) (fun _ _ _ h => h) (Or.inl ⟨by rfl, ?_⟩) (by assumption) ?_
  rotate_left 1
  · (intro w hSw; (try dsimp only at hSw); go_simp; (try with_reducible rfl))
  (try simp only [Act.put, List.setIfInBounds_toArray, List.set_cons_zero, List.set_cons_succ])
  refine wpAnyH_take (i := 1) (oi := ({ dst := some 17, op := Op.load 5 (Operand.tmp 16), type := 5, pos := "index.go:52", after := #[{ on := 0, ground := Ground.data }], guard := none } : Oper)) (v := ?_) rfl (by kernel_rfl) (by kernel_rfl) (by kernel_rfl) (fun _ _ _ h => h) (Or.inl ⟨by rfl, ?_⟩) (by assumption) ?_
  rotate_left 1
  · (intro w hSw; (try dsimp only at hSw); go_simp; (try with_reducible rfl))
  (try simp only [Act.put, List.setIfInBounds_toArray, List.set_cons_zero, List.set_cons_succ])
  refine wpAnyH_take (i := 2) (oi := ({ dst := some 18, op := Op.fieldAddr 49 (Operand.tmp 3) 4, type := 0, pos := "index.go:52", after := #[], guard := none } : Oper)) (v := ?_) rfl (by kernel_rfl) (by kernel_rfl) (by kernel_rfl) (fun _ _ _ h => h) (Or.inl ⟨by rfl, ?_⟩) (by assumption) ?_
  rotate_left 1
  · (intro w hSw; (try dsimp only at hSw); go_simp; (try with_reducible rfl))
  (try simp only [Act.put, List.setIfInBounds_toArray, List.set_cons_zero, List.set_cons_succ])
  refine wpAnyH_take (i := 3) (oi := ({ dst := some 19, op := Op.load 32 (Operand.tmp 18), type := 32, pos := "index.go:52", after := #[{ on := 2, ground := Ground.data }], guard := none } : Oper)) (v := ?_) rfl (by kernel_rfl) (by kernel_rfl) (by kernel_rfl) (fun _ _ _ h => h) (Or.inl ⟨by rfl, ?_⟩) (by assumption) ?_
  rotate_left 1
  · (intro w hSw; (try dsimp only at hSw); go_simp; (try with_reducible rfl))
  (try simp only [Act.put, List.setIfInBounds_toArray, List.set_cons_zero, List.set_cons_succ])
  refine wpAnyH_take (i := 6) (oi := ({ dst := some 22, op := Op.load 34 (Operand.tmp 4), type := 34, pos := "index.go:52", after := #[{ on := 7, ground := Ground.gcOnly Departure.lateStores }], guard := none } : Oper)) (v := ?_) rfl (by kernel_rfl) (by kernel_rfl) (by kernel_rfl) (fun _ _ _ h => h) (Or.inl ⟨by rfl, ?_⟩) (by assumption) ?_
  rotate_left 1
  · (intro w hSw; (try dsimp only at hSw); go_simp; (try with_reducible rfl))
  (try simp only [Act.put, List.setIfInBounds_toArray, List.set_cons_zero, List.set_cons_succ])
  refine wpAnyH_ready (rs := [4]) (by kernel_rfl) (by simp) ?_
  refine AllReadyH.cons (o := ({ dst := some 20, op := Op.call { callee := Callee.value (Operand.func 47), args := #[Operand.tmp 19], argTypes := #[32] }, type := 5, pos := "index.go:52", after := #[{ on := 3, ground := Ground.data }], guard := none } : Oper)) rfl (fun K hK => ?_) ?_
  rotate_left 1
  · exact AllReadyH.nil
  go_simp
  go_at_call 47
  ((with_reducible refine (CL.out _).mono ?_); rintro e wq ⟨rfl, rfl⟩)
  first | (refine hK.out _ _ ?_ (fun hH1 => ?_)) | (go_wp2_with fail; refine hK.out _ _ ?_ (fun hH1 => ?_))
  · (try dsimp only); with_reducible exact S0.out
  clear hK K hH0
  (try simp only [Act.put, List.setIfInBounds_toArray, List.set_cons_zero, List.set_cons_succ])
  refine wpAnyH_ready (rs := [5]) (by kernel_rfl) (by simp) ?_
  refine AllReadyH.cons (o := ({ dst := some 21, op := Op.call { callee := Callee.value (Operand.func 25), args := #[Operand.tmp 17, Operand.tmp 20], argTypes := #[5, 5] }, type := 32, pos := "index.go:52", after := #[{ on := 1, ground := Ground.data }, { on := 4, ground := Ground.data }, { on := 4, ground := Ground.chain }], guard := none } : Oper)) rfl (fun K hK => ?_) ?_
  rotate_left 1
  · exact AllReadyH.nil
  go_simp
  go_at_call 25
  ((with_reducible refine (CW.out _).mono ?_); rintro e wq ⟨rfl, rfl⟩)
  first | (refine hK.out _ _ ?_ (fun hH2 => ?_)) | (go_wp2_with fail; refine hK.out _ _ ?_ (fun hH2 => ?_))
  · (try dsimp only); with_reducible exact S0.out
  clear hK K hH1
  (try simp only [Act.put, List.setIfInBounds_toArray, List.set_cons_zero, List.set_cons_succ])
  refine wpAnyH_take (i := 7) (oi := ({ dst := some 6, op := Op.assign (Operand.tmp 21), type := 32, pos := "index.go:52", after := #[{ on := 5, ground := Ground.data }, { on := 5, ground := Ground.chain }, { on := 0, ground := Ground.phase }, { on := 1, ground := Ground.phase }, { on := 2, ground := Ground.phase }, { on := 3, ground := Ground.phase }, { on := 4, ground := Ground.phase }, { on := 5, ground := Ground.phase }, { on := 6, ground := Ground.textOnly Departure.lateStores }], guard := none } : Oper)) (v := ?_) rfl (by kernel_rfl) (by kernel_rfl) (by kernel_rfl) (fun _ _ _ h => h) (Or.inl ⟨by rfl, ?_⟩) (by assumption) ?_
  rotate_left 1
  · (intro w hSw; (try dsimp only at hSw); go_simp; (try with_reducible rfl))
  (try simp only [Act.put, List.setIfInBounds_toArray, List.set_cons_zero, List.set_cons_succ])
  refine wpAnyH_ready (rs := [8]) (by kernel_rfl) (by simp) ?_
  refine AllReadyH.cons (o := ({ dst := none, op := Op.store 34 (Operand.tmp 7) (Operand.tmp 22), type := 0, pos := "index.go:52", after := #[{ on := 6, ground := Ground.data }, { on := 7, ground := Ground.chain }, { on := 0, ground := Ground.phase }, { on := 1, ground := Ground.phase }, { on := 2, ground := Ground.phase }, { on := 3, ground := Ground.phase }, { on := 4, ground := Ground.phase }, { on := 5, ground := Ground.phase }, { on := 6, ground := Ground.phase }, { on := 7, ground := Ground.phase }], guard := none } : Oper)) rfl (fun K hK => ?_) ?_
  rotate_left 1
  · exact AllReadyH.nil
  go_simp
  first | (refine hK.out _ _ ?_ (fun hH3 => ?_)) | (go_wp2_with fail; refine hK.out _ _ ?_ (fun hH3 => ?_))
  · (try dsimp only); with_reducible exact S2.out
  clear hK K hH2
  (try simp only [Act.put, List.setIfInBounds_toArray, List.set_cons_zero, List.set_cons_succ])
  refine wpAnyH_take (i := 9) (oi := ({ dst := some 8, op := Op.assign (Operand.const (Value.bool true)), type := 4, pos := "index.go:52", after := #[{ on := 8, ground := Ground.chain }, { on := 0, ground := Ground.phase }, { on := 1, ground := Ground.phase }, { on := 2, ground := Ground.phase }, { on := 3, ground := Ground.phase }, { on := 4, ground := Ground.phase }, { on := 5, ground := Ground.phase }, { on := 6, ground := Ground.phase }, { on := 7, ground := Ground.phase }, { on := 8, ground := Ground.phase }], guard := none } : Oper)) (v := ?_) rfl (by kernel_rfl) (by kernel_rfl) (by kernel_rfl) (fun _ _ _ h => h) (Or.inl ⟨by rfl, ?_⟩) (by assumption) ?_
  rotate_left 1
  · (intro w hSw; (try dsimp only at hSw); go_simp; (try with_reducible rfl))
  (try simp only [Act.put, List.setIfInBounds_toArray, List.set_cons_zero, List.set_cons_succ])
  refine wpAnyH_done (by kernel_rfl) ?_ _
  refine NoPanic.normal ?_
  have HF : Hid (RgAt (set9i V (w.heap.size + 1 + 1) r) (w.heap.size + 1 + 1) 34 r) := Lib.hid (set9i_at (show RgAt V (w.heap.size + 1 + 1) 34 zRg from HZ0.out) r)
  have HG : Hid (Below w.heap.size w (set9i V (w.heap.size + 1 + 1) r)) := Lib.hid (set9i_below (show Below w.heap.size w V from HB0.out) (by omega) r)
  go_wp2
  refine bodyPost_ret (v := .tuple #[.int .u16 (256 * r.D + va % 256), .agg r.cells, .bool true]) (resInA _ _ (w.heap.size + 1 + 1) r.cells (Blk.drew HF.out) rfl rfl (256 * r.D + va % 256) rfl true rfl) rfl ⟨rfl, Below.drew0 HG.out⟩
set_option maxRecDepth 100000 in
set_option maxHeartbeats 8000000 in
theorem inA_5 (p c o q va ln at_ : Int) (b : Nat) (hb : b < 256) (r : Rg) (hr : r.Ok) (v0 : 0 ≤ va) (v1 : va < 65536) (w : World) :
    Calls Tryd.prog 23 #[.agg #[.int .i64 p, .int .u8 c, .int .i64 o, .int .i64 5, .int .i64 q, .int .u8 (b : Int), .int .u16 va, .int .i64 ln], .agg r.cells, .int .u16 at_] w fun e w' => e = .returned (.tuple #[.int .u16 (va), .agg r.cells, .bool true]) ∧ Below w.heap.size w w' := by
  have HI0 : Hid (Blk (((w.alloc (Obj.cells #[.int .i64 p, .int .u8 c, .int .i64 o, .int .i64 5, .int .i64 q, .int .u8 (b : Int), .int .u16 va, .int .i64 ln] 49)).alloc (Obj.cells r.cells 34)).alloc (Obj.cells zRg.cells 34)) w.heap.size 49 #[.int .i64 p, .int .u8 c, .int .i64 o, .int .i64 5, .int .i64 q, .int .u8 (b : Int), .int .u16 va, .int .i64 ln]) := Lib.hid (Blk.alloc (Blk.alloc (Blk.new _ _ _ (0, 0)) _) _)
  have HR0 : Hid (RgAt (((w.alloc (Obj.cells #[.int .i64 p, .int .u8 c, .int .i64 o, .int .i64 5, .int .i64 q, .int .u8 (b : Int), .int .u16 va, .int .i64 ln] 49)).alloc (Obj.cells r.cells 34)).alloc (Obj.cells zRg.cells 34)) (w.heap.size + 1) 34 r) := Lib.hid (Blk.alloc (Blk.at1 _) _)
  have HZ0 : Hid (RgAt (((w.alloc (Obj.cells #[.int .i64 p, .int .u8 c, .int .i64 o, .int .i64 5, .int .i64 q, .int .u8 (b : Int), .int .u16 va, .int .i64 ln] 49)).alloc (Obj.cells r.cells 34)).alloc (Obj.cells zRg.cells 34)) (w.heap.size + 1 + 1) 34 zRg) := Lib.hid (Blk.at2 _ _)
  have HB0 : Hid (Below w.heap.size w (((w.alloc (Obj.cells #[.int .i64 p, .int .u8 c, .int .i64 o, .int .i64 5, .int .i64 q, .int .u8 (b : Int), .int .u16 va, .int .i64 ln] 49)).alloc (Obj.cells r.cells 34)).alloc (Obj.cells zRg.cells 34))) := Lib.hid (Below.alloc0 (Below.alloc0 (Below.alloc0 (Below.refl _ _) _) _) _)
  have HS : Hid (∀ u : World, Blk u w.heap.size 49 #[.int .i64 p, .int .u8 c, .int .i64 o, .int .i64 5, .int .i64 q, .int .u8 (b : Int), .int .u16 va, .int .i64 ln] → RgAt u (w.heap.size + 1) 34 r → (fun w' => (w'.cell? ⟨w.heap.size, 3, none⟩ = some (.int .i64 5) ∧ w'.cell? ⟨w.heap.size, 5, none⟩ = some (.int .u8 (b : Int)) ∧ w'.cell? ⟨w.heap.size, 6, none⟩ = some (.int .u16 va) ∧ w'.cell? ⟨w.heap.size, 7, none⟩ = some (.int .i64 ln)) ∧ (w'.cell? ⟨w.heap.size + 1, 0, none⟩ = some (.int .u8 r.A) ∧ w'.cell? ⟨w.heap.size + 1, 1, none⟩ = some (.int .u8 r.B) ∧ w'.cell? ⟨w.heap.size + 1, 2, none⟩ = some (.int .u8 r.D) ∧ w'.cell? ⟨w.heap.size + 1, 3, none⟩ = some (.int .u8 r.C) ∧ w'.cell? ⟨w.heap.size + 1, 4, none⟩ = some (.int .u16 r.X) ∧ w'.cell? ⟨w.heap.size + 1, 5, none⟩ = some (.int .u16 r.Y) ∧ w'.cell? ⟨w.heap.size + 1, 6, none⟩ = some (.int .u16 r.U) ∧ w'.cell? ⟨w.heap.size + 1, 7, none⟩ = some (.int .u16 r.S) ∧ w'.cell? ⟨w.heap.size + 1, 8, none⟩ = some (.int .u16 r.P))) u) := Lib.hid (fun u h1 h2 => ⟨⟨(Blk.c8 h1).2.2.2.1, (Blk.c8 h1).2.2.2.2.2.1, (Blk.c8 h1).2.2.2.2.2.2.1, (Blk.c8 h1).2.2.2.2.2.2.2⟩, h2.cells⟩)
  go_enter Tryd.func23, Tryd.ntmps23
  go_upto_region 5 with (fail)
  generalize (((w.alloc _).alloc _).alloc _) = V at HI0 HR0 HZ0 HB0 ⊢
  have S0 : Hid ((fun w' => (w'.cell? ⟨w.heap.size, 3, none⟩ = some (.int .i64 5) ∧ w'.cell? ⟨w.heap.size, 5, none⟩ = some (.int .u8 (b : Int)) ∧ w'.cell? ⟨w.heap.size, 6, none⟩ = some (.int .u16 va) ∧ w'.cell? ⟨w.heap.size, 7, none⟩ = some (.int .i64 ln)) ∧ (w'.cell? ⟨w.heap.size + 1, 0, none⟩ = some (.int .u8 r.A) ∧ w'.cell? ⟨w.heap.size + 1, 1, none⟩ = some (.int .u8 r.B) ∧ w'.cell? ⟨w.heap.size + 1, 2, none⟩ = some (.int .u8 r.D) ∧ w'.cell? ⟨w.heap.size + 1, 3, none⟩ = some (.int .u8 r.C) ∧ w'.cell? ⟨w.heap.size + 1, 4, none⟩ = some (.int .u16 r.X) ∧ w'.cell? ⟨w.heap.size + 1, 5, none⟩ = some (.int .u16 r.Y) ∧ w'.cell? ⟨w.heap.size + 1, 6, none⟩ = some (.int .u16 r.U) ∧ w'.cell? ⟨w.heap.size + 1, 7, none⟩ = some (.int .u16 r.S) ∧ w'.cell? ⟨w.heap.size + 1, 8, none⟩ = some (.int .u16 r.P))) V.drew) := Lib.hid (HS.out _ HI0.out HR0.out)
  obtain ⟨z0, z1, z2, z3, z4, z5, z6, z7, z8⟩ := RgAt.cells (show RgAt V (w.heap.size + 1 + 1) 34 zRg from HZ0.out)
  obtain ⟨f0, f1, f2, f3, f4, f5, f6, f7, f8⟩ := RgAt.frz (show RgAt V (w.heap.size + 1 + 1) 34 zRg from HZ0.out)
  have S2 : Hid ((fun w' => (w'.cell? ⟨w.heap.size, 3, none⟩ = some (.int .i64 5) ∧ w'.cell? ⟨w.heap.size, 5, none⟩ = some (.int .u8 (b : Int)) ∧ w'.cell? ⟨w.heap.size, 6, none⟩ = some (.int .u16 va) ∧ w'.cell? ⟨w.heap.size, 7, none⟩ = some (.int .i64 ln)) ∧ (w'.cell? ⟨w.heap.size + 1, 0, none⟩ = some (.int .u8 r.A) ∧ w'.cell? ⟨w.heap.size + 1, 1, none⟩ = some (.int .u8 r.B) ∧ w'.cell? ⟨w.heap.size + 1, 2, none⟩ = some (.int .u8 r.D) ∧ w'.cell? ⟨w.heap.size + 1, 3, none⟩ = some (.int .u8 r.C) ∧ w'.cell? ⟨w.heap.size + 1, 4, none⟩ = some (.int .u16 r.X) ∧ w'.cell? ⟨w.heap.size + 1, 5, none⟩ = some (.int .u16 r.Y) ∧ w'.cell? ⟨w.heap.size + 1, 6, none⟩ = some (.int .u16 r.U) ∧ w'.cell? ⟨w.heap.size + 1, 7, none⟩ = some (.int .u16 r.S) ∧ w'.cell? ⟨w.heap.size + 1, 8, none⟩ = some (.int .u16 r.P))) (set9i V (w.heap.size + 1 + 1) r).drew) := Lib.hid (HS.out (set9i V (w.heap.size + 1 + 1) r).drew (Blk.drew (set9i_farB (show Blk V w.heap.size 49 #[.int .i64 p, .int .u8 c, .int .i64 o, .int .i64 5, .int .i64 q, .int .u8 (b : Int), .int .u16 va, .int .i64 ln] from HI0.out) (by omega) r)) (Blk.drew (set9i_far (show RgAt V (w.heap.size + 1) 34 r from HR0.out) (by omega) r)))
  refine wp_region_noPanic ?_
  refine wp_region_held_drew (S := (fun w' => (w'.cell? ⟨w.heap.size, 3, none⟩ = some (.int .i64 5) ∧ w'.cell? ⟨w.heap.size, 5, none⟩ = some (.int .u8 (b : Int)) ∧ w'.cell? ⟨w.heap.size, 6, none⟩ = some (.int .u16 va) ∧ w'.cell? ⟨w.heap.size, 7, none⟩ = some (.int .i64 ln)) ∧ (w'.cell? ⟨w.heap.size + 1, 0, none⟩ = some (.int .u8 r.A) ∧ w'.cell? ⟨w.heap.size + 1, 1, none⟩ = some (.int .u8 r.B) ∧ w'.cell? ⟨w.heap.size + 1, 2, none⟩ = some (.int .u8 r.D) ∧ w'.cell? ⟨w.heap.size + 1, 3, none⟩ = some (.int .u8 r.C) ∧ w'.cell? ⟨w.heap.size + 1, 4, none⟩ = some (.int .u16 r.X) ∧ w'.cell? ⟨w.heap.size + 1, 5, none⟩ = some (.int .u16 r.Y) ∧ w'.cell? ⟨w.heap.size + 1, 6, none⟩ = some (.int .u16 r.U) ∧ w'.cell? ⟨w.heap.size + 1, 7, none⟩ = some (.int .u16 r.S) ∧ w'.cell? ⟨w.heap.size + 1, 8, none⟩ = some (.int .u16 r.P)))) (by kernel_rfl) ?_ (fun hH0 => ?_)
  · (try dsimp only); with_reducible exact S0.out
  refine wpAnyH_take (i := 0) (oi := ({ dst := some 25, op := Op.fieldAddr 49 (Operand.tmp 3) 4, type := 0, pos := "index.go:54", after := #[], guard := none } : Oper)) (v := ?_) rfl (by kernel_rfl) (by kernel_rfl) (by kernel_rfl) (fun _ _ _ h => h) (Or.inl ⟨by rfl, ?_⟩) (by assumption) ?_
  rotate_left 1
  · (intro w hSw; (try dsimp only at hSw); go_simp; (try with_reducible rfl))
  (try simp only [Act.put, List.setIfInBounds_toArray, List.set_cons_zero, List.set_cons_succ])
  refine wpAnyH_take (i := 1) (oi := ({ dst := some 26, op := Op.load 32 (Operand.tmp 25), type := 32, pos := "index.go:54", after := #[{ on := 0, ground := Ground.data }], guard := none } : Oper)) (v := ?_) rfl (by kernel_rfl) (by kernel_rfl) (by kernel_rfl) (fun _ _ _ h => h) (Or.inl ⟨by rfl, ?_⟩) (by assumption) ?_
  rotate_left 1
  · (intro w hSw; (try dsimp only at hSw); go_simp; (try with_reducible rfl))
  (try simp only [Act.put, List.setIfInBounds_toArray, List.set_cons_zero, List.set_cons_succ])
  refine wpAnyH_take (i := 2) (oi := ({ dst := some 27, op := Op.load 34 (Operand.tmp 4), type := 34, pos := "index.go:54", after := #[{ on := 3, ground := Ground.gcOnly Departure.lateStores }], guard := none } : Oper)) (v := ?_) rfl (by kernel_rfl) (by kernel_rfl) (by kernel_rfl) (fun _ _ _ h => h) (Or.inl ⟨by rfl, ?_⟩) (by assumption) ?_
  rotate_left 1
  · (intro w hSw; (try dsimp only at hSw); go_simp; (try with_reducible rfl))
  (try simp only [Act.put, List.setIfInBounds_toArray, List.set_cons_zero, List.set_cons_succ])
  refine wpAnyH_take (i := 3) (oi := ({ dst := some 6, op := Op.assign (Operand.tmp 26), type := 32, pos := "index.go:54", after := #[{ on := 1, ground := Ground.data }, { on := 0, ground := Ground.phase }, { on := 1, ground := Ground.phase }, { on := 2, ground := Ground.textOnly Departure.lateStores }], guard := none } : Oper)) (v := ?_) rfl (by kernel_rfl) (by kernel_rfl) (by kernel_rfl) (fun _ _ _ h => h) (Or.inl ⟨by rfl, ?_⟩) (by assumption) ?_
  rotate_left 1
  · (intro w hSw; (try dsimp only at hSw); go_simp; (try with_reducible rfl))
  (try simp only [Act.put, List.setIfInBounds_toArray, List.set_cons_zero, List.set_cons_succ])
  refine wpAnyH_ready (rs := [4]) (by kernel_rfl) (by simp) ?_
  refine AllReadyH.cons (o := ({ dst := none, op := Op.store 34 (Operand.tmp 7) (Operand.tmp 27), type := 0, pos := "index.go:54", after := #[{ on := 2, ground := Ground.data }, { on := 3, ground := Ground.chain }, { on := 0, ground := Ground.phase }, { on := 1, ground := Ground.phase }, { on := 2, ground := Ground.phase }, { on := 3, ground := Ground.phase }], guard := none } : Oper)) rfl (fun K hK => ?_) ?_
  rotate_left 1
  · exact AllReadyH.nil
  go_simp
  first | (refine hK.out _ _ ?_ (fun hH1 => ?_)) | (go_wp2_with fail; refine hK.out _ _ ?_ (fun hH1 => ?_))
  · (try dsimp only); with_reducible exact S2.out
  clear hK K hH0
  (try simp only [Act.put, List.setIfInBounds_toArray, List.set_cons_zero, List.set_cons_succ])
  refine wpAnyH_take (i := 5) (oi := ({ dst := some 8, op := Op.assign (Operand.const (Value.bool true)), type := 4, pos := "index.go:54", after := #[{ on := 4, ground := Ground.chain }, { on := 0, ground := Ground.phase }, { on := 1, ground := Ground.phase }, { on := 2, ground := Ground.phase }, { on := 3, ground := Ground.phase }, { on := 4, ground := Ground.phase }], guard := none } : Oper)) (v := ?_) rfl (by kernel_rfl) (by kernel_rfl) (by kernel_rfl) (fun _ _ _ h => h) (Or.inl ⟨by rfl, ?_⟩) (by assumption) ?_
  rotate_left 1
  · (intro w hSw; (try dsimp only at hSw); go_simp; (try with_reducible rfl))
  (try simp only [Act.put, List.setIfInBounds_toArray, List.set_cons_zero, List.set_cons_succ])
  refine wpAnyH_done (by kernel_rfl) ?_ _
  refine NoPanic.normal ?_
  have HF : Hid (RgAt (set9i V (w.heap.size + 1 + 1) r) (w.heap.size + 1 + 1) 34 r) := Lib.hid (set9i_at (show RgAt V (w.heap.size + 1 + 1) 34 zRg from HZ0.out) r)
  have HG : Hid (Below w.heap.size w (set9i V (w.heap.size + 1 + 1) r)) := Lib.hid (set9i_below (show Below w.heap.size w V from HB0.out) (by omega) r)
  go_wp2
  refine bodyPost_ret (v := .tuple #[.int .u16 (va), .agg r.cells, .bool true]) (resInA _ _ (w.heap.size + 1 + 1) r.cells (Blk.drew HF.out) rfl rfl (va) rfl true rfl) rfl ⟨rfl, Below.drew0 HG.out⟩
set_option maxRecDepth 100000 in
set_option maxHeartbeats 8000000 in
theorem inA_o (p c o m q va ln at_ : Int) (b : Nat) (hb : b < 256) (r : Rg) (hr : r.Ok) (v0 : 0 ≤ va) (v1 : va < 65536) (h : m ≠ 3 ∧ m ≠ 5 ∧ m ≠ 4) (w : World) :
    Calls Tryd.prog 23 #[.agg #[.int .i64 p, .int .u8 c, .int .i64 o, .int .i64 m, .int .i64 q, .int .u8 (b : Int), .int .u16 va, .int .i64 ln], .agg r.cells, .int .u16 at_] w fun e w' => e = .returned (.tuple #[.int .u16 (0), .agg r.cells, .bool false]) ∧ Below w.heap.size w w' := by
  have HI0 : Hid (Blk (((w.alloc (Obj.cells #[.int .i64 p, .int .u8 c, .int .i64 o, .int .i64 m, .int .i64 q, .int .u8 (b : Int), .int .u16 va, .int .i64 ln] 49)).alloc (Obj.cells r.cells 34)).alloc (Obj.cells zRg.cells 34)) w.heap.size 49 #[.int .i64 p, .int .u8 c, .int .i64 o, .int .i64 m, .int .i64 q, .int .u8 (b : Int), .int .u16 va, .int .i64 ln]) := Lib.hid (Blk.alloc (Blk.alloc (Blk.new _ _ _ (0, 0)) _) _)
  have HR0 : Hid (RgAt (((w.alloc (Obj.cells #[.int .i64 p, .int .u8 c, .int .i64 o, .int .i64 m, .int .i64 q, .int .u8 (b : Int), .int .u16 va, .int .i64 ln] 49)).alloc (Obj.cells r.cells 34)).alloc (Obj.cells zRg.cells 34)) (w.heap.size + 1) 34 r) := Lib.hid (Blk.alloc (Blk.at1 _) _)
  have HZ0 : Hid (RgAt (((w.alloc (Obj.cells #[.int .i64 p, .int .u8 c, .int .i64 o, .int .i64 m, .int .i64 q, .int .u8 (b : Int), .int .u16 va, .int .i64 ln] 49)).alloc (Obj.cells r.cells 34)).alloc (Obj.cells zRg.cells 34)) (w.heap.size + 1 + 1) 34 zRg) := Lib.hid (Blk.at2 _ _)
  have HB0 : Hid (Below w.heap.size w (((w.alloc (Obj.cells #[.int .i64 p, .int .u8 c, .int .i64 o, .int .i64 m, .int .i64 q, .int .u8 (b : Int), .int .u16 va, .int .i64 ln] 49)).alloc (Obj.cells r.cells 34)).alloc (Obj.cells zRg.cells 34))) := Lib.hid (Below.alloc0 (Below.alloc0 (Below.alloc0 (Below.refl _ _) _) _) _)
  have HS : Hid (∀ u : World, Blk u w.heap.size 49 #[.int .i64 p, .int .u8 c, .int .i64 o, .int .i64 m, .int .i64 q, .int .u8 (b : Int), .int .u16 va, .int .i64 ln] → RgAt u (w.heap.size + 1) 34 r → (fun w' => (w'.cell? ⟨w.heap.size, 3, none⟩ = some (.int .i64 m) ∧ w'.cell? ⟨w.heap.size, 5, none⟩ = some (.int .u8 (b : Int)) ∧ w'.cell? ⟨w.heap.size, 6, none⟩ = some (.int .u16 va) ∧ w'.cell? ⟨w.heap.size, 7, none⟩ = some (.int .i64 ln)) ∧ (w'.cell? ⟨w.heap.size + 1, 0, none⟩ = some (.int .u8 r.A) ∧ w'.cell? ⟨w.heap.size + 1, 1, none⟩ = some (.int .u8 r.B) ∧ w'.cell? ⟨w.heap.size + 1, 2, none⟩ = some (.int .u8 r.D) ∧ w'.cell? ⟨w.heap.size + 1, 3, none⟩ = some (.int .u8 r.C) ∧ w'.cell? ⟨w.heap.size + 1, 4, none⟩ = some (.int .u16 r.X) ∧ w'.cell? ⟨w.heap.size + 1, 5, none⟩ = some (.int .u16 r.Y) ∧ w'.cell? ⟨w.heap.size + 1, 6, none⟩ = some (.int .u16 r.U) ∧ w'.cell? ⟨w.heap.size + 1, 7, none⟩ = some (.int .u16 r.S) ∧ w'.cell? ⟨w.heap.size + 1, 8, none⟩ = some (.int .u16 r.P))) u) := Lib.hid (fun u h1 h2 => ⟨⟨(Blk.c8 h1).2.2.2.1, (Blk.c8 h1).2.2.2.2.2.1, (Blk.c8 h1).2.2.2.2.2.2.1, (Blk.c8 h1).2.2.2.2.2.2.2⟩, h2.cells⟩)
  have n3 : (m == 3) = false := by rw [beq_eq_false_iff_ne]; exact h.1
  have n5 : (m == 5) = false := by rw [beq_eq_false_iff_ne]; exact h.2.1
  have n4 : (m == 4) = false := by rw [beq_eq_false_iff_ne]; exact h.2.2
  clear h
  go_enter Tryd.func23, Tryd.ntmps23
  go_upto_region 9 with (fail)
  generalize (((w.alloc _).alloc _).alloc _) = V at HI0 HR0 HZ0 HB0 ⊢
  have S0 : Hid ((fun w' => (w'.cell? ⟨w.heap.size, 3, none⟩ = some (.int .i64 m) ∧ w'.cell? ⟨w.heap.size, 5, none⟩ = some (.int .u8 (b : Int)) ∧ w'.cell? ⟨w.heap.size, 6, none⟩ = some (.int .u16 va) ∧ w'.cell? ⟨w.heap.size, 7, none⟩ = some (.int .i64 ln)) ∧ (w'.cell? ⟨w.heap.size + 1, 0, none⟩ = some (.int .u8 r.A) ∧ w'.cell? ⟨w.heap.size + 1, 1, none⟩ = some (.int .u8 r.B) ∧ w'.cell? ⟨w.heap.size + 1, 2, none⟩ = some (.int .u8 r.D) ∧ w'.cell? ⟨w.heap.size + 1, 3, none⟩ = some (.int .u8 r.C) ∧ w'.cell? ⟨w.heap.size + 1, 4, none⟩ = some (.int .u16 r.X) ∧ w'.cell? ⟨w.heap.size + 1, 5, none⟩ = some (.int .u16 r.Y) ∧ w'.cell? ⟨w.heap.size + 1, 6, none⟩ = some (.int .u16 r.U) ∧ w'.cell? ⟨w.heap.size + 1, 7, none⟩ = some (.int .u16 r.S) ∧ w'.cell? ⟨w.heap.size + 1, 8, none⟩ = some (.int .u16 r.P))) V.drew) := Lib.hid (HS.out _ HI0.out HR0.out)
  obtain ⟨z0, z1, z2, z3, z4, z5, z6, z7, z8⟩ := RgAt.cells (show RgAt V (w.heap.size + 1 + 1) 34 zRg from HZ0.out)
  obtain ⟨f0, f1, f2, f3, f4, f5, f6, f7, f8⟩ := RgAt.frz (show RgAt V (w.heap.size + 1 + 1) 34 zRg from HZ0.out)
  have S2 : Hid ((fun w' => (w'.cell? ⟨w.heap.size, 3, none⟩ = some (.int .i64 m) ∧ w'.cell? ⟨w.heap.size, 5, none⟩ = some (.int .u8 (b : Int)) ∧ w'.cell? ⟨w.heap.size, 6, none⟩ = some (.int .u16 va) ∧ w'.cell? ⟨w.heap.size, 7, none⟩ = some (.int .i64 ln)) ∧ (w'.cell? ⟨w.heap.size + 1, 0, none⟩ = some (.int .u8 r.A) ∧ w'.cell? ⟨w.heap.size + 1, 1, none⟩ = some (.int .u8 r.B) ∧ w'.cell? ⟨w.heap.size + 1, 2, none⟩ = some (.int .u8 r.D) ∧ w'.cell? ⟨w.heap.size + 1, 3, none⟩ = some (.int .u8 r.C) ∧ w'.cell? ⟨w.heap.size + 1, 4, none⟩ = some (.int .u16 r.X) ∧ w'.cell? ⟨w.heap.size + 1, 5, none⟩ = some (.int .u16 r.Y) ∧ w'.cell? ⟨w.heap.size + 1, 6, none⟩ = some (.int .u16 r.U) ∧ w'.cell? ⟨w.heap.size + 1, 7, none⟩ = some (.int .u16 r.S) ∧ w'.cell? ⟨w.heap.size + 1, 8, none⟩ = some (.int .u16 r.P))) (set9i V (w.heap.size + 1 + 1) r).drew) := Lib.hid (HS.out (set9i V (w.heap.size + 1 + 1) r).drew (Blk.drew (set9i_farB (show Blk V w.heap.size 49 #[.int .i64 p, .int .u8 c, .int .i64 o, .int .i64 m, .int .i64 q, .int .u8 (b : Int), .int .u16 va, .int .i64 ln] from HI0.out) (by omega) r)) (Blk.drew (set9i_far (show RgAt V (w.heap.size + 1) 34 r from HR0.out) (by omega) r)))
  refine wp_region_noPanic ?_
  refine wp_region_held_drew (S := (fun w' => (w'.cell? ⟨w.heap.size, 3, none⟩ = some (.int .i64 m) ∧ w'.cell? ⟨w.heap.size, 5, none⟩ = some (.int .u8 (b : Int)) ∧ w'.cell? ⟨w.heap.size, 6, none⟩ = some (.int .u16 va) ∧ w'.cell? ⟨w.heap.size, 7, none⟩ = some (.int .i64 ln)) ∧ (w'.cell? ⟨w.heap.size + 1, 0, none⟩ = some (.int .u8 r.A) ∧ w'.cell? ⟨w.heap.size + 1, 1, none⟩ = some (.int .u8 r.B) ∧ w'.cell? ⟨w.heap.size + 1, 2, none⟩ = some (.int .u8 r.D) ∧ w'.cell? ⟨w.heap.size + 1, 3, none⟩ = some (.int .u8 r.C) ∧ w'.cell? ⟨w.heap.size + 1, 4, none⟩ = some (.int .u16 r.X) ∧ w'.cell? ⟨w.heap.size + 1, 5, none⟩ = some (.int .u16 r.Y) ∧ w'.cell? ⟨w.heap.size + 1, 6, none⟩ = some (.int .u16 r.U) ∧ w'.cell? ⟨w.heap.size + 1, 7, none⟩ = some (.int .u16 r.S) ∧ w'.cell? ⟨w.heap.size + 1, 8, none⟩ = some (.int .u16 r.P)))) (by kernel_rfl) ?_ (fun hH0 => ?_)
  · (try dsimp only); with_reducible exact S0.out
  refine wpAnyH_take (i := 0) (oi := ({ dst := some 47, op := Op.load 34 (Operand.tmp 4), type := 34, pos := "index.go:59", after := #[{ on := 1, ground := Ground.gcOnly Departure.lateStores }], guard := none } : Oper)) (v := ?_) rfl (by kernel_rfl) (by kernel_rfl) (by kernel_rfl) (fun _ _ _ h => h) (Or.inl ⟨by rfl, ?_⟩) (by assumption) ?_
  rotate_left 1
  · (intro w hSw; (try dsimp only at hSw); go_simp; (try with_reducible rfl))
  (try simp only [Act.put, List.setIfInBounds_toArray, List.set_cons_zero, List.set_cons_succ])
  refine wpAnyH_take (i := 1) (oi := ({ dst := some 6, op := Op.assign (Operand.const (Value.int IntKind.u16 0)), type := 32, pos := "index.go:59", after := #[{ on := 0, ground := Ground.textOnly Departure.lateStores }], guard := none } : Oper)) (v := ?_) rfl (by kernel_rfl) (by kernel_rfl) (by kernel_rfl) (fun _ _ _ h => h) (Or.inl ⟨by rfl, ?_⟩) (by assumption) ?_
  rotate_left 1
  · (intro w hSw; (try dsimp only at hSw); go_simp; (try with_reducible rfl))
  (try simp only [Act.put, List.setIfInBounds_toArray, List.set_cons_zero, List.set_cons_succ])
  refine wpAnyH_ready (rs := [2]) (by kernel_rfl) (by simp) ?_
  refine AllReadyH.cons (o := ({ dst := none, op := Op.store 34 (Operand.tmp 7) (Operand.tmp 47), type := 0, pos := "index.go:59", after := #[{ on := 0, ground := Ground.data }, { on := 1, ground := Ground.chain }, { on := 0, ground := Ground.phase }, { on := 1, ground := Ground.phase }], guard := none } : Oper)) rfl (fun K hK => ?_) ?_
  rotate_left 1
  · exact AllReadyH.nil
  go_simp
  first | (refine hK.out _ _ ?_ (fun hH1 => ?_)) | (go_wp2_with fail; refine hK.out _ _ ?_ (fun hH1 => ?_))
  · (try dsimp only); with_reducible exact S2.out
  clear hK K hH0
  (try simp only [Act.put, List.setIfInBounds_toArray, List.set_cons_zero, List.set_cons_succ])
  refine wpAnyH_take (i := 3) (oi := ({ dst := some 8, op := Op.assign (Operand.const (Value.bool false)), type := 4, pos := "index.go:59", after := #[{ on := 2, ground := Ground.chain }, { on := 0, ground := Ground.phase }, { on := 1, ground := Ground.phase }, { on := 2, ground := Ground.phase }], guard := none } : Oper)) (v := ?_) rfl (by kernel_rfl) (by kernel_rfl) (by kernel_rfl) (fun _ _ _ h => h) (Or.inl ⟨by rfl, ?_⟩) (by assumption) ?_
  rotate_left 1
  · (intro w hSw; (try dsimp only at hSw); go_simp; (try with_reducible rfl))
  (try simp only [Act.put, List.setIfInBounds_toArray, List.set_cons_zero, List.set_cons_succ])
  refine wpAnyH_done (by kernel_rfl) ?_ _
  refine NoPanic.normal ?_
  have HF : Hid (RgAt (set9i V (w.heap.size + 1 + 1) r) (w.heap.size + 1 + 1) 34 r) := Lib.hid (set9i_at (show RgAt V (w.heap.size + 1 + 1) 34 zRg from HZ0.out) r)
  have HG : Hid (Below w.heap.size w (set9i V (w.heap.size + 1 + 1) r)) := Lib.hid (set9i_below (show Below w.heap.size w V from HB0.out) (by omega) r)
  go_wp2
  refine bodyPost_ret (v := .tuple #[.int .u16 (0), .agg r.cells, .bool false]) (resInA _ _ (w.heap.size + 1 + 1) r.cells (Blk.drew HF.out) rfl rfl (0) rfl false rfl) rfl ⟨rfl, Below.drew0 HG.out⟩
set_option maxRecDepth 100000 in
set_option maxHeartbeats 8000000 in
theorem inF_3 (p c o q va ln at_ : Int) (b : Nat) (hb : b < 256) (r : Rg) (hr : r.Ok) (v0 : 0 ≤ va) (v1 : va < 65536) (w : World) :
    Calls Tryd.prog 24 #[.agg #[.int .i64 p, .int .u8 c, .int .i64 o, .int .i64 3, .int .i64 q, .int .u8 (b : Int), .int .u16 va, .int .i64 ln], .agg r.cells, .int .u16 at_] w fun e w' => e = .returned (.tuple #[.int .u16 (256 * r.D + va % 256), .agg r.cells, .bool true]) ∧ Below w.heap.size w w' := by
  have HI0 : Hid (Blk (((w.alloc (Obj.cells #[.int .i64 p, .int .u8 c, .int .i64 o, .int .i64 3, .int .i64 q, .int .u8 (b : Int), .int .u16 va, .int .i64 ln] 49)).alloc (Obj.cells r.cells 34)).alloc (Obj.cells zRg.cells 34)) w.heap.size 49 #[.int .i64 p, .int .u8 c, .int .i64 o, .int .i64 3, .int .i64 q, .int .u8 (b : Int), .int .u16 va, .int .i64 ln]) := Lib.hid (Blk.alloc (Blk.alloc (Blk.new _ _ _ (0, 0)) _) _)
  have HR0 : Hid (RgAt (((w.alloc (Obj.cells #[.int .i64 p, .int .u8 c, .int .i64 o, .int .i64 3, .int .i64 q, .int .u8 (b : Int), .int .u16 va, .int .i64 ln] 49)).alloc (Obj.cells r.cells 34)).alloc (Obj.cells zRg.cells 34)) (w.heap.size + 1) 34 r) := Lib.hid (Blk.alloc (Blk.at1 _) _)
  have HZ0 : Hid (RgAt (((w.alloc (Obj.cells #[.int .i64 p, .int .u8 c, .int .i64 o, .int .i64 3, .int .i64 q, .int .u8 (b : Int), .int .u16 va, .int .i64 ln] 49)).alloc (Obj.cells r.cells 34)).alloc (Obj.cells zRg.cells 34)) (w.heap.size + 1 + 1) 34 zRg) := Lib.hid (Blk.at2 _ _)
  have HB0 : Hid (Below w.heap.size w (((w.alloc (Obj.cells #[.int .i64 p, .int .u8 c, .int .i64 o, .int .i64 3, .int .i64 q, .int .u8 (b : Int), .int .u16 va, .int .i64 ln] 49)).alloc (Obj.cells r.cells 34)).alloc (Obj.cells zRg.cells 34))) := Lib.hid (Below.alloc0 (Below.alloc0 (Below.alloc0 (Below.refl _ _) _) _) _)
  have HS : Hid (∀ u : World, Blk u w.heap.size 49 #[.int .i64 p, .int .u8 c, .int .i64 o, .int .i64 3, .int .i64 q, .int .u8 (b : Int), .int .u16 va, .int .i64 ln] → RgAt u (w.heap.size + 1) 34 r → (fun w' => (w'.cell? ⟨w.heap.size, 3, none⟩ = some (.int .i64 3) ∧ w'.cell? ⟨w.heap.size, 5, none⟩ = some (.int .u8 (b : Int)) ∧ w'.cell? ⟨w.heap.size, 6, none⟩ = some (.int .u16 va) ∧ w'.cell? ⟨w.heap.size, 7, none⟩ = some (.int .i64 ln)) ∧ (w'.cell? ⟨w.heap.size + 1, 0, none⟩ = some (.int .u8 r.A) ∧ w'.cell? ⟨w.heap.size + 1, 1, none⟩ = some (.int .u8 r.B) ∧ w'.cell? ⟨w.heap.size + 1, 2, none⟩ = some (.int .u8 r.D) ∧ w'.cell? ⟨w.heap.size + 1, 3, none⟩ = some (.int .u8 r.C) ∧ w'.cell? ⟨w.heap.size + 1, 4, none⟩ = some (.int .u16 r.X) ∧ w'.cell? ⟨w.heap.size + 1, 5, none⟩ = some (.int .u16 r.Y) ∧ w'.cell? ⟨w.heap.size + 1, 6, none⟩ = some (.int .u16 r.U) ∧ w'.cell? ⟨w.heap.size + 1, 7, none⟩ = some (.int .u16 r.S) ∧ w'.cell? ⟨w.heap.size + 1, 8, none⟩ = some (.int .u16 r.P))) u) := Lib.hid (fun u h1 h2 => ⟨⟨(Blk.c8 h1).2.2.2.1, (Blk.c8 h1).2.2.2.2.2.1, (Blk.c8 h1).2.2.2.2.2.2.1, (Blk.c8 h1).2.2.2.2.2.2.2⟩, h2.cells⟩)
  have d0 := hr.d0
  have d1 := hr.d1
  have t0 : IntKind.u16.wrap r.D = r.D := by rw [IntKind.wrap_u16]; omega
  have t1 : IntKind.u16.wrap (r.D * 256) = r.D * 256 := by rw [IntKind.wrap_u16]; omega
  have t2 : va.tmod 256 = va % 256 := Int.tmod_eq_emod_of_nonneg v0
  have t3 : IntKind.u16.wrap (r.D * 256 + va % 256) = 256 * r.D + va % 256 := by rw [IntKind.wrap_u16]; omega
  go_enter Tryd.func24, Tryd.ntmps24
  go_upto_region 2 with (fail)
  generalize (((w.alloc _).alloc _).alloc _) = V at HI0 HR0 HZ0 HB0 ⊢
  have S0 : Hid ((fun w' => (w'.cell? ⟨w.heap.size, 3, none⟩ = some (.int .i64 3) ∧ w'.cell? ⟨w.heap.size, 5, none⟩ = some (.int .u8 (b : Int)) ∧ w'.cell? ⟨w.heap.size, 6, none⟩ = some (.int .u16 va) ∧ w'.cell? ⟨w.heap.size, 7, none⟩ = some (.int .i64 ln)) ∧ (w'.cell? ⟨w.heap.size + 1, 0, none⟩ = some (.int .u8 r.A) ∧ w'.cell? ⟨w.heap.size + 1, 1, none⟩ = some (.int .u8 r.B) ∧ w'.cell? ⟨w.heap.size + 1, 2, none⟩ = some (.int .u8 r.D) ∧ w'.cell? ⟨w.heap.size + 1, 3, none⟩ = some (.int .u8 r.C) ∧ w'.cell? ⟨w.heap.size + 1, 4, none⟩ = some (.int .u16 r.X) ∧ w'.cell? ⟨w.heap.size + 1, 5, none⟩ = some (.int .u16 r.Y) ∧ w'.cell? ⟨w.heap.size + 1, 6, none⟩ = some (.int .u16 r.U) ∧ w'.cell? ⟨w.heap.size + 1, 7, none⟩ = some (.int .u16 r.S) ∧ w'.cell? ⟨w.heap.size + 1, 8, none⟩ = some (.int .u16 r.P))) V.drew) := Lib.hid (HS.out _ HI0.out HR0.out)
  obtain ⟨z0, z1, z2, z3, z4, z5, z6, z7, z8⟩ := RgAt.cells (show RgAt V (w.heap.size + 1 + 1) 34 zRg from HZ0.out)
  obtain ⟨f0, f1, f2, f3, f4, f5, f6, f7, f8⟩ := RgAt.frz (show RgAt V (w.heap.size + 1 + 1) 34 zRg from HZ0.out)
  have S2 : Hid ((fun w' => (w'.cell? ⟨w.heap.size, 3, none⟩ = some (.int .i64 3) ∧ w'.cell? ⟨w.heap.size, 5, none⟩ = some (.int .u8 (b : Int)) ∧ w'.cell? ⟨w.heap.size, 6, none⟩ = some (.int .u16 va) ∧ w'.cell? ⟨w.heap.size, 7, none⟩ = some (.int .i64 ln)) ∧ (w'.cell? ⟨w.heap.size + 1, 0, none⟩ = some (.int .u8 r.A) ∧ w'.cell? ⟨w.heap.size + 1, 1, none⟩ = some (.int .u8 r.B) ∧ w'.cell? ⟨w.heap.size + 1, 2, none⟩ = some (.int .u8 r.D) ∧ w'.cell? ⟨w.heap.size + 1, 3, none⟩ = some (.int .u8 r.C) ∧ w'.cell? ⟨w.heap.size + 1, 4, none⟩ = some (.int .u16 r.X) ∧ w'.cell? ⟨w.heap.size + 1, 5, none⟩ = some (.int .u16 r.Y) ∧ w'.cell? ⟨w.heap.size + 1, 6, none⟩ = some (.int .u16 r.U) ∧ w'.cell? ⟨w.heap.size + 1, 7, none⟩ = some (.int .u16 r.S) ∧ w'.cell? ⟨w.heap.size + 1, 8, none⟩ = some (.int .u16 r.P))) (set9i V (w.heap.size + 1 + 1) r).drew) := Lib.hid (HS.out (set9i V (w.heap.size + 1 + 1) r).drew (Blk.drew (set9i_farB (show Blk V w.heap.size 49 #[.int .i64 p, .int .u8 c, .int .i64 o, .int .i64 3, .int .i64 q, .int .u8 (b : Int), .int .u16 va, .int .i64 ln] from HI0.out) (by omega) r)) (Blk.drew (set9i_far (show RgAt V (w.heap.size + 1) 34 r from HR0.out) (by omega) r)))
  refine wp_region_noPanic ?_
  refine wp_region_held_drew (S := (fun w' => (w'.cell? ⟨w.heap.size, 3, none⟩ = some (.int .i64 3) ∧ w'.cell? ⟨w.heap.size, 5, none⟩ = some (.int .u8 (b : Int)) ∧ w'.cell? ⟨w.heap.size, 6, none⟩ = some (.int .u16 va) ∧ w'.cell? ⟨w.heap.size, 7, none⟩ = some (.int .i64 ln)) ∧ (w'.cell? ⟨w.heap.size + 1, 0, none⟩ = some (.int .u8 r.A) ∧ w'.cell? ⟨w.heap.size + 1, 1, none⟩ = some (.int .u8 r.B) ∧ w'.cell? ⟨w.heap.size + 1, 2, none⟩ = some (.int .u8 r.D) ∧ w'.cell? ⟨w.heap.size + 1, 3, none⟩ = some (.int .u8 r.C) ∧ w'.cell? ⟨w.heap.size + 1, 4, none⟩ = some (.int .u16 r.X) ∧ w'.cell? ⟨w.heap.size + 1, 5, none⟩ = some (.int .u16 r.Y) ∧ w'.cell? ⟨w.heap.size + 1, 6, none⟩ = some (.int .u16 r.U) ∧ w'.cell? ⟨w.heap.size + 1, 7, none⟩ = some (.int .u16 r.S) ∧ w'.cell? ⟨w.heap.size + 1, 8, none⟩ = some (.int .u16 r.P)))) (by kernel_rfl) ?_ (fun hH0 => ?_)
  · (try dsimp only); with_reducible exact S0.out
  refine wpAnyH_take (i := 0) (oi := ({ dst := some 15, op := Op.fieldAddr 34 (Operand.tmp 4) 2, type := 0, pos := "ref.go:30", after := #[], guard := none } : Oper)) (v := ?_) rfl (by kernel_rfl) (by kernel_rfl) (by kernel_rfl) (fun _ _ _ h => h) (Or.inl ⟨by rfl, ?_⟩) (by assumption) ?_
  rotate_left 1
  · (intro w hSw; (try dsimp only at hSw); go_simp; (try with_reducible rfl))
  (try simp only [Act.put, List.setIfInBounds_toArray, List.set_cons_zero, List.set_cons_succ])
  refine wpAnyH_take (i := 1) (oi := ({ dst := some 16, op := Op.load 5 (Operand.tmp 15), type := 5, pos := "ref.go:30", after := #[{ on := 0, ground := Ground.data }], guard := none } : Oper)) (v := ?_) rfl (by kernel_rfl) (by kernel_rfl) (by kernel_rfl) (fun _ _ _ h => h) (Or.inl ⟨by rfl, ?_⟩) (by assumption) ?_
  rotate_left 1
  · (intro w hSw; (try dsimp only at hSw); go_simp; (try with_reducible rfl))
  (try simp only [Act.put, List.setIfInBounds_toArray, List.set_cons_zero, List.set_cons_succ])
  refine wpAnyH_take (i := 2) (oi := ({ dst := some 17, op := Op.convert 5 32 (Operand.tmp 16), type := 32, pos := "ref.go:30", after := #[{ on := 1, ground := Ground.data }], guard := none } : Oper)) (v := ?_) rfl (by kernel_rfl) (by kernel_rfl) (by kernel_rfl) (fun _ _ _ h => h) (Or.inl ⟨by rfl, ?_⟩) (by assumption) ?_
  rotate_left 1
  · (intro w hSw; (try dsimp only at hSw); go_simp; (try with_reducible rfl))
  (try simp only [Act.put, List.setIfInBounds_toArray, List.set_cons_zero, List.set_cons_succ])
  refine wpAnyH_take (i := 3) (oi := ({ dst := some 18, op := Op.binOp BinOp.mul 32 (Operand.tmp 17) (Operand.const (Value.int IntKind.u16 256)) 32, type := 32, pos := "ref.go:30", after := #[{ on := 2, ground := Ground.data }], guard := none } : Oper)) (v := ?_) rfl (by kernel_rfl) (by kernel_rfl) (by kernel_rfl) (fun _ _ _ h => h) (Or.inl ⟨by rfl, ?_⟩) (by assumption) ?_
  rotate_left 1
  · (intro w hSw; (try dsimp only at hSw); go_simp; (try with_reducible rfl))
  (try simp only [Act.put, List.setIfInBounds_toArray, List.set_cons_zero, List.set_cons_succ])
  refine wpAnyH_take (i := 4) (oi := ({ dst := some 19, op := Op.fieldAddr 49 (Operand.tmp 3) 4, type := 0, pos := "ref.go:30", after := #[], guard := none } : Oper)) (v := ?_) rfl (by kernel_rfl) (by kernel_rfl) (by kernel_rfl) (fun _ _ _ h => h) (Or.inl ⟨by rfl, ?_⟩) (by assumption) ?_
  rotate_left 1
  · (intro w hSw; (try dsimp only at hSw); go_simp; (try with_reducible rfl))
  (try simp only [Act.put, List.setIfInBounds_toArray, List.set_cons_zero, List.set_cons_succ])
  refine wpAnyH_take (i := 5) (oi := ({ dst := some 20, op := Op.load 32 (Operand.tmp 19), type := 32, pos := "ref.go:30", after := #[{ on := 4, ground := Ground.data }], guard := none } : Oper)) (v := ?_) rfl (by kernel_rfl) (by kernel_rfl) (by kernel_rfl) (fun _ _ _ h => h) (Or.inl ⟨by rfl, ?_⟩) (by assumption) ?_
  rotate_left 1
  · (intro w hSw; (try dsimp only at hSw); go_simp; (try with_reducible rfl))
  (try simp only [Act.put, List.setIfInBounds_toArray, List.set_cons_zero, List.set_cons_succ])
  refine wpAnyH_take (i := 6) (oi := ({ dst := some 21, op := Op.binOp BinOp.rem 32 (Operand.tmp 20) (Operand.const (Value.int IntKind.u16 256)) 32, type := 32, pos := "ref.go:30", after := #[{ on := 5, ground := Ground.data }], guard := none } : Oper)) (v := ?_) rfl (by kernel_rfl) (by kernel_rfl) (by kernel_rfl) (fun _ _ _ h => h) (Or.inl ⟨by rfl, ?_⟩) (by assumption) ?_
  rotate_left 1
  · (intro w hSw; (try dsimp only at hSw); go_simp; (try with_reducible rfl))
  (try simp only [Act.put, List.setIfInBounds_toArray, List.set_cons_zero, List.set_cons_succ])
  refine wpAnyH_take (i := 7) (oi := ({ dst := some 22, op := Op.binOp BinOp.add 32 (Operand.tmp 18) (Operand.tmp 21) 32, type := 32, pos := "ref.go:30", after := #[{ on := 3, ground := Ground.data }, { on := 6, ground := Ground.data }], guard := none } : Oper)) (v := ?_) rfl (by kernel_rfl) (by kernel_rfl) (by kernel_rfl) (fun _ _ _ h => h) (Or.inl ⟨by rfl, ?_⟩) (by assumption) ?_
  rotate_left 1
  · (intro w hSw; (try dsimp only at hSw); go_simp; (try with_reducible rfl))
  (try simp only [Act.put, List.setIfInBounds_toArray, List.set_cons_zero, List.set_cons_succ])
  refine wpAnyH_take (i := 8) (oi := ({ dst := some 23, op := Op.load 34 (Operand.tmp 4), type := 34, pos := "ref.go:30", after := #[{ on := 9, ground := Ground.gcOnly Departure.lateStores }], guard := none } : Oper)) (v := ?_) rfl (by kernel_rfl) (by kernel_rfl) (by kernel_rfl) (fun _ _ _ h => h) (Or.inl ⟨by rfl, ?_⟩) (by assumption) ?_
  rotate_left 1
  · (intro w hSw; (try dsimp only at hSw); go_simp; (try with_reducible rfl))
  (try simp only [Act.put, List.setIfInBounds_toArray, List.set_cons_zero, List.set_cons_succ])
  refine wpAnyH_take (i := 9) (oi := ({ dst := some 6, op := Op.assign (Operand.tmp 22), type := 32, pos := "ref.go:30", after := #[{ on := 7, ground := Ground.data }, { on := 0, ground := Ground.phase }, { on := 1, ground := Ground.phase }, { on := 2, ground := Ground.phase }, { on := 3, ground := Ground.phase }, { on := 4, ground := Ground.phase }, { on := 5, ground := Ground.phase }, { on := 6, ground := Ground.phase }, { on := 7, ground := Ground.phase }, { on := 8, ground := Ground.textOnly Departure.lateStores }], guard := none } : Oper)) (v := ?_) rfl (by kernel_rfl) (by kernel_rfl) (by kernel_rfl) (fun _ _ _ h => h) (Or.inl ⟨by rfl, ?_⟩) (by assumption) ?_
  rotate_left 1
  · (intro w hSw; (try dsimp only at hSw); go_simp; (try with_reducible rfl))
  (try simp only [Act.put, List.setIfInBounds_toArray, List.set_cons_zero, List.set_cons_succ])
  refine wpAnyH_ready (rs := [10]) (by kernel_rfl) (by simp) ?_
  refine AllReadyH.cons (o := ({ dst := none, op := Op.store 34 (Operand.tmp 7) (Operand.tmp 23), type := 0, pos := "ref.go:30", after := #[{ on := 8, ground := Ground.data }, { on := 9, ground := Ground.chain }, { on := 0, ground := Ground.phase }, { on := 1, ground := Ground.phase }, { on := 2, ground := Ground.phase }, { on := 3, ground := Ground.phase }, { on := 4, ground := Ground.phase }, { on := 5, ground := Ground.phase }, { on := 6, ground := Ground.phase }, { on := 7, ground := Ground.phase }, { on := 8, ground := Ground.phase }, { on := 9, ground := Ground.phase }], guard := none } : Oper)) rfl (fun K hK => ?_) ?_
  rotate_left 1
  · exact AllReadyH.nil
  go_simp
  first | (refine hK.out _ _ ?_ (fun hH1 => ?_)) | (go_wp2_with fail; refine hK.out _ _ ?_ (fun hH1 => ?_))
  · (try dsimp only); with_reducible exact S2.out
  clear hK K hH0
  (try simp only [Act.put, List.setIfInBounds_toArray, List.set_cons_zero, List.set_cons_succ])
  refine wpAnyH_take (i := 11) (oi := ({ dst := some 8, op := Op.assign (Operand.const (Value.bool true)), type := 4, pos := "ref.go:30", after := #[{ on := 10, ground := Ground.chain }, { on := 0, ground := Ground.phase }, { on := 1, ground := Ground.phase }, { on := 2, ground := Ground.phase }, { on := 3, ground := Ground.phase }, { on := 4, ground := Ground.phase }, { on := 5, ground := Ground.phase }, { on := 6, ground := Ground.phase }, { on := 7, ground := Ground.phase }, { on := 8, ground := Ground.phase }, { on := 9, ground := Ground.phase }, { on := 10, ground := Ground.phase }], guard := none } : Oper)) (v := ?_) rfl (by kernel_rfl) (by kernel_rfl) (by kernel_rfl) (fun _ _ _ h => h) (Or.inl ⟨by rfl, ?_⟩) (by assumption) ?_
  rotate_left 1
  · (intro w hSw; (try dsimp only at hSw); go_simp; (try with_reducible rfl))
  (try simp only [Act.put, List.setIfInBounds_toArray, List.set_cons_zero, List.set_cons_succ])
  refine wpAnyH_done (by kernel_rfl) ?_ _
  refine NoPanic.normal ?_
  have HF : Hid (RgAt (set9i V (w.heap.size + 1 + 1) r) (w.heap.size + 1 + 1) 34 r) := Lib.hid (set9i_at (show RgAt V (w.heap.size + 1 + 1) 34 zRg from HZ0.out) r)
  have HG : Hid (Below w.heap.size w (set9i V (w.heap.size + 1 + 1) r)) := Lib.hid (set9i_below (show Below w.heap.size w V from HB0.out) (by omega) r)
  go_wp2
  refine bodyPost_ret (v := .tuple #[.int .u16 (256 * r.D + va % 256), .agg r.cells, .bool true]) (resInF _ _ (w.heap.size + 1 + 1) r.cells (Blk.drew HF.out) rfl rfl (256 * r.D + va % 256) rfl true rfl) rfl ⟨rfl, Below.drew0 HG.out⟩
set_option maxRecDepth 100000 in
set_option maxHeartbeats 8000000 in
theorem inF_5 (p c o q va ln at_ : Int) (b : Nat) (hb : b < 256) (r : Rg) (hr : r.Ok) (v0 : 0 ≤ va) (v1 : va < 65536) (w : World) :
    Calls Tryd.prog 24 #[.agg #[.int .i64 p, .int .u8 c, .int .i64 o, .int .i64 5, .int .i64 q, .int .u8 (b : Int), .int .u16 va, .int .i64 ln], .agg r.cells, .int .u16 at_] w fun e w' => e = .returned (.tuple #[.int .u16 (va), .agg r.cells, .bool true]) ∧ Below w.heap.size w w' := by
  have HI0 : Hid (Blk (((w.alloc (Obj.cells #[.int .i64 p, .int .u8 c, .int .i64 o, .int .i64 5, .int .i64 q, .int .u8 (b : Int), .int .u16 va, .int .i64 ln] 49)).alloc (Obj.cells r.cells 34)).alloc (Obj.cells zRg.cells 34)) w.heap.size 49 #[.int .i64 p, .int .u8 c, .int .i64 o, .int .i64 5, .int .i64 q, .int .u8 (b : Int), .int .u16 va, .int .i64 ln]) := Lib.hid (Blk.alloc (Blk.alloc (Blk.new _ _ _ (0, 0)) _) _)
  have HR0 : Hid (RgAt (((w.alloc (Obj.cells #[.int .i64 p, .int .u8 c, .int .i64 o, .int .i64 5, .int .i64 q, .int .u8 (b : Int), .int .u16 va, .int .i64 ln] 49)).alloc (Obj.cells r.cells 34)).alloc (Obj.cells zRg.cells 34)) (w.heap.size + 1) 34 r) := Lib.hid (Blk.alloc (Blk.at1 _) _)
  have HZ0 : Hid (RgAt (((w.alloc (Obj.cells #[.int .i64 p, .int .u8 c, .int .i64 o, .int .i64 5, .int .i64 q, .int .u8 (b : Int), .int .u16 va, .int .i64 ln] 49)).alloc (Obj.cells r.cells 34)).alloc (Obj.cells zRg.cells 34)) (w.heap.size + 1 + 1) 34 zRg) := Lib.hid (Blk.at2 _ _)
  have HB0 : Hid (Below w.heap.size w (((w.alloc (Obj.cells #[.int .i64 p, .int .u8 c, .int .i64 o, .int .i64 5, .int .i64 q, .int .u8 (b : Int), .int .u16 va, .int .i64 ln] 49)).alloc (Obj.cells r.cells 34)).alloc (Obj.cells zRg.cells 34))) := Lib.hid (Below.alloc0 (Below.alloc0 (Below.alloc0 (Below.refl _ _) _) _) _)
  have HS : Hid (∀ u : World, Blk u w.heap.size 49 #[.int .i64 p, .int .u8 c, .int .i64 o, .int .i64 5, .int .i64 q, .int .u8 (b : Int), .int .u16 va, .int .i64 ln] → RgAt u (w.heap.size + 1) 34 r → (fun w' => (w'.cell? ⟨w.heap.size, 3, none⟩ = some (.int .i64 5) ∧ w'.cell? ⟨w.heap.size, 5, none⟩ = some (.int .u8 (b : Int)) ∧ w'.cell? ⟨w.heap.size, 6, none⟩ = some (.int .u16 va) ∧ w'.cell? ⟨w.heap.size, 7, none⟩ = some (.int .i64 ln)) ∧ (w'.cell? ⟨w.heap.size + 1, 0, none⟩ = some (.int .u8 r.A) ∧ w'.cell? ⟨w.heap.size + 1, 1, none⟩ = some (.int .u8 r.B) ∧ w'.cell? ⟨w.heap.size + 1, 2, none⟩ = some (.int .u8 r.D) ∧ w'.cell? ⟨w.heap.size + 1, 3, none⟩ = some (.int .u8 r.C) ∧ w'.cell? ⟨w.heap.size + 1, 4, none⟩ = some (.int .u16 r.X) ∧ w'.cell? ⟨w.heap.size + 1, 5, none⟩ = some (.int .u16 r.Y) ∧ w'.cell? ⟨w.heap.size + 1, 6, none⟩ = some (.int .u16 r.U) ∧ w'.cell? ⟨w.heap.size + 1, 7, none⟩ = some (.int .u16 r.S) ∧ w'.cell? ⟨w.heap.size + 1, 8, none⟩ = some (.int .u16 r.P))) u) := Lib.hid (fun u h1 h2 => ⟨⟨(Blk.c8 h1).2.2.2.1, (Blk.c8 h1).2.2.2.2.2.1, (Blk.c8 h1).2.2.2.2.2.2.1, (Blk.c8 h1).2.2.2.2.2.2.2⟩, h2.cells⟩)
  go_enter Tryd.func24, Tryd.ntmps24
  go_upto_region 4 with (fail)
  generalize (((w.alloc _).alloc _).alloc _) = V at HI0 HR0 HZ0 HB0 ⊢
  have S0 : Hid ((fun w' => (w'.cell? ⟨w.heap.size, 3, none⟩ = some (.int .i64 5) ∧ w'.cell? ⟨w.heap.size, 5, none⟩ = some (.int .u8 (b : Int)) ∧ w'.cell? ⟨w.heap.size, 6, none⟩ = some (.int .u16 va) ∧ w'.cell? ⟨w.heap.size, 7, none⟩ = some (.int .i64 ln)) ∧ (w'.cell? ⟨w.heap.size + 1, 0, none⟩ = some (.int .u8 r.A) ∧ w'.cell? ⟨w.heap.size + 1, 1, none⟩ = some (.int .u8 r.B) ∧ w'.cell? ⟨w.heap.size + 1, 2, none⟩ = some (.int .u8 r.D) ∧ w'.cell? ⟨w.heap.size + 1, 3, none⟩ = some (.int .u8 r.C) ∧ w'.cell? ⟨w.heap.size + 1, 4, none⟩ = some (.int .u16 r.X) ∧ w'.cell? ⟨w.heap.size + 1, 5, none⟩ = some (.int .u16 r.Y) ∧ w'.cell? ⟨w.heap.size + 1, 6, none⟩ = some (.int .u16 r.U) ∧ w'.cell? ⟨w.heap.size + 1, 7, none⟩ = some (.int .u16 r.S) ∧ w'.cell? ⟨w.heap.size + 1, 8, none⟩ = some (.int .u16 r.P))) V.drew) := Lib.hid (HS.out _ HI0.out HR0.out)
  obtain ⟨z0, z1, z2, z3, z4, z5, z6, z7, z8⟩ := RgAt.cells (show RgAt V (w.heap.size + 1 + 1) 34 zRg from HZ0.out)
  obtain ⟨f0, f1, f2, f3, f4, f5, f6, f7, f8⟩ := RgAt.frz (show RgAt V (w.heap.size + 1 + 1) 34 zRg from HZ0.out)
  have S2 : Hid ((fun w' => (w'.cell? ⟨w.heap.size, 3, none⟩ = some (.int .i64 5) ∧ w'.cell? ⟨w.heap.size, 5, none⟩ = some (.int .u8 (b : Int)) ∧ w'.cell? ⟨w.heap.size, 6, none⟩ = some (.int .u16 va) ∧ w'.cell? ⟨w.heap.size, 7, none⟩ = some (.int .i64 ln)) ∧ (w'.cell? ⟨w.heap.size + 1, 0, none⟩ = some (.int .u8 r.A) ∧ w'.cell? ⟨w.heap.size + 1, 1, none⟩ = some (.int .u8 r.B) ∧ w'.cell? ⟨w.heap.size + 1, 2, none⟩ = some (.int .u8 r.D) ∧ w'.cell? ⟨w.heap.size + 1, 3, none⟩ = some (.int .u8 r.C) ∧ w'.cell? ⟨w.heap.size + 1, 4, none⟩ = some (.int .u16 r.X) ∧ w'.cell? ⟨w.heap.size + 1, 5, none⟩ = some (.int .u16 r.Y) ∧ w'.cell? ⟨w.heap.size + 1, 6, none⟩ = some (.int .u16 r.U) ∧ w'.cell? ⟨w.heap.size + 1, 7, none⟩ = some (.int .u16 r.S) ∧ w'.cell? ⟨w.heap.size + 1, 8, none⟩ = some (.int .u16 r.P))) (set9i V (w.heap.size + 1 + 1) r).drew) := Lib.hid (HS.out (set9i V (w.heap.size + 1 + 1) r).drew (Blk.drew (set9i_farB (show Blk V w.heap.size 49 #[.int .i64 p, .int .u8 c, .int .i64 o, .int .i64 5, .int .i64 q, .int .u8 (b : Int), .int .u16 va, .int .i64 ln] from HI0.out) (by omega) r)) (Blk.drew (set9i_far (show RgAt V (w.heap.size + 1) 34 r from HR0.out) (by omega) r)))
  refine wp_region_noPanic ?_
  refine wp_region_held_drew (S := (fun w' => (w'.cell? ⟨w.heap.size, 3, none⟩ = some (.int .i64 5) ∧ w'.cell? ⟨w.heap.size, 5, none⟩ = some (.int .u8 (b : Int)) ∧ w'.cell? ⟨w.heap.size, 6, none⟩ = some (.int .u16 va) ∧ w'.cell? ⟨w.heap.size, 7, none⟩ = some (.int .i64 ln)) ∧ (w'.cell? ⟨w.heap.size + 1, 0, none⟩ = some (.int .u8 r.A) ∧ w'.cell? ⟨w.heap.size + 1, 1, none⟩ = some (.int .u8 r.B) ∧ w'.cell? ⟨w.heap.size + 1, 2, none⟩ = some (.int .u8 r.D) ∧ w'.cell? ⟨w.heap.size + 1, 3, none⟩ = some (.int .u8 r.C) ∧ w'.cell? ⟨w.heap.size + 1, 4, none⟩ = some (.int .u16 r.X) ∧ w'.cell? ⟨w.heap.size + 1, 5, none⟩ = some (.int .u16 r.Y) ∧ w'.cell? ⟨w.heap.size + 1, 6, none⟩ = some (.int .u16 r.U) ∧ w'.cell? ⟨w.heap.size + 1, 7, none⟩ = some (.int .u16 r.S) ∧ w'.cell? ⟨w.heap.size + 1, 8, none⟩ = some (.int .u16 r.P)))) (by kernel_rfl) ?_ (fun hH0 => ?_)
  · (try dsimp only); with_reducible exact S0.out
  refine wpAnyH_take (i := 0) (oi := ({ dst := some 28, op := Op.fieldAddr 49 (Operand.tmp 3) 4, type := 0, pos := "ref.go:33", after := #[], guard := none } : Oper)) (v := ?_) rfl (by kernel_rfl) (by kernel_rfl) (by kernel_rfl) (fun _ _ _ h => h) (Or.inl ⟨by rfl, ?_⟩) (by assumption) ?_
  rotate_left 1
  · (intro w hSw; (try dsimp only at hSw); go_simp; (try with_reducible rfl))
  (try simp only [Act.put, List.setIfInBounds_toArray, List.set_cons_zero, List.set_cons_succ])
  refine wpAnyH_take (i := 1) (oi := ({ dst := some 29, op := Op.load 32 (Operand.tmp 28), type := 32, pos := "ref.go:33", after := #[{ on := 0, ground := Ground.data }], guard := none } : Oper)) (v := ?_) rfl (by kernel_rfl) (by kernel_rfl) (by kernel_rfl) (fun _ _ _ h => h) (Or.inl ⟨by rfl, ?_⟩) (by assumption) ?_
  rotate_left 1
  · (intro w hSw; (try dsimp only at hSw); go_simp; (try with_reducible rfl))
  (try simp only [Act.put, List.setIfInBounds_toArray, List.set_cons_zero, List.set_cons_succ])
  refine wpAnyH_take (i := 2) (oi := ({ dst := some 30, op := Op.load 34 (Operand.tmp 4), type := 34, pos := "ref.go:33", after := #[{ on := 3, ground := Ground.gcOnly Departure.lateStores }], guard := none } : Oper)) (v := ?_) rfl (by kernel_rfl) (by kernel_rfl) (by kernel_rfl) (fun _ _ _ h => h) (Or.inl ⟨by rfl, ?_⟩) (by assumption) ?_
  rotate_left 1
  · (intro w hSw; (try dsimp only at hSw); go_simp; (try with_reducible rfl))
  (try simp only [Act.put, List.setIfInBounds_toArray, List.set_cons_zero, List.set_cons_succ])
  refine wpAnyH_take (i := 3) (oi := ({ dst := some 6, op := Op.assign (Operand.tmp 29), type := 32, pos := "ref.go:33", after := #[{ on := 1, ground := Ground.data }, { on := 0, ground := Ground.phase }, { on := 1, ground := Ground.phase }, { on := 2, ground := Ground.textOnly Departure.lateStores }], guard := none } : Oper)) (v := ?_) rfl (by kernel_rfl) (by kernel_rfl) (by kernel_rfl) (fun _ _ _ h => h) (Or.inl ⟨by rfl, ?_⟩) (by assumption) ?_
  rotate_left 1
  · (intro w hSw; (try dsimp only at hSw); go_simp; (try with_reducible rfl))
  (try simp only [Act.put, List.setIfInBounds_toArray, List.set_cons_zero, List.set_cons_succ])
  refine wpAnyH_ready (rs := [4]) (by kernel_rfl) (by simp) ?_
  refine AllReadyH.cons (o := ({ dst := none, op := Op.store 34 (Operand.tmp 7) (Operand.tmp 30), type := 0, pos := "ref.go:33", after := #[{ on := 2, ground := Ground.data }, { on := 3, ground := Ground.chain }, { on := 0, ground := Ground.phase }, { on := 1, ground := Ground.phase }, { on := 2, ground := Ground.phase }, { on := 3, ground := Ground.phase }], guard := none } : Oper)) rfl (fun K hK => ?_) ?_
  rotate_left 1
  · exact AllReadyH.nil
  go_simp
  first | (refine hK.out _ _ ?_ (fun hH1 => ?_)) | (go_wp2_with fail; refine hK.out _ _ ?_ (fun hH1 => ?_))
  · (try dsimp only); with_reducible exact S2.out
  clear hK K hH0
  (try simp only [Act.put, List.setIfInBounds_toArray, List.set_cons_zero, List.set_cons_succ])
  refine wpAnyH_take (i := 5) (oi := ({ dst := some 8, op := Op.assign (Operand.const (Value.bool true)), type := 4, pos := "ref.go:33", after := #[{ on := 4, ground := Ground.chain }, { on := 0, ground := Ground.phase }, { on := 1, ground := Ground.phase }, { on := 2, ground := Ground.phase }, { on := 3, ground := Ground.phase }, { on := 4, ground := Ground.phase }], guard := none } : Oper)) (v := ?_) rfl (by kernel_rfl) (by kernel_rfl) (by kernel_rfl) (fun _ _ _ h => h) (Or.inl ⟨by rfl, ?_⟩) (by assumption) ?_
  rotate_left 1
  · (intro w hSw; (try dsimp only at hSw); go_simp; (try with_reducible rfl))
  (try simp only [Act.put, List.setIfInBounds_toArray, List.set_cons_zero, List.set_cons_succ])
  refine wpAnyH_done (by kernel_rfl) ?_ _
  refine NoPanic.normal ?_
  have HF : Hid (RgAt (set9i V (w.heap.size + 1 + 1) r) (w.heap.size + 1 + 1) 34 r) := Lib.hid (set9i_at (show RgAt V (w.heap.size + 1 + 1) 34 zRg from HZ0.out) r)
  have HG : Hid (Below w.heap.size w (set9i V (w.heap.size + 1 + 1) r)) := Lib.hid (set9i_below (show Below w.heap.size w V from HB0.out) (by omega) r)
  go_wp2
  refine bodyPost_ret (v := .tuple #[.int .u16 (va), .agg r.cells, .bool true]) (resInF _ _ (w.heap.size + 1 + 1) r.cells (Blk.drew HF.out) rfl rfl (va) rfl true rfl) rfl ⟨rfl, Below.drew0 HG.out⟩
set_option maxRecDepth 100000 in
set_option maxHeartbeats 8000000 in
theorem inF_o (p c o m q va ln at_ : Int) (b : Nat) (hb : b < 256) (r : Rg) (hr : r.Ok) (v0 : 0 ≤ va) (v1 : va < 65536) (h : m ≠ 3 ∧ m ≠ 5 ∧ m ≠ 4) (w : World) :
    Calls Tryd.prog 24 #[.agg #[.int .i64 p, .int .u8 c, .int .i64 o, .int .i64 m, .int .i64 q, .int .u8 (b : Int), .int .u16 va, .int .i64 ln], .agg r.cells, .int .u16 at_] w fun e w' => e = .returned (.tuple #[.int .u16 (0), .agg r.cells, .bool false]) ∧ Below w.heap.size w w' := by
  have HI0 : Hid (Blk (((w.alloc (Obj.cells #[.int .i64 p, .int .u8 c, .int .i64 o, .int .i64 m, .int .i64 q, .int .u8 (b : Int), .int .u16 va, .int .i64 ln] 49)).alloc (Obj.cells r.cells 34)).alloc (Obj.cells zRg.cells 34)) w.heap.size 49 #[.int .i64 p, .int .u8 c, .int .i64 o, .int .i64 m, .int .i64 q, .int .u8 (b : Int), .int .u16 va, .int .i64 ln]) := Lib.hid (Blk.alloc (Blk.alloc (Blk.new _ _ _ (0, 0)) _) _)
  have HR0 : Hid (RgAt (((w.alloc (Obj.cells #[.int .i64 p, .int .u8 c, .int .i64 o, .int .i64 m, .int .i64 q, .int .u8 (b : Int), .int .u16 va, .int .i64 ln] 49)).alloc (Obj.cells r.cells 34)).alloc (Obj.cells zRg.cells 34)) (w.heap.size + 1) 34 r) := Lib.hid (Blk.alloc (Blk.at1 _) _)
  have HZ0 : Hid (RgAt (((w.alloc (Obj.cells #[.int .i64 p, .int .u8 c, .int .i64 o, .int .i64 m, .int .i64 q, .int .u8 (b : Int), .int .u16 va, .int .i64 ln] 49)).alloc (Obj.cells r.cells 34)).alloc (Obj.cells zRg.cells 34)) (w.heap.size + 1 + 1) 34 zRg) := Lib.hid (Blk.at2 _ _)
  have HB0 : Hid (Below w.heap.size w (((w.alloc (Obj.cells #[.int .i64 p, .int .u8 c, .int .i64 o, .int .i64 m, .int .i64 q, .int .u8 (b : Int), .int .u16 va, .int .i64 ln] 49)).alloc (Obj.cells r.cells 34)).alloc (Obj.cells zRg.cells 34))) := Lib.hid (Below.alloc0 (Below.alloc0 (Below.alloc0 (Below.refl _ _) _) _) _)
  have HS : Hid (∀ u : World, Blk u w.heap.size 49 #[.int .i64 p, .int .u8 c, .int .i64 o, .int .i64 m, .int .i64 q, .int .u8 (b : Int), .int .u16 va, .int .i64 ln] → RgAt u (w.heap.size + 1) 34 r → (fun w' => (w'.cell? ⟨w.heap.size, 3, none⟩ = some (.int .i64 m) ∧ w'.cell? ⟨w.heap.size, 5, none⟩ = some (.int .u8 (b : Int)) ∧ w'.cell? ⟨w.heap.size, 6, none⟩ = some (.int .u16 va) ∧ w'.cell? ⟨w.heap.size, 7, none⟩ = some (.int .i64 ln)) ∧ (w'.cell? ⟨w.heap.size + 1, 0, none⟩ = some (.int .u8 r.A) ∧ w'.cell? ⟨w.heap.size + 1, 1, none⟩ = some (.int .u8 r.B) ∧ w'.cell? ⟨w.heap.size + 1, 2, none⟩ = some (.int .u8 r.D) ∧ w'.cell? ⟨w.heap.size + 1, 3, none⟩ = some (.int .u8 r.C) ∧ w'.cell? ⟨w.heap.size + 1, 4, none⟩ = some (.int .u16 r.X) ∧ w'.cell? ⟨w.heap.size + 1, 5, none⟩ = some (.int .u16 r.Y) ∧ w'.cell? ⟨w.heap.size + 1, 6, none⟩ = some (.int .u16 r.U) ∧ w'.cell? ⟨w.heap.size + 1, 7, none⟩ = some (.int .u16 r.S) ∧ w'.cell? ⟨w.heap.size + 1, 8, none⟩ = some (.int .u16 r.P))) u) := Lib.hid (fun u h1 h2 => ⟨⟨(Blk.c8 h1).2.2.2.1, (Blk.c8 h1).2.2.2.2.2.1, (Blk.c8 h1).2.2.2.2.2.2.1, (Blk.c8 h1).2.2.2.2.2.2.2⟩, h2.cells⟩)
  have n3 : (m == 3) = false := by rw [beq_eq_false_iff_ne]; exact h.1
  have n5 : (m == 5) = false := by rw [beq_eq_false_iff_ne]; exact h.2.1
  have n4 : (m == 4) = false := by rw [beq_eq_false_iff_ne]; exact h.2.2
  clear h
  go_enter Tryd.func24, Tryd.ntmps24
  go_upto_region 8 with (fail)
  generalize (((w.alloc _).alloc _).alloc _) = V at HI0 HR0 HZ0 HB0 ⊢
  have S0 : Hid ((fun w' => (w'.cell? ⟨w.heap.size, 3, none⟩ = some (.int .i64 m) ∧ w'.cell? ⟨w.heap.size, 5, none⟩ = some (.int .u8 (b : Int)) ∧ w'.cell? ⟨w.heap.size, 6, none⟩ = some (.int .u16 va) ∧ w'.cell? ⟨w.heap.size, 7, none⟩ = some (.int .i64 ln)) ∧ (w'.cell? ⟨w.heap.size + 1, 0, none⟩ = some (.int .u8 r.A) ∧ w'.cell? ⟨w.heap.size + 1, 1, none⟩ = some (.int .u8 r.B) ∧ w'.cell? ⟨w.heap.size + 1, 2, none⟩ = some (.int .u8 r.D) ∧ w'.cell? ⟨w.heap.size + 1, 3, none⟩ = some (.int .u8 r.C) ∧ w'.cell? ⟨w.heap.size + 1, 4, none⟩ = some (.int .u16 r.X) ∧ w'.cell? ⟨w.heap.size + 1, 5, none⟩ = some (.int .u16 r.Y) ∧ w'.cell? ⟨w.heap.size + 1, 6, none⟩ = some (.int .u16 r.U) ∧ w'.cell? ⟨w.heap.size + 1, 7, none⟩ = some (.int .u16 r.S) ∧ w'.cell? ⟨w.heap.size + 1, 8, none⟩ = some (.int .u16 r.P))) V.drew) := Lib.hid (HS.out _ HI0.out HR0.out)
  obtain ⟨z0, z1, z2, z3, z4, z5, z6, z7, z8⟩ := RgAt.cells (show RgAt V (w.heap.size + 1 + 1) 34 zRg from HZ0.out)
  obtain ⟨f0, f1, f2, f3, f4, f5, f6, f7, f8⟩ := RgAt.frz (show RgAt V (w.heap.size + 1 + 1) 34 zRg from HZ0.out)
  have S2 : Hid ((fun w' => (w'.cell? ⟨w.heap.size, 3, none⟩ = some (.int .i64 m) ∧ w'.cell? ⟨w.heap.size, 5, none⟩ = some (.int .u8 (b : Int)) ∧ w'.cell? ⟨w.heap.size, 6, none⟩ = some (.int .u16 va) ∧ w'.cell? ⟨w.heap.size, 7, none⟩ = some (.int .i64 ln)) ∧ (w'.cell? ⟨w.heap.size + 1, 0, none⟩ = some (.int .u8 r.A) ∧ w'.cell? ⟨w.heap.size + 1, 1, none⟩ = some (.int .u8 r.B) ∧ w'.cell? ⟨w.heap.size + 1, 2, none⟩ = some (.int .u8 r.D) ∧ w'.cell? ⟨w.heap.size + 1, 3, none⟩ = some (.int .u8 r.C) ∧ w'.cell? ⟨w.heap.size + 1, 4, none⟩ = some (.int .u16 r.X) ∧ w'.cell? ⟨w.heap.size + 1, 5, none⟩ = some (.int .u16 r.Y) ∧ w'.cell? ⟨w.heap.size + 1, 6, none⟩ = some (.int .u16 r.U) ∧ w'.cell? ⟨w.heap.size + 1, 7, none⟩ = some (.int .u16 r.S) ∧ w'.cell? ⟨w.heap.size + 1, 8, none⟩ = some (.int .u16 r.P))) (set9i V (w.heap.size + 1 + 1) r).drew) := Lib.hid (HS.out (set9i V (w.heap.size + 1 + 1) r).drew (Blk.drew (set9i_farB (show Blk V w.heap.size 49 #[.int .i64 p, .int .u8 c, .int .i64 o, .int .i64 m, .int .i64 q, .int .u8 (b : Int), .int .u16 va, .int .i64 ln] from HI0.out) (by omega) r)) (Blk.drew (set9i_far (show RgAt V (w.heap.size + 1) 34 r from HR0.out) (by omega) r)))
  refine wp_region_noPanic ?_
  refine wp_region_held_drew (S := (fun w' => (w'.cell? ⟨w.heap.size, 3, none⟩ = some (.int .i64 m) ∧ w'.cell? ⟨w.heap.size, 5, none⟩ = some (.int .u8 (b : Int)) ∧ w'.cell? ⟨w.heap.size, 6, none⟩ = some (.int .u16 va) ∧ w'.cell? ⟨w.heap.size, 7, none⟩ = some (.int .i64 ln)) ∧ (w'.cell? ⟨w.heap.size + 1, 0, none⟩ = some (.int .u8 r.A) ∧ w'.cell? ⟨w.heap.size + 1, 1, none⟩ = some (.int .u8 r.B) ∧ w'.cell? ⟨w.heap.size + 1, 2, none⟩ = some (.int .u8 r.D) ∧ w'.cell? ⟨w.heap.size + 1, 3, none⟩ = some (.int .u8 r.C) ∧ w'.cell? ⟨w.heap.size + 1, 4, none⟩ = some (.int .u16 r.X) ∧ w'.cell? ⟨w.heap.size + 1, 5, none⟩ = some (.int .u16 r.Y) ∧ w'.cell? ⟨w.heap.size + 1, 6, none⟩ = some (.int .u16 r.U) ∧ w'.cell? ⟨w.heap.size + 1, 7, none⟩ = some (.int .u16 r.S) ∧ w'.cell? ⟨w.heap.size + 1, 8, none⟩ = some (.int .u16 r.P)))) (by kernel_rfl) ?_ (fun hH0 => ?_)
  · (try dsimp only); with_reducible exact S0.out
  refine wpAnyH_take (i := 0) (oi := ({ dst := some 51, op := Op.load 34 (Operand.tmp 4), type := 34, pos := "ref.go:39", after := #[{ on := 1, ground := Ground.gcOnly Departure.lateStores }], guard := none } : Oper)) (v := ?_) rfl (by kernel_rfl) (by kernel_rfl) (by kernel_rfl) (fun _ _ _ h => h) (Or.inl ⟨by rfl, ?_⟩) (by assumption) ?_
  rotate_left 1
  · (intro w hSw; (try dsimp only at hSw); go_simp; (try with_reducible rfl))
  (try simp only [Act.put, List.setIfInBounds_toArray, List.set_cons_zero, List.set_cons_succ])
  refine wpAnyH_take (i := 1) (oi := ({ dst := some 6, op := Op.assign (Operand.const (Value.int IntKind.u16 0)), type := 32, pos := "ref.go:39", after := #[{ on := 0, ground := Ground.textOnly Departure.lateStores }], guard := none } : Oper)) (v := ?_) rfl (by kernel_rfl) (by kernel_rfl) (by kernel_rfl) (fun _ _ _ h => h) (Or.inl ⟨by rfl, ?_⟩) (by assumption) ?_
  rotate_left 1
  · (intro w hSw; (try dsimp only at hSw); go_simp; (try with_reducible rfl))
  (try simp only [Act.put, List.setIfInBounds_toArray, List.set_cons_zero, List.set_cons_succ])
  refine wpAnyH_ready (rs := [2]) (by kernel_rfl) (by simp) ?_
  refine AllReadyH.cons (o := ({ dst := none, op := Op.store 34 (Operand.tmp 7) (Operand.tmp 51), type := 0, pos := "ref.go:39", after := #[{ on := 0, ground := Ground.data }, { on := 1, ground := Ground.chain }, { on := 0, ground := Ground.phase }, { on := 1, ground := Ground.phase }], guard := none } : Oper)) rfl (fun K hK => ?_) ?_
  rotate_left 1
  · exact AllReadyH.nil
  go_simp
  first | (refine hK.out _ _ ?_ (fun hH1 => ?_)) | (go_wp2_with fail; refine hK.out _ _ ?_ (fun hH1 => ?_))
  · (try dsimp only); with_reducible exact S2.out
  clear hK K hH0
  (try simp only [Act.put, List.setIfInBounds_toArray, List.set_cons_zero, List.set_cons_succ])
  refine wpAnyH_take (i := 3) (oi := ({ dst := some 8, op := Op.assign (Operand.const (Value.bool false)), type := 4, pos := "ref.go:39", after := #[{ on := 2, ground := Ground.chain }, { on := 0, ground := Ground.phase }, { on := 1, ground := Ground.phase }, { on := 2, ground := Ground.phase }], guard := none } : Oper)) (v := ?_) rfl (by kernel_rfl) (by kernel_rfl) (by kernel_rfl) (fun _ _ _ h => h) (Or.inl ⟨by rfl, ?_⟩) (by assumption) ?_
  rotate_left 1
  · (intro w hSw; (try dsimp only at hSw); go_simp; (try with_reducible rfl))
  (try simp only [Act.put, List.setIfInBounds_toArray, List.set_cons_zero, List.set_cons_succ])
  refine wpAnyH_done (by kernel_rfl) ?_ _
  refine NoPanic.normal ?_
  have HF : Hid (RgAt (set9i V (w.heap.size + 1 + 1) r) (w.heap.size + 1 + 1) 34 r) := Lib.hid (set9i_at (show RgAt V (w.heap.size + 1 + 1) 34 zRg from HZ0.out) r)
  have HG : Hid (Below w.heap.size w (set9i V (w.heap.size + 1 + 1) r)) := Lib.hid (set9i_below (show Below w.heap.size w V from HB0.out) (by omega) r)
  go_wp2
  refine bodyPost_ret (v := .tuple #[.int .u16 (0), .agg r.cells, .bool false]) (resInF _ _ (w.heap.size + 1 + 1) r.cells (Blk.drew HF.out) rfl rfl (0) rfl false rfl) rfl ⟨rfl, Below.drew0 HG.out⟩
end Go.Proofs.YtoogaenknjdpcacDoor
