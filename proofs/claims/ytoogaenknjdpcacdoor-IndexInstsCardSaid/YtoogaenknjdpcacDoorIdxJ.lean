/- Contracts of index.Inst, and of the document's own (spinetref20.Inst), where there is a postbyte. -/
import Derived.Test.YtoogaenknjdpcacDoorIdxI
namespace Go.Proofs.YtoogaenknjdpcacDoor
open Go.ChangeShapes Go.WideShapes Go.ChangeAt Go.RowKit
set_option linter.unusedVariables false

/-- What stands while an instruction's address is made: its own cells, the registers, the result's block. -/
def StI (w u : World) (I : Array Value) (r : Rg) : Prop := Below w.heap.size w u ∧ Blk u w.heap.size 49 I ∧ RgAt u (w.heap.size + 1) 34 r ∧ RgAt u (w.heap.size + 1 + 1) 34 zRg
section
variable {w u u' : World} {I : Array Value} {r : Rg}
theorem StI.al (h : StI w u I r) (o : Obj) : StI w (u.alloc o) I r := ⟨Below.alloc0 h.1 o, Blk.alloc h.2.1 o, Blk.alloc h.2.2.1 o, Blk.alloc h.2.2.2 o⟩
theorem StI.dr (h : StI w u I r) : StI w u.drew I r := ⟨Below.drew0 h.1, h.2.1, h.2.2.1, h.2.2.2⟩
theorem StI.alD (h : StI w u I r) (o : Obj) : StI w (u.alloc o).drew I r := (h.al o).dr
theorem StI.be (h : StI w u I r) (hb : Below u.heap.size u u') : StI w u' I r := ⟨Below.trans0 h.1 hb, Blk.below h.2.1 hb h.2.1.lt, Blk.below h.2.2.1 hb (Blk.lt h.2.2.1), Blk.below h.2.2.2 hb (Blk.lt h.2.2.2)⟩
theorem StI.s9 (h : StI w u I r) {g : Nat} (hg : w.heap.size + 1 + 1 < g) (q : Rg) : StI w (set9i u g q) I r := ⟨set9i_below h.1 (by omega) q, set9i_farB h.2.1 (by omega) q, set9i_farB h.2.2.1 (by omega) q, set9i_farB h.2.2.2 (by omega) q⟩
theorem StI.kinds (h : StI w u I r) (hT : KindsAt w) : KindsAt u := KindsAt.below20 hT h.1
theorem StI.lt (h : StI w u I r) : w.heap.size + 1 + 1 < u.heap.size := Blk.lt h.2.2.2
theorem StI.start (w : World) (I : Array Value) (r : Rg) : StI w (((w.alloc (.cells I 49)).alloc (.cells r.cells 34)).alloc (.cells zRg.cells 34)) I r :=
  ⟨Below.alloc0 (Below.alloc0 (Below.alloc0 (Below.refl _ _) _) _) _, Blk.alloc (Blk.alloc (Blk.new _ _ _ (0, 0)) _) _, Blk.alloc (Blk.at1 _) _, Blk.at2 _ _⟩
end
set_option maxRecDepth 100000 in
set_option maxHeartbeats 4000000 in
theorem inF_4 (p c o q va ln at_ : Int) (b : Nat) (hb : b < 256) (r : Rg) (hr : r.Ok) (v0 : 0 ≤ va) (v1 : va < 65536) (w : World) :
    Calls Tryd.prog 24 #[.agg #[.int .i64 p, .int .u8 c, .int .i64 o, .int .i64 4, .int .i64 q, .int .u8 (b : Int), .int .u16 va, .int .i64 ln], .agg r.cells, .int .u16 at_] w fun e w' => e = .returned (.tuple #[.int .u16 (idA (poK b) (poR b) (poO b) va (IntKind.u16.wrap (at_ + IntKind.u16.wrap ln)) r), .agg (idR (poK b) (poR b) r).cells, .bool true]) ∧ Below w.heap.size w w' := by
  obtain ⟨L, hL⟩ : ∃ L, IntKind.u16.wrap ln = L := ⟨_, rfl⟩
  obtain ⟨N, hN⟩ : ∃ N, IntKind.u16.wrap (at_ + L) = N := ⟨_, rfl⟩
  have n0 : 0 ≤ N := by rw [← hN, IntKind.wrap_u16]; omega
  rw [hL, hN]
  have CF0 := fun w => ref20_any b hb r hr va N v0 v1 n0 w
  obtain ⟨A, hA⟩ : ∃ A, idA (poK b) (poR b) (poO b) va N r = A := ⟨_, rfl⟩
  obtain ⟨R, hR⟩ : ∃ R, idR (poK b) (poR b) r = R := ⟨_, rfl⟩
  rw [hA, hR] at CF0
  rw [hA, hR]
  have CF := Lib.hid CF0
  have H0 := Lib.hid (StI.start w #[.int .i64 p, .int .u8 c, .int .i64 o, .int .i64 4, .int .i64 q, .int .u8 (b : Int), .int .u16 va, .int .i64 ln] r)
  clear CF0 hA hR n0
  go_enter Tryd.func24, Tryd.ntmps24
  go_wp2_with fail
  refine (CF.out _).mono ?_
  rintro e w4 ⟨rfl, hb4⟩
  have H4 := Lib.hid (StI.be H0.out hb4)
  clear hb4 hL hN
  go_upto_region 7 with (fail)
  have HV := Lib.hid (show StI w (w4.alloc (Obj.cells R.cells 34)) #[.int .i64 p, .int .u8 c, .int .i64 o, .int .i64 4, .int .i64 q, .int .u8 (b : Int), .int .u16 va, .int .i64 ln] r from StI.al H4.out _)
  have HQ := Lib.hid (show RgAt (w4.alloc (Obj.cells R.cells 34)) w4.heap.size 34 R from Blk.new _ _ _ (0, 0))
  have S0 : Hid ((fun w' => (w'.cell? ⟨w4.heap.size, 0, none⟩ = some (.int .u8 R.A) ∧ w'.cell? ⟨w4.heap.size, 1, none⟩ = some (.int .u8 R.B) ∧ w'.cell? ⟨w4.heap.size, 2, none⟩ = some (.int .u8 R.D) ∧ w'.cell? ⟨w4.heap.size, 3, none⟩ = some (.int .u8 R.C) ∧ w'.cell? ⟨w4.heap.size, 4, none⟩ = some (.int .u16 R.X) ∧ w'.cell? ⟨w4.heap.size, 5, none⟩ = some (.int .u16 R.Y) ∧ w'.cell? ⟨w4.heap.size, 6, none⟩ = some (.int .u16 R.U) ∧ w'.cell? ⟨w4.heap.size, 7, none⟩ = some (.int .u16 R.S) ∧ w'.cell? ⟨w4.heap.size, 8, none⟩ = some (.int .u16 R.P))) (w4.alloc (Obj.cells R.cells 34)).drew) := Lib.hid (RgAt.cells (show RgAt (w4.alloc (Obj.cells R.cells 34)).drew w4.heap.size 34 R from Blk.drew HQ.out))
  obtain ⟨z0, z1, z2, z3, z4, z5, z6, z7, z8⟩ := RgAt.cells HV.out.2.2.2
  obtain ⟨f0, f1, f2, f3, f4, f5, f6, f7, f8⟩ := RgAt.frz HV.out.2.2.2
  have HN : Hid (w4.heap.size ≠ (w.heap.size + 1 + 1)) := Lib.hid (by have := H4.out.lt; omega)
  have S2 : Hid ((fun w' => (w'.cell? ⟨w4.heap.size, 0, none⟩ = some (.int .u8 R.A) ∧ w'.cell? ⟨w4.heap.size, 1, none⟩ = some (.int .u8 R.B) ∧ w'.cell? ⟨w4.heap.size, 2, none⟩ = some (.int .u8 R.D) ∧ w'.cell? ⟨w4.heap.size, 3, none⟩ = some (.int .u8 R.C) ∧ w'.cell? ⟨w4.heap.size, 4, none⟩ = some (.int .u16 R.X) ∧ w'.cell? ⟨w4.heap.size, 5, none⟩ = some (.int .u16 R.Y) ∧ w'.cell? ⟨w4.heap.size, 6, none⟩ = some (.int .u16 R.U) ∧ w'.cell? ⟨w4.heap.size, 7, none⟩ = some (.int .u16 R.S) ∧ w'.cell? ⟨w4.heap.size, 8, none⟩ = some (.int .u16 R.P))) (set9i (w4.alloc (Obj.cells R.cells 34)) (w.heap.size + 1 + 1) R).drew) := Lib.hid (RgAt.cells (show RgAt (set9i (w4.alloc (Obj.cells R.cells 34)) (w.heap.size + 1 + 1) R).drew w4.heap.size 34 R from Blk.drew (set9i_farB HQ.out HN.out R)))
  have HF : Hid (RgAt (set9i (w4.alloc (Obj.cells R.cells 34)) (w.heap.size + 1 + 1) R) (w.heap.size + 1 + 1) 34 R) := Lib.hid (set9i_at HV.out.2.2.2 R)
  have HG : Hid (Below w.heap.size w (set9i (w4.alloc (Obj.cells R.cells 34)) (w.heap.size + 1 + 1) R)) := Lib.hid (set9i_below HV.out.1 (by omega) R)
  refine wp_region_noPanic ?_
  refine wp_region_held_drew (S := (fun w' => (w'.cell? ⟨w4.heap.size, 0, none⟩ = some (.int .u8 R.A) ∧ w'.cell? ⟨w4.heap.size, 1, none⟩ = some (.int .u8 R.B) ∧ w'.cell? ⟨w4.heap.size, 2, none⟩ = some (.int .u8 R.D) ∧ w'.cell? ⟨w4.heap.size, 3, none⟩ = some (.int .u8 R.C) ∧ w'.cell? ⟨w4.heap.size, 4, none⟩ = some (.int .u16 R.X) ∧ w'.cell? ⟨w4.heap.size, 5, none⟩ = some (.int .u16 R.Y) ∧ w'.cell? ⟨w4.heap.size, 6, none⟩ = some (.int .u16 R.U) ∧ w'.cell? ⟨w4.heap.size, 7, none⟩ = some (.int .u16 R.S) ∧ w'.cell? ⟨w4.heap.size, 8, none⟩ = some (.int .u16 R.P)))) (by kernel_rfl) ?_ (fun hH0 => ?_)
  · (try dsimp only); with_reducible exact S0.out
  refine wpAnyH_take (i := 0) (oi := ({ dst := some 49, op := Op.move (Operand.tmp 9), type := 32, pos := "ref.go:37", after := #[], guard := none } : Oper)) (v := ?_) rfl (by kernel_rfl) (by kernel_rfl) (by kernel_rfl) (fun _ _ _ h => h) (Or.inl ⟨by rfl, ?_⟩) (by assumption) ?_
  rotate_left 1
  · (intro w hSw; (try dsimp only at hSw); go_simp; (try with_reducible rfl))
  (try simp only [Act.put, List.setIfInBounds_toArray, List.set_cons_zero, List.set_cons_succ])
  refine wpAnyH_take (i := 1) (oi := ({ dst := some 50, op := Op.load 34 (Operand.tmp 10), type := 34, pos := "ref.go:37", after := #[{ on := 2, ground := Ground.gcOnly Departure.lateStores }], guard := none } : Oper)) (v := ?_) rfl (by kernel_rfl) (by kernel_rfl) (by kernel_rfl) (fun _ _ _ h => h) (Or.inl ⟨by rfl, ?_⟩) (by assumption) ?_
  rotate_left 1
  · (intro w hSw; (try dsimp only at hSw); go_simp; (try with_reducible rfl))
  (try simp only [Act.put, List.setIfInBounds_toArray, List.set_cons_zero, List.set_cons_succ])
  refine wpAnyH_take (i := 2) (oi := ({ dst := some 6, op := Op.assign (Operand.tmp 49), type := 32, pos := "ref.go:37", after := #[{ on := 0, ground := Ground.data }, { on := 0, ground := Ground.phase }, { on := 1, ground := Ground.textOnly Departure.lateStores }], guard := none } : Oper)) (v := ?_) rfl (by kernel_rfl) (by kernel_rfl) (by kernel_rfl) (fun _ _ _ h => h) (Or.inl ⟨by rfl, ?_⟩) (by assumption) ?_
  rotate_left 1
  · (intro w hSw; (try dsimp only at hSw); go_simp; (try with_reducible rfl))
  (try simp only [Act.put, List.setIfInBounds_toArray, List.set_cons_zero, List.set_cons_succ])
  refine wpAnyH_ready (rs := [3]) (by kernel_rfl) (by simp) ?_
  refine AllReadyH.cons (o := ({ dst := none, op := Op.store 34 (Operand.tmp 7) (Operand.tmp 50), type := 0, pos := "ref.go:37", after := #[{ on := 1, ground := Ground.data }, { on := 2, ground := Ground.chain }, { on := 0, ground := Ground.phase }, { on := 1, ground := Ground.phase }, { on := 2, ground := Ground.phase }], guard := none } : Oper)) rfl (fun K hK => ?_) ?_
  rotate_left 1
  · exact AllReadyH.nil
  go_simp
  first | (refine hK.out _ _ ?_ (fun hH1 => ?_)) | (go_wp2_with fail; refine hK.out _ _ ?_ (fun hH1 => ?_))
  · (try dsimp only); with_reducible exact S2.out
  clear hK K hH0
  (try simp only [Act.put, List.setIfInBounds_toArray, List.set_cons_zero, List.set_cons_succ])
  refine wpAnyH_take (i := 4) (oi := ({ dst := some 8, op := Op.assign (Operand.const (Value.bool true)), type := 4, pos := "ref.go:37", after := #[{ on := 3, ground := Ground.chain }, { on := 0, ground := Ground.phase }, { on := 1, ground := Ground.phase }, { on := 2, ground := Ground.phase }, { on := 3, ground := Ground.phase }], guard := none } : Oper)) (v := ?_) rfl (by kernel_rfl) (by kernel_rfl) (by kernel_rfl) (fun _ _ _ h => h) (Or.inl ⟨by rfl, ?_⟩) (by assumption) ?_
  rotate_left 1
  · (intro w hSw; (try dsimp only at hSw); go_simp; (try with_reducible rfl))
  (try simp only [Act.put, List.setIfInBounds_toArray, List.set_cons_zero, List.set_cons_succ])
  refine wpAnyH_done (by kernel_rfl) ?_ _
  refine NoPanic.normal ?_
  go_wp2
  exact bodyPost_ret (v := .tuple #[.int .u16 A, .agg R.cells, .bool true]) (resInF _ _ (w.heap.size + 1 + 1) R.cells (Blk.drew HF.out) rfl rfl A rfl true rfl) rfl ⟨rfl, Below.drew0 HG.out⟩
set_option maxRecDepth 100000 in
set_option maxHeartbeats 4000000 in
theorem inA_4 (p c o q va ln at_ : Int) (b : Nat) (hb : b < 256) (r : Rg) (hr : r.Ok) (v0 : 0 ≤ va) (v1 : va < 65536) (w : World) (hT : KindsAt w) :
    Calls Tryd.prog 23 #[.agg #[.int .i64 p, .int .u8 c, .int .i64 o, .int .i64 4, .int .i64 q, .int .u8 (b : Int), .int .u16 va, .int .i64 ln], .agg r.cells, .int .u16 at_] w fun e w' => e = .returned (.tuple #[.int .u16 (idA (poK b) (poR b) (poO b) va (IntKind.u16.wrap (at_ + IntKind.u16.wrap ln)) r), .agg (idR (poK b) (poR b) r).cells, .bool true]) ∧ Below w.heap.size w w' := by
  obtain ⟨L, hL⟩ : ∃ L, IntKind.u16.wrap ln = L := ⟨_, rfl⟩
  obtain ⟨N, hN⟩ : ∃ N, IntKind.u16.wrap (at_ + L) = N := ⟨_, rfl⟩
  have n0 : 0 ≤ N := by rw [← hN, IntKind.wrap_u16]; omega
  rw [hL, hN]
  have hk := poK_lt b hb
  have CI0 := fun w => idxOf_any (poK b) hk (poR b) (poO b) (poI b) r hr va N (by unfold poO; omega) v0 n0 w
  obtain ⟨A, hA⟩ : ∃ A, idA (poK b) (poR b) (poO b) va N r = A := ⟨_, rfl⟩
  obtain ⟨R, hR⟩ : ∃ R, idR (poK b) (poR b) r = R := ⟨_, rfl⟩
  rw [hA, hR] at CI0
  rw [hA, hR]
  have CI := Lib.hid CI0
  have CP := Lib.hid (fun u h => of_any b hb u h)
  have H0 := Lib.hid (StI.start w #[.int .i64 p, .int .u8 c, .int .i64 o, .int .i64 4, .int .i64 q, .int .u8 (b : Int), .int .u16 va, .int .i64 ln] r)
  have HT := Lib.hid hT
  have HS : Hid (∀ u : World, StI w u #[.int .i64 p, .int .u8 c, .int .i64 o, .int .i64 4, .int .i64 q, .int .u8 (b : Int), .int .u16 va, .int .i64 ln] r → (fun w' => (w'.cell? ⟨w.heap.size, 5, none⟩ = some (.int .u8 (b : Int)) ∧ w'.cell? ⟨w.heap.size, 6, none⟩ = some (.int .u16 va) ∧ w'.cell? ⟨w.heap.size, 7, none⟩ = some (.int .i64 ln)) ∧ (w'.cell? ⟨w.heap.size + 1, 0, none⟩ = some (.int .u8 r.A) ∧ w'.cell? ⟨w.heap.size + 1, 1, none⟩ = some (.int .u8 r.B) ∧ w'.cell? ⟨w.heap.size + 1, 2, none⟩ = some (.int .u8 r.D) ∧ w'.cell? ⟨w.heap.size + 1, 3, none⟩ = some (.int .u8 r.C) ∧ w'.cell? ⟨w.heap.size + 1, 4, none⟩ = some (.int .u16 r.X) ∧ w'.cell? ⟨w.heap.size + 1, 5, none⟩ = some (.int .u16 r.Y) ∧ w'.cell? ⟨w.heap.size + 1, 6, none⟩ = some (.int .u16 r.U) ∧ w'.cell? ⟨w.heap.size + 1, 7, none⟩ = some (.int .u16 r.S) ∧ w'.cell? ⟨w.heap.size + 1, 8, none⟩ = some (.int .u16 r.P))) u) := Lib.hid (fun u h => ⟨⟨(Blk.c8 h.2.1).2.2.2.2.2.1, (Blk.c8 h.2.1).2.2.2.2.2.2.1, (Blk.c8 h.2.1).2.2.2.2.2.2.2⟩, RgAt.cells h.2.2.1⟩)
  clear CI0 hA hR n0 hT
  go_enter Tryd.func23, Tryd.ntmps23
  go_upto_region 7 with (fail)
  generalize (((w.alloc _).alloc _).alloc _) = V at H0 ⊢
  have S0 : Hid ((fun w' => (w'.cell? ⟨w.heap.size, 5, none⟩ = some (.int .u8 (b : Int)) ∧ w'.cell? ⟨w.heap.size, 6, none⟩ = some (.int .u16 va) ∧ w'.cell? ⟨w.heap.size, 7, none⟩ = some (.int .i64 ln)) ∧ (w'.cell? ⟨w.heap.size + 1, 0, none⟩ = some (.int .u8 r.A) ∧ w'.cell? ⟨w.heap.size + 1, 1, none⟩ = some (.int .u8 r.B) ∧ w'.cell? ⟨w.heap.size + 1, 2, none⟩ = some (.int .u8 r.D) ∧ w'.cell? ⟨w.heap.size + 1, 3, none⟩ = some (.int .u8 r.C) ∧ w'.cell? ⟨w.heap.size + 1, 4, none⟩ = some (.int .u16 r.X) ∧ w'.cell? ⟨w.heap.size + 1, 5, none⟩ = some (.int .u16 r.Y) ∧ w'.cell? ⟨w.heap.size + 1, 6, none⟩ = some (.int .u16 r.U) ∧ w'.cell? ⟨w.heap.size + 1, 7, none⟩ = some (.int .u16 r.S) ∧ w'.cell? ⟨w.heap.size + 1, 8, none⟩ = some (.int .u16 r.P))) V.drew) := Lib.hid (HS.out _ H0.out.dr)
  refine wp_region_noPanic ?_
  refine wp_region_held_drew (S := (fun w' => (w'.cell? ⟨w.heap.size, 5, none⟩ = some (.int .u8 (b : Int)) ∧ w'.cell? ⟨w.heap.size, 6, none⟩ = some (.int .u16 va) ∧ w'.cell? ⟨w.heap.size, 7, none⟩ = some (.int .i64 ln)) ∧ (w'.cell? ⟨w.heap.size + 1, 0, none⟩ = some (.int .u8 r.A) ∧ w'.cell? ⟨w.heap.size + 1, 1, none⟩ = some (.int .u8 r.B) ∧ w'.cell? ⟨w.heap.size + 1, 2, none⟩ = some (.int .u8 r.D) ∧ w'.cell? ⟨w.heap.size + 1, 3, none⟩ = some (.int .u8 r.C) ∧ w'.cell? ⟨w.heap.size + 1, 4, none⟩ = some (.int .u16 r.X) ∧ w'.cell? ⟨w.heap.size + 1, 5, none⟩ = some (.int .u16 r.Y) ∧ w'.cell? ⟨w.heap.size + 1, 6, none⟩ = some (.int .u16 r.U) ∧ w'.cell? ⟨w.heap.size + 1, 7, none⟩ = some (.int .u16 r.S) ∧ w'.cell? ⟨w.heap.size + 1, 8, none⟩ = some (.int .u16 r.P)))) (by kernel_rfl) ?_ (fun hH0 => ?_)
  · (try dsimp only); with_reducible exact S0.out
  refine wpAnyH_take (i := 0) (oi := ({ dst := some 31, op := Op.fieldAddr 49 (Operand.tmp 3) 3, type := 0, pos := "index.go:56", after := #[], guard := none } : Oper)) (v := ?_) rfl (by kernel_rfl) (by kernel_rfl) (by kernel_rfl) (fun _ _ _ h => h) (Or.inl ⟨by rfl, ?_⟩) (by assumption) ?_
  rotate_left 1
  · (intro w hSw; (try dsimp only at hSw); go_simp; (try with_reducible rfl))
  (try simp only [Act.put, List.setIfInBounds_toArray, List.set_cons_zero, List.set_cons_succ])
  refine wpAnyH_take (i := 1) (oi := ({ dst := some 32, op := Op.load 5 (Operand.tmp 31), type := 5, pos := "index.go:56", after := #[{ on := 0, ground := Ground.data }], guard := none } : Oper)) (v := ?_) rfl (by kernel_rfl) (by kernel_rfl) (by kernel_rfl) (fun _ _ _ h => h) (Or.inl ⟨by rfl, ?_⟩) (by assumption) ?_
  rotate_left 1
  · (intro w hSw; (try dsimp only at hSw); go_simp; (try with_reducible rfl))
  (try simp only [Act.put, List.setIfInBounds_toArray, List.set_cons_zero, List.set_cons_succ])
  refine wpAnyH_take (i := 3) (oi := ({ dst := some 34, op := Op.load 34 (Operand.tmp 4), type := 34, pos := "index.go:56", after := #[], guard := none } : Oper)) (v := ?_) rfl (by kernel_rfl) (by kernel_rfl) (by kernel_rfl) (fun _ _ _ h => h) (Or.inl ⟨by rfl, ?_⟩) (by assumption) ?_
  rotate_left 1
  · (intro w hSw; (try dsimp only at hSw); go_simp; (try with_reducible rfl))
  (try simp only [Act.put, List.setIfInBounds_toArray, List.set_cons_zero, List.set_cons_succ])
  refine wpAnyH_take (i := 4) (oi := ({ dst := some 35, op := Op.fieldAddr 49 (Operand.tmp 3) 4, type := 0, pos := "index.go:56", after := #[], guard := none } : Oper)) (v := ?_) rfl (by kernel_rfl) (by kernel_rfl) (by kernel_rfl) (fun _ _ _ h => h) (Or.inl ⟨by rfl, ?_⟩) (by assumption) ?_
  rotate_left 1
  · (intro w hSw; (try dsimp only at hSw); go_simp; (try with_reducible rfl))
  (try simp only [Act.put, List.setIfInBounds_toArray, List.set_cons_zero, List.set_cons_succ])
  refine wpAnyH_take (i := 5) (oi := ({ dst := some 36, op := Op.load 32 (Operand.tmp 35), type := 32, pos := "index.go:56", after := #[{ on := 4, ground := Ground.data }], guard := none } : Oper)) (v := ?_) rfl (by kernel_rfl) (by kernel_rfl) (by kernel_rfl) (fun _ _ _ h => h) (Or.inl ⟨by rfl, ?_⟩) (by assumption) ?_
  rotate_left 1
  · (intro w hSw; (try dsimp only at hSw); go_simp; (try with_reducible rfl))
  (try simp only [Act.put, List.setIfInBounds_toArray, List.set_cons_zero, List.set_cons_succ])
  refine wpAnyH_take (i := 6) (oi := ({ dst := some 37, op := Op.move (Operand.tmp 2), type := 32, pos := "index.go:56", after := #[], guard := none } : Oper)) (v := ?_) rfl (by kernel_rfl) (by kernel_rfl) (by kernel_rfl) (fun _ _ _ h => h) (Or.inl ⟨by rfl, ?_⟩) (by assumption) ?_
  rotate_left 1
  · (intro w hSw; (try dsimp only at hSw); go_simp; (try with_reducible rfl))
  (try simp only [Act.put, List.setIfInBounds_toArray, List.set_cons_zero, List.set_cons_succ])
  refine wpAnyH_take (i := 7) (oi := ({ dst := some 38, op := Op.fieldAddr 49 (Operand.tmp 3) 5, type := 0, pos := "index.go:56", after := #[], guard := none } : Oper)) (v := ?_) rfl (by kernel_rfl) (by kernel_rfl) (by kernel_rfl) (fun _ _ _ h => h) (Or.inl ⟨by rfl, ?_⟩) (by assumption) ?_
  rotate_left 1
  · (intro w hSw; (try dsimp only at hSw); go_simp; (try with_reducible rfl))
  (try simp only [Act.put, List.setIfInBounds_toArray, List.set_cons_zero, List.set_cons_succ])
  refine wpAnyH_take (i := 8) (oi := ({ dst := some 39, op := Op.load 3 (Operand.tmp 38), type := 3, pos := "index.go:56", after := #[{ on := 7, ground := Ground.data }], guard := none } : Oper)) (v := ?_) rfl (by kernel_rfl) (by kernel_rfl) (by kernel_rfl) (fun _ _ _ h => h) (Or.inl ⟨by rfl, ?_⟩) (by assumption) ?_
  rotate_left 1
  · (intro w hSw; (try dsimp only at hSw); go_simp; (try with_reducible rfl))
  (try simp only [Act.put, List.setIfInBounds_toArray, List.set_cons_zero, List.set_cons_succ])
  refine wpAnyH_take (i := 9) (oi := ({ dst := some 40, op := Op.convert 3 32 (Operand.tmp 39), type := 32, pos := "index.go:56", after := #[{ on := 8, ground := Ground.data }], guard := none } : Oper)) (v := ?_) rfl (by kernel_rfl) (by kernel_rfl) (by kernel_rfl) (fun _ _ _ h => h) (Or.inl ⟨by rfl, ?_⟩) (by assumption) ?_
  rotate_left 1
  · (intro w hSw; (try dsimp only at hSw); go_simp; (try with_reducible rfl))
  (try simp only [Act.put, List.setIfInBounds_toArray, List.set_cons_zero, List.set_cons_succ])
  refine wpAnyH_take (i := 10) (oi := ({ dst := some 41, op := Op.binOp BinOp.add 32 (Operand.tmp 37) (Operand.tmp 40) 32, type := 32, pos := "index.go:56", after := #[{ on := 6, ground := Ground.data }, { on := 9, ground := Ground.data }], guard := none } : Oper)) (v := ?_) rfl (by kernel_rfl) (by kernel_rfl) (by kernel_rfl) (fun _ _ _ h => h) (Or.inl ⟨by rfl, ?_⟩) (by assumption) ?_
  rotate_left 1
  · (intro w hSw; (try dsimp only at hSw); go_simp; (try with_reducible rfl))
  (try simp only [Act.put, List.setIfInBounds_toArray, List.set_cons_zero, List.set_cons_succ])
  refine wpAnyH_ready (rs := [2, 15]) (by kernel_rfl) (by simp) ?_
  refine AllReadyH.cons (o := ({ dst := some 33, op := Op.call { callee := Callee.value (Operand.func 44), args := #[Operand.tmp 32], argTypes := #[5] }, type := 40, pos := "index.go:56", after := #[{ on := 1, ground := Ground.data }], guard := none } : Oper)) rfl (fun K hK => ?_) ?_
  · go_simp
    go_at_call 44
    (first | (with_reducible refine (CP.out _ (StI.kinds (StI.alD H0.out _) HT.out)).mono ?_) | (with_reducible refine (CP.out _ (StI.kinds (StI.dr H0.out) HT.out)).mono ?_)); rintro e w2 ⟨rfl, hb2⟩; (first | have H2 := Lib.hid (StI.be (StI.alD H0.out _) hb2) | have H2 := Lib.hid (StI.be (StI.dr H0.out) hb2)); (try have Z2 := Lib.hid (RgAt.below (show RgAt (V.alloc (Obj.cells zRg.cells 34)).drew V.heap.size 34 zRg from Blk.new _ _ _ (0, 0)) hb2 (Blk.lt (Blk.new V 34 zRg.cells (0, 0))))); clear hb2
    first | (refine hK.out _ _ ?_ (fun hH1 => ?_)) | (go_wp2_with fail; refine hK.out _ _ ?_ (fun hH1 => ?_))
    · (try dsimp only); with_reducible exact HS.out _ H2.out
    clear hK K hH0
    (try simp only [Act.put, List.setIfInBounds_toArray, List.set_cons_zero, List.set_cons_succ])
    refine wpAnyH_ready (rs := [11, 15]) (by kernel_rfl) (by simp) ?_
    refine AllReadyH.cons (o := ({ dst := some 42, op := Op.call { callee := Callee.value (Operand.func 19), args := #[Operand.tmp 33, Operand.tmp 34, Operand.tmp 36, Operand.tmp 41], argTypes := #[40, 34, 32, 32] }, type := 41, pos := "index.go:56", after := #[{ on := 2, ground := Ground.data }, { on := 3, ground := Ground.data }, { on := 5, ground := Ground.data }, { on := 10, ground := Ground.data }, { on := 2, ground := Ground.chain }], guard := none } : Oper)) rfl (fun K hK => ?_) ?_
    · go_simp
      go_at_call 19
      (with_reducible refine (CI.out _).mono ?_); rintro e w3 ⟨rfl, hb3⟩; (first | have H3 := Lib.hid (StI.be H2.out hb3) | have H3 := Lib.hid (StI.be (StI.al H2.out _) hb3)); (try have Z3 := Lib.hid (RgAt.below Z2.out hb3 (Blk.lt Z2.out))); (try have Z3 := Lib.hid (RgAt.below (show RgAt (w2.alloc (Obj.cells zRg.cells 34)) w2.heap.size 34 zRg from Blk.new _ _ _ (0, 0)) hb3 (Blk.lt (Blk.new w2 34 zRg.cells (0, 0))))); clear hb3; (try obtain ⟨y0, y1, y2, y3, y4, y5, y6, y7, y8⟩ := Z3.out.cells); (try obtain ⟨e0, e1, e2, e3, e4, e5, e6, e7, e8⟩ := Z3.out.frz)
      first | (refine hK.out _ _ ?_ (fun hH2 => ?_)) | (go_wp2_with fail; refine hK.out _ _ ?_ (fun hH2 => ?_))
      · (try dsimp only); with_reducible exact HS.out _ H3.out
      clear hK K hH1
      (try simp only [Act.put, List.setIfInBounds_toArray, List.set_cons_zero, List.set_cons_succ])
      refine wpAnyH_take (i := 12) (oi := ({ dst := some 30, op := Op.move (Operand.tmp 42), type := 41, pos := "index.go:56", after := #[{ on := 11, ground := Ground.data }], guard := none } : Oper)) (v := ?_) rfl (by kernel_rfl) (by kernel_rfl) (by kernel_rfl) (fun _ _ _ h => h) (Or.inl ⟨by rfl, ?_⟩) (by assumption) ?_
      rotate_left 1
      · (intro w hSw; (try dsimp only at hSw); go_simp; (try with_reducible rfl))
      (try simp only [Act.put, List.setIfInBounds_toArray, List.set_cons_zero, List.set_cons_succ])
      refine wpAnyH_take (i := 13) (oi := ({ dst := some 43, op := Op.extract (Operand.tmp 30) 0, type := 32, pos := "index.go:56", after := #[{ on := 12, ground := Ground.data }], guard := none } : Oper)) (v := ?_) rfl (by kernel_rfl) (by kernel_rfl) (by kernel_rfl) (fun _ _ _ h => h) (Or.inl ⟨by rfl, ?_⟩) (by assumption) ?_
      rotate_left 1
      · (intro w hSw; (try dsimp only at hSw); go_simp; (try with_reducible rfl))
      (try simp only [Act.put, List.setIfInBounds_toArray, List.set_cons_zero, List.set_cons_succ])
      refine wpAnyH_take (i := 14) (oi := ({ dst := some 44, op := Op.extract (Operand.tmp 30) 1, type := 34, pos := "index.go:56", after := #[{ on := 12, ground := Ground.data }, { on := 16, ground := Ground.gcOnly Departure.lateStores }], guard := none } : Oper)) (v := ?_) rfl (by kernel_rfl) (by kernel_rfl) (by kernel_rfl) (fun _ _ _ h => h) (Or.inl ⟨by rfl, ?_⟩) (by assumption) ?_
      rotate_left 1
      · (intro w hSw; (try dsimp only at hSw); go_simp; (try with_reducible rfl))
      (try simp only [Act.put, List.setIfInBounds_toArray, List.set_cons_zero, List.set_cons_succ])
      refine wpAnyH_ready (rs := [15]) (by kernel_rfl) (by simp) ?_
      refine AllReadyH.cons (o := ({ dst := some 10, op := Op.alloc 34, type := 0, pos := "index.go:56", after := #[], guard := none } : Oper)) rfl (fun K hK => ?_) ?_
      rotate_left 1
      · exact AllReadyH.nil
      go_simp
      first | (refine hK.out _ _ ?_ (fun hH3 => ?_)) | (go_wp2_with fail; refine hK.out _ _ ?_ (fun hH3 => ?_))
      · (try dsimp only); with_reducible first | exact HS.out _ (StI.alD H0.out _) | exact HS.out _ (StI.al H2.out _) | exact HS.out _ (StI.al H3.out _) | exact HS.out _ (StI.s9 H3.out (by have := H0.out.lt; omega) _) | exact HS.out _ (StI.s9 H3.out (by have := H2.out.lt; omega) _)
      clear hK K hH2
      (try simp only [Act.put, List.setIfInBounds_toArray, List.set_cons_zero, List.set_cons_succ])
      refine wpAnyH_take (i := 16) (oi := ({ dst := some 9, op := Op.assign (Operand.tmp 43), type := 32, pos := "index.go:56", after := #[{ on := 13, ground := Ground.data }, { on := 11, ground := Ground.chain }, { on := 0, ground := Ground.phase }, { on := 1, ground := Ground.phase }, { on := 2, ground := Ground.phase }, { on := 3, ground := Ground.phase }, { on := 4, ground := Ground.phase }, { on := 5, ground := Ground.phase }, { on := 6, ground := Ground.phase }, { on := 7, ground := Ground.phase }, { on := 8, ground := Ground.phase }, { on := 9, ground := Ground.phase }, { on := 10, ground := Ground.phase }, { on := 11, ground := Ground.phase }, { on := 12, ground := Ground.phase }, { on := 13, ground := Ground.phase }, { on := 14, ground := Ground.textOnly Departure.lateStores }, { on := 15, ground := Ground.phase }], guard := none } : Oper)) (v := ?_) rfl (by kernel_rfl) (by kernel_rfl) (by kernel_rfl) (fun _ _ _ h => h) (Or.inl ⟨by rfl, ?_⟩) (by assumption) ?_
      rotate_left 1
      · (intro w hSw; (try dsimp only at hSw); go_simp; (try with_reducible rfl))
      (try simp only [Act.put, List.setIfInBounds_toArray, List.set_cons_zero, List.set_cons_succ])
      refine wpAnyH_ready (rs := [17]) (by kernel_rfl) (by simp) ?_
      refine AllReadyH.cons (o := ({ dst := none, op := Op.store 34 (Operand.tmp 10) (Operand.tmp 44), type := 0, pos := "index.go:56", after := #[{ on := 15, ground := Ground.data }, { on := 14, ground := Ground.data }, { on := 16, ground := Ground.chain }, { on := 0, ground := Ground.phase }, { on := 1, ground := Ground.phase }, { on := 2, ground := Ground.phase }, { on := 3, ground := Ground.phase }, { on := 4, ground := Ground.phase }, { on := 5, ground := Ground.phase }, { on := 6, ground := Ground.phase }, { on := 7, ground := Ground.phase }, { on := 8, ground := Ground.phase }, { on := 9, ground := Ground.phase }, { on := 10, ground := Ground.phase }, { on := 11, ground := Ground.phase }, { on := 12, ground := Ground.phase }, { on := 13, ground := Ground.phase }, { on := 14, ground := Ground.phase }, { on := 15, ground := Ground.phase }, { on := 16, ground := Ground.phase }], guard := none } : Oper)) rfl (fun K hK => ?_) ?_
      rotate_left 1
      · exact AllReadyH.nil
      go_simp
      first | (refine hK.out _ _ ?_ (fun hH4 => ?_)) | (go_wp2_with fail; refine hK.out _ _ ?_ (fun hH4 => ?_))
      · (try dsimp only); with_reducible first | exact HS.out _ (StI.alD H0.out _) | exact HS.out _ (StI.al H2.out _) | exact HS.out _ (StI.al H3.out _) | exact HS.out _ (StI.s9 H3.out (by have := H0.out.lt; omega) _) | exact HS.out _ (StI.s9 H3.out (by have := H2.out.lt; omega) _)
      clear hK K hH3
      (try simp only [Act.put, List.setIfInBounds_toArray, List.set_cons_zero, List.set_cons_succ])
      refine wpAnyH_done (by kernel_rfl) ?_ _
      refine NoPanic.normal ?_
      (try clear y0 y1 y2 y3 y4 y5 y6 y7 y8 e0 e1 e2 e3 e4 e5 e6 e7 e8)
      clear S0 hL hN
      go_upto_region 8 with (fail)
      have HV := Lib.hid (show StI w (w3.alloc (Obj.cells R.cells 34)) #[.int .i64 p, .int .u8 c, .int .i64 o, .int .i64 4, .int .i64 q, .int .u8 (b : Int), .int .u16 va, .int .i64 ln] r from StI.al H3.out _)
      have HQ := Lib.hid (show RgAt (w3.alloc (Obj.cells R.cells 34)) w3.heap.size 34 R from Blk.new _ _ _ (0, 0))
      generalize (w3.alloc (Obj.cells R.cells 34)) = X at HV HQ ⊢
      have S0 : Hid ((fun w' => (w'.cell? ⟨w3.heap.size, 0, none⟩ = some (.int .u8 R.A) ∧ w'.cell? ⟨w3.heap.size, 1, none⟩ = some (.int .u8 R.B) ∧ w'.cell? ⟨w3.heap.size, 2, none⟩ = some (.int .u8 R.D) ∧ w'.cell? ⟨w3.heap.size, 3, none⟩ = some (.int .u8 R.C) ∧ w'.cell? ⟨w3.heap.size, 4, none⟩ = some (.int .u16 R.X) ∧ w'.cell? ⟨w3.heap.size, 5, none⟩ = some (.int .u16 R.Y) ∧ w'.cell? ⟨w3.heap.size, 6, none⟩ = some (.int .u16 R.U) ∧ w'.cell? ⟨w3.heap.size, 7, none⟩ = some (.int .u16 R.S) ∧ w'.cell? ⟨w3.heap.size, 8, none⟩ = some (.int .u16 R.P))) X.drew) := Lib.hid (RgAt.cells (show RgAt X.drew w3.heap.size 34 R from Blk.drew HQ.out))
      obtain ⟨z0, z1, z2, z3, z4, z5, z6, z7, z8⟩ := RgAt.cells HV.out.2.2.2
      obtain ⟨f0, f1, f2, f3, f4, f5, f6, f7, f8⟩ := RgAt.frz HV.out.2.2.2
      have HN : Hid (w3.heap.size ≠ (w.heap.size + 1 + 1)) := Lib.hid (by have := H3.out.lt; omega)
      have S2 : Hid ((fun w' => (w'.cell? ⟨w3.heap.size, 0, none⟩ = some (.int .u8 R.A) ∧ w'.cell? ⟨w3.heap.size, 1, none⟩ = some (.int .u8 R.B) ∧ w'.cell? ⟨w3.heap.size, 2, none⟩ = some (.int .u8 R.D) ∧ w'.cell? ⟨w3.heap.size, 3, none⟩ = some (.int .u8 R.C) ∧ w'.cell? ⟨w3.heap.size, 4, none⟩ = some (.int .u16 R.X) ∧ w'.cell? ⟨w3.heap.size, 5, none⟩ = some (.int .u16 R.Y) ∧ w'.cell? ⟨w3.heap.size, 6, none⟩ = some (.int .u16 R.U) ∧ w'.cell? ⟨w3.heap.size, 7, none⟩ = some (.int .u16 R.S) ∧ w'.cell? ⟨w3.heap.size, 8, none⟩ = some (.int .u16 R.P))) (set9i X (w.heap.size + 1 + 1) R).drew) := Lib.hid (RgAt.cells (show RgAt (set9i X (w.heap.size + 1 + 1) R).drew w3.heap.size 34 R from Blk.drew (set9i_farB HQ.out HN.out R)))
      have HF : Hid (RgAt (set9i X (w.heap.size + 1 + 1) R) (w.heap.size + 1 + 1) 34 R) := Lib.hid (set9i_at HV.out.2.2.2 R)
      have HG : Hid (Below w.heap.size w (set9i X (w.heap.size + 1 + 1) R)) := Lib.hid (set9i_below HV.out.1 (by omega) R)
      refine wp_region_noPanic ?_
      refine wp_region_held_drew (S := (fun w' => (w'.cell? ⟨w3.heap.size, 0, none⟩ = some (.int .u8 R.A) ∧ w'.cell? ⟨w3.heap.size, 1, none⟩ = some (.int .u8 R.B) ∧ w'.cell? ⟨w3.heap.size, 2, none⟩ = some (.int .u8 R.D) ∧ w'.cell? ⟨w3.heap.size, 3, none⟩ = some (.int .u8 R.C) ∧ w'.cell? ⟨w3.heap.size, 4, none⟩ = some (.int .u16 R.X) ∧ w'.cell? ⟨w3.heap.size, 5, none⟩ = some (.int .u16 R.Y) ∧ w'.cell? ⟨w3.heap.size, 6, none⟩ = some (.int .u16 R.U) ∧ w'.cell? ⟨w3.heap.size, 7, none⟩ = some (.int .u16 R.S) ∧ w'.cell? ⟨w3.heap.size, 8, none⟩ = some (.int .u16 R.P)))) (by kernel_rfl) ?_ (fun hH0 => ?_)
      · (try dsimp only); with_reducible exact S0.out
      refine wpAnyH_take (i := 0) (oi := ({ dst := some 45, op := Op.move (Operand.tmp 9), type := 32, pos := "index.go:57", after := #[], guard := none } : Oper)) (v := ?_) rfl (by kernel_rfl) (by kernel_rfl) (by kernel_rfl) (fun _ _ _ h => h) (Or.inl ⟨by rfl, ?_⟩) (by assumption) ?_
      rotate_left 1
      · (intro w hSw; (try dsimp only at hSw); go_simp; (try with_reducible rfl))
      (try simp only [Act.put, List.setIfInBounds_toArray, List.set_cons_zero, List.set_cons_succ])
      refine wpAnyH_take (i := 1) (oi := ({ dst := some 46, op := Op.load 34 (Operand.tmp 10), type := 34, pos := "index.go:57", after := #[{ on := 2, ground := Ground.gcOnly Departure.lateStores }], guard := none } : Oper)) (v := ?_) rfl (by kernel_rfl) (by kernel_rfl) (by kernel_rfl) (fun _ _ _ h => h) (Or.inl ⟨by rfl, ?_⟩) (by assumption) ?_
      rotate_left 1
      · (intro w hSw; (try dsimp only at hSw); go_simp; (try with_reducible rfl))
      (try simp only [Act.put, List.setIfInBounds_toArray, List.set_cons_zero, List.set_cons_succ])
      refine wpAnyH_take (i := 2) (oi := ({ dst := some 6, op := Op.assign (Operand.tmp 45), type := 32, pos := "index.go:57", after := #[{ on := 0, ground := Ground.data }, { on := 0, ground := Ground.phase }, { on := 1, ground := Ground.textOnly Departure.lateStores }], guard := none } : Oper)) (v := ?_) rfl (by kernel_rfl) (by kernel_rfl) (by kernel_rfl) (fun _ _ _ h => h) (Or.inl ⟨by rfl, ?_⟩) (by assumption) ?_
      rotate_left 1
      · (intro w hSw; (try dsimp only at hSw); go_simp; (try with_reducible rfl))
      (try simp only [Act.put, List.setIfInBounds_toArray, List.set_cons_zero, List.set_cons_succ])
      refine wpAnyH_ready (rs := [3]) (by kernel_rfl) (by simp) ?_
      refine AllReadyH.cons (o := ({ dst := none, op := Op.store 34 (Operand.tmp 7) (Operand.tmp 46), type := 0, pos := "index.go:57", after := #[{ on := 1, ground := Ground.data }, { on := 2, ground := Ground.chain }, { on := 0, ground := Ground.phase }, { on := 1, ground := Ground.phase }, { on := 2, ground := Ground.phase }], guard := none } : Oper)) rfl (fun K hK => ?_) ?_
      rotate_left 1
      · exact AllReadyH.nil
      go_simp
      first | (refine hK.out _ _ ?_ (fun hH1 => ?_)) | (go_wp2_with fail; refine hK.out _ _ ?_ (fun hH1 => ?_))
      · (try dsimp only); with_reducible exact S2.out
      clear hK K hH0
      (try simp only [Act.put, List.setIfInBounds_toArray, List.set_cons_zero, List.set_cons_succ])
      refine wpAnyH_take (i := 4) (oi := ({ dst := some 8, op := Op.assign (Operand.const (Value.bool true)), type := 4, pos := "index.go:57", after := #[{ on := 3, ground := Ground.chain }, { on := 0, ground := Ground.phase }, { on := 1, ground := Ground.phase }, { on := 2, ground := Ground.phase }, { on := 3, ground := Ground.phase }], guard := none } : Oper)) (v := ?_) rfl (by kernel_rfl) (by kernel_rfl) (by kernel_rfl) (fun _ _ _ h => h) (Or.inl ⟨by rfl, ?_⟩) (by assumption) ?_
      rotate_left 1
      · (intro w hSw; (try dsimp only at hSw); go_simp; (try with_reducible rfl))
      (try simp only [Act.put, List.setIfInBounds_toArray, List.set_cons_zero, List.set_cons_succ])
      refine wpAnyH_done (by kernel_rfl) ?_ _
      refine NoPanic.normal ?_
      go_wp2
      exact bodyPost_ret (v := .tuple #[.int .u16 A, .agg R.cells, .bool true]) (resInA _ _ (w.heap.size + 1 + 1) R.cells (Blk.drew HF.out) rfl rfl A rfl true rfl) rfl ⟨rfl, Below.drew0 HG.out⟩
    refine AllReadyH.cons (o := ({ dst := some 10, op := Op.alloc 34, type := 0, pos := "index.go:56", after := #[], guard := none } : Oper)) rfl (fun K hK => ?_) ?_
    · go_simp
      first | (refine hK.out _ _ ?_ (fun hH2 => ?_)) | (go_wp2_with fail; refine hK.out _ _ ?_ (fun hH2 => ?_))
      · (try dsimp only); with_reducible first | exact HS.out _ (StI.alD H0.out _) | exact HS.out _ (StI.al H2.out _) | exact HS.out _ (StI.al H3.out _) | exact HS.out _ (StI.s9 H3.out (by have := H0.out.lt; omega) _) | exact HS.out _ (StI.s9 H3.out (by have := H2.out.lt; omega) _)
      clear hK K hH1
      (try simp only [Act.put, List.setIfInBounds_toArray, List.set_cons_zero, List.set_cons_succ])
      refine wpAnyH_ready (rs := [11]) (by kernel_rfl) (by simp) ?_
      refine AllReadyH.cons (o := ({ dst := some 42, op := Op.call { callee := Callee.value (Operand.func 19), args := #[Operand.tmp 33, Operand.tmp 34, Operand.tmp 36, Operand.tmp 41], argTypes := #[40, 34, 32, 32] }, type := 41, pos := "index.go:56", after := #[{ on := 2, ground := Ground.data }, { on := 3, ground := Ground.data }, { on := 5, ground := Ground.data }, { on := 10, ground := Ground.data }, { on := 2, ground := Ground.chain }], guard := none } : Oper)) rfl (fun K hK => ?_) ?_
      rotate_left 1
      · exact AllReadyH.nil
      go_simp
      go_at_call 19
      (with_reducible refine (CI.out _).mono ?_); rintro e w3 ⟨rfl, hb3⟩; (first | have H3 := Lib.hid (StI.be H2.out hb3) | have H3 := Lib.hid (StI.be (StI.al H2.out _) hb3)); (try have Z3 := Lib.hid (RgAt.below Z2.out hb3 (Blk.lt Z2.out))); (try have Z3 := Lib.hid (RgAt.below (show RgAt (w2.alloc (Obj.cells zRg.cells 34)) w2.heap.size 34 zRg from Blk.new _ _ _ (0, 0)) hb3 (Blk.lt (Blk.new w2 34 zRg.cells (0, 0))))); clear hb3; (try obtain ⟨y0, y1, y2, y3, y4, y5, y6, y7, y8⟩ := Z3.out.cells); (try obtain ⟨e0, e1, e2, e3, e4, e5, e6, e7, e8⟩ := Z3.out.frz)
      first | (refine hK.out _ _ ?_ (fun hH3 => ?_)) | (go_wp2_with fail; refine hK.out _ _ ?_ (fun hH3 => ?_))
      · (try dsimp only); with_reducible exact HS.out _ H3.out
      clear hK K hH2
      (try simp only [Act.put, List.setIfInBounds_toArray, List.set_cons_zero, List.set_cons_succ])
      refine wpAnyH_take (i := 12) (oi := ({ dst := some 30, op := Op.move (Operand.tmp 42), type := 41, pos := "index.go:56", after := #[{ on := 11, ground := Ground.data }], guard := none } : Oper)) (v := ?_) rfl (by kernel_rfl) (by kernel_rfl) (by kernel_rfl) (fun _ _ _ h => h) (Or.inl ⟨by rfl, ?_⟩) (by assumption) ?_
      rotate_left 1
      · (intro w hSw; (try dsimp only at hSw); go_simp; (try with_reducible rfl))
      (try simp only [Act.put, List.setIfInBounds_toArray, List.set_cons_zero, List.set_cons_succ])
      refine wpAnyH_take (i := 13) (oi := ({ dst := some 43, op := Op.extract (Operand.tmp 30) 0, type := 32, pos := "index.go:56", after := #[{ on := 12, ground := Ground.data }], guard := none } : Oper)) (v := ?_) rfl (by kernel_rfl) (by kernel_rfl) (by kernel_rfl) (fun _ _ _ h => h) (Or.inl ⟨by rfl, ?_⟩) (by assumption) ?_
      rotate_left 1
      · (intro w hSw; (try dsimp only at hSw); go_simp; (try with_reducible rfl))
      (try simp only [Act.put, List.setIfInBounds_toArray, List.set_cons_zero, List.set_cons_succ])
      refine wpAnyH_take (i := 14) (oi := ({ dst := some 44, op := Op.extract (Operand.tmp 30) 1, type := 34, pos := "index.go:56", after := #[{ on := 12, ground := Ground.data }, { on := 16, ground := Ground.gcOnly Departure.lateStores }], guard := none } : Oper)) (v := ?_) rfl (by kernel_rfl) (by kernel_rfl) (by kernel_rfl) (fun _ _ _ h => h) (Or.inl ⟨by rfl, ?_⟩) (by assumption) ?_
      rotate_left 1
      · (intro w hSw; (try dsimp only at hSw); go_simp; (try with_reducible rfl))
      (try simp only [Act.put, List.setIfInBounds_toArray, List.set_cons_zero, List.set_cons_succ])
      refine wpAnyH_take (i := 16) (oi := ({ dst := some 9, op := Op.assign (Operand.tmp 43), type := 32, pos := "index.go:56", after := #[{ on := 13, ground := Ground.data }, { on := 11, ground := Ground.chain }, { on := 0, ground := Ground.phase }, { on := 1, ground := Ground.phase }, { on := 2, ground := Ground.phase }, { on := 3, ground := Ground.phase }, { on := 4, ground := Ground.phase }, { on := 5, ground := Ground.phase }, { on := 6, ground := Ground.phase }, { on := 7, ground := Ground.phase }, { on := 8, ground := Ground.phase }, { on := 9, ground := Ground.phase }, { on := 10, ground := Ground.phase }, { on := 11, ground := Ground.phase }, { on := 12, ground := Ground.phase }, { on := 13, ground := Ground.phase }, { on := 14, ground := Ground.textOnly Departure.lateStores }, { on := 15, ground := Ground.phase }], guard := none } : Oper)) (v := ?_) rfl (by kernel_rfl) (by kernel_rfl) (by kernel_rfl) (fun _ _ _ h => h) (Or.inl ⟨by rfl, ?_⟩) (by assumption) ?_
      rotate_left 1
      · (intro w hSw; (try dsimp only at hSw); go_simp; (try with_reducible rfl))
      (try simp only [Act.put, List.setIfInBounds_toArray, List.set_cons_zero, List.set_cons_succ])
      refine wpAnyH_ready (rs := [17]) (by kernel_rfl) (by simp) ?_
      refine AllReadyH.cons (o := ({ dst := none, op := Op.store 34 (Operand.tmp 10) (Operand.tmp 44), type := 0, pos := "index.go:56", after := #[{ on := 15, ground := Ground.data }, { on := 14, ground := Ground.data }, { on := 16, ground := Ground.chain }, { on := 0, ground := Ground.phase }, { on := 1, ground := Ground.phase }, { on := 2, ground := Ground.phase }, { on := 3, ground := Ground.phase }, { on := 4, ground := Ground.phase }, { on := 5, ground := Ground.phase }, { on := 6, ground := Ground.phase }, { on := 7, ground := Ground.phase }, { on := 8, ground := Ground.phase }, { on := 9, ground := Ground.phase }, { on := 10, ground := Ground.phase }, { on := 11, ground := Ground.phase }, { on := 12, ground := Ground.phase }, { on := 13, ground := Ground.phase }, { on := 14, ground := Ground.phase }, { on := 15, ground := Ground.phase }, { on := 16, ground := Ground.phase }], guard := none } : Oper)) rfl (fun K hK => ?_) ?_
      rotate_left 1
      · exact AllReadyH.nil
      go_simp
      first | (refine hK.out _ _ ?_ (fun hH4 => ?_)) | (go_wp2_with fail; refine hK.out _ _ ?_ (fun hH4 => ?_))
      · (try dsimp only); with_reducible first | exact HS.out _ (StI.alD H0.out _) | exact HS.out _ (StI.al H2.out _) | exact HS.out _ (StI.al H3.out _) | exact HS.out _ (StI.s9 H3.out (by have := H0.out.lt; omega) _) | exact HS.out _ (StI.s9 H3.out (by have := H2.out.lt; omega) _)
      clear hK K hH3
      (try simp only [Act.put, List.setIfInBounds_toArray, List.set_cons_zero, List.set_cons_succ])
      refine wpAnyH_done (by kernel_rfl) ?_ _
      refine NoPanic.normal ?_
      (try clear y0 y1 y2 y3 y4 y5 y6 y7 y8 e0 e1 e2 e3 e4 e5 e6 e7 e8)
      clear S0 hL hN
      go_upto_region 8 with (fail)
      have HV := Lib.hid (show StI w (((((((((w3.setCell ⟨w2.heap.size, 0, none⟩ (.int .u8 R.A)).setCell ⟨w2.heap.size, 1, none⟩ (.int .u8 R.B)).setCell ⟨w2.heap.size, 2, none⟩ (.int .u8 R.D)).setCell ⟨w2.heap.size, 3, none⟩ (.int .u8 R.C)).setCell ⟨w2.heap.size, 4, none⟩ (.int .u16 R.X)).setCell ⟨w2.heap.size, 5, none⟩ (.int .u16 R.Y)).setCell ⟨w2.heap.size, 6, none⟩ (.int .u16 R.U)).setCell ⟨w2.heap.size, 7, none⟩ (.int .u16 R.S)).setCell ⟨w2.heap.size, 8, none⟩ (.int .u16 R.P)) #[.int .i64 p, .int .u8 c, .int .i64 o, .int .i64 4, .int .i64 q, .int .u8 (b : Int), .int .u16 va, .int .i64 ln] r from StI.s9 H3.out (by have := H2.out.lt; omega) _)
      have HQ := Lib.hid (show RgAt (((((((((w3.setCell ⟨w2.heap.size, 0, none⟩ (.int .u8 R.A)).setCell ⟨w2.heap.size, 1, none⟩ (.int .u8 R.B)).setCell ⟨w2.heap.size, 2, none⟩ (.int .u8 R.D)).setCell ⟨w2.heap.size, 3, none⟩ (.int .u8 R.C)).setCell ⟨w2.heap.size, 4, none⟩ (.int .u16 R.X)).setCell ⟨w2.heap.size, 5, none⟩ (.int .u16 R.Y)).setCell ⟨w2.heap.size, 6, none⟩ (.int .u16 R.U)).setCell ⟨w2.heap.size, 7, none⟩ (.int .u16 R.S)).setCell ⟨w2.heap.size, 8, none⟩ (.int .u16 R.P)) w2.heap.size 34 R from set9i_at Z3.out R)
      generalize (((((((((w3.setCell ⟨w2.heap.size, 0, none⟩ (.int .u8 R.A)).setCell ⟨w2.heap.size, 1, none⟩ (.int .u8 R.B)).setCell ⟨w2.heap.size, 2, none⟩ (.int .u8 R.D)).setCell ⟨w2.heap.size, 3, none⟩ (.int .u8 R.C)).setCell ⟨w2.heap.size, 4, none⟩ (.int .u16 R.X)).setCell ⟨w2.heap.size, 5, none⟩ (.int .u16 R.Y)).setCell ⟨w2.heap.size, 6, none⟩ (.int .u16 R.U)).setCell ⟨w2.heap.size, 7, none⟩ (.int .u16 R.S)).setCell ⟨w2.heap.size, 8, none⟩ (.int .u16 R.P)) = X at HV HQ ⊢
      have S0 : Hid ((fun w' => (w'.cell? ⟨w2.heap.size, 0, none⟩ = some (.int .u8 R.A) ∧ w'.cell? ⟨w2.heap.size, 1, none⟩ = some (.int .u8 R.B) ∧ w'.cell? ⟨w2.heap.size, 2, none⟩ = some (.int .u8 R.D) ∧ w'.cell? ⟨w2.heap.size, 3, none⟩ = some (.int .u8 R.C) ∧ w'.cell? ⟨w2.heap.size, 4, none⟩ = some (.int .u16 R.X) ∧ w'.cell? ⟨w2.heap.size, 5, none⟩ = some (.int .u16 R.Y) ∧ w'.cell? ⟨w2.heap.size, 6, none⟩ = some (.int .u16 R.U) ∧ w'.cell? ⟨w2.heap.size, 7, none⟩ = some (.int .u16 R.S) ∧ w'.cell? ⟨w2.heap.size, 8, none⟩ = some (.int .u16 R.P))) X.drew) := Lib.hid (RgAt.cells (show RgAt X.drew w2.heap.size 34 R from Blk.drew HQ.out))
      obtain ⟨z0, z1, z2, z3, z4, z5, z6, z7, z8⟩ := RgAt.cells HV.out.2.2.2
      obtain ⟨f0, f1, f2, f3, f4, f5, f6, f7, f8⟩ := RgAt.frz HV.out.2.2.2
      have HN : Hid (w2.heap.size ≠ (w.heap.size + 1 + 1)) := Lib.hid (by have := H2.out.lt; omega)
      have S2 : Hid ((fun w' => (w'.cell? ⟨w2.heap.size, 0, none⟩ = some (.int .u8 R.A) ∧ w'.cell? ⟨w2.heap.size, 1, none⟩ = some (.int .u8 R.B) ∧ w'.cell? ⟨w2.heap.size, 2, none⟩ = some (.int .u8 R.D) ∧ w'.cell? ⟨w2.heap.size, 3, none⟩ = some (.int .u8 R.C) ∧ w'.cell? ⟨w2.heap.size, 4, none⟩ = some (.int .u16 R.X) ∧ w'.cell? ⟨w2.heap.size, 5, none⟩ = some (.int .u16 R.Y) ∧ w'.cell? ⟨w2.heap.size, 6, none⟩ = some (.int .u16 R.U) ∧ w'.cell? ⟨w2.heap.size, 7, none⟩ = some (.int .u16 R.S) ∧ w'.cell? ⟨w2.heap.size, 8, none⟩ = some (.int .u16 R.P))) (set9i X (w.heap.size + 1 + 1) R).drew) := Lib.hid (RgAt.cells (show RgAt (set9i X (w.heap.size + 1 + 1) R).drew w2.heap.size 34 R from Blk.drew (set9i_farB HQ.out HN.out R)))
      have HF : Hid (RgAt (set9i X (w.heap.size + 1 + 1) R) (w.heap.size + 1 + 1) 34 R) := Lib.hid (set9i_at HV.out.2.2.2 R)
      have HG : Hid (Below w.heap.size w (set9i X (w.heap.size + 1 + 1) R)) := Lib.hid (set9i_below HV.out.1 (by omega) R)
      refine wp_region_noPanic ?_
      refine wp_region_held_drew (S := (fun w' => (w'.cell? ⟨w2.heap.size, 0, none⟩ = some (.int .u8 R.A) ∧ w'.cell? ⟨w2.heap.size, 1, none⟩ = some (.int .u8 R.B) ∧ w'.cell? ⟨w2.heap.size, 2, none⟩ = some (.int .u8 R.D) ∧ w'.cell? ⟨w2.heap.size, 3, none⟩ = some (.int .u8 R.C) ∧ w'.cell? ⟨w2.heap.size, 4, none⟩ = some (.int .u16 R.X) ∧ w'.cell? ⟨w2.heap.size, 5, none⟩ = some (.int .u16 R.Y) ∧ w'.cell? ⟨w2.heap.size, 6, none⟩ = some (.int .u16 R.U) ∧ w'.cell? ⟨w2.heap.size, 7, none⟩ = some (.int .u16 R.S) ∧ w'.cell? ⟨w2.heap.size, 8, none⟩ = some (.int .u16 R.P)))) (by kernel_rfl) ?_ (fun hH0 => ?_)
      · (try dsimp only); with_reducible exact S0.out
      refine wpAnyH_take (i := 0) (oi := ({ dst := some 45, op := Op.move (Operand.tmp 9), type := 32, pos := "index.go:57", after := #[], guard := none } : Oper)) (v := ?_) rfl (by kernel_rfl) (by kernel_rfl) (by kernel_rfl) (fun _ _ _ h => h) (Or.inl ⟨by rfl, ?_⟩) (by assumption) ?_
      rotate_left 1
      · (intro w hSw; (try dsimp only at hSw); go_simp; (try with_reducible rfl))
      (try simp only [Act.put, List.setIfInBounds_toArray, List.set_cons_zero, List.set_cons_succ])
      refine wpAnyH_take (i := 1) (oi := ({ dst := some 46, op := Op.load 34 (Operand.tmp 10), type := 34, pos := "index.go:57", after := #[{ on := 2, ground := Ground.gcOnly Departure.lateStores }], guard := none } : Oper)) (v := ?_) rfl (by kernel_rfl) (by kernel_rfl) (by kernel_rfl) (fun _ _ _ h => h) (Or.inl ⟨by rfl, ?_⟩) (by assumption) ?_
      rotate_left 1
      · (intro w hSw; (try dsimp only at hSw); go_simp; (try with_reducible rfl))
      (try simp only [Act.put, List.setIfInBounds_toArray, List.set_cons_zero, List.set_cons_succ])
      refine wpAnyH_take (i := 2) (oi := ({ dst := some 6, op := Op.assign (Operand.tmp 45), type := 32, pos := "index.go:57", after := #[{ on := 0, ground := Ground.data }, { on := 0, ground := Ground.phase }, { on := 1, ground := Ground.textOnly Departure.lateStores }], guard := none } : Oper)) (v := ?_) rfl (by kernel_rfl) (by kernel_rfl) (by kernel_rfl) (fun _ _ _ h => h) (Or.inl ⟨by rfl, ?_⟩) (by assumption) ?_
      rotate_left 1
      · (intro w hSw; (try dsimp only at hSw); go_simp; (try with_reducible rfl))
      (try simp only [Act.put, List.setIfInBounds_toArray, List.set_cons_zero, List.set_cons_succ])
      refine wpAnyH_ready (rs := [3]) (by kernel_rfl) (by simp) ?_
      refine AllReadyH.cons (o := ({ dst := none, op := Op.store 34 (Operand.tmp 7) (Operand.tmp 46), type := 0, pos := "index.go:57", after := #[{ on := 1, ground := Ground.data }, { on := 2, ground := Ground.chain }, { on := 0, ground := Ground.phase }, { on := 1, ground := Ground.phase }, { on := 2, ground := Ground.phase }], guard := none } : Oper)) rfl (fun K hK => ?_) ?_
      rotate_left 1
      · exact AllReadyH.nil
      go_simp
      first | (refine hK.out _ _ ?_ (fun hH1 => ?_)) | (go_wp2_with fail; refine hK.out _ _ ?_ (fun hH1 => ?_))
      · (try dsimp only); with_reducible exact S2.out
      clear hK K hH0
      (try simp only [Act.put, List.setIfInBounds_toArray, List.set_cons_zero, List.set_cons_succ])
      refine wpAnyH_take (i := 4) (oi := ({ dst := some 8, op := Op.assign (Operand.const (Value.bool true)), type := 4, pos := "index.go:57", after := #[{ on := 3, ground := Ground.chain }, { on := 0, ground := Ground.phase }, { on := 1, ground := Ground.phase }, { on := 2, ground := Ground.phase }, { on := 3, ground := Ground.phase }], guard := none } : Oper)) (v := ?_) rfl (by kernel_rfl) (by kernel_rfl) (by kernel_rfl) (fun _ _ _ h => h) (Or.inl ⟨by rfl, ?_⟩) (by assumption) ?_
      rotate_left 1
      · (intro w hSw; (try dsimp only at hSw); go_simp; (try with_reducible rfl))
      (try simp only [Act.put, List.setIfInBounds_toArray, List.set_cons_zero, List.set_cons_succ])
      refine wpAnyH_done (by kernel_rfl) ?_ _
      refine NoPanic.normal ?_
      go_wp2
      exact bodyPost_ret (v := .tuple #[.int .u16 A, .agg R.cells, .bool true]) (resInA _ _ (w.heap.size + 1 + 1) R.cells (Blk.drew HF.out) rfl rfl A rfl true rfl) rfl ⟨rfl, Below.drew0 HG.out⟩
    exact AllReadyH.nil
  refine AllReadyH.cons (o := ({ dst := some 10, op := Op.alloc 34, type := 0, pos := "index.go:56", after := #[], guard := none } : Oper)) rfl (fun K hK => ?_) ?_
  · go_simp
    first | (refine hK.out _ _ ?_ (fun hH1 => ?_)) | (go_wp2_with fail; refine hK.out _ _ ?_ (fun hH1 => ?_))
    · (try dsimp only); with_reducible first | exact HS.out _ (StI.alD H0.out _) | exact HS.out _ (StI.al H2.out _) | exact HS.out _ (StI.al H3.out _) | exact HS.out _ (StI.s9 H3.out (by have := H0.out.lt; omega) _) | exact HS.out _ (StI.s9 H3.out (by have := H2.out.lt; omega) _)
    clear hK K hH0
    (try simp only [Act.put, List.setIfInBounds_toArray, List.set_cons_zero, List.set_cons_succ])
    refine wpAnyH_ready (rs := [2]) (by kernel_rfl) (by simp) ?_
    refine AllReadyH.cons (o := ({ dst := some 33, op := Op.call { callee := Callee.value (Operand.func 44), args := #[Operand.tmp 32], argTypes := #[5] }, type := 40, pos := "index.go:56", after := #[{ on := 1, ground := Ground.data }], guard := none } : Oper)) rfl (fun K hK => ?_) ?_
    rotate_left 1
    · exact AllReadyH.nil
    go_simp
    go_at_call 44
    (first | (with_reducible refine (CP.out _ (StI.kinds (StI.alD H0.out _) HT.out)).mono ?_) | (with_reducible refine (CP.out _ (StI.kinds (StI.dr H0.out) HT.out)).mono ?_)); rintro e w2 ⟨rfl, hb2⟩; (first | have H2 := Lib.hid (StI.be (StI.alD H0.out _) hb2) | have H2 := Lib.hid (StI.be (StI.dr H0.out) hb2)); (try have Z2 := Lib.hid (RgAt.below (show RgAt (V.alloc (Obj.cells zRg.cells 34)).drew V.heap.size 34 zRg from Blk.new _ _ _ (0, 0)) hb2 (Blk.lt (Blk.new V 34 zRg.cells (0, 0))))); clear hb2
    first | (refine hK.out _ _ ?_ (fun hH2 => ?_)) | (go_wp2_with fail; refine hK.out _ _ ?_ (fun hH2 => ?_))
    · (try dsimp only); with_reducible exact HS.out _ H2.out
    clear hK K hH1
    (try simp only [Act.put, List.setIfInBounds_toArray, List.set_cons_zero, List.set_cons_succ])
    refine wpAnyH_ready (rs := [11]) (by kernel_rfl) (by simp) ?_
    refine AllReadyH.cons (o := ({ dst := some 42, op := Op.call { callee := Callee.value (Operand.func 19), args := #[Operand.tmp 33, Operand.tmp 34, Operand.tmp 36, Operand.tmp 41], argTypes := #[40, 34, 32, 32] }, type := 41, pos := "index.go:56", after := #[{ on := 2, ground := Ground.data }, { on := 3, ground := Ground.data }, { on := 5, ground := Ground.data }, { on := 10, ground := Ground.data }, { on := 2, ground := Ground.chain }], guard := none } : Oper)) rfl (fun K hK => ?_) ?_
    rotate_left 1
    · exact AllReadyH.nil
    go_simp
    go_at_call 19
    (with_reducible refine (CI.out _).mono ?_); rintro e w3 ⟨rfl, hb3⟩; (first | have H3 := Lib.hid (StI.be H2.out hb3) | have H3 := Lib.hid (StI.be (StI.al H2.out _) hb3)); (try have Z3 := Lib.hid (RgAt.below Z2.out hb3 (Blk.lt Z2.out))); (try have Z3 := Lib.hid (RgAt.below (show RgAt (w2.alloc (Obj.cells zRg.cells 34)) w2.heap.size 34 zRg from Blk.new _ _ _ (0, 0)) hb3 (Blk.lt (Blk.new w2 34 zRg.cells (0, 0))))); clear hb3; (try obtain ⟨y0, y1, y2, y3, y4, y5, y6, y7, y8⟩ := Z3.out.cells); (try obtain ⟨e0, e1, e2, e3, e4, e5, e6, e7, e8⟩ := Z3.out.frz)
    first | (refine hK.out _ _ ?_ (fun hH3 => ?_)) | (go_wp2_with fail; refine hK.out _ _ ?_ (fun hH3 => ?_))
    · (try dsimp only); with_reducible exact HS.out _ H3.out
    clear hK K hH2
    (try simp only [Act.put, List.setIfInBounds_toArray, List.set_cons_zero, List.set_cons_succ])
    refine wpAnyH_take (i := 12) (oi := ({ dst := some 30, op := Op.move (Operand.tmp 42), type := 41, pos := "index.go:56", after := #[{ on := 11, ground := Ground.data }], guard := none } : Oper)) (v := ?_) rfl (by kernel_rfl) (by kernel_rfl) (by kernel_rfl) (fun _ _ _ h => h) (Or.inl ⟨by rfl, ?_⟩) (by assumption) ?_
    rotate_left 1
    · (intro w hSw; (try dsimp only at hSw); go_simp; (try with_reducible rfl))
    (try simp only [Act.put, List.setIfInBounds_toArray, List.set_cons_zero, List.set_cons_succ])
    refine wpAnyH_take (i := 13) (oi := ({ dst := some 43, op := Op.extract (Operand.tmp 30) 0, type := 32, pos := "index.go:56", after := #[{ on := 12, ground := Ground.data }], guard := none } : Oper)) (v := ?_) rfl (by kernel_rfl) (by kernel_rfl) (by kernel_rfl) (fun _ _ _ h => h) (Or.inl ⟨by rfl, ?_⟩) (by assumption) ?_
    rotate_left 1
    · (intro w hSw; (try dsimp only at hSw); go_simp; (try with_reducible rfl))
    (try simp only [Act.put, List.setIfInBounds_toArray, List.set_cons_zero, List.set_cons_succ])
    refine wpAnyH_take (i := 14) (oi := ({ dst := some 44, op := Op.extract (Operand.tmp 30) 1, type := 34, pos := "index.go:56", after := #[{ on := 12, ground := Ground.data }, { on := 16, ground := Ground.gcOnly Departure.lateStores }], guard := none } : Oper)) (v := ?_) rfl (by kernel_rfl) (by kernel_rfl) (by kernel_rfl) (fun _ _ _ h => h) (Or.inl ⟨by rfl, ?_⟩) (by assumption) ?_
    rotate_left 1
    · (intro w hSw; (try dsimp only at hSw); go_simp; (try with_reducible rfl))
    (try simp only [Act.put, List.setIfInBounds_toArray, List.set_cons_zero, List.set_cons_succ])
    refine wpAnyH_take (i := 16) (oi := ({ dst := some 9, op := Op.assign (Operand.tmp 43), type := 32, pos := "index.go:56", after := #[{ on := 13, ground := Ground.data }, { on := 11, ground := Ground.chain }, { on := 0, ground := Ground.phase }, { on := 1, ground := Ground.phase }, { on := 2, ground := Ground.phase }, { on := 3, ground := Ground.phase }, { on := 4, ground := Ground.phase }, { on := 5, ground := Ground.phase }, { on := 6, ground := Ground.phase }, { on := 7, ground := Ground.phase }, { on := 8, ground := Ground.phase }, { on := 9, ground := Ground.phase }, { on := 10, ground := Ground.phase }, { on := 11, ground := Ground.phase }, { on := 12, ground := Ground.phase }, { on := 13, ground := Ground.phase }, { on := 14, ground := Ground.textOnly Departure.lateStores }, { on := 15, ground := Ground.phase }], guard := none } : Oper)) (v := ?_) rfl (by kernel_rfl) (by kernel_rfl) (by kernel_rfl) (fun _ _ _ h => h) (Or.inl ⟨by rfl, ?_⟩) (by assumption) ?_
    rotate_left 1
    · (intro w hSw; (try dsimp only at hSw); go_simp; (try with_reducible rfl))
    (try simp only [Act.put, List.setIfInBounds_toArray, List.set_cons_zero, List.set_cons_succ])
    refine wpAnyH_ready (rs := [17]) (by kernel_rfl) (by simp) ?_
    refine AllReadyH.cons (o := ({ dst := none, op := Op.store 34 (Operand.tmp 10) (Operand.tmp 44), type := 0, pos := "index.go:56", after := #[{ on := 15, ground := Ground.data }, { on := 14, ground := Ground.data }, { on := 16, ground := Ground.chain }, { on := 0, ground := Ground.phase }, { on := 1, ground := Ground.phase }, { on := 2, ground := Ground.phase }, { on := 3, ground := Ground.phase }, { on := 4, ground := Ground.phase }, { on := 5, ground := Ground.phase }, { on := 6, ground := Ground.phase }, { on := 7, ground := Ground.phase }, { on := 8, ground := Ground.phase }, { on := 9, ground := Ground.phase }, { on := 10, ground := Ground.phase }, { on := 11, ground := Ground.phase }, { on := 12, ground := Ground.phase }, { on := 13, ground := Ground.phase }, { on := 14, ground := Ground.phase }, { on := 15, ground := Ground.phase }, { on := 16, ground := Ground.phase }], guard := none } : Oper)) rfl (fun K hK => ?_) ?_
    rotate_left 1
    · exact AllReadyH.nil
    go_simp
    first | (refine hK.out _ _ ?_ (fun hH4 => ?_)) | (go_wp2_with fail; refine hK.out _ _ ?_ (fun hH4 => ?_))
    · (try dsimp only); with_reducible first | exact HS.out _ (StI.alD H0.out _) | exact HS.out _ (StI.al H2.out _) | exact HS.out _ (StI.al H3.out _) | exact HS.out _ (StI.s9 H3.out (by have := H0.out.lt; omega) _) | exact HS.out _ (StI.s9 H3.out (by have := H2.out.lt; omega) _)
    clear hK K hH3
    (try simp only [Act.put, List.setIfInBounds_toArray, List.set_cons_zero, List.set_cons_succ])
    refine wpAnyH_done (by kernel_rfl) ?_ _
    refine NoPanic.normal ?_
    (try clear y0 y1 y2 y3 y4 y5 y6 y7 y8 e0 e1 e2 e3 e4 e5 e6 e7 e8)
    clear S0 hL hN
    go_upto_region 8 with (fail)
    have HV := Lib.hid (show StI w (((((((((w3.setCell ⟨V.heap.size, 0, none⟩ (.int .u8 R.A)).setCell ⟨V.heap.size, 1, none⟩ (.int .u8 R.B)).setCell ⟨V.heap.size, 2, none⟩ (.int .u8 R.D)).setCell ⟨V.heap.size, 3, none⟩ (.int .u8 R.C)).setCell ⟨V.heap.size, 4, none⟩ (.int .u16 R.X)).setCell ⟨V.heap.size, 5, none⟩ (.int .u16 R.Y)).setCell ⟨V.heap.size, 6, none⟩ (.int .u16 R.U)).setCell ⟨V.heap.size, 7, none⟩ (.int .u16 R.S)).setCell ⟨V.heap.size, 8, none⟩ (.int .u16 R.P)) #[.int .i64 p, .int .u8 c, .int .i64 o, .int .i64 4, .int .i64 q, .int .u8 (b : Int), .int .u16 va, .int .i64 ln] r from StI.s9 H3.out (by have := H0.out.lt; omega) _)
    have HQ := Lib.hid (show RgAt (((((((((w3.setCell ⟨V.heap.size, 0, none⟩ (.int .u8 R.A)).setCell ⟨V.heap.size, 1, none⟩ (.int .u8 R.B)).setCell ⟨V.heap.size, 2, none⟩ (.int .u8 R.D)).setCell ⟨V.heap.size, 3, none⟩ (.int .u8 R.C)).setCell ⟨V.heap.size, 4, none⟩ (.int .u16 R.X)).setCell ⟨V.heap.size, 5, none⟩ (.int .u16 R.Y)).setCell ⟨V.heap.size, 6, none⟩ (.int .u16 R.U)).setCell ⟨V.heap.size, 7, none⟩ (.int .u16 R.S)).setCell ⟨V.heap.size, 8, none⟩ (.int .u16 R.P)) V.heap.size 34 R from set9i_at Z3.out R)
    generalize (((((((((w3.setCell ⟨V.heap.size, 0, none⟩ (.int .u8 R.A)).setCell ⟨V.heap.size, 1, none⟩ (.int .u8 R.B)).setCell ⟨V.heap.size, 2, none⟩ (.int .u8 R.D)).setCell ⟨V.heap.size, 3, none⟩ (.int .u8 R.C)).setCell ⟨V.heap.size, 4, none⟩ (.int .u16 R.X)).setCell ⟨V.heap.size, 5, none⟩ (.int .u16 R.Y)).setCell ⟨V.heap.size, 6, none⟩ (.int .u16 R.U)).setCell ⟨V.heap.size, 7, none⟩ (.int .u16 R.S)).setCell ⟨V.heap.size, 8, none⟩ (.int .u16 R.P)) = X at HV HQ ⊢
    have S0 : Hid ((fun w' => (w'.cell? ⟨V.heap.size, 0, none⟩ = some (.int .u8 R.A) ∧ w'.cell? ⟨V.heap.size, 1, none⟩ = some (.int .u8 R.B) ∧ w'.cell? ⟨V.heap.size, 2, none⟩ = some (.int .u8 R.D) ∧ w'.cell? ⟨V.heap.size, 3, none⟩ = some (.int .u8 R.C) ∧ w'.cell? ⟨V.heap.size, 4, none⟩ = some (.int .u16 R.X) ∧ w'.cell? ⟨V.heap.size, 5, none⟩ = some (.int .u16 R.Y) ∧ w'.cell? ⟨V.heap.size, 6, none⟩ = some (.int .u16 R.U) ∧ w'.cell? ⟨V.heap.size, 7, none⟩ = some (.int .u16 R.S) ∧ w'.cell? ⟨V.heap.size, 8, none⟩ = some (.int .u16 R.P))) X.drew) := Lib.hid (RgAt.cells (show RgAt X.drew V.heap.size 34 R from Blk.drew HQ.out))
    obtain ⟨z0, z1, z2, z3, z4, z5, z6, z7, z8⟩ := RgAt.cells HV.out.2.2.2
    obtain ⟨f0, f1, f2, f3, f4, f5, f6, f7, f8⟩ := RgAt.frz HV.out.2.2.2
    have HN : Hid (V.heap.size ≠ (w.heap.size + 1 + 1)) := Lib.hid (by have := H0.out.lt; omega)
    have S2 : Hid ((fun w' => (w'.cell? ⟨V.heap.size, 0, none⟩ = some (.int .u8 R.A) ∧ w'.cell? ⟨V.heap.size, 1, none⟩ = some (.int .u8 R.B) ∧ w'.cell? ⟨V.heap.size, 2, none⟩ = some (.int .u8 R.D) ∧ w'.cell? ⟨V.heap.size, 3, none⟩ = some (.int .u8 R.C) ∧ w'.cell? ⟨V.heap.size, 4, none⟩ = some (.int .u16 R.X) ∧ w'.cell? ⟨V.heap.size, 5, none⟩ = some (.int .u16 R.Y) ∧ w'.cell? ⟨V.heap.size, 6, none⟩ = some (.int .u16 R.U) ∧ w'.cell? ⟨V.heap.size, 7, none⟩ = some (.int .u16 R.S) ∧ w'.cell? ⟨V.heap.size, 8, none⟩ = some (.int .u16 R.P))) (set9i X (w.heap.size + 1 + 1) R).drew) := Lib.hid (RgAt.cells (show RgAt (set9i X (w.heap.size + 1 + 1) R).drew V.heap.size 34 R from Blk.drew (set9i_farB HQ.out HN.out R)))
    have HF : Hid (RgAt (set9i X (w.heap.size + 1 + 1) R) (w.heap.size + 1 + 1) 34 R) := Lib.hid (set9i_at HV.out.2.2.2 R)
    have HG : Hid (Below w.heap.size w (set9i X (w.heap.size + 1 + 1) R)) := Lib.hid (set9i_below HV.out.1 (by omega) R)
    refine wp_region_noPanic ?_
    refine wp_region_held_drew (S := (fun w' => (w'.cell? ⟨V.heap.size, 0, none⟩ = some (.int .u8 R.A) ∧ w'.cell? ⟨V.heap.size, 1, none⟩ = some (.int .u8 R.B) ∧ w'.cell? ⟨V.heap.size, 2, none⟩ = some (.int .u8 R.D) ∧ w'.cell? ⟨V.heap.size, 3, none⟩ = some (.int .u8 R.C) ∧ w'.cell? ⟨V.heap.size, 4, none⟩ = some (.int .u16 R.X) ∧ w'.cell? ⟨V.heap.size, 5, none⟩ = some (.int .u16 R.Y) ∧ w'.cell? ⟨V.heap.size, 6, none⟩ = some (.int .u16 R.U) ∧ w'.cell? ⟨V.heap.size, 7, none⟩ = some (.int .u16 R.S) ∧ w'.cell? ⟨V.heap.size, 8, none⟩ = some (.int .u16 R.P)))) (by kernel_rfl) ?_ (fun hH0 => ?_)
    · (try dsimp only); with_reducible exact S0.out
    refine wpAnyH_take (i := 0) (oi := ({ dst := some 45, op := Op.move (Operand.tmp 9), type := 32, pos := "index.go:57", after := #[], guard := none } : Oper)) (v := ?_) rfl (by kernel_rfl) (by kernel_rfl) (by kernel_rfl) (fun _ _ _ h => h) (Or.inl ⟨by rfl, ?_⟩) (by assumption) ?_
    rotate_left 1
    · (intro w hSw; (try dsimp only at hSw); go_simp; (try with_reducible rfl))
    (try simp only [Act.put, List.setIfInBounds_toArray, List.set_cons_zero, List.set_cons_succ])
    refine wpAnyH_take (i := 1) (oi := ({ dst := some 46, op := Op.load 34 (Operand.tmp 10), type := 34, pos := "index.go:57", after := #[{ on := 2, ground := Ground.gcOnly Departure.lateStores }], guard := none } : Oper)) (v := ?_) rfl (by kernel_rfl) (by kernel_rfl) (by kernel_rfl) (fun _ _ _ h => h) (Or.inl ⟨by rfl, ?_⟩) (by assumption) ?_
    rotate_left 1
    · (intro w hSw; (try dsimp only at hSw); go_simp; (try with_reducible rfl))
    (try simp only [Act.put, List.setIfInBounds_toArray, List.set_cons_zero, List.set_cons_succ])
    refine wpAnyH_take (i := 2) (oi := ({ dst := some 6, op := Op.assign (Operand.tmp 45), type := 32, pos := "index.go:57", after := #[{ on := 0, ground := Ground.data }, { on := 0, ground := Ground.phase }, { on := 1, ground := Ground.textOnly Departure.lateStores }], guard := none } : Oper)) (v := ?_) rfl (by kernel_rfl) (by kernel_rfl) (by kernel_rfl) (fun _ _ _ h => h) (Or.inl ⟨by rfl, ?_⟩) (by assumption) ?_
    rotate_left 1
    · (intro w hSw; (try dsimp only at hSw); go_simp; (try with_reducible rfl))
    (try simp only [Act.put, List.setIfInBounds_toArray, List.set_cons_zero, List.set_cons_succ])
    refine wpAnyH_ready (rs := [3]) (by kernel_rfl) (by simp) ?_
    refine AllReadyH.cons (o := ({ dst := none, op := Op.store 34 (Operand.tmp 7) (Operand.tmp 46), type := 0, pos := "index.go:57", after := #[{ on := 1, ground := Ground.data }, { on := 2, ground := Ground.chain }, { on := 0, ground := Ground.phase }, { on := 1, ground := Ground.phase }, { on := 2, ground := Ground.phase }], guard := none } : Oper)) rfl (fun K hK => ?_) ?_
    rotate_left 1
    · exact AllReadyH.nil
    go_simp
    first | (refine hK.out _ _ ?_ (fun hH1 => ?_)) | (go_wp2_with fail; refine hK.out _ _ ?_ (fun hH1 => ?_))
    · (try dsimp only); with_reducible exact S2.out
    clear hK K hH0
    (try simp only [Act.put, List.setIfInBounds_toArray, List.set_cons_zero, List.set_cons_succ])
    refine wpAnyH_take (i := 4) (oi := ({ dst := some 8, op := Op.assign (Operand.const (Value.bool true)), type := 4, pos := "index.go:57", after := #[{ on := 3, ground := Ground.chain }, { on := 0, ground := Ground.phase }, { on := 1, ground := Ground.phase }, { on := 2, ground := Ground.phase }, { on := 3, ground := Ground.phase }], guard := none } : Oper)) (v := ?_) rfl (by kernel_rfl) (by kernel_rfl) (by kernel_rfl) (fun _ _ _ h => h) (Or.inl ⟨by rfl, ?_⟩) (by assumption) ?_
    rotate_left 1
    · (intro w hSw; (try dsimp only at hSw); go_simp; (try with_reducible rfl))
    (try simp only [Act.put, List.setIfInBounds_toArray, List.set_cons_zero, List.set_cons_succ])
    refine wpAnyH_done (by kernel_rfl) ?_ _
    refine NoPanic.normal ?_
    go_wp2
    exact bodyPost_ret (v := .tuple #[.int .u16 A, .agg R.cells, .bool true]) (resInA _ _ (w.heap.size + 1 + 1) R.cells (Blk.drew HF.out) rfl rfl A rfl true rfl) rfl ⟨rfl, Below.drew0 HG.out⟩
  exact AllReadyH.nil
end Go.Proofs.YtoogaenknjdpcacDoor
