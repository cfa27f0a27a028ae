/- Points at addresses: the contract of Add; the chapter's example. -/
import Derived.Test.YteaajmoclgfhnaaWax
namespace Go.Proofs.Yteaajmoclgfhnaa
open Go.ChangeShapes Go.WideShapes Go.ChangeAt Go.RowKit
set_option linter.unusedVariables false

/-- What Add ends with. -/
def adE (k f t : Int) : Int := if k < 0 ∨ 2 < k then 10 else if t < f then 11 else 0
def AddPost (g : Nat) (v : Value) (P : List Pt) (la k f t : Int) (w : World) (e : Ending) (w' : World) : Prop :=
  (adE k f t ≠ 0 ∧ e = .returned (.tuple #[.int .i64 0, .int .i64 (adE k f t)]) ∧ w' = w) ∨
  (adE k f t = 0 ∧ e = .returned (.tuple #[.int .i64 (la + 1), .int .i64 0]) ∧ ∃ v', WAt w' g v' (P ++ [⟨la + 1, k, f, t⟩]) (la + 1) ∧ Kp g v w w' ∧ (v'.ownBlock = v.ownBlock ∨ ∃ b, v'.ownBlock = some b ∧ w.heap.size ≤ b))
theorem kp_add {g : Nat} {v : Value} {w W1 X w4 : World} (h1 : w.grownBy W1 (some g)) (hs : W1.heap.size = w.heap.size) (h2 : Below W1.heap.size W1 X) (h3 : X.grownBy w4 v.ownBlock) (u : Value) : Kp g v w (w4.setCell ⟨g, 0, none⟩ u) :=
  ⟨h3.os.trans (h2.os.trans h1.os), h3.tape.trans (h2.tape.trans h1.tape), h3.output.trans (h2.output.trans h1.output), by have h4 := h3.size; have h5 := h2.size; simp; omega,
   fun q hq hne hv => (Below.heap_setCell _ _ _ _ (by exact hne)).trans ((h3.block q (by have := h2.size; omega) (fun e => hv e.symm)).trans ((h2.block q (by omega)).trans (h1.block q hq (fun e => hne (by injection e)))))⟩
theorem wat_add {g : Nat} {v v' : Value} {w4 : World} {P : List Pt} {n : Int} (h : Blk w4 g 49 #[v, .int .i64 n]) (ho : eP.Own 88 w4 (g + 1) v' P) : WAt (w4.setCell ⟨g, 0, none⟩ v') g v' P n :=
  ⟨Blk.set_ h 0 v', Els.Own.grown ho (grown_cell w4 g 0 v') (by
    rcases hv : v'.ownBlock with _ | b
    · exact .inl rfl
    · refine .inr (fun e => ?_); injection e with e; have := (ho.lt b hv).1; omega)⟩
set_option maxRecDepth 100000 in
set_option maxHeartbeats 4000000 in
theorem add_any (g : Nat) (v : Value) (P : List Pt) (la k f t : Int) (w : World) (h : WAt w g v P la) (hn : P.length ≤ 1000) (l0 : 0 ≤ la) (l1 : la ≤ 1000000) :
    Calls Try.prog 43 #[.pointer (some ⟨g, 0, none⟩), .int .i64 k, .int .u16 f, .int .u16 t] w (AddPost g v P la k f t w) := by
  unfold AddPost
  by_cases hk : k < 0 ∨ 2 < k
  · have hE : adE k f t = 10 := if_pos hk
    rw [hE]
    have e0 : (k != 0) = true := by rw [bne_iff_ne]; omega
    have e1 : (k != 1) = true := by rw [bne_iff_ne]; omega
    have e2 : (k != 2) = true := by rw [bne_iff_ne]; omega
    clear hk h hE
    go_enter Try.func43, Try.ntmps43
    go_wp2
    go_ret2
    exact .inl ⟨by decide, rfl, rfl⟩
  by_cases ht : t < f
  · have hE : adE k f t = 11 := by unfold adE; rw [if_neg hk, if_pos ht]
    rw [hE]
    have hd : decide (t < f) = true := decide_eq_true ht
    rcases (show k = 0 ∨ k = 1 ∨ k = 2 by omega) with rfl | rfl | rfl
    all_goals
      clear hk h hE
      go_enter Try.func43, Try.ntmps43
      go_wp2
      go_ret2
      exact .inl ⟨by decide, rfl, rfl⟩
  have hE : adE k f t = 0 := by unfold adE; rw [if_neg hk, if_neg ht]
  rw [hE]
  have hd : decide (t < f) = false := decide_eq_false ht
  obtain ⟨hb, ho⟩ := h
  have hlt := ho.lt
  have hgs := hb.lt
  obtain ⟨⟨b0, b1⟩, f0, f1⟩ := Blk.b2 hb
  have wl : IntKind.i64.wrap (la + 1) = la + 1 := IntWalk.i64_in _ (by omega)
  have HB := Lib.hid hb
  have HO := Lib.hid ho
  have HLT := Lib.hid hlt
  have HGS := Lib.hid hgs
  have HNL := Lib.hid hn
  -- the number first
  have HB1 : Hid (Blk (w.setCell ⟨g, 1, none⟩ (.int .i64 (la + 1))) g 49 #[v, .int .i64 (la + 1)]) := Lib.hid (Blk.set_ hb 1 _)
  have G1 := Lib.hid (grown_cell w g 1 (.int .i64 (la + 1)))
  have HO1 : Hid (eP.Own 88 (w.setCell ⟨g, 1, none⟩ (.int .i64 (la + 1))) (g + 1) v P) := Lib.hid (Els.Own.grown ho G1.out (by
    rcases hv : v.ownBlock with _ | b
    · exact .inl rfl
    · refine .inr (fun e => ?_); injection e with e; have := (hlt b hv).1; omega))
  rcases (show k = 0 ∨ k = 1 ∨ k = 2 by omega) with rfl | rfl | rfl
  · clear hk ht hE hb ho hlt hgs hn
    go_enter Try.func43, Try.ntmps43
    go_upto_region 6 with (fail)
    clear b0 b1 f0 f1
    have hs1 : (w.setCell ⟨g, 1, none⟩ (.int .i64 (la + 1))).heap.size = w.heap.size := by simp
    have HS1 := Lib.hid hs1
    clear hs1
    generalize w.setCell ⟨g, 1, none⟩ (.int .i64 (la + 1)) = W1 at HB1 G1 HO1 HS1 ⊢
    obtain ⟨⟨b0, b1⟩, f0, f1⟩ := Blk.b2 HB1.out
    have S0 : Hid ((fun w' : World => w'.cell? ⟨g, 0, none⟩ = some v ∧ w'.cell? ⟨g, 1, none⟩ = some (.int .i64 (la + 1))) W1.drew) := Lib.hid ⟨b0, b1⟩
    have HBA := Lib.hid (Blk.alloc (Blk.drew HB1.out) (Obj.cells #[.int .i64 (la + 1), .int .i64 0, .int .u16 f, .int .u16 t] 88))
    have HBB := Lib.hid (Blk.alloc HB1.out (Obj.cells #[.int .i64 (la + 1), .int .i64 0, .int .u16 f, .int .u16 t] 88))
    have S1 : Hid ((fun w' : World => w'.cell? ⟨g, 0, none⟩ = some v ∧ w'.cell? ⟨g, 1, none⟩ = some (.int .i64 (la + 1))) (W1.drew.alloc (Obj.cells #[.int .i64 (la + 1), .int .i64 0, .int .u16 f, .int .u16 t] 88))) := Lib.hid (Blk.c2 HBA.out)
    obtain ⟨z0, z1⟩ := Blk.c2 HBA.out
    obtain ⟨y0, y1⟩ := Blk.c2 HBB.out
    have fz0 := HBA.out.frozen 0
    have fz1 := HBB.out.frozen 0
    refine wp_region_noPanic ?_
    refine wp_region_held_drew (S := (fun _ => True)) (by kernel_rfl) ?_ (fun hH0 => ?_)
    · trivial
    refine wpAnyH_take (i := 0) (oi := ({ dst := some 30, op := Op.move (Operand.tmp 0), type := 46, pos := "watch.go:38", after := #[], guard := none } : Oper)) (v := ?_) rfl (by kernel_rfl) (by kernel_rfl) (by kernel_rfl) (fun _ _ _ h => h) (Or.inl ⟨by rfl, ?_⟩) (by assumption) ?_
    rotate_left 1
    · (intro w hSw; (try dsimp only at hSw); go_simp; (try with_reducible rfl))
    (try simp only [Act.put, List.setIfInBounds_toArray, List.set_cons_zero, List.set_cons_succ])
    refine wpAnyH_take (i := 1) (oi := ({ dst := some 31, op := Op.move (Operand.tmp 0), type := 46, pos := "watch.go:38", after := #[], guard := none } : Oper)) (v := ?_) rfl (by kernel_rfl) (by kernel_rfl) (by kernel_rfl) (fun _ _ _ h => h) (Or.inl ⟨by rfl, ?_⟩) (by assumption) ?_
    rotate_left 1
    · (intro w hSw; (try dsimp only at hSw); go_simp; (try with_reducible rfl))
    (try simp only [Act.put, List.setIfInBounds_toArray, List.set_cons_zero, List.set_cons_succ])
    refine wpAnyH_take (i := 2) (oi := ({ dst := some 32, op := Op.nilCheck (Operand.tmp 31), type := 0, pos := "watch.go:38", after := #[{ on := 1, ground := Ground.data }], guard := none } : Oper)) (v := ?_) rfl (by kernel_rfl) (by kernel_rfl) (by kernel_rfl) (fun _ _ _ h => h) (Or.inl ⟨by rfl, ?_⟩) (by assumption) ?_
    rotate_left 1
    · (intro w hSw; (try dsimp only at hSw); go_simp; (try with_reducible rfl))
    (try simp only [Act.put, List.setIfInBounds_toArray, List.set_cons_zero, List.set_cons_succ])
    refine wpAnyH_take (i := 3) (oi := ({ dst := some 33, op := Op.fieldAddr 49 (Operand.tmp 32) 0, type := 0, pos := "watch.go:38", after := #[{ on := 2, ground := Ground.data }], guard := none } : Oper)) (v := ?_) rfl (by kernel_rfl) (by kernel_rfl) (by kernel_rfl) (fun _ _ _ h => h) (Or.inl ⟨by rfl, ?_⟩) (by assumption) ?_
    rotate_left 1
    · (intro w hSw; (try dsimp only at hSw); go_simp; (try with_reducible rfl))
    (try simp only [Act.put, List.setIfInBounds_toArray, List.set_cons_zero, List.set_cons_succ])
    refine wpAnyH_take (i := 5) (oi := ({ dst := some 35, op := Op.move (Operand.tmp 0), type := 46, pos := "watch.go:38", after := #[], guard := none } : Oper)) (v := ?_) rfl (by kernel_rfl) (by kernel_rfl) (by kernel_rfl) (fun _ _ _ h => h) (Or.inl ⟨by rfl, ?_⟩) (by assumption) ?_
    rotate_left 1
    · (intro w hSw; (try dsimp only at hSw); go_simp; (try with_reducible rfl))
    (try simp only [Act.put, List.setIfInBounds_toArray, List.set_cons_zero, List.set_cons_succ])
    refine wpAnyH_take (i := 6) (oi := ({ dst := some 36, op := Op.nilCheck (Operand.tmp 35), type := 0, pos := "watch.go:38", after := #[{ on := 5, ground := Ground.data }], guard := none } : Oper)) (v := ?_) rfl (by kernel_rfl) (by kernel_rfl) (by kernel_rfl) (fun _ _ _ h => h) (Or.inl ⟨by rfl, ?_⟩) (by assumption) ?_
    rotate_left 1
    · (intro w hSw; (try dsimp only at hSw); go_simp; (try with_reducible rfl))
    (try simp only [Act.put, List.setIfInBounds_toArray, List.set_cons_zero, List.set_cons_succ])
    refine wpAnyH_take (i := 7) (oi := ({ dst := some 37, op := Op.fieldAddr 49 (Operand.tmp 36) 1, type := 0, pos := "watch.go:38", after := #[{ on := 6, ground := Ground.data }], guard := none } : Oper)) (v := ?_) rfl (by kernel_rfl) (by kernel_rfl) (by kernel_rfl) (fun _ _ _ h => h) (Or.inl ⟨by rfl, ?_⟩) (by assumption) ?_
    rotate_left 1
    · (intro w hSw; (try dsimp only at hSw); go_simp; (try with_reducible rfl))
    (try simp only [Act.put, List.setIfInBounds_toArray, List.set_cons_zero, List.set_cons_succ])
    refine wpAnyH_take (i := 9) (oi := ({ dst := some 39, op := Op.move (Operand.tmp 1), type := 3, pos := "watch.go:38", after := #[], guard := none } : Oper)) (v := ?_) rfl (by kernel_rfl) (by kernel_rfl) (by kernel_rfl) (fun _ _ _ h => h) (Or.inl ⟨by rfl, ?_⟩) (by assumption) ?_
    rotate_left 1
    · (intro w hSw; (try dsimp only at hSw); go_simp; (try with_reducible rfl))
    (try simp only [Act.put, List.setIfInBounds_toArray, List.set_cons_zero, List.set_cons_succ])
    refine wpAnyH_take (i := 10) (oi := ({ dst := some 40, op := Op.move (Operand.tmp 2), type := 23, pos := "watch.go:38", after := #[], guard := none } : Oper)) (v := ?_) rfl (by kernel_rfl) (by kernel_rfl) (by kernel_rfl) (fun _ _ _ h => h) (Or.inl ⟨by rfl, ?_⟩) (by assumption) ?_
    rotate_left 1
    · (intro w hSw; (try dsimp only at hSw); go_simp; (try with_reducible rfl))
    (try simp only [Act.put, List.setIfInBounds_toArray, List.set_cons_zero, List.set_cons_succ])
    refine wpAnyH_take (i := 11) (oi := ({ dst := some 41, op := Op.move (Operand.tmp 3), type := 23, pos := "watch.go:38", after := #[], guard := none } : Oper)) (v := ?_) rfl (by kernel_rfl) (by kernel_rfl) (by kernel_rfl) (fun _ _ _ h => h) (Or.inl ⟨by rfl, ?_⟩) (by assumption) ?_
    rotate_left 1
    · (intro w hSw; (try dsimp only at hSw); go_simp; (try with_reducible rfl))
    (try simp only [Act.put, List.setIfInBounds_toArray, List.set_cons_zero, List.set_cons_succ])
    refine wpAnyH_ready (rs := [4, 8]) (by kernel_rfl) (by simp) ?_
    refine AllReadyH.cons (o := ({ dst := some 34, op := Op.load 47 (Operand.tmp 33), type := 47, pos := "watch.go:38", after := #[{ on := 3, ground := Ground.data }], guard := none } : Oper)) rfl (fun K hK => ?_) ?_
    · go_simp
      first | (refine hK.out _ _ ?_ (fun hH1 => ?_)) | (go_wp2_with fail; refine hK.out _ _ ?_ (fun hH1 => ?_))
      · trivial
      clear hK K hH0
      (try simp only [Act.put, List.setIfInBounds_toArray, List.set_cons_zero, List.set_cons_succ])
      refine wpAnyH_ready (rs := [8]) (by kernel_rfl) (by simp) ?_
      refine AllReadyH.cons (o := ({ dst := some 38, op := Op.load 3 (Operand.tmp 37), type := 3, pos := "watch.go:38", after := #[{ on := 7, ground := Ground.data }], guard := none } : Oper)) rfl (fun K hK => ?_) ?_
      rotate_left 1
      · exact AllReadyH.nil
      go_simp
      first | (refine hK.out _ _ ?_ (fun hH2 => ?_)) | (go_wp2_with fail; refine hK.out _ _ ?_ (fun hH2 => ?_))
      · trivial
      clear hK K hH1
      (try simp only [Act.put, List.setIfInBounds_toArray, List.set_cons_zero, List.set_cons_succ])
      refine wpAnyH_take (i := 12) (oi := ({ dst := some 42, op := Op.build 88 #[(0, Operand.tmp 38), (1, Operand.tmp 39), (2, Operand.tmp 40), (3, Operand.tmp 41)], type := 88, pos := "watch.go:38", after := #[{ on := 8, ground := Ground.data }, { on := 9, ground := Ground.data }, { on := 10, ground := Ground.data }, { on := 11, ground := Ground.data }], guard := none } : Oper)) (v := ?_) rfl (by kernel_rfl) (by kernel_rfl) (by kernel_rfl) (fun _ _ _ h => h) (Or.inl ⟨by rfl, ?_⟩) (by assumption) ?_
      rotate_left 1
      · (intro w hSw; (try dsimp only at hSw); go_simp; (try with_reducible rfl))
      (try simp only [Act.put, List.setIfInBounds_toArray, List.set_cons_zero, List.set_cons_succ])
      refine wpAnyH_ready (rs := [13]) (by kernel_rfl) (by simp) ?_
      refine AllReadyH.cons (o := ({ dst := some 43, op := Op.buildSlice 47 1 #[(0, Operand.tmp 42)], type := 47, pos := "watch.go:38", after := #[{ on := 12, ground := Ground.data }], guard := none } : Oper)) rfl (fun K hK => ?_) ?_
      rotate_left 1
      · exact AllReadyH.nil
      go_simp
      first | (refine hK.out _ _ ?_ (fun hH3 => ?_)) | (go_wp2_with fail; refine hK.out _ _ ?_ (fun hH3 => ?_))
      · trivial
      clear hK K hH2
      (try simp only [Act.put, List.setIfInBounds_toArray, List.set_cons_zero, List.set_cons_succ])
      refine wpAnyH_ready (rs := [14]) (by kernel_rfl) (by simp) ?_
      refine AllReadyH.cons (o := ({ dst := some 44, op := Op.call { callee := Callee.builtin Builtin.append, args := #[Operand.tmp 34, Operand.tmp 43], argTypes := #[47, 47] }, type := 47, pos := "watch.go:38", after := #[{ on := 4, ground := Ground.data }, { on := 13, ground := Ground.data }], guard := none } : Oper)) rfl (fun K hK => ?_) ?_
      rotate_left 1
      · exact AllReadyH.nil
      (refine step_appP (by rfl) _ _ _ (by rfl) (g + 1) v _ P [⟨la + 1, 0, f, t⟩] (by rfl) (by first | exact Els.Own.alloc (Els.Own.drew HO1.out) _ | exact Els.Own.drew (Els.Own.alloc HO1.out _)) (by rfl) (by first | exact Els.Rd.new (E := eP) _ rfl 88 [⟨la + 1, 0, f, t⟩] #[.int .i64 (la + 1), .int .i64 0, .int .u16 f, .int .u16 t] 1 rfl rfl 1 | exact Els.Rd.drew (Els.Rd.new (E := eP) _ rfl 88 [⟨la + 1, 0, f, t⟩] #[.int .i64 (la + 1), .int .i64 0, .int .u16 f, .int .u16 t] 1 rfl rfl 1)) (by have := HNL.out; simp; omega) (by have := HGS.out; have := HS1.out; simp; omega) ?_; intro v' w4 hown hbel hgr hwh; obtain ⟨A4, c4, rfl, -⟩ := Els.Rd.open_ hown.rd; have HK4 := Lib.hid (Blk.grown (by first | exact HBA.out | exact Blk.drew HBB.out) hgr (fun e => by have := (HLT.out g e.symm).1; omega)); have S2 := Lib.hid (show (fun w' : World => w'.cell? ⟨g, 0, none⟩ = some v ∧ w'.cell? ⟨g, 1, none⟩ = some (.int .i64 (la + 1))) w4 from Blk.c2 HK4.out); have HFR := HK4.out.frozen 0; have hc0 := (Blk.c2 HK4.out).1)
      first | (refine hK.out _ _ ?_ (fun hH4 => ?_)) | (go_wp2_with fail; refine hK.out _ _ ?_ (fun hH4 => ?_))
      · trivial
      clear hK K hH3
      (try simp only [Act.put, List.setIfInBounds_toArray, List.set_cons_zero, List.set_cons_succ])
      refine wpAnyH_take (i := 15) (oi := ({ dst := some 45, op := Op.nilCheck (Operand.tmp 30), type := 0, pos := "watch.go:38", after := #[{ on := 0, ground := Ground.data }, { on := 0, ground := Ground.phase }, { on := 1, ground := Ground.phase }, { on := 2, ground := Ground.phase }, { on := 3, ground := Ground.phase }, { on := 4, ground := Ground.phase }, { on := 5, ground := Ground.phase }, { on := 6, ground := Ground.phase }, { on := 7, ground := Ground.phase }, { on := 8, ground := Ground.phase }, { on := 9, ground := Ground.phase }, { on := 10, ground := Ground.phase }, { on := 11, ground := Ground.phase }, { on := 12, ground := Ground.phase }, { on := 13, ground := Ground.phase }, { on := 14, ground := Ground.phase }], guard := none } : Oper)) (v := ?_) rfl (by kernel_rfl) (by kernel_rfl) (by kernel_rfl) (fun _ _ _ h => h) (Or.inl ⟨by rfl, ?_⟩) (by assumption) ?_
      rotate_left 1
      · (intro w hSw; (try dsimp only at hSw); go_simp; (try with_reducible rfl))
      (try simp only [Act.put, List.setIfInBounds_toArray, List.set_cons_zero, List.set_cons_succ])
      refine wpAnyH_take (i := 16) (oi := ({ dst := some 46, op := Op.fieldAddr 49 (Operand.tmp 45) 0, type := 0, pos := "watch.go:38", after := #[{ on := 15, ground := Ground.data }, { on := 0, ground := Ground.phase }, { on := 1, ground := Ground.phase }, { on := 2, ground := Ground.phase }, { on := 3, ground := Ground.phase }, { on := 4, ground := Ground.phase }, { on := 5, ground := Ground.phase }, { on := 6, ground := Ground.phase }, { on := 7, ground := Ground.phase }, { on := 8, ground := Ground.phase }, { on := 9, ground := Ground.phase }, { on := 10, ground := Ground.phase }, { on := 11, ground := Ground.phase }, { on := 12, ground := Ground.phase }, { on := 13, ground := Ground.phase }, { on := 14, ground := Ground.phase }], guard := none } : Oper)) (v := ?_) rfl (by kernel_rfl) (by kernel_rfl) (by kernel_rfl) (fun _ _ _ h => h) (Or.inl ⟨by rfl, ?_⟩) (by assumption) ?_
      rotate_left 1
      · (intro w hSw; (try dsimp only at hSw); go_simp; (try with_reducible rfl))
      (try simp only [Act.put, List.setIfInBounds_toArray, List.set_cons_zero, List.set_cons_succ])
      refine wpAnyH_ready (rs := [17]) (by kernel_rfl) (by simp) ?_
      refine AllReadyH.cons (o := ({ dst := none, op := Op.store 47 (Operand.tmp 46) (Operand.tmp 44), type := 0, pos := "watch.go:38", after := #[{ on := 16, ground := Ground.data }, { on := 14, ground := Ground.data }, { on := 14, ground := Ground.chain }, { on := 0, ground := Ground.phase }, { on := 1, ground := Ground.phase }, { on := 2, ground := Ground.phase }, { on := 3, ground := Ground.phase }, { on := 4, ground := Ground.phase }, { on := 5, ground := Ground.phase }, { on := 6, ground := Ground.phase }, { on := 7, ground := Ground.phase }, { on := 8, ground := Ground.phase }, { on := 9, ground := Ground.phase }, { on := 10, ground := Ground.phase }, { on := 11, ground := Ground.phase }, { on := 12, ground := Ground.phase }, { on := 13, ground := Ground.phase }, { on := 14, ground := Ground.phase }], guard := none } : Oper)) rfl (fun K hK => ?_) ?_
      rotate_left 1
      · exact AllReadyH.nil
      go_simp
      first | (refine hK.out _ _ ?_ (fun hH5 => ?_)) | (go_wp2_with fail; refine hK.out _ _ ?_ (fun hH5 => ?_))
      · trivial
      clear hK K hH4
      (try simp only [Act.put, List.setIfInBounds_toArray, List.set_cons_zero, List.set_cons_succ])
      refine wpAnyH_done (by kernel_rfl) ?_ _
      refine NoPanic.normal ?_
      have hl1 : (P ++ [(⟨la + 1, 0, f, t⟩ : Pt)]).length = P.length + 1 := by simp
      rw [hl1] at hown hwh
      have hKp := kp_add G1.out HS1.out (by first | exact Below.drew0 (Below.alloc0 (Below.refl W1.heap.size W1) _) | exact Below.alloc0 (Below.drew0 (Below.refl W1.heap.size W1)) _) hgr (Value.slice A4 (P.length + 1) c4)
      have hwh2 : (Value.slice A4 (P.length + 1) c4).ownBlock = v.ownBlock ∨ ∃ b, (Value.slice A4 (P.length + 1) c4).ownBlock = some b ∧ w.heap.size ≤ b := by rcases hwh with hh | hh <;> first | exact .inl hh | exact .inr ⟨_, hh, by have := HS1.out; simp; omega⟩
      have HF := Lib.hid (And.intro (wat_add HK4.out hown) (And.intro hKp hwh2))
      have hc1 := (Blk.c2 HK4.out).2
      clear hown hwh hwh2 hKp hgr hbel hl1 y0 y1 z0 z1 b0 b1 f0 f1 fz0 fz1
      go_wp2
      go_ret2
      exact ⟨rfl, _, HF.out⟩
    refine AllReadyH.cons (o := ({ dst := some 38, op := Op.load 3 (Operand.tmp 37), type := 3, pos := "watch.go:38", after := #[{ on := 7, ground := Ground.data }], guard := none } : Oper)) rfl (fun K hK => ?_) ?_
    · go_simp
      first | (refine hK.out _ _ ?_ (fun hH1 => ?_)) | (go_wp2_with fail; refine hK.out _ _ ?_ (fun hH1 => ?_))
      · trivial
      clear hK K hH0
      (try simp only [Act.put, List.setIfInBounds_toArray, List.set_cons_zero, List.set_cons_succ])
      refine wpAnyH_take (i := 12) (oi := ({ dst := some 42, op := Op.build 88 #[(0, Operand.tmp 38), (1, Operand.tmp 39), (2, Operand.tmp 40), (3, Operand.tmp 41)], type := 88, pos := "watch.go:38", after := #[{ on := 8, ground := Ground.data }, { on := 9, ground := Ground.data }, { on := 10, ground := Ground.data }, { on := 11, ground := Ground.data }], guard := none } : Oper)) (v := ?_) rfl (by kernel_rfl) (by kernel_rfl) (by kernel_rfl) (fun _ _ _ h => h) (Or.inl ⟨by rfl, ?_⟩) (by assumption) ?_
      rotate_left 1
      · (intro w hSw; (try dsimp only at hSw); go_simp; (try with_reducible rfl))
      (try simp only [Act.put, List.setIfInBounds_toArray, List.set_cons_zero, List.set_cons_succ])
      refine wpAnyH_ready (rs := [4, 13]) (by kernel_rfl) (by simp) ?_
      refine AllReadyH.cons (o := ({ dst := some 34, op := Op.load 47 (Operand.tmp 33), type := 47, pos := "watch.go:38", after := #[{ on := 3, ground := Ground.data }], guard := none } : Oper)) rfl (fun K hK => ?_) ?_
      · go_simp
        first | (refine hK.out _ _ ?_ (fun hH2 => ?_)) | (go_wp2_with fail; refine hK.out _ _ ?_ (fun hH2 => ?_))
        · trivial
        clear hK K hH1
        (try simp only [Act.put, List.setIfInBounds_toArray, List.set_cons_zero, List.set_cons_succ])
        refine wpAnyH_ready (rs := [13]) (by kernel_rfl) (by simp) ?_
        refine AllReadyH.cons (o := ({ dst := some 43, op := Op.buildSlice 47 1 #[(0, Operand.tmp 42)], type := 47, pos := "watch.go:38", after := #[{ on := 12, ground := Ground.data }], guard := none } : Oper)) rfl (fun K hK => ?_) ?_
        rotate_left 1
        · exact AllReadyH.nil
        go_simp
        first | (refine hK.out _ _ ?_ (fun hH3 => ?_)) | (go_wp2_with fail; refine hK.out _ _ ?_ (fun hH3 => ?_))
        · trivial
        clear hK K hH2
        (try simp only [Act.put, List.setIfInBounds_toArray, List.set_cons_zero, List.set_cons_succ])
        refine wpAnyH_ready (rs := [14]) (by kernel_rfl) (by simp) ?_
        refine AllReadyH.cons (o := ({ dst := some 44, op := Op.call { callee := Callee.builtin Builtin.append, args := #[Operand.tmp 34, Operand.tmp 43], argTypes := #[47, 47] }, type := 47, pos := "watch.go:38", after := #[{ on := 4, ground := Ground.data }, { on := 13, ground := Ground.data }], guard := none } : Oper)) rfl (fun K hK => ?_) ?_
        rotate_left 1
        · exact AllReadyH.nil
        (refine step_appP (by rfl) _ _ _ (by rfl) (g + 1) v _ P [⟨la + 1, 0, f, t⟩] (by rfl) (by first | exact Els.Own.alloc (Els.Own.drew HO1.out) _ | exact Els.Own.drew (Els.Own.alloc HO1.out _)) (by rfl) (by first | exact Els.Rd.new (E := eP) _ rfl 88 [⟨la + 1, 0, f, t⟩] #[.int .i64 (la + 1), .int .i64 0, .int .u16 f, .int .u16 t] 1 rfl rfl 1 | exact Els.Rd.drew (Els.Rd.new (E := eP) _ rfl 88 [⟨la + 1, 0, f, t⟩] #[.int .i64 (la + 1), .int .i64 0, .int .u16 f, .int .u16 t] 1 rfl rfl 1)) (by have := HNL.out; simp; omega) (by have := HGS.out; have := HS1.out; simp; omega) ?_; intro v' w4 hown hbel hgr hwh; obtain ⟨A4, c4, rfl, -⟩ := Els.Rd.open_ hown.rd; have HK4 := Lib.hid (Blk.grown (by first | exact HBA.out | exact Blk.drew HBB.out) hgr (fun e => by have := (HLT.out g e.symm).1; omega)); have S2 := Lib.hid (show (fun w' : World => w'.cell? ⟨g, 0, none⟩ = some v ∧ w'.cell? ⟨g, 1, none⟩ = some (.int .i64 (la + 1))) w4 from Blk.c2 HK4.out); have HFR := HK4.out.frozen 0; have hc0 := (Blk.c2 HK4.out).1)
        first | (refine hK.out _ _ ?_ (fun hH4 => ?_)) | (go_wp2_with fail; refine hK.out _ _ ?_ (fun hH4 => ?_))
        · trivial
        clear hK K hH3
        (try simp only [Act.put, List.setIfInBounds_toArray, List.set_cons_zero, List.set_cons_succ])
        refine wpAnyH_take (i := 15) (oi := ({ dst := some 45, op := Op.nilCheck (Operand.tmp 30), type := 0, pos := "watch.go:38", after := #[{ on := 0, ground := Ground.data }, { on := 0, ground := Ground.phase }, { on := 1, ground := Ground.phase }, { on := 2, ground := Ground.phase }, { on := 3, ground := Ground.phase }, { on := 4, ground := Ground.phase }, { on := 5, ground := Ground.phase }, { on := 6, ground := Ground.phase }, { on := 7, ground := Ground.phase }, { on := 8, ground := Ground.phase }, { on := 9, ground := Ground.phase }, { on := 10, ground := Ground.phase }, { on := 11, ground := Ground.phase }, { on := 12, ground := Ground.phase }, { on := 13, ground := Ground.phase }, { on := 14, ground := Ground.phase }], guard := none } : Oper)) (v := ?_) rfl (by kernel_rfl) (by kernel_rfl) (by kernel_rfl) (fun _ _ _ h => h) (Or.inl ⟨by rfl, ?_⟩) (by assumption) ?_
        rotate_left 1
        · (intro w hSw; (try dsimp only at hSw); go_simp; (try with_reducible rfl))
        (try simp only [Act.put, List.setIfInBounds_toArray, List.set_cons_zero, List.set_cons_succ])
        refine wpAnyH_take (i := 16) (oi := ({ dst := some 46, op := Op.fieldAddr 49 (Operand.tmp 45) 0, type := 0, pos := "watch.go:38", after := #[{ on := 15, ground := Ground.data }, { on := 0, ground := Ground.phase }, { on := 1, ground := Ground.phase }, { on := 2, ground := Ground.phase }, { on := 3, ground := Ground.phase }, { on := 4, ground := Ground.phase }, { on := 5, ground := Ground.phase }, { on := 6, ground := Ground.phase }, { on := 7, ground := Ground.phase }, { on := 8, ground := Ground.phase }, { on := 9, ground := Ground.phase }, { on := 10, ground := Ground.phase }, { on := 11, ground := Ground.phase }, { on := 12, ground := Ground.phase }, { on := 13, ground := Ground.phase }, { on := 14, ground := Ground.phase }], guard := none } : Oper)) (v := ?_) rfl (by kernel_rfl) (by kernel_rfl) (by kernel_rfl) (fun _ _ _ h => h) (Or.inl ⟨by rfl, ?_⟩) (by assumption) ?_
        rotate_left 1
        · (intro w hSw; (try dsimp only at hSw); go_simp; (try with_reducible rfl))
        (try simp only [Act.put, List.setIfInBounds_toArray, List.set_cons_zero, List.set_cons_succ])
        refine wpAnyH_ready (rs := [17]) (by kernel_rfl) (by simp) ?_
        refine AllReadyH.cons (o := ({ dst := none, op := Op.store 47 (Operand.tmp 46) (Operand.tmp 44), type := 0, pos := "watch.go:38", after := #[{ on := 16, ground := Ground.data }, { on := 14, ground := Ground.data }, { on := 14, ground := Ground.chain }, { on := 0, ground := Ground.phase }, { on := 1, ground := Ground.phase }, { on := 2, ground := Ground.phase }, { on := 3, ground := Ground.phase }, { on := 4, ground := Ground.phase }, { on := 5, ground := Ground.phase }, { on := 6, ground := Ground.phase }, { on := 7, ground := Ground.phase }, { on := 8, ground := Ground.phase }, { on := 9, ground := Ground.phase }, { on := 10, ground := Ground.phase }, { on := 11, ground := Ground.phase }, { on := 12, ground := Ground.phase }, { on := 13, ground := Ground.phase }, { on := 14, ground := Ground.phase }], guard := none } : Oper)) rfl (fun K hK => ?_) ?_
        rotate_left 1
        · exact AllReadyH.nil
        go_simp
        first | (refine hK.out _ _ ?_ (fun hH5 => ?_)) | (go_wp2_with fail; refine hK.out _ _ ?_ (fun hH5 => ?_))
        · trivial
        clear hK K hH4
        (try simp only [Act.put, List.setIfInBounds_toArray, List.set_cons_zero, List.set_cons_succ])
        refine wpAnyH_done (by kernel_rfl) ?_ _
        refine NoPanic.normal ?_
        have hl1 : (P ++ [(⟨la + 1, 0, f, t⟩ : Pt)]).length = P.length + 1 := by simp
        rw [hl1] at hown hwh
        have hKp := kp_add G1.out HS1.out (by first | exact Below.drew0 (Below.alloc0 (Below.refl W1.heap.size W1) _) | exact Below.alloc0 (Below.drew0 (Below.refl W1.heap.size W1)) _) hgr (Value.slice A4 (P.length + 1) c4)
        have hwh2 : (Value.slice A4 (P.length + 1) c4).ownBlock = v.ownBlock ∨ ∃ b, (Value.slice A4 (P.length + 1) c4).ownBlock = some b ∧ w.heap.size ≤ b := by rcases hwh with hh | hh <;> first | exact .inl hh | exact .inr ⟨_, hh, by have := HS1.out; simp; omega⟩
        have HF := Lib.hid (And.intro (wat_add HK4.out hown) (And.intro hKp hwh2))
        have hc1 := (Blk.c2 HK4.out).2
        clear hown hwh hwh2 hKp hgr hbel hl1 y0 y1 z0 z1 b0 b1 f0 f1 fz0 fz1
        go_wp2
        go_ret2
        exact ⟨rfl, _, HF.out⟩
      refine AllReadyH.cons (o := ({ dst := some 43, op := Op.buildSlice 47 1 #[(0, Operand.tmp 42)], type := 47, pos := "watch.go:38", after := #[{ on := 12, ground := Ground.data }], guard := none } : Oper)) rfl (fun K hK => ?_) ?_
      · go_simp
        first | (refine hK.out _ _ ?_ (fun hH2 => ?_)) | (go_wp2_with fail; refine hK.out _ _ ?_ (fun hH2 => ?_))
        · trivial
        clear hK K hH1
        (try simp only [Act.put, List.setIfInBounds_toArray, List.set_cons_zero, List.set_cons_succ])
        refine wpAnyH_ready (rs := [4]) (by kernel_rfl) (by simp) ?_
        refine AllReadyH.cons (o := ({ dst := some 34, op := Op.load 47 (Operand.tmp 33), type := 47, pos := "watch.go:38", after := #[{ on := 3, ground := Ground.data }], guard := none } : Oper)) rfl (fun K hK => ?_) ?_
        rotate_left 1
        · exact AllReadyH.nil
        go_simp
        first | (refine hK.out _ _ ?_ (fun hH3 => ?_)) | (go_wp2_with fail; refine hK.out _ _ ?_ (fun hH3 => ?_))
        · trivial
        clear hK K hH2
        (try simp only [Act.put, List.setIfInBounds_toArray, List.set_cons_zero, List.set_cons_succ])
        refine wpAnyH_ready (rs := [14]) (by kernel_rfl) (by simp) ?_
        refine AllReadyH.cons (o := ({ dst := some 44, op := Op.call { callee := Callee.builtin Builtin.append, args := #[Operand.tmp 34, Operand.tmp 43], argTypes := #[47, 47] }, type := 47, pos := "watch.go:38", after := #[{ on := 4, ground := Ground.data }, { on := 13, ground := Ground.data }], guard := none } : Oper)) rfl (fun K hK => ?_) ?_
        rotate_left 1
        · exact AllReadyH.nil
        (refine step_appP (by rfl) _ _ _ (by rfl) (g + 1) v _ P [⟨la + 1, 0, f, t⟩] (by rfl) (by first | exact Els.Own.alloc (Els.Own.drew HO1.out) _ | exact Els.Own.drew (Els.Own.alloc HO1.out _)) (by rfl) (by first | exact Els.Rd.new (E := eP) _ rfl 88 [⟨la + 1, 0, f, t⟩] #[.int .i64 (la + 1), .int .i64 0, .int .u16 f, .int .u16 t] 1 rfl rfl 1 | exact Els.Rd.drew (Els.Rd.new (E := eP) _ rfl 88 [⟨la + 1, 0, f, t⟩] #[.int .i64 (la + 1), .int .i64 0, .int .u16 f, .int .u16 t] 1 rfl rfl 1)) (by have := HNL.out; simp; omega) (by have := HGS.out; have := HS1.out; simp; omega) ?_; intro v' w4 hown hbel hgr hwh; obtain ⟨A4, c4, rfl, -⟩ := Els.Rd.open_ hown.rd; have HK4 := Lib.hid (Blk.grown (by first | exact HBA.out | exact Blk.drew HBB.out) hgr (fun e => by have := (HLT.out g e.symm).1; omega)); have S2 := Lib.hid (show (fun w' : World => w'.cell? ⟨g, 0, none⟩ = some v ∧ w'.cell? ⟨g, 1, none⟩ = some (.int .i64 (la + 1))) w4 from Blk.c2 HK4.out); have HFR := HK4.out.frozen 0; have hc0 := (Blk.c2 HK4.out).1)
        first | (refine hK.out _ _ ?_ (fun hH4 => ?_)) | (go_wp2_with fail; refine hK.out _ _ ?_ (fun hH4 => ?_))
        · trivial
        clear hK K hH3
        (try simp only [Act.put, List.setIfInBounds_toArray, List.set_cons_zero, List.set_cons_succ])
        refine wpAnyH_take (i := 15) (oi := ({ dst := some 45, op := Op.nilCheck (Operand.tmp 30), type := 0, pos := "watch.go:38", after := #[{ on := 0, ground := Ground.data }, { on := 0, ground := Ground.phase }, { on := 1, ground := Ground.phase }, { on := 2, ground := Ground.phase }, { on := 3, ground := Ground.phase }, { on := 4, ground := Ground.phase }, { on := 5, ground := Ground.phase }, { on := 6, ground := Ground.phase }, { on := 7, ground := Ground.phase }, { on := 8, ground := Ground.phase }, { on := 9, ground := Ground.phase }, { on := 10, ground := Ground.phase }, { on := 11, ground := Ground.phase }, { on := 12, ground := Ground.phase }, { on := 13, ground := Ground.phase }, { on := 14, ground := Ground.phase }], guard := none } : Oper)) (v := ?_) rfl (by kernel_rfl) (by kernel_rfl) (by kernel_rfl) (fun _ _ _ h => h) (Or.inl ⟨by rfl, ?_⟩) (by assumption) ?_
        rotate_left 1
        · (intro w hSw; (try dsimp only at hSw); go_simp; (try with_reducible rfl))
        (try simp only [Act.put, List.setIfInBounds_toArray, List.set_cons_zero, List.set_cons_succ])
        refine wpAnyH_take (i := 16) (oi := ({ dst := some 46, op := Op.fieldAddr 49 (Operand.tmp 45) 0, type := 0, pos := "watch.go:38", after := #[{ on := 15, ground := Ground.data }, { on := 0, ground := Ground.phase }, { on := 1, ground := Ground.phase }, { on := 2, ground := Ground.phase }, { on := 3, ground := Ground.phase }, { on := 4, ground := Ground.phase }, { on := 5, ground := Ground.phase }, { on := 6, ground := Ground.phase }, { on := 7, ground := Ground.phase }, { on := 8, ground := Ground.phase }, { on := 9, ground := Ground.phase }, { on := 10, ground := Ground.phase }, { on := 11, ground := Ground.phase }, { on := 12, ground := Ground.phase }, { on := 13, ground := Ground.phase }, { on := 14, ground := Ground.phase }], guard := none } : Oper)) (v := ?_) rfl (by kernel_rfl) (by kernel_rfl) (by kernel_rfl) (fun _ _ _ h => h) (Or.inl ⟨by rfl, ?_⟩) (by assumption) ?_
        rotate_left 1
        · (intro w hSw; (try dsimp only at hSw); go_simp; (try with_reducible rfl))
        (try simp only [Act.put, List.setIfInBounds_toArray, List.set_cons_zero, List.set_cons_succ])
        refine wpAnyH_ready (rs := [17]) (by kernel_rfl) (by simp) ?_
        refine AllReadyH.cons (o := ({ dst := none, op := Op.store 47 (Operand.tmp 46) (Operand.tmp 44), type := 0, pos := "watch.go:38", after := #[{ on := 16, ground := Ground.data }, { on := 14, ground := Ground.data }, { on := 14, ground := Ground.chain }, { on := 0, ground := Ground.phase }, { on := 1, ground := Ground.phase }, { on := 2, ground := Ground.phase }, { on := 3, ground := Ground.phase }, { on := 4, ground := Ground.phase }, { on := 5, ground := Ground.phase }, { on := 6, ground := Ground.phase }, { on := 7, ground := Ground.phase }, { on := 8, ground := Ground.phase }, { on := 9, ground := Ground.phase }, { on := 10, ground := Ground.phase }, { on := 11, ground := Ground.phase }, { on := 12, ground := Ground.phase }, { on := 13, ground := Ground.phase }, { on := 14, ground := Ground.phase }], guard := none } : Oper)) rfl (fun K hK => ?_) ?_
        rotate_left 1
        · exact AllReadyH.nil
        go_simp
        first | (refine hK.out _ _ ?_ (fun hH5 => ?_)) | (go_wp2_with fail; refine hK.out _ _ ?_ (fun hH5 => ?_))
        · trivial
        clear hK K hH4
        (try simp only [Act.put, List.setIfInBounds_toArray, List.set_cons_zero, List.set_cons_succ])
        refine wpAnyH_done (by kernel_rfl) ?_ _
        refine NoPanic.normal ?_
        have hl1 : (P ++ [(⟨la + 1, 0, f, t⟩ : Pt)]).length = P.length + 1 := by simp
        rw [hl1] at hown hwh
        have hKp := kp_add G1.out HS1.out (by first | exact Below.drew0 (Below.alloc0 (Below.refl W1.heap.size W1) _) | exact Below.alloc0 (Below.drew0 (Below.refl W1.heap.size W1)) _) hgr (Value.slice A4 (P.length + 1) c4)
        have hwh2 : (Value.slice A4 (P.length + 1) c4).ownBlock = v.ownBlock ∨ ∃ b, (Value.slice A4 (P.length + 1) c4).ownBlock = some b ∧ w.heap.size ≤ b := by rcases hwh with hh | hh <;> first | exact .inl hh | exact .inr ⟨_, hh, by have := HS1.out; simp; omega⟩
        have HF := Lib.hid (And.intro (wat_add HK4.out hown) (And.intro hKp hwh2))
        have hc1 := (Blk.c2 HK4.out).2
        clear hown hwh hwh2 hKp hgr hbel hl1 y0 y1 z0 z1 b0 b1 f0 f1 fz0 fz1
        go_wp2
        go_ret2
        exact ⟨rfl, _, HF.out⟩
      exact AllReadyH.nil
    exact AllReadyH.nil
  · clear hk ht hE hb ho hlt hgs hn
    go_enter Try.func43, Try.ntmps43
    go_upto_region 6 with (fail)
    clear b0 b1 f0 f1
    have hs1 : (w.setCell ⟨g, 1, none⟩ (.int .i64 (la + 1))).heap.size = w.heap.size := by simp
    have HS1 := Lib.hid hs1
    clear hs1
    generalize w.setCell ⟨g, 1, none⟩ (.int .i64 (la + 1)) = W1 at HB1 G1 HO1 HS1 ⊢
    obtain ⟨⟨b0, b1⟩, f0, f1⟩ := Blk.b2 HB1.out
    have S0 : Hid ((fun w' : World => w'.cell? ⟨g, 0, none⟩ = some v ∧ w'.cell? ⟨g, 1, none⟩ = some (.int .i64 (la + 1))) W1.drew) := Lib.hid ⟨b0, b1⟩
    have HBA := Lib.hid (Blk.alloc (Blk.drew HB1.out) (Obj.cells #[.int .i64 (la + 1), .int .i64 1, .int .u16 f, .int .u16 t] 88))
    have HBB := Lib.hid (Blk.alloc HB1.out (Obj.cells #[.int .i64 (la + 1), .int .i64 1, .int .u16 f, .int .u16 t] 88))
    have S1 : Hid ((fun w' : World => w'.cell? ⟨g, 0, none⟩ = some v ∧ w'.cell? ⟨g, 1, none⟩ = some (.int .i64 (la + 1))) (W1.drew.alloc (Obj.cells #[.int .i64 (la + 1), .int .i64 1, .int .u16 f, .int .u16 t] 88))) := Lib.hid (Blk.c2 HBA.out)
    obtain ⟨z0, z1⟩ := Blk.c2 HBA.out
    obtain ⟨y0, y1⟩ := Blk.c2 HBB.out
    have fz0 := HBA.out.frozen 0
    have fz1 := HBB.out.frozen 0
    refine wp_region_noPanic ?_
    refine wp_region_held_drew (S := (fun _ => True)) (by kernel_rfl) ?_ (fun hH0 => ?_)
    · trivial
    refine wpAnyH_take (i := 0) (oi := ({ dst := some 30, op := Op.move (Operand.tmp 0), type := 46, pos := "watch.go:38", after := #[], guard := none } : Oper)) (v := ?_) rfl (by kernel_rfl) (by kernel_rfl) (by kernel_rfl) (fun _ _ _ h => h) (Or.inl ⟨by rfl, ?_⟩) (by assumption) ?_
    rotate_left 1
    · (intro w hSw; (try dsimp only at hSw); go_simp; (try with_reducible rfl))
    (try simp only [Act.put, List.setIfInBounds_toArray, List.set_cons_zero, List.set_cons_succ])
    refine wpAnyH_take (i := 1) (oi := ({ dst := some 31, op := Op.move (Operand.tmp 0), type := 46, pos := "watch.go:38", after := #[], guard := none } : Oper)) (v := ?_) rfl (by kernel_rfl) (by kernel_rfl) (by kernel_rfl) (fun _ _ _ h => h) (Or.inl ⟨by rfl, ?_⟩) (by assumption) ?_
    rotate_left 1
    · (intro w hSw; (try dsimp only at hSw); go_simp; (try with_reducible rfl))
    (try simp only [Act.put, List.setIfInBounds_toArray, List.set_cons_zero, List.set_cons_succ])
    refine wpAnyH_take (i := 2) (oi := ({ dst := some 32, op := Op.nilCheck (Operand.tmp 31), type := 0, pos := "watch.go:38", after := #[{ on := 1, ground := Ground.data }], guard := none } : Oper)) (v := ?_) rfl (by kernel_rfl) (by kernel_rfl) (by kernel_rfl) (fun _ _ _ h => h) (Or.inl ⟨by rfl, ?_⟩) (by assumption) ?_
    rotate_left 1
    · (intro w hSw; (try dsimp only at hSw); go_simp; (try with_reducible rfl))
    (try simp only [Act.put, List.setIfInBounds_toArray, List.set_cons_zero, List.set_cons_succ])
    refine wpAnyH_take (i := 3) (oi := ({ dst := some 33, op := Op.fieldAddr 49 (Operand.tmp 32) 0, type := 0, pos := "watch.go:38", after := #[{ on := 2, ground := Ground.data }], guard := none } : Oper)) (v := ?_) rfl (by kernel_rfl) (by kernel_rfl) (by kernel_rfl) (fun _ _ _ h => h) (Or.inl ⟨by rfl, ?_⟩) (by assumption) ?_
    rotate_left 1
    · (intro w hSw; (try dsimp only at hSw); go_simp; (try with_reducible rfl))
    (try simp only [Act.put, List.setIfInBounds_toArray, List.set_cons_zero, List.set_cons_succ])
    refine wpAnyH_take (i := 5) (oi := ({ dst := some 35, op := Op.move (Operand.tmp 0), type := 46, pos := "watch.go:38", after := #[], guard := none } : Oper)) (v := ?_) rfl (by kernel_rfl) (by kernel_rfl) (by kernel_rfl) (fun _ _ _ h => h) (Or.inl ⟨by rfl, ?_⟩) (by assumption) ?_
    rotate_left 1
    · (intro w hSw; (try dsimp only at hSw); go_simp; (try with_reducible rfl))
    (try simp only [Act.put, List.setIfInBounds_toArray, List.set_cons_zero, List.set_cons_succ])
    refine wpAnyH_take (i := 6) (oi := ({ dst := some 36, op := Op.nilCheck (Operand.tmp 35), type := 0, pos := "watch.go:38", after := #[{ on := 5, ground := Ground.data }], guard := none } : Oper)) (v := ?_) rfl (by kernel_rfl) (by kernel_rfl) (by kernel_rfl) (fun _ _ _ h => h) (Or.inl ⟨by rfl, ?_⟩) (by assumption) ?_
    rotate_left 1
    · (intro w hSw; (try dsimp only at hSw); go_simp; (try with_reducible rfl))
    (try simp only [Act.put, List.setIfInBounds_toArray, List.set_cons_zero, List.set_cons_succ])
    refine wpAnyH_take (i := 7) (oi := ({ dst := some 37, op := Op.fieldAddr 49 (Operand.tmp 36) 1, type := 0, pos := "watch.go:38", after := #[{ on := 6, ground := Ground.data }], guard := none } : Oper)) (v := ?_) rfl (by kernel_rfl) (by kernel_rfl) (by kernel_rfl) (fun _ _ _ h => h) (Or.inl ⟨by rfl, ?_⟩) (by assumption) ?_
    rotate_left 1
    · (intro w hSw; (try dsimp only at hSw); go_simp; (try with_reducible rfl))
    (try simp only [Act.put, List.setIfInBounds_toArray, List.set_cons_zero, List.set_cons_succ])
    refine wpAnyH_take (i := 9) (oi := ({ dst := some 39, op := Op.move (Operand.tmp 1), type := 3, pos := "watch.go:38", after := #[], guard := none } : Oper)) (v := ?_) rfl (by kernel_rfl) (by kernel_rfl) (by kernel_rfl) (fun _ _ _ h => h) (Or.inl ⟨by rfl, ?_⟩) (by assumption) ?_
    rotate_left 1
    · (intro w hSw; (try dsimp only at hSw); go_simp; (try with_reducible rfl))
    (try simp only [Act.put, List.setIfInBounds_toArray, List.set_cons_zero, List.set_cons_succ])
    refine wpAnyH_take (i := 10) (oi := ({ dst := some 40, op := Op.move (Operand.tmp 2), type := 23, pos := "watch.go:38", after := #[], guard := none } : Oper)) (v := ?_) rfl (by kernel_rfl) (by kernel_rfl) (by kernel_rfl) (fun _ _ _ h => h) (Or.inl ⟨by rfl, ?_⟩) (by assumption) ?_
    rotate_left 1
    · (intro w hSw; (try dsimp only at hSw); go_simp; (try with_reducible rfl))
    (try simp only [Act.put, List.setIfInBounds_toArray, List.set_cons_zero, List.set_cons_succ])
    refine wpAnyH_take (i := 11) (oi := ({ dst := some 41, op := Op.move (Operand.tmp 3), type := 23, pos := "watch.go:38", after := #[], guard := none } : Oper)) (v := ?_) rfl (by kernel_rfl) (by kernel_rfl) (by kernel_rfl) (fun _ _ _ h => h) (Or.inl ⟨by rfl, ?_⟩) (by assumption) ?_
    rotate_left 1
    · (intro w hSw; (try dsimp only at hSw); go_simp; (try with_reducible rfl))
    (try simp only [Act.put, List.setIfInBounds_toArray, List.set_cons_zero, List.set_cons_succ])
    refine wpAnyH_ready (rs := [4, 8]) (by kernel_rfl) (by simp) ?_
    refine AllReadyH.cons (o := ({ dst := some 34, op := Op.load 47 (Operand.tmp 33), type := 47, pos := "watch.go:38", after := #[{ on := 3, ground := Ground.data }], guard := none } : Oper)) rfl (fun K hK => ?_) ?_
    · go_simp
      first | (refine hK.out _ _ ?_ (fun hH1 => ?_)) | (go_wp2_with fail; refine hK.out _ _ ?_ (fun hH1 => ?_))
      · trivial
      clear hK K hH0
      (try simp only [Act.put, List.setIfInBounds_toArray, List.set_cons_zero, List.set_cons_succ])
      refine wpAnyH_ready (rs := [8]) (by kernel_rfl) (by simp) ?_
      refine AllReadyH.cons (o := ({ dst := some 38, op := Op.load 3 (Operand.tmp 37), type := 3, pos := "watch.go:38", after := #[{ on := 7, ground := Ground.data }], guard := none } : Oper)) rfl (fun K hK => ?_) ?_
      rotate_left 1
      · exact AllReadyH.nil
      go_simp
      first | (refine hK.out _ _ ?_ (fun hH2 => ?_)) | (go_wp2_with fail; refine hK.out _ _ ?_ (fun hH2 => ?_))
      · trivial
      clear hK K hH1
      (try simp only [Act.put, List.setIfInBounds_toArray, List.set_cons_zero, List.set_cons_succ])
      refine wpAnyH_take (i := 12) (oi := ({ dst := some 42, op := Op.build 88 #[(0, Operand.tmp 38), (1, Operand.tmp 39), (2, Operand.tmp 40), (3, Operand.tmp 41)], type := 88, pos := "watch.go:38", after := #[{ on := 8, ground := Ground.data }, { on := 9, ground := Ground.data }, { on := 10, ground := Ground.data }, { on := 11, ground := Ground.data }], guard := none } : Oper)) (v := ?_) rfl (by kernel_rfl) (by kernel_rfl) (by kernel_rfl) (fun _ _ _ h => h) (Or.inl ⟨by rfl, ?_⟩) (by assumption) ?_
      rotate_left 1
      · (intro w hSw; (try dsimp only at hSw); go_simp; (try with_reducible rfl))
      (try simp only [Act.put, List.setIfInBounds_toArray, List.set_cons_zero, List.set_cons_succ])
      refine wpAnyH_ready (rs := [13]) (by kernel_rfl) (by simp) ?_
      refine AllReadyH.cons (o := ({ dst := some 43, op := Op.buildSlice 47 1 #[(0, Operand.tmp 42)], type := 47, pos := "watch.go:38", after := #[{ on := 12, ground := Ground.data }], guard := none } : Oper)) rfl (fun K hK => ?_) ?_
      rotate_left 1
      · exact AllReadyH.nil
      go_simp
      first | (refine hK.out _ _ ?_ (fun hH3 => ?_)) | (go_wp2_with fail; refine hK.out _ _ ?_ (fun hH3 => ?_))
      · trivial
      clear hK K hH2
      (try simp only [Act.put, List.setIfInBounds_toArray, List.set_cons_zero, List.set_cons_succ])
      refine wpAnyH_ready (rs := [14]) (by kernel_rfl) (by simp) ?_
      refine AllReadyH.cons (o := ({ dst := some 44, op := Op.call { callee := Callee.builtin Builtin.append, args := #[Operand.tmp 34, Operand.tmp 43], argTypes := #[47, 47] }, type := 47, pos := "watch.go:38", after := #[{ on := 4, ground := Ground.data }, { on := 13, ground := Ground.data }], guard := none } : Oper)) rfl (fun K hK => ?_) ?_
      rotate_left 1
      · exact AllReadyH.nil
      (refine step_appP (by rfl) _ _ _ (by rfl) (g + 1) v _ P [⟨la + 1, 1, f, t⟩] (by rfl) (by first | exact Els.Own.alloc (Els.Own.drew HO1.out) _ | exact Els.Own.drew (Els.Own.alloc HO1.out _)) (by rfl) (by first | exact Els.Rd.new (E := eP) _ rfl 88 [⟨la + 1, 1, f, t⟩] #[.int .i64 (la + 1), .int .i64 1, .int .u16 f, .int .u16 t] 1 rfl rfl 1 | exact Els.Rd.drew (Els.Rd.new (E := eP) _ rfl 88 [⟨la + 1, 1, f, t⟩] #[.int .i64 (la + 1), .int .i64 1, .int .u16 f, .int .u16 t] 1 rfl rfl 1)) (by have := HNL.out; simp; omega) (by have := HGS.out; have := HS1.out; simp; omega) ?_; intro v' w4 hown hbel hgr hwh; obtain ⟨A4, c4, rfl, -⟩ := Els.Rd.open_ hown.rd; have HK4 := Lib.hid (Blk.grown (by first | exact HBA.out | exact Blk.drew HBB.out) hgr (fun e => by have := (HLT.out g e.symm).1; omega)); have S2 := Lib.hid (show (fun w' : World => w'.cell? ⟨g, 0, none⟩ = some v ∧ w'.cell? ⟨g, 1, none⟩ = some (.int .i64 (la + 1))) w4 from Blk.c2 HK4.out); have HFR := HK4.out.frozen 0; have hc0 := (Blk.c2 HK4.out).1)
      first | (refine hK.out _ _ ?_ (fun hH4 => ?_)) | (go_wp2_with fail; refine hK.out _ _ ?_ (fun hH4 => ?_))
      · trivial
      clear hK K hH3
      (try simp only [Act.put, List.setIfInBounds_toArray, List.set_cons_zero, List.set_cons_succ])
      refine wpAnyH_take (i := 15) (oi := ({ dst := some 45, op := Op.nilCheck (Operand.tmp 30), type := 0, pos := "watch.go:38", after := #[{ on := 0, ground := Ground.data }, { on := 0, ground := Ground.phase }, { on := 1, ground := Ground.phase }, { on := 2, ground := Ground.phase }, { on := 3, ground := Ground.phase }, { on := 4, ground := Ground.phase }, { on := 5, ground := Ground.phase }, { on := 6, ground := Ground.phase }, { on := 7, ground := Ground.phase }, { on := 8, ground := Ground.phase }, { on := 9, ground := Ground.phase }, { on := 10, ground := Ground.phase }, { on := 11, ground := Ground.phase }, { on := 12, ground := Ground.phase }, { on := 13, ground := Ground.phase }, { on := 14, ground := Ground.phase }], guard := none } : Oper)) (v := ?_) rfl (by kernel_rfl) (by kernel_rfl) (by kernel_rfl) (fun _ _ _ h => h) (Or.inl ⟨by rfl, ?_⟩) (by assumption) ?_
      rotate_left 1
      · (intro w hSw; (try dsimp only at hSw); go_simp; (try with_reducible rfl))
      (try simp only [Act.put, List.setIfInBounds_toArray, List.set_cons_zero, List.set_cons_succ])
      refine wpAnyH_take (i := 16) (oi := ({ dst := some 46, op := Op.fieldAddr 49 (Operand.tmp 45) 0, type := 0, pos := "watch.go:38", after := #[{ on := 15, ground := Ground.data }, { on := 0, ground := Ground.phase }, { on := 1, ground := Ground.phase }, { on := 2, ground := Ground.phase }, { on := 3, ground := Ground.phase }, { on := 4, ground := Ground.phase }, { on := 5, ground := Ground.phase }, { on := 6, ground := Ground.phase }, { on := 7, ground := Ground.phase }, { on := 8, ground := Ground.phase }, { on := 9, ground := Ground.phase }, { on := 10, ground := Ground.phase }, { on := 11, ground := Ground.phase }, { on := 12, ground := Ground.phase }, { on := 13, ground := Ground.phase }, { on := 14, ground := Ground.phase }], guard := none } : Oper)) (v := ?_) rfl (by kernel_rfl) (by kernel_rfl) (by kernel_rfl) (fun _ _ _ h => h) (Or.inl ⟨by rfl, ?_⟩) (by assumption) ?_
      rotate_left 1
      · (intro w hSw; (try dsimp only at hSw); go_simp; (try with_reducible rfl))
      (try simp only [Act.put, List.setIfInBounds_toArray, List.set_cons_zero, List.set_cons_succ])
      refine wpAnyH_ready (rs := [17]) (by kernel_rfl) (by simp) ?_
      refine AllReadyH.cons (o := ({ dst := none, op := Op.store 47 (Operand.tmp 46) (Operand.tmp 44), type := 0, pos := "watch.go:38", after := #[{ on := 16, ground := Ground.data }, { on := 14, ground := Ground.data }, { on := 14, ground := Ground.chain }, { on := 0, ground := Ground.phase }, { on := 1, ground := Ground.phase }, { on := 2, ground := Ground.phase }, { on := 3, ground := Ground.phase }, { on := 4, ground := Ground.phase }, { on := 5, ground := Ground.phase }, { on := 6, ground := Ground.phase }, { on := 7, ground := Ground.phase }, { on := 8, ground := Ground.phase }, { on := 9, ground := Ground.phase }, { on := 10, ground := Ground.phase }, { on := 11, ground := Ground.phase }, { on := 12, ground := Ground.phase }, { on := 13, ground := Ground.phase }, { on := 14, ground := Ground.phase }], guard := none } : Oper)) rfl (fun K hK => ?_) ?_
      rotate_left 1
      · exact AllReadyH.nil
      go_simp
      first | (refine hK.out _ _ ?_ (fun hH5 => ?_)) | (go_wp2_with fail; refine hK.out _ _ ?_ (fun hH5 => ?_))
      · trivial
      clear hK K hH4
      (try simp only [Act.put, List.setIfInBounds_toArray, List.set_cons_zero, List.set_cons_succ])
      refine wpAnyH_done (by kernel_rfl) ?_ _
      refine NoPanic.normal ?_
      have hl1 : (P ++ [(⟨la + 1, 1, f, t⟩ : Pt)]).length = P.length + 1 := by simp
      rw [hl1] at hown hwh
      have hKp := kp_add G1.out HS1.out (by first | exact Below.drew0 (Below.alloc0 (Below.refl W1.heap.size W1) _) | exact Below.alloc0 (Below.drew0 (Below.refl W1.heap.size W1)) _) hgr (Value.slice A4 (P.length + 1) c4)
      have hwh2 : (Value.slice A4 (P.length + 1) c4).ownBlock = v.ownBlock ∨ ∃ b, (Value.slice A4 (P.length + 1) c4).ownBlock = some b ∧ w.heap.size ≤ b := by rcases hwh with hh | hh <;> first | exact .inl hh | exact .inr ⟨_, hh, by have := HS1.out; simp; omega⟩
      have HF := Lib.hid (And.intro (wat_add HK4.out hown) (And.intro hKp hwh2))
      have hc1 := (Blk.c2 HK4.out).2
      clear hown hwh hwh2 hKp hgr hbel hl1 y0 y1 z0 z1 b0 b1 f0 f1 fz0 fz1
      go_wp2
      go_ret2
      exact ⟨rfl, _, HF.out⟩
    refine AllReadyH.cons (o := ({ dst := some 38, op := Op.load 3 (Operand.tmp 37), type := 3, pos := "watch.go:38", after := #[{ on := 7, ground := Ground.data }], guard := none } : Oper)) rfl (fun K hK => ?_) ?_
    · go_simp
      first | (refine hK.out _ _ ?_ (fun hH1 => ?_)) | (go_wp2_with fail; refine hK.out _ _ ?_ (fun hH1 => ?_))
      · trivial
      clear hK K hH0
      (try simp only [Act.put, List.setIfInBounds_toArray, List.set_cons_zero, List.set_cons_succ])
      refine wpAnyH_take (i := 12) (oi := ({ dst := some 42, op := Op.build 88 #[(0, Operand.tmp 38), (1, Operand.tmp 39), (2, Operand.tmp 40), (3, Operand.tmp 41)], type := 88, pos := "watch.go:38", after := #[{ on := 8, ground := Ground.data }, { on := 9, ground := Ground.data }, { on := 10, ground := Ground.data }, { on := 11, ground := Ground.data }], guard := none } : Oper)) (v := ?_) rfl (by kernel_rfl) (by kernel_rfl) (by kernel_rfl) (fun _ _ _ h => h) (Or.inl ⟨by rfl, ?_⟩) (by assumption) ?_
      rotate_left 1
      · (intro w hSw; (try dsimp only at hSw); go_simp; (try with_reducible rfl))
      (try simp only [Act.put, List.setIfInBounds_toArray, List.set_cons_zero, List.set_cons_succ])
      refine wpAnyH_ready (rs := [4, 13]) (by kernel_rfl) (by simp) ?_
      refine AllReadyH.cons (o := ({ dst := some 34, op := Op.load 47 (Operand.tmp 33), type := 47, pos := "watch.go:38", after := #[{ on := 3, ground := Ground.data }], guard := none } : Oper)) rfl (fun K hK => ?_) ?_
      · go_simp
        first | (refine hK.out _ _ ?_ (fun hH2 => ?_)) | (go_wp2_with fail; refine hK.out _ _ ?_ (fun hH2 => ?_))
        · trivial
        clear hK K hH1
        (try simp only [Act.put, List.setIfInBounds_toArray, List.set_cons_zero, List.set_cons_succ])
        refine wpAnyH_ready (rs := [13]) (by kernel_rfl) (by simp) ?_
        refine AllReadyH.cons (o := ({ dst := some 43, op := Op.buildSlice 47 1 #[(0, Operand.tmp 42)], type := 47, pos := "watch.go:38", after := #[{ on := 12, ground := Ground.data }], guard := none } : Oper)) rfl (fun K hK => ?_) ?_
        rotate_left 1
        · exact AllReadyH.nil
        go_simp
        first | (refine hK.out _ _ ?_ (fun hH3 => ?_)) | (go_wp2_with fail; refine hK.out _ _ ?_ (fun hH3 => ?_))
        · trivial
        clear hK K hH2
        (try simp only [Act.put, List.setIfInBounds_toArray, List.set_cons_zero, List.set_cons_succ])
        refine wpAnyH_ready (rs := [14]) (by kernel_rfl) (by simp) ?_
        refine AllReadyH.cons (o := ({ dst := some 44, op := Op.call { callee := Callee.builtin Builtin.append, args := #[Operand.tmp 34, Operand.tmp 43], argTypes := #[47, 47] }, type := 47, pos := "watch.go:38", after := #[{ on := 4, ground := Ground.data }, { on := 13, ground := Ground.data }], guard := none } : Oper)) rfl (fun K hK => ?_) ?_
        rotate_left 1
        · exact AllReadyH.nil
        (refine step_appP (by rfl) _ _ _ (by rfl) (g + 1) v _ P [⟨la + 1, 1, f, t⟩] (by rfl) (by first | exact Els.Own.alloc (Els.Own.drew HO1.out) _ | exact Els.Own.drew (Els.Own.alloc HO1.out _)) (by rfl) (by first | exact Els.Rd.new (E := eP) _ rfl 88 [⟨la + 1, 1, f, t⟩] #[.int .i64 (la + 1), .int .i64 1, .int .u16 f, .int .u16 t] 1 rfl rfl 1 | exact Els.Rd.drew (Els.Rd.new (E := eP) _ rfl 88 [⟨la + 1, 1, f, t⟩] #[.int .i64 (la + 1), .int .i64 1, .int .u16 f, .int .u16 t] 1 rfl rfl 1)) (by have := HNL.out; simp; omega) (by have := HGS.out; have := HS1.out; simp; omega) ?_; intro v' w4 hown hbel hgr hwh; obtain ⟨A4, c4, rfl, -⟩ := Els.Rd.open_ hown.rd; have HK4 := Lib.hid (Blk.grown (by first | exact HBA.out | exact Blk.drew HBB.out) hgr (fun e => by have := (HLT.out g e.symm).1; omega)); have S2 := Lib.hid (show (fun w' : World => w'.cell? ⟨g, 0, none⟩ = some v ∧ w'.cell? ⟨g, 1, none⟩ = some (.int .i64 (la + 1))) w4 from Blk.c2 HK4.out); have HFR := HK4.out.frozen 0; have hc0 := (Blk.c2 HK4.out).1)
        first | (refine hK.out _ _ ?_ (fun hH4 => ?_)) | (go_wp2_with fail; refine hK.out _ _ ?_ (fun hH4 => ?_))
        · trivial
        clear hK K hH3
        (try simp only [Act.put, List.setIfInBounds_toArray, List.set_cons_zero, List.set_cons_succ])
        refine wpAnyH_take (i := 15) (oi := ({ dst := some 45, op := Op.nilCheck (Operand.tmp 30), type := 0, pos := "watch.go:38", after := #[{ on := 0, ground := Ground.data }, { on := 0, ground := Ground.phase }, { on := 1, ground := Ground.phase }, { on := 2, ground := Ground.phase }, { on := 3, ground := Ground.phase }, { on := 4, ground := Ground.phase }, { on := 5, ground := Ground.phase }, { on := 6, ground := Ground.phase }, { on := 7, ground := Ground.phase }, { on := 8, ground := Ground.phase }, { on := 9, ground := Ground.phase }, { on := 10, ground := Ground.phase }, { on := 11, ground := Ground.phase }, { on := 12, ground := Ground.phase }, { on := 13, ground := Ground.phase }, { on := 14, ground := Ground.phase }], guard := none } : Oper)) (v := ?_) rfl (by kernel_rfl) (by kernel_rfl) (by kernel_rfl) (fun _ _ _ h => h) (Or.inl ⟨by rfl, ?_⟩) (by assumption) ?_
        rotate_left 1
        · (intro w hSw; (try dsimp only at hSw); go_simp; (try with_reducible rfl))
        (try simp only [Act.put, List.setIfInBounds_toArray, List.set_cons_zero, List.set_cons_succ])
        refine wpAnyH_take (i := 16) (oi := ({ dst := some 46, op := Op.fieldAddr 49 (Operand.tmp 45) 0, type := 0, pos := "watch.go:38", after := #[{ on := 15, ground := Ground.data }, { on := 0, ground := Ground.phase }, { on := 1, ground := Ground.phase }, { on := 2, ground := Ground.phase }, { on := 3, ground := Ground.phase }, { on := 4, ground := Ground.phase }, { on := 5, ground := Ground.phase }, { on := 6, ground := Ground.phase }, { on := 7, ground := Ground.phase }, { on := 8, ground := Ground.phase }, { on := 9, ground := Ground.phase }, { on := 10, ground := Ground.phase }, { on := 11, ground := Ground.phase }, { on := 12, ground := Ground.phase }, { on := 13, ground := Ground.phase }, { on := 14, ground := Ground.phase }], guard := none } : Oper)) (v := ?_) rfl (by kernel_rfl) (by kernel_rfl) (by kernel_rfl) (fun _ _ _ h => h) (Or.inl ⟨by rfl, ?_⟩) (by assumption) ?_
        rotate_left 1
        · (intro w hSw; (try dsimp only at hSw); go_simp; (try with_reducible rfl))
        (try simp only [Act.put, List.setIfInBounds_toArray, List.set_cons_zero, List.set_cons_succ])
        refine wpAnyH_ready (rs := [17]) (by kernel_rfl) (by simp) ?_
        refine AllReadyH.cons (o := ({ dst := none, op := Op.store 47 (Operand.tmp 46) (Operand.tmp 44), type := 0, pos := "watch.go:38", after := #[{ on := 16, ground := Ground.data }, { on := 14, ground := Ground.data }, { on := 14, ground := Ground.chain }, { on := 0, ground := Ground.phase }, { on := 1, ground := Ground.phase }, { on := 2, ground := Ground.phase }, { on := 3, ground := Ground.phase }, { on := 4, ground := Ground.phase }, { on := 5, ground := Ground.phase }, { on := 6, ground := Ground.phase }, { on := 7, ground := Ground.phase }, { on := 8, ground := Ground.phase }, { on := 9, ground := Ground.phase }, { on := 10, ground := Ground.phase }, { on := 11, ground := Ground.phase }, { on := 12, ground := Ground.phase }, { on := 13, ground := Ground.phase }, { on := 14, ground := Ground.phase }], guard := none } : Oper)) rfl (fun K hK => ?_) ?_
        rotate_left 1
        · exact AllReadyH.nil
        go_simp
        first | (refine hK.out _ _ ?_ (fun hH5 => ?_)) | (go_wp2_with fail; refine hK.out _ _ ?_ (fun hH5 => ?_))
        · trivial
        clear hK K hH4
        (try simp only [Act.put, List.setIfInBounds_toArray, List.set_cons_zero, List.set_cons_succ])
        refine wpAnyH_done (by kernel_rfl) ?_ _
        refine NoPanic.normal ?_
        have hl1 : (P ++ [(⟨la + 1, 1, f, t⟩ : Pt)]).length = P.length + 1 := by simp
        rw [hl1] at hown hwh
        have hKp := kp_add G1.out HS1.out (by first | exact Below.drew0 (Below.alloc0 (Below.refl W1.heap.size W1) _) | exact Below.alloc0 (Below.drew0 (Below.refl W1.heap.size W1)) _) hgr (Value.slice A4 (P.length + 1) c4)
        have hwh2 : (Value.slice A4 (P.length + 1) c4).ownBlock = v.ownBlock ∨ ∃ b, (Value.slice A4 (P.length + 1) c4).ownBlock = some b ∧ w.heap.size ≤ b := by rcases hwh with hh | hh <;> first | exact .inl hh | exact .inr ⟨_, hh, by have := HS1.out; simp; omega⟩
        have HF := Lib.hid (And.intro (wat_add HK4.out hown) (And.intro hKp hwh2))
        have hc1 := (Blk.c2 HK4.out).2
        clear hown hwh hwh2 hKp hgr hbel hl1 y0 y1 z0 z1 b0 b1 f0 f1 fz0 fz1
        go_wp2
        go_ret2
        exact ⟨rfl, _, HF.out⟩
      refine AllReadyH.cons (o := ({ dst := some 43, op := Op.buildSlice 47 1 #[(0, Operand.tmp 42)], type := 47, pos := "watch.go:38", after := #[{ on := 12, ground := Ground.data }], guard := none } : Oper)) rfl (fun K hK => ?_) ?_
      · go_simp
        first | (refine hK.out _ _ ?_ (fun hH2 => ?_)) | (go_wp2_with fail; refine hK.out _ _ ?_ (fun hH2 => ?_))
        · trivial
        clear hK K hH1
        (try simp only [Act.put, List.setIfInBounds_toArray, List.set_cons_zero, List.set_cons_succ])
        refine wpAnyH_ready (rs := [4]) (by kernel_rfl) (by simp) ?_
        refine AllReadyH.cons (o := ({ dst := some 34, op := Op.load 47 (Operand.tmp 33), type := 47, pos := "watch.go:38", after := #[{ on := 3, ground := Ground.data }], guard := none } : Oper)) rfl (fun K hK => ?_) ?_
        rotate_left 1
        · exact AllReadyH.nil
        go_simp
        first | (refine hK.out _ _ ?_ (fun hH3 => ?_)) | (go_wp2_with fail; refine hK.out _ _ ?_ (fun hH3 => ?_))
        · trivial
        clear hK K hH2
        (try simp only [Act.put, List.setIfInBounds_toArray, List.set_cons_zero, List.set_cons_succ])
        refine wpAnyH_ready (rs := [14]) (by kernel_rfl) (by simp) ?_
        refine AllReadyH.cons (o := ({ dst := some 44, op := Op.call { callee := Callee.builtin Builtin.append, args := #[Operand.tmp 34, Operand.tmp 43], argTypes := #[47, 47] }, type := 47, pos := "watch.go:38", after := #[{ on := 4, ground := Ground.data }, { on := 13, ground := Ground.data }], guard := none } : Oper)) rfl (fun K hK => ?_) ?_
        rotate_left 1
        · exact AllReadyH.nil
        (refine step_appP (by rfl) _ _ _ (by rfl) (g + 1) v _ P [⟨la + 1, 1, f, t⟩] (by rfl) (by first | exact Els.Own.alloc (Els.Own.drew HO1.out) _ | exact Els.Own.drew (Els.Own.alloc HO1.out _)) (by rfl) (by first | exact Els.Rd.new (E := eP) _ rfl 88 [⟨la + 1, 1, f, t⟩] #[.int .i64 (la + 1), .int .i64 1, .int .u16 f, .int .u16 t] 1 rfl rfl 1 | exact Els.Rd.drew (Els.Rd.new (E := eP) _ rfl 88 [⟨la + 1, 1, f, t⟩] #[.int .i64 (la + 1), .int .i64 1, .int .u16 f, .int .u16 t] 1 rfl rfl 1)) (by have := HNL.out; simp; omega) (by have := HGS.out; have := HS1.out; simp; omega) ?_; intro v' w4 hown hbel hgr hwh; obtain ⟨A4, c4, rfl, -⟩ := Els.Rd.open_ hown.rd; have HK4 := Lib.hid (Blk.grown (by first | exact HBA.out | exact Blk.drew HBB.out) hgr (fun e => by have := (HLT.out g e.symm).1; omega)); have S2 := Lib.hid (show (fun w' : World => w'.cell? ⟨g, 0, none⟩ = some v ∧ w'.cell? ⟨g, 1, none⟩ = some (.int .i64 (la + 1))) w4 from Blk.c2 HK4.out); have HFR := HK4.out.frozen 0; have hc0 := (Blk.c2 HK4.out).1)
        first | (refine hK.out _ _ ?_ (fun hH4 => ?_)) | (go_wp2_with fail; refine hK.out _ _ ?_ (fun hH4 => ?_))
        · trivial
        clear hK K hH3
        (try simp only [Act.put, List.setIfInBounds_toArray, List.set_cons_zero, List.set_cons_succ])
        refine wpAnyH_take (i := 15) (oi := ({ dst := some 45, op := Op.nilCheck (Operand.tmp 30), type := 0, pos := "watch.go:38", after := #[{ on := 0, ground := Ground.data }, { on := 0, ground := Ground.phase }, { on := 1, ground := Ground.phase }, { on := 2, ground := Ground.phase }, { on := 3, ground := Ground.phase }, { on := 4, ground := Ground.phase }, { on := 5, ground := Ground.phase }, { on := 6, ground := Ground.phase }, { on := 7, ground := Ground.phase }, { on := 8, ground := Ground.phase }, { on := 9, ground := Ground.phase }, { on := 10, ground := Ground.phase }, { on := 11, ground := Ground.phase }, { on := 12, ground := Ground.phase }, { on := 13, ground := Ground.phase }, { on := 14, ground := Ground.phase }], guard := none } : Oper)) (v := ?_) rfl (by kernel_rfl) (by kernel_rfl) (by kernel_rfl) (fun _ _ _ h => h) (Or.inl ⟨by rfl, ?_⟩) (by assumption) ?_
        rotate_left 1
        · (intro w hSw; (try dsimp only at hSw); go_simp; (try with_reducible rfl))
        (try simp only [Act.put, List.setIfInBounds_toArray, List.set_cons_zero, List.set_cons_succ])
        refine wpAnyH_take (i := 16) (oi := ({ dst := some 46, op := Op.fieldAddr 49 (Operand.tmp 45) 0, type := 0, pos := "watch.go:38", after := #[{ on := 15, ground := Ground.data }, { on := 0, ground := Ground.phase }, { on := 1, ground := Ground.phase }, { on := 2, ground := Ground.phase }, { on := 3, ground := Ground.phase }, { on := 4, ground := Ground.phase }, { on := 5, ground := Ground.phase }, { on := 6, ground := Ground.phase }, { on := 7, ground := Ground.phase }, { on := 8, ground := Ground.phase }, { on := 9, ground := Ground.phase }, { on := 10, ground := Ground.phase }, { on := 11, ground := Ground.phase }, { on := 12, ground := Ground.phase }, { on := 13, ground := Ground.phase }, { on := 14, ground := Ground.phase }], guard := none } : Oper)) (v := ?_) rfl (by kernel_rfl) (by kernel_rfl) (by kernel_rfl) (fun _ _ _ h => h) (Or.inl ⟨by rfl, ?_⟩) (by assumption) ?_
        rotate_left 1
        · (intro w hSw; (try dsimp only at hSw); go_simp; (try with_reducible rfl))
        (try simp only [Act.put, List.setIfInBounds_toArray, List.set_cons_zero, List.set_cons_succ])
        refine wpAnyH_ready (rs := [17]) (by kernel_rfl) (by simp) ?_
        refine AllReadyH.cons (o := ({ dst := none, op := Op.store 47 (Operand.tmp 46) (Operand.tmp 44), type := 0, pos := "watch.go:38", after := #[{ on := 16, ground := Ground.data }, { on := 14, ground := Ground.data }, { on := 14, ground := Ground.chain }, { on := 0, ground := Ground.phase }, { on := 1, ground := Ground.phase }, { on := 2, ground := Ground.phase }, { on := 3, ground := Ground.phase }, { on := 4, ground := Ground.phase }, { on := 5, ground := Ground.phase }, { on := 6, ground := Ground.phase }, { on := 7, ground := Ground.phase }, { on := 8, ground := Ground.phase }, { on := 9, ground := Ground.phase }, { on := 10, ground := Ground.phase }, { on := 11, ground := Ground.phase }, { on := 12, ground := Ground.phase }, { on := 13, ground := Ground.phase }, { on := 14, ground := Ground.phase }], guard := none } : Oper)) rfl (fun K hK => ?_) ?_
        rotate_left 1
        · exact AllReadyH.nil
        go_simp
        first | (refine hK.out _ _ ?_ (fun hH5 => ?_)) | (go_wp2_with fail; refine hK.out _ _ ?_ (fun hH5 => ?_))
        · trivial
        clear hK K hH4
        (try simp only [Act.put, List.setIfInBounds_toArray, List.set_cons_zero, List.set_cons_succ])
        refine wpAnyH_done (by kernel_rfl) ?_ _
        refine NoPanic.normal ?_
        have hl1 : (P ++ [(⟨la + 1, 1, f, t⟩ : Pt)]).length = P.length + 1 := by simp
        rw [hl1] at hown hwh
        have hKp := kp_add G1.out HS1.out (by first | exact Below.drew0 (Below.alloc0 (Below.refl W1.heap.size W1) _) | exact Below.alloc0 (Below.drew0 (Below.refl W1.heap.size W1)) _) hgr (Value.slice A4 (P.length + 1) c4)
        have hwh2 : (Value.slice A4 (P.length + 1) c4).ownBlock = v.ownBlock ∨ ∃ b, (Value.slice A4 (P.length + 1) c4).ownBlock = some b ∧ w.heap.size ≤ b := by rcases hwh with hh | hh <;> first | exact .inl hh | exact .inr ⟨_, hh, by have := HS1.out; simp; omega⟩
        have HF := Lib.hid (And.intro (wat_add HK4.out hown) (And.intro hKp hwh2))
        have hc1 := (Blk.c2 HK4.out).2
        clear hown hwh hwh2 hKp hgr hbel hl1 y0 y1 z0 z1 b0 b1 f0 f1 fz0 fz1
        go_wp2
        go_ret2
        exact ⟨rfl, _, HF.out⟩
      exact AllReadyH.nil
    exact AllReadyH.nil
  · clear hk ht hE hb ho hlt hgs hn
    go_enter Try.func43, Try.ntmps43
    go_upto_region 6 with (fail)
    clear b0 b1 f0 f1
    have hs1 : (w.setCell ⟨g, 1, none⟩ (.int .i64 (la + 1))).heap.size = w.heap.size := by simp
    have HS1 := Lib.hid hs1
    clear hs1
    generalize w.setCell ⟨g, 1, none⟩ (.int .i64 (la + 1)) = W1 at HB1 G1 HO1 HS1 ⊢
    obtain ⟨⟨b0, b1⟩, f0, f1⟩ := Blk.b2 HB1.out
    have S0 : Hid ((fun w' : World => w'.cell? ⟨g, 0, none⟩ = some v ∧ w'.cell? ⟨g, 1, none⟩ = some (.int .i64 (la + 1))) W1.drew) := Lib.hid ⟨b0, b1⟩
    have HBA := Lib.hid (Blk.alloc (Blk.drew HB1.out) (Obj.cells #[.int .i64 (la + 1), .int .i64 2, .int .u16 f, .int .u16 t] 88))
    have HBB := Lib.hid (Blk.alloc HB1.out (Obj.cells #[.int .i64 (la + 1), .int .i64 2, .int .u16 f, .int .u16 t] 88))
    have S1 : Hid ((fun w' : World => w'.cell? ⟨g, 0, none⟩ = some v ∧ w'.cell? ⟨g, 1, none⟩ = some (.int .i64 (la + 1))) (W1.drew.alloc (Obj.cells #[.int .i64 (la + 1), .int .i64 2, .int .u16 f, .int .u16 t] 88))) := Lib.hid (Blk.c2 HBA.out)
    obtain ⟨z0, z1⟩ := Blk.c2 HBA.out
    obtain ⟨y0, y1⟩ := Blk.c2 HBB.out
    have fz0 := HBA.out.frozen 0
    have fz1 := HBB.out.frozen 0
    refine wp_region_noPanic ?_
    refine wp_region_held_drew (S := (fun _ => True)) (by kernel_rfl) ?_ (fun hH0 => ?_)
    · trivial
    refine wpAnyH_take (i := 0) (oi := ({ dst := some 30, op := Op.move (Operand.tmp 0), type := 46, pos := "watch.go:38", after := #[], guard := none } : Oper)) (v := ?_) rfl (by kernel_rfl) (by kernel_rfl) (by kernel_rfl) (fun _ _ _ h => h) (Or.inl ⟨by rfl, ?_⟩) (by assumption) ?_
    rotate_left 1
    · (intro w hSw; (try dsimp only at hSw); go_simp; (try with_reducible rfl))
    (try simp only [Act.put, List.setIfInBounds_toArray, List.set_cons_zero, List.set_cons_succ])
    refine wpAnyH_take (i := 1) (oi := ({ dst := some 31, op := Op.move (Operand.tmp 0), type := 46, pos := "watch.go:38", after := #[], guard := none } : Oper)) (v := ?_) rfl (by kernel_rfl) (by kernel_rfl) (by kernel_rfl) (fun _ _ _ h => h) (Or.inl ⟨by rfl, ?_⟩) (by assumption) ?_
    rotate_left 1
    · (intro w hSw; (try dsimp only at hSw); go_simp; (try with_reducible rfl))
    (try simp only [Act.put, List.setIfInBounds_toArray, List.set_cons_zero, List.set_cons_succ])
    refine wpAnyH_take (i := 2) (oi := ({ dst := some 32, op := Op.nilCheck (Operand.tmp 31), type := 0, pos := "watch.go:38", after := #[{ on := 1, ground := Ground.data }], guard := none } : Oper)) (v := ?_) rfl (by kernel_rfl) (by kernel_rfl) (by kernel_rfl) (fun _ _ _ h => h) (Or.inl ⟨by rfl, ?_⟩) (by assumption) ?_
    rotate_left 1
    · (intro w hSw; (try dsimp only at hSw); go_simp; (try with_reducible rfl))
    (try simp only [Act.put, List.setIfInBounds_toArray, List.set_cons_zero, List.set_cons_succ])
    refine wpAnyH_take (i := 3) (oi := ({ dst := some 33, op := Op.fieldAddr 49 (Operand.tmp 32) 0, type := 0, pos := "watch.go:38", after := #[{ on := 2, ground := Ground.data }], guard := none } : Oper)) (v := ?_) rfl (by kernel_rfl) (by kernel_rfl) (by kernel_rfl) (fun _ _ _ h => h) (Or.inl ⟨by rfl, ?_⟩) (by assumption) ?_
    rotate_left 1
    · (intro w hSw; (try dsimp only at hSw); go_simp; (try with_reducible rfl))
    (try simp only [Act.put, List.setIfInBounds_toArray, List.set_cons_zero, List.set_cons_succ])
    refine wpAnyH_take (i := 5) (oi := ({ dst := some 35, op := Op.move (Operand.tmp 0), type := 46, pos := "watch.go:38", after := #[], guard := none } : Oper)) (v := ?_) rfl (by kernel_rfl) (by kernel_rfl) (by kernel_rfl) (fun _ _ _ h => h) (Or.inl ⟨by rfl, ?_⟩) (by assumption) ?_
    rotate_left 1
    · (intro w hSw; (try dsimp only at hSw); go_simp; (try with_reducible rfl))
    (try simp only [Act.put, List.setIfInBounds_toArray, List.set_cons_zero, List.set_cons_succ])
    refine wpAnyH_take (i := 6) (oi := ({ dst := some 36, op := Op.nilCheck (Operand.tmp 35), type := 0, pos := "watch.go:38", after := #[{ on := 5, ground := Ground.data }], guard := none } : Oper)) (v := ?_) rfl (by kernel_rfl) (by kernel_rfl) (by kernel_rfl) (fun _ _ _ h => h) (Or.inl ⟨by rfl, ?_⟩) (by assumption) ?_
    rotate_left 1
    · (intro w hSw; (try dsimp only at hSw); go_simp; (try with_reducible rfl))
    (try simp only [Act.put, List.setIfInBounds_toArray, List.set_cons_zero, List.set_cons_succ])
    refine wpAnyH_take (i := 7) (oi := ({ dst := some 37, op := Op.fieldAddr 49 (Operand.tmp 36) 1, type := 0, pos := "watch.go:38", after := #[{ on := 6, ground := Ground.data }], guard := none } : Oper)) (v := ?_) rfl (by kernel_rfl) (by kernel_rfl) (by kernel_rfl) (fun _ _ _ h => h) (Or.inl ⟨by rfl, ?_⟩) (by assumption) ?_
    rotate_left 1
    · (intro w hSw; (try dsimp only at hSw); go_simp; (try with_reducible rfl))
    (try simp only [Act.put, List.setIfInBounds_toArray, List.set_cons_zero, List.set_cons_succ])
    refine wpAnyH_take (i := 9) (oi := ({ dst := some 39, op := Op.move (Operand.tmp 1), type := 3, pos := "watch.go:38", after := #[], guard := none } : Oper)) (v := ?_) rfl (by kernel_rfl) (by kernel_rfl) (by kernel_rfl) (fun _ _ _ h => h) (Or.inl ⟨by rfl, ?_⟩) (by assumption) ?_
    rotate_left 1
    · (intro w hSw; (try dsimp only at hSw); go_simp; (try with_reducible rfl))
    (try simp only [Act.put, List.setIfInBounds_toArray, List.set_cons_zero, List.set_cons_succ])
    refine wpAnyH_take (i := 10) (oi := ({ dst := some 40, op := Op.move (Operand.tmp 2), type := 23, pos := "watch.go:38", after := #[], guard := none } : Oper)) (v := ?_) rfl (by kernel_rfl) (by kernel_rfl) (by kernel_rfl) (fun _ _ _ h => h) (Or.inl ⟨by rfl, ?_⟩) (by assumption) ?_
    rotate_left 1
    · (intro w hSw; (try dsimp only at hSw); go_simp; (try with_reducible rfl))
    (try simp only [Act.put, List.setIfInBounds_toArray, List.set_cons_zero, List.set_cons_succ])
    refine wpAnyH_take (i := 11) (oi := ({ dst := some 41, op := Op.move (Operand.tmp 3), type := 23, pos := "watch.go:38", after := #[], guard := none } : Oper)) (v := ?_) rfl (by kernel_rfl) (by kernel_rfl) (by kernel_rfl) (fun _ _ _ h => h) (Or.inl ⟨by rfl, ?_⟩) (by assumption) ?_
    rotate_left 1
    · (intro w hSw; (try dsimp only at hSw); go_simp; (try with_reducible rfl))
    (try simp only [Act.put, List.setIfInBounds_toArray, List.set_cons_zero, List.set_cons_succ])
    refine wpAnyH_ready (rs := [4, 8]) (by kernel_rfl) (by simp) ?_
    refine AllReadyH.cons (o := ({ dst := some 34, op := Op.load 47 (Operand.tmp 33), type := 47, pos := "watch.go:38", after := #[{ on := 3, ground := Ground.data }], guard := none } : Oper)) rfl (fun K hK => ?_) ?_
    · go_simp
      first | (refine hK.out _ _ ?_ (fun hH1 => ?_)) | (go_wp2_with fail; refine hK.out _ _ ?_ (fun hH1 => ?_))
      · trivial
      clear hK K hH0
      (try simp only [Act.put, List.setIfInBounds_toArray, List.set_cons_zero, List.set_cons_succ])
      refine wpAnyH_ready (rs := [8]) (by kernel_rfl) (by simp) ?_
      refine AllReadyH.cons (o := ({ dst := some 38, op := Op.load 3 (Operand.tmp 37), type := 3, pos := "watch.go:38", after := #[{ on := 7, ground := Ground.data }], guard := none } : Oper)) rfl (fun K hK => ?_) ?_
      rotate_left 1
      · exact AllReadyH.nil
      go_simp
      first | (refine hK.out _ _ ?_ (fun hH2 => ?_)) | (go_wp2_with fail; refine hK.out _ _ ?_ (fun hH2 => ?_))
      · trivial
      clear hK K hH1
      (try simp only [Act.put, List.setIfInBounds_toArray, List.set_cons_zero, List.set_cons_succ])
      refine wpAnyH_take (i := 12) (oi := ({ dst := some 42, op := Op.build 88 #[(0, Operand.tmp 38), (1, Operand.tmp 39), (2, Operand.tmp 40), (3, Operand.tmp 41)], type := 88, pos := "watch.go:38", after := #[{ on := 8, ground := Ground.data }, { on := 9, ground := Ground.data }, { on := 10, ground := Ground.data }, { on := 11, ground := Ground.data }], guard := none } : Oper)) (v := ?_) rfl (by kernel_rfl) (by kernel_rfl) (by kernel_rfl) (fun _ _ _ h => h) (Or.inl ⟨by rfl, ?_⟩) (by assumption) ?_
      rotate_left 1
      · (intro w hSw; (try dsimp only at hSw); go_simp; (try with_reducible rfl))
      (try simp only [Act.put, List.setIfInBounds_toArray, List.set_cons_zero, List.set_cons_succ])
      refine wpAnyH_ready (rs := [13]) (by kernel_rfl) (by simp) ?_
      refine AllReadyH.cons (o := ({ dst := some 43, op := Op.buildSlice 47 1 #[(0, Operand.tmp 42)], type := 47, pos := "watch.go:38", after := #[{ on := 12, ground := Ground.data }], guard := none } : Oper)) rfl (fun K hK => ?_) ?_
      rotate_left 1
      · exact AllReadyH.nil
      go_simp
      first | (refine hK.out _ _ ?_ (fun hH3 => ?_)) | (go_wp2_with fail; refine hK.out _ _ ?_ (fun hH3 => ?_))
      · trivial
      clear hK K hH2
      (try simp only [Act.put, List.setIfInBounds_toArray, List.set_cons_zero, List.set_cons_succ])
      refine wpAnyH_ready (rs := [14]) (by kernel_rfl) (by simp) ?_
      refine AllReadyH.cons (o := ({ dst := some 44, op := Op.call { callee := Callee.builtin Builtin.append, args := #[Operand.tmp 34, Operand.tmp 43], argTypes := #[47, 47] }, type := 47, pos := "watch.go:38", after := #[{ on := 4, ground := Ground.data }, { on := 13, ground := Ground.data }], guard := none } : Oper)) rfl (fun K hK => ?_) ?_
      rotate_left 1
      · exact AllReadyH.nil
      (refine step_appP (by rfl) _ _ _ (by rfl) (g + 1) v _ P [⟨la + 1, 2, f, t⟩] (by rfl) (by first | exact Els.Own.alloc (Els.Own.drew HO1.out) _ | exact Els.Own.drew (Els.Own.alloc HO1.out _)) (by rfl) (by first | exact Els.Rd.new (E := eP) _ rfl 88 [⟨la + 1, 2, f, t⟩] #[.int .i64 (la + 1), .int .i64 2, .int .u16 f, .int .u16 t] 1 rfl rfl 1 | exact Els.Rd.drew (Els.Rd.new (E := eP) _ rfl 88 [⟨la + 1, 2, f, t⟩] #[.int .i64 (la + 1), .int .i64 2, .int .u16 f, .int .u16 t] 1 rfl rfl 1)) (by have := HNL.out; simp; omega) (by have := HGS.out; have := HS1.out; simp; omega) ?_; intro v' w4 hown hbel hgr hwh; obtain ⟨A4, c4, rfl, -⟩ := Els.Rd.open_ hown.rd; have HK4 := Lib.hid (Blk.grown (by first | exact HBA.out | exact Blk.drew HBB.out) hgr (fun e => by have := (HLT.out g e.symm).1; omega)); have S2 := Lib.hid (show (fun w' : World => w'.cell? ⟨g, 0, none⟩ = some v ∧ w'.cell? ⟨g, 1, none⟩ = some (.int .i64 (la + 1))) w4 from Blk.c2 HK4.out); have HFR := HK4.out.frozen 0; have hc0 := (Blk.c2 HK4.out).1)
      first | (refine hK.out _ _ ?_ (fun hH4 => ?_)) | (go_wp2_with fail; refine hK.out _ _ ?_ (fun hH4 => ?_))
      · trivial
      clear hK K hH3
      (try simp only [Act.put, List.setIfInBounds_toArray, List.set_cons_zero, List.set_cons_succ])
      refine wpAnyH_take (i := 15) (oi := ({ dst := some 45, op := Op.nilCheck (Operand.tmp 30), type := 0, pos := "watch.go:38", after := #[{ on := 0, ground := Ground.data }, { on := 0, ground := Ground.phase }, { on := 1, ground := Ground.phase }, { on := 2, ground := Ground.phase }, { on := 3, ground := Ground.phase }, { on := 4, ground := Ground.phase }, { on := 5, ground := Ground.phase }, { on := 6, ground := Ground.phase }, { on := 7, ground := Ground.phase }, { on := 8, ground := Ground.phase }, { on := 9, ground := Ground.phase }, { on := 10, ground := Ground.phase }, { on := 11, ground := Ground.phase }, { on := 12, ground := Ground.phase }, { on := 13, ground := Ground.phase }, { on := 14, ground := Ground.phase }], guard := none } : Oper)) (v := ?_) rfl (by kernel_rfl) (by kernel_rfl) (by kernel_rfl) (fun _ _ _ h => h) (Or.inl ⟨by rfl, ?_⟩) (by assumption) ?_
      rotate_left 1
      · (intro w hSw; (try dsimp only at hSw); go_simp; (try with_reducible rfl))
      (try simp only [Act.put, List.setIfInBounds_toArray, List.set_cons_zero, List.set_cons_succ])
      refine wpAnyH_take (i := 16) (oi := ({ dst := some 46, op := Op.fieldAddr 49 (Operand.tmp 45) 0, type := 0, pos := "watch.go:38", after := #[{ on := 15, ground := Ground.data }, { on := 0, ground := Ground.phase }, { on := 1, ground := Ground.phase }, { on := 2, ground := Ground.phase }, { on := 3, ground := Ground.phase }, { on := 4, ground := Ground.phase }, { on := 5, ground := Ground.phase }, { on := 6, ground := Ground.phase }, { on := 7, ground := Ground.phase }, { on := 8, ground := Ground.phase }, { on := 9, ground := Ground.phase }, { on := 10, ground := Ground.phase }, { on := 11, ground := Ground.phase }, { on := 12, ground := Ground.phase }, { on := 13, ground := Ground.phase }, { on := 14, ground := Ground.phase }], guard := none } : Oper)) (v := ?_) rfl (by kernel_rfl) (by kernel_rfl) (by kernel_rfl) (fun _ _ _ h => h) (Or.inl ⟨by rfl, ?_⟩) (by assumption) ?_
      rotate_left 1
      · (intro w hSw; (try dsimp only at hSw); go_simp; (try with_reducible rfl))
      (try simp only [Act.put, List.setIfInBounds_toArray, List.set_cons_zero, List.set_cons_succ])
      refine wpAnyH_ready (rs := [17]) (by kernel_rfl) (by simp) ?_
      refine AllReadyH.cons (o := ({ dst := none, op := Op.store 47 (Operand.tmp 46) (Operand.tmp 44), type := 0, pos := "watch.go:38", after := #[{ on := 16, ground := Ground.data }, { on := 14, ground := Ground.data }, { on := 14, ground := Ground.chain }, { on := 0, ground := Ground.phase }, { on := 1, ground := Ground.phase }, { on := 2, ground := Ground.phase }, { on := 3, ground := Ground.phase }, { on := 4, ground := Ground.phase }, { on := 5, ground := Ground.phase }, { on := 6, ground := Ground.phase }, { on := 7, ground := Ground.phase }, { on := 8, ground := Ground.phase }, { on := 9, ground := Ground.phase }, { on := 10, ground := Ground.phase }, { on := 11, ground := Ground.phase }, { on := 12, ground := Ground.phase }, { on := 13, ground := Ground.phase }, { on := 14, ground := Ground.phase }], guard := none } : Oper)) rfl (fun K hK => ?_) ?_
      rotate_left 1
      · exact AllReadyH.nil
      go_simp
      first | (refine hK.out _ _ ?_ (fun hH5 => ?_)) | (go_wp2_with fail; refine hK.out _ _ ?_ (fun hH5 => ?_))
      · trivial
      clear hK K hH4
      (try simp only [Act.put, List.setIfInBounds_toArray, List.set_cons_zero, List.set_cons_succ])
      refine wpAnyH_done (by kernel_rfl) ?_ _
      refine NoPanic.normal ?_
      have hl1 : (P ++ [(⟨la + 1, 2, f, t⟩ : Pt)]).length = P.length + 1 := by simp
      rw [hl1] at hown hwh
      have hKp := kp_add G1.out HS1.out (by first | exact Below.drew0 (Below.alloc0 (Below.refl W1.heap.size W1) _) | exact Below.alloc0 (Below.drew0 (Below.refl W1.heap.size W1)) _) hgr (Value.slice A4 (P.length + 1) c4)
      have hwh2 : (Value.slice A4 (P.length + 1) c4).ownBlock = v.ownBlock ∨ ∃ b, (Value.slice A4 (P.length + 1) c4).ownBlock = some b ∧ w.heap.size ≤ b := by rcases hwh with hh | hh <;> first | exact .inl hh | exact .inr ⟨_, hh, by have := HS1.out; simp; omega⟩
      have HF := Lib.hid (And.intro (wat_add HK4.out hown) (And.intro hKp hwh2))
      have hc1 := (Blk.c2 HK4.out).2
      clear hown hwh hwh2 hKp hgr hbel hl1 y0 y1 z0 z1 b0 b1 f0 f1 fz0 fz1
      go_wp2
      go_ret2
      exact ⟨rfl, _, HF.out⟩
    refine AllReadyH.cons (o := ({ dst := some 38, op := Op.load 3 (Operand.tmp 37), type := 3, pos := "watch.go:38", after := #[{ on := 7, ground := Ground.data }], guard := none } : Oper)) rfl (fun K hK => ?_) ?_
    · go_simp
      first | (refine hK.out _ _ ?_ (fun hH1 => ?_)) | (go_wp2_with fail; refine hK.out _ _ ?_ (fun hH1 => ?_))
      · trivial
      clear hK K hH0
      (try simp only [Act.put, List.setIfInBounds_toArray, List.set_cons_zero, List.set_cons_succ])
      refine wpAnyH_take (i := 12) (oi := ({ dst := some 42, op := Op.build 88 #[(0, Operand.tmp 38), (1, Operand.tmp 39), (2, Operand.tmp 40), (3, Operand.tmp 41)], type := 88, pos := "watch.go:38", after := #[{ on := 8, ground := Ground.data }, { on := 9, ground := Ground.data }, { on := 10, ground := Ground.data }, { on := 11, ground := Ground.data }], guard := none } : Oper)) (v := ?_) rfl (by kernel_rfl) (by kernel_rfl) (by kernel_rfl) (fun _ _ _ h => h) (Or.inl ⟨by rfl, ?_⟩) (by assumption) ?_
      rotate_left 1
      · (intro w hSw; (try dsimp only at hSw); go_simp; (try with_reducible rfl))
      (try simp only [Act.put, List.setIfInBounds_toArray, List.set_cons_zero, List.set_cons_succ])
      refine wpAnyH_ready (rs := [4, 13]) (by kernel_rfl) (by simp) ?_
      refine AllReadyH.cons (o := ({ dst := some 34, op := Op.load 47 (Operand.tmp 33), type := 47, pos := "watch.go:38", after := #[{ on := 3, ground := Ground.data }], guard := none } : Oper)) rfl (fun K hK => ?_) ?_
      · go_simp
        first | (refine hK.out _ _ ?_ (fun hH2 => ?_)) | (go_wp2_with fail; refine hK.out _ _ ?_ (fun hH2 => ?_))
        · trivial
        clear hK K hH1
        (try simp only [Act.put, List.setIfInBounds_toArray, List.set_cons_zero, List.set_cons_succ])
        refine wpAnyH_ready (rs := [13]) (by kernel_rfl) (by simp) ?_
        refine AllReadyH.cons (o := ({ dst := some 43, op := Op.buildSlice 47 1 #[(0, Operand.tmp 42)], type := 47, pos := "watch.go:38", after := #[{ on := 12, ground := Ground.data }], guard := none } : Oper)) rfl (fun K hK => ?_) ?_
        rotate_left 1
        · exact AllReadyH.nil
        go_simp
        first | (refine hK.out _ _ ?_ (fun hH3 => ?_)) | (go_wp2_with fail; refine hK.out _ _ ?_ (fun hH3 => ?_))
        · trivial
        clear hK K hH2
        (try simp only [Act.put, List.setIfInBounds_toArray, List.set_cons_zero, List.set_cons_succ])
        refine wpAnyH_ready (rs := [14]) (by kernel_rfl) (by simp) ?_
        refine AllReadyH.cons (o := ({ dst := some 44, op := Op.call { callee := Callee.builtin Builtin.append, args := #[Operand.tmp 34, Operand.tmp 43], argTypes := #[47, 47] }, type := 47, pos := "watch.go:38", after := #[{ on := 4, ground := Ground.data }, { on := 13, ground := Ground.data }], guard := none } : Oper)) rfl (fun K hK => ?_) ?_
        rotate_left 1
        · exact AllReadyH.nil
        (refine step_appP (by rfl) _ _ _ (by rfl) (g + 1) v _ P [⟨la + 1, 2, f, t⟩] (by rfl) (by first | exact Els.Own.alloc (Els.Own.drew HO1.out) _ | exact Els.Own.drew (Els.Own.alloc HO1.out _)) (by rfl) (by first | exact Els.Rd.new (E := eP) _ rfl 88 [⟨la + 1, 2, f, t⟩] #[.int .i64 (la + 1), .int .i64 2, .int .u16 f, .int .u16 t] 1 rfl rfl 1 | exact Els.Rd.drew (Els.Rd.new (E := eP) _ rfl 88 [⟨la + 1, 2, f, t⟩] #[.int .i64 (la + 1), .int .i64 2, .int .u16 f, .int .u16 t] 1 rfl rfl 1)) (by have := HNL.out; simp; omega) (by have := HGS.out; have := HS1.out; simp; omega) ?_; intro v' w4 hown hbel hgr hwh; obtain ⟨A4, c4, rfl, -⟩ := Els.Rd.open_ hown.rd; have HK4 := Lib.hid (Blk.grown (by first | exact HBA.out | exact Blk.drew HBB.out) hgr (fun e => by have := (HLT.out g e.symm).1; omega)); have S2 := Lib.hid (show (fun w' : World => w'.cell? ⟨g, 0, none⟩ = some v ∧ w'.cell? ⟨g, 1, none⟩ = some (.int .i64 (la + 1))) w4 from Blk.c2 HK4.out); have HFR := HK4.out.frozen 0; have hc0 := (Blk.c2 HK4.out).1)
        first | (refine hK.out _ _ ?_ (fun hH4 => ?_)) | (go_wp2_with fail; refine hK.out _ _ ?_ (fun hH4 => ?_))
        · trivial
        clear hK K hH3
        (try simp only [Act.put, List.setIfInBounds_toArray, List.set_cons_zero, List.set_cons_succ])
        refine wpAnyH_take (i := 15) (oi := ({ dst := some 45, op := Op.nilCheck (Operand.tmp 30), type := 0, pos := "watch.go:38", after := #[{ on := 0, ground := Ground.data }, { on := 0, ground := Ground.phase }, { on := 1, ground := Ground.phase }, { on := 2, ground := Ground.phase }, { on := 3, ground := Ground.phase }, { on := 4, ground := Ground.phase }, { on := 5, ground := Ground.phase }, { on := 6, ground := Ground.phase }, { on := 7, ground := Ground.phase }, { on := 8, ground := Ground.phase }, { on := 9, ground := Ground.phase }, { on := 10, ground := Ground.phase }, { on := 11, ground := Ground.phase }, { on := 12, ground := Ground.phase }, { on := 13, ground := Ground.phase }, { on := 14, ground := Ground.phase }], guard := none } : Oper)) (v := ?_) rfl (by kernel_rfl) (by kernel_rfl) (by kernel_rfl) (fun _ _ _ h => h) (Or.inl ⟨by rfl, ?_⟩) (by assumption) ?_
        rotate_left 1
        · (intro w hSw; (try dsimp only at hSw); go_simp; (try with_reducible rfl))
        (try simp only [Act.put, List.setIfInBounds_toArray, List.set_cons_zero, List.set_cons_succ])
        refine wpAnyH_take (i := 16) (oi := ({ dst := some 46, op := Op.fieldAddr 49 (Operand.tmp 45) 0, type := 0, pos := "watch.go:38", after := #[{ on := 15, ground := Ground.data }, { on := 0, ground := Ground.phase }, { on := 1, ground := Ground.phase }, { on := 2, ground := Ground.phase }, { on := 3, ground := Ground.phase }, { on := 4, ground := Ground.phase }, { on := 5, ground := Ground.phase }, { on := 6, ground := Ground.phase }, { on := 7, ground := Ground.phase }, { on := 8, ground := Ground.phase }, { on := 9, ground := Ground.phase }, { on := 10, ground := Ground.phase }, { on := 11, ground := Ground.phase }, { on := 12, ground := Ground.phase }, { on := 13, ground := Ground.phase }, { on := 14, ground := Ground.phase }], guard := none } : Oper)) (v := ?_) rfl (by kernel_rfl) (by kernel_rfl) (by kernel_rfl) (fun _ _ _ h => h) (Or.inl ⟨by rfl, ?_⟩) (by assumption) ?_
        rotate_left 1
        · (intro w hSw; (try dsimp only at hSw); go_simp; (try with_reducible rfl))
        (try simp only [Act.put, List.setIfInBounds_toArray, List.set_cons_zero, List.set_cons_succ])
        refine wpAnyH_ready (rs := [17]) (by kernel_rfl) (by simp) ?_
        refine AllReadyH.cons (o := ({ dst := none, op := Op.store 47 (Operand.tmp 46) (Operand.tmp 44), type := 0, pos := "watch.go:38", after := #[{ on := 16, ground := Ground.data }, { on := 14, ground := Ground.data }, { on := 14, ground := Ground.chain }, { on := 0, ground := Ground.phase }, { on := 1, ground := Ground.phase }, { on := 2, ground := Ground.phase }, { on := 3, ground := Ground.phase }, { on := 4, ground := Ground.phase }, { on := 5, ground := Ground.phase }, { on := 6, ground := Ground.phase }, { on := 7, ground := Ground.phase }, { on := 8, ground := Ground.phase }, { on := 9, ground := Ground.phase }, { on := 10, ground := Ground.phase }, { on := 11, ground := Ground.phase }, { on := 12, ground := Ground.phase }, { on := 13, ground := Ground.phase }, { on := 14, ground := Ground.phase }], guard := none } : Oper)) rfl (fun K hK => ?_) ?_
        rotate_left 1
        · exact AllReadyH.nil
        go_simp
        first | (refine hK.out _ _ ?_ (fun hH5 => ?_)) | (go_wp2_with fail; refine hK.out _ _ ?_ (fun hH5 => ?_))
        · trivial
        clear hK K hH4
        (try simp only [Act.put, List.setIfInBounds_toArray, List.set_cons_zero, List.set_cons_succ])
        refine wpAnyH_done (by kernel_rfl) ?_ _
        refine NoPanic.normal ?_
        have hl1 : (P ++ [(⟨la + 1, 2, f, t⟩ : Pt)]).length = P.length + 1 := by simp
        rw [hl1] at hown hwh
        have hKp := kp_add G1.out HS1.out (by first | exact Below.drew0 (Below.alloc0 (Below.refl W1.heap.size W1) _) | exact Below.alloc0 (Below.drew0 (Below.refl W1.heap.size W1)) _) hgr (Value.slice A4 (P.length + 1) c4)
        have hwh2 : (Value.slice A4 (P.length + 1) c4).ownBlock = v.ownBlock ∨ ∃ b, (Value.slice A4 (P.length + 1) c4).ownBlock = some b ∧ w.heap.size ≤ b := by rcases hwh with hh | hh <;> first | exact .inl hh | exact .inr ⟨_, hh, by have := HS1.out; simp; omega⟩
        have HF := Lib.hid (And.intro (wat_add HK4.out hown) (And.intro hKp hwh2))
        have hc1 := (Blk.c2 HK4.out).2
        clear hown hwh hwh2 hKp hgr hbel hl1 y0 y1 z0 z1 b0 b1 f0 f1 fz0 fz1
        go_wp2
        go_ret2
        exact ⟨rfl, _, HF.out⟩
      refine AllReadyH.cons (o := ({ dst := some 43, op := Op.buildSlice 47 1 #[(0, Operand.tmp 42)], type := 47, pos := "watch.go:38", after := #[{ on := 12, ground := Ground.data }], guard := none } : Oper)) rfl (fun K hK => ?_) ?_
      · go_simp
        first | (refine hK.out _ _ ?_ (fun hH2 => ?_)) | (go_wp2_with fail; refine hK.out _ _ ?_ (fun hH2 => ?_))
        · trivial
        clear hK K hH1
        (try simp only [Act.put, List.setIfInBounds_toArray, List.set_cons_zero, List.set_cons_succ])
        refine wpAnyH_ready (rs := [4]) (by kernel_rfl) (by simp) ?_
        refine AllReadyH.cons (o := ({ dst := some 34, op := Op.load 47 (Operand.tmp 33), type := 47, pos := "watch.go:38", after := #[{ on := 3, ground := Ground.data }], guard := none } : Oper)) rfl (fun K hK => ?_) ?_
        rotate_left 1
        · exact AllReadyH.nil
        go_simp
        first | (refine hK.out _ _ ?_ (fun hH3 => ?_)) | (go_wp2_with fail; refine hK.out _ _ ?_ (fun hH3 => ?_))
        · trivial
        clear hK K hH2
        (try simp only [Act.put, List.setIfInBounds_toArray, List.set_cons_zero, List.set_cons_succ])
        refine wpAnyH_ready (rs := [14]) (by kernel_rfl) (by simp) ?_
        refine AllReadyH.cons (o := ({ dst := some 44, op := Op.call { callee := Callee.builtin Builtin.append, args := #[Operand.tmp 34, Operand.tmp 43], argTypes := #[47, 47] }, type := 47, pos := "watch.go:38", after := #[{ on := 4, ground := Ground.data }, { on := 13, ground := Ground.data }], guard := none } : Oper)) rfl (fun K hK => ?_) ?_
        rotate_left 1
        · exact AllReadyH.nil
        (refine step_appP (by rfl) _ _ _ (by rfl) (g + 1) v _ P [⟨la + 1, 2, f, t⟩] (by rfl) (by first | exact Els.Own.alloc (Els.Own.drew HO1.out) _ | exact Els.Own.drew (Els.Own.alloc HO1.out _)) (by rfl) (by first | exact Els.Rd.new (E := eP) _ rfl 88 [⟨la + 1, 2, f, t⟩] #[.int .i64 (la + 1), .int .i64 2, .int .u16 f, .int .u16 t] 1 rfl rfl 1 | exact Els.Rd.drew (Els.Rd.new (E := eP) _ rfl 88 [⟨la + 1, 2, f, t⟩] #[.int .i64 (la + 1), .int .i64 2, .int .u16 f, .int .u16 t] 1 rfl rfl 1)) (by have := HNL.out; simp; omega) (by have := HGS.out; have := HS1.out; simp; omega) ?_; intro v' w4 hown hbel hgr hwh; obtain ⟨A4, c4, rfl, -⟩ := Els.Rd.open_ hown.rd; have HK4 := Lib.hid (Blk.grown (by first | exact HBA.out | exact Blk.drew HBB.out) hgr (fun e => by have := (HLT.out g e.symm).1; omega)); have S2 := Lib.hid (show (fun w' : World => w'.cell? ⟨g, 0, none⟩ = some v ∧ w'.cell? ⟨g, 1, none⟩ = some (.int .i64 (la + 1))) w4 from Blk.c2 HK4.out); have HFR := HK4.out.frozen 0; have hc0 := (Blk.c2 HK4.out).1)
        first | (refine hK.out _ _ ?_ (fun hH4 => ?_)) | (go_wp2_with fail; refine hK.out _ _ ?_ (fun hH4 => ?_))
        · trivial
        clear hK K hH3
        (try simp only [Act.put, List.setIfInBounds_toArray, List.set_cons_zero, List.set_cons_succ])
        refine wpAnyH_take (i := 15) (oi := ({ dst := some 45, op := Op.nilCheck (Operand.tmp 30), type := 0, pos := "watch.go:38", after := #[{ on := 0, ground := Ground.data }, { on := 0, ground := Ground.phase }, { on := 1, ground := Ground.phase }, { on := 2, ground := Ground.phase }, { on := 3, ground := Ground.phase }, { on := 4, ground := Ground.phase }, { on := 5, ground := Ground.phase }, { on := 6, ground := Ground.phase }, { on := 7, ground := Ground.phase }, { on := 8, ground := Ground.phase }, { on := 9, ground := Ground.phase }, { on := 10, ground := Ground.phase }, { on := 11, ground := Ground.phase }, { on := 12, ground := Ground.phase }, { on := 13, ground := Ground.phase }, { on := 14, ground := Ground.phase }], guard := none } : Oper)) (v := ?_) rfl (by kernel_rfl) (by kernel_rfl) (by kernel_rfl) (fun _ _ _ h => h) (Or.inl ⟨by rfl, ?_⟩) (by assumption) ?_
        rotate_left 1
        · (intro w hSw; (try dsimp only at hSw); go_simp; (try with_reducible rfl))
        (try simp only [Act.put, List.setIfInBounds_toArray, List.set_cons_zero, List.set_cons_succ])
        refine wpAnyH_take (i := 16) (oi := ({ dst := some 46, op := Op.fieldAddr 49 (Operand.tmp 45) 0, type := 0, pos := "watch.go:38", after := #[{ on := 15, ground := Ground.data }, { on := 0, ground := Ground.phase }, { on := 1, ground := Ground.phase }, { on := 2, ground := Ground.phase }, { on := 3, ground := Ground.phase }, { on := 4, ground := Ground.phase }, { on := 5, ground := Ground.phase }, { on := 6, ground := Ground.phase }, { on := 7, ground := Ground.phase }, { on := 8, ground := Ground.phase }, { on := 9, ground := Ground.phase }, { on := 10, ground := Ground.phase }, { on := 11, ground := Ground.phase }, { on := 12, ground := Ground.phase }, { on := 13, ground := Ground.phase }, { on := 14, ground := Ground.phase }], guard := none } : Oper)) (v := ?_) rfl (by kernel_rfl) (by kernel_rfl) (by kernel_rfl) (fun _ _ _ h => h) (Or.inl ⟨by rfl, ?_⟩) (by assumption) ?_
        rotate_left 1
        · (intro w hSw; (try dsimp only at hSw); go_simp; (try with_reducible rfl))
        (try simp only [Act.put, List.setIfInBounds_toArray, List.set_cons_zero, List.set_cons_succ])
        refine wpAnyH_ready (rs := [17]) (by kernel_rfl) (by simp) ?_
        refine AllReadyH.cons (o := ({ dst := none, op := Op.store 47 (Operand.tmp 46) (Operand.tmp 44), type := 0, pos := "watch.go:38", after := #[{ on := 16, ground := Ground.data }, { on := 14, ground := Ground.data }, { on := 14, ground := Ground.chain }, { on := 0, ground := Ground.phase }, { on := 1, ground := Ground.phase }, { on := 2, ground := Ground.phase }, { on := 3, ground := Ground.phase }, { on := 4, ground := Ground.phase }, { on := 5, ground := Ground.phase }, { on := 6, ground := Ground.phase }, { on := 7, ground := Ground.phase }, { on := 8, ground := Ground.phase }, { on := 9, ground := Ground.phase }, { on := 10, ground := Ground.phase }, { on := 11, ground := Ground.phase }, { on := 12, ground := Ground.phase }, { on := 13, ground := Ground.phase }, { on := 14, ground := Ground.phase }], guard := none } : Oper)) rfl (fun K hK => ?_) ?_
        rotate_left 1
        · exact AllReadyH.nil
        go_simp
        first | (refine hK.out _ _ ?_ (fun hH5 => ?_)) | (go_wp2_with fail; refine hK.out _ _ ?_ (fun hH5 => ?_))
        · trivial
        clear hK K hH4
        (try simp only [Act.put, List.setIfInBounds_toArray, List.set_cons_zero, List.set_cons_succ])
        refine wpAnyH_done (by kernel_rfl) ?_ _
        refine NoPanic.normal ?_
        have hl1 : (P ++ [(⟨la + 1, 2, f, t⟩ : Pt)]).length = P.length + 1 := by simp
        rw [hl1] at hown hwh
        have hKp := kp_add G1.out HS1.out (by first | exact Below.drew0 (Below.alloc0 (Below.refl W1.heap.size W1) _) | exact Below.alloc0 (Below.drew0 (Below.refl W1.heap.size W1)) _) hgr (Value.slice A4 (P.length + 1) c4)
        have hwh2 : (Value.slice A4 (P.length + 1) c4).ownBlock = v.ownBlock ∨ ∃ b, (Value.slice A4 (P.length + 1) c4).ownBlock = some b ∧ w.heap.size ≤ b := by rcases hwh with hh | hh <;> first | exact .inl hh | exact .inr ⟨_, hh, by have := HS1.out; simp; omega⟩
        have HF := Lib.hid (And.intro (wat_add HK4.out hown) (And.intro hKp hwh2))
        have hc1 := (Blk.c2 HK4.out).2
        clear hown hwh hwh2 hKp hgr hbel hl1 y0 y1 z0 z1 b0 b1 f0 f1 fz0 fz1
        go_wp2
        go_ret2
        exact ⟨rfl, _, HF.out⟩
      exact AllReadyH.nil
    exact AllReadyH.nil
end Go.Proofs.Yteaajmoclgfhnaa
