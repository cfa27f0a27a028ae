/- Package prof: which of two counts stands ahead. -/
import Derived.Test.YtlgaedhbgkhmeaaPfA
import Derived.Deep.QuietTactic
import Derived.Deep.RegionHeld3
import Derived.BigQuiet
import Derived.Deep.DeepCutAuto
import Derived.Deep.CutBlock
import Derived.Sort.Grow
namespace Go.Proofs.Ytlgaedhbgkhmeaa
open Go.ChangeShapes Go.WideShapes Go.ChangeAt Go.RowKit
set_option linter.unusedVariables false
theorem grow3 (w : World) (A B C : Obj) (q k : Nat) : ((((w.alloc A).alloc B).drewN q).alloc C).drewN k = Sort.grow (w.drewN (q + k)) #[A, B, C] := by
  cases w
  simp only [World.drewN, World.alloc, Sort.grow, Nat.add_assoc, World.mk.injEq, and_true]
  apply Array.toList_inj.1
  simp
set_option maxRecDepth 100000 in
set_option maxHeartbeats 2000000 in
theorem spotOrder_any (a t c l b u d m : Int) (w : World) :
    Calls Try.prog 21 #[.agg #[.int .u16 a, .int .i64 t, .int .i64 c, .int .i64 l], .agg #[.int .u16 b, .int .i64 u, .int .i64 d, .int .i64 m]] w fun e w' => e = .returned (.int .i64 (orN (cmpN d c) (cmpN a b))) ∧ Below w.heap.size w w' ∧ ∃ q os, w' = Sort.grow (w.drewN q) os := by
  obtain ⟨g, hg⟩ : ∃ g, w.heap.size = g := ⟨_, rfl⟩
  have hz1 : (w.alloc (Obj.cells #[.int .u16 a, .int .i64 t, .int .i64 c, .int .i64 l] 35)).heap.size = g + 1 := by simp [hg]
  have HA := Lib.hid (Blk.alloc (Blk.new w 35 #[.int .u16 a, .int .i64 t, .int .i64 c, .int .i64 l] (0, 0)) (Obj.cells #[.int .u16 b, .int .i64 u, .int .i64 d, .int .i64 m] 35))
  have HC := Lib.hid (Blk.new (w.alloc (Obj.cells #[.int .u16 a, .int .i64 t, .int .i64 c, .int .i64 l] 35)) 35 #[.int .u16 b, .int .i64 u, .int .i64 d, .int .i64 m] (0, 0))
  have HB := Lib.hid (Below.alloc0 (Below.alloc0 (Below.refl w.heap.size w) (Obj.cells #[.int .u16 a, .int .i64 t, .int .i64 c, .int .i64 l] 35)) (Obj.cells #[.int .u16 b, .int .i64 u, .int .i64 d, .int .i64 m] 35))
  rw [hg] at HA
  rw [hz1] at HC
  have CI := Lib.hid (fun u => cmpI_any d c u)
  have CU := Lib.hid (fun u => cmpU_any a b u)
  have CO := Lib.hid (fun g c x y u h0 h1 => cmpOr_any g c x y u h0 h1)
  generalize cmpN d c = X at CI ⊢
  generalize cmpN a b = Y at CU ⊢
  go_enter Try.func21, Try.ntmps21
  go_upto_region 1 with (fail)
  generalize hW : (w.alloc (Obj.cells #[.int .u16 a, .int .i64 t, .int .i64 c, .int .i64 l] 35)).alloc (Obj.cells #[.int .u16 b, .int .i64 u, .int .i64 d, .int .i64 m] 35) = W at HA HC HB ⊢
  have HW := Lib.hid hW
  clear hW
  have S0 : Hid (∀ wx, Below W.heap.size W wx → (fun w' : World => w'.cell? ⟨g, 0, none⟩ = some (.int .u16 a) ∧ w'.cell? ⟨g, 2, none⟩ = some (.int .i64 c) ∧ w'.cell? ⟨g + 1, 0, none⟩ = some (.int .u16 b) ∧ w'.cell? ⟨g + 1, 2, none⟩ = some (.int .i64 d)) wx) := Lib.hid (fun wx hb =>
    ⟨(Blk.below HA.out hb HA.out.lt).cell 0, (Blk.below HA.out hb HA.out.lt).cell 2, (Blk.below HC.out hb HC.out.lt).cell 0, (Blk.below HC.out hb HC.out.lt).cell 2⟩)
  have B0 := Lib.hid (Below.drew0 (Below.refl W.heap.size W))
  have SK := Lib.hid (S0.out _ B0.out)
  refine wp_region_noPanic ?_
  refine wp_region_held_drew (S := (fun w' : World => w'.cell? ⟨g, 0, none⟩ = some (.int .u16 a) ∧ w'.cell? ⟨g, 2, none⟩ = some (.int .i64 c) ∧ w'.cell? ⟨g + 1, 0, none⟩ = some (.int .u16 b) ∧ w'.cell? ⟨g + 1, 2, none⟩ = some (.int .i64 d))) (by kernel_rfl) ?_ (fun hH0 => ?_)
  · (try dsimp only); with_reducible exact SK.out
  refine wpAnyH_take (i := 0) (oi := ({ dst := some 5, op := Op.fieldAddr 35 (Operand.tmp 3) 2, type := 0, pos := "prof.go:71", after := #[], guard := none } : Oper)) (v := ?_) rfl (by kernel_rfl) (by kernel_rfl) (by kernel_rfl) (fun _ _ _ h => h) (Or.inl ⟨by rfl, ?_⟩) (by assumption) ?_
  rotate_left 1
  · (intro w hSw; (try dsimp only at hSw); go_simp; (try with_reducible rfl))
  (try simp only [Act.put, List.setIfInBounds_toArray, List.set_cons_zero, List.set_cons_succ])
  refine wpAnyH_take (i := 1) (oi := ({ dst := some 6, op := Op.load 3 (Operand.tmp 5), type := 3, pos := "prof.go:71", after := #[{ on := 0, ground := Ground.data }], guard := none } : Oper)) (v := ?_) rfl (by kernel_rfl) (by kernel_rfl) (by kernel_rfl) (fun _ _ _ h => h) (Or.inl ⟨by rfl, ?_⟩) (by assumption) ?_
  rotate_left 1
  · (intro w hSw; (try dsimp only at hSw); go_simp; (try with_reducible rfl))
  (try simp only [Act.put, List.setIfInBounds_toArray, List.set_cons_zero, List.set_cons_succ])
  refine wpAnyH_take (i := 2) (oi := ({ dst := some 7, op := Op.fieldAddr 35 (Operand.tmp 2) 2, type := 0, pos := "prof.go:71", after := #[], guard := none } : Oper)) (v := ?_) rfl (by kernel_rfl) (by kernel_rfl) (by kernel_rfl) (fun _ _ _ h => h) (Or.inl ⟨by rfl, ?_⟩) (by assumption) ?_
  rotate_left 1
  · (intro w hSw; (try dsimp only at hSw); go_simp; (try with_reducible rfl))
  (try simp only [Act.put, List.setIfInBounds_toArray, List.set_cons_zero, List.set_cons_succ])
  refine wpAnyH_take (i := 3) (oi := ({ dst := some 8, op := Op.load 3 (Operand.tmp 7), type := 3, pos := "prof.go:71", after := #[{ on := 2, ground := Ground.data }], guard := none } : Oper)) (v := ?_) rfl (by kernel_rfl) (by kernel_rfl) (by kernel_rfl) (fun _ _ _ h => h) (Or.inl ⟨by rfl, ?_⟩) (by assumption) ?_
  rotate_left 1
  · (intro w hSw; (try dsimp only at hSw); go_simp; (try with_reducible rfl))
  (try simp only [Act.put, List.setIfInBounds_toArray, List.set_cons_zero, List.set_cons_succ])
  refine wpAnyH_take (i := 5) (oi := ({ dst := some 10, op := Op.fieldAddr 35 (Operand.tmp 2) 0, type := 0, pos := "prof.go:71", after := #[], guard := none } : Oper)) (v := ?_) rfl (by kernel_rfl) (by kernel_rfl) (by kernel_rfl) (fun _ _ _ h => h) (Or.inl ⟨by rfl, ?_⟩) (by assumption) ?_
  rotate_left 1
  · (intro w hSw; (try dsimp only at hSw); go_simp; (try with_reducible rfl))
  (try simp only [Act.put, List.setIfInBounds_toArray, List.set_cons_zero, List.set_cons_succ])
  refine wpAnyH_take (i := 6) (oi := ({ dst := some 11, op := Op.load 23 (Operand.tmp 10), type := 23, pos := "prof.go:71", after := #[{ on := 5, ground := Ground.data }], guard := none } : Oper)) (v := ?_) rfl (by kernel_rfl) (by kernel_rfl) (by kernel_rfl) (fun _ _ _ h => h) (Or.inl ⟨by rfl, ?_⟩) (by assumption) ?_
  rotate_left 1
  · (intro w hSw; (try dsimp only at hSw); go_simp; (try with_reducible rfl))
  (try simp only [Act.put, List.setIfInBounds_toArray, List.set_cons_zero, List.set_cons_succ])
  refine wpAnyH_take (i := 7) (oi := ({ dst := some 12, op := Op.fieldAddr 35 (Operand.tmp 3) 0, type := 0, pos := "prof.go:71", after := #[], guard := none } : Oper)) (v := ?_) rfl (by kernel_rfl) (by kernel_rfl) (by kernel_rfl) (fun _ _ _ h => h) (Or.inl ⟨by rfl, ?_⟩) (by assumption) ?_
  rotate_left 1
  · (intro w hSw; (try dsimp only at hSw); go_simp; (try with_reducible rfl))
  (try simp only [Act.put, List.setIfInBounds_toArray, List.set_cons_zero, List.set_cons_succ])
  refine wpAnyH_take (i := 8) (oi := ({ dst := some 13, op := Op.load 23 (Operand.tmp 12), type := 23, pos := "prof.go:71", after := #[{ on := 7, ground := Ground.data }], guard := none } : Oper)) (v := ?_) rfl (by kernel_rfl) (by kernel_rfl) (by kernel_rfl) (fun _ _ _ h => h) (Or.inl ⟨by rfl, ?_⟩) (by assumption) ?_
  rotate_left 1
  · (intro w hSw; (try dsimp only at hSw); go_simp; (try with_reducible rfl))
  (try simp only [Act.put, List.setIfInBounds_toArray, List.set_cons_zero, List.set_cons_succ])
  refine wpAnyH_ready (rs := [4]) (by kernel_rfl) (by simp) ?_
  refine AllReadyH.cons (o := ({ dst := some 9, op := Op.call { callee := Callee.value (Operand.func 25), args := #[Operand.tmp 6, Operand.tmp 8], argTypes := #[3, 3] }, type := 3, pos := "prof.go:71", after := #[{ on := 1, ground := Ground.data }, { on := 3, ground := Ground.data }], guard := none } : Oper)) rfl (fun K hK => ?_) ?_
  rotate_left 1
  · exact AllReadyH.nil
  go_simp
  go_at_call 25
  ((with_reducible refine (CI.out _).mono ?_); rintro e v1 ⟨rfl, k1, rfl⟩)
  first | (refine hK.out _ _ ?_ (fun hH1 => ?_)) | (go_wp2_with fail; refine hK.out _ _ ?_ (fun hH1 => ?_))
  · (try dsimp only); with_reducible first | exact S0.out _ (Below.drewN0 B0.out _) | exact S0.out _ (Below.drewN0 (Below.refl W.heap.size W) _)
  clear hK K hH0
  (try simp only [Act.put, List.setIfInBounds_toArray, List.set_cons_zero, List.set_cons_succ])
  refine wpAnyH_ready (rs := [9]) (by kernel_rfl) (by simp) ?_
  refine AllReadyH.cons (o := ({ dst := some 14, op := Op.call { callee := Callee.value (Operand.func 26), args := #[Operand.tmp 11, Operand.tmp 13], argTypes := #[23, 23] }, type := 3, pos := "prof.go:71", after := #[{ on := 6, ground := Ground.data }, { on := 8, ground := Ground.data }, { on := 4, ground := Ground.chain }], guard := none } : Oper)) rfl (fun K hK => ?_) ?_
  rotate_left 1
  · exact AllReadyH.nil
  go_simp
  go_at_call 26
  ((with_reducible refine (CU.out _).mono ?_); rintro e v2 ⟨rfl, k2, rfl⟩)
  first | (refine hK.out _ _ ?_ (fun hH2 => ?_)) | (go_wp2_with fail; refine hK.out _ _ ?_ (fun hH2 => ?_))
  · (try dsimp only); with_reducible first | exact S0.out _ (Below.drewN0 (Below.drewN0 (Below.refl W.heap.size W) _) _) | exact S0.out _ (Below.drewN0 (Below.refl W.heap.size W) _)
  clear hK K hH1
  (try simp only [Act.put, List.setIfInBounds_toArray, List.set_cons_zero, List.set_cons_succ])
  refine wpAnyH_ready (rs := [10]) (by kernel_rfl) (by simp) ?_
  refine AllReadyH.cons (o := ({ dst := some 15, op := Op.buildSlice 76 2 #[(0, Operand.tmp 9), (1, Operand.tmp 14)], type := 76, pos := "prof.go:71", after := #[{ on := 4, ground := Ground.data }, { on := 9, ground := Ground.data }], guard := none } : Oper)) rfl (fun K hK => ?_) ?_
  rotate_left 1
  · exact AllReadyH.nil
  go_simp
  first | (refine hK.out _ _ ?_ (fun hH3 => ?_)) | (go_wp2_with fail; refine hK.out _ _ ?_ (fun hH3 => ?_))
  · (try dsimp only); with_reducible exact S0.out _ (Below.alloc0 (Below.drewN0 (Below.refl W.heap.size W) _) _)
  clear hK K hH2
  (try simp only [Act.put, List.setIfInBounds_toArray, List.set_cons_zero, List.set_cons_succ])
  refine wpAnyH_ready (rs := [11]) (by kernel_rfl) (by simp) ?_
  refine AllReadyH.cons (o := ({ dst := some 16, op := Op.call { callee := Callee.value (Operand.func 24), args := #[Operand.tmp 15], argTypes := #[76] }, type := 3, pos := "prof.go:71", after := #[{ on := 10, ground := Ground.data }, { on := 9, ground := Ground.chain }], guard := none } : Oper)) rfl (fun K hK => ?_) ?_
  rotate_left 1
  · exact AllReadyH.nil
  go_simp
  go_at_call 24
  ((refine (CO.out _ _ X Y _ ((Blk.new _ _ #[.int .i64 X, .int .i64 Y] (0, 0)).cell 0) ((Blk.new _ _ #[.int .i64 X, .int .i64 Y] (0, 0)).cell 1)).mono ?_); rintro e v3 ⟨rfl, k3, rfl⟩)
  first | (refine hK.out _ _ ?_ (fun hH4 => ?_)) | (go_wp2_with fail; refine hK.out _ _ ?_ (fun hH4 => ?_))
  · (try dsimp only); with_reducible exact S0.out _ (Below.drewN0 (Below.alloc0 (Below.drewN0 (Below.refl W.heap.size W) _) _) _)
  clear hK K hH3
  (try simp only [Act.put, List.setIfInBounds_toArray, List.set_cons_zero, List.set_cons_succ])
  refine wpAnyH_take (i := 12) (oi := ({ dst := some 4, op := Op.assign (Operand.tmp 16), type := 3, pos := "prof.go:71", after := #[{ on := 11, ground := Ground.data }, { on := 11, ground := Ground.chain }, { on := 0, ground := Ground.phase }, { on := 1, ground := Ground.phase }, { on := 2, ground := Ground.phase }, { on := 3, ground := Ground.phase }, { on := 4, ground := Ground.phase }, { on := 5, ground := Ground.phase }, { on := 6, ground := Ground.phase }, { on := 7, ground := Ground.phase }, { on := 8, ground := Ground.phase }, { on := 9, ground := Ground.phase }, { on := 10, ground := Ground.phase }, { on := 11, ground := Ground.phase }], guard := none } : Oper)) (v := ?_) rfl (by kernel_rfl) (by kernel_rfl) (by kernel_rfl) (fun _ _ _ h => h) (Or.inl ⟨by rfl, ?_⟩) (by assumption) ?_
  rotate_left 1
  · (intro w hSw; (try dsimp only at hSw); go_simp; (try with_reducible rfl))
  (try simp only [Act.put, List.setIfInBounds_toArray, List.set_cons_zero, List.set_cons_succ])
  refine wpAnyH_done (by kernel_rfl) ?_ _
  refine NoPanic.normal ?_
  have HE := Lib.hid (Below.trans0 HB.out (Below.drewN0 (Below.alloc0 (Below.drewN0 (Below.refl W.heap.size W) (1 + k1 + k2)) (Obj.cells #[.int .i64 X, .int .i64 Y] 3)) k3))
  go_wp2
  go_ret
  refine ⟨rfl, by rw [← hg]; exact HE.out, (1 + k1 + k2) + k3, #[Obj.cells #[.int .u16 a, .int .i64 t, .int .i64 c, .int .i64 l] 35, Obj.cells #[.int .u16 b, .int .i64 u, .int .i64 d, .int .i64 m] 35, Obj.cells #[.int .i64 X, .int .i64 Y] 3], ?_⟩
  rw [← HW.out]
  exact grow3 _ _ _ _ _ _
theorem ordN_lt (x y : SpN) : orN (cmpN y.c x.c) (cmpN x.a y.a) < 0 ↔ befN x y = true := by
  rw [befN_iff]
  unfold orN cmpN
  rcases Int.lt_trichotomy y.c x.c with h | h | h
  · rw [if_pos h]; simp; omega
  · rw [if_neg (show ¬ y.c < x.c by omega), if_neg (show ¬ x.c < y.c by omega)]
    rcases Int.lt_trichotomy x.a y.a with g | g | g
    · rw [if_pos g]; simp; omega
    · rw [if_neg (show ¬ x.a < y.a by omega), if_neg (show ¬ y.a < x.a by omega)]; simp; omega
    · rw [if_neg (show ¬ x.a < y.a by omega), if_pos g]; simp; omega
  · rw [if_neg (show ¬ y.c < x.c by omega), if_pos h]; simp; omega
end Go.Proofs.Ytlgaedhbgkhmeaa
