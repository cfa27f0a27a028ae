/- What is told of memory, for the law of layer 32. -/
import Derived.Test.YtnhafficnomlbaaRamT
namespace Go.Proofs.Ytnhafficnomlbaa
open Go.ChangeShapes Go.WideShapes Go.ChangeAt Go.RowKit
set_option linter.unusedVariables false

theorem lstF_byt (q : Nat → Int) (n : Nat) (h : ∀ x, 0 ≤ q x ∧ q x < 256) : Byt (lstF q n) := fun x hx => by
  unfold lstF at hx
  obtain ⟨i, _, rfl⟩ := List.mem_map.1 hx
  exact h i
theorem lstF_next (q : Nat → Int) (n : Nat) : lstF q (n + 1) = lstF q n ++ [q n] := by simp [lstF, List.range_succ]
theorem partF_in (f : Nat → Int) (n : Nat) (hn : n < 256) : lstF (partF f (256 * n)) 256 = lstF (fun k => f (256 * n + k)) 256 := by
  unfold lstF
  apply List.map_congr_left
  intro k hk
  rw [List.mem_range] at hk
  unfold partF
  rw [Nat.mod_eq_of_lt (by omega)]
theorem lstF_part (f : Nat → Int) (n : Nat) (hn : n < 256) : ((lstF f 65536).take (256 * n + 256)).drop (256 * n) = lstF (fun k => f (256 * n + k)) 256 := by
  apply List.ext_getElem (by rw [List.length_drop, List.length_take, lstF_len, lstF_len]; omega)
  intro i h1 h2
  simp only [lstF, List.getElem_drop, List.getElem_take, List.getElem_map, List.getElem_range]
/-- A world behind W0 in which all that was in W0 stands. -/
def SS (W0 u : World) : Prop := Below W0.heap.size W0 u
theorem SS.refl (W : World) : SS W W := Below.refl _ _
theorem SS.drew {W u : World} (h : SS W u) : SS W u.drew := Below.drew0 h
theorem SS.drewN {W u : World} (h : SS W u) (k : Nat) : SS W (u.drewN k) := Below.drewN0 h k
theorem SS.then {W u v : World} (h : SS W u) (h' : Below u.heap.size u v) : SS W v := Below.trans0 h h'
def ToldPost (w : World) (e : Ending) (w' : World) : Prop := e = .returned (.bool true) ∧ Below w.heap.size w w'
set_option maxRecDepth 100000 in
set_option maxHeartbeats 4000000 in
theorem told_any (m g : Nat) (p : Nat → Option Nat) (rom : Int) (f : Nat → Int) (K At : Int) (B : Value) (w : World) (h : Ra w m p rom f) (hb : Blk w g 5 (rowF f 65536)) (hB : B.oneCell' = true) :
    Calls Try.prog 29 #[.pointer (some ⟨m, 0, none⟩), .slice (some ⟨g, 0, none⟩) 65536 65536, .int .i64 rom, .agg #[.int .i64 K, .int .i64 At, B]] w (ToldPost w) := by
  have HR := Lib.hid h
  have HB := Lib.hid hb
  have hglt := hb.lt
  obtain ⟨a, ha⟩ : ∃ a : Nat, IntKind.u16.wrap At = (a : Int) := ⟨(At % 65536).toNat, by rw [show IntKind.u16.wrap At = At % 65536 from rfl]; omega⟩
  have a64 : a < 65536 := by have : IntKind.u16.wrap At = At % 65536 := rfl; omega
  clear h hb
  go_enter Try.func29, Try.ntmps29
  go_wp2
  obtain ⟨pg, hpg⟩ : ∃ pg : Nat, (a : Int) / 256 = (pg : Int) := ⟨a / 256, by omega⟩
  have pg256 : pg < 256 := by omega
  rw [hpg]
  have R0 := Lib.hid (HR.out.alloc (.cells #[.int .i64 K, .int .i64 At, B] 47))
  have B0 := Lib.hid (HB.out.alloc (.cells #[.int .i64 K, .int .i64 At, B] 47))
  have W0 := Lib.hid (Below.alloc0 (Below.refl w.heap.size w) (.cells #[.int .i64 K, .int .i64 At, B] 47))
  generalize w.alloc (.cells #[.int .i64 K, .int .i64 At, B] 47) = X at R0 B0 W0 ⊢
  clear hpg ha hglt HB HR
  go_loopw [11, 12] (fun v i wr => ∃ k : Nat, k ≤ 5 ∧ i = .int .i64 k ∧ Hid (eY.Own 5 wr X.heap.size v (lstF (partF f a) k)) ∧ Hid (SS X wr)) (fun _ i _ => 5 - (intOf i).toNat)
  case atStart => exact ⟨0, Nat.zero_le _, rfl, Lib.hid (Els.Own.nil_ _ _), Lib.hid (SS.refl _)⟩
  case round =>
    obtain ⟨k, hk, rfl, HO, HS⟩ := hrel
    by_cases hlt : k < 5
    · obtain ⟨z, hz⟩ : ∃ z, (a + k) % 65536 = z := ⟨_, rfl⟩
      have z64 : z < 65536 := by omega
      have z0 : (0 : Int) ≤ (z : Int) := by omega
      have z1 : (z : Int) < 65536 := by omega
      have kw : IntKind.i64.wrap ((a : Int) + (k : Int)) = (a : Int) + (k : Int) := IntWalk.i64_in _ (by omega)
      have kt : Int.tmod ((a : Int) + (k : Int)) 65536 = (z : Int) := by rw [Int.tmod_eq_emod_of_nonneg (by omega)]; omega
      have ke : ((a : Int) + (k : Int)) % 65536 = (z : Int) := by omega
      have k5 : (k : Int) < 5 := by omega
      have c1 : wr.cell? ⟨g, z, none⟩ = some (.int .u8 (f z)) := by rw [(B0.out.below HS.out B0.out.lt).cell, rowF_at f 65536 z z64]
      have HN : Hid (lstF (partF f a) (k + 1) = lstF (partF f a) k ++ [f z]) := Lib.hid (by rw [lstF_next]; unfold partF; rw [hz])
      have HL : Hid ((lstF (partF f a) k).length = k) := Lib.hid (lstF_len _ _)
      generalize f z = x at c1 HN
      clear hz
      go_wp2_with (at_builtin; refine wpList_appY rfl _ _ _ rfl X.heap.size _ _ _ [x] rfl (Els.Own.alloc HO.out _) rfl (rdY_lit1 _ _ _) (by rw [HL.out]; simp only [List.length_singleton]; omega) (by have := HS.out.size; simp at this ⊢; omega) ?_; intro v' w3 ho3 hb3 hg3 hw3; have HO3 : Hid (eY.Own 5 w3 X.heap.size v' (lstF (partF f a) (k + 1))) := Lib.hid (by rw [HN.out]; exact ho3); have HS3 : Hid (SS X w3) := Lib.hid ((Below.alloc0 HS.out _).trans hb3); clear ho3 hb3 hg3 hw3)
      go_roundw
      case rel => exact ⟨k + 1, by omega, by go_num, HO3, HS3⟩
      case measure => simp [intOf] <;> omega
    · obtain rfl : k = 5 := by omega
      have HRX := Lib.hid (R0.out.below HS.out)
      have HBX := Lib.hid (B0.out.below HS.out B0.out.lt)
      have HPX := Lib.hid (HO.out.rd)
      have HWX : Hid (Below w.heap.size w wr) := Lib.hid (Below.trans W0.out (HS.out.mono W0.out.size))
      have c1 : wr.cell? ⟨g, a, none⟩ = some (.int .u8 (f a)) := by rw [HBX.out.cell, rowF_at f 65536 a a64]
      have hF : f a = f a := rfl
      obtain ⟨F, hFF⟩ : ∃ F, f a = F := ⟨_, rfl⟩
      rw [hFF] at c1
      have HFF := Lib.hid hFF
      have HLT := Lib.hid HBX.out.lt
      have HST : Hid (∀ u u', (u.cell? ⟨g, a, none⟩ = some (.int .u8 F) ∧ SS wr u) → Below u.heap.size u u' → (u'.cell? ⟨g, a, none⟩ = some (.int .u8 F) ∧ SS wr u')) := Lib.hid (fun u u' h hb => ⟨(hb.cell (p := ⟨g, a, none⟩) (by have := h.2.size; have := HLT.out; show g < _; omega)).trans h.1, h.2.then hb⟩)
      have S0 : Hid (wr.drew.cell? ⟨g, a, none⟩ = some (.int .u8 F) ∧ SS wr wr.drew) := Lib.hid ⟨c1, (SS.refl wr).drew⟩
      have HRD : Hid (∀ u, (u.cell? ⟨g, a, none⟩ = some (.int .u8 F) ∧ SS wr u) → Calls Try.prog 42 #[.pointer (some ⟨m, 0, none⟩), .int .u16 (a : Int)] u fun e u' => e = .returned (.int .u8 F) ∧ (u'.cell? ⟨g, a, none⟩ = some (.int .u8 F) ∧ SS wr u')) := Lib.hid (fun u h => (raRead_any m p rom f a u (HRX.out.below h.2) a64).mono (by
        rintro e u' ⟨rfl, k, rfl⟩
        exact ⟨by rw [HFF.out], HST.out _ _ h (Below.drewN0 (Below.refl _ _) k)⟩))
      have HRM : Hid (∀ u, (u.cell? ⟨g, a, none⟩ = some (.int .u8 F) ∧ SS wr u) → Calls Try.prog 46 #[.pointer (some ⟨m, 0, none⟩)] u fun e u' => e = .returned (.int .i64 rom) ∧ (u'.cell? ⟨g, a, none⟩ = some (.int .u8 F) ∧ SS wr u')) := Lib.hid (fun u h => (raRom_any m p rom f u (HRX.out.below h.2)).mono (by
        rintro e u' ⟨rfl, rfl⟩
        exact ⟨rfl, h⟩))
      have HP5 : Hid (∀ u, (u.cell? ⟨g, a, none⟩ = some (.int .u8 F) ∧ SS wr u) → Calls Try.prog 33 #[.pointer (some ⟨m, 0, none⟩), .int .u16 (a : Int), .int .i64 5] u fun e u' => ∃ v, e = .returned v ∧ eY.Rd u' v (lstF (partF f a) 5) ∧ (u'.cell? ⟨g, a, none⟩ = some (.int .u8 F) ∧ SS wr u')) := Lib.hid (fun u h => (raPart_any m p rom f a 5 5 u (HRX.out.below h.2) a64 (by omega)).mono (by
        rintro e u' ⟨v, rfl, hr, hb⟩
        exact ⟨v, rfl, hr, HST.out _ _ h hb⟩))
      have HPM : Hid (∀ u, (u.cell? ⟨g, a, none⟩ = some (.int .u8 F) ∧ SS wr u) → Calls Try.prog 33 #[.pointer (some ⟨m, 0, none⟩), .int .u16 (a : Int), .int .i64 (-1)] u fun e u' => ∃ A c, e = .returned (.slice A 0 c) ∧ (u'.cell? ⟨g, a, none⟩ = some (.int .u8 F) ∧ SS wr u')) := Lib.hid (fun u h => (raPart_any m p rom f a (-1) 0 u (HRX.out.below h.2) a64 (by omega)).mono (by
        rintro e u' ⟨v, rfl, hr, hb⟩
        obtain ⟨A, c, rfl, _⟩ := rdY_open hr
        exact ⟨A, c, rfl, HST.out _ _ h hb⟩))
      have HPG : Hid (∀ u, (u.cell? ⟨g, a, none⟩ = some (.int .u8 F) ∧ SS wr u) → Calls Try.prog 47 #[.pointer (some ⟨m, 0, none⟩), .int .i64 (pg : Int)] u fun e u' => ∃ v, e = .returned v ∧ eY.Rd u' v (lstF (partF f (256 * pg)) 256) ∧ (u'.cell? ⟨g, a, none⟩ = some (.int .u8 F) ∧ SS wr u')) := Lib.hid (fun u h => (raPage_any m p rom f pg u (HRX.out.below h.2) pg256).mono (by
        rintro e u' ⟨v, rfl, hr, hb⟩
        exact ⟨v, rfl, hr, HST.out _ _ h hb⟩))
      have HPN : Hid (∀ u (n : Int), (n < 0 ∨ 256 ≤ n) → (u.cell? ⟨g, a, none⟩ = some (.int .u8 F) ∧ SS wr u) → Calls Try.prog 47 #[.pointer (some ⟨m, 0, none⟩), .int .i64 n] u fun e u' => e = .returned (.slice none 0 0) ∧ (u'.cell? ⟨g, a, none⟩ = some (.int .u8 F) ∧ SS wr u')) := Lib.hid (fun u n hn h => (raPage_no m n u hn).mono (by
        rintro e u' ⟨rfl, rfl⟩
        exact ⟨rfl, h⟩))
      have BY5 := lstF_byt (partF f a) 5 (fun x => R0.out.byt _)
      have BYP := lstF_byt (partF f (256 * pg)) 256 (fun x => R0.out.byt _)
      have HE5 : Hid (∀ u v, eY.Rd u v (lstF (partF f a) 5) → (u.cell? ⟨g, a, none⟩ = some (.int .u8 F) ∧ SS wr u) → Calls Try.prog 15 #[v, u11] u fun e u' => e = .returned (.bool true) ∧ (u'.cell? ⟨g, a, none⟩ = some (.int .u8 F) ∧ SS wr u')) := Lib.hid (fun u v hv h => (eqY_any v u11 _ _ u hv (Els.Rd.below HPX.out h.2) BY5 BY5).mono (by
        rintro e u' ⟨rfl, rfl⟩
        exact ⟨by simp, h⟩))
      have HEP : Hid (∀ u v c, eY.Rd u v (lstF (partF f (256 * pg)) 256) → (u.cell? ⟨g, a, none⟩ = some (.int .u8 F) ∧ SS wr u) → Calls Try.prog 15 #[v, .slice (if 65536 = 256 * pg then some ⟨g, 0, none⟩ else some ⟨g, 256 * pg, none⟩) 256 c] u fun e u' => e = .returned (.bool true) ∧ (u'.cell? ⟨g, a, none⟩ = some (.int .u8 F) ∧ SS wr u')) := Lib.hid (fun u v c hv h => by
        rw [if_neg (by omega)]
        have r0 : eY.Rd u (.slice (some ⟨g, 0, none⟩) 65536 65536) (lstF f 65536) := rdY_row (HBX.out.below h.2 HLT.out) _
        have r1 := rdY_part (a := 256 * pg) (b := 256 * pg + 256) (c' := c) (m := 256) r0 (by rw [lstF_len]; omega) (by omega)
        rw [lstF_part f pg pg256, ← partF_in f pg pg256, Nat.zero_add] at r1
        refine (eqY_any v _ _ _ u hv r1 BYP BYP).mono ?_
        rintro e u' ⟨rfl, rfl⟩
        exact ⟨by simp, h⟩)
      have kw1 : IntKind.i64.wrap (256 * (pg : Int)) = 256 * (pg : Int) := IntWalk.i64_in _ (by omega)
      have kw2 : IntKind.i64.wrap (256 * (pg : Int) + 256) = 256 * (pg : Int) + 256 := IntWalk.i64_in _ (by omega)
      have kt1 : (256 * (pg : Int)).toNat = 256 * pg := by omega
      have kt2 : (256 * (pg : Int) + 256).toNat = 256 * pg + 256 := by omega
      have kp0 : (0 : Int) ≤ 256 * (pg : Int) := by omega
      have kp1 : 256 * (pg : Int) ≤ 256 * (pg : Int) + 256 := by omega
      have kp2 : 256 * (pg : Int) + 256 ≤ 65536 := by omega
      have a0 : (0 : Int) ≤ (a : Int) := by omega
      have a1 : (a : Int) < 65536 := by omega
      clear hF hFF BY5 BYP
      go_wp2
      refine wp_region_noPanic ?_
      refine wp_region_held_drew (S := (fun w' => w'.cell? ⟨g, a, none⟩ = some (.int .u8 F) ∧ SS wr w')) (by kernel_rfl) ?_ (fun hH0 => ?_)
      · (try dsimp only); with_reducible exact S0.out
      refine wpAnyH_take (i := 0) (oi := ({ dst := some 34, op := Op.move (Operand.tmp 0), type := 43, pos := "law.go:32", after := #[], guard := none } : Oper)) (v := ?_) rfl (by kernel_rfl) (by kernel_rfl) (by kernel_rfl) (fun _ _ _ h => h) (Or.inl ⟨by rfl, ?_⟩) (by assumption) ?_
      rotate_left 1
      · (intro w hSw; (try dsimp only at hSw); go_simp; (try with_reducible rfl))
      (try simp only [Act.put, List.setIfInBounds_toArray, List.set_cons_zero, List.set_cons_succ])
      refine wpAnyH_take (i := 1) (oi := ({ dst := some 35, op := Op.move (Operand.tmp 9), type := 23, pos := "law.go:32", after := #[], guard := none } : Oper)) (v := ?_) rfl (by kernel_rfl) (by kernel_rfl) (by kernel_rfl) (fun _ _ _ h => h) (Or.inl ⟨by rfl, ?_⟩) (by assumption) ?_
      rotate_left 1
      · (intro w hSw; (try dsimp only at hSw); go_simp; (try with_reducible rfl))
      (try simp only [Act.put, List.setIfInBounds_toArray, List.set_cons_zero, List.set_cons_succ])
      refine wpAnyH_take (i := 3) (oi := ({ dst := some 37, op := Op.move (Operand.tmp 1), type := 22, pos := "law.go:32", after := #[], guard := none } : Oper)) (v := ?_) rfl (by kernel_rfl) (by kernel_rfl) (by kernel_rfl) (fun _ _ _ h => h) (Or.inl ⟨by rfl, ?_⟩) (by assumption) ?_
      rotate_left 1
      · (intro w hSw; (try dsimp only at hSw); go_simp; (try with_reducible rfl))
      (try simp only [Act.put, List.setIfInBounds_toArray, List.set_cons_zero, List.set_cons_succ])
      refine wpAnyH_take (i := 4) (oi := ({ dst := some 38, op := Op.move (Operand.tmp 9), type := 23, pos := "law.go:32", after := #[], guard := none } : Oper)) (v := ?_) rfl (by kernel_rfl) (by kernel_rfl) (by kernel_rfl) (fun _ _ _ h => h) (Or.inl ⟨by rfl, ?_⟩) (by assumption) ?_
      rotate_left 1
      · (intro w hSw; (try dsimp only at hSw); go_simp; (try with_reducible rfl))
      (try simp only [Act.put, List.setIfInBounds_toArray, List.set_cons_zero, List.set_cons_succ])
      refine wpAnyH_take (i := 5) (oi := ({ dst := some 39, op := Op.indexAddr 22 (Operand.tmp 37) (Operand.tmp 38), type := 0, pos := "law.go:32", after := #[{ on := 3, ground := Ground.data }, { on := 4, ground := Ground.data }], guard := none } : Oper)) (v := ?_) rfl (by kernel_rfl) (by kernel_rfl) (by kernel_rfl) (fun _ _ _ h => h) (Or.inl ⟨by rfl, ?_⟩) (by assumption) ?_
      rotate_left 1
      · (intro w hSw; (try dsimp only at hSw); go_simp; (try with_reducible rfl))
      (try simp only [Act.put, List.setIfInBounds_toArray, List.set_cons_zero, List.set_cons_succ])
      refine wpAnyH_take (i := 6) (oi := ({ dst := some 40, op := Op.load 5 (Operand.tmp 39), type := 5, pos := "law.go:32", after := #[{ on := 5, ground := Ground.data }], guard := none } : Oper)) (v := ?_) rfl (by kernel_rfl) (by kernel_rfl) (by kernel_rfl) (fun _ _ _ h => h) (Or.inl ⟨by rfl, ?_⟩) (by assumption) ?_
      rotate_left 1
      · (intro w hSw; (try dsimp only at hSw); go_simp; (try with_reducible rfl))
      (try simp only [Act.put, List.setIfInBounds_toArray, List.set_cons_zero, List.set_cons_succ])
      refine wpAnyH_ready (rs := [2]) (by kernel_rfl) (by simp) ?_
      refine AllReadyH.cons (o := ({ dst := some 36, op := Op.call { callee := Callee.value (Operand.func 42), args := #[Operand.tmp 34, Operand.tmp 35], argTypes := #[43, 23] }, type := 5, pos := "law.go:32", after := #[{ on := 0, ground := Ground.data }, { on := 1, ground := Ground.data }], guard := none } : Oper)) rfl (fun K hK => ?_) ?_
      rotate_left 1
      · exact AllReadyH.nil
      go_simp
      go_at_call 42
      ((with_reducible refine (HRD.out _ (by assumption)).mono ?_); rintro e w' ⟨rfl, hs⟩)
      first | (refine hK.out _ _ ?_ (fun hH1 => ?_)) | (go_wp2_with fail; refine hK.out _ _ ?_ (fun hH1 => ?_))
      · (try dsimp only); with_reducible exact hs
      clear hK K hH0
      (try simp only [Act.put, List.setIfInBounds_toArray, List.set_cons_zero, List.set_cons_succ])
      refine wpAnyH_take (i := 7) (oi := ({ dst := some 41, op := Op.binOp BinOp.eql 5 (Operand.tmp 36) (Operand.tmp 40) 5, type := 4, pos := "law.go:32", after := #[{ on := 2, ground := Ground.data }, { on := 6, ground := Ground.data }], guard := none } : Oper)) (v := ?_) rfl (by kernel_rfl) (by kernel_rfl) (by kernel_rfl) (fun _ _ _ h => h) (Or.inl ⟨by rfl, ?_⟩) (by assumption) ?_
      rotate_left 1
      · (intro w hSw; (try dsimp only at hSw); go_simp; (try with_reducible rfl))
      (try simp only [Act.put, List.setIfInBounds_toArray, List.set_cons_zero, List.set_cons_succ])
      refine wpAnyH_take (i := 8) (oi := ({ dst := some 42, op := Op.move (Operand.tmp 41), type := 4, pos := "law.go:32", after := #[{ on := 7, ground := Ground.data }, { on := 2, ground := Ground.chain }], guard := none } : Oper)) (v := ?_) rfl (by kernel_rfl) (by kernel_rfl) (by kernel_rfl) (fun _ _ _ h => h) (Or.inl ⟨by rfl, ?_⟩) (by assumption) ?_
      rotate_left 1
      · (intro w hSw; (try dsimp only at hSw); go_simp; (try with_reducible rfl))
      (try simp only [Act.put, List.setIfInBounds_toArray, List.set_cons_zero, List.set_cons_succ])
      refine wpAnyH_take (i := 9) (oi := ({ dst := some 43, op := Op.move (Operand.tmp 0), type := 43, pos := "law.go:32", after := #[{ on := 8, ground := Ground.guard }], guard := some (8, true) } : Oper)) (v := ?_) rfl (by kernel_rfl) (by kernel_rfl) (by kernel_rfl) (fun _ _ _ h => h) (Or.inl ⟨by rfl, ?_⟩) (by assumption) ?_
      rotate_left 1
      · (intro w hSw; (try dsimp only at hSw); go_simp; (try with_reducible rfl))
      (try simp only [Act.put, List.setIfInBounds_toArray, List.set_cons_zero, List.set_cons_succ])
      refine wpAnyH_take (i := 11) (oi := ({ dst := some 45, op := Op.move (Operand.tmp 2), type := 3, pos := "law.go:32", after := #[{ on := 8, ground := Ground.guard }], guard := some (8, true) } : Oper)) (v := ?_) rfl (by kernel_rfl) (by kernel_rfl) (by kernel_rfl) (fun _ _ _ h => h) (Or.inl ⟨by rfl, ?_⟩) (by assumption) ?_
      rotate_left 1
      · (intro w hSw; (try dsimp only at hSw); go_simp; (try with_reducible rfl))
      (try simp only [Act.put, List.setIfInBounds_toArray, List.set_cons_zero, List.set_cons_succ])
      refine wpAnyH_ready (rs := [10]) (by kernel_rfl) (by simp) ?_
      refine AllReadyH.cons (o := ({ dst := some 44, op := Op.call { callee := Callee.value (Operand.func 46), args := #[Operand.tmp 43], argTypes := #[43] }, type := 3, pos := "law.go:32", after := #[{ on := 9, ground := Ground.data }, { on := 8, ground := Ground.chain }, { on := 8, ground := Ground.guard }], guard := some (8, true) } : Oper)) rfl (fun K hK => ?_) ?_
      rotate_left 1
      · exact AllReadyH.nil
      go_simp
      go_at_call 46
      ((with_reducible refine (HRM.out _ (by assumption)).mono ?_); rintro e w' ⟨rfl, hs⟩)
      first | (refine hK.out _ _ ?_ (fun hH2 => ?_)) | (go_wp2_with fail; refine hK.out _ _ ?_ (fun hH2 => ?_))
      · (try dsimp only); with_reducible exact hs
      clear hK K hH1
      (try simp only [Act.put, List.setIfInBounds_toArray, List.set_cons_zero, List.set_cons_succ])
      refine wpAnyH_take (i := 12) (oi := ({ dst := some 46, op := Op.binOp BinOp.eql 3 (Operand.tmp 44) (Operand.tmp 45) 3, type := 4, pos := "law.go:32", after := #[{ on := 10, ground := Ground.data }, { on := 11, ground := Ground.data }, { on := 8, ground := Ground.guard }], guard := some (8, true) } : Oper)) (v := ?_) rfl (by kernel_rfl) (by kernel_rfl) (by kernel_rfl) (fun _ _ _ h => h) (Or.inl ⟨by rfl, ?_⟩) (by assumption) ?_
      rotate_left 1
      · (intro w hSw; (try dsimp only at hSw); go_simp; (try with_reducible rfl))
      (try simp only [Act.put, List.setIfInBounds_toArray, List.set_cons_zero, List.set_cons_succ])
      refine wpAnyH_take (i := 13) (oi := ({ dst := some 47, op := Op.pick (Operand.tmp 42) (Operand.tmp 46) (Operand.const (Value.bool false)), type := 4, pos := "law.go:32", after := #[{ on := 8, ground := Ground.data }, { on := 12, ground := Ground.data }], guard := none } : Oper)) (v := ?_) rfl (by kernel_rfl) (by kernel_rfl) (by kernel_rfl) (fun _ _ _ h => h) (Or.inl ⟨by rfl, ?_⟩) (by assumption) ?_
      rotate_left 1
      · (intro w hSw; (try dsimp only at hSw); go_simp; (try with_reducible rfl))
      (try simp only [Act.put, List.setIfInBounds_toArray, List.set_cons_zero, List.set_cons_succ])
      refine wpAnyH_take (i := 14) (oi := ({ dst := some 48, op := Op.move (Operand.tmp 47), type := 4, pos := "law.go:32", after := #[{ on := 13, ground := Ground.data }, { on := 10, ground := Ground.chain }], guard := none } : Oper)) (v := ?_) rfl (by kernel_rfl) (by kernel_rfl) (by kernel_rfl) (fun _ _ _ h => h) (Or.inl ⟨by rfl, ?_⟩) (by assumption) ?_
      rotate_left 1
      · (intro w hSw; (try dsimp only at hSw); go_simp; (try with_reducible rfl))
      (try simp only [Act.put, List.setIfInBounds_toArray, List.set_cons_zero, List.set_cons_succ])
      refine wpAnyH_take (i := 15) (oi := ({ dst := some 49, op := Op.move (Operand.tmp 0), type := 43, pos := "law.go:32", after := #[{ on := 14, ground := Ground.guard }], guard := some (14, true) } : Oper)) (v := ?_) rfl (by kernel_rfl) (by kernel_rfl) (by kernel_rfl) (fun _ _ _ h => h) (Or.inl ⟨by rfl, ?_⟩) (by assumption) ?_
      rotate_left 1
      · (intro w hSw; (try dsimp only at hSw); go_simp; (try with_reducible rfl))
      (try simp only [Act.put, List.setIfInBounds_toArray, List.set_cons_zero, List.set_cons_succ])
      refine wpAnyH_take (i := 16) (oi := ({ dst := some 50, op := Op.move (Operand.tmp 9), type := 23, pos := "law.go:32", after := #[{ on := 14, ground := Ground.guard }], guard := some (14, true) } : Oper)) (v := ?_) rfl (by kernel_rfl) (by kernel_rfl) (by kernel_rfl) (fun _ _ _ h => h) (Or.inl ⟨by rfl, ?_⟩) (by assumption) ?_
      rotate_left 1
      · (intro w hSw; (try dsimp only at hSw); go_simp; (try with_reducible rfl))
      (try simp only [Act.put, List.setIfInBounds_toArray, List.set_cons_zero, List.set_cons_succ])
      refine wpAnyH_take (i := 18) (oi := ({ dst := some 52, op := Op.move (Operand.tmp 11), type := 22, pos := "law.go:32", after := #[{ on := 14, ground := Ground.guard }], guard := some (14, true) } : Oper)) (v := ?_) rfl (by kernel_rfl) (by kernel_rfl) (by kernel_rfl) (fun _ _ _ h => h) (Or.inl ⟨by rfl, ?_⟩) (by assumption) ?_
      rotate_left 1
      · (intro w hSw; (try dsimp only at hSw); go_simp; (try with_reducible rfl))
      (try simp only [Act.put, List.setIfInBounds_toArray, List.set_cons_zero, List.set_cons_succ])
      refine wpAnyH_ready (rs := [17]) (by kernel_rfl) (by simp) ?_
      refine AllReadyH.cons (o := ({ dst := some 51, op := Op.call { callee := Callee.value (Operand.func 33), args := #[Operand.tmp 49, Operand.tmp 50, Operand.const (Value.int IntKind.i64 5)], argTypes := #[43, 23, 3] }, type := 22, pos := "law.go:32", after := #[{ on := 15, ground := Ground.data }, { on := 16, ground := Ground.data }, { on := 14, ground := Ground.chain }, { on := 14, ground := Ground.guard }], guard := some (14, true) } : Oper)) rfl (fun K hK => ?_) ?_
      rotate_left 1
      · exact AllReadyH.nil
      go_simp
      go_at_call 33
      ((with_reducible refine (HP5.out _ (by assumption)).mono ?_); rintro e w' ⟨v5, rfl, hr5, hs⟩)
      first | (refine hK.out _ _ ?_ (fun hH3 => ?_)) | (go_wp2_with fail; refine hK.out _ _ ?_ (fun hH3 => ?_))
      · (try dsimp only); with_reducible exact hs
      clear hK K hH2
      (try simp only [Act.put, List.setIfInBounds_toArray, List.set_cons_zero, List.set_cons_succ])
      refine wpAnyH_ready (rs := [19]) (by kernel_rfl) (by simp) ?_
      refine AllReadyH.cons (o := ({ dst := some 53, op := Op.call { callee := Callee.value (Operand.func 15), args := #[Operand.tmp 51, Operand.tmp 52], argTypes := #[22, 22] }, type := 4, pos := "law.go:32", after := #[{ on := 17, ground := Ground.data }, { on := 18, ground := Ground.data }, { on := 17, ground := Ground.chain }, { on := 14, ground := Ground.guard }], guard := some (14, true) } : Oper)) rfl (fun K hK => ?_) ?_
      rotate_left 1
      · exact AllReadyH.nil
      go_simp
      go_at_call 15
      ((with_reducible refine (HE5.out _ _ hr5 (by assumption)).mono ?_); rintro e w' ⟨rfl, hs⟩)
      first | (refine hK.out _ _ ?_ (fun hH4 => ?_)) | (go_wp2_with fail; refine hK.out _ _ ?_ (fun hH4 => ?_))
      · (try dsimp only); with_reducible exact hs
      clear hK K hH3
      (try simp only [Act.put, List.setIfInBounds_toArray, List.set_cons_zero, List.set_cons_succ])
      refine wpAnyH_take (i := 20) (oi := ({ dst := some 54, op := Op.pick (Operand.tmp 48) (Operand.tmp 53) (Operand.const (Value.bool false)), type := 4, pos := "law.go:32", after := #[{ on := 14, ground := Ground.data }, { on := 19, ground := Ground.data }], guard := none } : Oper)) (v := ?_) rfl (by kernel_rfl) (by kernel_rfl) (by kernel_rfl) (fun _ _ _ h => h) (Or.inl ⟨by rfl, ?_⟩) (by assumption) ?_
      rotate_left 1
      · (intro w hSw; (try dsimp only at hSw); go_simp; (try with_reducible rfl))
      (try simp only [Act.put, List.setIfInBounds_toArray, List.set_cons_zero, List.set_cons_succ])
      refine wpAnyH_take (i := 21) (oi := ({ dst := some 55, op := Op.move (Operand.tmp 54), type := 4, pos := "law.go:32", after := #[{ on := 20, ground := Ground.data }, { on := 19, ground := Ground.chain }], guard := none } : Oper)) (v := ?_) rfl (by kernel_rfl) (by kernel_rfl) (by kernel_rfl) (fun _ _ _ h => h) (Or.inl ⟨by rfl, ?_⟩) (by assumption) ?_
      rotate_left 1
      · (intro w hSw; (try dsimp only at hSw); go_simp; (try with_reducible rfl))
      (try simp only [Act.put, List.setIfInBounds_toArray, List.set_cons_zero, List.set_cons_succ])
      refine wpAnyH_take (i := 22) (oi := ({ dst := some 56, op := Op.move (Operand.tmp 0), type := 43, pos := "law.go:32", after := #[{ on := 21, ground := Ground.guard }], guard := some (21, true) } : Oper)) (v := ?_) rfl (by kernel_rfl) (by kernel_rfl) (by kernel_rfl) (fun _ _ _ h => h) (Or.inl ⟨by rfl, ?_⟩) (by assumption) ?_
      rotate_left 1
      · (intro w hSw; (try dsimp only at hSw); go_simp; (try with_reducible rfl))
      (try simp only [Act.put, List.setIfInBounds_toArray, List.set_cons_zero, List.set_cons_succ])
      refine wpAnyH_take (i := 23) (oi := ({ dst := some 57, op := Op.move (Operand.tmp 10), type := 3, pos := "law.go:32", after := #[{ on := 21, ground := Ground.guard }], guard := some (21, true) } : Oper)) (v := ?_) rfl (by kernel_rfl) (by kernel_rfl) (by kernel_rfl) (fun _ _ _ h => h) (Or.inl ⟨by rfl, ?_⟩) (by assumption) ?_
      rotate_left 1
      · (intro w hSw; (try dsimp only at hSw); go_simp; (try with_reducible rfl))
      (try simp only [Act.put, List.setIfInBounds_toArray, List.set_cons_zero, List.set_cons_succ])
      refine wpAnyH_take (i := 25) (oi := ({ dst := some 59, op := Op.move (Operand.tmp 1), type := 22, pos := "law.go:32", after := #[{ on := 21, ground := Ground.guard }], guard := some (21, true) } : Oper)) (v := ?_) rfl (by kernel_rfl) (by kernel_rfl) (by kernel_rfl) (fun _ _ _ h => h) (Or.inl ⟨by rfl, ?_⟩) (by assumption) ?_
      rotate_left 1
      · (intro w hSw; (try dsimp only at hSw); go_simp; (try with_reducible rfl))
      (try simp only [Act.put, List.setIfInBounds_toArray, List.set_cons_zero, List.set_cons_succ])
      refine wpAnyH_take (i := 26) (oi := ({ dst := some 60, op := Op.move (Operand.tmp 10), type := 3, pos := "law.go:32", after := #[{ on := 21, ground := Ground.guard }], guard := some (21, true) } : Oper)) (v := ?_) rfl (by kernel_rfl) (by kernel_rfl) (by kernel_rfl) (fun _ _ _ h => h) (Or.inl ⟨by rfl, ?_⟩) (by assumption) ?_
      rotate_left 1
      · (intro w hSw; (try dsimp only at hSw); go_simp; (try with_reducible rfl))
      (try simp only [Act.put, List.setIfInBounds_toArray, List.set_cons_zero, List.set_cons_succ])
      refine wpAnyH_take (i := 27) (oi := ({ dst := some 61, op := Op.binOp BinOp.mul 3 (Operand.const (Value.int IntKind.i64 256)) (Operand.tmp 60) 3, type := 3, pos := "law.go:32", after := #[{ on := 26, ground := Ground.data }, { on := 21, ground := Ground.guard }], guard := some (21, true) } : Oper)) (v := ?_) rfl (by kernel_rfl) (by kernel_rfl) (by kernel_rfl) (fun _ _ _ h => h) (Or.inl ⟨by rfl, ?_⟩) (by assumption) ?_
      rotate_left 1
      · (intro w hSw; (try dsimp only at hSw); go_simp; (try with_reducible rfl))
      (try simp only [Act.put, List.setIfInBounds_toArray, List.set_cons_zero, List.set_cons_succ])
      refine wpAnyH_take (i := 28) (oi := ({ dst := some 62, op := Op.move (Operand.tmp 10), type := 3, pos := "law.go:32", after := #[{ on := 21, ground := Ground.guard }], guard := some (21, true) } : Oper)) (v := ?_) rfl (by kernel_rfl) (by kernel_rfl) (by kernel_rfl) (fun _ _ _ h => h) (Or.inl ⟨by rfl, ?_⟩) (by assumption) ?_
      rotate_left 1
      · (intro w hSw; (try dsimp only at hSw); go_simp; (try with_reducible rfl))
      (try simp only [Act.put, List.setIfInBounds_toArray, List.set_cons_zero, List.set_cons_succ])
      refine wpAnyH_take (i := 29) (oi := ({ dst := some 63, op := Op.binOp BinOp.mul 3 (Operand.const (Value.int IntKind.i64 256)) (Operand.tmp 62) 3, type := 3, pos := "law.go:32", after := #[{ on := 28, ground := Ground.data }, { on := 21, ground := Ground.guard }], guard := some (21, true) } : Oper)) (v := ?_) rfl (by kernel_rfl) (by kernel_rfl) (by kernel_rfl) (fun _ _ _ h => h) (Or.inl ⟨by rfl, ?_⟩) (by assumption) ?_
      rotate_left 1
      · (intro w hSw; (try dsimp only at hSw); go_simp; (try with_reducible rfl))
      (try simp only [Act.put, List.setIfInBounds_toArray, List.set_cons_zero, List.set_cons_succ])
      refine wpAnyH_take (i := 30) (oi := ({ dst := some 64, op := Op.binOp BinOp.add 3 (Operand.tmp 63) (Operand.const (Value.int IntKind.i64 256)) 3, type := 3, pos := "law.go:32", after := #[{ on := 29, ground := Ground.data }, { on := 21, ground := Ground.guard }], guard := some (21, true) } : Oper)) (v := ?_) rfl (by kernel_rfl) (by kernel_rfl) (by kernel_rfl) (fun _ _ _ h => h) (Or.inl ⟨by rfl, ?_⟩) (by assumption) ?_
      rotate_left 1
      · (intro w hSw; (try dsimp only at hSw); go_simp; (try with_reducible rfl))
      (try simp only [Act.put, List.setIfInBounds_toArray, List.set_cons_zero, List.set_cons_succ])
      refine wpAnyH_take (i := 31) (oi := ({ dst := some 65, op := Op.slice 22 (Operand.tmp 59) (some (Operand.tmp 61)) (some (Operand.tmp 64)) none, type := 22, pos := "law.go:32", after := #[{ on := 25, ground := Ground.data }, { on := 27, ground := Ground.data }, { on := 30, ground := Ground.data }, { on := 21, ground := Ground.guard }], guard := some (21, true) } : Oper)) (v := ?_) rfl (by kernel_rfl) (by kernel_rfl) (by kernel_rfl) (fun _ _ _ h => h) (Or.inl ⟨by rfl, ?_⟩) (by assumption) ?_
      rotate_left 1
      · (intro w hSw; (try dsimp only at hSw); go_simp; (try with_reducible rfl))
      (try simp only [Act.put, List.setIfInBounds_toArray, List.set_cons_zero, List.set_cons_succ])
      refine wpAnyH_ready (rs := [24]) (by kernel_rfl) (by simp) ?_
      refine AllReadyH.cons (o := ({ dst := some 58, op := Op.call { callee := Callee.value (Operand.func 47), args := #[Operand.tmp 56, Operand.tmp 57], argTypes := #[43, 3] }, type := 22, pos := "law.go:32", after := #[{ on := 22, ground := Ground.data }, { on := 23, ground := Ground.data }, { on := 21, ground := Ground.chain }, { on := 21, ground := Ground.guard }], guard := some (21, true) } : Oper)) rfl (fun K hK => ?_) ?_
      rotate_left 1
      · exact AllReadyH.nil
      go_simp
      go_at_call 47
      ((with_reducible refine (HPG.out _ (by assumption)).mono ?_); rintro e w' ⟨vp, rfl, hrp, hs⟩)
      first | (refine hK.out _ _ ?_ (fun hH5 => ?_)) | (go_wp2_with fail; refine hK.out _ _ ?_ (fun hH5 => ?_))
      · (try dsimp only); with_reducible exact hs
      clear hK K hH4
      (try simp only [Act.put, List.setIfInBounds_toArray, List.set_cons_zero, List.set_cons_succ])
      refine wpAnyH_ready (rs := [32]) (by kernel_rfl) (by simp) ?_
      refine AllReadyH.cons (o := ({ dst := some 66, op := Op.call { callee := Callee.value (Operand.func 15), args := #[Operand.tmp 58, Operand.tmp 65], argTypes := #[22, 22] }, type := 4, pos := "law.go:32", after := #[{ on := 24, ground := Ground.data }, { on := 31, ground := Ground.data }, { on := 24, ground := Ground.chain }, { on := 21, ground := Ground.guard }], guard := some (21, true) } : Oper)) rfl (fun K hK => ?_) ?_
      rotate_left 1
      · exact AllReadyH.nil
      go_simp
      go_at_call 15
      ((with_reducible refine (HEP.out _ _ _ hrp (by assumption)).mono ?_); rintro e w' ⟨rfl, hs⟩)
      first | (refine hK.out _ _ ?_ (fun hH6 => ?_)) | (go_wp2_with fail; refine hK.out _ _ ?_ (fun hH6 => ?_))
      · (try dsimp only); with_reducible exact hs
      clear hK K hH5
      (try simp only [Act.put, List.setIfInBounds_toArray, List.set_cons_zero, List.set_cons_succ])
      refine wpAnyH_take (i := 33) (oi := ({ dst := some 67, op := Op.pick (Operand.tmp 55) (Operand.tmp 66) (Operand.const (Value.bool false)), type := 4, pos := "law.go:32", after := #[{ on := 21, ground := Ground.data }, { on := 32, ground := Ground.data }], guard := none } : Oper)) (v := ?_) rfl (by kernel_rfl) (by kernel_rfl) (by kernel_rfl) (fun _ _ _ h => h) (Or.inl ⟨by rfl, ?_⟩) (by assumption) ?_
      rotate_left 1
      · (intro w hSw; (try dsimp only at hSw); go_simp; (try with_reducible rfl))
      (try simp only [Act.put, List.setIfInBounds_toArray, List.set_cons_zero, List.set_cons_succ])
      refine wpAnyH_take (i := 34) (oi := ({ dst := some 68, op := Op.move (Operand.tmp 67), type := 4, pos := "law.go:32", after := #[{ on := 33, ground := Ground.data }, { on := 32, ground := Ground.chain }], guard := none } : Oper)) (v := ?_) rfl (by kernel_rfl) (by kernel_rfl) (by kernel_rfl) (fun _ _ _ h => h) (Or.inl ⟨by rfl, ?_⟩) (by assumption) ?_
      rotate_left 1
      · (intro w hSw; (try dsimp only at hSw); go_simp; (try with_reducible rfl))
      (try simp only [Act.put, List.setIfInBounds_toArray, List.set_cons_zero, List.set_cons_succ])
      refine wpAnyH_take (i := 35) (oi := ({ dst := some 69, op := Op.move (Operand.tmp 0), type := 43, pos := "law.go:32", after := #[{ on := 34, ground := Ground.guard }], guard := some (34, true) } : Oper)) (v := ?_) rfl (by kernel_rfl) (by kernel_rfl) (by kernel_rfl) (fun _ _ _ h => h) (Or.inl ⟨by rfl, ?_⟩) (by assumption) ?_
      rotate_left 1
      · (intro w hSw; (try dsimp only at hSw); go_simp; (try with_reducible rfl))
      (try simp only [Act.put, List.setIfInBounds_toArray, List.set_cons_zero, List.set_cons_succ])
      refine wpAnyH_take (i := 36) (oi := ({ dst := some 70, op := Op.move (Operand.tmp 9), type := 23, pos := "law.go:32", after := #[{ on := 34, ground := Ground.guard }], guard := some (34, true) } : Oper)) (v := ?_) rfl (by kernel_rfl) (by kernel_rfl) (by kernel_rfl) (fun _ _ _ h => h) (Or.inl ⟨by rfl, ?_⟩) (by assumption) ?_
      rotate_left 1
      · (intro w hSw; (try dsimp only at hSw); go_simp; (try with_reducible rfl))
      (try simp only [Act.put, List.setIfInBounds_toArray, List.set_cons_zero, List.set_cons_succ])
      refine wpAnyH_ready (rs := [37]) (by kernel_rfl) (by simp) ?_
      refine AllReadyH.cons (o := ({ dst := some 71, op := Op.call { callee := Callee.value (Operand.func 33), args := #[Operand.tmp 69, Operand.tmp 70, Operand.const (Value.int IntKind.i64 (-1))], argTypes := #[43, 23, 3] }, type := 22, pos := "law.go:32", after := #[{ on := 35, ground := Ground.data }, { on := 36, ground := Ground.data }, { on := 34, ground := Ground.chain }, { on := 34, ground := Ground.guard }], guard := some (34, true) } : Oper)) rfl (fun K hK => ?_) ?_
      rotate_left 1
      · exact AllReadyH.nil
      go_simp
      go_at_call 33
      ((with_reducible refine (HPM.out _ (by assumption)).mono ?_); rintro e w' ⟨Am, cm, rfl, hs⟩)
      first | (refine hK.out _ _ ?_ (fun hH7 => ?_)) | (go_wp2_with fail; refine hK.out _ _ ?_ (fun hH7 => ?_))
      · (try dsimp only); with_reducible exact hs
      clear hK K hH6
      (try simp only [Act.put, List.setIfInBounds_toArray, List.set_cons_zero, List.set_cons_succ])
      refine wpAnyH_take (i := 38) (oi := ({ dst := some 72, op := Op.call { callee := Callee.builtin Builtin.len, args := #[Operand.tmp 71], argTypes := #[22] }, type := 3, pos := "law.go:32", after := #[{ on := 37, ground := Ground.data }, { on := 34, ground := Ground.guard }], guard := some (34, true) } : Oper)) (v := ?_) rfl (by kernel_rfl) (by kernel_rfl) (by kernel_rfl) (fun _ _ _ h => h) (Or.inl ⟨by rfl, ?_⟩) (by assumption) ?_
      rotate_left 1
      · (intro w hSw; (try dsimp only at hSw); go_simp; (try with_reducible rfl))
      (try simp only [Act.put, List.setIfInBounds_toArray, List.set_cons_zero, List.set_cons_succ])
      refine wpAnyH_take (i := 39) (oi := ({ dst := some 73, op := Op.binOp BinOp.eql 3 (Operand.tmp 72) (Operand.const (Value.int IntKind.i64 0)) 3, type := 4, pos := "law.go:32", after := #[{ on := 38, ground := Ground.data }, { on := 34, ground := Ground.guard }], guard := some (34, true) } : Oper)) (v := ?_) rfl (by kernel_rfl) (by kernel_rfl) (by kernel_rfl) (fun _ _ _ h => h) (Or.inl ⟨by rfl, ?_⟩) (by assumption) ?_
      rotate_left 1
      · (intro w hSw; (try dsimp only at hSw); go_simp; (try with_reducible rfl))
      (try simp only [Act.put, List.setIfInBounds_toArray, List.set_cons_zero, List.set_cons_succ])
      refine wpAnyH_take (i := 40) (oi := ({ dst := some 74, op := Op.pick (Operand.tmp 68) (Operand.tmp 73) (Operand.const (Value.bool false)), type := 4, pos := "law.go:32", after := #[{ on := 34, ground := Ground.data }, { on := 39, ground := Ground.data }], guard := none } : Oper)) (v := ?_) rfl (by kernel_rfl) (by kernel_rfl) (by kernel_rfl) (fun _ _ _ h => h) (Or.inl ⟨by rfl, ?_⟩) (by assumption) ?_
      rotate_left 1
      · (intro w hSw; (try dsimp only at hSw); go_simp; (try with_reducible rfl))
      (try simp only [Act.put, List.setIfInBounds_toArray, List.set_cons_zero, List.set_cons_succ])
      refine wpAnyH_take (i := 41) (oi := ({ dst := some 75, op := Op.move (Operand.tmp 74), type := 4, pos := "law.go:32", after := #[{ on := 40, ground := Ground.data }, { on := 37, ground := Ground.chain }], guard := none } : Oper)) (v := ?_) rfl (by kernel_rfl) (by kernel_rfl) (by kernel_rfl) (fun _ _ _ h => h) (Or.inl ⟨by rfl, ?_⟩) (by assumption) ?_
      rotate_left 1
      · (intro w hSw; (try dsimp only at hSw); go_simp; (try with_reducible rfl))
      (try simp only [Act.put, List.setIfInBounds_toArray, List.set_cons_zero, List.set_cons_succ])
      refine wpAnyH_take (i := 42) (oi := ({ dst := some 76, op := Op.move (Operand.tmp 0), type := 43, pos := "law.go:32", after := #[{ on := 41, ground := Ground.guard }], guard := some (41, true) } : Oper)) (v := ?_) rfl (by kernel_rfl) (by kernel_rfl) (by kernel_rfl) (fun _ _ _ h => h) (Or.inl ⟨by rfl, ?_⟩) (by assumption) ?_
      rotate_left 1
      · (intro w hSw; (try dsimp only at hSw); go_simp; (try with_reducible rfl))
      (try simp only [Act.put, List.setIfInBounds_toArray, List.set_cons_zero, List.set_cons_succ])
      refine wpAnyH_ready (rs := [43]) (by kernel_rfl) (by simp) ?_
      refine AllReadyH.cons (o := ({ dst := some 77, op := Op.call { callee := Callee.value (Operand.func 47), args := #[Operand.tmp 76, Operand.const (Value.int IntKind.i64 (-1))], argTypes := #[43, 3] }, type := 22, pos := "law.go:32", after := #[{ on := 42, ground := Ground.data }, { on := 41, ground := Ground.chain }, { on := 41, ground := Ground.guard }], guard := some (41, true) } : Oper)) rfl (fun K hK => ?_) ?_
      rotate_left 1
      · exact AllReadyH.nil
      go_simp
      go_at_call 47
      ((with_reducible refine (HPN.out _ _ (by omega) (by assumption)).mono ?_); rintro e w' ⟨rfl, hs⟩)
      first | (refine hK.out _ _ ?_ (fun hH8 => ?_)) | (go_wp2_with fail; refine hK.out _ _ ?_ (fun hH8 => ?_))
      · (try dsimp only); with_reducible exact hs
      clear hK K hH7
      (try simp only [Act.put, List.setIfInBounds_toArray, List.set_cons_zero, List.set_cons_succ])
      refine wpAnyH_take (i := 44) (oi := ({ dst := some 78, op := Op.call { callee := Callee.builtin Builtin.len, args := #[Operand.tmp 77], argTypes := #[22] }, type := 3, pos := "law.go:32", after := #[{ on := 43, ground := Ground.data }, { on := 41, ground := Ground.guard }], guard := some (41, true) } : Oper)) (v := ?_) rfl (by kernel_rfl) (by kernel_rfl) (by kernel_rfl) (fun _ _ _ h => h) (Or.inl ⟨by rfl, ?_⟩) (by assumption) ?_
      rotate_left 1
      · (intro w hSw; (try dsimp only at hSw); go_simp; (try with_reducible rfl))
      (try simp only [Act.put, List.setIfInBounds_toArray, List.set_cons_zero, List.set_cons_succ])
      refine wpAnyH_take (i := 45) (oi := ({ dst := some 79, op := Op.binOp BinOp.eql 3 (Operand.tmp 78) (Operand.const (Value.int IntKind.i64 0)) 3, type := 4, pos := "law.go:32", after := #[{ on := 44, ground := Ground.data }, { on := 41, ground := Ground.guard }], guard := some (41, true) } : Oper)) (v := ?_) rfl (by kernel_rfl) (by kernel_rfl) (by kernel_rfl) (fun _ _ _ h => h) (Or.inl ⟨by rfl, ?_⟩) (by assumption) ?_
      rotate_left 1
      · (intro w hSw; (try dsimp only at hSw); go_simp; (try with_reducible rfl))
      (try simp only [Act.put, List.setIfInBounds_toArray, List.set_cons_zero, List.set_cons_succ])
      refine wpAnyH_take (i := 46) (oi := ({ dst := some 80, op := Op.pick (Operand.tmp 75) (Operand.tmp 79) (Operand.const (Value.bool false)), type := 4, pos := "law.go:32", after := #[{ on := 41, ground := Ground.data }, { on := 45, ground := Ground.data }], guard := none } : Oper)) (v := ?_) rfl (by kernel_rfl) (by kernel_rfl) (by kernel_rfl) (fun _ _ _ h => h) (Or.inl ⟨by rfl, ?_⟩) (by assumption) ?_
      rotate_left 1
      · (intro w hSw; (try dsimp only at hSw); go_simp; (try with_reducible rfl))
      (try simp only [Act.put, List.setIfInBounds_toArray, List.set_cons_zero, List.set_cons_succ])
      refine wpAnyH_take (i := 47) (oi := ({ dst := some 81, op := Op.move (Operand.tmp 80), type := 4, pos := "law.go:32", after := #[{ on := 46, ground := Ground.data }, { on := 43, ground := Ground.chain }], guard := none } : Oper)) (v := ?_) rfl (by kernel_rfl) (by kernel_rfl) (by kernel_rfl) (fun _ _ _ h => h) (Or.inl ⟨by rfl, ?_⟩) (by assumption) ?_
      rotate_left 1
      · (intro w hSw; (try dsimp only at hSw); go_simp; (try with_reducible rfl))
      (try simp only [Act.put, List.setIfInBounds_toArray, List.set_cons_zero, List.set_cons_succ])
      refine wpAnyH_take (i := 48) (oi := ({ dst := some 82, op := Op.move (Operand.tmp 0), type := 43, pos := "law.go:32", after := #[{ on := 47, ground := Ground.guard }], guard := some (47, true) } : Oper)) (v := ?_) rfl (by kernel_rfl) (by kernel_rfl) (by kernel_rfl) (fun _ _ _ h => h) (Or.inl ⟨by rfl, ?_⟩) (by assumption) ?_
      rotate_left 1
      · (intro w hSw; (try dsimp only at hSw); go_simp; (try with_reducible rfl))
      (try simp only [Act.put, List.setIfInBounds_toArray, List.set_cons_zero, List.set_cons_succ])
      refine wpAnyH_ready (rs := [49]) (by kernel_rfl) (by simp) ?_
      refine AllReadyH.cons (o := ({ dst := some 83, op := Op.call { callee := Callee.value (Operand.func 47), args := #[Operand.tmp 82, Operand.const (Value.int IntKind.i64 256)], argTypes := #[43, 3] }, type := 22, pos := "law.go:32", after := #[{ on := 48, ground := Ground.data }, { on := 47, ground := Ground.chain }, { on := 47, ground := Ground.guard }], guard := some (47, true) } : Oper)) rfl (fun K hK => ?_) ?_
      rotate_left 1
      · exact AllReadyH.nil
      go_simp
      go_at_call 47
      ((with_reducible refine (HPN.out _ _ (by omega) (by assumption)).mono ?_); rintro e w' ⟨rfl, hs⟩)
      first | (refine hK.out _ _ ?_ (fun hH9 => ?_)) | (go_wp2_with fail; refine hK.out _ _ ?_ (fun hH9 => ?_))
      · (try dsimp only); with_reducible exact hs
      clear hK K hH8
      (try simp only [Act.put, List.setIfInBounds_toArray, List.set_cons_zero, List.set_cons_succ])
      refine wpAnyH_take (i := 50) (oi := ({ dst := some 84, op := Op.call { callee := Callee.builtin Builtin.len, args := #[Operand.tmp 83], argTypes := #[22] }, type := 3, pos := "law.go:32", after := #[{ on := 49, ground := Ground.data }, { on := 47, ground := Ground.guard }], guard := some (47, true) } : Oper)) (v := ?_) rfl (by kernel_rfl) (by kernel_rfl) (by kernel_rfl) (fun _ _ _ h => h) (Or.inl ⟨by rfl, ?_⟩) (by assumption) ?_
      rotate_left 1
      · (intro w hSw; (try dsimp only at hSw); go_simp; (try with_reducible rfl))
      (try simp only [Act.put, List.setIfInBounds_toArray, List.set_cons_zero, List.set_cons_succ])
      refine wpAnyH_take (i := 51) (oi := ({ dst := some 85, op := Op.binOp BinOp.eql 3 (Operand.tmp 84) (Operand.const (Value.int IntKind.i64 0)) 3, type := 4, pos := "law.go:32", after := #[{ on := 50, ground := Ground.data }, { on := 47, ground := Ground.guard }], guard := some (47, true) } : Oper)) (v := ?_) rfl (by kernel_rfl) (by kernel_rfl) (by kernel_rfl) (fun _ _ _ h => h) (Or.inl ⟨by rfl, ?_⟩) (by assumption) ?_
      rotate_left 1
      · (intro w hSw; (try dsimp only at hSw); go_simp; (try with_reducible rfl))
      (try simp only [Act.put, List.setIfInBounds_toArray, List.set_cons_zero, List.set_cons_succ])
      refine wpAnyH_take (i := 52) (oi := ({ dst := some 86, op := Op.pick (Operand.tmp 81) (Operand.tmp 85) (Operand.const (Value.bool false)), type := 4, pos := "law.go:32", after := #[{ on := 47, ground := Ground.data }, { on := 51, ground := Ground.data }], guard := none } : Oper)) (v := ?_) rfl (by kernel_rfl) (by kernel_rfl) (by kernel_rfl) (fun _ _ _ h => h) (Or.inl ⟨by rfl, ?_⟩) (by assumption) ?_
      rotate_left 1
      · (intro w hSw; (try dsimp only at hSw); go_simp; (try with_reducible rfl))
      (try simp only [Act.put, List.setIfInBounds_toArray, List.set_cons_zero, List.set_cons_succ])
      refine wpAnyH_take (i := 53) (oi := ({ dst := some 8, op := Op.assign (Operand.tmp 86), type := 4, pos := "law.go:32", after := #[{ on := 52, ground := Ground.data }, { on := 49, ground := Ground.chain }, { on := 0, ground := Ground.phase }, { on := 1, ground := Ground.phase }, { on := 2, ground := Ground.phase }, { on := 3, ground := Ground.phase }, { on := 4, ground := Ground.phase }, { on := 5, ground := Ground.phase }, { on := 6, ground := Ground.phase }, { on := 7, ground := Ground.phase }, { on := 8, ground := Ground.phase }, { on := 9, ground := Ground.phase }, { on := 10, ground := Ground.phase }, { on := 11, ground := Ground.phase }, { on := 12, ground := Ground.phase }, { on := 13, ground := Ground.phase }, { on := 14, ground := Ground.phase }, { on := 15, ground := Ground.phase }, { on := 16, ground := Ground.phase }, { on := 17, ground := Ground.phase }, { on := 18, ground := Ground.phase }, { on := 19, ground := Ground.phase }, { on := 20, ground := Ground.phase }, { on := 21, ground := Ground.phase }, { on := 22, ground := Ground.phase }, { on := 23, ground := Ground.phase }, { on := 24, ground := Ground.phase }, { on := 25, ground := Ground.phase }, { on := 26, ground := Ground.phase }, { on := 27, ground := Ground.phase }, { on := 28, ground := Ground.phase }, { on := 29, ground := Ground.phase }, { on := 30, ground := Ground.phase }, { on := 31, ground := Ground.phase }, { on := 32, ground := Ground.phase }, { on := 33, ground := Ground.phase }, { on := 34, ground := Ground.phase }, { on := 35, ground := Ground.phase }, { on := 36, ground := Ground.phase }, { on := 37, ground := Ground.phase }, { on := 38, ground := Ground.phase }, { on := 39, ground := Ground.phase }, { on := 40, ground := Ground.phase }, { on := 41, ground := Ground.phase }, { on := 42, ground := Ground.phase }, { on := 43, ground := Ground.phase }, { on := 44, ground := Ground.phase }, { on := 45, ground := Ground.phase }, { on := 46, ground := Ground.phase }, { on := 47, ground := Ground.phase }, { on := 48, ground := Ground.phase }, { on := 49, ground := Ground.phase }, { on := 50, ground := Ground.phase }, { on := 51, ground := Ground.phase }, { on := 52, ground := Ground.phase }], guard := none } : Oper)) (v := ?_) rfl (by kernel_rfl) (by kernel_rfl) (by kernel_rfl) (fun _ _ _ h => h) (Or.inl ⟨by rfl, ?_⟩) (by assumption) ?_
      rotate_left 1
      · (intro w hSw; (try dsimp only at hSw); go_simp; (try with_reducible rfl))
      (try simp only [Act.put, List.setIfInBounds_toArray, List.set_cons_zero, List.set_cons_succ])
      refine wpAnyH_done (by kernel_rfl) ?_ _
      refine NoPanic.normal ?_
      have HFI : Hid (Below w.heap.size w w') := Lib.hid (Below.trans HWX.out (Below.mono hs.2 HWX.out.size))
      clear hs c1 kw1 kw2 kt1 kt2 kp0 kp1 kp2 a0 a1 HST S0 HRD HRM HP5 HPM HPG HPN HE5 HEP hr5 hrp
      go_wp2
      go_ret
      exact ⟨rfl, HFI.out⟩
end Go.Proofs.Ytnhafficnomlbaa
