/- The contract of the document's rows of layer 13. -/
import Derived.Test.YtnhafficnomlbabDoorOpsX
namespace Go.Proofs.YtnhafficnomlbabDoor
open Go.ChangeShapes Go.WideShapes Go.ChangeAt Go.RowKit
set_option linter.unusedVariables false
set_option maxRecDepth 100000 in
set_option maxHeartbeats 4000000 in
theorem rows_any (w : World) : Calls Tryd.prog 38 #[] w fun e w' => ∃ v, e = .returned v ∧ eW.Own 69 w' w.heap.size v (l8 15) ∧ Below w.heap.size w w' := by
  have P0 : Hid (Blk (w.alloc (Obj.cells (csS eightL) 9)) w.heap.size 9 (csS eightL)) := Lib.hid (Blk.new _ _ _ (0, 0))
  have O0 : Hid (eW.Own 69 (w.alloc (Obj.cells (csS eightL) 9)) w.heap.size (.slice none 0 0) (l1 0)) := Lib.hid (Els.Own.nil_ _ _)
  have B0 := Lib.hid (Below.alloc0 (Below.refl w.heap.size w) (Obj.cells (csS eightL) 9))
  obtain ⟨G, hG⟩ : ∃ G, w.heap.size = G := ⟨_, rfl⟩
  go_enter Tryd.func38, Tryd.ntmps38
  go_wp2
  have HG := Lib.hid hG
  clear hG
  go_loopw [1, 3] (fun v i wr => ∃ k : Nat, k ≤ 11 ∧ i = .int .i64 k ∧ Hid (eW.Own 69 wr w.heap.size v (l1 k)) ∧ Hid (Blk wr G 9 (csS eightL) ∧ v.ownBlock ≠ some G) ∧ Hid (Below w.heap.size w wr)) (fun _ i _ => 11 - (intOf i).toNat)
  case atStart => exact ⟨0, Nat.zero_le _, rfl, O0, Lib.hid ⟨by rw [← HG.out]; exact P0.out, by intro e; cases e⟩, B0⟩
  case round =>
    obtain ⟨k, hk, rfl, hO, hP, hB⟩ := hrel
    by_cases hlt : k < 11
    · have c1 := (hP.out.1.cell k).trans (csS_at eightL k hlt)
      have k0 : (0 : Int) ≤ (k : Int) := by omega
      have k11 : (k : Int) < 11 := by omega
      have CW := Lib.hid (with_any u1 (l1 k) (eightL.getD k []) (2 + (k : Int)) [65, 66] w.heap.size wr hO.out hB.out.size (by have := l1_len ⟨k, by omega⟩; simp only at this; omega) (eight_short ⟨k, hlt⟩) (by decide))
      have HN := Lib.hid (l1_next k)
      generalize byteStr (eightL.getD k []) = S at *
      go_wp2_with fail
      refine CW.out.mono ?_
      rintro e w2 ⟨v2, rfl, ho, hg⟩
      have O2 : Hid (eW.Own 69 w2 w.heap.size v2 (l1 (k + 1))) := Lib.hid (by rw [HN.out]; exact ho)
      have P2 := Lib.hid (hg.blk hP.out.1 hP.out.2)
      have B2 := Lib.hid (hB.out.trans (own_grw hO.out hB.out.size hg))
      clear ho hg CW
      go_wp2
      go_roundw
      case rel => exact ⟨k + 1, by omega, by go_num, O2, P2, B2⟩
      case measure => simp [intOf] <;> omega
    · obtain rfl : k = 11 := by omega
      have O1 : Hid (eW.Own 69 (wr.alloc (Obj.cells (csS chgL) 9)) w.heap.size u1 (l2 0)) := Lib.hid (by
        have e : l2 0 = l1 11 := by simp [l2]
        rw [e]; exact Els.Own.alloc hO.out _)
      have P1 : Hid (Blk (wr.alloc (Obj.cells (csS chgL) 9)) wr.heap.size 9 (csS chgL) ∧ u1.ownBlock ≠ some wr.heap.size) := Lib.hid ⟨Blk.new _ _ _ (0, 0), own_ne hO.out⟩
      have B1 := Lib.hid (hB.out.alloc hB.out.size (Obj.cells (csS chgL) 9))
      obtain ⟨H, hH⟩ : ∃ H, wr.heap.size = H := ⟨_, rfl⟩
      rw [hH] at P1
      have hO := ()
      have hP := ()
      have hB := ()
      clear hO hP hB
      go_wp2
      clear hH
      go_loopw [1, 5] (fun v i wr => ∃ k : Nat, k ≤ 11 ∧ i = .int .i64 k ∧ Hid (eW.Own 69 wr w.heap.size v (l2 k)) ∧ Hid (Blk wr H 9 (csS chgL) ∧ v.ownBlock ≠ some H) ∧ Hid (Below w.heap.size w wr)) (fun _ i _ => 11 - (intOf i).toNat)
      case atStart => exact ⟨0, Nat.zero_le _, rfl, O1, P1, B1⟩
      case round =>
        obtain ⟨k, hk, rfl, hO, hP, hB⟩ := hrel
        by_cases hlt : k < 11
        · have c1 := (hP.out.1.cell k).trans (csS_at chgL k hlt)
          have k0 : (0 : Int) ≤ (k : Int) := by omega
          have k11 : (k : Int) < 11 := by omega
          have kw : IntKind.i64.wrap (13 + (k : Int)) = 13 + (k : Int) := IntWalk.i64_in _ (by omega)
          have hlen := l2_len ⟨k, by omega⟩
          simp only at hlen
          have HLn := Lib.hid hlen
          have CW := Lib.hid (fun v2 (w2 : World) (ho : eW.Own 69 w2 w.heap.size v2 (l2 k ++ [(chgL.getD k [], 13 + (k : Int), 0)])) (hb : w.heap.size ≤ w2.heap.size) => with_any v2 _ (chgL.getD k []) (13 + (k : Int)) [65, 66] w.heap.size w2 ho hb (by rw [List.length_append]; simp; omega) (chg_short ⟨k, hlt⟩) (by decide))
          have HN : Hid (l2 (k + 1) = l2 k ++ [(chgL.getD k [], 13 + (k : Int), 0)] ++ withW (chgL.getD k []) (13 + (k : Int)) [65, 66] 10) := Lib.hid (by rw [l2_next]; simp [m2])
          have HRd : Hid (∀ w0 : World, eW.Rd (w0.alloc (.cells #[.string (byteStr (chgL.getD k [])), .int .i64 (13 + (k : Int)), .int .i64 0] 69)) (.slice (some ⟨w0.heap.size, 0, none⟩) 1 1) [(chgL.getD k [], 13 + (k : Int), 0)]) := Lib.hid (fun w0 => rdW_lit1 _ _ _ _ _)
          obtain ⟨S, hS⟩ : ∃ S, byteStr (chgL.getD k []) = S := ⟨_, rfl⟩
          rw [hS] at CW HRd c1
          have S0 : Hid ((fun w' => w'.cell? ⟨H, k, none⟩ = some (.string S)) wr.drew) := Lib.hid c1
          have S1 : Hid ((fun w' => w'.cell? ⟨H, k, none⟩ = some (.string S)) (wr.alloc (.cells #[.string S, .int .i64 (13 + (k : Int)), .int .i64 0] 69)).drew) := Lib.hid (((hP.out.1.alloc _).cell k).trans ((hP.out.1.cell k).symm.trans c1))
          have S1b : Hid ((fun w' => w'.cell? ⟨H, k, none⟩ = some (.string S)) (wr.drew.alloc (.cells #[.string S, .int .i64 (13 + (k : Int)), .int .i64 0] 69))) := Lib.hid S1.out
          clear hS hlen
          go_wp2
          refine wp_region_noPanic ?_
          refine wp_region_held_drew (S := (fun w' => w'.cell? ⟨H, k, none⟩ = some (.string S))) (by kernel_rfl) ?_ (fun hH0 => ?_)
          · (try dsimp only); with_reducible exact S0.out
          refine wpAnyH_take (i := 0) (oi := ({ dst := some 31, op := Op.move (Operand.tmp 1), type := 66, pos := "ref.go:34", after := #[], guard := none } : Oper)) (v := ?_) rfl (by kernel_rfl) (by kernel_rfl) (by kernel_rfl) (fun _ _ _ h => h) (Or.inl ⟨by rfl, ?_⟩) (by assumption) ?_
          rotate_left 1
          · (intro w hSw; (try dsimp only at hSw); go_simp; (try with_reducible rfl))
          (try simp only [Act.put, List.setIfInBounds_toArray, List.set_cons_zero, List.set_cons_succ])
          refine wpAnyH_take (i := 1) (oi := ({ dst := some 32, op := Op.move (Operand.tmp 4), type := 52, pos := "ref.go:34", after := #[], guard := none } : Oper)) (v := ?_) rfl (by kernel_rfl) (by kernel_rfl) (by kernel_rfl) (fun _ _ _ h => h) (Or.inl ⟨by rfl, ?_⟩) (by assumption) ?_
          rotate_left 1
          · (intro w hSw; (try dsimp only at hSw); go_simp; (try with_reducible rfl))
          (try simp only [Act.put, List.setIfInBounds_toArray, List.set_cons_zero, List.set_cons_succ])
          refine wpAnyH_take (i := 2) (oi := ({ dst := some 33, op := Op.move (Operand.tmp 5), type := 3, pos := "ref.go:34", after := #[], guard := none } : Oper)) (v := ?_) rfl (by kernel_rfl) (by kernel_rfl) (by kernel_rfl) (fun _ _ _ h => h) (Or.inl ⟨by rfl, ?_⟩) (by assumption) ?_
          rotate_left 1
          · (intro w hSw; (try dsimp only at hSw); go_simp; (try with_reducible rfl))
          (try simp only [Act.put, List.setIfInBounds_toArray, List.set_cons_zero, List.set_cons_succ])
          refine wpAnyH_take (i := 3) (oi := ({ dst := some 34, op := Op.indexAddr 52 (Operand.tmp 32) (Operand.tmp 33), type := 0, pos := "ref.go:34", after := #[{ on := 1, ground := Ground.data }, { on := 2, ground := Ground.data }], guard := none } : Oper)) (v := ?_) rfl (by kernel_rfl) (by kernel_rfl) (by kernel_rfl) (fun _ _ _ h => h) (Or.inl ⟨by rfl, ?_⟩) (by assumption) ?_
          rotate_left 1
          · (intro w hSw; (try dsimp only at hSw); go_simp; (try with_reducible rfl))
          (try simp only [Act.put, List.setIfInBounds_toArray, List.set_cons_zero, List.set_cons_succ])
          refine wpAnyH_take (i := 4) (oi := ({ dst := some 35, op := Op.load 9 (Operand.tmp 34), type := 9, pos := "ref.go:34", after := #[{ on := 3, ground := Ground.data }], guard := none } : Oper)) (v := ?_) rfl (by kernel_rfl) (by kernel_rfl) (by kernel_rfl) (fun _ _ _ h => h) (Or.inl ⟨by rfl, ?_⟩) (by assumption) ?_
          rotate_left 1
          · (intro w hSw; (try dsimp only at hSw); go_simp; (try with_reducible rfl))
          (try simp only [Act.put, List.setIfInBounds_toArray, List.set_cons_zero, List.set_cons_succ])
          refine wpAnyH_take (i := 5) (oi := ({ dst := some 36, op := Op.move (Operand.tmp 5), type := 3, pos := "ref.go:34", after := #[], guard := none } : Oper)) (v := ?_) rfl (by kernel_rfl) (by kernel_rfl) (by kernel_rfl) (fun _ _ _ h => h) (Or.inl ⟨by rfl, ?_⟩) (by assumption) ?_
          rotate_left 1
          · (intro w hSw; (try dsimp only at hSw); go_simp; (try with_reducible rfl))
          (try simp only [Act.put, List.setIfInBounds_toArray, List.set_cons_zero, List.set_cons_succ])
          refine wpAnyH_take (i := 6) (oi := ({ dst := some 37, op := Op.binOp BinOp.add 3 (Operand.const (Value.int IntKind.i64 13)) (Operand.tmp 36) 3, type := 3, pos := "ref.go:34", after := #[{ on := 5, ground := Ground.data }], guard := none } : Oper)) (v := ?_) rfl (by kernel_rfl) (by kernel_rfl) (by kernel_rfl) (fun _ _ _ h => h) (Or.inl ⟨by rfl, ?_⟩) (by assumption) ?_
          rotate_left 1
          · (intro w hSw; (try dsimp only at hSw); go_simp; (try with_reducible rfl))
          (try simp only [Act.put, List.setIfInBounds_toArray, List.set_cons_zero, List.set_cons_succ])
          refine wpAnyH_take (i := 7) (oi := ({ dst := some 38, op := Op.build 69 #[(0, Operand.tmp 35), (1, Operand.tmp 37), (2, Operand.const (Value.int IntKind.i64 0))], type := 69, pos := "ref.go:34", after := #[{ on := 4, ground := Ground.data }, { on := 6, ground := Ground.data }], guard := none } : Oper)) (v := ?_) rfl (by kernel_rfl) (by kernel_rfl) (by kernel_rfl) (fun _ _ _ h => h) (Or.inl ⟨by rfl, ?_⟩) (by assumption) ?_
          rotate_left 1
          · (intro w hSw; (try dsimp only at hSw); go_simp; (try with_reducible rfl))
          (try simp only [Act.put, List.setIfInBounds_toArray, List.set_cons_zero, List.set_cons_succ])
          refine wpAnyH_take (i := 10) (oi := ({ dst := some 41, op := Op.move (Operand.tmp 4), type := 52, pos := "ref.go:34", after := #[], guard := none } : Oper)) (v := ?_) rfl (by kernel_rfl) (by kernel_rfl) (by kernel_rfl) (fun _ _ _ h => h) (Or.inl ⟨by rfl, ?_⟩) (by assumption) ?_
          rotate_left 1
          · (intro w hSw; (try dsimp only at hSw); go_simp; (try with_reducible rfl))
          (try simp only [Act.put, List.setIfInBounds_toArray, List.set_cons_zero, List.set_cons_succ])
          refine wpAnyH_take (i := 11) (oi := ({ dst := some 42, op := Op.move (Operand.tmp 5), type := 3, pos := "ref.go:34", after := #[], guard := none } : Oper)) (v := ?_) rfl (by kernel_rfl) (by kernel_rfl) (by kernel_rfl) (fun _ _ _ h => h) (Or.inl ⟨by rfl, ?_⟩) (by assumption) ?_
          rotate_left 1
          · (intro w hSw; (try dsimp only at hSw); go_simp; (try with_reducible rfl))
          (try simp only [Act.put, List.setIfInBounds_toArray, List.set_cons_zero, List.set_cons_succ])
          refine wpAnyH_take (i := 12) (oi := ({ dst := some 43, op := Op.indexAddr 52 (Operand.tmp 41) (Operand.tmp 42), type := 0, pos := "ref.go:34", after := #[{ on := 10, ground := Ground.data }, { on := 11, ground := Ground.data }], guard := none } : Oper)) (v := ?_) rfl (by kernel_rfl) (by kernel_rfl) (by kernel_rfl) (fun _ _ _ h => h) (Or.inl ⟨by rfl, ?_⟩) (by assumption) ?_
          rotate_left 1
          · (intro w hSw; (try dsimp only at hSw); go_simp; (try with_reducible rfl))
          (try simp only [Act.put, List.setIfInBounds_toArray, List.set_cons_zero, List.set_cons_succ])
          refine wpAnyH_take (i := 13) (oi := ({ dst := some 44, op := Op.load 9 (Operand.tmp 43), type := 9, pos := "ref.go:34", after := #[{ on := 12, ground := Ground.data }], guard := none } : Oper)) (v := ?_) rfl (by kernel_rfl) (by kernel_rfl) (by kernel_rfl) (fun _ _ _ h => h) (Or.inl ⟨by rfl, ?_⟩) (by assumption) ?_
          rotate_left 1
          · (intro w hSw; (try dsimp only at hSw); go_simp; (try with_reducible rfl))
          (try simp only [Act.put, List.setIfInBounds_toArray, List.set_cons_zero, List.set_cons_succ])
          refine wpAnyH_take (i := 14) (oi := ({ dst := some 45, op := Op.move (Operand.tmp 5), type := 3, pos := "ref.go:34", after := #[], guard := none } : Oper)) (v := ?_) rfl (by kernel_rfl) (by kernel_rfl) (by kernel_rfl) (fun _ _ _ h => h) (Or.inl ⟨by rfl, ?_⟩) (by assumption) ?_
          rotate_left 1
          · (intro w hSw; (try dsimp only at hSw); go_simp; (try with_reducible rfl))
          (try simp only [Act.put, List.setIfInBounds_toArray, List.set_cons_zero, List.set_cons_succ])
          refine wpAnyH_take (i := 15) (oi := ({ dst := some 46, op := Op.binOp BinOp.add 3 (Operand.const (Value.int IntKind.i64 13)) (Operand.tmp 45) 3, type := 3, pos := "ref.go:34", after := #[{ on := 14, ground := Ground.data }], guard := none } : Oper)) (v := ?_) rfl (by kernel_rfl) (by kernel_rfl) (by kernel_rfl) (fun _ _ _ h => h) (Or.inl ⟨by rfl, ?_⟩) (by assumption) ?_
          rotate_left 1
          · (intro w hSw; (try dsimp only at hSw); go_simp; (try with_reducible rfl))
          (try simp only [Act.put, List.setIfInBounds_toArray, List.set_cons_zero, List.set_cons_succ])
          refine wpAnyH_ready (rs := [8]) (by kernel_rfl) (by simp) ?_
          refine AllReadyH.cons (o := ({ dst := some 39, op := Op.buildSlice 66 1 #[(0, Operand.tmp 38)], type := 66, pos := "ref.go:34", after := #[{ on := 7, ground := Ground.data }], guard := none } : Oper)) rfl (fun K hK => ?_) ?_
          rotate_left 1
          · exact AllReadyH.nil
          go_simp
          first | (refine hK.out _ _ ?_ (fun hH1 => ?_)) | (go_wp2_with fail; refine hK.out _ _ ?_ (fun hH1 => ?_))
          · (try dsimp only); with_reducible first | exact S1.out | exact S1b.out
          clear hK K hH0
          (try simp only [Act.put, List.setIfInBounds_toArray, List.set_cons_zero, List.set_cons_succ])
          refine wpAnyH_ready (rs := [9]) (by kernel_rfl) (by simp) ?_
          refine AllReadyH.cons (o := ({ dst := some 40, op := Op.call { callee := Callee.builtin Builtin.append, args := #[Operand.tmp 31, Operand.tmp 39], argTypes := #[66, 66] }, type := 66, pos := "ref.go:34", after := #[{ on := 0, ground := Ground.data }, { on := 8, ground := Ground.data }], guard := none } : Oper)) rfl (fun K hK => ?_) ?_
          rotate_left 1
          · exact AllReadyH.nil
          (refine step_appW rfl _ (.tmp 31) (.tmp 39) rfl w.heap.size _ _ (l2 k) [(chgL.getD k [], 13 + (k : Int), 0)] rfl (Els.Own.drew (Els.Own.alloc hO.out _)) rfl (HRd.out _) (by have := HLn.out; simp; omega) (by have := hB.out.size; simp; omega) ?_; intro v2 w2 ho2 hg2; have G2 := Lib.hid (((Grw.drewN wr 1 u1).trans (Grw.alloc _ _ u1)).trans hg2); have O2 := Lib.hid ho2; have P2 := Lib.hid (G2.out.blk hP.out.1 hP.out.2); have S2 := Lib.hid (show (fun w' => w'.cell? ⟨H, k, none⟩ = some (.string S)) w2 from (P2.out.1.cell k).trans ((hP.out.1.cell k).symm.trans c1)); have Z2 := Lib.hid (Nat.le_trans hB.out.size G2.out.1.size); clear ho2 hg2)
          first | (refine hK.out _ _ ?_ (fun hH2 => ?_)) | (go_wp2_with fail; refine hK.out _ _ ?_ (fun hH2 => ?_))
          · (try dsimp only); with_reducible exact S2.out
          clear hK K hH1
          (try simp only [Act.put, List.setIfInBounds_toArray, List.set_cons_zero, List.set_cons_succ])
          refine wpAnyH_ready (rs := [16]) (by kernel_rfl) (by simp) ?_
          refine AllReadyH.cons (o := ({ dst := some 47, op := Op.call { callee := Callee.value (Operand.func 51), args := #[Operand.tmp 40, Operand.tmp 44, Operand.tmp 46, Operand.const (Value.string { data := #[65, 66] })], argTypes := #[66, 9, 3, 9] }, type := 66, pos := "ref.go:34", after := #[{ on := 9, ground := Ground.data }, { on := 13, ground := Ground.data }, { on := 15, ground := Ground.data }, { on := 9, ground := Ground.chain }], guard := none } : Oper)) rfl (fun K hK => ?_) ?_
          rotate_left 1
          · exact AllReadyH.nil
          go_simp
          go_at_call 51
          ((refine (CW.out _ _ O2.out Z2.out).mono ?_); rintro e w3 ⟨v3, rfl, ho3, hg3⟩; have O3 : Hid (eW.Own 69 w3 w.heap.size v3 (l2 (k + 1))) := Lib.hid (by rw [HN.out]; exact ho3); have P3 := Lib.hid (hg3.blk P2.out.1 P2.out.2); have S3 := Lib.hid (show (fun w' => w'.cell? ⟨H, k, none⟩ = some (.string S)) w3 from (P3.out.1.cell k).trans ((hP.out.1.cell k).symm.trans c1)); have B3 := Lib.hid (hB.out.trans (own_grw hO.out hB.out.size (G2.out.trans hg3))); clear ho3 hg3)
          first | (refine hK.out _ _ ?_ (fun hH3 => ?_)) | (go_wp2_with fail; refine hK.out _ _ ?_ (fun hH3 => ?_))
          · (try dsimp only); with_reducible exact S3.out
          clear hK K hH2
          (try simp only [Act.put, List.setIfInBounds_toArray, List.set_cons_zero, List.set_cons_succ])
          refine wpAnyH_take (i := 17) (oi := ({ dst := some 1, op := Op.assign (Operand.tmp 47), type := 66, pos := "ref.go:34", after := #[{ on := 16, ground := Ground.data }, { on := 16, ground := Ground.chain }, { on := 0, ground := Ground.phase }, { on := 1, ground := Ground.phase }, { on := 2, ground := Ground.phase }, { on := 3, ground := Ground.phase }, { on := 4, ground := Ground.phase }, { on := 5, ground := Ground.phase }, { on := 6, ground := Ground.phase }, { on := 7, ground := Ground.phase }, { on := 8, ground := Ground.phase }, { on := 9, ground := Ground.phase }, { on := 10, ground := Ground.phase }, { on := 11, ground := Ground.phase }, { on := 12, ground := Ground.phase }, { on := 13, ground := Ground.phase }, { on := 14, ground := Ground.phase }, { on := 15, ground := Ground.phase }, { on := 16, ground := Ground.phase }], guard := none } : Oper)) (v := ?_) rfl (by kernel_rfl) (by kernel_rfl) (by kernel_rfl) (fun _ _ _ h => h) (Or.inl ⟨by rfl, ?_⟩) (by assumption) ?_
          rotate_left 1
          · (intro w hSw; (try dsimp only at hSw); go_simp; (try with_reducible rfl))
          (try simp only [Act.put, List.setIfInBounds_toArray, List.set_cons_zero, List.set_cons_succ])
          refine wpAnyH_done (by kernel_rfl) ?_ _
          refine NoPanic.normal ?_
          go_wp2
          go_roundw
          case rel => first | exact ⟨k + 1, by omega, by omega, O3⟩ | exact ⟨k + 1, by omega, by go_num, O3, P3, B3⟩
          case measure => simp [intOf] <;> omega
        · obtain rfl : k = 11 := by omega
          have L3 := Lib.hid l3_len
          have hle11 : (l2 11).length ≤ 1000 := l2_len ⟨11, by decide⟩
          have LE11 := Lib.hid hle11
          clear hle11
          have CW1 := Lib.hid (with_any u1 (l2 11) [76, 68] 24 [68, 88, 89, 85, 83] w.heap.size _ hO.out hB.out.size (by have := LE11.out; omega) (by decide) (by decide))
          go_wp2_with fail
          refine CW1.out.mono ?_
          rintro e y1 ⟨v1, rfl, ho, hg⟩
          have Q1 : Hid (eW.Own 69 y1 w.heap.size v1 l3a) := Lib.hid ho
          have E1 := Lib.hid (hB.out.trans (own_grw hO.out hB.out.size hg))
          clear ho hg CW1
          have CW2 := Lib.hid (with_any v1 l3a [83, 84] 25 [68, 88, 89, 85, 83] w.heap.size _ Q1.out E1.out.size (by have := L3.out.1; omega) (by decide) (by decide))
          go_wp2_with fail
          refine CW2.out.mono ?_
          rintro e y2 ⟨v2, rfl, ho, hg⟩
          have Q2 : Hid (eW.Own 69 y2 w.heap.size v2 l3b) := Lib.hid ho
          have E2 := Lib.hid (E1.out.trans (own_grw Q1.out E1.out.size hg))
          clear ho hg CW2
          have CW3 := Lib.hid (with_any v2 l3b [67, 77, 80] 28 [68, 88, 89, 85, 83] w.heap.size _ Q2.out E2.out.size (by have := L3.out.2.1; omega) (by decide) (by decide))
          go_wp2_with fail
          refine CW3.out.mono ?_
          rintro e y3 ⟨v3, rfl, ho, hg⟩
          have Q3 : Hid (eW.Own 69 y3 w.heap.size v3 l3) := Lib.hid ho
          have E3 := Lib.hid (E2.out.trans (own_grw Q2.out E2.out.size hg))
          clear ho hg CW3
          go_wp2_with (at_builtin; refine wpList_appW rfl _ (.tmp 52) (.tmp 55) rfl w.heap.size _ _ l3 [([65, 68, 68, 68], 26, 0), ([83, 85, 66, 68], 27, 0)] rfl (Els.Own.alloc Q3.out _) rfl (rdW_lit2 _ _) (by have := L3.out.2.2.1; simp; omega) (by have := E3.out.size; simp; omega) ?_; intro v4 y4 ho4 hg4; have Q4 : Hid (eW.Own 69 y4 w.heap.size v4 l4) := Lib.hid ho4; have E4 := Lib.hid (E3.out.trans (own_grw Q3.out E3.out.size ((Grw.alloc _ _ _).trans hg4))); clear ho4 hg4)
          have CW5 := Lib.hid (with_any v4 l4 [76, 69, 65] 29 [88, 89, 85, 83] w.heap.size _ Q4.out E4.out.size (by have := L3.out.2.2.2.1; omega) (by decide) (by decide))
          refine CW5.out.mono ?_
          rintro e y5 ⟨v5, rfl, ho, hg⟩
          have Q5 : Hid (eW.Own 69 y5 w.heap.size v5 l5a) := Lib.hid ho
          have E5 := Lib.hid (E4.out.trans (own_grw Q4.out E4.out.size hg))
          clear ho hg CW5
          have CW6 := Lib.hid (with_any v5 l5a [80, 83, 72] 30 [85, 83] w.heap.size _ Q5.out E5.out.size (by have := L3.out.2.2.2.2.1; omega) (by decide) (by decide))
          go_wp2_with fail
          refine CW6.out.mono ?_
          rintro e y6 ⟨v6, rfl, ho, hg⟩
          have Q6 : Hid (eW.Own 69 y6 w.heap.size v6 l5b) := Lib.hid ho
          have E6 := Lib.hid (E5.out.trans (own_grw Q5.out E5.out.size hg))
          clear ho hg CW6
          have CW7 := Lib.hid (with_any v6 l5b [80, 85, 76] 31 [85, 83] w.heap.size _ Q6.out E6.out.size (by have := L3.out.2.2.2.2.2.1; omega) (by decide) (by decide))
          go_wp2_with fail
          refine CW7.out.mono ?_
          rintro e y7 ⟨v7, rfl, ho, hg⟩
          have Q7 : Hid (eW.Own 69 y7 w.heap.size v7 l5) := Lib.hid ho
          have E7 := Lib.hid (E6.out.trans (own_grw Q6.out E6.out.size hg))
          clear ho hg CW7
          have Q70 : Hid (eW.Own 69 y7 w.heap.size v7 (l6 0)) := Lib.hid (by
            have e : l6 0 = l5 := by simp [l6]
            rw [e]; exact Q7.out)
          clear hO hP hB O1 P1 B1 Q1 Q2 Q3 Q4 Q5 Q6 Q7 E1 E2 E3 E4 E5 E6
          go_wp2
          go_loopw [1, 6] (fun v i wr => ∃ k : Nat, k ≤ 16 ∧ i = .int .i64 k ∧ Hid (eW.Own 69 wr w.heap.size v (l6 k)) ∧ Hid (Below w.heap.size w wr)) (fun _ i _ => 16 - (intOf i).toNat)
          case atStart => exact ⟨0, Nat.zero_le _, rfl, Q70, E7⟩
          case round =>
            obtain ⟨k, hk, rfl, hO, hB⟩ := hrel
            by_cases hlt : k < 16
            · have k0 : (0 : Int) ≤ (k : Int) := by omega
              have k16 : (k : Int) < 16 := by omega
              have CR := Lib.hid (fun u => refCnd_any k hlt u)
              have hlen := l6_len ⟨k, by omega⟩
              simp only at hlen
              have HLn := Lib.hid hlen
              have hcs : (byteStr (cndNames.getD k [])).size ≤ 100 := by
                have : ∀ k : Fin 16, (byteStr (cndNames.getD k.val [])).size ≤ 100 := by decide +kernel
                exact this ⟨k, hlt⟩
              have HN := Lib.hid (l6_next k)
              have HA1 : Hid ((⟨#[66]⟩ : ByteArray) ++ byteStr (cndNames.getD k []) = byteStr ([66] ++ cndNames.getD k [])) := Lib.hid (byteStr_app [66] _)
              have HA2 : Hid ((⟨#[76, 66]⟩ : ByteArray) ++ byteStr (cndNames.getD k []) = byteStr ([76, 66] ++ cndNames.getD k [])) := Lib.hid (byteStr_app [76, 66] _)
              have hs1 : (⟨#[66]⟩ : ByteArray).size = 1 := rfl
              have hs2 : (⟨#[76, 66]⟩ : ByteArray).size = 2 := rfl
              have hu1 : ¬ (9223372036854775807 < (⟨#[66]⟩ : ByteArray).size + (byteStr (cndNames.getD k [])).size) := by rw [hs1]; omega
              have hu2 : ¬ (9223372036854775807 < (⟨#[76, 66]⟩ : ByteArray).size + (byteStr (cndNames.getD k [])).size) := by rw [hs2]; omega
              unfold m6 at HN
              obtain ⟨T1, hT1⟩ : ∃ T, [66] ++ cndNames.getD k [] = T := ⟨_, rfl⟩
              obtain ⟨T2, hT2⟩ : ∃ T, [76, 66] ++ cndNames.getD k [] = T := ⟨_, rfl⟩
              rw [hT1] at HA1 HN
              rw [hT2] at HA2 HN
              generalize byteStr (cndNames.getD k []) = S at *
              have ha1 := HA1.out
              have ha2 := HA2.out
              clear hT1 hT2 hlen hcs hs1 hs2
              by_cases hk0 : 0 < k
              · rw [if_pos hk0] at HN
                have k00 : (0 : Int) < (k : Int) := by omega
                go_wp2_with fail
                refine (CR.out _).mono ?_
                rintro e y1 ⟨rfl, hb⟩
                have B1 := Lib.hid (hB.out.trans (hb.mono hB.out.size))
                have O1 := Lib.hid (Els.Own.below hO.out hb)
                clear hb
                go_wp2_with (at_builtin; refine wpList_appW rfl _ (.tmp 65) (.tmp 71) rfl w.heap.size _ _ (l6 k) [(T1, 34, (k : Int))] rfl (Els.Own.alloc O1.out _) rfl (rdW_lit1 _ _ _ _ _) (by have := HLn.out; simp; omega) (by have := B1.out.size; simp; omega) ?_; intro v2 y2 ho hg; have O2 := Lib.hid ho; have B2 := Lib.hid (B1.out.trans (own_grw O1.out B1.out.size ((Grw.alloc _ _ _).trans hg))); clear ho hg)
                refine (CR.out _).mono ?_
                rintro e y3 ⟨rfl, hb⟩
                have B3 := Lib.hid (B2.out.trans (hb.mono B2.out.size))
                have O3 := Lib.hid (Els.Own.below O2.out hb)
                clear hb
                go_wp2_with (at_builtin; refine wpList_appW rfl _ (.tmp 75) (.tmp 81) rfl w.heap.size _ _ _ [(T2, 35, (k : Int))] rfl (Els.Own.alloc O3.out _) rfl (rdW_lit1 _ _ _ _ _) (by have := HLn.out; simp; omega) (by have := B3.out.size; simp; omega) ?_; intro v4 y4 ho hg; have O4 : Hid (eW.Own 69 y4 w.heap.size v4 (l6 (k + 1))) := Lib.hid (by rw [HN.out]; simpa using ho); have B4 := Lib.hid (B3.out.trans (own_grw O3.out B3.out.size ((Grw.alloc _ _ _).trans hg))); clear ho hg)
                go_roundw
                case rel => first | exact ⟨k + 1, by omega, by omega, O4⟩ | exact ⟨k + 1, by omega, by go_num, O4, B4⟩
                case measure => simp [intOf] <;> omega
              · obtain rfl : k = 0 := by omega
                rw [if_neg hk0] at HN
                go_wp2_with fail
                refine (CR.out _).mono ?_
                rintro e y1 ⟨rfl, hb⟩
                have B1 := Lib.hid (hB.out.trans (hb.mono hB.out.size))
                have O1 := Lib.hid (Els.Own.below hO.out hb)
                clear hb
                go_wp2_with (at_builtin; refine wpList_appW rfl _ (.tmp 65) (.tmp 71) rfl w.heap.size _ _ (l6 0) [(T1, 34, 0)] rfl (Els.Own.alloc O1.out _) rfl (rdW_lit1 _ _ _ _ _) (by have := HLn.out; simp; omega) (by have := B1.out.size; simp; omega) ?_; intro v2 y2 ho hg; have O2 : Hid (eW.Own 69 y2 w.heap.size v2 (l6 (0 + 1))) := Lib.hid (by rw [HN.out]; exact ho); have B2 := Lib.hid (B1.out.trans (own_grw O1.out B1.out.size ((Grw.alloc _ _ _).trans hg))); clear ho hg)
                go_roundw
                case rel => first | exact ⟨0 + 1, by omega, by omega, O2⟩ | exact ⟨0 + 1, by omega, by go_num, O2, B2⟩
                case measure => simp [intOf] <;> omega
            · obtain rfl : k = 16 := by omega
              have hlen := l6_len ⟨16, by decide⟩
              simp only at hlen
              have HLn := Lib.hid hlen
              clear hlen
              go_wp2_with (first
                | (at_builtin; refine wpList_appW rfl _ (.tmp 83) (.tmp 90) rfl w.heap.size _ _ (l6 16) [([83, 87, 73], 51, 1), ([83, 87, 73, 50], 51, 2), ([83, 87, 73, 51], 51, 3), ([65, 66, 88], 1, 0), ([74, 77, 80], 32, 0), ([74, 83, 82], 33, 0)] rfl (Els.Own.alloc hO.out _) rfl (rdW_lit6 _ _) (by have := HLn.out; simp; omega) (by have := hB.out.size; simp; omega) ?_; intro v2 y2 ho hg; have O2 : Hid (eW.Own 69 y2 w.heap.size v2 l7) := Lib.hid ho; have B2 := Lib.hid (hB.out.trans (own_grw hO.out hB.out.size ((Grw.alloc _ _ _).trans hg))); clear ho hg)
                | fail)
              have P3 : Hid (Blk (y2.alloc (Obj.cells (csS aloneL) 9)) y2.heap.size 9 (csS aloneL) ∧ v2.ownBlock ≠ some y2.heap.size) := Lib.hid ⟨Blk.new _ _ _ (0, 0), own_ne O2.out⟩
              have O3 : Hid (eW.Own 69 (y2.alloc (Obj.cells (csS aloneL) 9)) w.heap.size v2 (l8 0)) := Lib.hid (by
                have e : l8 0 = l7 := by simp [l8]
                rw [e]; exact Els.Own.alloc O2.out _)
              have B3 := Lib.hid (B2.out.alloc B2.out.size (Obj.cells (csS aloneL) 9))
              obtain ⟨J, hJ⟩ : ∃ J, y2.heap.size = J := ⟨_, rfl⟩
              rw [hJ] at P3 ⊢
              clear hJ hO hB O2 B2 Q70 E7
              go_loopw [1, 8] (fun v i wr => ∃ k : Nat, k ≤ 15 ∧ i = .int .i64 k ∧ Hid (eW.Own 69 wr w.heap.size v (l8 k)) ∧ Hid (Blk wr J 9 (csS aloneL) ∧ v.ownBlock ≠ some J) ∧ Hid (Below w.heap.size w wr)) (fun _ i _ => 15 - (intOf i).toNat)
              case atStart => exact ⟨0, Nat.zero_le _, rfl, O3, P3, B3⟩
              case round =>
                obtain ⟨k, hk, rfl, hO, hP, hB⟩ := hrel
                by_cases hlt : k < 15
                · have c1 := (hP.out.1.cell k).trans (csS_at aloneL k hlt)
                  have k0 : (0 : Int) ≤ (k : Int) := by omega
                  have k15 : (k : Int) < 15 := by omega
                  have hlen := l8_len ⟨k, by omega⟩
                  simp only at hlen
                  have HLn := Lib.hid hlen
                  have HN := Lib.hid (l8_next k)
                  have HRd : Hid (∀ w0 : World, eW.Rd (w0.alloc (.cells #[.string (byteStr (aloneL.getD k [])), .int .i64 (36 + (k : Int)), .int .i64 0] 69)) (.slice (some ⟨w0.heap.size, 0, none⟩) 1 1) [(aloneL.getD k [], 36 + (k : Int), 0)]) := Lib.hid (fun w0 => rdW_lit1 _ _ _ _ _)
                  generalize byteStr (aloneL.getD k []) = S at *
                  clear hlen
                  go_wp2_with (at_builtin; refine wpList_appW rfl _ (.tmp 99) (.tmp 107) rfl w.heap.size _ _ (l8 k) [(aloneL.getD k [], 36 + (k : Int), 0)] rfl (Els.Own.alloc hO.out _) rfl (HRd.out _) (by have := HLn.out; simp; omega) (by have := hB.out.size; simp; omega) ?_; intro v2 y2 ho hg; have G2 := Lib.hid ((Grw.alloc _ _ _).trans hg); have O2 : Hid (eW.Own 69 y2 w.heap.size v2 (l8 (k + 1))) := Lib.hid (by rw [HN.out]; exact ho); have P2 := Lib.hid (G2.out.blk hP.out.1 hP.out.2); have B2 := Lib.hid (hB.out.trans (own_grw hO.out hB.out.size G2.out)); clear ho hg)
                  go_roundw
                  case rel => first | exact ⟨k + 1, by omega, by omega, O2⟩ | exact ⟨k + 1, by omega, by go_num, O2, P2, B2⟩
                  case measure => simp [intOf] <;> omega
                · obtain rfl : k = 15 := by omega
                  go_wp2
                  go_ret
                  exact ⟨_, rfl, hO.out, hB.out⟩
end Go.Proofs.YtnhafficnomlbabDoor
