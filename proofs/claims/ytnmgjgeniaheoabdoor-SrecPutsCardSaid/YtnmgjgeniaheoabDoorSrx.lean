/- Contract of package srec's Text. -/
import Derived.Test.YtnmgjgeniaheoabDoorSrc
import Derived.Test.YtnmgjgeniaheoabDoorDigPairs
import Derived.Deep.RegionHeld3
import Derived.Deep.CutBlock
namespace Go.Proofs.YtnmgjgeniaheoabDoor
open Go.ChangeShapes Go.WideShapes Go.ChangeAt Go.RowKit
set_option linter.unusedVariables false

theorem ownY_lit3 (w : World) (t : TypeId) (a b c : Int) (base : Nat) (hb : base ≤ w.heap.size) : eY.Own t (w.alloc (.cells #[.int .u8 a, .int .u8 b, .int .u8 c] t)) base (.slice (some ⟨w.heap.size, 0, none⟩) 3 3) [a, b, c] :=
  ⟨rfl, Or.inr ⟨w.heap.size, 3, #[.int .u8 a, .int .u8 b, .int .u8 c], rfl, hb, Blk.new w t _ _, Nat.le_refl _, by unfold maxLen; omega, rfl, rfl⟩⟩
set_option maxRecDepth 100000 in
set_option maxHeartbeats 4000000 in
theorem srText_any (k a : Int) (hk : k = 0 ∨ k = 1 ∨ k = 9) (ha : 0 ≤ a ∧ a < 65536) (A : Option Addr) (n c : Nat) (b : List Int) (w : World) (hR : eY.Rd w (.slice A n c) b) (hn : b.length = n) (hb : Byt b) (hl : n ≤ 252) (h9 : k = 9 → n = 0) :
    Calls Tryd.prog 30 #[.agg #[.int .i64 k, .int .u16 a, .slice A n c]] w fun e w' => e = .returned (.string (strOfNums (lnX k a b))) ∧ Below w.heap.size w w' := by
  have hrt : rightB k n = true := by
    unfold rightB
    rcases hk with rfl | rfl | rfl
    · rw [decide_eq_true hl]; rfl
    · rw [decide_eq_true hl]; rfl
    · rw [decide_eq_true (h9 rfl)]; simp
  have CR := Lib.hid (fun u => srRight_any k a A n c u)
  rw [hrt] at CR
  have CH := Lib.hid (fun u => high_any a u ha.1 ha.2)
  have CLo := Lib.hid (fun u => low_any a u ha.1 ha.2)
  have HRD := Lib.hid hR
  have HN := Lib.hid hn
  have HBY := Lib.hid hb
  have CD := Lib.hid (fun u => dec_any k u (by omega) (by omega))
  rw [dec1 k hk] at CD
  have ZL := Lib.hid (Blk.new w 83 #[.int .i64 k, .int .u16 a, .slice A n c] (0, 0))
  have B1 := Lib.hid (Below.alloc0 (Below.refl w.heap.size w) (.cells #[.int .i64 k, .int .u16 a, .slice A n c] 83))
  clear hR hn hb hrt
  go_enter Tryd.func30, Tryd.ntmps30
  go_wp2_with fail
  refine (CR.out _).mono ?_
  rintro e w1 ⟨rfl, hb⟩
  have Z1 := Lib.hid (Blk.below ZL.out hb (by simp))
  have B2 := Lib.hid (Below.trans0 B1.out hb)
  have R1 := Lib.hid ((HRD.out.alloc (.cells #[.int .i64 k, .int .u16 a, .slice A n c] 83)).below hb)
  clear hb CR B1 ZL
  have c0 := Z1.out.c3.1
  have c1 := Z1.out.c3.2.1
  have c2 := Z1.out.c3.2.2
  have hw3 : IntKind.u8.wrap ((n : Int) + 3) = (n : Int) + 3 := by rw [IntKind.wrap_u8]; omega
  have hwi : IntKind.i64.wrap ((n : Int) + 3) = (n : Int) + 3 := IntWalk.i64_in _ (by omega)
  have S0 : Hid ((fun w' : World => (w'.cell? ⟨w.heap.size, 0, none⟩ = some (.int .i64 k) ∧ w'.cell? ⟨w.heap.size, 1, none⟩ = some (.int .u16 a) ∧ w'.cell? ⟨w.heap.size, 2, none⟩ = some (.slice A n c))) w1.drew) := Lib.hid ⟨c0, c1, c2⟩
  have hlt : w.heap.size < w1.heap.size := Z1.out.lt
  have S1 : Hid (∀ o, (fun w' : World => (w'.cell? ⟨w.heap.size, 0, none⟩ = some (.int .i64 k) ∧ w'.cell? ⟨w.heap.size, 1, none⟩ = some (.int .u16 a) ∧ w'.cell? ⟨w.heap.size, 2, none⟩ = some (.slice A n c))) ((w1.alloc o).drew)) := Lib.hid (fun o => Blk.c3 (Blk.alloc Z1.out o))
  go_upto_region 3 with (fail)
  refine once ?_
  apply Exists.intro
  apply Exists.intro
  apply And.intro
  · refine wp_region_noPanic ?_
    refine wp_region_held_drew (S := (fun w' : World => (w'.cell? ⟨w.heap.size, 0, none⟩ = some (.int .i64 k) ∧ w'.cell? ⟨w.heap.size, 1, none⟩ = some (.int .u16 a) ∧ w'.cell? ⟨w.heap.size, 2, none⟩ = some (.slice A n c)))) (by kernel_rfl) ?_ (fun hH0 => ?_)
    · (try dsimp only); with_reducible exact S0.out
    refine wpAnyH_take (i := 0) (oi := ({ dst := some 7, op := Op.fieldAddr 83 (Operand.tmp 1) 2, type := 0, pos := "srec.go:49", after := #[], guard := none } : Oper)) (v := ?_) rfl (by kernel_rfl) (by kernel_rfl) (by kernel_rfl) (fun _ _ _ h => h) (Or.inl ⟨by rfl, ?_⟩) (by assumption) ?_
    rotate_left 1
    · (intro w hSw; (try dsimp only at hSw); go_simp; (try with_reducible rfl))
    (try simp only [Act.put, List.setIfInBounds_toArray, List.set_cons_zero, List.set_cons_succ])
    refine wpAnyH_take (i := 1) (oi := ({ dst := some 8, op := Op.load 25 (Operand.tmp 7), type := 25, pos := "srec.go:49", after := #[{ on := 0, ground := Ground.data }], guard := none } : Oper)) (v := ?_) rfl (by kernel_rfl) (by kernel_rfl) (by kernel_rfl) (fun _ _ _ h => h) (Or.inl ⟨by rfl, ?_⟩) (by assumption) ?_
    rotate_left 1
    · (intro w hSw; (try dsimp only at hSw); go_simp; (try with_reducible rfl))
    (try simp only [Act.put, List.setIfInBounds_toArray, List.set_cons_zero, List.set_cons_succ])
    refine wpAnyH_take (i := 2) (oi := ({ dst := some 9, op := Op.call { callee := Callee.builtin Builtin.len, args := #[Operand.tmp 8], argTypes := #[25] }, type := 3, pos := "srec.go:49", after := #[{ on := 1, ground := Ground.data }], guard := none } : Oper)) (v := ?_) rfl (by kernel_rfl) (by kernel_rfl) (by kernel_rfl) (fun _ _ _ h => h) (Or.inl ⟨by rfl, ?_⟩) (by assumption) ?_
    rotate_left 1
    · (intro w hSw; (try dsimp only at hSw); go_simp; (try with_reducible rfl))
    (try simp only [Act.put, List.setIfInBounds_toArray, List.set_cons_zero, List.set_cons_succ])
    refine wpAnyH_take (i := 3) (oi := ({ dst := some 10, op := Op.binOp BinOp.add 3 (Operand.tmp 9) (Operand.const (Value.int IntKind.i64 3)) 3, type := 3, pos := "srec.go:49", after := #[{ on := 2, ground := Ground.data }], guard := none } : Oper)) (v := ?_) rfl (by kernel_rfl) (by kernel_rfl) (by kernel_rfl) (fun _ _ _ h => h) (Or.inl ⟨by rfl, ?_⟩) (by assumption) ?_
    rotate_left 1
    · (intro w hSw; (try dsimp only at hSw); go_simp; (try with_reducible rfl))
    (try simp only [Act.put, List.setIfInBounds_toArray, List.set_cons_zero, List.set_cons_succ])
    refine wpAnyH_take (i := 4) (oi := ({ dst := some 11, op := Op.convert 3 5 (Operand.tmp 10), type := 5, pos := "srec.go:49", after := #[{ on := 3, ground := Ground.data }], guard := none } : Oper)) (v := ?_) rfl (by kernel_rfl) (by kernel_rfl) (by kernel_rfl) (fun _ _ _ h => h) (Or.inl ⟨by rfl, ?_⟩) (by assumption) ?_
    rotate_left 1
    · (intro w hSw; (try dsimp only at hSw); go_simp; (try with_reducible rfl))
    (try simp only [Act.put, List.setIfInBounds_toArray, List.set_cons_zero, List.set_cons_succ])
    refine wpAnyH_take (i := 5) (oi := ({ dst := some 12, op := Op.fieldAddr 83 (Operand.tmp 1) 1, type := 0, pos := "srec.go:49", after := #[], guard := none } : Oper)) (v := ?_) rfl (by kernel_rfl) (by kernel_rfl) (by kernel_rfl) (fun _ _ _ h => h) (Or.inl ⟨by rfl, ?_⟩) (by assumption) ?_
    rotate_left 1
    · (intro w hSw; (try dsimp only at hSw); go_simp; (try with_reducible rfl))
    (try simp only [Act.put, List.setIfInBounds_toArray, List.set_cons_zero, List.set_cons_succ])
    refine wpAnyH_take (i := 6) (oi := ({ dst := some 13, op := Op.load 22 (Operand.tmp 12), type := 22, pos := "srec.go:49", after := #[{ on := 5, ground := Ground.data }], guard := none } : Oper)) (v := ?_) rfl (by kernel_rfl) (by kernel_rfl) (by kernel_rfl) (fun _ _ _ h => h) (Or.inl ⟨by rfl, ?_⟩) (by assumption) ?_
    rotate_left 1
    · (intro w hSw; (try dsimp only at hSw); go_simp; (try with_reducible rfl))
    (try simp only [Act.put, List.setIfInBounds_toArray, List.set_cons_zero, List.set_cons_succ])
    refine wpAnyH_take (i := 8) (oi := ({ dst := some 15, op := Op.fieldAddr 83 (Operand.tmp 1) 1, type := 0, pos := "srec.go:49", after := #[], guard := none } : Oper)) (v := ?_) rfl (by kernel_rfl) (by kernel_rfl) (by kernel_rfl) (fun _ _ _ h => h) (Or.inl ⟨by rfl, ?_⟩) (by assumption) ?_
    rotate_left 1
    · (intro w hSw; (try dsimp only at hSw); go_simp; (try with_reducible rfl))
    (try simp only [Act.put, List.setIfInBounds_toArray, List.set_cons_zero, List.set_cons_succ])
    refine wpAnyH_take (i := 9) (oi := ({ dst := some 16, op := Op.load 22 (Operand.tmp 15), type := 22, pos := "srec.go:49", after := #[{ on := 8, ground := Ground.data }], guard := none } : Oper)) (v := ?_) rfl (by kernel_rfl) (by kernel_rfl) (by kernel_rfl) (fun _ _ _ h => h) (Or.inl ⟨by rfl, ?_⟩) (by assumption) ?_
    rotate_left 1
    · (intro w hSw; (try dsimp only at hSw); go_simp; (try with_reducible rfl))
    (try simp only [Act.put, List.setIfInBounds_toArray, List.set_cons_zero, List.set_cons_succ])
    refine wpAnyH_ready (rs := [7]) (by kernel_rfl) (by simp) ?_
    refine AllReadyH.cons (o := ({ dst := some 14, op := Op.call { callee := Callee.value (Operand.func 50), args := #[Operand.tmp 13], argTypes := #[22] }, type := 5, pos := "srec.go:49", after := #[{ on := 6, ground := Ground.data }], guard := none } : Oper)) rfl (fun K hK => ?_) ?_
    rotate_left 1
    · exact AllReadyH.nil
    go_simp
    go_at_call 50
    ((with_reducible refine (CH.out _).mono ?_); rintro e v1 ⟨rfl, rfl⟩)
    first | (refine hK.out _ _ ?_ (fun hH1 => ?_)) | (go_wp2_with fail; refine hK.out _ _ ?_ (fun hH1 => ?_))
    · (try dsimp only); with_reducible first | exact S0.out | exact S1.out _
    clear hK K hH0
    (try simp only [Act.put, List.setIfInBounds_toArray, List.set_cons_zero, List.set_cons_succ])
    refine wpAnyH_ready (rs := [10]) (by kernel_rfl) (by simp) ?_
    refine AllReadyH.cons (o := ({ dst := some 17, op := Op.call { callee := Callee.value (Operand.func 51), args := #[Operand.tmp 16], argTypes := #[22] }, type := 5, pos := "srec.go:49", after := #[{ on := 9, ground := Ground.data }, { on := 7, ground := Ground.chain }], guard := none } : Oper)) rfl (fun K hK => ?_) ?_
    rotate_left 1
    · exact AllReadyH.nil
    go_simp
    go_at_call 51
    ((with_reducible refine (CLo.out _).mono ?_); rintro e v1 ⟨rfl, rfl⟩)
    first | (refine hK.out _ _ ?_ (fun hH2 => ?_)) | (go_wp2_with fail; refine hK.out _ _ ?_ (fun hH2 => ?_))
    · (try dsimp only); with_reducible first | exact S0.out | exact S1.out _
    clear hK K hH1
    (try simp only [Act.put, List.setIfInBounds_toArray, List.set_cons_zero, List.set_cons_succ])
    refine wpAnyH_ready (rs := [11]) (by kernel_rfl) (by simp) ?_
    refine AllReadyH.cons (o := ({ dst := some 18, op := Op.buildSlice 25 3 #[(0, Operand.tmp 11), (1, Operand.tmp 14), (2, Operand.tmp 17)], type := 25, pos := "srec.go:49", after := #[{ on := 4, ground := Ground.data }, { on := 7, ground := Ground.data }, { on := 10, ground := Ground.data }], guard := none } : Oper)) rfl (fun K hK => ?_) ?_
    rotate_left 1
    · exact AllReadyH.nil
    go_simp
    first | (refine hK.out _ _ ?_ (fun hH3 => ?_)) | (go_wp2_with fail; refine hK.out _ _ ?_ (fun hH3 => ?_))
    · (try dsimp only); with_reducible first | exact S0.out | exact S1.out _
    clear hK K hH2
    (try simp only [Act.put, List.setIfInBounds_toArray, List.set_cons_zero, List.set_cons_succ])
    refine wpAnyH_take (i := 12) (oi := ({ dst := some 3, op := Op.assign (Operand.tmp 18), type := 25, pos := "srec.go:49", after := #[{ on := 11, ground := Ground.data }, { on := 10, ground := Ground.chain }, { on := 0, ground := Ground.phase }, { on := 1, ground := Ground.phase }, { on := 2, ground := Ground.phase }, { on := 3, ground := Ground.phase }, { on := 4, ground := Ground.phase }, { on := 5, ground := Ground.phase }, { on := 6, ground := Ground.phase }, { on := 7, ground := Ground.phase }, { on := 8, ground := Ground.phase }, { on := 9, ground := Ground.phase }, { on := 10, ground := Ground.phase }, { on := 11, ground := Ground.phase }], guard := none } : Oper)) (v := ?_) rfl (by kernel_rfl) (by kernel_rfl) (by kernel_rfl) (fun _ _ _ h => h) (Or.inl ⟨by rfl, ?_⟩) (by assumption) ?_
    rotate_left 1
    · (intro w hSw; (try dsimp only at hSw); go_simp; (try with_reducible rfl))
    (try simp only [Act.put, List.setIfInBounds_toArray, List.set_cons_zero, List.set_cons_succ])
    refine wpAnyH_done (by kernel_rfl) ?_ _
    refine NoPanic.normal ?_
    exact ⟨rfl, rfl, rfl⟩
  have O3 := Lib.hid (ownY_lit3 w1 5 ((n : Int) + 3) (a / 256) (a % 256) w1.heap.size (Nat.le_refl _)).drew
  have Z3 := Lib.hid (Blk.drew (Blk.alloc Z1.out (.cells #[.int .u8 ((n : Int) + 3), .int .u8 (a / 256), .int .u8 (a % 256)] 5)))
  have B3 := Lib.hid (Below.drew0 (Below.alloc0 B2.out (.cells #[.int .u8 ((n : Int) + 3), .int .u8 (a / 256), .int .u8 (a % 256)] 5)))
  have R3 := Lib.hid ((R1.out.alloc (.cells #[.int .u8 ((n : Int) + 3), .int .u8 (a / 256), .int .u8 (a % 256)] 5)).drew)
  clear c0 c1 c2 S0 S1
  have hs3 : Hid (w1.heap.size ≤ ((w1.alloc (.cells #[.int .u8 ((n : Int) + 3), .int .u8 (a / 256), .int .u8 (a % 256)] 5)).drew).heap.size) := Lib.hid (by show _ ≤ (w1.alloc _).heap.size; simp)
  generalize (w1.alloc (.cells #[.int .u8 ((n : Int) + 3), .int .u8 (a / 256), .int .u8 (a % 256)] 5)).drew = W3 at O3 Z3 B3 R3 hs3 ⊢
  have c0 := Z3.out.c3.1
  have c2 := Z3.out.c3.2.2
  have HL3 : Hid ([(n : Int) + 3, a / 256, a % 256] ++ b = lnB a b) := Lib.hid (by unfold lnB; rw [HN.out]; congr 2; omega)
  go_wp2_with (at_builtin; refine wpList_appY rfl _ (.tmp 19) (.tmp 21) rfl w1.heap.size _ _ [(n : Int) + 3, a / 256, a % 256] b rfl O3.out rfl R3.out (by rw [HN.out]; simp; omega) hs3.out ?_)
  intro v4 w4 ho4 hb4 hg4 hv4
  have O4 : Hid (eY.Own 5 w4 w1.heap.size v4 (lnB a b)) := Lib.hid (by rw [← HL3.out]; exact ho4)
  have Z4 := Lib.hid (Blk.below Z3.out hb4 hlt)
  have B4 := Lib.hid (B3.out.trans (hb4.mono B2.out.size))
  have hs4 := Lib.hid (Nat.le_trans hs3.out hb4.size)
  clear c0 c2 ho4 hb4 hg4 hv4
  have hy4 := lnB_byt ha HBY.out
  obtain ⟨A4, k4, hv4, hI4⟩ := rdY_ints O4.out.rd hy4
  have hlen4 : (lnB a b).length = n + 3 := by simp [lnB, HN.out]
  rw [hlen4] at hv4 hI4
  subst hv4
  have CS := Lib.hid (sum_any A4 (n + 3) k4 (lnB a b) _ w4 hI4 (by omega))
  have hsr := sumAll_range (lnB a b)
  have HLS : Hid (lnB a b ++ [255 - sumAll (lnB a b)] = lnS a b) := Lib.hid rfl
  have HLN := Lib.hid (lnS_len a b)
  obtain ⟨SM, hSM⟩ : ∃ S, sumAll (lnB a b) = S := ⟨_, rfl⟩
  rw [hSM] at CS hsr HLS
  obtain ⟨s0, s1⟩ := hsr
  have c0 := Z4.out.c3.1
  have wS : IntKind.u8.wrap (255 - SM) = 255 - SM := by rw [IntKind.wrap_u8]; omega
  clear hI4 hSM hy4
  go_wp2_with fail
  refine CS.out.mono ?_
  rintro e w' ⟨rfl, rfl⟩
  go_wp2_with (at_builtin; refine wpList_appY rfl _ (.tmp 23) (.tmp 27) rfl w1.heap.size _ _ (lnB a b) [255 - SM] rfl (Els.Own.alloc O4.out _) rfl (rdY_lit1 _ _ _) (by rw [hlen4]; simp; omega) (by have := hs4.out; simp; omega) ?_)
  intro v5 w5 ho5 hb5 hg5 hv5
  have O5 : Hid (eY.Own 5 w5 w1.heap.size v5 (lnS a b)) := Lib.hid (by rw [← HLS.out]; exact ho5)
  have Z5 := Lib.hid (Blk.below (Blk.alloc Z4.out _) hb5 hlt)
  have B5 := Lib.hid ((Below.alloc0 B4.out _).trans (hb5.mono B2.out.size))
  clear c0 ho5 hb5 hg5 hv5 CS
  have c0 := Z5.out.c3.1
  have hy5 := lnS_byt ha HBY.out
  go_wp2_with fail
  refine (CD.out _).mono ?_
  rintro e w6 ⟨rfl, hb6⟩
  have O6 := Lib.hid (Els.Own.below O5.out hb6)
  have B6 := Lib.hid (Below.trans0 B5.out hb6)
  clear hb6 CD c0
  obtain ⟨A6, k6, hv6, hI6⟩ := rdY_ints O6.out.rd hy5
  rw [HLN.out, HN.out] at hv6 hI6
  subst hv6
  have CP := Lib.hid (pairs_any A6 (n + 4) k6 (lnS a b) w6 hI6 (by omega))
  have z1 : (strOfNums [48 + k]).size = 1 := by rw [strOfNums_size]; rfl
  have z2 : (strOfNums (pairsOf (lnS a b))).size ≤ 1000 := by rw [strOfNums_size, pairsOf_len, HLN.out, HN.out]; omega
  have e1 : (⟨#[83]⟩ : ByteArray) ++ strOfNums [48 + k] = strOfNums [83, 48 + k] := by rw [show (⟨#[83]⟩ : ByteArray) = strOfNums [83] from rfl, strOf_append]; rfl
  have z3 : (strOfNums [83, 48 + k]).size = 2 := by rw [strOfNums_size]; rfl
  have HX : Hid (strOfNums [83, 48 + k] ++ strOfNums (pairsOf (lnS a b)) = strOfNums (lnX k a b)) := Lib.hid (by rw [strOf_append]; rfl)
  clear hI6 hy5
  generalize strOfNums (pairsOf (lnS a b)) = PS at CP z2 HX
  go_wp2_with (go_at_call 54; refine CP.out.mono ?_; rintro e w7 ⟨rfl, hb7⟩)
  go_ret
  exact ⟨by rw [← HX.out]; rfl, Below.trans0 B6.out hb7⟩
set_option maxRecDepth 100000 in
theorem alive40 (w : World) : Calls Tryd.prog 12 #[] w fun e w' => e = .returned (.bool true) ∧ Below w.heap.size w w' := by
  have CT := Lib.hid (fun u => srText_any 9 0 (by decide) (by decide) none 0 0 [] u (Els.Rd.nil_ u) rfl Byt.nil_ (by decide) (fun _ => rfl))
  have hX : strOfNums (lnX 9 0 []) = ⟨#[83, 57, 48, 51, 48, 48, 48, 48, 70, 67]⟩ := by decide +kernel
  rw [hX] at CT
  clear hX
  go_enter Tryd.func12, Tryd.ntmps12
  go_wp2_with (go_at_call 30; refine (CT.out _).mono ?_; rintro e w' ⟨rfl, hb⟩)
  go_ret
  exact ⟨rfl, hb⟩
end Go.Proofs.YtnmgjgeniaheoabDoor
