/- Contracts of the document's answer for layer 38: Pack. -/
import Derived.Test.YtnhafficnomlbaaPck
import Derived.Test.YtnhafficnomlbaaStc
import Derived.Deep.RegionHeld3
namespace Go.Proofs.Ytnhafficnomlbaa
open Go.ChangeShapes Go.WideShapes Go.ChangeAt Go.RowKit
set_option linter.unusedVariables false
theorem three_at (zs : List Int) (k : Nat) : three (zs.drop k) = (decide (k + 2 < zs.length) && (iat zs k == iat zs (k + 1) && iat zs k == iat zs (k + 2))) := by
  unfold three
  rw [List.length_drop, iat_drop, iat_drop, iat_drop, Nat.add_zero]
  congr 1
  rw [decide_eq_decide]; omega
set_option maxRecDepth 100000 in
set_option maxHeartbeats 1000000 in
theorem refThree_any (g off n c : Nat) (zs : List Int) (w : World) (k : Nat) (h : Sl w g off n c zs) (hn : n ≤ 1099511627776) (hk : k ≤ n) :
    Calls Try.prog 39 #[.slice (some ⟨g, off, none⟩) n c, .int .i64 (k : Int)] w fun e w' => e = .returned (.bool (three (zs.drop k))) ∧ ∃ j, w' = w.drewN j := by
  have HT := Lib.hid (three_at zs k)
  have HL := Lib.hid h.1
  have k0 : (0 : Int) ≤ k := by omega
  have e1 : IntKind.i64.wrap ((k : Int) + 1) = (k : Int) + 1 := IntWalk.i64_in _ (by omega)
  have e2 : IntKind.i64.wrap ((k : Int) + 2) = (k : Int) + 2 := IntWalk.i64_in _ (by omega)
  have e3 : ((k : Int) + 1).toNat = k + 1 := by omega
  have e4 : ((k : Int) + 2).toNat = k + 2 := by omega
  have e5 : (0 : Int) ≤ (k : Int) + 1 := by omega
  have e6 : (0 : Int) ≤ (k : Int) + 2 := by omega
  by_cases hlt : k + 2 < n
  · have c0 := h.at_ k (by omega)
    have c1 := h.at_ (k + 1) (by omega)
    have c2 := h.at_ (k + 2) (by omega)
    have l0 : (k : Int) < n := by omega
    have l1 : (k : Int) + 1 < n := by omega
    have l2 : (k : Int) + 2 < n := by omega
    rw [show decide (k + 2 < zs.length) = true by rw [h.1]; simpa using hlt] at HT
    clear h
    cases h1 : iat zs k == iat zs (k + 1)
    · rw [h1] at HT
      go_enter Try.func39, Try.ntmps39
      go_wp2
      go_quiet (fail)
      go_wp2
      go_ret
      exact ⟨ret_bool (by rw [HT.out]; rfl), by first | exact ⟨_, rfl⟩ | exact ⟨_, World.drewN_drewN _ _ _⟩⟩
    · rw [h1] at HT
      go_enter Try.func39, Try.ntmps39
      go_wp2
      go_quiet (fail)
      go_wp2
      go_ret
      exact ⟨ret_bool (by rw [HT.out]; first | rfl | simp), by first | exact ⟨_, rfl⟩ | exact ⟨_, World.drewN_drewN _ _ _⟩⟩
  · have l2 : decide ((k : Int) + 2 < (n : Int)) = false := by rw [decide_eq_false_iff_not]; omega
    rw [show decide (k + 2 < zs.length) = false by rw [h.1]; simpa using hlt] at HT
    clear h
    go_enter Try.func39, Try.ntmps39
    go_wp2
    go_quiet (fail)
    go_wp2
    go_ret
    exact ⟨ret_bool (by rw [HT.out]; rfl), by first | exact ⟨_, rfl⟩ | exact ⟨_, World.drewN_drewN _ _ _⟩⟩
set_option maxRecDepth 100000 in
set_option maxHeartbeats 2000000 in
theorem refPack_any (A : Option Addr) (n c : Nat) (zs : List Int) (w : World) (h : eY.Rd w (.slice A n c) zs) (hc : n ≤ c) (hz : Byt zs) (hn : n ≤ 1000000) :
    Calls Try.prog 18 #[.slice A n c] w (GivesY w (packL zs)) := by
  have HL := Lib.hid (rd_len h)
  have HS := Lib.hid (fun h0 => Sl.of_rd h hz hc h0)
  have HPL := Lib.hid (pack_long zs.length zs (Nat.le_refl _))
  have O0 : Hid (eY.Own 5 w w.heap.size (.slice none 0 0) []) := Lib.hid (Els.Own.nil_ _ _)
  have B0 := Lib.hid (Below.refl w.heap.size w)
  clear h hz
  go_enter Try.func18, Try.ntmps18
  go_wp2
  go_loopw [3, 4] (fun o i wr => ∃ (k : Nat) (P : List Int), k ≤ n ∧ i = .int .i64 k ∧ Hid (eY.Own 5 wr w.heap.size o P) ∧ Hid (P ++ packL (zs.drop k) = packL zs) ∧ Hid (Below w.heap.size w wr)) (fun _ i _ => n - (intOf i).toNat)
  case atStart => exact ⟨0, [], Nat.zero_le _, rfl, O0, Lib.hid rfl, B0⟩
  case round =>
    obtain ⟨k, P, hk, rfl, hO, hP, hB⟩ := hrel
    by_cases hlt : k < n
    · obtain ⟨g, off, rfl, hS⟩ := HS.out (by omega)
      obtain ⟨wo, rfl⟩ : ∃ wo : World, wo = wr := ⟨_, rfl⟩
      have hSw := hS.below hB.out
      have hD := hSw.drop k (by omega)
      have CT := Lib.hid (refThree_any g off n c zs wo k hSw (by omega) hk)
      have T3 := Lib.hid (three_iff (zs.drop k) (by rw [hD.1]; omega))
      have RA := Lib.hid (aN_range (zs.drop k) (by rw [hD.1]; omega))
      have RU := Lib.hid (uN_range (zs.drop k) (by rw [hD.1]; omega))
      have HD := Lib.hid hD.1
      have HSw := Lib.hid hSw
      have HSS := Lib.hid hS
      have hPl : P.length ≤ 3000000 := by
        have e1 := congrArg List.length hP.out
        rw [List.length_append] at e1
        have := HPL.out; have := HL.out; omega
      have HPl := Lib.hid hPl
      have k0 : (0 : Int) ≤ k := by omega
      have kn : (k : Int) < n := by omega
      clear hS hSw hD hPl HS
      cases ht : three (zs.drop k)
      · rw [ht] at T3 CT
        have hE := packL_lit (zs.drop k) (by rw [HD.out]; omega) ht
        have HE := Lib.hid hE
        obtain ⟨m, hm⟩ : ∃ m, min (n - k) 127 = m := ⟨_, rfl⟩
        have hA : Hid (uN (zs.drop k) = scan (fun q => !three ((zs.drop k).drop q)) m 1) := Lib.hid (by unfold uN; rw [HD.out, hm])
        have m1 : m ≤ n - k := by omega
        have m2 : m ≤ 127 := by omega
        have m3 : 1 ≤ m := by omega
        have HM := Lib.hid hm
        clear ht hE RA hm
        go_wp2_with fail
        refine CT.out.mono ?_
        rintro e w1 ⟨rfl, j1, rfl⟩
        go_wp2
        go_loopw [5] (fun i wr => ∃ q : Nat, 1 ≤ q ∧ q ≤ m ∧ i = .int .i64 q ∧ Hid (uN (zs.drop k) = scan (fun q => !three ((zs.drop k).drop q)) m q) ∧ ∃ j, wr = wo.drewN j) (fun i _ => m - (intOf i).toNat)
        case atStart => exact ⟨1, Nat.le_refl _, m3, rfl, hA, _, rfl⟩
        case round =>
          obtain ⟨q, hq1, hq, rfl, hSc, j, rfl⟩ := hrel
          have q0 : (0 : Int) ≤ q := by omega
          have e1 : IntKind.i64.wrap ((k : Int) + (q : Int)) = (k : Int) + (q : Int) := IntWalk.i64_in _ (by omega)
          have e3 : ((k : Int) + (q : Int)).toNat = k + q := by omega
          have e5 : (0 : Int) ≤ (k : Int) + (q : Int) := by omega
          by_cases hqm : q < m
          · have CQ := Lib.hid (refThree_any g off n c zs (wo.drewN j) (k + q) (HSw.out.drewN j) (by omega) (by omega))
            have d1 : decide ((k : Int) + (q : Int) < (n : Int)) = true := by rw [decide_eq_true_eq]; omega
            have d2 : decide ((q : Int) < 127) = true := by rw [decide_eq_true_eq]; omega
            have d3 : (k : Int) + (q : Int) < (n : Int) := by omega
            rw [Int.natCast_add] at CQ
            cases hqq : three (zs.drop (k + q))
            · have HQ : Hid (uN (zs.drop k) = scan (fun q => !three ((zs.drop k).drop q)) m (q + 1)) := Lib.hid (by
                rw [hSc.out, scan_go _ _ _ hqm (by rw [List.drop_drop, hqq]; rfl)])
              rw [hqq] at CQ
              go_wp2_with fail
              refine CQ.out.mono ?_
              rintro e w1 ⟨rfl, j1, rfl⟩
              go_wp2
              go_roundw
              case rel => exact ⟨q + 1, by omega, by omega, by go_num, HQ, by first | exact ⟨_, rfl⟩ | exact ⟨_, World.drewN_drewN _ _ _⟩⟩
              case measure => simp [intOf] <;> omega
            · have HQ : Hid (uN (zs.drop k) = q) := Lib.hid (by
                rw [hSc.out, scan_stop _ _ _ (by rw [List.drop_drop, hqq]; simp)])
              rw [hqq] at CQ
              have r1 := RU.out
              rw [HQ.out, HD.out] at r1
              have HEE := Lib.hid HE.out
              rw [HQ.out] at HEE
              have HR := Lib.hid r1
              have a1 : (q : Int) % 256 = (q : Int) := by omega
              have a2 : IntKind.u8.wrap (q : Int) = (q : Int) := by rw [IntKind.wrap_u8]; omega
              have a3 : k ≤ k + q := by omega
              have a8 : ¬ c = k := by omega
              have a4 : k + q ≤ c := by omega
              have a5 : k + q - k = q := by omega
              have a6 : (k : Int) ≤ (k : Int) + (q : Int) := by omega
              have a7 : (k : Int) + (q : Int) ≤ (c : Int) := by omega
              clear r1
              go_wp2_with fail
              refine CQ.out.mono ?_
              rintro e w1 ⟨rfl, j1, rfl⟩
              go_wp2_with fail
              generalize hV : wo.drewN _ = V
              have O1 : Hid (eY.Own 5 V w.heap.size u3 P) := Lib.hid (by rw [← hV]; exact Els.Own.drewN hO.out _)
              have B1 : Hid (Below w.heap.size w V) := Lib.hid (by rw [← hV]; exact Below.drewN0 hB.out _)
              clear hV
              refine wp_region_noPanic ?_
              refine wp_region_held_drew (S := (fun _ => True)) (by kernel_rfl) ?_ (fun hH0 => ?_)
              · trivial
              refine wpAnyH_take (i := 0) (oi := ({ dst := some 68, op := Op.move (Operand.tmp 3), type := 22, pos := "ref.go:23", after := #[], guard := none } : Oper)) (v := ?_) rfl (by kernel_rfl) (by kernel_rfl) (by kernel_rfl) (fun _ _ _ h => h) (Or.inl ⟨by rfl, ?_⟩) (by assumption) ?_
              rotate_left 1
              · (intro w hSw; (try dsimp only at hSw); go_simp; (try with_reducible rfl))
              (try simp only [Act.put, List.setIfInBounds_toArray, List.set_cons_zero, List.set_cons_succ])
              refine wpAnyH_take (i := 1) (oi := ({ dst := some 69, op := Op.move (Operand.tmp 5), type := 3, pos := "ref.go:23", after := #[], guard := none } : Oper)) (v := ?_) rfl (by kernel_rfl) (by kernel_rfl) (by kernel_rfl) (fun _ _ _ h => h) (Or.inl ⟨by rfl, ?_⟩) (by assumption) ?_
              rotate_left 1
              · (intro w hSw; (try dsimp only at hSw); go_simp; (try with_reducible rfl))
              (try simp only [Act.put, List.setIfInBounds_toArray, List.set_cons_zero, List.set_cons_succ])
              refine wpAnyH_take (i := 2) (oi := ({ dst := some 70, op := Op.convert 3 5 (Operand.tmp 69), type := 5, pos := "ref.go:23", after := #[{ on := 1, ground := Ground.data }], guard := none } : Oper)) (v := ?_) rfl (by kernel_rfl) (by kernel_rfl) (by kernel_rfl) (fun _ _ _ h => h) (Or.inl ⟨by rfl, ?_⟩) (by assumption) ?_
              rotate_left 1
              · (intro w hSw; (try dsimp only at hSw); go_simp; (try with_reducible rfl))
              (try simp only [Act.put, List.setIfInBounds_toArray, List.set_cons_zero, List.set_cons_succ])
              refine wpAnyH_take (i := 5) (oi := ({ dst := some 73, op := Op.move (Operand.tmp 0), type := 22, pos := "ref.go:23", after := #[], guard := none } : Oper)) (v := ?_) rfl (by kernel_rfl) (by kernel_rfl) (by kernel_rfl) (fun _ _ _ h => h) (Or.inl ⟨by rfl, ?_⟩) (by assumption) ?_
              rotate_left 1
              · (intro w hSw; (try dsimp only at hSw); go_simp; (try with_reducible rfl))
              (try simp only [Act.put, List.setIfInBounds_toArray, List.set_cons_zero, List.set_cons_succ])
              refine wpAnyH_take (i := 6) (oi := ({ dst := some 74, op := Op.move (Operand.tmp 4), type := 3, pos := "ref.go:23", after := #[], guard := none } : Oper)) (v := ?_) rfl (by kernel_rfl) (by kernel_rfl) (by kernel_rfl) (fun _ _ _ h => h) (Or.inl ⟨by rfl, ?_⟩) (by assumption) ?_
              rotate_left 1
              · (intro w hSw; (try dsimp only at hSw); go_simp; (try with_reducible rfl))
              (try simp only [Act.put, List.setIfInBounds_toArray, List.set_cons_zero, List.set_cons_succ])
              refine wpAnyH_take (i := 7) (oi := ({ dst := some 75, op := Op.move (Operand.tmp 4), type := 3, pos := "ref.go:23", after := #[], guard := none } : Oper)) (v := ?_) rfl (by kernel_rfl) (by kernel_rfl) (by kernel_rfl) (fun _ _ _ h => h) (Or.inl ⟨by rfl, ?_⟩) (by assumption) ?_
              rotate_left 1
              · (intro w hSw; (try dsimp only at hSw); go_simp; (try with_reducible rfl))
              (try simp only [Act.put, List.setIfInBounds_toArray, List.set_cons_zero, List.set_cons_succ])
              refine wpAnyH_take (i := 8) (oi := ({ dst := some 76, op := Op.move (Operand.tmp 5), type := 3, pos := "ref.go:23", after := #[], guard := none } : Oper)) (v := ?_) rfl (by kernel_rfl) (by kernel_rfl) (by kernel_rfl) (fun _ _ _ h => h) (Or.inl ⟨by rfl, ?_⟩) (by assumption) ?_
              rotate_left 1
              · (intro w hSw; (try dsimp only at hSw); go_simp; (try with_reducible rfl))
              (try simp only [Act.put, List.setIfInBounds_toArray, List.set_cons_zero, List.set_cons_succ])
              refine wpAnyH_take (i := 9) (oi := ({ dst := some 77, op := Op.binOp BinOp.add 3 (Operand.tmp 75) (Operand.tmp 76) 3, type := 3, pos := "ref.go:23", after := #[{ on := 7, ground := Ground.data }, { on := 8, ground := Ground.data }], guard := none } : Oper)) (v := ?_) rfl (by kernel_rfl) (by kernel_rfl) (by kernel_rfl) (fun _ _ _ h => h) (Or.inl ⟨by rfl, ?_⟩) (by assumption) ?_
              rotate_left 1
              · (intro w hSw; (try dsimp only at hSw); go_simp; (try with_reducible rfl))
              (try simp only [Act.put, List.setIfInBounds_toArray, List.set_cons_zero, List.set_cons_succ])
              refine wpAnyH_take (i := 10) (oi := ({ dst := some 78, op := Op.slice 22 (Operand.tmp 73) (some (Operand.tmp 74)) (some (Operand.tmp 77)) none, type := 22, pos := "ref.go:23", after := #[{ on := 5, ground := Ground.data }, { on := 6, ground := Ground.data }, { on := 9, ground := Ground.data }], guard := none } : Oper)) (v := ?_) rfl (by kernel_rfl) (by kernel_rfl) (by kernel_rfl) (fun _ _ _ h => h) (Or.inl ⟨by rfl, ?_⟩) (by assumption) ?_
              rotate_left 1
              · (intro w hSw; (try dsimp only at hSw); go_simp; (try with_reducible rfl))
              (try simp only [Act.put, List.setIfInBounds_toArray, List.set_cons_zero, List.set_cons_succ])
              refine wpAnyH_ready (rs := [3]) (by kernel_rfl) (by simp) ?_
              refine AllReadyH.cons (o := ({ dst := some 71, op := Op.buildSlice 22 1 #[(0, Operand.tmp 70)], type := 22, pos := "ref.go:23", after := #[{ on := 2, ground := Ground.data }], guard := none } : Oper)) rfl (fun K hK => ?_) ?_
              rotate_left 1
              · exact AllReadyH.nil
              go_simp
              first | (refine hK.out _ _ ?_ (fun hH1 => ?_)) | (go_wp2_with fail; refine hK.out _ _ ?_ (fun hH1 => ?_))
              · trivial
              clear hK K hH0
              (try simp only [Act.put, List.setIfInBounds_toArray, List.set_cons_zero, List.set_cons_succ])
              refine wpAnyH_ready (rs := [4]) (by kernel_rfl) (by simp) ?_
              refine AllReadyH.cons (o := ({ dst := some 72, op := Op.call { callee := Callee.builtin Builtin.append, args := #[Operand.tmp 68, Operand.tmp 71], argTypes := #[22, 22] }, type := 22, pos := "ref.go:23", after := #[{ on := 0, ground := Ground.data }, { on := 3, ground := Ground.data }], guard := none } : Oper)) rfl (fun K hK => ?_) ?_
              rotate_left 1
              · exact AllReadyH.nil
              (refine step_appY rfl _ (.tmp 68) (.tmp 71) rfl w.heap.size _ _ P [(q : Int)] rfl (Els.Own.drew (Els.Own.alloc O1.out _)) rfl (rdY_lit1 _ _ _) (by have := HPl.out; simp; omega) (by have := B1.out.size; simp; omega) ?_; intro v2 w2 ho2 hb2 hg2 hw2; have O2 := Lib.hid ho2; have B2 := Lib.hid ((Below.alloc (Below.drewN0 B1.out 1) (by have := B1.out.size; simp; omega) _).trans hb2); clear ho2 hb2 hg2 hw2)
              first | (refine hK.out _ _ ?_ (fun hH2 => ?_)) | (go_wp2_with fail; refine hK.out _ _ ?_ (fun hH2 => ?_))
              · trivial
              clear hK K hH1
              (try simp only [Act.put, List.setIfInBounds_toArray, List.set_cons_zero, List.set_cons_succ])
              refine wpAnyH_ready (rs := [11]) (by kernel_rfl) (by simp) ?_
              refine AllReadyH.cons (o := ({ dst := some 79, op := Op.call { callee := Callee.builtin Builtin.append, args := #[Operand.tmp 72, Operand.tmp 78], argTypes := #[22, 22] }, type := 22, pos := "ref.go:23", after := #[{ on := 4, ground := Ground.data }, { on := 10, ground := Ground.data }, { on := 4, ground := Ground.chain }], guard := none } : Oper)) rfl (fun K hK => ?_) ?_
              rotate_left 1
              · exact AllReadyH.nil
              (refine step_appY rfl _ (.tmp 72) (.tmp 78) rfl w.heap.size _ _ _ ((zs.take (k + q)).drop k) rfl O2.out rfl (rdY_part (a := k) (b := k + q) (m := q) (HSS.out.below B2.out).rd (by rw [HL.out]; omega) (by omega)) (by have := HPl.out; have := HL.out; simp; omega) (by have := B2.out.size; omega) ?_; intro v3 w3 ho3 hb3 hg3 hw3; have O3 := Lib.hid ho3; have B3 := Lib.hid (B2.out.trans hb3); clear ho3 hb3 hg3 hw3)
              first | (refine hK.out _ _ ?_ (fun hH3 => ?_)) | (go_wp2_with fail; refine hK.out _ _ ?_ (fun hH3 => ?_))
              · trivial
              clear hK K hH2
              (try simp only [Act.put, List.setIfInBounds_toArray, List.set_cons_zero, List.set_cons_succ])
              refine wpAnyH_take (i := 12) (oi := ({ dst := some 3, op := Op.assign (Operand.tmp 79), type := 22, pos := "ref.go:23", after := #[{ on := 11, ground := Ground.data }, { on := 11, ground := Ground.chain }, { on := 0, ground := Ground.phase }, { on := 1, ground := Ground.phase }, { on := 2, ground := Ground.phase }, { on := 3, ground := Ground.phase }, { on := 4, ground := Ground.phase }, { on := 5, ground := Ground.phase }, { on := 6, ground := Ground.phase }, { on := 7, ground := Ground.phase }, { on := 8, ground := Ground.phase }, { on := 9, ground := Ground.phase }, { on := 10, ground := Ground.phase }, { on := 11, ground := Ground.phase }], guard := none } : Oper)) (v := ?_) rfl (by kernel_rfl) (by kernel_rfl) (by kernel_rfl) (fun _ _ _ h => h) (Or.inl ⟨by rfl, ?_⟩) (by assumption) ?_
              rotate_left 1
              · (intro w hSw; (try dsimp only at hSw); go_simp; (try with_reducible rfl))
              (try simp only [Act.put, List.setIfInBounds_toArray, List.set_cons_zero, List.set_cons_succ])
              refine wpAnyH_done (by kernel_rfl) ?_ _
              refine NoPanic.normal ?_
              go_wp2
              go_roundw
              case rel => exact ⟨k + q, _, by have := HR.out; omega, by go_num, O3, Lib.hid (by rw [← hP.out, HEE.out, ← List.drop_drop, List.drop_take, show k + q - k = q by omega]; simp [List.append_assoc]), B3⟩
              case measure => have := HR.out; simp [intOf] <;> omega
          · have HQ : Hid (uN (zs.drop k) = q) := Lib.hid (by rw [hSc.out, scan_stop _ _ _ (by omega)])
            by_cases hkn : k + q < n
            · have d1 : decide ((k : Int) + (q : Int) < (n : Int)) = true := by rw [decide_eq_true_eq]; omega
              have d2 : decide ((q : Int) < 127) = false := by rw [decide_eq_false_iff_not]; have := HM.out; omega
              have r1 := RU.out
              rw [HQ.out, HD.out] at r1
              have HEE := Lib.hid HE.out
              rw [HQ.out] at HEE
              have HR := Lib.hid r1
              have a1 : (q : Int) % 256 = (q : Int) := by omega
              have a2 : IntKind.u8.wrap (q : Int) = (q : Int) := by rw [IntKind.wrap_u8]; omega
              have a3 : k ≤ k + q := by omega
              have a8 : ¬ c = k := by omega
              have a4 : k + q ≤ c := by omega
              have a5 : k + q - k = q := by omega
              have a6 : (k : Int) ≤ (k : Int) + (q : Int) := by omega
              have a7 : (k : Int) + (q : Int) ≤ (c : Int) := by omega
              clear r1
              go_wp2_with fail
              generalize hV : wo.drewN _ = V
              have O1 : Hid (eY.Own 5 V w.heap.size u3 P) := Lib.hid (by rw [← hV]; exact Els.Own.drewN hO.out _)
              have B1 : Hid (Below w.heap.size w V) := Lib.hid (by rw [← hV]; exact Below.drewN0 hB.out _)
              clear hV
              refine wp_region_noPanic ?_
              refine wp_region_held_drew (S := (fun _ => True)) (by kernel_rfl) ?_ (fun hH0 => ?_)
              · trivial
              refine wpAnyH_take (i := 0) (oi := ({ dst := some 68, op := Op.move (Operand.tmp 3), type := 22, pos := "ref.go:23", after := #[], guard := none } : Oper)) (v := ?_) rfl (by kernel_rfl) (by kernel_rfl) (by kernel_rfl) (fun _ _ _ h => h) (Or.inl ⟨by rfl, ?_⟩) (by assumption) ?_
              rotate_left 1
              · (intro w hSw; (try dsimp only at hSw); go_simp; (try with_reducible rfl))
              (try simp only [Act.put, List.setIfInBounds_toArray, List.set_cons_zero, List.set_cons_succ])
              refine wpAnyH_take (i := 1) (oi := ({ dst := some 69, op := Op.move (Operand.tmp 5), type := 3, pos := "ref.go:23", after := #[], guard := none } : Oper)) (v := ?_) rfl (by kernel_rfl) (by kernel_rfl) (by kernel_rfl) (fun _ _ _ h => h) (Or.inl ⟨by rfl, ?_⟩) (by assumption) ?_
              rotate_left 1
              · (intro w hSw; (try dsimp only at hSw); go_simp; (try with_reducible rfl))
              (try simp only [Act.put, List.setIfInBounds_toArray, List.set_cons_zero, List.set_cons_succ])
              refine wpAnyH_take (i := 2) (oi := ({ dst := some 70, op := Op.convert 3 5 (Operand.tmp 69), type := 5, pos := "ref.go:23", after := #[{ on := 1, ground := Ground.data }], guard := none } : Oper)) (v := ?_) rfl (by kernel_rfl) (by kernel_rfl) (by kernel_rfl) (fun _ _ _ h => h) (Or.inl ⟨by rfl, ?_⟩) (by assumption) ?_
              rotate_left 1
              · (intro w hSw; (try dsimp only at hSw); go_simp; (try with_reducible rfl))
              (try simp only [Act.put, List.setIfInBounds_toArray, List.set_cons_zero, List.set_cons_succ])
              refine wpAnyH_take (i := 5) (oi := ({ dst := some 73, op := Op.move (Operand.tmp 0), type := 22, pos := "ref.go:23", after := #[], guard := none } : Oper)) (v := ?_) rfl (by kernel_rfl) (by kernel_rfl) (by kernel_rfl) (fun _ _ _ h => h) (Or.inl ⟨by rfl, ?_⟩) (by assumption) ?_
              rotate_left 1
              · (intro w hSw; (try dsimp only at hSw); go_simp; (try with_reducible rfl))
              (try simp only [Act.put, List.setIfInBounds_toArray, List.set_cons_zero, List.set_cons_succ])
              refine wpAnyH_take (i := 6) (oi := ({ dst := some 74, op := Op.move (Operand.tmp 4), type := 3, pos := "ref.go:23", after := #[], guard := none } : Oper)) (v := ?_) rfl (by kernel_rfl) (by kernel_rfl) (by kernel_rfl) (fun _ _ _ h => h) (Or.inl ⟨by rfl, ?_⟩) (by assumption) ?_
              rotate_left 1
              · (intro w hSw; (try dsimp only at hSw); go_simp; (try with_reducible rfl))
              (try simp only [Act.put, List.setIfInBounds_toArray, List.set_cons_zero, List.set_cons_succ])
              refine wpAnyH_take (i := 7) (oi := ({ dst := some 75, op := Op.move (Operand.tmp 4), type := 3, pos := "ref.go:23", after := #[], guard := none } : Oper)) (v := ?_) rfl (by kernel_rfl) (by kernel_rfl) (by kernel_rfl) (fun _ _ _ h => h) (Or.inl ⟨by rfl, ?_⟩) (by assumption) ?_
              rotate_left 1
              · (intro w hSw; (try dsimp only at hSw); go_simp; (try with_reducible rfl))
              (try simp only [Act.put, List.setIfInBounds_toArray, List.set_cons_zero, List.set_cons_succ])
              refine wpAnyH_take (i := 8) (oi := ({ dst := some 76, op := Op.move (Operand.tmp 5), type := 3, pos := "ref.go:23", after := #[], guard := none } : Oper)) (v := ?_) rfl (by kernel_rfl) (by kernel_rfl) (by kernel_rfl) (fun _ _ _ h => h) (Or.inl ⟨by rfl, ?_⟩) (by assumption) ?_
              rotate_left 1
              · (intro w hSw; (try dsimp only at hSw); go_simp; (try with_reducible rfl))
              (try simp only [Act.put, List.setIfInBounds_toArray, List.set_cons_zero, List.set_cons_succ])
              refine wpAnyH_take (i := 9) (oi := ({ dst := some 77, op := Op.binOp BinOp.add 3 (Operand.tmp 75) (Operand.tmp 76) 3, type := 3, pos := "ref.go:23", after := #[{ on := 7, ground := Ground.data }, { on := 8, ground := Ground.data }], guard := none } : Oper)) (v := ?_) rfl (by kernel_rfl) (by kernel_rfl) (by kernel_rfl) (fun _ _ _ h => h) (Or.inl ⟨by rfl, ?_⟩) (by assumption) ?_
              rotate_left 1
              · (intro w hSw; (try dsimp only at hSw); go_simp; (try with_reducible rfl))
              (try simp only [Act.put, List.setIfInBounds_toArray, List.set_cons_zero, List.set_cons_succ])
              refine wpAnyH_take (i := 10) (oi := ({ dst := some 78, op := Op.slice 22 (Operand.tmp 73) (some (Operand.tmp 74)) (some (Operand.tmp 77)) none, type := 22, pos := "ref.go:23", after := #[{ on := 5, ground := Ground.data }, { on := 6, ground := Ground.data }, { on := 9, ground := Ground.data }], guard := none } : Oper)) (v := ?_) rfl (by kernel_rfl) (by kernel_rfl) (by kernel_rfl) (fun _ _ _ h => h) (Or.inl ⟨by rfl, ?_⟩) (by assumption) ?_
              rotate_left 1
              · (intro w hSw; (try dsimp only at hSw); go_simp; (try with_reducible rfl))
              (try simp only [Act.put, List.setIfInBounds_toArray, List.set_cons_zero, List.set_cons_succ])
              refine wpAnyH_ready (rs := [3]) (by kernel_rfl) (by simp) ?_
              refine AllReadyH.cons (o := ({ dst := some 71, op := Op.buildSlice 22 1 #[(0, Operand.tmp 70)], type := 22, pos := "ref.go:23", after := #[{ on := 2, ground := Ground.data }], guard := none } : Oper)) rfl (fun K hK => ?_) ?_
              rotate_left 1
              · exact AllReadyH.nil
              go_simp
              first | (refine hK.out _ _ ?_ (fun hH1 => ?_)) | (go_wp2_with fail; refine hK.out _ _ ?_ (fun hH1 => ?_))
              · trivial
              clear hK K hH0
              (try simp only [Act.put, List.setIfInBounds_toArray, List.set_cons_zero, List.set_cons_succ])
              refine wpAnyH_ready (rs := [4]) (by kernel_rfl) (by simp) ?_
              refine AllReadyH.cons (o := ({ dst := some 72, op := Op.call { callee := Callee.builtin Builtin.append, args := #[Operand.tmp 68, Operand.tmp 71], argTypes := #[22, 22] }, type := 22, pos := "ref.go:23", after := #[{ on := 0, ground := Ground.data }, { on := 3, ground := Ground.data }], guard := none } : Oper)) rfl (fun K hK => ?_) ?_
              rotate_left 1
              · exact AllReadyH.nil
              (refine step_appY rfl _ (.tmp 68) (.tmp 71) rfl w.heap.size _ _ P [(q : Int)] rfl (Els.Own.drew (Els.Own.alloc O1.out _)) rfl (rdY_lit1 _ _ _) (by have := HPl.out; simp; omega) (by have := B1.out.size; simp; omega) ?_; intro v2 w2 ho2 hb2 hg2 hw2; have O2 := Lib.hid ho2; have B2 := Lib.hid ((Below.alloc (Below.drewN0 B1.out 1) (by have := B1.out.size; simp; omega) _).trans hb2); clear ho2 hb2 hg2 hw2)
              first | (refine hK.out _ _ ?_ (fun hH2 => ?_)) | (go_wp2_with fail; refine hK.out _ _ ?_ (fun hH2 => ?_))
              · trivial
              clear hK K hH1
              (try simp only [Act.put, List.setIfInBounds_toArray, List.set_cons_zero, List.set_cons_succ])
              refine wpAnyH_ready (rs := [11]) (by kernel_rfl) (by simp) ?_
              refine AllReadyH.cons (o := ({ dst := some 79, op := Op.call { callee := Callee.builtin Builtin.append, args := #[Operand.tmp 72, Operand.tmp 78], argTypes := #[22, 22] }, type := 22, pos := "ref.go:23", after := #[{ on := 4, ground := Ground.data }, { on := 10, ground := Ground.data }, { on := 4, ground := Ground.chain }], guard := none } : Oper)) rfl (fun K hK => ?_) ?_
              rotate_left 1
              · exact AllReadyH.nil
              (refine step_appY rfl _ (.tmp 72) (.tmp 78) rfl w.heap.size _ _ _ ((zs.take (k + q)).drop k) rfl O2.out rfl (rdY_part (a := k) (b := k + q) (m := q) (HSS.out.below B2.out).rd (by rw [HL.out]; omega) (by omega)) (by have := HPl.out; have := HL.out; simp; omega) (by have := B2.out.size; omega) ?_; intro v3 w3 ho3 hb3 hg3 hw3; have O3 := Lib.hid ho3; have B3 := Lib.hid (B2.out.trans hb3); clear ho3 hb3 hg3 hw3)
              first | (refine hK.out _ _ ?_ (fun hH3 => ?_)) | (go_wp2_with fail; refine hK.out _ _ ?_ (fun hH3 => ?_))
              · trivial
              clear hK K hH2
              (try simp only [Act.put, List.setIfInBounds_toArray, List.set_cons_zero, List.set_cons_succ])
              refine wpAnyH_take (i := 12) (oi := ({ dst := some 3, op := Op.assign (Operand.tmp 79), type := 22, pos := "ref.go:23", after := #[{ on := 11, ground := Ground.data }, { on := 11, ground := Ground.chain }, { on := 0, ground := Ground.phase }, { on := 1, ground := Ground.phase }, { on := 2, ground := Ground.phase }, { on := 3, ground := Ground.phase }, { on := 4, ground := Ground.phase }, { on := 5, ground := Ground.phase }, { on := 6, ground := Ground.phase }, { on := 7, ground := Ground.phase }, { on := 8, ground := Ground.phase }, { on := 9, ground := Ground.phase }, { on := 10, ground := Ground.phase }, { on := 11, ground := Ground.phase }], guard := none } : Oper)) (v := ?_) rfl (by kernel_rfl) (by kernel_rfl) (by kernel_rfl) (fun _ _ _ h => h) (Or.inl ⟨by rfl, ?_⟩) (by assumption) ?_
              rotate_left 1
              · (intro w hSw; (try dsimp only at hSw); go_simp; (try with_reducible rfl))
              (try simp only [Act.put, List.setIfInBounds_toArray, List.set_cons_zero, List.set_cons_succ])
              refine wpAnyH_done (by kernel_rfl) ?_ _
              refine NoPanic.normal ?_
              go_wp2
              go_roundw
              case rel => exact ⟨k + q, _, by have := HR.out; omega, by go_num, O3, Lib.hid (by rw [← hP.out, HEE.out, ← List.drop_drop, List.drop_take, show k + q - k = q by omega]; simp [List.append_assoc]), B3⟩
              case measure => have := HR.out; simp [intOf] <;> omega
            · have d1 : decide ((k : Int) + (q : Int) < (n : Int)) = false := by rw [decide_eq_false_iff_not]; omega
              have r1 := RU.out
              rw [HQ.out, HD.out] at r1
              have HEE := Lib.hid HE.out
              rw [HQ.out] at HEE
              have HR := Lib.hid r1
              have a1 : (q : Int) % 256 = (q : Int) := by omega
              have a2 : IntKind.u8.wrap (q : Int) = (q : Int) := by rw [IntKind.wrap_u8]; omega
              have a3 : k ≤ k + q := by omega
              have a8 : ¬ c = k := by omega
              have a4 : k + q ≤ c := by omega
              have a5 : k + q - k = q := by omega
              have a6 : (k : Int) ≤ (k : Int) + (q : Int) := by omega
              have a7 : (k : Int) + (q : Int) ≤ (c : Int) := by omega
              clear r1
              go_wp2_with fail
              generalize hV : wo.drewN _ = V
              have O1 : Hid (eY.Own 5 V w.heap.size u3 P) := Lib.hid (by rw [← hV]; exact Els.Own.drewN hO.out _)
              have B1 : Hid (Below w.heap.size w V) := Lib.hid (by rw [← hV]; exact Below.drewN0 hB.out _)
              clear hV
              refine wp_region_noPanic ?_
              refine wp_region_held_drew (S := (fun _ => True)) (by kernel_rfl) ?_ (fun hH0 => ?_)
              · trivial
              refine wpAnyH_take (i := 0) (oi := ({ dst := some 68, op := Op.move (Operand.tmp 3), type := 22, pos := "ref.go:23", after := #[], guard := none } : Oper)) (v := ?_) rfl (by kernel_rfl) (by kernel_rfl) (by kernel_rfl) (fun _ _ _ h => h) (Or.inl ⟨by rfl, ?_⟩) (by assumption) ?_
              rotate_left 1
              · (intro w hSw; (try dsimp only at hSw); go_simp; (try with_reducible rfl))
              (try simp only [Act.put, List.setIfInBounds_toArray, List.set_cons_zero, List.set_cons_succ])
              refine wpAnyH_take (i := 1) (oi := ({ dst := some 69, op := Op.move (Operand.tmp 5), type := 3, pos := "ref.go:23", after := #[], guard := none } : Oper)) (v := ?_) rfl (by kernel_rfl) (by kernel_rfl) (by kernel_rfl) (fun _ _ _ h => h) (Or.inl ⟨by rfl, ?_⟩) (by assumption) ?_
              rotate_left 1
              · (intro w hSw; (try dsimp only at hSw); go_simp; (try with_reducible rfl))
              (try simp only [Act.put, List.setIfInBounds_toArray, List.set_cons_zero, List.set_cons_succ])
              refine wpAnyH_take (i := 2) (oi := ({ dst := some 70, op := Op.convert 3 5 (Operand.tmp 69), type := 5, pos := "ref.go:23", after := #[{ on := 1, ground := Ground.data }], guard := none } : Oper)) (v := ?_) rfl (by kernel_rfl) (by kernel_rfl) (by kernel_rfl) (fun _ _ _ h => h) (Or.inl ⟨by rfl, ?_⟩) (by assumption) ?_
              rotate_left 1
              · (intro w hSw; (try dsimp only at hSw); go_simp; (try with_reducible rfl))
              (try simp only [Act.put, List.setIfInBounds_toArray, List.set_cons_zero, List.set_cons_succ])
              refine wpAnyH_take (i := 5) (oi := ({ dst := some 73, op := Op.move (Operand.tmp 0), type := 22, pos := "ref.go:23", after := #[], guard := none } : Oper)) (v := ?_) rfl (by kernel_rfl) (by kernel_rfl) (by kernel_rfl) (fun _ _ _ h => h) (Or.inl ⟨by rfl, ?_⟩) (by assumption) ?_
              rotate_left 1
              · (intro w hSw; (try dsimp only at hSw); go_simp; (try with_reducible rfl))
              (try simp only [Act.put, List.setIfInBounds_toArray, List.set_cons_zero, List.set_cons_succ])
              refine wpAnyH_take (i := 6) (oi := ({ dst := some 74, op := Op.move (Operand.tmp 4), type := 3, pos := "ref.go:23", after := #[], guard := none } : Oper)) (v := ?_) rfl (by kernel_rfl) (by kernel_rfl) (by kernel_rfl) (fun _ _ _ h => h) (Or.inl ⟨by rfl, ?_⟩) (by assumption) ?_
              rotate_left 1
              · (intro w hSw; (try dsimp only at hSw); go_simp; (try with_reducible rfl))
              (try simp only [Act.put, List.setIfInBounds_toArray, List.set_cons_zero, List.set_cons_succ])
              refine wpAnyH_take (i := 7) (oi := ({ dst := some 75, op := Op.move (Operand.tmp 4), type := 3, pos := "ref.go:23", after := #[], guard := none } : Oper)) (v := ?_) rfl (by kernel_rfl) (by kernel_rfl) (by kernel_rfl) (fun _ _ _ h => h) (Or.inl ⟨by rfl, ?_⟩) (by assumption) ?_
              rotate_left 1
              · (intro w hSw; (try dsimp only at hSw); go_simp; (try with_reducible rfl))
              (try simp only [Act.put, List.setIfInBounds_toArray, List.set_cons_zero, List.set_cons_succ])
              refine wpAnyH_take (i := 8) (oi := ({ dst := some 76, op := Op.move (Operand.tmp 5), type := 3, pos := "ref.go:23", after := #[], guard := none } : Oper)) (v := ?_) rfl (by kernel_rfl) (by kernel_rfl) (by kernel_rfl) (fun _ _ _ h => h) (Or.inl ⟨by rfl, ?_⟩) (by assumption) ?_
              rotate_left 1
              · (intro w hSw; (try dsimp only at hSw); go_simp; (try with_reducible rfl))
              (try simp only [Act.put, List.setIfInBounds_toArray, List.set_cons_zero, List.set_cons_succ])
              refine wpAnyH_take (i := 9) (oi := ({ dst := some 77, op := Op.binOp BinOp.add 3 (Operand.tmp 75) (Operand.tmp 76) 3, type := 3, pos := "ref.go:23", after := #[{ on := 7, ground := Ground.data }, { on := 8, ground := Ground.data }], guard := none } : Oper)) (v := ?_) rfl (by kernel_rfl) (by kernel_rfl) (by kernel_rfl) (fun _ _ _ h => h) (Or.inl ⟨by rfl, ?_⟩) (by assumption) ?_
              rotate_left 1
              · (intro w hSw; (try dsimp only at hSw); go_simp; (try with_reducible rfl))
              (try simp only [Act.put, List.setIfInBounds_toArray, List.set_cons_zero, List.set_cons_succ])
              refine wpAnyH_take (i := 10) (oi := ({ dst := some 78, op := Op.slice 22 (Operand.tmp 73) (some (Operand.tmp 74)) (some (Operand.tmp 77)) none, type := 22, pos := "ref.go:23", after := #[{ on := 5, ground := Ground.data }, { on := 6, ground := Ground.data }, { on := 9, ground := Ground.data }], guard := none } : Oper)) (v := ?_) rfl (by kernel_rfl) (by kernel_rfl) (by kernel_rfl) (fun _ _ _ h => h) (Or.inl ⟨by rfl, ?_⟩) (by assumption) ?_
              rotate_left 1
              · (intro w hSw; (try dsimp only at hSw); go_simp; (try with_reducible rfl))
              (try simp only [Act.put, List.setIfInBounds_toArray, List.set_cons_zero, List.set_cons_succ])
              refine wpAnyH_ready (rs := [3]) (by kernel_rfl) (by simp) ?_
              refine AllReadyH.cons (o := ({ dst := some 71, op := Op.buildSlice 22 1 #[(0, Operand.tmp 70)], type := 22, pos := "ref.go:23", after := #[{ on := 2, ground := Ground.data }], guard := none } : Oper)) rfl (fun K hK => ?_) ?_
              rotate_left 1
              · exact AllReadyH.nil
              go_simp
              first | (refine hK.out _ _ ?_ (fun hH1 => ?_)) | (go_wp2_with fail; refine hK.out _ _ ?_ (fun hH1 => ?_))
              · trivial
              clear hK K hH0
              (try simp only [Act.put, List.setIfInBounds_toArray, List.set_cons_zero, List.set_cons_succ])
              refine wpAnyH_ready (rs := [4]) (by kernel_rfl) (by simp) ?_
              refine AllReadyH.cons (o := ({ dst := some 72, op := Op.call { callee := Callee.builtin Builtin.append, args := #[Operand.tmp 68, Operand.tmp 71], argTypes := #[22, 22] }, type := 22, pos := "ref.go:23", after := #[{ on := 0, ground := Ground.data }, { on := 3, ground := Ground.data }], guard := none } : Oper)) rfl (fun K hK => ?_) ?_
              rotate_left 1
              · exact AllReadyH.nil
              (refine step_appY rfl _ (.tmp 68) (.tmp 71) rfl w.heap.size _ _ P [(q : Int)] rfl (Els.Own.drew (Els.Own.alloc O1.out _)) rfl (rdY_lit1 _ _ _) (by have := HPl.out; simp; omega) (by have := B1.out.size; simp; omega) ?_; intro v2 w2 ho2 hb2 hg2 hw2; have O2 := Lib.hid ho2; have B2 := Lib.hid ((Below.alloc (Below.drewN0 B1.out 1) (by have := B1.out.size; simp; omega) _).trans hb2); clear ho2 hb2 hg2 hw2)
              first | (refine hK.out _ _ ?_ (fun hH2 => ?_)) | (go_wp2_with fail; refine hK.out _ _ ?_ (fun hH2 => ?_))
              · trivial
              clear hK K hH1
              (try simp only [Act.put, List.setIfInBounds_toArray, List.set_cons_zero, List.set_cons_succ])
              refine wpAnyH_ready (rs := [11]) (by kernel_rfl) (by simp) ?_
              refine AllReadyH.cons (o := ({ dst := some 79, op := Op.call { callee := Callee.builtin Builtin.append, args := #[Operand.tmp 72, Operand.tmp 78], argTypes := #[22, 22] }, type := 22, pos := "ref.go:23", after := #[{ on := 4, ground := Ground.data }, { on := 10, ground := Ground.data }, { on := 4, ground := Ground.chain }], guard := none } : Oper)) rfl (fun K hK => ?_) ?_
              rotate_left 1
              · exact AllReadyH.nil
              (refine step_appY rfl _ (.tmp 72) (.tmp 78) rfl w.heap.size _ _ _ ((zs.take (k + q)).drop k) rfl O2.out rfl (rdY_part (a := k) (b := k + q) (m := q) (HSS.out.below B2.out).rd (by rw [HL.out]; omega) (by omega)) (by have := HPl.out; have := HL.out; simp; omega) (by have := B2.out.size; omega) ?_; intro v3 w3 ho3 hb3 hg3 hw3; have O3 := Lib.hid ho3; have B3 := Lib.hid (B2.out.trans hb3); clear ho3 hb3 hg3 hw3)
              first | (refine hK.out _ _ ?_ (fun hH3 => ?_)) | (go_wp2_with fail; refine hK.out _ _ ?_ (fun hH3 => ?_))
              · trivial
              clear hK K hH2
              (try simp only [Act.put, List.setIfInBounds_toArray, List.set_cons_zero, List.set_cons_succ])
              refine wpAnyH_take (i := 12) (oi := ({ dst := some 3, op := Op.assign (Operand.tmp 79), type := 22, pos := "ref.go:23", after := #[{ on := 11, ground := Ground.data }, { on := 11, ground := Ground.chain }, { on := 0, ground := Ground.phase }, { on := 1, ground := Ground.phase }, { on := 2, ground := Ground.phase }, { on := 3, ground := Ground.phase }, { on := 4, ground := Ground.phase }, { on := 5, ground := Ground.phase }, { on := 6, ground := Ground.phase }, { on := 7, ground := Ground.phase }, { on := 8, ground := Ground.phase }, { on := 9, ground := Ground.phase }, { on := 10, ground := Ground.phase }, { on := 11, ground := Ground.phase }], guard := none } : Oper)) (v := ?_) rfl (by kernel_rfl) (by kernel_rfl) (by kernel_rfl) (fun _ _ _ h => h) (Or.inl ⟨by rfl, ?_⟩) (by assumption) ?_
              rotate_left 1
              · (intro w hSw; (try dsimp only at hSw); go_simp; (try with_reducible rfl))
              (try simp only [Act.put, List.setIfInBounds_toArray, List.set_cons_zero, List.set_cons_succ])
              refine wpAnyH_done (by kernel_rfl) ?_ _
              refine NoPanic.normal ?_
              go_wp2
              go_roundw
              case rel => exact ⟨k + q, _, by have := HR.out; omega, by go_num, O3, Lib.hid (by rw [← hP.out, HEE.out, ← List.drop_drop, List.drop_take, show k + q - k = q by omega]; simp [List.append_assoc]), B3⟩
              case measure => have := HR.out; simp [intOf] <;> omega
      · rw [ht] at T3 CT
        have HE := Lib.hid (packL_run (zs.drop k) (by rw [HD.out]; omega) ht)
        obtain ⟨m, hm⟩ : ∃ m, min (n - k) 128 = m := ⟨_, rfl⟩
        have hA : Hid (aN (zs.drop k) = scan (fun q => iat (zs.drop k) q == iat (zs.drop k) 0) m 1) := Lib.hid (by unfold aN; rw [HD.out, hm])
        have r3 : 3 ≤ aN (zs.drop k) := by have := T3.out; simpa using this
        have R3 := Lib.hid r3
        have m1 : m ≤ n - k := by omega
        have m2 : m ≤ 128 := by omega
        have m3 : 1 ≤ m := by omega
        have HM := Lib.hid hm
        clear ht RU r3 hm
        go_wp2_with fail
        refine CT.out.mono ?_
        rintro e w1 ⟨rfl, j1, rfl⟩
        have c0 := HSw.out.at_ k hlt
        go_wp2
        go_loopw [5] (fun i wr => ∃ q : Nat, 1 ≤ q ∧ q ≤ m ∧ i = .int .i64 q ∧ Hid (aN (zs.drop k) = scan (fun q => iat (zs.drop k) q == iat (zs.drop k) 0) m q) ∧ ∃ j, wr = wo.drewN j) (fun i _ => m - (intOf i).toNat)
        case atStart => exact ⟨1, Nat.le_refl _, m3, rfl, hA, _, rfl⟩
        case round =>
          obtain ⟨q, hq1, hq, rfl, hSc, j, rfl⟩ := hrel
          have q0 : (0 : Int) ≤ q := by omega
          have e1 : IntKind.i64.wrap ((k : Int) + (q : Int)) = (k : Int) + (q : Int) := IntWalk.i64_in _ (by omega)
          have e3 : ((k : Int) + (q : Int)).toNat = k + q := by omega
          have e5 : (0 : Int) ≤ (k : Int) + (q : Int) := by omega
          by_cases hqm : q < m
          · have c1 := HSw.out.at_ (k + q) (by omega)
            have d1 : decide ((k : Int) + (q : Int) < (n : Int)) = true := by rw [decide_eq_true_eq]; omega
            have d2 : decide ((q : Int) < 128) = true := by rw [decide_eq_true_eq]; omega
            have d3 : (k : Int) + (q : Int) < (n : Int) := by omega
            cases hqq : iat zs (k + q) == iat zs k
            · have HQ : Hid (aN (zs.drop k) = q) := Lib.hid (by
                rw [hSc.out, scan_stop _ _ _ (by simp only [iat_drop, Nat.add_zero, hqq]; simp)])
              have r3 := R3.out
              have rA := RA.out
              rw [HQ.out] at r3 rA
              rw [HD.out] at rA
              have HEE := Lib.hid HE.out
              rw [HQ.out] at HEE
              have a1 : (256 - (q : Int)) % 256 = 256 - (q : Int) := by omega
              have HR := Lib.hid rA
              clear r3 rA
              go_wp2
              go_quiet (fail)
              go_wp2_with (at_builtin; refine wpList_appY rfl _ (.tmp 38) (.tmp 46) rfl w.heap.size _ _ P [256 - (q : Int), iat zs k] rfl (Els.Own.alloc (Els.Own.drewN hO.out _) _) rfl (rdY_lit2 _ _ _ _) (by have := HPl.out; simp; omega) (by have := hB.out.size; simp; omega) ?_; intro v2 w2 ho2 hb2 hg2 _; have O2 := Lib.hid ho2; have B2 := Lib.hid ((Below.alloc (Below.drewN0 hB.out _) (by have := hB.out.size; simp; omega) _).trans hb2); clear ho2 hb2 hg2)
              go_roundw
              case rel => exact ⟨k + q, _, by have := HR.out; omega, by go_num, O2, Lib.hid (by rw [← hP.out, HEE.out, ← List.drop_drop, iat_drop, Nat.add_zero]; simp [List.append_assoc]), B2⟩
              case measure => have := HR.out; simp [intOf] <;> omega
            · have HQ : Hid (aN (zs.drop k) = scan (fun q => iat (zs.drop k) q == iat (zs.drop k) 0) m (q + 1)) := Lib.hid (by
                rw [hSc.out, scan_go _ _ _ hqm (by simp only [iat_drop, Nat.add_zero, hqq])])
              go_wp2
              go_quiet (fail)
              go_wp2
              go_roundw
              case rel => exact ⟨q + 1, by omega, by omega, by go_num, HQ, by first | exact ⟨_, rfl⟩ | exact ⟨_, World.drewN_drewN _ _ _⟩⟩
              case measure => simp [intOf] <;> omega
          · have HQ : Hid (aN (zs.drop k) = q) := Lib.hid (by rw [hSc.out, scan_stop _ _ _ (by omega)])
            by_cases hkn : k + q < n
            · have d1 : decide ((k : Int) + (q : Int) < (n : Int)) = true := by rw [decide_eq_true_eq]; omega
              have d2 : decide ((q : Int) < 128) = false := by rw [decide_eq_false_iff_not]; have := HM.out; omega
              have r3 := R3.out
              have rA := RA.out
              rw [HQ.out] at r3 rA
              rw [HD.out] at rA
              have HEE := Lib.hid HE.out
              rw [HQ.out] at HEE
              have a1 : (256 - (q : Int)) % 256 = 256 - (q : Int) := by omega
              have HR := Lib.hid rA
              clear r3 rA
              go_wp2
              go_quiet (fail)
              go_wp2_with (at_builtin; refine wpList_appY rfl _ (.tmp 38) (.tmp 46) rfl w.heap.size _ _ P [256 - (q : Int), iat zs k] rfl (Els.Own.alloc (Els.Own.drewN hO.out _) _) rfl (rdY_lit2 _ _ _ _) (by have := HPl.out; simp; omega) (by have := hB.out.size; simp; omega) ?_; intro v2 w2 ho2 hb2 hg2 _; have O2 := Lib.hid ho2; have B2 := Lib.hid ((Below.alloc (Below.drewN0 hB.out _) (by have := hB.out.size; simp; omega) _).trans hb2); clear ho2 hb2 hg2)
              go_roundw
              case rel => exact ⟨k + q, _, by have := HR.out; omega, by go_num, O2, Lib.hid (by rw [← hP.out, HEE.out, ← List.drop_drop, iat_drop, Nat.add_zero]; simp [List.append_assoc]), B2⟩
              case measure => have := HR.out; simp [intOf] <;> omega
            · have d1 : decide ((k : Int) + (q : Int) < (n : Int)) = false := by rw [decide_eq_false_iff_not]; omega
              have r3 := R3.out
              have rA := RA.out
              rw [HQ.out] at r3 rA
              rw [HD.out] at rA
              have HEE := Lib.hid HE.out
              rw [HQ.out] at HEE
              have a1 : (256 - (q : Int)) % 256 = 256 - (q : Int) := by omega
              have HR := Lib.hid rA
              clear r3 rA
              go_wp2
              go_quiet (fail)
              go_wp2_with (at_builtin; refine wpList_appY rfl _ (.tmp 38) (.tmp 46) rfl w.heap.size _ _ P [256 - (q : Int), iat zs k] rfl (Els.Own.alloc (Els.Own.drewN hO.out _) _) rfl (rdY_lit2 _ _ _ _) (by have := HPl.out; simp; omega) (by have := hB.out.size; simp; omega) ?_; intro v2 w2 ho2 hb2 hg2 _; have O2 := Lib.hid ho2; have B2 := Lib.hid ((Below.alloc (Below.drewN0 hB.out _) (by have := hB.out.size; simp; omega) _).trans hb2); clear ho2 hb2 hg2)
              go_roundw
              case rel => exact ⟨k + q, _, by have := HR.out; omega, by go_num, O2, Lib.hid (by rw [← hP.out, HEE.out, ← List.drop_drop, iat_drop, Nat.add_zero]; simp [List.append_assoc]), B2⟩
              case measure => have := HR.out; simp [intOf] <;> omega
    · obtain rfl : k = n := by omega
      have HE : Hid (P = packL zs) := Lib.hid (by
        have e1 := hP.out
        rw [packL_nil (zs.drop k) (by rw [List.length_drop, HL.out]; omega), List.append_nil] at e1
        exact e1)
      go_wp2
      go_ret
      exact ⟨_, rfl, by rw [← HE.out]; exact hO.out, hB.out⟩
end Go.Proofs.Ytnhafficnomlbaa
