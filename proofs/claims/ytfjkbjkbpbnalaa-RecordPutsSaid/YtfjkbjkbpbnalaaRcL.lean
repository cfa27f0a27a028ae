/- Records: record.Put; the library's Equal on records; record.Lines. -/
import Derived.Test.YtfjkbjkbpbnalaaRcZ
import Derived.Test.YtfjkbjkbpbnalaaRcR
import Derived.Test.YtfjkbjkbpbnalaaOct
import Derived.Test.YtfjkbjkbpbnalaaBld
import Derived.Test.YtfjkbjkbpbnalaaShelf
import Derived.Deep.RegionHeld3
import Derived.BigQuiet
import Derived.Deep.DeepCutAuto
namespace Go.Proofs.Ytfjkbjkbpbnalaa
open Go.ChangeShapes Go.WideShapes Go.ChangeAt Go.RowKit
set_option linter.unusedVariables false

theorem or_fin : ∀ k : Fin 7, ∀ s : Fin 64, s.val < 2 ^ k.val → bits .or .u8 (s.val : Int) ((2 ^ k.val : Nat) : Int) = (s.val : Int) + ((2 ^ k.val : Nat) : Int) := by decide +kernel
theorem pwN_pow : ∀ k : Fin 7, pwN k.val = ((2 ^ k.val : Nat) : Int) := by decide +kernel
theorem or_sm (k : Nat) (hk : k < 7) (s : Int) (h0 : 0 ≤ s) (h1 : s < pwN k) (h2 : pwN k ≤ 64) : bits .or .u8 s (pwN k) = s + pwN k := by
  have e := pwN_pow ⟨k, hk⟩
  simp only at e
  have := or_fin ⟨k, hk⟩ ⟨s.toNat, by omega⟩ (by simp only; omega)
  simp only [Int.toNat_of_nonneg h0] at this
  rw [e]
  exact this
set_option maxRecDepth 100000 in
set_option maxHeartbeats 2000000 in
theorem rcPuts_any (v : Value) (l : List Rc) (w : World) (hr : eR.Rd w v l) (hok : ∀ x ∈ l, x.Ok) (hn : l.length ≤ 1000) :
    Calls Try.prog 19 #[v] w fun e w' => ∃ v', e = .returned v' ∧ Own .u8 5 w' w.heap.size v' (l.flatMap puN) ∧ Below w.heap.size w w' := by
  obtain ⟨A, c, rfl, hc⟩ := hr.open_
  obtain ⟨n, hl⟩ : ∃ n, l.length = n := ⟨_, rfl⟩
  rw [hl] at hc hn ⊢
  have HL := Lib.hid hl
  have HC := Lib.hid hc
  have HOK := Lib.hid hok
  have HPL : Hid (∀ m : List Rc, (m.flatMap puN).length = 4 * m.length) := Lib.hid (fun m => by
    induction m with
    | nil => rfl
    | cons x m ih => rw [List.flatMap_cons, List.length_append, ih, List.length_cons]; simp [puN]; omega)
  obtain ⟨W3, v3, hmk, hown, hgr, hlt3⟩ := make_own8 w w.heap.size (4 * n) (by omega) (Nat.le_refl _)
  rw [show ((4 * n : Nat) : Int) = 4 * (n : Int) by omega] at hmk
  have HO3 := Lib.hid hown
  have B3 : Hid (Below w.heap.size w W3) := Lib.hid (below_own hgr (by intro g e; cases e) (Nat.le_refl _))
  clear hr hc hl hown hgr hlt3 hok
  go_enter Try.func19, Try.ntmps19
  go_wp2
  clear hmk
  go_loopw [3, 15] (fun u3 i wr => ∃ k : Nat, k ≤ n ∧ i = .int .i64 k ∧ Hid (Own .u8 5 wr w.heap.size u3 ((l.take k).flatMap puN)) ∧ Hid (Below w.heap.size w wr)) (fun _ i _ => n - (intOf i).toNat)
  case atStart => exact ⟨0, Nat.zero_le _, rfl, HO3, B3⟩
  case round =>
    obtain ⟨k, hk, rfl, HO, HB⟩ := hrel
    by_cases hlt : k < n
    · obtain ⟨g, off, rfl, hg, hcell⟩ := HC.out (by omega)
      obtain ⟨x, hx⟩ : ∃ x, l[k]? = some x := ⟨_, List.getElem?_eq_getElem (by rw [HL.out]; exact hlt)⟩
      have hxo := HOK.out x (List.mem_of_getElem? hx)
      obtain ⟨xa, xd, xr, xb1, xb2, xb3, xb4, xb5, xm⟩ := x
      have hcx := fun j u (h : (eR.enc (⟨xa, xd, xr, xb1, xb2, xb3, xb4, xb5, xm⟩ : Rc))[j]? = some u) => (HB.out.cell (p := ⟨g, off + (k * 9 + j), none⟩) hg).trans (hcell k (⟨xa, xd, xr, xb1, xb2, xb3, xb4, xb5, xm⟩ : Rc) hx j u h)
      have d0 : wr.cell? ⟨g, off + k * 9, none⟩ = some (.int .u16 xa) := hcx 0 _ rfl
      have d1 : wr.cell? ⟨g, off + k * 9 + 1, none⟩ = some (.int .u8 xd) := hcx 1 _ rfl
      have d2 : wr.cell? ⟨g, off + k * 9 + 2, none⟩ = some (.bool xr) := hcx 2 _ rfl
      have d3 : wr.cell? ⟨g, off + k * 9 + 3, none⟩ = some (.bool xb1) := hcx 3 _ rfl
      have d4 : wr.cell? ⟨g, off + k * 9 + 4, none⟩ = some (.bool xb2) := hcx 4 _ rfl
      have d5 : wr.cell? ⟨g, off + k * 9 + 5, none⟩ = some (.bool xb3) := hcx 5 _ rfl
      have d6 : wr.cell? ⟨g, off + k * 9 + 6, none⟩ = some (.bool xb4) := hcx 6 _ rfl
      have d7 : wr.cell? ⟨g, off + k * 9 + 7, none⟩ = some (.bool xb5) := hcx 7 _ rfl
      have d8 : wr.cell? ⟨g, off + k * 9 + 8, none⟩ = some (.bool xm) := hcx 8 _ rfl
      have HT : Hid (l.take (k + 1) = l.take k ++ [(⟨xa, xd, xr, xb1, xb2, xb3, xb4, xb5, xm⟩ : Rc)]) := Lib.hid (by rw [List.take_succ_eq_append_getElem (by rw [HL.out]; exact hlt)]; congr 2; have := List.getElem?_eq_getElem (l := l) (i := k) (by rw [HL.out]; exact hlt); rw [hx] at this; exact (Option.some.inj this).symm)
      have HLT : Hid (((l.take k).flatMap puN).length ≤ 4000) := Lib.hid (by rw [HPL.out, List.length_take]; omega)
      have CO := Lib.hid (fun u => rcOf_any (⟨xa, xd, xr, xb1, xb2, xb3, xb4, xb5, xm⟩ : Rc) u)
      have t0 : (0 : Int) ≤ k := by omega
      have t1 : (k : Int) < n := by omega
      clear hcell hx hcx
      go_wp2_with fail
      refine (CO.out _).mono ?_
      rintro e W4 ⟨rfl, hb⟩
      have HO4 := Lib.hid (Own.below (HO.out.alloc _) hb (fun g' e => (HO.out.alloc _ |>.lt g' e).2))
      have HB4 := Lib.hid (Below.trans0 (Below.alloc0 HB.out _) hb)
      have hP := Blk.below (Blk.new wr 37 (⟨xa, xd, xr, xb1, xb2, xb3, xb4, xb5, xm⟩ : Rc).cells (0, 0)) hb (by simp)
      obtain ⟨x0, x1, -⟩ := Blk.c9 hP
      obtain ⟨bt, hbt⟩ : ∃ bt, wr.heap.size = bt := ⟨_, rfl⟩
      have HOT : Hid (∀ g', u3.ownBlock = some g' → g' < bt) := Lib.hid (fun g' e => by rw [← hbt]; exact (HO.out.lt g' e).2)
      rw [hbt] at x0 x1 ⊢
      have HBT : Hid (bt < W4.heap.size) := Lib.hid (by rw [← hbt]; exact hP.lt)
      clear hb d0 d1 d2 d3 d4 d5 d6 d7 d8 hP hbt
      go_wp2
      go_loop [6, 21] (fun s i => ∃ j : Nat, j ≤ 7 ∧ i = .int .i64 j ∧ s = .int .u8 (smN (⟨xa, xd, xr, xb1, xb2, xb3, xb4, xb5, xm⟩ : Rc) j)) (fun _ i => 7 - (intOf i).toNat)
      case atStart => exact ⟨0, by decide, rfl, rfl⟩
      case round =>
        obtain ⟨j, hj, rfl, rfl⟩ := hrel
        by_cases hlj : j < 7
        · obtain ⟨b0, b1⟩ := smN_bd (⟨xa, xd, xr, xb1, xb2, xb3, xb4, xb5, xm⟩ : Rc) j hj
          obtain ⟨e1, e2, e3⟩ := pwN_next j hlj
          have SN := Lib.hid (show smN (⟨xa, xd, xr, xb1, xb2, xb3, xb4, xb5, xm⟩ : Rc) (j + 1) = smN (⟨xa, xd, xr, xb1, xb2, xb3, xb4, xb5, xm⟩ : Rc) j + if lvB (⟨xa, xd, xr, xb1, xb2, xb3, xb4, xb5, xm⟩ : Rc) j then pwN j else 0 from rfl)
          have hor := or_sm j hlj (smN (⟨xa, xd, xr, xb1, xb2, xb3, xb4, xb5, xm⟩ : Rc) j) b0 b1 e3
          have hix : ∀ u, (Instr.index 84 (.agg #[.bool xr, .bool xb1, .bool xb2, .bool xb3, .bool xb4, .bool xb5, .bool xm]) (.int .i64 (j : Int))).run Try.prog u = .ok (.bool (lvB (⟨xa, xd, xr, xb1, xb2, xb3, xb4, xb5, xm⟩ : Rc) j)) u := by
            intro u
            rcases lt7 hlj with rfl | rfl | rfl | rfl | rfl | rfl | rfl <;> (go_simp; rfl)
          have hpw : (2 : Int) ^ j % 256 = pwN j := by
            rcases lt7 hlj with rfl | rfl | rfl | rfl | rfl | rfl | rfl <;> decide
          have t2 : (0 : Int) ≤ j := by omega
          have t3 : (j : Int) < 7 := by omega
          generalize smN (⟨xa, xd, xr, xb1, xb2, xb3, xb4, xb5, xm⟩ : Rc) j = S at b0 b1 SN hor ⊢
          generalize pwN j = V at e2 e3 SN hor hpw ⊢
          generalize lvB (⟨xa, xd, xr, xb1, xb2, xb3, xb4, xb5, xm⟩ : Rc) j = bt2 at hix SN
          have HSN := Lib.hid SN
          have HOR := Lib.hid hor
          have HPW := Lib.hid hpw
          clear b0 b1 SN e1 e2 e3 hor hpw
          cases bt2
          · go_wp2
            go_round
            case rel => exact ⟨j + 1, by omega, by go_num, by rw [HSN.out]; simp⟩
            case measure => simp [intOf]; omega
          · go_wp2
            go_round
            case rel => exact ⟨j + 1, by omega, by go_num, by rw [HSN.out, HPW.out, HOR.out]; simp⟩
            case measure => simp [intOf]; omega
        · obtain rfl : j = 7 := by omega
          have HX7 : Hid (puN (⟨xa, xd, xr, xb1, xb2, xb3, xb4, xb5, xm⟩ : Rc) = [xa / 256, xa % 256, xd, smN (⟨xa, xd, xr, xb1, xb2, xb3, xb4, xb5, xm⟩ : Rc) 7]) := Lib.hid rfl
          obtain ⟨b0, b1⟩ := smN_bd (⟨xa, xd, xr, xb1, xb2, xb3, xb4, xb5, xm⟩ : Rc) 7 (by omega)
          have a0 : 0 ≤ xa := hxo.a0
          have a1 : xa < 65536 := hxo.a1
          have a2 : 0 ≤ xd := hxo.d0
          have a3 : xd < 256 := hxo.d1
          have CH := Lib.hid (fun u => high_any xa u a0 a1)
          have CL := Lib.hid (fun u => low_any xa u a0 a1)
          generalize smN (⟨xa, xd, xr, xb1, xb2, xb3, xb4, xb5, xm⟩ : Rc) 7 = S at *
          have q0 : 0 ≤ xa / 256 := by omega
          clear b0 b1
          have S0 : Hid ((fun w' : World => w'.cell? ⟨bt, 0, none⟩ = some (.int .u16 xa) ∧ w'.cell? ⟨bt, 1, none⟩ = some (.int .u8 xd)) W4.drew) := Lib.hid ⟨x0, x1⟩
          have S1 : Hid (∀ z : Obj, (fun w' : World => w'.cell? ⟨bt, 0, none⟩ = some (.int .u16 xa) ∧ w'.cell? ⟨bt, 1, none⟩ = some (.int .u8 xd)) (W4.alloc z).drew) := Lib.hid (fun z => ⟨((Below.alloc0 (Below.refl _ W4) z).cell (p := ⟨bt, 0, none⟩) HBT.out).trans x0, ((Below.alloc0 (Below.refl _ W4) z).cell (p := ⟨bt, 1, none⟩) HBT.out).trans x1⟩)
          go_upto_region 12 with (fail)
          refine wp_region_noPanic ?_
          refine wp_region_held_drew (S := (fun w' : World => w'.cell? ⟨bt, 0, none⟩ = some (.int .u16 xa) ∧ w'.cell? ⟨bt, 1, none⟩ = some (.int .u8 xd))) (by kernel_rfl) ?_ (fun hH0 => ?_)
          · (try dsimp only); with_reducible exact S0.out
          refine wpAnyH_take (i := 0) (oi := ({ dst := some 31, op := Op.move (Operand.tmp 3), type := 33, pos := "record.go:41", after := #[], guard := none } : Oper)) (v := ?_) rfl (by kernel_rfl) (by kernel_rfl) (by kernel_rfl) (fun _ _ _ h => h) (Or.inl ⟨by rfl, ?_⟩) (by assumption) ?_
          rotate_left 1
          · (intro w hSw; (try dsimp only at hSw); go_simp; (try with_reducible rfl))
          (try simp only [Act.put, List.setIfInBounds_toArray, List.set_cons_zero, List.set_cons_succ])
          refine wpAnyH_take (i := 1) (oi := ({ dst := some 32, op := Op.fieldAddr 37 (Operand.tmp 5) 0, type := 0, pos := "record.go:41", after := #[], guard := none } : Oper)) (v := ?_) rfl (by kernel_rfl) (by kernel_rfl) (by kernel_rfl) (fun _ _ _ h => h) (Or.inl ⟨by rfl, ?_⟩) (by assumption) ?_
          rotate_left 1
          · (intro w hSw; (try dsimp only at hSw); go_simp; (try with_reducible rfl))
          (try simp only [Act.put, List.setIfInBounds_toArray, List.set_cons_zero, List.set_cons_succ])
          refine wpAnyH_take (i := 2) (oi := ({ dst := some 33, op := Op.load 35 (Operand.tmp 32), type := 35, pos := "record.go:41", after := #[{ on := 1, ground := Ground.data }], guard := none } : Oper)) (v := ?_) rfl (by kernel_rfl) (by kernel_rfl) (by kernel_rfl) (fun _ _ _ h => h) (Or.inl ⟨by rfl, ?_⟩) (by assumption) ?_
          rotate_left 1
          · (intro w hSw; (try dsimp only at hSw); go_simp; (try with_reducible rfl))
          (try simp only [Act.put, List.setIfInBounds_toArray, List.set_cons_zero, List.set_cons_succ])
          refine wpAnyH_take (i := 4) (oi := ({ dst := some 35, op := Op.fieldAddr 37 (Operand.tmp 5) 0, type := 0, pos := "record.go:41", after := #[], guard := none } : Oper)) (v := ?_) rfl (by kernel_rfl) (by kernel_rfl) (by kernel_rfl) (fun _ _ _ h => h) (Or.inl ⟨by rfl, ?_⟩) (by assumption) ?_
          rotate_left 1
          · (intro w hSw; (try dsimp only at hSw); go_simp; (try with_reducible rfl))
          (try simp only [Act.put, List.setIfInBounds_toArray, List.set_cons_zero, List.set_cons_succ])
          refine wpAnyH_take (i := 5) (oi := ({ dst := some 36, op := Op.load 35 (Operand.tmp 35), type := 35, pos := "record.go:41", after := #[{ on := 4, ground := Ground.data }], guard := none } : Oper)) (v := ?_) rfl (by kernel_rfl) (by kernel_rfl) (by kernel_rfl) (fun _ _ _ h => h) (Or.inl ⟨by rfl, ?_⟩) (by assumption) ?_
          rotate_left 1
          · (intro w hSw; (try dsimp only at hSw); go_simp; (try with_reducible rfl))
          (try simp only [Act.put, List.setIfInBounds_toArray, List.set_cons_zero, List.set_cons_succ])
          refine wpAnyH_take (i := 7) (oi := ({ dst := some 38, op := Op.fieldAddr 37 (Operand.tmp 5) 1, type := 0, pos := "record.go:41", after := #[], guard := none } : Oper)) (v := ?_) rfl (by kernel_rfl) (by kernel_rfl) (by kernel_rfl) (fun _ _ _ h => h) (Or.inl ⟨by rfl, ?_⟩) (by assumption) ?_
          rotate_left 1
          · (intro w hSw; (try dsimp only at hSw); go_simp; (try with_reducible rfl))
          (try simp only [Act.put, List.setIfInBounds_toArray, List.set_cons_zero, List.set_cons_succ])
          refine wpAnyH_take (i := 8) (oi := ({ dst := some 39, op := Op.load 5 (Operand.tmp 38), type := 5, pos := "record.go:41", after := #[{ on := 7, ground := Ground.data }], guard := none } : Oper)) (v := ?_) rfl (by kernel_rfl) (by kernel_rfl) (by kernel_rfl) (fun _ _ _ h => h) (Or.inl ⟨by rfl, ?_⟩) (by assumption) ?_
          rotate_left 1
          · (intro w hSw; (try dsimp only at hSw); go_simp; (try with_reducible rfl))
          (try simp only [Act.put, List.setIfInBounds_toArray, List.set_cons_zero, List.set_cons_succ])
          refine wpAnyH_take (i := 9) (oi := ({ dst := some 40, op := Op.move (Operand.tmp 6), type := 5, pos := "record.go:41", after := #[], guard := none } : Oper)) (v := ?_) rfl (by kernel_rfl) (by kernel_rfl) (by kernel_rfl) (fun _ _ _ h => h) (Or.inl ⟨by rfl, ?_⟩) (by assumption) ?_
          rotate_left 1
          · (intro w hSw; (try dsimp only at hSw); go_simp; (try with_reducible rfl))
          (try simp only [Act.put, List.setIfInBounds_toArray, List.set_cons_zero, List.set_cons_succ])
          refine wpAnyH_ready (rs := [3]) (by kernel_rfl) (by simp) ?_
          refine AllReadyH.cons (o := ({ dst := some 34, op := Op.call { callee := Callee.value (Operand.func 54), args := #[Operand.tmp 33], argTypes := #[35] }, type := 5, pos := "record.go:41", after := #[{ on := 2, ground := Ground.data }], guard := none } : Oper)) rfl (fun K hK => ?_) ?_
          rotate_left 1
          · exact AllReadyH.nil
          go_simp
          go_at_call 54
          ((with_reducible refine (CH.out _).mono ?_); rintro e w' ⟨rfl, rfl⟩)
          first | (refine hK.out _ _ ?_ (fun hH1 => ?_)) | (go_wp2_with fail; refine hK.out _ _ ?_ (fun hH1 => ?_))
          · (try dsimp only); with_reducible exact S0.out
          clear hK K hH0
          (try simp only [Act.put, List.setIfInBounds_toArray, List.set_cons_zero, List.set_cons_succ])
          refine wpAnyH_ready (rs := [6]) (by kernel_rfl) (by simp) ?_
          refine AllReadyH.cons (o := ({ dst := some 37, op := Op.call { callee := Callee.value (Operand.func 55), args := #[Operand.tmp 36], argTypes := #[35] }, type := 5, pos := "record.go:41", after := #[{ on := 5, ground := Ground.data }, { on := 3, ground := Ground.chain }], guard := none } : Oper)) rfl (fun K hK => ?_) ?_
          rotate_left 1
          · exact AllReadyH.nil
          go_simp
          go_at_call 55
          ((with_reducible refine (CL.out _).mono ?_); rintro e w' ⟨rfl, rfl⟩)
          first | (refine hK.out _ _ ?_ (fun hH2 => ?_)) | (go_wp2_with fail; refine hK.out _ _ ?_ (fun hH2 => ?_))
          · (try dsimp only); with_reducible exact S0.out
          clear hK K hH1
          (try simp only [Act.put, List.setIfInBounds_toArray, List.set_cons_zero, List.set_cons_succ])
          refine wpAnyH_ready (rs := [10]) (by kernel_rfl) (by simp) ?_
          refine AllReadyH.cons (o := ({ dst := some 41, op := Op.buildSlice 33 4 #[(0, Operand.tmp 34), (1, Operand.tmp 37), (2, Operand.tmp 39), (3, Operand.tmp 40)], type := 33, pos := "record.go:41", after := #[{ on := 3, ground := Ground.data }, { on := 6, ground := Ground.data }, { on := 8, ground := Ground.data }, { on := 9, ground := Ground.data }], guard := none } : Oper)) rfl (fun K hK => ?_) ?_
          rotate_left 1
          · exact AllReadyH.nil
          go_simp
          first | (refine hK.out _ _ ?_ (fun hH3 => ?_)) | (go_wp2_with fail; refine hK.out _ _ ?_ (fun hH3 => ?_))
          · (try dsimp only); with_reducible exact S1.out _
          clear hK K hH2
          (try simp only [Act.put, List.setIfInBounds_toArray, List.set_cons_zero, List.set_cons_succ])
          refine wpAnyH_ready (rs := [11]) (by kernel_rfl) (by simp) ?_
          refine AllReadyH.cons (o := ({ dst := some 42, op := Op.call { callee := Callee.builtin Builtin.append, args := #[Operand.tmp 31, Operand.tmp 41], argTypes := #[33, 33] }, type := 33, pos := "record.go:41", after := #[{ on := 0, ground := Ground.data }, { on := 10, ground := Ground.data }, { on := 6, ground := Ground.chain }], guard := none } : Oper)) rfl (fun K hK => ?_) ?_
          rotate_left 1
          · exact AllReadyH.nil
          (refine step_app8 (by rfl) _ _ _ (by rfl) w.heap.size u3 _ (by rfl) (HO4.out.drew.alloc _) ⟨W4.heap.size, 0, none⟩ 4 4 [xa / 256, xa % 256, xd, S] (by rfl) rfl (cells_lit _ _ _ _ _ rfl _ rfl) (by have := HLT.out; simp at this ⊢; omega) (by have := HB4.out.size; simp; omega) ?_; intro v' w7 hown hbel hgr; have HB7 := Lib.hid ((Below.alloc (B := w.heap.size) (Below.drew0 HB4.out) HB4.out.size _).trans hbel); have HS7 : Hid (w7.cell? ⟨bt, 0, none⟩ = some (.int .u16 xa) ∧ w7.cell? ⟨bt, 1, none⟩ = some (.int .u8 xd)) := Lib.hid ⟨(hgr.cell ((S1.out _).1) (by intro e; have := HOT.out bt e.symm; omega)), (hgr.cell ((S1.out _).2) (by intro e; have := HOT.out bt e.symm; omega))⟩)
          first | (refine hK.out _ _ ?_ (fun hH4 => ?_)) | (go_wp2_with fail; refine hK.out _ _ ?_ (fun hH4 => ?_))
          · (try dsimp only); with_reducible exact HS7.out
          clear hK K hH3
          (try simp only [Act.put, List.setIfInBounds_toArray, List.set_cons_zero, List.set_cons_succ])
          refine wpAnyH_take (i := 12) (oi := ({ dst := some 3, op := Op.assign (Operand.tmp 42), type := 33, pos := "record.go:41", after := #[{ on := 11, ground := Ground.data }, { on := 11, ground := Ground.chain }, { on := 0, ground := Ground.phase }, { on := 1, ground := Ground.phase }, { on := 2, ground := Ground.phase }, { on := 3, ground := Ground.phase }, { on := 4, ground := Ground.phase }, { on := 5, ground := Ground.phase }, { on := 6, ground := Ground.phase }, { on := 7, ground := Ground.phase }, { on := 8, ground := Ground.phase }, { on := 9, ground := Ground.phase }, { on := 10, ground := Ground.phase }, { on := 11, ground := Ground.phase }], guard := none } : Oper)) (v := ?_) rfl (by kernel_rfl) (by kernel_rfl) (by kernel_rfl) (fun _ _ _ h => h) (Or.inl ⟨by rfl, ?_⟩) (by assumption) ?_
          rotate_left 1
          · (intro w hSw; (try dsimp only at hSw); go_simp; (try with_reducible rfl))
          (try simp only [Act.put, List.setIfInBounds_toArray, List.set_cons_zero, List.set_cons_succ])
          refine wpAnyH_done (by kernel_rfl) ?_ _
          refine NoPanic.normal ?_
          have HO7 : Hid (Own .u8 5 w7 w.heap.size v' ((l.take (k + 1)).flatMap puN)) := Lib.hid (by rw [HT.out, List.flatMap_append, List.flatMap_cons, List.flatMap_nil, List.append_nil, HX7.out]; exact hown)
          clear hown hbel hgr HS7 S0 S1
          go_wp2
          refine ⟨⟨k + 1, by omega, by go_num, HO7, HB7⟩, ?_⟩
          simp [intOf]; omega
    · have HR : Hid (Own .u8 5 wr w.heap.size u3 (l.flatMap puN)) := Lib.hid (by
        have := HO.out
        rwa [List.take_of_length_le (by rw [HL.out]; omega)] at this)
      go_wp2
      go_ret
      exact ⟨_, rfl, HR.out, HB.out⟩
theorem neq_rcS (x : Rc) (w : World) : (binOp .neq 37 (.agg #[.int .u16 x.a, .int .u8 x.d, .bool x.r, .bool x.b1, .bool x.b2, .bool x.b3, .bool x.b4, .bool x.b5, .bool x.m]) (.agg #[.int .u16 x.a, .int .u8 x.d, .bool x.r, .bool x.b1, .bool x.b2, .bool x.b3, .bool x.b4, .bool x.b5, .bool x.m])).run Try.prog w = .ok (.bool false) w := by
  have e1 : (x.a == x.a) = true := by simp
  have e2 : (x.d == x.d) = true := by simp
  have e3 : (x.r == x.r) = true := by simp
  have e4 : (x.b1 == x.b1) = true := by simp
  have e5 : (x.b2 == x.b2) = true := by simp
  have e6 : (x.b3 == x.b3) = true := by simp
  have e7 : (x.b4 == x.b4) = true := by simp
  have e8 : (x.b5 == x.b5) = true := by simp
  have e9 : (x.m == x.m) = true := by simp
  go_simp
set_option maxRecDepth 100000 in
set_option maxHeartbeats 1000000 in
theorem rcEq_same (v v' : Value) (l : List Rc) (w : World) (h : eR.Rd w v l) (h' : eR.Rd w v' l) (hn : l.length ≤ 1000000) :
    Calls Try.prog 22 #[v, v'] w fun e w' => e = .returned (.bool true) ∧ ∃ k, w' = w.drewN k := by
  obtain ⟨A, c, rfl, hc⟩ := h.open_
  obtain ⟨A', c', rfl, hc'⟩ := h'.open_
  obtain ⟨n, hl⟩ : ∃ n, l.length = n := ⟨_, rfl⟩
  rw [hl] at hc hc' hn ⊢
  have HL := Lib.hid hl
  have H := Lib.hid hc
  have H' := Lib.hid hc'
  clear h h' hc hc' hl
  go_enter Try.func22, Try.ntmps22
  go_wp2
  go_loopw [13] (fun i wr => ∃ k : Nat, k ≤ n ∧ i = .int .i64 k ∧ ∃ j, wr = w.drewN j) (fun i _ => n - (intOf i).toNat)
  case atStart => exact ⟨0, Nat.zero_le _, rfl, 0, rfl⟩
  case round =>
    obtain ⟨k, hk, rfl, j, rfl⟩ := hrel
    by_cases hlt : k < n
    · obtain ⟨b, off, rfl, hb, hcell⟩ := H.out (by omega)
      obtain ⟨b', off', rfl, hb', hcell'⟩ := H'.out (by omega)
      obtain ⟨x, hx⟩ : ∃ x, l[k]? = some x := ⟨_, List.getElem?_eq_getElem (by rw [HL.out]; exact hlt)⟩
      have hcx := fun jj u (h : (eR.enc x)[jj]? = some u) => hcell k x hx jj u h
      have hcy := fun jj u (h : (eR.enc x)[jj]? = some u) => hcell' k x hx jj u h
      have d0 : w.cell? ⟨b, off + k * 9, none⟩ = some (.int .u16 x.a) := hcx 0 _ rfl
      have d1 : w.cell? ⟨b, off + k * 9 + 1, none⟩ = some (.int .u8 x.d) := hcx 1 _ rfl
      have d2 : w.cell? ⟨b, off + k * 9 + 2, none⟩ = some (.bool x.r) := hcx 2 _ rfl
      have d3 : w.cell? ⟨b, off + k * 9 + 3, none⟩ = some (.bool x.b1) := hcx 3 _ rfl
      have d4 : w.cell? ⟨b, off + k * 9 + 4, none⟩ = some (.bool x.b2) := hcx 4 _ rfl
      have d5 : w.cell? ⟨b, off + k * 9 + 5, none⟩ = some (.bool x.b3) := hcx 5 _ rfl
      have d6 : w.cell? ⟨b, off + k * 9 + 6, none⟩ = some (.bool x.b4) := hcx 6 _ rfl
      have d7 : w.cell? ⟨b, off + k * 9 + 7, none⟩ = some (.bool x.b5) := hcx 7 _ rfl
      have d8 : w.cell? ⟨b, off + k * 9 + 8, none⟩ = some (.bool x.m) := hcx 8 _ rfl
      have f0 : w.cell? ⟨b', off' + k * 9, none⟩ = some (.int .u16 x.a) := hcy 0 _ rfl
      have f1 : w.cell? ⟨b', off' + k * 9 + 1, none⟩ = some (.int .u8 x.d) := hcy 1 _ rfl
      have f2 : w.cell? ⟨b', off' + k * 9 + 2, none⟩ = some (.bool x.r) := hcy 2 _ rfl
      have f3 : w.cell? ⟨b', off' + k * 9 + 3, none⟩ = some (.bool x.b1) := hcy 3 _ rfl
      have f4 : w.cell? ⟨b', off' + k * 9 + 4, none⟩ = some (.bool x.b2) := hcy 4 _ rfl
      have f5 : w.cell? ⟨b', off' + k * 9 + 5, none⟩ = some (.bool x.b3) := hcy 5 _ rfl
      have f6 : w.cell? ⟨b', off' + k * 9 + 6, none⟩ = some (.bool x.b4) := hcy 6 _ rfl
      have f7 : w.cell? ⟨b', off' + k * 9 + 7, none⟩ = some (.bool x.b5) := hcy 7 _ rfl
      have f8 : w.cell? ⟨b', off' + k * 9 + 8, none⟩ = some (.bool x.m) := hcy 8 _ rfl
      have hk0 : (0 : Int) ≤ k := by omega
      have hkn : (k : Int) < n := by omega
      have HE := neq_rcS x
      clear hcell hcell' hcx hcy hx
      go_wp2
      go_quiet (fail)
      go_wp2
      go_roundw
      case rel => exact ⟨k + 1, by omega, by go_num, by first | exact ⟨_, rfl⟩ | exact ⟨_, World.drewN_drewN _ _ _⟩⟩
      case measure => simp [intOf]; omega
    · go_wp2
      go_ret
      exact ⟨rfl, j, rfl⟩
/-- A record's line. -/
noncomputable def lnN (x : Rc) : List Int := txN x ++ [10]
theorem strCells_nums (xs : List Int) (h : ∀ x ∈ xs, 0 ≤ x ∧ x < 256) : Lib.strCells (strOfNums xs) = xs.map (Value.int .u8) := by
  unfold Lib.strCells strOfNums
  rw [List.map_map]
  apply List.map_congr_left
  intro x hx
  have := h x hx
  simp only [Function.comp_apply]
  congr 1
  simp [Nat.mod_eq_of_lt (show x.toNat < 256 by omega)]
  omega
theorem byteCells_nums (xs : List Int) (h : ∀ x ∈ xs, 0 ≤ x ∧ x < 256) : Lib.byteCells ((strOfNums xs).data.toList) = xs.map (Value.int .u8) := by
  rw [← Lib.strCells_toArray]
  have : (⟨(strOfNums xs).data.toList.toArray⟩ : ByteArray) = strOfNums xs := by apply ByteArray.ext; simp
  rw [this]
  exact strCells_nums xs h
theorem bld_below {B b : Nat} {bs : List Value} {w w' : World} (h : Bld B b bs w) (hb : Below w.heap.size w w') : Bld B b bs w' := by
  have key : ∀ p, Lib.BuilderAt 95 5 B b p bs w → Lib.BuilderAt 95 5 B b p bs w' := by
    rintro p ⟨h1, v, h2, h3, h4⟩
    refine ⟨h1, v, (hb.block b (Blk.lt (t := _) (cs := _) (fr := (0, 0)) h2)).trans h2, ?_, h4⟩
    obtain ⟨hl, h5⟩ := h3
    refine ⟨hl, ?_⟩
    rcases h5 with h5 | ⟨g, cap, cur, rfl, h6, h7, h8⟩
    · exact .inl h5
    · exact .inr ⟨g, cap, cur, rfl, h6, (hb.block g (Blk.lt (t := _) (cs := cur) (fr := (0, 0)) h7)).trans h7, h8⟩
  rcases h with h | h
  · exact .inl (key _ h)
  · exact .inr (key _ h)
set_option maxRecDepth 100000 in
set_option maxHeartbeats 2000000 in
theorem rcLines_any (v : Value) (l : List Rc) (w : World) (hr : eR.Rd w v l) (hok : ∀ x ∈ l, x.Ok) (hn : l.length ≤ 1000) (hrg : ∀ x : Rc, x.Ok → ∀ z ∈ txN x, 0 ≤ z ∧ z < 256) :
    Calls Try.prog 23 #[v] w fun e w' => e = .returned (.string (strOfNums (l.flatMap lnN))) ∧ Below w.heap.size w w' := by
  obtain ⟨A, c, rfl, hc⟩ := hr.open_
  obtain ⟨n, hl⟩ : ∃ n, l.length = n := ⟨_, rfl⟩
  rw [hl] at hc hn ⊢
  have HL := Lib.hid hl
  have HC := Lib.hid hc
  have HOK := Lib.hid hok
  have HRG := Lib.hid hrg
  have HF := Lib.hid (Lib.fresh_isBuilder 95 5 w)
  have B0 := Lib.hid (Below.alloc0 (Below.refl w.heap.size w) (.cells #[.pointer none, .slice none 0 0] 95))
  clear hr hc hl hok hrg
  go_enter Try.func23, Try.ntmps23
  go_wp2
  go_loopw [8] (fun i wr => ∃ k : Nat, k ≤ n ∧ i = .int .i64 k ∧ Hid (Bld w.heap.size w.heap.size (((l.take k).flatMap lnN).map (Value.int .u8)) wr) ∧ Hid (Below w.heap.size w wr)) (fun i _ => n - (intOf i).toNat)
  case atStart => exact ⟨0, Nat.zero_le _, rfl, Lib.hid (by simpa using HF.out), B0⟩
  case round =>
    obtain ⟨k, hk, rfl, HBd, HB⟩ := hrel
    by_cases hlt : k < n
    · obtain ⟨g, off, rfl, hg, hcell⟩ := HC.out (by omega)
      obtain ⟨x, hx⟩ : ∃ x, l[k]? = some x := ⟨_, List.getElem?_eq_getElem (by rw [HL.out]; exact hlt)⟩
      have hxo := HOK.out x (List.mem_of_getElem? hx)
      have hcx := fun j u (h : (eR.enc x)[j]? = some u) => (HB.out.cell (p := ⟨g, off + (k * 9 + j), none⟩) hg).trans (hcell k x hx j u h)
      have d0 : wr.cell? ⟨g, off + k * 9, none⟩ = some (.int .u16 x.a) := hcx 0 _ rfl
      have d1 : wr.cell? ⟨g, off + k * 9 + 1, none⟩ = some (.int .u8 x.d) := hcx 1 _ rfl
      have d2 : wr.cell? ⟨g, off + k * 9 + 2, none⟩ = some (.bool x.r) := hcx 2 _ rfl
      have d3 : wr.cell? ⟨g, off + k * 9 + 3, none⟩ = some (.bool x.b1) := hcx 3 _ rfl
      have d4 : wr.cell? ⟨g, off + k * 9 + 4, none⟩ = some (.bool x.b2) := hcx 4 _ rfl
      have d5 : wr.cell? ⟨g, off + k * 9 + 5, none⟩ = some (.bool x.b3) := hcx 5 _ rfl
      have d6 : wr.cell? ⟨g, off + k * 9 + 6, none⟩ = some (.bool x.b4) := hcx 6 _ rfl
      have d7 : wr.cell? ⟨g, off + k * 9 + 7, none⟩ = some (.bool x.b5) := hcx 7 _ rfl
      have d8 : wr.cell? ⟨g, off + k * 9 + 8, none⟩ = some (.bool x.m) := hcx 8 _ rfl
      have HT : Hid (l.take (k + 1) = l.take k ++ [x]) := Lib.hid (by rw [List.take_succ_eq_append_getElem (by rw [HL.out]; exact hlt)]; congr 2; have := List.getElem?_eq_getElem (l := l) (i := k) (by rw [HL.out]; exact hlt); rw [hx] at this; exact (Option.some.inj this).symm)
      have CT := Lib.hid (fun u => rcText_any x hxo u)
      have HTL : Hid ((strOfNums (txN x)).size = 17) := Lib.hid (txN_len x hxo)
      have HRx := Lib.hid (HRG.out x hxo)
      have HLN : Hid ((((l.take k).flatMap lnN).map (Value.int .u8)).length ≤ 18 * k) := Lib.hid (by
        rw [List.length_map]
        have key : ∀ m : List Rc, (∀ y ∈ m, y.Ok) → (m.flatMap lnN).length = 18 * m.length := by
          intro m
          induction m with
          | nil => intro _; rfl
          | cons y m ih =>
            intro hm
            rw [List.flatMap_cons, List.length_append, ih (fun z hz => hm z (List.mem_cons_of_mem _ hz)), List.length_cons]
            have h17 := txN_len y (hm y (List.mem_cons_self ..))
            rw [strOfNums_size] at h17
            unfold lnN
            rw [List.length_append, h17]; simp; omega
        rw [key _ (fun y hy => HOK.out y (List.mem_of_mem_take hy)), List.length_take]
        omega)
      have t0 : (0 : Int) ≤ k := by omega
      have t1 : (k : Int) < n := by omega
      obtain ⟨bs, hbs⟩ : ∃ bs, ((l.take k).flatMap lnN).map (Value.int .u8) = bs := ⟨_, rfl⟩
      rw [hbs] at HLN HBd
      have HBS := Lib.hid hbs
      clear hcell hx hcx hxo hbs
      go_wp2_with fail
      refine (CT.out _).mono ?_
      rintro e W4 ⟨rfl, hb⟩
      have HB4 := Lib.hid (Below.trans0 (Below.alloc0 HB.out _) hb)
      have HD4 := Lib.hid (bld_below (bld_below HBd.out (Below.alloc0 (Below.refl _ _) _)) hb)
      clear hb d0 d1 d2 d3 d4 d5 d6 d7 d8
      have CW := Lib.hid (bldStr_any w.heap.size w.heap.size bs (strOfNums (txN x)) W4 HD4.out (by have := HLN.out; have := HTL.out; omega) HB4.out.size)
      go_wp2_with fail
      refine CW.out.mono ?_
      rintro e W5 ⟨rfl, hd, hb⟩
      have HB5 := Lib.hid (Below.trans HB4.out hb)
      have HD5 : Hid (Bld w.heap.size w.heap.size (bs ++ Lib.strCells (strOfNums (txN x))) W5) := Lib.hid (.inr hd)
      have CB := Lib.hid (bldByte_any w.heap.size w.heap.size _ 10 W5 HD5.out (by have := HLN.out; have := HTL.out; rw [List.length_append, Lib.strCells_length]; omega) HB5.out.size)
      clear hd hb CW
      go_wp2_with fail
      refine CB.out.mono ?_
      rintro e W6 ⟨rfl, hd, hb⟩
      have HB6 := Lib.hid (Below.trans HB5.out hb)
      have HD6 : Hid (Bld w.heap.size w.heap.size (((l.take (k + 1)).flatMap lnN).map (Value.int .u8)) W6) := Lib.hid (.inr (by
        have e : ((l.take (k + 1)).flatMap lnN).map (Value.int .u8) = bs ++ Lib.strCells (strOfNums (txN x)) ++ [.int .u8 10] := by
          rw [HT.out, List.flatMap_append, List.flatMap_cons, List.flatMap_nil, List.append_nil, List.map_append, HBS.out, strCells_nums _ HRx.out]
          unfold lnN
          rw [List.map_append, ← List.append_assoc]; rfl
        rw [e]
        exact hd))
      clear hd hb CB
      go_wp2
      go_roundw
      case rel => exact ⟨k + 1, by omega, by go_num, HD6, HB6⟩
      case measure => simp [intOf]; omega
    · have HD : Hid (Bld w.heap.size w.heap.size (Lib.byteCells ((strOfNums (l.flatMap lnN)).data.toList)) wr) := Lib.hid (by
        have := HBd.out
        rw [List.take_of_length_le (by rw [HL.out]; omega)] at this
        rw [byteCells_nums _ (fun z hz => by
          obtain ⟨y, hy, hz⟩ := List.mem_flatMap.1 hz
          unfold lnN at hz
          rcases List.mem_append.1 hz with h | h
          · exact HRG.out y (HOK.out y hy) z h
          · obtain rfl : z = 10 := by simpa using h
            omega)]
        exact this)
      have CS := Lib.hid (Try.Builder_String_any w.heap.size w.heap.size _ wr HD.out HB.out.size)
      go_wp2_with fail
      refine CS.out.mono ?_
      rintro e W7 ⟨rfl, hb⟩
      have HB7 := Lib.hid (Below.trans HB.out hb)
      have HS : Hid ((⟨(strOfNums (l.flatMap lnN)).data.toList.toArray⟩ : ByteArray) = strOfNums (l.flatMap lnN)) := Lib.hid (by apply ByteArray.ext; simp)
      rw [HS.out]
      clear hb CS
      go_wp2
      go_ret
      exact ⟨rfl, HB7.out⟩
end Go.Proofs.Ytfjkbjkbpbnalaa
