/- Contracts: srec.Load. -/
import Derived.Test.YtnmgjgeniaheoabDoorSrq
import Derived.Deep.RegionHeld3
import Derived.Deep.CutBlock
namespace Go.Proofs.YtnmgjgeniaheoabDoor
open Go.ChangeShapes Go.WideShapes Go.ChangeAt Go.RowKit
set_option linter.unusedVariables false

theorem ldP_next (f : Nat → Int) (l : List Pc) (k : Nat) (p : Pc) (h : l[k]? = some p) : ldP f (l.take (k + 1)) = cpR (ldP f (l.take k)) p.1.toNat p.2 := by
  rw [List.take_add_one, h, ldP_app]; rfl
theorem fitsP_at {l : List Pc} {k : Nat} {p : Pc} (hf : fitsP l = true) (h : l[k]? = some p) : fitP p = true := List.all_eq_true.1 hf p (List.mem_of_getElem? h)
theorem sliceY_at (u : World) (g : Nat) (a : Int) (h0 : 0 ≤ a) (h1 : a < 65536) : (Instr.slice 25 (.slice (some ⟨g, 0, none⟩) 65536 65536) (some (.int .u16 a)) none none).run Tryd.prog u = .ok (.slice (some ⟨g, a.toNat, none⟩) (65536 - a.toNat) (65536 - a.toNat)) u := by
  have hs : (sizeOf (Tryd.prog.elem 25)).run Tryd.prog u = .ok 1 u := by kernel_rfl
  have ht : Tryd.prog.underlying 25 = some (.slice (Tryd.prog.elem 25)) := by kernel_rfl
  rw [run_slice_l u 25 _ 65536 65536 ht .u16 a h0 (by omega), hs]
  simp only [Result.andThen_ok]
  unfold sliced
  rw [if_neg (by omega)]
  simp [Els.add_pl]
set_option maxRecDepth 100000 in
set_option maxHeartbeats 4000000 in
theorem load_any (v : Value) (l : List Pc) (w : World) {q : Bool} (h : PcR q w v l) (hf : fitsP l = true) (hn : l.length ≤ 100000) :
    Calls Tryd.prog 11 #[v] w fun e w' => ∃ v', e = .returned v' ∧ eY.Rd w' v' (rwL (ldP (fun _ => 0) l) 65536) ∧ Below w.heap.size w w' := by
  obtain ⟨A, c, rfl, hc⟩ := h.open_
  obtain ⟨N, hN⟩ : ∃ N, l.length = N := ⟨_, rfl⟩
  have HN := Lib.hid hN
  rw [hN] at hc hn ⊢
  have HC := Lib.hid hc
  have HF := Lib.hid (fun k p (z : l[k]? = some p) => fitsP_at hf z)
  have HX := Lib.hid (fun f k p z => ldP_next f l k p z)
  obtain ⟨n, hnn⟩ : ∃ n, w.heap.size = n := ⟨_, rfl⟩
  have HNN := Lib.hid hnn
  have HMK := rwMade w 65536 (by omega)
  simp only [Int.cast_ofNat_Int] at HMK
  rw [hnn] at hc ⊢
  have HSL := Lib.hid sliceY_at
  have B0 : Hid (Blk (w.alloc (.cells (rwF (fun _ => 0) 65536) 5)) n 5 (rwF (ldP (fun _ => 0) (l.take 0)) 65536)) := Lib.hid (by rw [← hnn]; exact Blk.new _ _ _ _)
  have W0 : Hid (Below n w (w.alloc (.cells (rwF (fun _ => 0) 65536) 5))) := Lib.hid (by rw [← hnn]; exact Below.alloc0 (Below.refl _ _) _)
  clear h hc hN hf
  go_enter Tryd.func11, Tryd.ntmps11
  go_wp2
  generalize w.alloc (.cells (rwF (fun _ => 0) 65536) 5) = w1 at B0 W0 ⊢
  go_loopw [9] (fun i wr => ∃ k : Nat, k ≤ N ∧ i = .int .i64 k ∧ Hid (Blk wr n 5 (rwF (ldP (fun _ => 0) (l.take k)) 65536)) ∧ Hid (Below n w wr)) (fun i _ => N - (intOf i).toNat)
  case atStart => exact ⟨0, Nat.zero_le _, rfl, B0, W0⟩
  case round =>
    obtain ⟨k, hk, rfl, HB, HW⟩ := hrel
    by_cases hlt : k < N
    · obtain ⟨g, off, rfl, hg, hcell⟩ := HC.out (by omega)
      rw [HNN.out] at hg
      obtain ⟨p, hp⟩ : ∃ p, l[k]? = some p := ⟨_, List.getElem?_eq_getElem (by rw [HN.out]; exact hlt)⟩
      obtain ⟨B, m, cp, c0, c1, p0, p1, hrd, hm, hby, -⟩ := hcell k p hp
      have hfp := (fitP_iff p).1 (HF.out k p hp)
      have d0 : wr.cell? ⟨g, off + k * 2, none⟩ = some (.int .u16 p.1) := (HW.out.cell (p := ⟨g, off + k * 2, none⟩) hg).trans c0
      have d1 : wr.cell? ⟨g, off + k * 2 + 1, none⟩ = some (.slice B m cp) := (HW.out.cell (p := ⟨g, off + k * 2 + 1, none⟩) hg).trans c1
      have k0 : (0 : Int) ≤ k := by omega
      have k1 : (k : Int) < N := by omega
      have NX := Lib.hid (HX.out (fun _ => 0) k p hp)
      have sl := fun u => HSL.out u n p.1 p0 p1
      obtain ⟨a, ha⟩ : ∃ a : Nat, p.1.toNat = a := ⟨_, rfl⟩
      have ha2 : p.1 = (a : Int) := by omega
      rw [ha] at sl NX
      obtain ⟨gb, hgb⟩ : ∃ gb, wr.heap.size = gb := ⟨_, rfl⟩
      obtain ⟨W, hW⟩ : ∃ W, wr.alloc (Obj.cells #[.int .u16 p.1, .slice B m cp] 27) = W := ⟨_, rfl⟩
      have LB := HB.out.lt
      have PD : Hid (Blk W.drew gb 27 #[.int .u16 p.1, .slice B m cp]) := Lib.hid (by rw [← hW, ← hgb]; exact Blk.drew (Blk.new _ _ _ _))
      have BD : Hid (Blk W.drew n 5 (rwF (ldP (fun _ => 0) (l.take k)) 65536)) := Lib.hid (by rw [← hW]; exact Blk.drew (Blk.alloc HB.out _))
      have WD : Hid (Below n w W.drew) := Lib.hid (by rw [← hW]; exact HW.out.trans ((Below.drew0 (Below.alloc0 (Below.refl _ _) _)).mono (by omega)))
      have RD : Hid (eY.Rd W.drew (.slice B m cp) p.2) := Lib.hid (hrd.below (by rw [HNN.out]; exact WD.out))
      have HS : Hid (∀ u : World, Blk u gb 27 #[.int .u16 p.1, .slice B m cp] → (fun w' : World => w'.cell? ⟨gb, 0, none⟩ = some (.int .u16 p.1) ∧ w'.cell? ⟨gb, 1, none⟩ = some (.slice B m cp)) u) := Lib.hid (fun u z => ⟨(z.cell 0).trans rfl, (z.cell 1).trans rfl⟩)
      have SW := Lib.hid (HS.out _ PD.out)
      have NE : Hid (gb ≠ n) := Lib.hid (by omega)
      have HFP := Lib.hid hfp
      have HM := Lib.hid hm
      have HA2 := Lib.hid ha2
      clear hcell hp c0 c1 hrd hby ha hfp hm ha2
      go_upto_region 5 with (fail)
      clear hgb hW d0 d1
      refine wp_region_noPanic ?_
      refine wp_region_held_drew (S := (fun w' : World => w'.cell? ⟨gb, 0, none⟩ = some (.int .u16 p.1) ∧ w'.cell? ⟨gb, 1, none⟩ = some (.slice B m cp))) (by kernel_rfl) ?_ (fun hH0 => ?_)
      · (try dsimp only); with_reducible exact SW.out
      refine wpAnyH_take (i := 0) (oi := ({ dst := some 13, op := Op.move (Operand.tmp 3), type := 25, pos := "srec.go:116", after := #[], guard := none } : Oper)) (v := ?_) rfl (by kernel_rfl) (by kernel_rfl) (by kernel_rfl) (fun _ _ _ h => h) (Or.inl ⟨by rfl, ?_⟩) (by assumption) ?_
      rotate_left 1
      · (intro w hSw; (try dsimp only at hSw); go_simp; (try with_reducible rfl))
      (try simp only [Act.put, List.setIfInBounds_toArray, List.set_cons_zero, List.set_cons_succ])
      refine wpAnyH_take (i := 1) (oi := ({ dst := some 14, op := Op.fieldAddr 27 (Operand.tmp 5) 0, type := 0, pos := "srec.go:116", after := #[], guard := none } : Oper)) (v := ?_) rfl (by kernel_rfl) (by kernel_rfl) (by kernel_rfl) (fun _ _ _ h => h) (Or.inl ⟨by rfl, ?_⟩) (by assumption) ?_
      rotate_left 1
      · (intro w hSw; (try dsimp only at hSw); go_simp; (try with_reducible rfl))
      (try simp only [Act.put, List.setIfInBounds_toArray, List.set_cons_zero, List.set_cons_succ])
      refine wpAnyH_take (i := 2) (oi := ({ dst := some 15, op := Op.load 22 (Operand.tmp 14), type := 22, pos := "srec.go:116", after := #[{ on := 1, ground := Ground.data }], guard := none } : Oper)) (v := ?_) rfl (by kernel_rfl) (by kernel_rfl) (by kernel_rfl) (fun _ _ _ h => h) (Or.inl ⟨by rfl, ?_⟩) (by assumption) ?_
      rotate_left 1
      · (intro w hSw; (try dsimp only at hSw); go_simp; (try with_reducible rfl))
      (try simp only [Act.put, List.setIfInBounds_toArray, List.set_cons_zero, List.set_cons_succ])
      refine wpAnyH_take (i := 3) (oi := ({ dst := some 16, op := Op.slice 25 (Operand.tmp 13) (some (Operand.tmp 15)) none none, type := 25, pos := "srec.go:116", after := #[{ on := 0, ground := Ground.data }, { on := 2, ground := Ground.data }], guard := none } : Oper)) (v := ?_) rfl (by kernel_rfl) (by kernel_rfl) (by kernel_rfl) (fun _ _ _ h => h) (Or.inl ⟨by rfl, ?_⟩) (by assumption) ?_
      rotate_left 1
      · (intro w hSw; (try dsimp only at hSw); go_simp; (try with_reducible rfl))
      (try simp only [Act.put, List.setIfInBounds_toArray, List.set_cons_zero, List.set_cons_succ])
      refine wpAnyH_take (i := 4) (oi := ({ dst := some 17, op := Op.fieldAddr 27 (Operand.tmp 5) 1, type := 0, pos := "srec.go:116", after := #[], guard := none } : Oper)) (v := ?_) rfl (by kernel_rfl) (by kernel_rfl) (by kernel_rfl) (fun _ _ _ h => h) (Or.inl ⟨by rfl, ?_⟩) (by assumption) ?_
      rotate_left 1
      · (intro w hSw; (try dsimp only at hSw); go_simp; (try with_reducible rfl))
      (try simp only [Act.put, List.setIfInBounds_toArray, List.set_cons_zero, List.set_cons_succ])
      refine wpAnyH_take (i := 5) (oi := ({ dst := some 18, op := Op.load 25 (Operand.tmp 17), type := 25, pos := "srec.go:116", after := #[{ on := 4, ground := Ground.data }], guard := none } : Oper)) (v := ?_) rfl (by kernel_rfl) (by kernel_rfl) (by kernel_rfl) (fun _ _ _ h => h) (Or.inl ⟨by rfl, ?_⟩) (by assumption) ?_
      rotate_left 1
      · (intro w hSw; (try dsimp only at hSw); go_simp; (try with_reducible rfl))
      (try simp only [Act.put, List.setIfInBounds_toArray, List.set_cons_zero, List.set_cons_succ])
      refine wpAnyH_ready (rs := [6]) (by kernel_rfl) (by simp) ?_
      refine AllReadyH.cons (o := ({ dst := some 19, op := Op.call { callee := Callee.builtin Builtin.copy, args := #[Operand.tmp 16, Operand.tmp 18], argTypes := #[25, 25] }, type := 3, pos := "srec.go:116", after := #[{ on := 3, ground := Ground.data }, { on := 5, ground := Ground.data }], guard := none } : Oper)) rfl (fun K hK => ?_) ?_
      rotate_left 1
      · exact AllReadyH.nil
      (refine step_copyR rfl (.tmp 16) (.tmp 18) rfl n a (65536 - a) (65536 - a) B m cp rfl rfl (ldP (fun _ => 0) (l.take k)) 65536 BD.out p.2 RD.out (by have := HFP.out; have := HM.out; have := HA2.out; have e : Nat.min m (65536 - a) = if m ≤ 65536 - a then m else 65536 - a := Nat.min_def; rw [e]; split <;> omega) (by have := HFP.out; have := HA2.out; omega) ?_; intro w7 hb7 hg7; have B7 : Hid (Blk w7 n 5 (rwF (ldP (fun _ => 0) (l.take (k + 1))) 65536)) := Lib.hid (by rw [NX.out]; exact hb7); have P7 := Lib.hid (Blk.grown PD.out hg7 (by have := NE.out; simp; omega)); have S7 := Lib.hid (HS.out _ P7.out); have W7 : Hid (Below n w w7) := Lib.hid (WD.out.grown hg7 (by have := BD.out.lt; omega) (fun z hz => by injection hz with hz; omega)); clear hb7 hg7)
      first | (refine hK.out _ _ ?_ (fun hH1 => ?_)) | (go_wp2_with fail; refine hK.out _ _ ?_ (fun hH1 => ?_))
      · (try dsimp only); with_reducible exact S7.out
      clear hK K hH0
      (try simp only [Act.put, List.setIfInBounds_toArray, List.set_cons_zero, List.set_cons_succ])
      refine wpAnyH_done (by kernel_rfl) ?_ _
      refine NoPanic.normal ?_
      all_goals
        go_wp2
        go_roundw
        case rel => exact ⟨k + 1, by omega, by go_num, B7, W7⟩
        case measure => simp [intOf]; omega
    · have k1 : ¬ (k : Int) < N := by omega
      have HB2 : Hid (Blk wr n 5 (rwF (ldP (fun _ => 0) l) 65536)) := Lib.hid (by have := HB.out; rw [List.take_of_length_le (by rw [HN.out]; omega)] at this; exact this)
      clear hlt hk HB
      go_wp2
      go_ret
      exact ⟨_, rfl, rdY_mk (rwL_len _ _) HB2.out.lt (fun i hi => by rw [rwL_len] at hi; rw [Nat.zero_add, HB2.out.cell, rwF_at _ _ _ hi, iat_rwL _ _ _ hi]), HW.out⟩
end Go.Proofs.YtnmgjgeniaheoabDoor
