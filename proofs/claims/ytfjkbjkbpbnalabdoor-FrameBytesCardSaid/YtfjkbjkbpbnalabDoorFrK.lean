/- Package frame's Back: bytes as they are pulled. -/
import Derived.Test.YtfjkbjkbpbnalabDoorFrB
import Derived.Test.YtfjkbjkbpbnalabDoorCod
import Derived.Test.YtfjkbjkbpbnalabDoorFrmN
import Derived.Deep.DeepCutAuto
namespace Go.Proofs.YtfjkbjkbpbnalabDoor
open Go.ChangeShapes Go.WideShapes Go.ChangeAt Go.RowKit
set_option linter.unusedVariables false

/-- Nine cells stored. -/
abbrev st9 (w : World) (g : Nat) (s : Rg) : World :=
  ((((((((w.setCell ⟨g, 0, none⟩ (.int .u8 s.A)).setCell ⟨g, 1, none⟩ (.int .u8 s.B)).setCell ⟨g, 2, none⟩ (.int .u8 s.D)).setCell ⟨g, 3, none⟩ (.int .u8 s.C)).setCell ⟨g, 4, none⟩ (.int .u16 s.X)).setCell ⟨g, 5, none⟩ (.int .u16 s.Y)).setCell ⟨g, 6, none⟩ (.int .u16 s.U)).setCell ⟨g, 7, none⟩ (.int .u16 s.S)).setCell ⟨g, 8, none⟩ (.int .u16 s.P)
theorem st9_at {w : World} {g : Nat} {t : TypeId} {r : Rg} (h : RgAt w g t r) (s : Rg) : RgAt (st9 w g s) g t s := by
  have h9 := Blk.set_ (Blk.set_ (Blk.set_ (Blk.set_ (Blk.set_ (Blk.set_ (Blk.set_ (Blk.set_ (Blk.set_ h 0 (.int .u8 s.A)) 1 (.int .u8 s.B)) 2 (.int .u8 s.D)) 3 (.int .u8 s.C)) 4 (.int .u16 s.X)) 5 (.int .u16 s.Y)) 6 (.int .u16 s.U)) 7 (.int .u16 s.S)) 8 (.int .u16 s.P)
  unfold Rg.cells at h9
  simp only [List.setIfInBounds_toArray, List.set_cons_zero, List.set_cons_succ] at h9
  exact h9
theorem st9_grown (w : World) (g : Nat) (s : Rg) : w.grownBy (st9 w g s) (some g) :=
  ((((((((grown_cell w g 0 _).trans (grown_cell _ g 1 _)).trans (grown_cell _ g 2 _)).trans (grown_cell _ g 3 _)).trans (grown_cell _ g 4 _)).trans (grown_cell _ g 5 _)).trans (grown_cell _ g 6 _)).trans (grown_cell _ g 7 _)).trans (grown_cell _ g 8 _)
theorem RgAt.frz {w : World} {g : Nat} {t : TypeId} {r : Rg} (h : RgAt w g t r) :
    w.frozen? ⟨g, 0, none⟩ = false ∧ w.frozen? ⟨g, 1, none⟩ = false ∧ w.frozen? ⟨g, 2, none⟩ = false ∧ w.frozen? ⟨g, 3, none⟩ = false ∧ w.frozen? ⟨g, 4, none⟩ = false ∧ w.frozen? ⟨g, 5, none⟩ = false ∧ w.frozen? ⟨g, 6, none⟩ = false ∧ w.frozen? ⟨g, 7, none⟩ = false ∧ w.frozen? ⟨g, 8, none⟩ = false :=
  ⟨h.frozen _, h.frozen _, h.frozen _, h.frozen _, h.frozen _, h.frozen _, h.frozen _, h.frozen _, h.frozen _⟩
theorem grownDrew {w w' : World} {row : Option Nat} (h : w.grownBy w' row) : w.grownBy w'.drew row := ⟨h.os, h.tape, h.output, h.size, h.block⟩
/-- Registers with so many bytes in them. -/
def wF (r : Rg) (l : List Pt) (bs : List Int) : Nat → Rg
  | 0 => r
  | k + 1 => withR (wF r l bs k) ((l.getD k (0, false)).1 : Int) (l.getD k (0, false)).2 (iat bs k)
theorem withR_ok (r : Rg) (hr : r.Ok) (c : Int) (h : Bool) (b : Int) (b0 : 0 ≤ b) (b1 : b < 256) : (withR r c h b).Ok := by
  obtain ⟨v0, v1⟩ := withV_range r hr c h b b0 b1
  exact setR_ok r hr c _ v0 v1
theorem wF_ok (r : Rg) (hr : r.Ok) (l : List Pt) (bs : List Int) (h : ∀ i, i < bs.length → 0 ≤ iat bs i ∧ iat bs i < 256) : ∀ k, k ≤ bs.length → (wF r l bs k).Ok
  | 0, _ => hr
  | k + 1, hk => withR_ok _ (wF_ok r hr l bs h k (by omega)) _ _ _ (h k (by omega)).1 (h k (by omega)).2
def mvS (r : Rg) (n : Nat) : Rg := { r with S := (r.S + n) % 65536 }
/-- What is pulled, and why nothing can be. -/
def bkR (r : Rg) (bs : List Int) : Rg :=
  if bs.length = 0 then zeroRg else if bs.length = (ordL (frP (hasRef (iat bs 0) 128)) false).length then mvS (wF r (ordL (frP (hasRef (iat bs 0) 128)) false) bs bs.length) bs.length else zeroRg
def bkE (bs : List Int) : Int :=
  if bs.length = 0 then 20 else if bs.length < (ordL (frP (hasRef (iat bs 0) 128)) false).length then 20 else if (ordL (frP (hasRef (iat bs 0) 128)) false).length < bs.length then 12 else 0
theorem resBk (tmps : Array Value) (W : World) (g : Nat) (cs : Array Value) (h : Blk W g 24 cs) (hc : cs.size = 9) (h2 : tmps.getD 4 undef = .pointer (some ⟨g, 0, none⟩)) (c : Int) (h3 : tmps.getD 5 undef = .int .i64 c) :
    (results Tryd.f11 tmps).run Tryd.prog W = .ok (.tuple #[.agg cs, .int .i64 c]) W := by
  have hi : (Tryd.prog.info? 24).map (·.size) = some cs.size := by rw [hc]; kernel_rfl
  have hld := run_loadVar_row (P := Tryd.prog) W g 24 24 cs (0, 0) _ h Tryd.underlying24 rfl hi
  have h2' : tmps[4]?.getD undef = .pointer (some ⟨g, 0, none⟩) := by simpa using h2
  have h3' : tmps[5]?.getD undef = .int .i64 c := by simpa using h3
  simp [results, Tryd.results11, h2', h3', asAddr, hld]
set_option maxRecDepth 100000 in
set_option maxHeartbeats 600000 in
theorem frBack_any (r : Rg) (hr : r.Ok) (A : Option Addr) (n cap : Nat) (bs : List Int) (hn : n ≤ 1000) (w : World) (hB : Ints .u8 w w.heap.size A n bs) (hT : LregAt w) :
    Calls Tryd.prog 11 #[.agg r.cells, .slice A n cap] w fun e w' => e = .returned (.tuple #[.agg (bkR r bs).cells, .int .i64 (bkE bs)]) ∧ Below w.heap.size w w' := by
  have hlen := hB.1
  obtain ⟨RR, hRR⟩ : ∃ RR, bkR r bs = RR := ⟨_, rfl⟩
  obtain ⟨EE, hEE⟩ : ∃ EE, bkE bs = EE := ⟨_, rfl⟩
  have HRR := Lib.hid hRR
  have HEE := Lib.hid hEE
  rw [hRR, hEE]
  have HLE := Lib.hid hlen
  have HBB := Lib.hid hB
  have HT := Lib.hid hT
  have HR := Lib.hid hr
  have R1 : Hid (RgAt ((w.alloc (Obj.cells r.cells 24)).alloc (Obj.cells zeroRg.cells 24)) w.heap.size 24 r) := Lib.hid (Blk.alloc (Blk.new _ _ _ _) _)
  have Z1 : Hid (RgAt ((w.alloc (Obj.cells r.cells 24)).alloc (Obj.cells zeroRg.cells 24)) (w.heap.size + 1) 24 zeroRg) := Lib.hid (Blk.at1 _)
  have B1 := Lib.hid (Below.alloc0 (Below.alloc0 (Below.refl w.heap.size w) (Obj.cells r.cells 24)) (Obj.cells zeroRg.cells 24))
  clear hlen hRR hEE hB hT hr
  by_cases h0 : n = 0
  · subst h0
    have er : RR = zeroRg := by rw [← HRR.out]; unfold bkR; rw [if_pos HLE.out]
    have ee : EE = 20 := by rw [← HEE.out]; unfold bkE; rw [if_pos HLE.out]
    subst er ee
    go_enter Tryd.func11, Tryd.ntmps11
    go_upto_region 2 with (fail)
    have hW : ((w.alloc (.cells r.cells 24)).alloc (.cells zeroRg.cells 24)) = ((w.alloc (Obj.cells r.cells 24)).alloc (Obj.cells #[.int .u8 0, .int .u8 0, .int .u8 0, .int .u8 0, .int .u16 0, .int .u16 0, .int .u16 0, .int .u16 0, .int .u16 0] 24)) := rfl
    rw [hW] at R1 Z1 B1
    clear hW
    generalize (w.alloc _).alloc _ = W at R1 Z1 B1 ⊢
    obtain ⟨z0, z1, z2, z3, z4, z5, z6, z7, z8⟩ := Z1.out.cells
    obtain ⟨f0, f1, f2, f3, f4, f5, f6, f7, f8⟩ := Z1.out.frz
    have Z2 := Lib.hid (st9_at Z1.out zeroRg)
    have B2 := Lib.hid (Below.trans B1.out (below_own (base := w.heap.size) (st9_grown W (w.heap.size + 1) zeroRg) (by intro g e; simp at e; omega) B1.out.size))
    go_wp2
    exact bodyPost_ret (v := .tuple #[.agg zeroRg.cells, .int .i64 20]) (resBk _ _ (w.heap.size + 1) _ Z2.out rfl rfl 20 rfl) rfl ⟨rfl, B2.out⟩
  · have hpos : 0 < n := by omega
    obtain ⟨b, off, rfl, hb, hcell⟩ := HBB.out.2.2 hpos
    have hb0 := bounds_u8 (iat_wf HBB.out.2.1 0 (by rw [HLE.out]; omega))
    have c0 := hcell 0 hpos
    rw [Nat.add_zero] at c0
    have CH := Lib.hid (fun u (B : Nat) (A : Option Addr) (c : Nat) (h : Ints .u8 u B A 1 [128]) => has_bit (iat bs 0) 128 A 1 c B u (CC.mk' hb0.1 (by omega)) bit128' h (by omega))
    obtain ⟨wh, hwh⟩ : ∃ wh, hasRef (iat bs 0) 128 = wh := ⟨_, rfl⟩
    rw [hwh] at CH
    have CO := Lib.hid (fun u h => frOrder_any wh u h)
    obtain ⟨l, hl⟩ : ∃ l, ordL (frP wh) false = l := ⟨_, rfl⟩
    rw [hl] at CO
    have HL := Lib.hid hl
    have hlen : 0 < l.length ∧ l.length ≤ 100 := by rw [← hl]; cases wh <;> decide +kernel
    have er : RR = if n = l.length then mvS (wF r l bs n) n else zeroRg := by
      rw [← HRR.out]; unfold bkR; rw [HLE.out, if_neg h0, hwh, hl]
    have ee : EE = if n < l.length then 20 else if l.length < n then 12 else 0 := by
      rw [← HEE.out]; unfold bkE; rw [HLE.out, if_neg h0, hwh, hl]
    obtain ⟨m, hm⟩ : ∃ m, l.length = m := ⟨_, rfl⟩
    rw [hm] at er ee hlen
    have HM := Lib.hid hm
    have HER := Lib.hid er
    have HEE2 := Lib.hid ee
    have hne : ((n : Int) == 0) = false := by simp; omega
    have k0 : (0 : Int) < (n : Int) := by omega
    clear hwh hl hm er ee HRR HEE
    generalize iat bs 0 = x0 at *
    have c1 : ((w.alloc (Obj.cells r.cells 24)).alloc (Obj.cells zeroRg.cells 24)).cell? ⟨b, off, none⟩ = some (.int .u8 x0) := (B1.out.cell (p := ⟨b, off, none⟩) hb).trans c0
    go_enter Tryd.func11, Tryd.ntmps11
    go_upto_region 3 with (fail)
    have hW : ((w.alloc (.cells r.cells 24)).alloc (.cells zeroRg.cells 24)) = ((w.alloc (Obj.cells r.cells 24)).alloc (Obj.cells #[.int .u8 0, .int .u8 0, .int .u8 0, .int .u8 0, .int .u16 0, .int .u16 0, .int .u16 0, .int .u16 0, .int .u16 0] 24)) := rfl
    rw [hW] at R1 Z1 B1 c1
    clear hW
    have HWs : Hid (((w.alloc (Obj.cells r.cells 24)).alloc (Obj.cells #[.int .u8 0, .int .u8 0, .int .u8 0, .int .u8 0, .int .u16 0, .int .u16 0, .int .u16 0, .int .u16 0, .int .u16 0] 24)).heap.size = w.heap.size + 2) := Lib.hid (by simp)
    generalize (w.alloc _).alloc _ = W at R1 Z1 B1 c1 HWs ⊢
    go_wp2_with fail
    refine (CH.out _ (W.heap.size + 1) _ _ (Ints.new1 rfl (by decide))).mono ?_
    rintro e w' ⟨rfl, rfl⟩
    have R2 := Lib.hid (RgAt.below R1.out (Below.alloc0 (Below.refl _ W) (Obj.cells #[.int .u8 128] 5)) R1.out.lt)
    have Z2 := Lib.hid (RgAt.below Z1.out (Below.alloc0 (Below.refl _ W) (Obj.cells #[.int .u8 128] 5)) Z1.out.lt)
    have B2 := Lib.hid (Below.alloc (B := w.heap.size) B1.out B1.out.size (Obj.cells #[.int .u8 128] 5))
    clear CH c0 c1 R1 Z1 B1
    go_wp2_with fail
    refine (CO.out _ (HT.out.below B2.out)).mono ?_
    rintro e W2 ⟨v, rfl, hp, hb2⟩
    have HP := Lib.hid hp
    have R3 := Lib.hid (RgAt.below R2.out hb2 R2.out.lt)
    have Z3 := Lib.hid (RgAt.below Z2.out hb2 Z2.out.lt)
    have B3 := Lib.hid (Below.trans0 B2.out hb2)
    clear hp hb2 R2 Z2 B2 CO HT
    obtain ⟨A2, cap2, rfl, hcells⟩ := HP.out.cells_
    have HCE := Lib.hid hcells
    rw [HM.out]
    clear hcells
    rcases Nat.lt_trichotomy n m with h | h | h
    · have e1 : RR = zeroRg := by rw [HER.out, if_neg (by omega)]
      have e2 : EE = 20 := by rw [HEE2.out, if_pos h]
      subst e1 e2
      have h' : (n : Int) < (m : Int) := by omega
      obtain ⟨z0, z1, z2, z3, z4, z5, z6, z7, z8⟩ := Z3.out.cells
      obtain ⟨f0, f1, f2, f3, f4, f5, f6, f7, f8⟩ := Z3.out.frz
      have Z4 := Lib.hid (st9_at Z3.out zeroRg)
      have B4 := Lib.hid (Below.trans B3.out (below_own (base := w.heap.size) (st9_grown W2 (w.heap.size + 1) zeroRg) (by intro g e; simp at e; omega) B3.out.size))
      go_wp2
      exact bodyPost_ret (v := .tuple #[.agg zeroRg.cells, .int .i64 20]) (resBk _ _ (w.heap.size + 1) _ Z4.out rfl rfl 20 rfl) rfl ⟨rfl, B4.out⟩
    · subst h
      have e1 : RR = mvS (wF r l bs n) n := by rw [HER.out, if_pos rfl]
      have e2 : EE = 0 := by rw [HEE2.out, if_neg (by omega), if_neg (by omega)]
      subst e2
      have HRv := Lib.hid e1
      clear e1 HER HEE2
      have hlt0 : ¬ n < n := Nat.lt_irrefl n
      have HRn : Hid (∀ i, i < bs.length → 0 ≤ iat bs i ∧ iat bs i < 256) := Lib.hid (fun i hi => by have := bounds_u8 (iat_wf HBB.out.2.1 i hi); omega)
      have HOK : Hid (∀ k, k ≤ n → (wF r l bs k).Ok) := Lib.hid (fun k hk => wF_ok r HR.out l bs HRn.out k (by rw [HLE.out]; exact hk))
      have hBS := B3.out.size
      have hZlt := Z3.out.lt
      have HWL : Hid (w.heap.size + 1 < W.heap.size + 1) := Lib.hid (by have := B3.out.size; have := HWs.out; omega)
      go_wp2
      go_loopw [35] (fun u35 wr => ∃ k : Nat, k ≤ n ∧ u35 = .int .i64 k ∧ Hid (RgAt wr w.heap.size 24 (wF r l bs k)) ∧ Hid (W2.grownBy wr (some w.heap.size))) (fun u35 _ => n - (intOf u35).toNat)
      case atStart => exact ⟨0, Nat.zero_le _, rfl, R3, Lib.hid (World.grownBy.refl _ _)⟩
      case round =>
        obtain ⟨k, hk, rfl, HRg, HG⟩ := hrel
        by_cases hlt : k < n
        · obtain ⟨g, rfl, hg, hgb, hc⟩ := HCE.out (by rw [HM.out]; omega)
          obtain ⟨q0, q1⟩ := hc k (by rw [HM.out]; exact hlt)
          have hgw : w.heap.size ≠ g := by have := HWL.out; simp at hgb; omega
          have d0 := HG.out.cell q0 (by simpa using fun e => hgw e.symm)
          have d1 := HG.out.cell q1 (by simpa using fun e => hgw e.symm)
          have d2 := HG.out.cell ((B3.out.cell (p := ⟨b, off + k, none⟩) hb).trans (hcell k hlt)) (by simp; omega)
          have hy := HRn.out k (by rw [HLE.out]; exact hlt)
          have HOKk := HOK.out k hk
          have HS : Hid (wF r l bs (k + 1) = withR (wF r l bs k) ((l.getD k (0, false)).1 : Int) (l.getD k (0, false)).2 (iat bs k)) := Lib.hid rfl
          have HOKn := Lib.hid (HOK.out (k + 1) (by omega))
          generalize iat bs k = y at *
          generalize l.getD k (0, false) = x at *
          obtain ⟨xc, xh⟩ := x
          dsimp only at d0 d1 HS
          have CW := Lib.hid (fun u => lwith_any (wF r l bs k) HOKk (xc : Int) xh y hy.1 hy.2 u)
          rw [← HS.out] at CW
          obtain ⟨s, hs⟩ : ∃ s, wF r l bs (k + 1) = s := ⟨_, rfl⟩
          rw [hs] at CW
          have HSs := Lib.hid hs
          clear HS hs HOKn
          have hlt' := HRg.out.lt
          have R5 : RgAt (wr.alloc (Obj.cells #[.int .i64 (xc : Int), .bool xh] 35)) w.heap.size 24 (wF r l bs k) := Blk.alloc HRg.out _
          obtain ⟨s0, s1, s2, s3, s4, s5, s6, s7, s8⟩ := RgAt.cells R5
          have HR5 := Lib.hid R5
          have HG5 := Lib.hid (World.grownBy.trans HG.out (World.grownBy_alloc wr (Obj.cells #[.int .i64 (xc : Int), .bool xh] 35) (some w.heap.size)))
          have hPb := Blk.new wr 35 #[.int .i64 (xc : Int), .bool xh] (0, 0)
          obtain ⟨p0, p1⟩ := Blk.c2 hPb
          have d3 : (wr.alloc (Obj.cells #[.int .i64 (xc : Int), .bool xh] 35)).cell? ⟨b, off + k, none⟩ = some (.int .u8 y) := (World.grownBy_alloc wr (Obj.cells #[.int .i64 (xc : Int), .bool xh] 35) none).cell d2 (by simp)
          have t0 : (0 : Int) ≤ k := by omega
          have t1 : (k : Int) < n := by omega
          generalize wF r l bs k = q at *
          clear hc q0 q1 R5 HOKk hy hPb hgb hg
          go_upto_region 11 with (fail)
          generalize wr.alloc (Obj.cells #[.int .i64 (xc : Int), .bool xh] 35) = Wa at HR5 HG5 s0 s1 s2 s3 s4 s5 s6 s7 s8 p0 p1 d3 ⊢
          refine wp_region_noPanic ?_
          refine wp_region_held_drew (S := (fun _ => True)) (by kernel_rfl) ?_ (fun hH0 => ?_)
          · trivial
          refine wpAnyH_take (i := 2) (oi := ({ dst := some 42, op := Op.move (Operand.tmp 1), type := 27, pos := "frame.go:101", after := #[], guard := none } : Oper)) (v := ?_) rfl (by kernel_rfl) (by kernel_rfl) (by kernel_rfl) (fun _ _ _ h => h) (Or.inl ⟨by rfl, ?_⟩) (by assumption) ?_
          rotate_left 1
          · (intro w hSw; (try dsimp only at hSw); go_simp; (try with_reducible rfl))
          (try simp only [Act.put, List.setIfInBounds_toArray, List.set_cons_zero, List.set_cons_succ])
          refine wpAnyH_take (i := 3) (oi := ({ dst := some 43, op := Op.move (Operand.tmp 7), type := 3, pos := "frame.go:101", after := #[], guard := none } : Oper)) (v := ?_) rfl (by kernel_rfl) (by kernel_rfl) (by kernel_rfl) (fun _ _ _ h => h) (Or.inl ⟨by rfl, ?_⟩) (by assumption) ?_
          rotate_left 1
          · (intro w hSw; (try dsimp only at hSw); go_simp; (try with_reducible rfl))
          (try simp only [Act.put, List.setIfInBounds_toArray, List.set_cons_zero, List.set_cons_succ])
          refine wpAnyH_take (i := 4) (oi := ({ dst := some 44, op := Op.indexAddr 27 (Operand.tmp 42) (Operand.tmp 43), type := 0, pos := "frame.go:101", after := #[{ on := 2, ground := Ground.data }, { on := 3, ground := Ground.data }], guard := none } : Oper)) (v := ?_) rfl (by kernel_rfl) (by kernel_rfl) (by kernel_rfl) (fun _ _ _ h => h) (Or.inl ⟨by rfl, ?_⟩) (by assumption) ?_
          rotate_left 1
          · (intro w hSw; (try dsimp only at hSw); go_simp; (try with_reducible rfl))
          (try simp only [Act.put, List.setIfInBounds_toArray, List.set_cons_zero, List.set_cons_succ])
          refine wpAnyH_ready (rs := [0, 1, 5]) (by kernel_rfl) (by simp) ?_
          refine AllReadyH.cons (o := ({ dst := some 40, op := Op.load 24 (Operand.tmp 2), type := 24, pos := "frame.go:101", after := #[], guard := none } : Oper)) rfl (fun K hK => ?_) ?_
          · go_simp
            first | (refine hK.out _ _ ?_ (fun hH1 => ?_)) | (go_wp2_with fail; refine hK.out _ _ ?_ (fun hH1 => ?_))
            · trivial
            clear hK K hH0
            (try simp only [Act.put, List.setIfInBounds_toArray, List.set_cons_zero, List.set_cons_succ])
            refine wpAnyH_ready (rs := [1, 5]) (by kernel_rfl) (by simp) ?_
            refine AllReadyH.cons (o := ({ dst := some 41, op := Op.load 35 (Operand.tmp 8), type := 35, pos := "frame.go:101", after := #[], guard := none } : Oper)) rfl (fun K hK => ?_) ?_
            · go_simp
              first | (refine hK.out _ _ ?_ (fun hH2 => ?_)) | (go_wp2_with fail; refine hK.out _ _ ?_ (fun hH2 => ?_))
              · trivial
              clear hK K hH1
              (try simp only [Act.put, List.setIfInBounds_toArray, List.set_cons_zero, List.set_cons_succ])
              refine wpAnyH_ready (rs := [5]) (by kernel_rfl) (by simp) ?_
              refine AllReadyH.cons (o := ({ dst := some 45, op := Op.load 5 (Operand.tmp 44), type := 5, pos := "frame.go:101", after := #[{ on := 4, ground := Ground.data }], guard := none } : Oper)) rfl (fun K hK => ?_) ?_
              rotate_left 1
              · exact AllReadyH.nil
              go_simp
              first | (refine hK.out _ _ ?_ (fun hH3 => ?_)) | (go_wp2_with fail; refine hK.out _ _ ?_ (fun hH3 => ?_))
              · trivial
              clear hK K hH2
              (try simp only [Act.put, List.setIfInBounds_toArray, List.set_cons_zero, List.set_cons_succ])
              refine wpAnyH_ready (rs := [6]) (by kernel_rfl) (by simp) ?_
              refine AllReadyH.cons (o := ({ dst := some 46, op := Op.call { callee := Callee.value (Operand.func 41), args := #[Operand.tmp 40, Operand.tmp 41, Operand.tmp 45], argTypes := #[24, 35, 5] }, type := 24, pos := "frame.go:101", after := #[{ on := 0, ground := Ground.data }, { on := 1, ground := Ground.data }, { on := 5, ground := Ground.data }], guard := none } : Oper)) rfl (fun K hK => ?_) ?_
              rotate_left 1
              · exact AllReadyH.nil
              go_simp
              go_at_call 41
              ((with_reducible refine (CW.out _).mono ?_); rintro e W5 ⟨rfl, hb5⟩; have R6 := Lib.hid (RgAt.below (w := Wa.drew) (show RgAt Wa.drew w.heap.size 24 q from HR5.out) hb5 HR5.out.lt); have HG6 := Lib.hid (World.grownBy.trans HG5.out (show Wa.grownBy W5 (some w.heap.size) from ⟨hb5.os, hb5.tape, hb5.output, hb5.size, fun j hj _ => hb5.block j hj⟩)); obtain ⟨z0, z1, z2, z3, z4, z5, z6, z7, z8⟩ := R6.out.cells; obtain ⟨f0, f1, f2, f3, f4, f5, f6, f7, f8⟩ := R6.out.frz; clear hb5)
              first | (refine hK.out _ _ ?_ (fun hH4 => ?_)) | (go_wp2_with fail; refine hK.out _ _ ?_ (fun hH4 => ?_))
              · trivial
              clear hK K hH3
              (try simp only [Act.put, List.setIfInBounds_toArray, List.set_cons_zero, List.set_cons_succ])
              refine wpAnyH_ready (rs := [7]) (by kernel_rfl) (by simp) ?_
              refine AllReadyH.cons (o := ({ dst := none, op := Op.store 24 (Operand.tmp 2) (Operand.tmp 46), type := 0, pos := "frame.go:101", after := #[{ on := 6, ground := Ground.data }, { on := 6, ground := Ground.chain }, { on := 0, ground := Ground.phase }, { on := 1, ground := Ground.phase }, { on := 2, ground := Ground.phase }, { on := 3, ground := Ground.phase }, { on := 4, ground := Ground.phase }, { on := 5, ground := Ground.phase }, { on := 6, ground := Ground.phase }], guard := none } : Oper)) rfl (fun K hK => ?_) ?_
              rotate_left 1
              · exact AllReadyH.nil
              go_simp
              first | (refine hK.out _ _ ?_ (fun hH5 => ?_)) | (go_wp2_with fail; refine hK.out _ _ ?_ (fun hH5 => ?_))
              · trivial
              clear hK K hH4
              (try simp only [Act.put, List.setIfInBounds_toArray, List.set_cons_zero, List.set_cons_succ])
              refine wpAnyH_done (by kernel_rfl) ?_ _
              refine NoPanic.normal ?_
              have R7 : Hid (RgAt (((((((((W5.setCell ⟨w.heap.size, 0, none⟩ (.int .u8 s.A)).setCell ⟨w.heap.size, 1, none⟩ (.int .u8 s.B)).setCell ⟨w.heap.size, 2, none⟩ (.int .u8 s.D)).setCell ⟨w.heap.size, 3, none⟩ (.int .u8 s.C)).setCell ⟨w.heap.size, 4, none⟩ (.int .u16 s.X)).setCell ⟨w.heap.size, 5, none⟩ (.int .u16 s.Y)).setCell ⟨w.heap.size, 6, none⟩ (.int .u16 s.U)).setCell ⟨w.heap.size, 7, none⟩ (.int .u16 s.S)).setCell ⟨w.heap.size, 8, none⟩ (.int .u16 s.P)) w.heap.size 24 s) := Lib.hid (st9_at R6.out s)
              have HG7 : Hid (W2.grownBy (((((((((W5.setCell ⟨w.heap.size, 0, none⟩ (.int .u8 s.A)).setCell ⟨w.heap.size, 1, none⟩ (.int .u8 s.B)).setCell ⟨w.heap.size, 2, none⟩ (.int .u8 s.D)).setCell ⟨w.heap.size, 3, none⟩ (.int .u8 s.C)).setCell ⟨w.heap.size, 4, none⟩ (.int .u16 s.X)).setCell ⟨w.heap.size, 5, none⟩ (.int .u16 s.Y)).setCell ⟨w.heap.size, 6, none⟩ (.int .u16 s.U)).setCell ⟨w.heap.size, 7, none⟩ (.int .u16 s.S)).setCell ⟨w.heap.size, 8, none⟩ (.int .u16 s.P)) (some w.heap.size)) := Lib.hid (World.grownBy.trans HG6.out (st9_grown W5 w.heap.size s))
              clear z0 z1 z2 z3 z4 z5 z6 z7 z8 f0 f1 f2 f3 f4 f5 f6 f7 f8 R6 HG6 s0 s1 s2 s3 s4 s5 s6 s7 s8 p0 p1 d3
              generalize ((((((((W5.setCell ⟨w.heap.size, 0, none⟩ (.int .u8 s.A)).setCell ⟨w.heap.size, 1, none⟩ (.int .u8 s.B)).setCell ⟨w.heap.size, 2, none⟩ (.int .u8 s.D)).setCell ⟨w.heap.size, 3, none⟩ (.int .u8 s.C)).setCell ⟨w.heap.size, 4, none⟩ (.int .u16 s.X)).setCell ⟨w.heap.size, 5, none⟩ (.int .u16 s.Y)).setCell ⟨w.heap.size, 6, none⟩ (.int .u16 s.U)).setCell ⟨w.heap.size, 7, none⟩ (.int .u16 s.S)).setCell ⟨w.heap.size, 8, none⟩ (.int .u16 s.P) = W9 at R7 HG7 ⊢
              have R9 : Hid (RgAt W9 w.heap.size 24 (wF r l bs (k + 1))) := Lib.hid (by rw [HSs.out]; exact R7.out)
              clear R7 d0 d1 d2
              go_wp2
              refine ⟨⟨k + 1, by omega, by go_num, R9, HG7⟩, ?_⟩
              simp [intOf]; omega
            refine AllReadyH.cons (o := ({ dst := some 45, op := Op.load 5 (Operand.tmp 44), type := 5, pos := "frame.go:101", after := #[{ on := 4, ground := Ground.data }], guard := none } : Oper)) rfl (fun K hK => ?_) ?_
            · go_simp
              first | (refine hK.out _ _ ?_ (fun hH2 => ?_)) | (go_wp2_with fail; refine hK.out _ _ ?_ (fun hH2 => ?_))
              · trivial
              clear hK K hH1
              (try simp only [Act.put, List.setIfInBounds_toArray, List.set_cons_zero, List.set_cons_succ])
              refine wpAnyH_ready (rs := [1]) (by kernel_rfl) (by simp) ?_
              refine AllReadyH.cons (o := ({ dst := some 41, op := Op.load 35 (Operand.tmp 8), type := 35, pos := "frame.go:101", after := #[], guard := none } : Oper)) rfl (fun K hK => ?_) ?_
              rotate_left 1
              · exact AllReadyH.nil
              go_simp
              first | (refine hK.out _ _ ?_ (fun hH3 => ?_)) | (go_wp2_with fail; refine hK.out _ _ ?_ (fun hH3 => ?_))
              · trivial
              clear hK K hH2
              (try simp only [Act.put, List.setIfInBounds_toArray, List.set_cons_zero, List.set_cons_succ])
              refine wpAnyH_ready (rs := [6]) (by kernel_rfl) (by simp) ?_
              refine AllReadyH.cons (o := ({ dst := some 46, op := Op.call { callee := Callee.value (Operand.func 41), args := #[Operand.tmp 40, Operand.tmp 41, Operand.tmp 45], argTypes := #[24, 35, 5] }, type := 24, pos := "frame.go:101", after := #[{ on := 0, ground := Ground.data }, { on := 1, ground := Ground.data }, { on := 5, ground := Ground.data }], guard := none } : Oper)) rfl (fun K hK => ?_) ?_
              rotate_left 1
              · exact AllReadyH.nil
              go_simp
              go_at_call 41
              ((with_reducible refine (CW.out _).mono ?_); rintro e W5 ⟨rfl, hb5⟩; have R6 := Lib.hid (RgAt.below (w := Wa.drew) (show RgAt Wa.drew w.heap.size 24 q from HR5.out) hb5 HR5.out.lt); have HG6 := Lib.hid (World.grownBy.trans HG5.out (show Wa.grownBy W5 (some w.heap.size) from ⟨hb5.os, hb5.tape, hb5.output, hb5.size, fun j hj _ => hb5.block j hj⟩)); obtain ⟨z0, z1, z2, z3, z4, z5, z6, z7, z8⟩ := R6.out.cells; obtain ⟨f0, f1, f2, f3, f4, f5, f6, f7, f8⟩ := R6.out.frz; clear hb5)
              first | (refine hK.out _ _ ?_ (fun hH4 => ?_)) | (go_wp2_with fail; refine hK.out _ _ ?_ (fun hH4 => ?_))
              · trivial
              clear hK K hH3
              (try simp only [Act.put, List.setIfInBounds_toArray, List.set_cons_zero, List.set_cons_succ])
              refine wpAnyH_ready (rs := [7]) (by kernel_rfl) (by simp) ?_
              refine AllReadyH.cons (o := ({ dst := none, op := Op.store 24 (Operand.tmp 2) (Operand.tmp 46), type := 0, pos := "frame.go:101", after := #[{ on := 6, ground := Ground.data }, { on := 6, ground := Ground.chain }, { on := 0, ground := Ground.phase }, { on := 1, ground := Ground.phase }, { on := 2, ground := Ground.phase }, { on := 3, ground := Ground.phase }, { on := 4, ground := Ground.phase }, { on := 5, ground := Ground.phase }, { on := 6, ground := Ground.phase }], guard := none } : Oper)) rfl (fun K hK => ?_) ?_
              rotate_left 1
              · exact AllReadyH.nil
              go_simp
              first | (refine hK.out _ _ ?_ (fun hH5 => ?_)) | (go_wp2_with fail; refine hK.out _ _ ?_ (fun hH5 => ?_))
              · trivial
              clear hK K hH4
              (try simp only [Act.put, List.setIfInBounds_toArray, List.set_cons_zero, List.set_cons_succ])
              refine wpAnyH_done (by kernel_rfl) ?_ _
              refine NoPanic.normal ?_
              have R7 : Hid (RgAt (((((((((W5.setCell ⟨w.heap.size, 0, none⟩ (.int .u8 s.A)).setCell ⟨w.heap.size, 1, none⟩ (.int .u8 s.B)).setCell ⟨w.heap.size, 2, none⟩ (.int .u8 s.D)).setCell ⟨w.heap.size, 3, none⟩ (.int .u8 s.C)).setCell ⟨w.heap.size, 4, none⟩ (.int .u16 s.X)).setCell ⟨w.heap.size, 5, none⟩ (.int .u16 s.Y)).setCell ⟨w.heap.size, 6, none⟩ (.int .u16 s.U)).setCell ⟨w.heap.size, 7, none⟩ (.int .u16 s.S)).setCell ⟨w.heap.size, 8, none⟩ (.int .u16 s.P)) w.heap.size 24 s) := Lib.hid (st9_at R6.out s)
              have HG7 : Hid (W2.grownBy (((((((((W5.setCell ⟨w.heap.size, 0, none⟩ (.int .u8 s.A)).setCell ⟨w.heap.size, 1, none⟩ (.int .u8 s.B)).setCell ⟨w.heap.size, 2, none⟩ (.int .u8 s.D)).setCell ⟨w.heap.size, 3, none⟩ (.int .u8 s.C)).setCell ⟨w.heap.size, 4, none⟩ (.int .u16 s.X)).setCell ⟨w.heap.size, 5, none⟩ (.int .u16 s.Y)).setCell ⟨w.heap.size, 6, none⟩ (.int .u16 s.U)).setCell ⟨w.heap.size, 7, none⟩ (.int .u16 s.S)).setCell ⟨w.heap.size, 8, none⟩ (.int .u16 s.P)) (some w.heap.size)) := Lib.hid (World.grownBy.trans HG6.out (st9_grown W5 w.heap.size s))
              clear z0 z1 z2 z3 z4 z5 z6 z7 z8 f0 f1 f2 f3 f4 f5 f6 f7 f8 R6 HG6 s0 s1 s2 s3 s4 s5 s6 s7 s8 p0 p1 d3
              generalize ((((((((W5.setCell ⟨w.heap.size, 0, none⟩ (.int .u8 s.A)).setCell ⟨w.heap.size, 1, none⟩ (.int .u8 s.B)).setCell ⟨w.heap.size, 2, none⟩ (.int .u8 s.D)).setCell ⟨w.heap.size, 3, none⟩ (.int .u8 s.C)).setCell ⟨w.heap.size, 4, none⟩ (.int .u16 s.X)).setCell ⟨w.heap.size, 5, none⟩ (.int .u16 s.Y)).setCell ⟨w.heap.size, 6, none⟩ (.int .u16 s.U)).setCell ⟨w.heap.size, 7, none⟩ (.int .u16 s.S)).setCell ⟨w.heap.size, 8, none⟩ (.int .u16 s.P) = W9 at R7 HG7 ⊢
              have R9 : Hid (RgAt W9 w.heap.size 24 (wF r l bs (k + 1))) := Lib.hid (by rw [HSs.out]; exact R7.out)
              clear R7 d0 d1 d2
              go_wp2
              refine ⟨⟨k + 1, by omega, by go_num, R9, HG7⟩, ?_⟩
              simp [intOf]; omega
            exact AllReadyH.nil
          refine AllReadyH.cons (o := ({ dst := some 41, op := Op.load 35 (Operand.tmp 8), type := 35, pos := "frame.go:101", after := #[], guard := none } : Oper)) rfl (fun K hK => ?_) ?_
          · go_simp
            first | (refine hK.out _ _ ?_ (fun hH1 => ?_)) | (go_wp2_with fail; refine hK.out _ _ ?_ (fun hH1 => ?_))
            · trivial
            clear hK K hH0
            (try simp only [Act.put, List.setIfInBounds_toArray, List.set_cons_zero, List.set_cons_succ])
            refine wpAnyH_ready (rs := [0, 5]) (by kernel_rfl) (by simp) ?_
            refine AllReadyH.cons (o := ({ dst := some 40, op := Op.load 24 (Operand.tmp 2), type := 24, pos := "frame.go:101", after := #[], guard := none } : Oper)) rfl (fun K hK => ?_) ?_
            · go_simp
              first | (refine hK.out _ _ ?_ (fun hH2 => ?_)) | (go_wp2_with fail; refine hK.out _ _ ?_ (fun hH2 => ?_))
              · trivial
              clear hK K hH1
              (try simp only [Act.put, List.setIfInBounds_toArray, List.set_cons_zero, List.set_cons_succ])
              refine wpAnyH_ready (rs := [5]) (by kernel_rfl) (by simp) ?_
              refine AllReadyH.cons (o := ({ dst := some 45, op := Op.load 5 (Operand.tmp 44), type := 5, pos := "frame.go:101", after := #[{ on := 4, ground := Ground.data }], guard := none } : Oper)) rfl (fun K hK => ?_) ?_
              rotate_left 1
              · exact AllReadyH.nil
              go_simp
              first | (refine hK.out _ _ ?_ (fun hH3 => ?_)) | (go_wp2_with fail; refine hK.out _ _ ?_ (fun hH3 => ?_))
              · trivial
              clear hK K hH2
              (try simp only [Act.put, List.setIfInBounds_toArray, List.set_cons_zero, List.set_cons_succ])
              refine wpAnyH_ready (rs := [6]) (by kernel_rfl) (by simp) ?_
              refine AllReadyH.cons (o := ({ dst := some 46, op := Op.call { callee := Callee.value (Operand.func 41), args := #[Operand.tmp 40, Operand.tmp 41, Operand.tmp 45], argTypes := #[24, 35, 5] }, type := 24, pos := "frame.go:101", after := #[{ on := 0, ground := Ground.data }, { on := 1, ground := Ground.data }, { on := 5, ground := Ground.data }], guard := none } : Oper)) rfl (fun K hK => ?_) ?_
              rotate_left 1
              · exact AllReadyH.nil
              go_simp
              go_at_call 41
              ((with_reducible refine (CW.out _).mono ?_); rintro e W5 ⟨rfl, hb5⟩; have R6 := Lib.hid (RgAt.below (w := Wa.drew) (show RgAt Wa.drew w.heap.size 24 q from HR5.out) hb5 HR5.out.lt); have HG6 := Lib.hid (World.grownBy.trans HG5.out (show Wa.grownBy W5 (some w.heap.size) from ⟨hb5.os, hb5.tape, hb5.output, hb5.size, fun j hj _ => hb5.block j hj⟩)); obtain ⟨z0, z1, z2, z3, z4, z5, z6, z7, z8⟩ := R6.out.cells; obtain ⟨f0, f1, f2, f3, f4, f5, f6, f7, f8⟩ := R6.out.frz; clear hb5)
              first | (refine hK.out _ _ ?_ (fun hH4 => ?_)) | (go_wp2_with fail; refine hK.out _ _ ?_ (fun hH4 => ?_))
              · trivial
              clear hK K hH3
              (try simp only [Act.put, List.setIfInBounds_toArray, List.set_cons_zero, List.set_cons_succ])
              refine wpAnyH_ready (rs := [7]) (by kernel_rfl) (by simp) ?_
              refine AllReadyH.cons (o := ({ dst := none, op := Op.store 24 (Operand.tmp 2) (Operand.tmp 46), type := 0, pos := "frame.go:101", after := #[{ on := 6, ground := Ground.data }, { on := 6, ground := Ground.chain }, { on := 0, ground := Ground.phase }, { on := 1, ground := Ground.phase }, { on := 2, ground := Ground.phase }, { on := 3, ground := Ground.phase }, { on := 4, ground := Ground.phase }, { on := 5, ground := Ground.phase }, { on := 6, ground := Ground.phase }], guard := none } : Oper)) rfl (fun K hK => ?_) ?_
              rotate_left 1
              · exact AllReadyH.nil
              go_simp
              first | (refine hK.out _ _ ?_ (fun hH5 => ?_)) | (go_wp2_with fail; refine hK.out _ _ ?_ (fun hH5 => ?_))
              · trivial
              clear hK K hH4
              (try simp only [Act.put, List.setIfInBounds_toArray, List.set_cons_zero, List.set_cons_succ])
              refine wpAnyH_done (by kernel_rfl) ?_ _
              refine NoPanic.normal ?_
              have R7 : Hid (RgAt (((((((((W5.setCell ⟨w.heap.size, 0, none⟩ (.int .u8 s.A)).setCell ⟨w.heap.size, 1, none⟩ (.int .u8 s.B)).setCell ⟨w.heap.size, 2, none⟩ (.int .u8 s.D)).setCell ⟨w.heap.size, 3, none⟩ (.int .u8 s.C)).setCell ⟨w.heap.size, 4, none⟩ (.int .u16 s.X)).setCell ⟨w.heap.size, 5, none⟩ (.int .u16 s.Y)).setCell ⟨w.heap.size, 6, none⟩ (.int .u16 s.U)).setCell ⟨w.heap.size, 7, none⟩ (.int .u16 s.S)).setCell ⟨w.heap.size, 8, none⟩ (.int .u16 s.P)) w.heap.size 24 s) := Lib.hid (st9_at R6.out s)
              have HG7 : Hid (W2.grownBy (((((((((W5.setCell ⟨w.heap.size, 0, none⟩ (.int .u8 s.A)).setCell ⟨w.heap.size, 1, none⟩ (.int .u8 s.B)).setCell ⟨w.heap.size, 2, none⟩ (.int .u8 s.D)).setCell ⟨w.heap.size, 3, none⟩ (.int .u8 s.C)).setCell ⟨w.heap.size, 4, none⟩ (.int .u16 s.X)).setCell ⟨w.heap.size, 5, none⟩ (.int .u16 s.Y)).setCell ⟨w.heap.size, 6, none⟩ (.int .u16 s.U)).setCell ⟨w.heap.size, 7, none⟩ (.int .u16 s.S)).setCell ⟨w.heap.size, 8, none⟩ (.int .u16 s.P)) (some w.heap.size)) := Lib.hid (World.grownBy.trans HG6.out (st9_grown W5 w.heap.size s))
              clear z0 z1 z2 z3 z4 z5 z6 z7 z8 f0 f1 f2 f3 f4 f5 f6 f7 f8 R6 HG6 s0 s1 s2 s3 s4 s5 s6 s7 s8 p0 p1 d3
              generalize ((((((((W5.setCell ⟨w.heap.size, 0, none⟩ (.int .u8 s.A)).setCell ⟨w.heap.size, 1, none⟩ (.int .u8 s.B)).setCell ⟨w.heap.size, 2, none⟩ (.int .u8 s.D)).setCell ⟨w.heap.size, 3, none⟩ (.int .u8 s.C)).setCell ⟨w.heap.size, 4, none⟩ (.int .u16 s.X)).setCell ⟨w.heap.size, 5, none⟩ (.int .u16 s.Y)).setCell ⟨w.heap.size, 6, none⟩ (.int .u16 s.U)).setCell ⟨w.heap.size, 7, none⟩ (.int .u16 s.S)).setCell ⟨w.heap.size, 8, none⟩ (.int .u16 s.P) = W9 at R7 HG7 ⊢
              have R9 : Hid (RgAt W9 w.heap.size 24 (wF r l bs (k + 1))) := Lib.hid (by rw [HSs.out]; exact R7.out)
              clear R7 d0 d1 d2
              go_wp2
              refine ⟨⟨k + 1, by omega, by go_num, R9, HG7⟩, ?_⟩
              simp [intOf]; omega
            refine AllReadyH.cons (o := ({ dst := some 45, op := Op.load 5 (Operand.tmp 44), type := 5, pos := "frame.go:101", after := #[{ on := 4, ground := Ground.data }], guard := none } : Oper)) rfl (fun K hK => ?_) ?_
            · go_simp
              first | (refine hK.out _ _ ?_ (fun hH2 => ?_)) | (go_wp2_with fail; refine hK.out _ _ ?_ (fun hH2 => ?_))
              · trivial
              clear hK K hH1
              (try simp only [Act.put, List.setIfInBounds_toArray, List.set_cons_zero, List.set_cons_succ])
              refine wpAnyH_ready (rs := [0]) (by kernel_rfl) (by simp) ?_
              refine AllReadyH.cons (o := ({ dst := some 40, op := Op.load 24 (Operand.tmp 2), type := 24, pos := "frame.go:101", after := #[], guard := none } : Oper)) rfl (fun K hK => ?_) ?_
              rotate_left 1
              · exact AllReadyH.nil
              go_simp
              first | (refine hK.out _ _ ?_ (fun hH3 => ?_)) | (go_wp2_with fail; refine hK.out _ _ ?_ (fun hH3 => ?_))
              · trivial
              clear hK K hH2
              (try simp only [Act.put, List.setIfInBounds_toArray, List.set_cons_zero, List.set_cons_succ])
              refine wpAnyH_ready (rs := [6]) (by kernel_rfl) (by simp) ?_
              refine AllReadyH.cons (o := ({ dst := some 46, op := Op.call { callee := Callee.value (Operand.func 41), args := #[Operand.tmp 40, Operand.tmp 41, Operand.tmp 45], argTypes := #[24, 35, 5] }, type := 24, pos := "frame.go:101", after := #[{ on := 0, ground := Ground.data }, { on := 1, ground := Ground.data }, { on := 5, ground := Ground.data }], guard := none } : Oper)) rfl (fun K hK => ?_) ?_
              rotate_left 1
              · exact AllReadyH.nil
              go_simp
              go_at_call 41
              ((with_reducible refine (CW.out _).mono ?_); rintro e W5 ⟨rfl, hb5⟩; have R6 := Lib.hid (RgAt.below (w := Wa.drew) (show RgAt Wa.drew w.heap.size 24 q from HR5.out) hb5 HR5.out.lt); have HG6 := Lib.hid (World.grownBy.trans HG5.out (show Wa.grownBy W5 (some w.heap.size) from ⟨hb5.os, hb5.tape, hb5.output, hb5.size, fun j hj _ => hb5.block j hj⟩)); obtain ⟨z0, z1, z2, z3, z4, z5, z6, z7, z8⟩ := R6.out.cells; obtain ⟨f0, f1, f2, f3, f4, f5, f6, f7, f8⟩ := R6.out.frz; clear hb5)
              first | (refine hK.out _ _ ?_ (fun hH4 => ?_)) | (go_wp2_with fail; refine hK.out _ _ ?_ (fun hH4 => ?_))
              · trivial
              clear hK K hH3
              (try simp only [Act.put, List.setIfInBounds_toArray, List.set_cons_zero, List.set_cons_succ])
              refine wpAnyH_ready (rs := [7]) (by kernel_rfl) (by simp) ?_
              refine AllReadyH.cons (o := ({ dst := none, op := Op.store 24 (Operand.tmp 2) (Operand.tmp 46), type := 0, pos := "frame.go:101", after := #[{ on := 6, ground := Ground.data }, { on := 6, ground := Ground.chain }, { on := 0, ground := Ground.phase }, { on := 1, ground := Ground.phase }, { on := 2, ground := Ground.phase }, { on := 3, ground := Ground.phase }, { on := 4, ground := Ground.phase }, { on := 5, ground := Ground.phase }, { on := 6, ground := Ground.phase }], guard := none } : Oper)) rfl (fun K hK => ?_) ?_
              rotate_left 1
              · exact AllReadyH.nil
              go_simp
              first | (refine hK.out _ _ ?_ (fun hH5 => ?_)) | (go_wp2_with fail; refine hK.out _ _ ?_ (fun hH5 => ?_))
              · trivial
              clear hK K hH4
              (try simp only [Act.put, List.setIfInBounds_toArray, List.set_cons_zero, List.set_cons_succ])
              refine wpAnyH_done (by kernel_rfl) ?_ _
              refine NoPanic.normal ?_
              have R7 : Hid (RgAt (((((((((W5.setCell ⟨w.heap.size, 0, none⟩ (.int .u8 s.A)).setCell ⟨w.heap.size, 1, none⟩ (.int .u8 s.B)).setCell ⟨w.heap.size, 2, none⟩ (.int .u8 s.D)).setCell ⟨w.heap.size, 3, none⟩ (.int .u8 s.C)).setCell ⟨w.heap.size, 4, none⟩ (.int .u16 s.X)).setCell ⟨w.heap.size, 5, none⟩ (.int .u16 s.Y)).setCell ⟨w.heap.size, 6, none⟩ (.int .u16 s.U)).setCell ⟨w.heap.size, 7, none⟩ (.int .u16 s.S)).setCell ⟨w.heap.size, 8, none⟩ (.int .u16 s.P)) w.heap.size 24 s) := Lib.hid (st9_at R6.out s)
              have HG7 : Hid (W2.grownBy (((((((((W5.setCell ⟨w.heap.size, 0, none⟩ (.int .u8 s.A)).setCell ⟨w.heap.size, 1, none⟩ (.int .u8 s.B)).setCell ⟨w.heap.size, 2, none⟩ (.int .u8 s.D)).setCell ⟨w.heap.size, 3, none⟩ (.int .u8 s.C)).setCell ⟨w.heap.size, 4, none⟩ (.int .u16 s.X)).setCell ⟨w.heap.size, 5, none⟩ (.int .u16 s.Y)).setCell ⟨w.heap.size, 6, none⟩ (.int .u16 s.U)).setCell ⟨w.heap.size, 7, none⟩ (.int .u16 s.S)).setCell ⟨w.heap.size, 8, none⟩ (.int .u16 s.P)) (some w.heap.size)) := Lib.hid (World.grownBy.trans HG6.out (st9_grown W5 w.heap.size s))
              clear z0 z1 z2 z3 z4 z5 z6 z7 z8 f0 f1 f2 f3 f4 f5 f6 f7 f8 R6 HG6 s0 s1 s2 s3 s4 s5 s6 s7 s8 p0 p1 d3
              generalize ((((((((W5.setCell ⟨w.heap.size, 0, none⟩ (.int .u8 s.A)).setCell ⟨w.heap.size, 1, none⟩ (.int .u8 s.B)).setCell ⟨w.heap.size, 2, none⟩ (.int .u8 s.D)).setCell ⟨w.heap.size, 3, none⟩ (.int .u8 s.C)).setCell ⟨w.heap.size, 4, none⟩ (.int .u16 s.X)).setCell ⟨w.heap.size, 5, none⟩ (.int .u16 s.Y)).setCell ⟨w.heap.size, 6, none⟩ (.int .u16 s.U)).setCell ⟨w.heap.size, 7, none⟩ (.int .u16 s.S)).setCell ⟨w.heap.size, 8, none⟩ (.int .u16 s.P) = W9 at R7 HG7 ⊢
              have R9 : Hid (RgAt W9 w.heap.size 24 (wF r l bs (k + 1))) := Lib.hid (by rw [HSs.out]; exact R7.out)
              clear R7 d0 d1 d2
              go_wp2
              refine ⟨⟨k + 1, by omega, by go_num, R9, HG7⟩, ?_⟩
              simp [intOf]; omega
            exact AllReadyH.nil
          refine AllReadyH.cons (o := ({ dst := some 45, op := Op.load 5 (Operand.tmp 44), type := 5, pos := "frame.go:101", after := #[{ on := 4, ground := Ground.data }], guard := none } : Oper)) rfl (fun K hK => ?_) ?_
          · go_simp
            first | (refine hK.out _ _ ?_ (fun hH1 => ?_)) | (go_wp2_with fail; refine hK.out _ _ ?_ (fun hH1 => ?_))
            · trivial
            clear hK K hH0
            (try simp only [Act.put, List.setIfInBounds_toArray, List.set_cons_zero, List.set_cons_succ])
            refine wpAnyH_ready (rs := [0, 1]) (by kernel_rfl) (by simp) ?_
            refine AllReadyH.cons (o := ({ dst := some 40, op := Op.load 24 (Operand.tmp 2), type := 24, pos := "frame.go:101", after := #[], guard := none } : Oper)) rfl (fun K hK => ?_) ?_
            · go_simp
              first | (refine hK.out _ _ ?_ (fun hH2 => ?_)) | (go_wp2_with fail; refine hK.out _ _ ?_ (fun hH2 => ?_))
              · trivial
              clear hK K hH1
              (try simp only [Act.put, List.setIfInBounds_toArray, List.set_cons_zero, List.set_cons_succ])
              refine wpAnyH_ready (rs := [1]) (by kernel_rfl) (by simp) ?_
              refine AllReadyH.cons (o := ({ dst := some 41, op := Op.load 35 (Operand.tmp 8), type := 35, pos := "frame.go:101", after := #[], guard := none } : Oper)) rfl (fun K hK => ?_) ?_
              rotate_left 1
              · exact AllReadyH.nil
              go_simp
              first | (refine hK.out _ _ ?_ (fun hH3 => ?_)) | (go_wp2_with fail; refine hK.out _ _ ?_ (fun hH3 => ?_))
              · trivial
              clear hK K hH2
              (try simp only [Act.put, List.setIfInBounds_toArray, List.set_cons_zero, List.set_cons_succ])
              refine wpAnyH_ready (rs := [6]) (by kernel_rfl) (by simp) ?_
              refine AllReadyH.cons (o := ({ dst := some 46, op := Op.call { callee := Callee.value (Operand.func 41), args := #[Operand.tmp 40, Operand.tmp 41, Operand.tmp 45], argTypes := #[24, 35, 5] }, type := 24, pos := "frame.go:101", after := #[{ on := 0, ground := Ground.data }, { on := 1, ground := Ground.data }, { on := 5, ground := Ground.data }], guard := none } : Oper)) rfl (fun K hK => ?_) ?_
              rotate_left 1
              · exact AllReadyH.nil
              go_simp
              go_at_call 41
              ((with_reducible refine (CW.out _).mono ?_); rintro e W5 ⟨rfl, hb5⟩; have R6 := Lib.hid (RgAt.below (w := Wa.drew) (show RgAt Wa.drew w.heap.size 24 q from HR5.out) hb5 HR5.out.lt); have HG6 := Lib.hid (World.grownBy.trans HG5.out (show Wa.grownBy W5 (some w.heap.size) from ⟨hb5.os, hb5.tape, hb5.output, hb5.size, fun j hj _ => hb5.block j hj⟩)); obtain ⟨z0, z1, z2, z3, z4, z5, z6, z7, z8⟩ := R6.out.cells; obtain ⟨f0, f1, f2, f3, f4, f5, f6, f7, f8⟩ := R6.out.frz; clear hb5)
              first | (refine hK.out _ _ ?_ (fun hH4 => ?_)) | (go_wp2_with fail; refine hK.out _ _ ?_ (fun hH4 => ?_))
              · trivial
              clear hK K hH3
              (try simp only [Act.put, List.setIfInBounds_toArray, List.set_cons_zero, List.set_cons_succ])
              refine wpAnyH_ready (rs := [7]) (by kernel_rfl) (by simp) ?_
              refine AllReadyH.cons (o := ({ dst := none, op := Op.store 24 (Operand.tmp 2) (Operand.tmp 46), type := 0, pos := "frame.go:101", after := #[{ on := 6, ground := Ground.data }, { on := 6, ground := Ground.chain }, { on := 0, ground := Ground.phase }, { on := 1, ground := Ground.phase }, { on := 2, ground := Ground.phase }, { on := 3, ground := Ground.phase }, { on := 4, ground := Ground.phase }, { on := 5, ground := Ground.phase }, { on := 6, ground := Ground.phase }], guard := none } : Oper)) rfl (fun K hK => ?_) ?_
              rotate_left 1
              · exact AllReadyH.nil
              go_simp
              first | (refine hK.out _ _ ?_ (fun hH5 => ?_)) | (go_wp2_with fail; refine hK.out _ _ ?_ (fun hH5 => ?_))
              · trivial
              clear hK K hH4
              (try simp only [Act.put, List.setIfInBounds_toArray, List.set_cons_zero, List.set_cons_succ])
              refine wpAnyH_done (by kernel_rfl) ?_ _
              refine NoPanic.normal ?_
              have R7 : Hid (RgAt (((((((((W5.setCell ⟨w.heap.size, 0, none⟩ (.int .u8 s.A)).setCell ⟨w.heap.size, 1, none⟩ (.int .u8 s.B)).setCell ⟨w.heap.size, 2, none⟩ (.int .u8 s.D)).setCell ⟨w.heap.size, 3, none⟩ (.int .u8 s.C)).setCell ⟨w.heap.size, 4, none⟩ (.int .u16 s.X)).setCell ⟨w.heap.size, 5, none⟩ (.int .u16 s.Y)).setCell ⟨w.heap.size, 6, none⟩ (.int .u16 s.U)).setCell ⟨w.heap.size, 7, none⟩ (.int .u16 s.S)).setCell ⟨w.heap.size, 8, none⟩ (.int .u16 s.P)) w.heap.size 24 s) := Lib.hid (st9_at R6.out s)
              have HG7 : Hid (W2.grownBy (((((((((W5.setCell ⟨w.heap.size, 0, none⟩ (.int .u8 s.A)).setCell ⟨w.heap.size, 1, none⟩ (.int .u8 s.B)).setCell ⟨w.heap.size, 2, none⟩ (.int .u8 s.D)).setCell ⟨w.heap.size, 3, none⟩ (.int .u8 s.C)).setCell ⟨w.heap.size, 4, none⟩ (.int .u16 s.X)).setCell ⟨w.heap.size, 5, none⟩ (.int .u16 s.Y)).setCell ⟨w.heap.size, 6, none⟩ (.int .u16 s.U)).setCell ⟨w.heap.size, 7, none⟩ (.int .u16 s.S)).setCell ⟨w.heap.size, 8, none⟩ (.int .u16 s.P)) (some w.heap.size)) := Lib.hid (World.grownBy.trans HG6.out (st9_grown W5 w.heap.size s))
              clear z0 z1 z2 z3 z4 z5 z6 z7 z8 f0 f1 f2 f3 f4 f5 f6 f7 f8 R6 HG6 s0 s1 s2 s3 s4 s5 s6 s7 s8 p0 p1 d3
              generalize ((((((((W5.setCell ⟨w.heap.size, 0, none⟩ (.int .u8 s.A)).setCell ⟨w.heap.size, 1, none⟩ (.int .u8 s.B)).setCell ⟨w.heap.size, 2, none⟩ (.int .u8 s.D)).setCell ⟨w.heap.size, 3, none⟩ (.int .u8 s.C)).setCell ⟨w.heap.size, 4, none⟩ (.int .u16 s.X)).setCell ⟨w.heap.size, 5, none⟩ (.int .u16 s.Y)).setCell ⟨w.heap.size, 6, none⟩ (.int .u16 s.U)).setCell ⟨w.heap.size, 7, none⟩ (.int .u16 s.S)).setCell ⟨w.heap.size, 8, none⟩ (.int .u16 s.P) = W9 at R7 HG7 ⊢
              have R9 : Hid (RgAt W9 w.heap.size 24 (wF r l bs (k + 1))) := Lib.hid (by rw [HSs.out]; exact R7.out)
              clear R7 d0 d1 d2
              go_wp2
              refine ⟨⟨k + 1, by omega, by go_num, R9, HG7⟩, ?_⟩
              simp [intOf]; omega
            refine AllReadyH.cons (o := ({ dst := some 41, op := Op.load 35 (Operand.tmp 8), type := 35, pos := "frame.go:101", after := #[], guard := none } : Oper)) rfl (fun K hK => ?_) ?_
            · go_simp
              first | (refine hK.out _ _ ?_ (fun hH2 => ?_)) | (go_wp2_with fail; refine hK.out _ _ ?_ (fun hH2 => ?_))
              · trivial
              clear hK K hH1
              (try simp only [Act.put, List.setIfInBounds_toArray, List.set_cons_zero, List.set_cons_succ])
              refine wpAnyH_ready (rs := [0]) (by kernel_rfl) (by simp) ?_
              refine AllReadyH.cons (o := ({ dst := some 40, op := Op.load 24 (Operand.tmp 2), type := 24, pos := "frame.go:101", after := #[], guard := none } : Oper)) rfl (fun K hK => ?_) ?_
              rotate_left 1
              · exact AllReadyH.nil
              go_simp
              first | (refine hK.out _ _ ?_ (fun hH3 => ?_)) | (go_wp2_with fail; refine hK.out _ _ ?_ (fun hH3 => ?_))
              · trivial
              clear hK K hH2
              (try simp only [Act.put, List.setIfInBounds_toArray, List.set_cons_zero, List.set_cons_succ])
              refine wpAnyH_ready (rs := [6]) (by kernel_rfl) (by simp) ?_
              refine AllReadyH.cons (o := ({ dst := some 46, op := Op.call { callee := Callee.value (Operand.func 41), args := #[Operand.tmp 40, Operand.tmp 41, Operand.tmp 45], argTypes := #[24, 35, 5] }, type := 24, pos := "frame.go:101", after := #[{ on := 0, ground := Ground.data }, { on := 1, ground := Ground.data }, { on := 5, ground := Ground.data }], guard := none } : Oper)) rfl (fun K hK => ?_) ?_
              rotate_left 1
              · exact AllReadyH.nil
              go_simp
              go_at_call 41
              ((with_reducible refine (CW.out _).mono ?_); rintro e W5 ⟨rfl, hb5⟩; have R6 := Lib.hid (RgAt.below (w := Wa.drew) (show RgAt Wa.drew w.heap.size 24 q from HR5.out) hb5 HR5.out.lt); have HG6 := Lib.hid (World.grownBy.trans HG5.out (show Wa.grownBy W5 (some w.heap.size) from ⟨hb5.os, hb5.tape, hb5.output, hb5.size, fun j hj _ => hb5.block j hj⟩)); obtain ⟨z0, z1, z2, z3, z4, z5, z6, z7, z8⟩ := R6.out.cells; obtain ⟨f0, f1, f2, f3, f4, f5, f6, f7, f8⟩ := R6.out.frz; clear hb5)
              first | (refine hK.out _ _ ?_ (fun hH4 => ?_)) | (go_wp2_with fail; refine hK.out _ _ ?_ (fun hH4 => ?_))
              · trivial
              clear hK K hH3
              (try simp only [Act.put, List.setIfInBounds_toArray, List.set_cons_zero, List.set_cons_succ])
              refine wpAnyH_ready (rs := [7]) (by kernel_rfl) (by simp) ?_
              refine AllReadyH.cons (o := ({ dst := none, op := Op.store 24 (Operand.tmp 2) (Operand.tmp 46), type := 0, pos := "frame.go:101", after := #[{ on := 6, ground := Ground.data }, { on := 6, ground := Ground.chain }, { on := 0, ground := Ground.phase }, { on := 1, ground := Ground.phase }, { on := 2, ground := Ground.phase }, { on := 3, ground := Ground.phase }, { on := 4, ground := Ground.phase }, { on := 5, ground := Ground.phase }, { on := 6, ground := Ground.phase }], guard := none } : Oper)) rfl (fun K hK => ?_) ?_
              rotate_left 1
              · exact AllReadyH.nil
              go_simp
              first | (refine hK.out _ _ ?_ (fun hH5 => ?_)) | (go_wp2_with fail; refine hK.out _ _ ?_ (fun hH5 => ?_))
              · trivial
              clear hK K hH4
              (try simp only [Act.put, List.setIfInBounds_toArray, List.set_cons_zero, List.set_cons_succ])
              refine wpAnyH_done (by kernel_rfl) ?_ _
              refine NoPanic.normal ?_
              have R7 : Hid (RgAt (((((((((W5.setCell ⟨w.heap.size, 0, none⟩ (.int .u8 s.A)).setCell ⟨w.heap.size, 1, none⟩ (.int .u8 s.B)).setCell ⟨w.heap.size, 2, none⟩ (.int .u8 s.D)).setCell ⟨w.heap.size, 3, none⟩ (.int .u8 s.C)).setCell ⟨w.heap.size, 4, none⟩ (.int .u16 s.X)).setCell ⟨w.heap.size, 5, none⟩ (.int .u16 s.Y)).setCell ⟨w.heap.size, 6, none⟩ (.int .u16 s.U)).setCell ⟨w.heap.size, 7, none⟩ (.int .u16 s.S)).setCell ⟨w.heap.size, 8, none⟩ (.int .u16 s.P)) w.heap.size 24 s) := Lib.hid (st9_at R6.out s)
              have HG7 : Hid (W2.grownBy (((((((((W5.setCell ⟨w.heap.size, 0, none⟩ (.int .u8 s.A)).setCell ⟨w.heap.size, 1, none⟩ (.int .u8 s.B)).setCell ⟨w.heap.size, 2, none⟩ (.int .u8 s.D)).setCell ⟨w.heap.size, 3, none⟩ (.int .u8 s.C)).setCell ⟨w.heap.size, 4, none⟩ (.int .u16 s.X)).setCell ⟨w.heap.size, 5, none⟩ (.int .u16 s.Y)).setCell ⟨w.heap.size, 6, none⟩ (.int .u16 s.U)).setCell ⟨w.heap.size, 7, none⟩ (.int .u16 s.S)).setCell ⟨w.heap.size, 8, none⟩ (.int .u16 s.P)) (some w.heap.size)) := Lib.hid (World.grownBy.trans HG6.out (st9_grown W5 w.heap.size s))
              clear z0 z1 z2 z3 z4 z5 z6 z7 z8 f0 f1 f2 f3 f4 f5 f6 f7 f8 R6 HG6 s0 s1 s2 s3 s4 s5 s6 s7 s8 p0 p1 d3
              generalize ((((((((W5.setCell ⟨w.heap.size, 0, none⟩ (.int .u8 s.A)).setCell ⟨w.heap.size, 1, none⟩ (.int .u8 s.B)).setCell ⟨w.heap.size, 2, none⟩ (.int .u8 s.D)).setCell ⟨w.heap.size, 3, none⟩ (.int .u8 s.C)).setCell ⟨w.heap.size, 4, none⟩ (.int .u16 s.X)).setCell ⟨w.heap.size, 5, none⟩ (.int .u16 s.Y)).setCell ⟨w.heap.size, 6, none⟩ (.int .u16 s.U)).setCell ⟨w.heap.size, 7, none⟩ (.int .u16 s.S)).setCell ⟨w.heap.size, 8, none⟩ (.int .u16 s.P) = W9 at R7 HG7 ⊢
              have R9 : Hid (RgAt W9 w.heap.size 24 (wF r l bs (k + 1))) := Lib.hid (by rw [HSs.out]; exact R7.out)
              clear R7 d0 d1 d2
              go_wp2
              refine ⟨⟨k + 1, by omega, by go_num, R9, HG7⟩, ?_⟩
              simp [intOf]; omega
            exact AllReadyH.nil
          exact AllReadyH.nil
        · have hkn : k = n := by omega
          subst hkn
          have HOKk := HOK.out k (Nat.le_refl _)
          obtain ⟨q, hq⟩ : ∃ q, wF r l bs k = q := ⟨_, rfl⟩
          rw [hq] at HRg HOKk HRv
          have u0 := HOKk.s0
          have u1 := HOKk.s1
          obtain ⟨s0, s1, s2, s3, s4, s5, s6, s7, s8⟩ := RgAt.cells HRg.out
          have fs := HRg.out.frozen 7
          have tw1 : IntKind.u16.wrap (k : Int) = (k : Int) := by rw [IntKind.wrap_u16]; omega
          have tw2 : IntKind.u16.wrap (q.S + (k : Int)) = (q.S + (k : Int)) % 65536 := by rw [IntKind.wrap_u16]
          have R8 : Hid (RgAt (wr.setCell ⟨w.heap.size, 7, none⟩ (.int .u16 ((q.S + (k : Int)) % 65536))) w.heap.size 24 (mvS q k)) := Lib.hid (Blk.set_ HRg.out 7 _)
          obtain ⟨v0, v1, v2, v3, v4, v5, v6, v7, v8⟩ := RgAt.cells R8.out
          have Zr := RgAt.grown Z3.out HG.out (by simp)
          have Z8 := Lib.hid (Blk.far Zr (p := ⟨w.heap.size, 7, none⟩) (by simp) (.int .u16 ((q.S + (k : Int)) % 65536)))
          have G8 := Lib.hid (World.grownBy.trans HG.out (grown_cell wr w.heap.size 7 (.int .u16 ((q.S + (k : Int)) % 65536))))
          have B8 := Lib.hid (Below.trans B3.out (below_own (base := w.heap.size) G8.out (by intro g e; simp at e; omega) hBS))
          clear HRg Zr HG G8 HOKk v0 v1 v2 v3 v4 v5 v6 v7 v8
          go_upto_region 14 with (fail)
          generalize wr.setCell ⟨w.heap.size, 7, none⟩ (.int .u16 ((q.S + (k : Int)) % 65536)) = W8 at R8 Z8 B8 ⊢
          have Z9 : Hid (Blk (W8.setRow (w.heap.size + 1) RR.cells) (w.heap.size + 1) 24 RR.cells) := Lib.hid (Blk.row Z8.out RR.cells)
          have B9 := Lib.hid (below_row' B8.out (w.heap.size + 1) RR.cells (by omega))
          rw [← HRv.out] at R8
          refine wp_region_lit ?_
          refine wpList_load_row rfl 24 _ rfl w.heap.size rfl 24 RR.cells (0, 0) _ R8.out Tryd.underlying24 rfl (by kernel_rfl) ?_
          refine wpList_store_rowTo rfl 24 _ _ rfl rfl (w.heap.size + 1) RR.cells rfl rfl 24 zeroRg.cells Z8.out (by kernel_rfl) rfl (cells_one RR) ?_
          simp only [Act.put, List.setIfInBounds_toArray, List.set_cons_zero, List.set_cons_succ]
          generalize W8.setRow (w.heap.size + 1) RR.cells = W9 at Z9 B9 ⊢
          go_wp2
          exact bodyPost_ret (v := .tuple #[.agg RR.cells, .int .i64 0]) (resBk _ _ (w.heap.size + 1) _ Z9.out rfl rfl 0 rfl) rfl ⟨rfl, B9.out⟩
    · have e1 : RR = zeroRg := by rw [HER.out, if_neg (by omega)]
      have e2 : EE = 12 := by rw [HEE2.out, if_neg (by omega), if_pos h]
      subst e1 e2
      have h' : ¬ n < m := by omega
      obtain ⟨z0, z1, z2, z3, z4, z5, z6, z7, z8⟩ := Z3.out.cells
      obtain ⟨f0, f1, f2, f3, f4, f5, f6, f7, f8⟩ := Z3.out.frz
      have Z4 := Lib.hid (st9_at Z3.out zeroRg)
      have B4 := Lib.hid (Below.trans B3.out (below_own (base := w.heap.size) (st9_grown W2 (w.heap.size + 1) zeroRg) (by intro g e; simp at e; omega) B3.out.size))
      go_wp2
      exact bodyPost_ret (v := .tuple #[.agg zeroRg.cells, .int .i64 12]) (resBk _ _ (w.heap.size + 1) _ Z4.out rfl rfl 12 rfl) rfl ⟨rfl, B4.out⟩
end Go.Proofs.YtfjkbjkbpbnalabDoor
