/- The law FileMoves, over registers as numbers. -/
import Derived.Test.YtfkcogccbeolfaaFilR
import Derived.OrdersHeld
namespace Go.Proofs.Ytfkcogccbeolfaa
open Go.ChangeShapes Go.WideShapes Go.ChangeAt Go.RowKit
set_option linter.unusedVariables false

set_option maxRecDepth 100000 in
theorem eql_regs (s : Rg) (w : World) : (binOp .eql 24 (.agg #[.int .u8 s.A, .int .u8 s.B, .int .u8 s.D, .int .u8 s.C, .int .u16 s.X, .int .u16 s.Y, .int .u16 s.U, .int .u16 s.S, .int .u16 s.P]) (.agg #[.int .u8 s.A, .int .u8 s.B, .int .u8 s.D, .int .u8 s.C, .int .u16 s.X, .int .u16 s.Y, .int .u16 s.U, .int .u16 s.S, .int .u16 s.P])).run Try.prog w = .ok (.bool true) w := by
  go_simp
set_option maxRecDepth 100000 in
set_option maxHeartbeats 8000000 in
theorem law_moves (r : Rg) (hr : r.Ok) (p : Int) (h0 : 0 ≤ p) (h1 : p < 256) (w : World) :
    Calls Try.prog 4 #[.agg r.cells, .int .u8 p] w fun e w' => e = .returned (.bool true) ∧ Below w.heap.size w w' := by
  have CT0 := fun (w : World) (g : Nat) (t : TypeId) (h : RgAt w g t r) => tfr_any r hr p h0 h1 w g t h
  have CE0 := fun (w : World) (g : Nat) (t : TypeId) (h : RgAt w g t r) => exg_any r hr p h0 h1 w g t h
  have RT0 := fun (w : World) => refTfr_any r hr p h0 h1 w
  have RE0 := fun (w : World) => refExg_any r hr p h0 h1 w
  have CP0 := fun (w : World) => pair_any (p / 16) (p % 16) w (by omega) (by omega) (by omega) (by omega)
  rw [show 16 * (p / 16) + p % 16 = p by omega] at CP0
  obtain ⟨s, hs⟩ : ∃ s, tfrR r p = s := ⟨_, rfl⟩
  obtain ⟨q, hq⟩ : ∃ q, exgR r p = q := ⟨_, rfl⟩
  rw [hs] at CT0 RT0
  rw [hq] at CE0 RE0
  have t1 : p.tmod 16 = p % 16 := Int.tmod_eq_emod_of_nonneg h0
  have t2 : p.tdiv 16 = p / 16 := Int.tdiv_eq_ediv_of_nonneg h0
  have t3 : IntKind.u8.wrap (p / 16) = p / 16 := by rw [IntKind.wrap_u8]; omega
  have t4 : IntKind.u8.wrap (p % 16) = p % 16 := by rw [IntKind.wrap_u8]; omega
  have t5 : IntKind.i64.wrap (p / 16) = p / 16 := IntWalk.i64_in _ (by omega)
  have t6 : IntKind.i64.wrap (p % 16) = p % 16 := IntWalk.i64_in _ (by omega)
  obtain ⟨x, hx⟩ : ∃ x, p / 16 = x := ⟨_, rfl⟩
  obtain ⟨y, hy⟩ : ∃ y, p % 16 = y := ⟨_, rfl⟩
  rw [hx] at CP0 CE0 t2 t3 t5
  rw [hy] at CP0 CE0 CT0 t1 t4 t6
  have ep : (p == p) = true := by simp
  have CT := Lib.hid CT0
  have CE := Lib.hid CE0
  have RT := Lib.hid RT0
  have RE := Lib.hid RE0
  have CP := Lib.hid CP0
  clear CT0 CE0 RT0 RE0 CP0 hs hq hx hy
  have HBd := Lib.hid (show RgAt (w.alloc (Obj.cells r.cells 24)).drew w.heap.size 24 r from Blk.new _ _ _ _)
  have HBe := Lib.hid (show RgAt ((w.alloc (Obj.cells r.cells 24)).alloc (Obj.cells r.cells 27)).drew w.heap.size 24 r from Blk.alloc (Blk.new _ _ _ _) _)
  have HBf := Lib.hid (show RgAt ((((w.alloc (Obj.cells r.cells 24)).alloc (Obj.cells r.cells 27)).alloc (Obj.cells r.cells 27)).drew) w.heap.size 24 r from Blk.alloc (Blk.alloc (Blk.new _ _ _ _) _) _)
  have HF1 := Lib.hid (show RgAt ((((w.alloc (Obj.cells r.cells 24)).alloc (Obj.cells r.cells 27)).alloc (Obj.cells r.cells 27)).drew) (w.heap.size + 1) 27 r from Blk.alloc (RgAt.new2 w _ _ r) _)
  have HF2 := Lib.hid (show RgAt ((((w.alloc (Obj.cells r.cells 24)).alloc (Obj.cells r.cells 27)).alloc (Obj.cells r.cells 27)).drew) (w.heap.size + 1 + 1) 27 r from by
    have := RgAt.new2 (w.alloc (Obj.cells r.cells 24)) (Obj.cells r.cells 27) 27 r
    rw [show (w.alloc (Obj.cells r.cells 24)).heap.size = w.heap.size + 1 by simp] at this
    exact this)
  have HLf := Lib.hid (show Below w.heap.size w ((((w.alloc (Obj.cells r.cells 24)).alloc (Obj.cells r.cells 27)).alloc (Obj.cells r.cells 27)).drew) from Below.drew0 (Below.alloc0 (Below.alloc0 (Below.alloc0 (Below.refl _ _) _) _) _))
  have HQ1 := Lib.hid (show RgAt ((((w.alloc (Obj.cells r.cells 24)).alloc (Obj.cells r.cells 27)).alloc (Obj.cells r.cells 27)).drew) w.heap.size 24 r ∧ RgAt ((((w.alloc (Obj.cells r.cells 24)).alloc (Obj.cells r.cells 27)).alloc (Obj.cells r.cells 27)).drew) (w.heap.size + 1) 27 r ∧ RgAt ((((w.alloc (Obj.cells r.cells 24)).alloc (Obj.cells r.cells 27)).alloc (Obj.cells r.cells 27)).drew) (w.heap.size + 1 + 1) 27 r ∧ Below w.heap.size w ((((w.alloc (Obj.cells r.cells 24)).alloc (Obj.cells r.cells 27)).alloc (Obj.cells r.cells 27)).drew) ∧ (w.heap.size + 1) ≠ (w.heap.size + 1 + 1) ∧ w.heap.size < (w.heap.size + 1) ∧ w.heap.size < (w.heap.size + 1 + 1) from ⟨HBf.out, HF1.out, HF2.out, HLf.out, by omega, by omega, by omega⟩)
  have HQ2 := Lib.hid (show RgAt ((((w.alloc (Obj.cells r.cells 24)).alloc (Obj.cells r.cells 27)).alloc (Obj.cells r.cells 27)).drew) w.heap.size 24 r ∧ RgAt ((((w.alloc (Obj.cells r.cells 24)).alloc (Obj.cells r.cells 27)).alloc (Obj.cells r.cells 27)).drew) (w.heap.size + 1 + 1) 27 r ∧ RgAt ((((w.alloc (Obj.cells r.cells 24)).alloc (Obj.cells r.cells 27)).alloc (Obj.cells r.cells 27)).drew) (w.heap.size + 1) 27 r ∧ Below w.heap.size w ((((w.alloc (Obj.cells r.cells 24)).alloc (Obj.cells r.cells 27)).alloc (Obj.cells r.cells 27)).drew) ∧ (w.heap.size + 1 + 1) ≠ (w.heap.size + 1) ∧ w.heap.size < (w.heap.size + 1 + 1) ∧ w.heap.size < (w.heap.size + 1) from ⟨HBf.out, HF2.out, HF1.out, HLf.out, by omega, by omega, by omega⟩)
  clear HF1 HF2 HLf
  go_enter Try.func4, Try.ntmps4
  go_upto_region 1 with (fail)
  go_cut [5, 6] (fun u5 u6 wx => ∃ gf gg, u5 = .pointer (some ⟨gf, 0, none⟩) ∧ u6 = .pointer (some ⟨gg, 0, none⟩) ∧ Hid (RgAt wx w.heap.size 24 r ∧ RgAt wx gf 27 r ∧ RgAt wx gg 27 r ∧ Below w.heap.size w wx ∧ gf ≠ gg ∧ w.heap.size < gf ∧ w.heap.size < gg))
  case first =>
    go_region_held3 (fun w' => w'.cell? ⟨w.heap.size, 0, none⟩ = some (.int .u8 r.A) ∧ w'.cell? ⟨w.heap.size, 1, none⟩ = some (.int .u8 r.B) ∧ w'.cell? ⟨w.heap.size, 2, none⟩ = some (.int .u8 r.D) ∧ w'.cell? ⟨w.heap.size, 3, none⟩ = some (.int .u8 r.C) ∧ w'.cell? ⟨w.heap.size, 4, none⟩ = some (.int .u16 r.X) ∧ w'.cell? ⟨w.heap.size, 5, none⟩ = some (.int .u16 r.Y) ∧ w'.cell? ⟨w.heap.size, 6, none⟩ = some (.int .u16 r.U) ∧ w'.cell? ⟨w.heap.size, 7, none⟩ = some (.int .u16 r.S) ∧ w'.cell? ⟨w.heap.size, 8, none⟩ = some (.int .u16 r.P))
      (first
        | (with_reducible exact HBd.out.cells)
        | (with_reducible exact HBe.out.cells)
        | (with_reducible exact HBf.out.cells))
      (fail)
    all_goals
      go_wp2_with fail
      go_meet
      case rel =>
        first
          | (with_reducible exact ⟨_, _, rfl, rfl, HQ1⟩)
          | (with_reducible exact ⟨_, _, rfl, rfl, HQ2⟩)
  case rest =>
    obtain ⟨gf, gg, rfl, rfl, HA⟩ := hcut
    clear HBd HBe HBf HQ1 HQ2
    go_wp2_with fail
    refine (CT.out _ gf _ HA.out.2.1).mono ?_
    rintro e w1 ⟨rfl, hp1⟩
    have HB1 := Lib.hid (RgAt.grown HA.out.1 hp1.2.1 (fun e => by injection e with e; have := HA.out.2.2.2.2.2.1; omega))
    have HF1 := Lib.hid hp1.1
    have HG1 := Lib.hid (RgAt.grown HA.out.2.2.1 hp1.2.1 (fun e => by injection e with e; have := HA.out.2.2.2.2.1; omega))
    have HL1 := Lib.hid (HA.out.2.2.2.1.trans (Put.below hp1 (Nat.le_of_lt HA.out.2.2.2.2.2.1) HA.out.2.2.2.1.size))
    clear hp1
    go_wp2_with fail
    refine (CE.out _ gg _ HG1.out).mono ?_
    rintro e w2 ⟨rfl, hp2⟩
    have HB2 := Lib.hid (RgAt.grown HB1.out hp2.2.1 (fun e => by injection e with e; have := HA.out.2.2.2.2.2.2; omega))
    have HF2 := Lib.hid (RgAt.grown HF1.out hp2.2.1 (fun e => by injection e with e; have := HA.out.2.2.2.2.1; omega))
    have HG2 := Lib.hid hp2.1
    have HL2 := Lib.hid (HL1.out.trans (Put.below hp2 (Nat.le_of_lt HA.out.2.2.2.2.2.2) HL1.out.size))
    clear hp2 HA HB1 HF1 HG1 HL1
    have HB3 := Lib.hid (show RgAt w2.drew w.heap.size 24 r from HB2.out)
    have HF3 := Lib.hid (show RgAt w2.drew gf 27 s from HF2.out)
    have HG3 := Lib.hid (show RgAt w2.drew gg 27 q from HG2.out)
    have HL3 := Lib.hid (Below.drew0 HL2.out)
    obtain ⟨bx, hbx⟩ : ∃ bx, (x == 4) = bx := ⟨_, rfl⟩
    obtain ⟨bY, hby⟩ : ∃ bY, (y == 4) = bY := ⟨_, rfl⟩
    go_upto_region 3 with (fail)
    (try rw [hbx]); (try rw [hby])
    have hes := eql_regs s
    have heq := eql_regs q
    cases bY
    · cases bx
      all_goals
        first
          | go_region_held3 (fun w' => (w'.cell? ⟨w.heap.size, 0, none⟩ = some (.int .u8 r.A) ∧ w'.cell? ⟨w.heap.size, 1, none⟩ = some (.int .u8 r.B) ∧ w'.cell? ⟨w.heap.size, 2, none⟩ = some (.int .u8 r.D) ∧ w'.cell? ⟨w.heap.size, 3, none⟩ = some (.int .u8 r.C) ∧ w'.cell? ⟨w.heap.size, 4, none⟩ = some (.int .u16 r.X) ∧ w'.cell? ⟨w.heap.size, 5, none⟩ = some (.int .u16 r.Y) ∧ w'.cell? ⟨w.heap.size, 6, none⟩ = some (.int .u16 r.U) ∧ w'.cell? ⟨w.heap.size, 7, none⟩ = some (.int .u16 r.S) ∧ w'.cell? ⟨w.heap.size, 8, none⟩ = some (.int .u16 r.P)) ∧ (w'.cell? ⟨gf, 0, none⟩ = some (.int .u8 s.A) ∧ w'.cell? ⟨gf, 1, none⟩ = some (.int .u8 s.B) ∧ w'.cell? ⟨gf, 2, none⟩ = some (.int .u8 s.D) ∧ w'.cell? ⟨gf, 3, none⟩ = some (.int .u8 s.C) ∧ w'.cell? ⟨gf, 4, none⟩ = some (.int .u16 s.X) ∧ w'.cell? ⟨gf, 5, none⟩ = some (.int .u16 s.Y) ∧ w'.cell? ⟨gf, 6, none⟩ = some (.int .u16 s.U) ∧ w'.cell? ⟨gf, 7, none⟩ = some (.int .u16 s.S) ∧ w'.cell? ⟨gf, 8, none⟩ = some (.int .u16 s.P)) ∧ (w'.cell? ⟨gg, 0, none⟩ = some (.int .u8 q.A) ∧ w'.cell? ⟨gg, 1, none⟩ = some (.int .u8 q.B) ∧ w'.cell? ⟨gg, 2, none⟩ = some (.int .u8 q.D) ∧ w'.cell? ⟨gg, 3, none⟩ = some (.int .u8 q.C) ∧ w'.cell? ⟨gg, 4, none⟩ = some (.int .u16 q.X) ∧ w'.cell? ⟨gg, 5, none⟩ = some (.int .u16 q.Y) ∧ w'.cell? ⟨gg, 6, none⟩ = some (.int .u16 q.U) ∧ w'.cell? ⟨gg, 7, none⟩ = some (.int .u16 q.S) ∧ w'.cell? ⟨gg, 8, none⟩ = some (.int .u16 q.P)))
             (first
                | (with_reducible exact ⟨HB3.out.cells, HF3.out.cells, HG3.out.cells⟩)
                | (with_reducible exact ⟨HB4.out.cells, HF4.out.cells, HG4.out.cells⟩)
                | (with_reducible exact ⟨HB5.out.cells, HF5.out.cells, HG5.out.cells⟩)
                | (with_reducible exact ⟨HB6.out.cells, HF6.out.cells, HG6.out.cells⟩))
             (first
                | (go_at_call 13; ((with_reducible refine (RT.out _).mono ?_); rintro e v4 ⟨rfl, hb4⟩; have HB4 := Lib.hid (RgAt.below HB3.out hb4 HB3.out.lt); have HF4 := Lib.hid (RgAt.below HF3.out hb4 HF3.out.lt); have HG4 := Lib.hid (RgAt.below HG3.out hb4 HG3.out.lt); have HL4 := Lib.hid (Below.trans0 HL3.out hb4); clear hb4))
                | (go_at_call 14; ((with_reducible refine (RE.out _).mono ?_); rintro e v5 ⟨rfl, hb5⟩; have HB5 := Lib.hid (RgAt.below HB4.out hb5 HB4.out.lt); have HF5 := Lib.hid (RgAt.below HF4.out hb5 HF4.out.lt); have HG5 := Lib.hid (RgAt.below HG4.out hb5 HG4.out.lt); have HL5 := Lib.hid (Below.trans0 HL4.out hb5); clear hb5))
                | (go_at_call 15; ((with_reducible refine (CP.out _).mono ?_); rintro e v9 ⟨rfl, rfl⟩))
                | (go_at_call 10; ((with_reducible refine (alive16 _).mono ?_); rintro e v6 ⟨rfl, hb6⟩; have HB6 := Lib.hid (RgAt.below HB5.out hb6 HB5.out.lt); have HF6 := Lib.hid (RgAt.below HF5.out hb6 HF5.out.lt); have HG6 := Lib.hid (RgAt.below HG5.out hb6 HG5.out.lt); have HL6 := Lib.hid (Below.trans0 HL5.out hb6); clear hb6)))
          | skip
        go_wp2
        go_ret
        exact ⟨rfl, HL6.out⟩
    · -- by hand: the operations behind a guard that is shut
      refine wp_region_noPanic ?_
      refine wp_region_held_drew (S := (fun w' => (w'.cell? ⟨w.heap.size, 0, none⟩ = some (.int .u8 r.A) ∧ w'.cell? ⟨w.heap.size, 1, none⟩ = some (.int .u8 r.B) ∧ w'.cell? ⟨w.heap.size, 2, none⟩ = some (.int .u8 r.D) ∧ w'.cell? ⟨w.heap.size, 3, none⟩ = some (.int .u8 r.C) ∧ w'.cell? ⟨w.heap.size, 4, none⟩ = some (.int .u16 r.X) ∧ w'.cell? ⟨w.heap.size, 5, none⟩ = some (.int .u16 r.Y) ∧ w'.cell? ⟨w.heap.size, 6, none⟩ = some (.int .u16 r.U) ∧ w'.cell? ⟨w.heap.size, 7, none⟩ = some (.int .u16 r.S) ∧ w'.cell? ⟨w.heap.size, 8, none⟩ = some (.int .u16 r.P)) ∧ (w'.cell? ⟨gf, 0, none⟩ = some (.int .u8 s.A) ∧ w'.cell? ⟨gf, 1, none⟩ = some (.int .u8 s.B) ∧ w'.cell? ⟨gf, 2, none⟩ = some (.int .u8 s.D) ∧ w'.cell? ⟨gf, 3, none⟩ = some (.int .u8 s.C) ∧ w'.cell? ⟨gf, 4, none⟩ = some (.int .u16 s.X) ∧ w'.cell? ⟨gf, 5, none⟩ = some (.int .u16 s.Y) ∧ w'.cell? ⟨gf, 6, none⟩ = some (.int .u16 s.U) ∧ w'.cell? ⟨gf, 7, none⟩ = some (.int .u16 s.S) ∧ w'.cell? ⟨gf, 8, none⟩ = some (.int .u16 s.P)) ∧ (w'.cell? ⟨gg, 0, none⟩ = some (.int .u8 q.A) ∧ w'.cell? ⟨gg, 1, none⟩ = some (.int .u8 q.B) ∧ w'.cell? ⟨gg, 2, none⟩ = some (.int .u8 q.D) ∧ w'.cell? ⟨gg, 3, none⟩ = some (.int .u8 q.C) ∧ w'.cell? ⟨gg, 4, none⟩ = some (.int .u16 q.X) ∧ w'.cell? ⟨gg, 5, none⟩ = some (.int .u16 q.Y) ∧ w'.cell? ⟨gg, 6, none⟩ = some (.int .u16 q.U) ∧ w'.cell? ⟨gg, 7, none⟩ = some (.int .u16 q.S) ∧ w'.cell? ⟨gg, 8, none⟩ = some (.int .u16 q.P)))) (by kernel_rfl) ?_ (fun hH0 => ?_)
      · (try dsimp only); with_reducible exact ⟨HB3.out.cells, HF3.out.cells, HG3.out.cells⟩
      refine wpAnyH_take (i := 0) (oi := ({ dst := some 21, op := Op.move (Operand.tmp 5), type := 25, pos := "law.go:29", after := #[], guard := none } : Oper)) (v := ?_) rfl (by kernel_rfl) (by kernel_rfl) (by kernel_rfl) (fun _ _ _ h => h) (Or.inl ⟨by rfl, ?_⟩) (by assumption) ?_
      rotate_left 1
      · (intro w hSw; (try dsimp only at hSw); go_simp; (try with_reducible rfl))
      (try simp only [Act.put, List.setIfInBounds_toArray, List.set_cons_zero, List.set_cons_succ])
      refine wpAnyH_take (i := 1) (oi := ({ dst := some 22, op := Op.nilCheck (Operand.tmp 21), type := 0, pos := "law.go:29", after := #[{ on := 0, ground := Ground.data }], guard := none } : Oper)) (v := ?_) rfl (by kernel_rfl) (by kernel_rfl) (by kernel_rfl) (fun _ _ _ h => h) (Or.inl ⟨by rfl, ?_⟩) (by assumption) ?_
      rotate_left 1
      · (intro w hSw; (try dsimp only at hSw); go_simp; (try with_reducible rfl))
      (try simp only [Act.put, List.setIfInBounds_toArray, List.set_cons_zero, List.set_cons_succ])
      refine wpAnyH_take (i := 2) (oi := ({ dst := some 23, op := Op.fieldAddr 27 (Operand.tmp 22) 0, type := 0, pos := "law.go:29", after := #[{ on := 1, ground := Ground.data }], guard := none } : Oper)) (v := ?_) rfl (by kernel_rfl) (by kernel_rfl) (by kernel_rfl) (fun _ _ _ h => h) (Or.inl ⟨by rfl, ?_⟩) (by assumption) ?_
      rotate_left 1
      · (intro w hSw; (try dsimp only at hSw); go_simp; (try with_reducible rfl))
      (try simp only [Act.put, List.setIfInBounds_toArray, List.set_cons_zero, List.set_cons_succ])
      refine wpAnyH_take (i := 3) (oi := ({ dst := some 24, op := Op.load 24 (Operand.tmp 23), type := 24, pos := "law.go:29", after := #[{ on := 2, ground := Ground.data }], guard := none } : Oper)) (v := ?_) rfl (by kernel_rfl) (by kernel_rfl) (by kernel_rfl) (fun _ _ _ h => h) (Or.inl ⟨by rfl, ?_⟩) (by assumption) ?_
      rotate_left 1
      · (intro w hSw; (try dsimp only at hSw); go_simp; (try with_reducible rfl))
      (try simp only [Act.put, List.setIfInBounds_toArray, List.set_cons_zero, List.set_cons_succ])
      refine wpAnyH_take (i := 4) (oi := ({ dst := some 25, op := Op.load 24 (Operand.tmp 2), type := 24, pos := "law.go:29", after := #[], guard := none } : Oper)) (v := ?_) rfl (by kernel_rfl) (by kernel_rfl) (by kernel_rfl) (fun _ _ _ h => h) (Or.inl ⟨by rfl, ?_⟩) (by assumption) ?_
      rotate_left 1
      · (intro w hSw; (try dsimp only at hSw); go_simp; (try with_reducible rfl))
      (try simp only [Act.put, List.setIfInBounds_toArray, List.set_cons_zero, List.set_cons_succ])
      refine wpAnyH_take (i := 5) (oi := ({ dst := some 26, op := Op.move (Operand.tmp 1), type := 5, pos := "law.go:29", after := #[], guard := none } : Oper)) (v := ?_) rfl (by kernel_rfl) (by kernel_rfl) (by kernel_rfl) (fun _ _ _ h => h) (Or.inl ⟨by rfl, ?_⟩) (by assumption) ?_
      rotate_left 1
      · (intro w hSw; (try dsimp only at hSw); go_simp; (try with_reducible rfl))
      (try simp only [Act.put, List.setIfInBounds_toArray, List.set_cons_zero, List.set_cons_succ])
      refine wpAnyH_ready (rs := [6]) (by kernel_rfl) (by simp) ?_
      refine AllReadyH.cons (o := ({ dst := some 27, op := Op.call { callee := Callee.value (Operand.func 13), args := #[Operand.tmp 25, Operand.tmp 26], argTypes := #[24, 5] }, type := 24, pos := "law.go:29", after := #[{ on := 4, ground := Ground.data }, { on := 5, ground := Ground.data }], guard := none } : Oper)) rfl (fun K hK => ?_) ?_
      rotate_left 1
      · exact AllReadyH.nil
      go_simp
      ((with_reducible refine (RT.out _).mono ?_); rintro e v4 ⟨rfl, hb4⟩; have HB4 := Lib.hid (RgAt.below HB3.out hb4 HB3.out.lt); have HF4 := Lib.hid (RgAt.below HF3.out hb4 HF3.out.lt); have HG4 := Lib.hid (RgAt.below HG3.out hb4 HG3.out.lt); have HL4 := Lib.hid (Below.trans0 HL3.out hb4); clear hb4)
      first | (refine hK.out _ _ ?_ (fun hH1 => ?_)) | (go_wp2_with fail; refine hK.out _ _ ?_ (fun hH1 => ?_))
      · (try dsimp only); with_reducible exact ⟨HB4.out.cells, HF4.out.cells, HG4.out.cells⟩
      clear hK K hH0
      (try simp only [Act.put, List.setIfInBounds_toArray, List.set_cons_zero, List.set_cons_succ])
      refine wpAnyH_take (i := 7) (oi := ({ dst := some 28, op := Op.binOp BinOp.eql 24 (Operand.tmp 24) (Operand.tmp 27) 24, type := 4, pos := "law.go:29", after := #[{ on := 3, ground := Ground.data }, { on := 6, ground := Ground.data }], guard := none } : Oper)) (v := ?_) rfl (by kernel_rfl) (by kernel_rfl) (by kernel_rfl) (fun _ _ _ h => h) (Or.inl ⟨by rfl, ?_⟩) (by assumption) ?_
      rotate_left 1
      · (intro w hSw; (try dsimp only at hSw); go_simp; (try with_reducible rfl))
      (try simp only [Act.put, List.setIfInBounds_toArray, List.set_cons_zero, List.set_cons_succ])
      refine wpAnyH_take (i := 8) (oi := ({ dst := some 29, op := Op.move (Operand.tmp 28), type := 4, pos := "law.go:29", after := #[{ on := 7, ground := Ground.data }, { on := 6, ground := Ground.chain }], guard := none } : Oper)) (v := ?_) rfl (by kernel_rfl) (by kernel_rfl) (by kernel_rfl) (fun _ _ _ h => h) (Or.inl ⟨by rfl, ?_⟩) (by assumption) ?_
      rotate_left 1
      · (intro w hSw; (try dsimp only at hSw); go_simp; (try with_reducible rfl))
      (try simp only [Act.put, List.setIfInBounds_toArray, List.set_cons_zero, List.set_cons_succ])
      refine wpAnyH_take (i := 9) (oi := ({ dst := some 30, op := Op.move (Operand.tmp 7), type := 4, pos := "law.go:29", after := #[{ on := 8, ground := Ground.guard }], guard := some (8, true) } : Oper)) (v := ?_) rfl (by kernel_rfl) (by kernel_rfl) (by kernel_rfl) (fun _ _ _ h => h) (Or.inl ⟨by rfl, ?_⟩) (by assumption) ?_
      rotate_left 1
      · (intro w hSw; (try dsimp only at hSw); go_simp; (try with_reducible rfl))
      (try simp only [Act.put, List.setIfInBounds_toArray, List.set_cons_zero, List.set_cons_succ])
      refine wpAnyH_take (i := 10) (oi := ({ dst := some 31, op := Op.move (Operand.tmp 1), type := 5, pos := "law.go:29", after := #[{ on := 8, ground := Ground.guard }], guard := some (8, true) } : Oper)) (v := ?_) rfl (by kernel_rfl) (by kernel_rfl) (by kernel_rfl) (fun _ _ _ h => h) (Or.inl ⟨by rfl, ?_⟩) (by assumption) ?_
      rotate_left 1
      · (intro w hSw; (try dsimp only at hSw); go_simp; (try with_reducible rfl))
      (try simp only [Act.put, List.setIfInBounds_toArray, List.set_cons_zero, List.set_cons_succ])
      refine wpAnyH_take (i := 11) (oi := ({ dst := some 32, op := Op.binOp BinOp.rem 5 (Operand.tmp 31) (Operand.const (Value.int IntKind.u8 16)) 5, type := 5, pos := "law.go:29", after := #[{ on := 10, ground := Ground.data }, { on := 8, ground := Ground.guard }], guard := some (8, true) } : Oper)) (v := ?_) rfl (by kernel_rfl) (by kernel_rfl) (by kernel_rfl) (fun _ _ _ h => h) (Or.inl ⟨by rfl, ?_⟩) (by assumption) ?_
      rotate_left 1
      · (intro w hSw; (try dsimp only at hSw); go_simp; (try with_reducible rfl))
      (try simp only [Act.put, List.setIfInBounds_toArray, List.set_cons_zero, List.set_cons_succ])
      refine wpAnyH_take (i := 12) (oi := ({ dst := some 33, op := Op.binOp BinOp.eql 5 (Operand.tmp 32) (Operand.const (Value.int IntKind.u8 4)) 5, type := 4, pos := "law.go:29", after := #[{ on := 11, ground := Ground.data }, { on := 8, ground := Ground.guard }], guard := some (8, true) } : Oper)) (v := ?_) rfl (by kernel_rfl) (by kernel_rfl) (by kernel_rfl) (fun _ _ _ h => h) (Or.inl ⟨by rfl, ?_⟩) (by assumption) ?_
      rotate_left 1
      · (intro w hSw; (try dsimp only at hSw); go_simp; (try with_reducible rfl))
      (try simp only [Act.put, List.setIfInBounds_toArray, List.set_cons_zero, List.set_cons_succ])
      refine wpAnyH_take (i := 13) (oi := ({ dst := some 34, op := Op.binOp BinOp.eql 4 (Operand.tmp 30) (Operand.tmp 33) 4, type := 4, pos := "law.go:29", after := #[{ on := 9, ground := Ground.data }, { on := 12, ground := Ground.data }, { on := 8, ground := Ground.guard }], guard := some (8, true) } : Oper)) (v := ?_) rfl (by kernel_rfl) (by kernel_rfl) (by kernel_rfl) (fun _ _ _ h => h) (Or.inl ⟨by rfl, ?_⟩) (by assumption) ?_
      rotate_left 1
      · (intro w hSw; (try dsimp only at hSw); go_simp; (try with_reducible rfl))
      (try simp only [Act.put, List.setIfInBounds_toArray, List.set_cons_zero, List.set_cons_succ])
      refine wpAnyH_take (i := 14) (oi := ({ dst := some 35, op := Op.pick (Operand.tmp 29) (Operand.tmp 34) (Operand.const (Value.bool false)), type := 4, pos := "law.go:29", after := #[{ on := 8, ground := Ground.data }, { on := 13, ground := Ground.data }], guard := none } : Oper)) (v := ?_) rfl (by kernel_rfl) (by kernel_rfl) (by kernel_rfl) (fun _ _ _ h => h) (Or.inl ⟨by rfl, ?_⟩) (by assumption) ?_
      rotate_left 1
      · (intro w hSw; (try dsimp only at hSw); go_simp; (try with_reducible rfl))
      (try simp only [Act.put, List.setIfInBounds_toArray, List.set_cons_zero, List.set_cons_succ])
      refine wpAnyH_take (i := 15) (oi := ({ dst := some 36, op := Op.move (Operand.tmp 35), type := 4, pos := "law.go:29", after := #[{ on := 14, ground := Ground.data }, { on := 8, ground := Ground.chain }], guard := none } : Oper)) (v := ?_) rfl (by kernel_rfl) (by kernel_rfl) (by kernel_rfl) (fun _ _ _ h => h) (Or.inl ⟨by rfl, ?_⟩) (by assumption) ?_
      rotate_left 1
      · (intro w hSw; (try dsimp only at hSw); go_simp; (try with_reducible rfl))
      (try simp only [Act.put, List.setIfInBounds_toArray, List.set_cons_zero, List.set_cons_succ])
      refine wpAnyH_take (i := 16) (oi := ({ dst := some 37, op := Op.move (Operand.tmp 6), type := 25, pos := "law.go:29", after := #[{ on := 15, ground := Ground.guard }], guard := some (15, true) } : Oper)) (v := ?_) rfl (by kernel_rfl) (by kernel_rfl) (by kernel_rfl) (fun _ _ _ h => h) (Or.inl ⟨by rfl, ?_⟩) (by assumption) ?_
      rotate_left 1
      · (intro w hSw; (try dsimp only at hSw); go_simp; (try with_reducible rfl))
      (try simp only [Act.put, List.setIfInBounds_toArray, List.set_cons_zero, List.set_cons_succ])
      refine wpAnyH_take (i := 17) (oi := ({ dst := some 38, op := Op.nilCheck (Operand.tmp 37), type := 0, pos := "law.go:29", after := #[{ on := 16, ground := Ground.data }, { on := 15, ground := Ground.guard }], guard := some (15, true) } : Oper)) (v := ?_) rfl (by kernel_rfl) (by kernel_rfl) (by kernel_rfl) (fun _ _ _ h => h) (Or.inl ⟨by rfl, ?_⟩) (by assumption) ?_
      rotate_left 1
      · (intro w hSw; (try dsimp only at hSw); go_simp; (try with_reducible rfl))
      (try simp only [Act.put, List.setIfInBounds_toArray, List.set_cons_zero, List.set_cons_succ])
      refine wpAnyH_take (i := 18) (oi := ({ dst := some 39, op := Op.fieldAddr 27 (Operand.tmp 38) 0, type := 0, pos := "law.go:29", after := #[{ on := 17, ground := Ground.data }, { on := 15, ground := Ground.guard }], guard := some (15, true) } : Oper)) (v := ?_) rfl (by kernel_rfl) (by kernel_rfl) (by kernel_rfl) (fun _ _ _ h => h) (Or.inl ⟨by rfl, ?_⟩) (by assumption) ?_
      rotate_left 1
      · (intro w hSw; (try dsimp only at hSw); go_simp; (try with_reducible rfl))
      (try simp only [Act.put, List.setIfInBounds_toArray, List.set_cons_zero, List.set_cons_succ])
      refine wpAnyH_take (i := 19) (oi := ({ dst := some 40, op := Op.load 24 (Operand.tmp 39), type := 24, pos := "law.go:29", after := #[{ on := 18, ground := Ground.data }, { on := 15, ground := Ground.guard }], guard := some (15, true) } : Oper)) (v := ?_) rfl (by kernel_rfl) (by kernel_rfl) (by kernel_rfl) (fun _ _ _ h => h) (Or.inl ⟨by rfl, ?_⟩) (by assumption) ?_
      rotate_left 1
      · (intro w hSw; (try dsimp only at hSw); go_simp; (try with_reducible rfl))
      (try simp only [Act.put, List.setIfInBounds_toArray, List.set_cons_zero, List.set_cons_succ])
      refine wpAnyH_take (i := 20) (oi := ({ dst := some 41, op := Op.load 24 (Operand.tmp 2), type := 24, pos := "law.go:29", after := #[{ on := 15, ground := Ground.guard }], guard := some (15, true) } : Oper)) (v := ?_) rfl (by kernel_rfl) (by kernel_rfl) (by kernel_rfl) (fun _ _ _ h => h) (Or.inl ⟨by rfl, ?_⟩) (by assumption) ?_
      rotate_left 1
      · (intro w hSw; (try dsimp only at hSw); go_simp; (try with_reducible rfl))
      (try simp only [Act.put, List.setIfInBounds_toArray, List.set_cons_zero, List.set_cons_succ])
      refine wpAnyH_take (i := 21) (oi := ({ dst := some 42, op := Op.move (Operand.tmp 1), type := 5, pos := "law.go:29", after := #[{ on := 15, ground := Ground.guard }], guard := some (15, true) } : Oper)) (v := ?_) rfl (by kernel_rfl) (by kernel_rfl) (by kernel_rfl) (fun _ _ _ h => h) (Or.inl ⟨by rfl, ?_⟩) (by assumption) ?_
      rotate_left 1
      · (intro w hSw; (try dsimp only at hSw); go_simp; (try with_reducible rfl))
      (try simp only [Act.put, List.setIfInBounds_toArray, List.set_cons_zero, List.set_cons_succ])
      refine wpAnyH_ready (rs := [22]) (by kernel_rfl) (by simp) ?_
      refine AllReadyH.cons (o := ({ dst := some 43, op := Op.call { callee := Callee.value (Operand.func 14), args := #[Operand.tmp 41, Operand.tmp 42], argTypes := #[24, 5] }, type := 24, pos := "law.go:29", after := #[{ on := 20, ground := Ground.data }, { on := 21, ground := Ground.data }, { on := 15, ground := Ground.chain }, { on := 15, ground := Ground.guard }], guard := some (15, true) } : Oper)) rfl (fun K hK => ?_) ?_
      rotate_left 1
      · exact AllReadyH.nil
      go_simp
      ((with_reducible refine (RE.out _).mono ?_); rintro e v5 ⟨rfl, hb5⟩; have HB5 := Lib.hid (RgAt.below HB4.out hb5 HB4.out.lt); have HF5 := Lib.hid (RgAt.below HF4.out hb5 HF4.out.lt); have HG5 := Lib.hid (RgAt.below HG4.out hb5 HG4.out.lt); have HL5 := Lib.hid (Below.trans0 HL4.out hb5); clear hb5)
      first | (refine hK.out _ _ ?_ (fun hH2 => ?_)) | (go_wp2_with fail; refine hK.out _ _ ?_ (fun hH2 => ?_))
      · (try dsimp only); with_reducible exact ⟨HB5.out.cells, HF5.out.cells, HG5.out.cells⟩
      clear hK K hH1
      (try simp only [Act.put, List.setIfInBounds_toArray, List.set_cons_zero, List.set_cons_succ])
      refine wpAnyH_take (i := 23) (oi := ({ dst := some 44, op := Op.binOp BinOp.eql 24 (Operand.tmp 40) (Operand.tmp 43) 24, type := 4, pos := "law.go:29", after := #[{ on := 19, ground := Ground.data }, { on := 22, ground := Ground.data }, { on := 15, ground := Ground.guard }], guard := some (15, true) } : Oper)) (v := ?_) rfl (by kernel_rfl) (by kernel_rfl) (by kernel_rfl) (fun _ _ _ h => h) (Or.inl ⟨by rfl, ?_⟩) (by assumption) ?_
      rotate_left 1
      · (intro w hSw; (try dsimp only at hSw); go_simp; (try with_reducible rfl))
      (try simp only [Act.put, List.setIfInBounds_toArray, List.set_cons_zero, List.set_cons_succ])
      refine wpAnyH_take (i := 24) (oi := ({ dst := some 45, op := Op.pick (Operand.tmp 36) (Operand.tmp 44) (Operand.const (Value.bool false)), type := 4, pos := "law.go:29", after := #[{ on := 15, ground := Ground.data }, { on := 23, ground := Ground.data }], guard := none } : Oper)) (v := ?_) rfl (by kernel_rfl) (by kernel_rfl) (by kernel_rfl) (fun _ _ _ h => h) (Or.inl ⟨by rfl, ?_⟩) (by assumption) ?_
      rotate_left 1
      · (intro w hSw; (try dsimp only at hSw); go_simp; (try with_reducible rfl))
      (try simp only [Act.put, List.setIfInBounds_toArray, List.set_cons_zero, List.set_cons_succ])
      refine wpAnyH_take (i := 25) (oi := ({ dst := some 46, op := Op.move (Operand.tmp 45), type := 4, pos := "law.go:29", after := #[{ on := 24, ground := Ground.data }, { on := 22, ground := Ground.chain }], guard := none } : Oper)) (v := ?_) rfl (by kernel_rfl) (by kernel_rfl) (by kernel_rfl) (fun _ _ _ h => h) (Or.inl ⟨by rfl, ?_⟩) (by assumption) ?_
      rotate_left 1
      · (intro w hSw; (try dsimp only at hSw); go_simp; (try with_reducible rfl))
      (try simp only [Act.put, List.setIfInBounds_toArray, List.set_cons_zero, List.set_cons_succ])
      refine wpAnyH_take (i := 26) (oi := ({ dst := some 47, op := Op.move (Operand.tmp 8), type := 4, pos := "law.go:29", after := #[{ on := 25, ground := Ground.guard }], guard := some (25, true) } : Oper)) (v := ?_) rfl (by kernel_rfl) (by kernel_rfl) (by kernel_rfl) (fun _ _ _ h => h) (Or.inl ⟨by rfl, ?_⟩) (by assumption) ?_
      rotate_left 1
      · (intro w hSw; (try dsimp only at hSw); go_simp; (try with_reducible rfl))
      (try simp only [Act.put, List.setIfInBounds_toArray, List.set_cons_zero, List.set_cons_succ])
      refine wpAnyH_take (i := 27) (oi := ({ dst := some 48, op := Op.move (Operand.tmp 1), type := 5, pos := "law.go:29", after := #[{ on := 25, ground := Ground.guard }], guard := some (25, true) } : Oper)) (v := ?_) rfl (by kernel_rfl) (by kernel_rfl) (by kernel_rfl) (fun _ _ _ h => h) (Or.inl ⟨by rfl, ?_⟩) (by assumption) ?_
      rotate_left 1
      · (intro w hSw; (try dsimp only at hSw); go_simp; (try with_reducible rfl))
      (try simp only [Act.put, List.setIfInBounds_toArray, List.set_cons_zero, List.set_cons_succ])
      refine wpAnyH_take (i := 28) (oi := ({ dst := some 49, op := Op.binOp BinOp.rem 5 (Operand.tmp 48) (Operand.const (Value.int IntKind.u8 16)) 5, type := 5, pos := "law.go:29", after := #[{ on := 27, ground := Ground.data }, { on := 25, ground := Ground.guard }], guard := some (25, true) } : Oper)) (v := ?_) rfl (by kernel_rfl) (by kernel_rfl) (by kernel_rfl) (fun _ _ _ h => h) (Or.inl ⟨by rfl, ?_⟩) (by assumption) ?_
      rotate_left 1
      · (intro w hSw; (try dsimp only at hSw); go_simp; (try with_reducible rfl))
      (try simp only [Act.put, List.setIfInBounds_toArray, List.set_cons_zero, List.set_cons_succ])
      refine wpAnyH_take (i := 29) (oi := ({ dst := some 50, op := Op.binOp BinOp.eql 5 (Operand.tmp 49) (Operand.const (Value.int IntKind.u8 4)) 5, type := 4, pos := "law.go:29", after := #[{ on := 28, ground := Ground.data }, { on := 25, ground := Ground.guard }], guard := some (25, true) } : Oper)) (v := ?_) rfl (by kernel_rfl) (by kernel_rfl) (by kernel_rfl) (fun _ _ _ h => h) (Or.inl ⟨by rfl, ?_⟩) (by assumption) ?_
      rotate_left 1
      · (intro w hSw; (try dsimp only at hSw); go_simp; (try with_reducible rfl))
      (try simp only [Act.put, List.setIfInBounds_toArray, List.set_cons_zero, List.set_cons_succ])
      refine wpAnyH_take (i := 30) (oi := ({ dst := some 51, op := Op.move (Operand.tmp 50), type := 4, pos := "law.go:29", after := #[{ on := 29, ground := Ground.data }, { on := 25, ground := Ground.chain }, { on := 25, ground := Ground.guard }], guard := some (25, true) } : Oper)) (v := ?_) rfl (by kernel_rfl) (by kernel_rfl) (by kernel_rfl) (fun _ _ _ h => h) (Or.inl ⟨by rfl, ?_⟩) (by assumption) ?_
      rotate_left 1
      · (intro w hSw; (try dsimp only at hSw); go_simp; (try with_reducible rfl))
      (try simp only [Act.put, List.setIfInBounds_toArray, List.set_cons_zero, List.set_cons_succ])
      refine wpAnyH_ready (rs := [31]) (by kernel_rfl) (by simp) ?_
      refine AllReadyH.cons (o := ({ dst := some 52, op := Op.move (Operand.tmp 1), type := 5, pos := "law.go:29", after := #[{ on := 30, ground := Ground.guard }], guard := some (30, false) } : Oper)) rfl (fun K hK => ?_) ?_
      rotate_left 1
      · exact AllReadyH.nil
      go_simp
      first | (refine hK.out _ _ ?_ (fun hH3 => ?_)) | (go_wp2_with fail; refine hK.out _ _ ?_ (fun hH3 => ?_))
      · (try dsimp only); with_reducible exact ⟨HB5.out.cells, HF5.out.cells, HG5.out.cells⟩
      clear hK K hH2
      (try simp only [Act.put, List.setIfInBounds_toArray, List.set_cons_zero, List.set_cons_succ])
      refine wpAnyH_ready (rs := [32]) (by kernel_rfl) (by simp) ?_
      refine AllReadyH.cons (o := ({ dst := some 53, op := Op.binOp BinOp.quo 5 (Operand.tmp 52) (Operand.const (Value.int IntKind.u8 16)) 5, type := 5, pos := "law.go:29", after := #[{ on := 31, ground := Ground.data }, { on := 30, ground := Ground.guard }], guard := some (30, false) } : Oper)) rfl (fun K hK => ?_) ?_
      rotate_left 1
      · exact AllReadyH.nil
      go_simp
      first | (refine hK.out _ _ ?_ (fun hH4 => ?_)) | (go_wp2_with fail; refine hK.out _ _ ?_ (fun hH4 => ?_))
      · (try dsimp only); with_reducible exact ⟨HB5.out.cells, HF5.out.cells, HG5.out.cells⟩
      clear hK K hH3
      (try simp only [Act.put, List.setIfInBounds_toArray, List.set_cons_zero, List.set_cons_succ])
      refine wpAnyH_ready (rs := [33]) (by kernel_rfl) (by simp) ?_
      refine AllReadyH.cons (o := ({ dst := some 54, op := Op.binOp BinOp.eql 5 (Operand.tmp 53) (Operand.const (Value.int IntKind.u8 4)) 5, type := 4, pos := "law.go:29", after := #[{ on := 32, ground := Ground.data }, { on := 30, ground := Ground.guard }], guard := some (30, false) } : Oper)) rfl (fun K hK => ?_) ?_
      rotate_left 1
      · exact AllReadyH.nil
      go_simp
      first | (refine hK.out _ _ ?_ (fun hH5 => ?_)) | (go_wp2_with fail; refine hK.out _ _ ?_ (fun hH5 => ?_))
      · (try dsimp only); with_reducible exact ⟨HB5.out.cells, HF5.out.cells, HG5.out.cells⟩
      clear hK K hH4
      (try simp only [Act.put, List.setIfInBounds_toArray, List.set_cons_zero, List.set_cons_succ])
      refine wpAnyH_take (i := 34) (oi := ({ dst := some 55, op := Op.pick (Operand.tmp 51) (Operand.const (Value.bool true)) (Operand.tmp 54), type := 4, pos := "law.go:29", after := #[{ on := 30, ground := Ground.data }, { on := 33, ground := Ground.data }, { on := 25, ground := Ground.guard }], guard := some (25, true) } : Oper)) (v := ?_) rfl (by kernel_rfl) (by kernel_rfl) (by kernel_rfl) (fun _ _ _ h => h) (Or.inl ⟨by rfl, ?_⟩) (by assumption) ?_
      rotate_left 1
      · (intro w hSw; (try dsimp only at hSw); go_simp; (try with_reducible rfl))
      (try simp only [Act.put, List.setIfInBounds_toArray, List.set_cons_zero, List.set_cons_succ])
      refine wpAnyH_take (i := 35) (oi := ({ dst := some 56, op := Op.binOp BinOp.eql 4 (Operand.tmp 47) (Operand.tmp 55) 4, type := 4, pos := "law.go:29", after := #[{ on := 26, ground := Ground.data }, { on := 34, ground := Ground.data }, { on := 25, ground := Ground.guard }], guard := some (25, true) } : Oper)) (v := ?_) rfl (by kernel_rfl) (by kernel_rfl) (by kernel_rfl) (fun _ _ _ h => h) (Or.inl ⟨by rfl, ?_⟩) (by assumption) ?_
      rotate_left 1
      · (intro w hSw; (try dsimp only at hSw); go_simp; (try with_reducible rfl))
      (try simp only [Act.put, List.setIfInBounds_toArray, List.set_cons_zero, List.set_cons_succ])
      refine wpAnyH_take (i := 36) (oi := ({ dst := some 57, op := Op.pick (Operand.tmp 46) (Operand.tmp 56) (Operand.const (Value.bool false)), type := 4, pos := "law.go:29", after := #[{ on := 25, ground := Ground.data }, { on := 35, ground := Ground.data }], guard := none } : Oper)) (v := ?_) rfl (by kernel_rfl) (by kernel_rfl) (by kernel_rfl) (fun _ _ _ h => h) (Or.inl ⟨by rfl, ?_⟩) (by assumption) ?_
      rotate_left 1
      · (intro w hSw; (try dsimp only at hSw); go_simp; (try with_reducible rfl))
      (try simp only [Act.put, List.setIfInBounds_toArray, List.set_cons_zero, List.set_cons_succ])
      refine wpAnyH_take (i := 37) (oi := ({ dst := some 58, op := Op.move (Operand.tmp 57), type := 4, pos := "law.go:29", after := #[{ on := 36, ground := Ground.data }, { on := 30, ground := Ground.chain }], guard := none } : Oper)) (v := ?_) rfl (by kernel_rfl) (by kernel_rfl) (by kernel_rfl) (fun _ _ _ h => h) (Or.inl ⟨by rfl, ?_⟩) (by assumption) ?_
      rotate_left 1
      · (intro w hSw; (try dsimp only at hSw); go_simp; (try with_reducible rfl))
      (try simp only [Act.put, List.setIfInBounds_toArray, List.set_cons_zero, List.set_cons_succ])
      refine wpAnyH_take (i := 38) (oi := ({ dst := some 59, op := Op.move (Operand.tmp 1), type := 5, pos := "law.go:29", after := #[{ on := 37, ground := Ground.guard }], guard := some (37, true) } : Oper)) (v := ?_) rfl (by kernel_rfl) (by kernel_rfl) (by kernel_rfl) (fun _ _ _ h => h) (Or.inl ⟨by rfl, ?_⟩) (by assumption) ?_
      rotate_left 1
      · (intro w hSw; (try dsimp only at hSw); go_simp; (try with_reducible rfl))
      (try simp only [Act.put, List.setIfInBounds_toArray, List.set_cons_zero, List.set_cons_succ])
      refine wpAnyH_take (i := 39) (oi := ({ dst := some 60, op := Op.binOp BinOp.quo 5 (Operand.tmp 59) (Operand.const (Value.int IntKind.u8 16)) 5, type := 5, pos := "law.go:29", after := #[{ on := 38, ground := Ground.data }, { on := 37, ground := Ground.guard }], guard := some (37, true) } : Oper)) (v := ?_) rfl (by kernel_rfl) (by kernel_rfl) (by kernel_rfl) (fun _ _ _ h => h) (Or.inl ⟨by rfl, ?_⟩) (by assumption) ?_
      rotate_left 1
      · (intro w hSw; (try dsimp only at hSw); go_simp; (try with_reducible rfl))
      (try simp only [Act.put, List.setIfInBounds_toArray, List.set_cons_zero, List.set_cons_succ])
      refine wpAnyH_take (i := 40) (oi := ({ dst := some 61, op := Op.convert 5 3 (Operand.tmp 60), type := 3, pos := "law.go:29", after := #[{ on := 39, ground := Ground.data }, { on := 37, ground := Ground.guard }], guard := some (37, true) } : Oper)) (v := ?_) rfl (by kernel_rfl) (by kernel_rfl) (by kernel_rfl) (fun _ _ _ h => h) (Or.inl ⟨by rfl, ?_⟩) (by assumption) ?_
      rotate_left 1
      · (intro w hSw; (try dsimp only at hSw); go_simp; (try with_reducible rfl))
      (try simp only [Act.put, List.setIfInBounds_toArray, List.set_cons_zero, List.set_cons_succ])
      refine wpAnyH_take (i := 41) (oi := ({ dst := some 62, op := Op.move (Operand.tmp 1), type := 5, pos := "law.go:29", after := #[{ on := 37, ground := Ground.guard }], guard := some (37, true) } : Oper)) (v := ?_) rfl (by kernel_rfl) (by kernel_rfl) (by kernel_rfl) (fun _ _ _ h => h) (Or.inl ⟨by rfl, ?_⟩) (by assumption) ?_
      rotate_left 1
      · (intro w hSw; (try dsimp only at hSw); go_simp; (try with_reducible rfl))
      (try simp only [Act.put, List.setIfInBounds_toArray, List.set_cons_zero, List.set_cons_succ])
      refine wpAnyH_take (i := 42) (oi := ({ dst := some 63, op := Op.binOp BinOp.rem 5 (Operand.tmp 62) (Operand.const (Value.int IntKind.u8 16)) 5, type := 5, pos := "law.go:29", after := #[{ on := 41, ground := Ground.data }, { on := 37, ground := Ground.guard }], guard := some (37, true) } : Oper)) (v := ?_) rfl (by kernel_rfl) (by kernel_rfl) (by kernel_rfl) (fun _ _ _ h => h) (Or.inl ⟨by rfl, ?_⟩) (by assumption) ?_
      rotate_left 1
      · (intro w hSw; (try dsimp only at hSw); go_simp; (try with_reducible rfl))
      (try simp only [Act.put, List.setIfInBounds_toArray, List.set_cons_zero, List.set_cons_succ])
      refine wpAnyH_take (i := 43) (oi := ({ dst := some 64, op := Op.convert 5 3 (Operand.tmp 63), type := 3, pos := "law.go:29", after := #[{ on := 42, ground := Ground.data }, { on := 37, ground := Ground.guard }], guard := some (37, true) } : Oper)) (v := ?_) rfl (by kernel_rfl) (by kernel_rfl) (by kernel_rfl) (fun _ _ _ h => h) (Or.inl ⟨by rfl, ?_⟩) (by assumption) ?_
      rotate_left 1
      · (intro w hSw; (try dsimp only at hSw); go_simp; (try with_reducible rfl))
      (try simp only [Act.put, List.setIfInBounds_toArray, List.set_cons_zero, List.set_cons_succ])
      refine wpAnyH_take (i := 45) (oi := ({ dst := some 66, op := Op.move (Operand.tmp 1), type := 5, pos := "law.go:29", after := #[{ on := 37, ground := Ground.guard }], guard := some (37, true) } : Oper)) (v := ?_) rfl (by kernel_rfl) (by kernel_rfl) (by kernel_rfl) (fun _ _ _ h => h) (Or.inl ⟨by rfl, ?_⟩) (by assumption) ?_
      rotate_left 1
      · (intro w hSw; (try dsimp only at hSw); go_simp; (try with_reducible rfl))
      (try simp only [Act.put, List.setIfInBounds_toArray, List.set_cons_zero, List.set_cons_succ])
      refine wpAnyH_ready (rs := [44]) (by kernel_rfl) (by simp) ?_
      refine AllReadyH.cons (o := ({ dst := some 65, op := Op.call { callee := Callee.value (Operand.func 15), args := #[Operand.tmp 61, Operand.tmp 64], argTypes := #[3, 3] }, type := 5, pos := "law.go:29", after := #[{ on := 40, ground := Ground.data }, { on := 43, ground := Ground.data }, { on := 37, ground := Ground.chain }, { on := 37, ground := Ground.guard }], guard := some (37, true) } : Oper)) rfl (fun K hK => ?_) ?_
      rotate_left 1
      · exact AllReadyH.nil
      go_simp
      ((with_reducible refine (CP.out _).mono ?_); rintro e v9 ⟨rfl, rfl⟩)
      first | (refine hK.out _ _ ?_ (fun hH6 => ?_)) | (go_wp2_with fail; refine hK.out _ _ ?_ (fun hH6 => ?_))
      · (try dsimp only); with_reducible exact ⟨HB5.out.cells, HF5.out.cells, HG5.out.cells⟩
      clear hK K hH5
      (try simp only [Act.put, List.setIfInBounds_toArray, List.set_cons_zero, List.set_cons_succ])
      refine wpAnyH_take (i := 46) (oi := ({ dst := some 67, op := Op.binOp BinOp.eql 5 (Operand.tmp 65) (Operand.tmp 66) 5, type := 4, pos := "law.go:29", after := #[{ on := 44, ground := Ground.data }, { on := 45, ground := Ground.data }, { on := 37, ground := Ground.guard }], guard := some (37, true) } : Oper)) (v := ?_) rfl (by kernel_rfl) (by kernel_rfl) (by kernel_rfl) (fun _ _ _ h => h) (Or.inl ⟨by rfl, ?_⟩) (by assumption) ?_
      rotate_left 1
      · (intro w hSw; (try dsimp only at hSw); go_simp; (try with_reducible rfl))
      (try simp only [Act.put, List.setIfInBounds_toArray, List.set_cons_zero, List.set_cons_succ])
      refine wpAnyH_take (i := 47) (oi := ({ dst := some 68, op := Op.pick (Operand.tmp 58) (Operand.tmp 67) (Operand.const (Value.bool false)), type := 4, pos := "law.go:29", after := #[{ on := 37, ground := Ground.data }, { on := 46, ground := Ground.data }], guard := none } : Oper)) (v := ?_) rfl (by kernel_rfl) (by kernel_rfl) (by kernel_rfl) (fun _ _ _ h => h) (Or.inl ⟨by rfl, ?_⟩) (by assumption) ?_
      rotate_left 1
      · (intro w hSw; (try dsimp only at hSw); go_simp; (try with_reducible rfl))
      (try simp only [Act.put, List.setIfInBounds_toArray, List.set_cons_zero, List.set_cons_succ])
      refine wpAnyH_take (i := 48) (oi := ({ dst := some 69, op := Op.move (Operand.tmp 68), type := 4, pos := "law.go:29", after := #[{ on := 47, ground := Ground.data }, { on := 44, ground := Ground.chain }], guard := none } : Oper)) (v := ?_) rfl (by kernel_rfl) (by kernel_rfl) (by kernel_rfl) (fun _ _ _ h => h) (Or.inl ⟨by rfl, ?_⟩) (by assumption) ?_
      rotate_left 1
      · (intro w hSw; (try dsimp only at hSw); go_simp; (try with_reducible rfl))
      (try simp only [Act.put, List.setIfInBounds_toArray, List.set_cons_zero, List.set_cons_succ])
      refine wpAnyH_ready (rs := [49]) (by kernel_rfl) (by simp) ?_
      refine AllReadyH.cons (o := ({ dst := some 70, op := Op.call { callee := Callee.value (Operand.func 10), args := #[], argTypes := #[] }, type := 4, pos := "law.go:29", after := #[{ on := 48, ground := Ground.chain }, { on := 48, ground := Ground.guard }], guard := some (48, true) } : Oper)) rfl (fun K hK => ?_) ?_
      rotate_left 1
      · exact AllReadyH.nil
      go_simp
      ((with_reducible refine (alive16 _).mono ?_); rintro e v6 ⟨rfl, hb6⟩; have HB6 := Lib.hid (RgAt.below HB5.out hb6 HB5.out.lt); have HF6 := Lib.hid (RgAt.below HF5.out hb6 HF5.out.lt); have HG6 := Lib.hid (RgAt.below HG5.out hb6 HG5.out.lt); have HL6 := Lib.hid (Below.trans0 HL5.out hb6); clear hb6)
      first | (refine hK.out _ _ ?_ (fun hH7 => ?_)) | (go_wp2_with fail; refine hK.out _ _ ?_ (fun hH7 => ?_))
      · (try dsimp only); with_reducible exact ⟨HB6.out.cells, HF6.out.cells, HG6.out.cells⟩
      clear hK K hH6
      (try simp only [Act.put, List.setIfInBounds_toArray, List.set_cons_zero, List.set_cons_succ])
      refine wpAnyH_take (i := 50) (oi := ({ dst := some 71, op := Op.pick (Operand.tmp 69) (Operand.tmp 70) (Operand.const (Value.bool false)), type := 4, pos := "law.go:29", after := #[{ on := 48, ground := Ground.data }, { on := 49, ground := Ground.data }], guard := none } : Oper)) (v := ?_) rfl (by kernel_rfl) (by kernel_rfl) (by kernel_rfl) (fun _ _ _ h => h) (Or.inl ⟨by rfl, ?_⟩) (by assumption) ?_
      rotate_left 1
      · (intro w hSw; (try dsimp only at hSw); go_simp; (try with_reducible rfl))
      (try simp only [Act.put, List.setIfInBounds_toArray, List.set_cons_zero, List.set_cons_succ])
      refine wpAnyH_take (i := 51) (oi := ({ dst := some 4, op := Op.assign (Operand.tmp 71), type := 4, pos := "law.go:29", after := #[{ on := 50, ground := Ground.data }, { on := 49, ground := Ground.chain }, { on := 0, ground := Ground.phase }, { on := 1, ground := Ground.phase }, { on := 2, ground := Ground.phase }, { on := 3, ground := Ground.phase }, { on := 4, ground := Ground.phase }, { on := 5, ground := Ground.phase }, { on := 6, ground := Ground.phase }, { on := 7, ground := Ground.phase }, { on := 8, ground := Ground.phase }, { on := 9, ground := Ground.phase }, { on := 10, ground := Ground.phase }, { on := 11, ground := Ground.phase }, { on := 12, ground := Ground.phase }, { on := 13, ground := Ground.phase }, { on := 14, ground := Ground.phase }, { on := 15, ground := Ground.phase }, { on := 16, ground := Ground.phase }, { on := 17, ground := Ground.phase }, { on := 18, ground := Ground.phase }, { on := 19, ground := Ground.phase }, { on := 20, ground := Ground.phase }, { on := 21, ground := Ground.phase }, { on := 22, ground := Ground.phase }, { on := 23, ground := Ground.phase }, { on := 24, ground := Ground.phase }, { on := 25, ground := Ground.phase }, { on := 26, ground := Ground.phase }, { on := 27, ground := Ground.phase }, { on := 28, ground := Ground.phase }, { on := 29, ground := Ground.phase }, { on := 30, ground := Ground.phase }, { on := 31, ground := Ground.phase }, { on := 32, ground := Ground.phase }, { on := 33, ground := Ground.phase }, { on := 34, ground := Ground.phase }, { on := 35, ground := Ground.phase }, { on := 36, ground := Ground.phase }, { on := 37, ground := Ground.phase }, { on := 38, ground := Ground.phase }, { on := 39, ground := Ground.phase }, { on := 40, ground := Ground.phase }, { on := 41, ground := Ground.phase }, { on := 42, ground := Ground.phase }, { on := 43, ground := Ground.phase }, { on := 44, ground := Ground.phase }, { on := 45, ground := Ground.phase }, { on := 46, ground := Ground.phase }, { on := 47, ground := Ground.phase }, { on := 48, ground := Ground.phase }, { on := 49, ground := Ground.phase }, { on := 50, ground := Ground.phase }], guard := none } : Oper)) (v := ?_) rfl (by kernel_rfl) (by kernel_rfl) (by kernel_rfl) (fun _ _ _ h => h) (Or.inl ⟨by rfl, ?_⟩) (by assumption) ?_
      rotate_left 1
      · (intro w hSw; (try dsimp only at hSw); go_simp; (try with_reducible rfl))
      (try simp only [Act.put, List.setIfInBounds_toArray, List.set_cons_zero, List.set_cons_succ])
      refine wpAnyH_done (by kernel_rfl) ?_ _
      refine NoPanic.normal ?_
      go_wp2
      go_ret
      exact ⟨rfl, HL6.out⟩
end Go.Proofs.Ytfkcogccbeolfaa
