/- The law of frames' bytes. -/
import Derived.Test.YtfjkbjkbpbnalabDoorFrK
import Derived.Test.YtfjkbjkbpbnalabDoorFrmR
import Derived.Deep.AppendLies
namespace Go.Proofs.YtfjkbjkbpbnalabDoor
open Go.ChangeShapes Go.WideShapes Go.ChangeAt Go.RowKit
set_option linter.unusedVariables false

theorem eql_rgF (s : Rg) (w : World) : (binOp .eql 24 (.agg s.cells) (.agg s.cells)).run Tryd.prog w = .ok (.bool true) w := by
  have e1 : (s.A == s.A) = true := by simp
  have e2 : (s.B == s.B) = true := by simp
  have e3 : (s.D == s.D) = true := by simp
  have e4 : (s.C == s.C) = true := by simp
  have e5 : (s.X == s.X) = true := by simp
  have e6 : (s.Y == s.Y) = true := by simp
  have e7 : (s.U == s.U) = true := by simp
  have e8 : (s.S == s.S) = true := by simp
  have e9 : (s.P == s.P) = true := by simp
  go_simp
theorem rev_getD (l : List Pt) (n k : Nat) (hn : l.length = n) (hk : k < n) : l.reverse.getD k (0, false) = l.getD (n - 1 - k) (0, false) := by
  rw [List.getD_eq_getElem?_getD, List.getElem?_reverse (by omega), hn, List.getD_eq_getElem?_getD]
theorem hasRef_128 (x : Int) (h0 : 0 ≤ x) (h1 : x < 256) : hasRef x 128 = decide (127 < x) := by
  unfold hasRef
  rw [Bool.eq_iff_iff, beq_iff_eq, decide_eq_true_eq]
  omega
theorem Pts.far {e : TypeId} {w w' : World} {base : Nat} {v : Value} {l : List Pt} (h : Pts e w base v l) {row : Option Nat} (hg : w.grownBy w' row) (hr : ∀ g, row = some g → g < base) : Pts e w' base v l := by
  obtain ⟨hl, h2⟩ := h
  refine ⟨hl, ?_⟩
  rcases h2 with h2 | ⟨g, cap, cur, rfl, h3, h4, h5⟩
  · exact .inl h2
  · exact .inr ⟨g, cap, cur, rfl, h3, (hg.block g (Blk.lt (t := _) (cs := cur) (fr := (0, 0)) h4) (fun e => by have := hr g e.symm; omega)).trans h4, h5⟩
theorem Below.drewNW {B : Nat} {w w1 : World} (h : Below B w w1) (n : Nat) : Below B w (w1.drewN n) := ⟨h.os, h.tape, h.output, h.size, h.block⟩
theorem Below.drewW {B : Nat} {w w1 : World} (h : Below B w w1) : Below B w w1.drew := ⟨h.os, h.tape, h.output, h.size, h.block⟩
set_option maxRecDepth 100000 in
set_option maxHeartbeats 4000000 in
theorem law_frb (r : Rg) (hr : r.Ok) (pu th ve : Int) (p0 : 0 ≤ pu) (p1 : pu < 256) (wh : Bool) (A : Option Addr) (n cap : Nat) (bs : List Int) (w : World) (hB : Ints .u8 w w.heap.size A n bs) (hT : LregAt w) :
    Calls Tryd.prog 3 #[.agg r.cells, .agg (enV4 pu th ve wh), .slice A n cap] w fun e w' => e = .returned (.bool true) ∧ Below w.heap.size w w' := by
  by_cases hn : n ≤ 20
  · have HT := Lib.hid hT
    have HR := Lib.hid hr
    have HBB := Lib.hid hB
    have HLE := Lib.hid hB.1
    have hrx := hr.withC p0 p1
    have HRX := Lib.hid hrx
    obtain ⟨x, hx⟩ : ∃ x : Rg, { r with C := pu } = x := ⟨_, rfl⟩
    have HX := Lib.hid hx
    obtain ⟨l, hl⟩ : ∃ l, ordL (frP wh) false = l := ⟨_, rfl⟩
    have hlen : 0 < l.length ∧ l.length ≤ 100 := by rw [← hl]; cases wh <;> decide +kernel
    have CO := Lib.hid (fun u => refOrder_any (frP wh) (frP_lt wh) false u)
    have CP := Lib.hid (fun u h => frParts_any wh u h)
    have CBy := Lib.hid (fun u h => frBytes_any r hr pu th ve p0 p1 wh u h)
    rw [hl] at CO CP CBy
    rw [hx] at CBy hrx
    have HRx := Lib.hid hrx
    obtain ⟨m, hm⟩ : ∃ m, l.length = m := ⟨_, rfl⟩
    rw [hm] at hlen
    have HM := Lib.hid hm
    have HML := Lib.hid hlen
    have B1 := Lib.hid (Below.alloc0 (Below.alloc0 (Below.refl w.heap.size w) (Obj.cells r.cells 24)) (Obj.cells (enV4 pu th ve wh) 26))
    have R1 : Hid (RgAt ((w.alloc (Obj.cells r.cells 24)).alloc (Obj.cells (enV4 pu th ve wh) 26)) w.heap.size 24 r) := Lib.hid (Blk.alloc (Blk.new _ _ _ _) _)
    have E1 : Hid (Blk ((w.alloc (Obj.cells r.cells 24)).alloc (Obj.cells (enV4 pu th ve wh) 26)) (w.heap.size + 1) 26 (enV4 pu th ve wh)) := Lib.hid (Blk.at1 _)
    have S1 : Hid (((w.alloc (Obj.cells r.cells 24)).alloc (Obj.cells (enV4 pu th ve wh) 26)).heap.size = w.heap.size + 2) := Lib.hid (by simp)
    clear hT hr hB hrx hx hl hlen hm HRX
    go_enter Tryd.func3, Tryd.ntmps3
    go_upto_region 3 with (fail)
    generalize (w.alloc (Obj.cells r.cells 24)).alloc (Obj.cells (enV4 pu th ve wh) 26) = W1 at B1 R1 E1 S1 ⊢
    obtain ⟨⟨-, -, -, e3⟩, -⟩ := E1.out.b4
    go_upto_if 23 with (fail)
    go_cut [7] (fun u7 wx => u7 = .int .u8 (frP wh : Int) ∧ wx = W1)
    case first =>
      cases wh
      all_goals
        go_wp2
        go_meet
        case rel => exact ⟨rfl, rfl⟩
    case rest =>
      obtain ⟨rfl, rfl⟩ := hcut
      go_wp2_with fail
      refine (CO.out _).mono ?_
      rintro e W2 ⟨v2, rfl, hp, hb⟩
      have L2 := Lib.hid hp
      have B2 := Lib.hid (Below.trans0 B1.out hb)
      have R2 := Lib.hid (RgAt.below R1.out hb R1.out.lt)
      have E2 := Lib.hid (Blk.below E1.out hb E1.out.lt)
      have S2 : Hid (w.heap.size + 2 ≤ W2.heap.size) := Lib.hid (by have := hb.size; have := S1.out; omega)
      clear hp hb CO B1 R1 E1 e3
      obtain ⟨⟨-, -, -, e3⟩, -⟩ := E2.out.b4
      go_wp2_with fail
      refine (CP.out _ (HT.out.below B2.out)).mono ?_
      rintro e W3 ⟨v3, rfl, hp, hb⟩
      have P3 := Lib.hid hp
      have L3 := Lib.hid (Pts.belowAll L2.out hb)
      have B3 := Lib.hid (Below.trans0 B2.out hb)
      have R3 := Lib.hid (RgAt.below R2.out hb R2.out.lt)
      have E3 := Lib.hid (Blk.below E2.out hb E2.out.lt)
      have S3 : Hid (w.heap.size + 2 ≤ W3.heap.size) := Lib.hid (Nat.le_trans S2.out hb.size)
      clear hp hb CP B2 R2 E2 e3 L2
      obtain ⟨⟨e0, -, -, -⟩, -⟩ := E3.out.b4
      obtain ⟨r0, r1, r2, r3, r4, r5, r6, r7, r8⟩ := R3.out.cells
      have e4 : (W3.alloc (Obj.cells r.cells 24)).cell? ⟨w.heap.size + 1, 0, none⟩ = some (.int .u8 pu) := (Blk.alloc E3.out (Obj.cells r.cells 24)).b4.1.1
      go_upto_region 10 with (fail)
      have X4 : Hid (RgAt (W3.alloc (Obj.cells #[.int .u8 r.A, .int .u8 r.B, .int .u8 r.D, .int .u8 pu, .int .u16 r.X, .int .u16 r.Y, .int .u16 r.U, .int .u16 r.S, .int .u16 r.P] 24)) W3.heap.size 24 x) := Lib.hid (by rw [← HX.out]; exact Blk.new _ _ _ _)
      have B4' : Hid (Below W3.heap.size W3 (W3.alloc (Obj.cells #[.int .u8 r.A, .int .u8 r.B, .int .u8 r.D, .int .u8 pu, .int .u16 r.X, .int .u16 r.Y, .int .u16 r.U, .int .u16 r.S, .int .u16 r.P] 24))) := Lib.hid (Below.alloc0 (Below.refl _ _) _)
      generalize W3.alloc (Obj.cells #[.int .u8 r.A, .int .u8 r.B, .int .u8 r.D, .int .u8 pu, .int .u16 r.X, .int .u16 r.Y, .int .u16 r.U, .int .u16 r.S, .int .u16 r.P] 24) = W4 at X4 B4' ⊢
      have B4 := Lib.hid (Below.trans0 B3.out B4'.out)
      have R4 := Lib.hid (RgAt.below R3.out B4'.out R3.out.lt)
      have E4 := Lib.hid (Blk.below E3.out B4'.out E3.out.lt)
      have P4 := Lib.hid (Pts.belowAll P3.out B4'.out)
      have L4 := Lib.hid (Pts.belowAll L3.out B4'.out)
      have S4 : Hid (w.heap.size + 2 ≤ W3.heap.size ∧ W3.heap.size < W4.heap.size) := Lib.hid ⟨S3.out, X4.out.lt⟩
      clear e0 r0 r1 r2 r3 r4 r5 r6 r7 r8 e4 B3 R3 E3 P3 L3 S3 B4'
      obtain ⟨A8, cap8, rfl, hc8⟩ := L4.out.cells_
      obtain ⟨A9, cap9, rfl, hc9⟩ := P4.out.cells_
      rw [List.length_reverse] at hc9 ⊢
      rw [HM.out] at hc8 hc9 ⊢
      have C8 := Lib.hid hc8
      have C9 := Lib.hid hc9
      clear hc8 hc9
      obtain ⟨m0, m1⟩ := HML.out
      have tm : IntKind.i64.wrap ((m : Int) - 1) = (m : Int) - 1 := IntWalk.i64_in _ (by omega)
      go_wp2
      go_loopw [11, 12] (fun u11 u12 wr => ∃ k : Nat, k ≤ m ∧ u12 = .int .i64 ((m : Int) - 1 - k) ∧ Hid (Own .u8 5 wr W4.heap.size u11 ((l.reverse.take k).map (byF x))) ∧ Hid (Below W4.heap.size W4 wr)) (fun _ u12 _ => (intOf u12 + 1).toNat)
      case atStart => exact ⟨0, Nat.zero_le _, by go_num, Lib.hid (Own.nil_ _ _ _ _), Lib.hid (Below.refl _ _)⟩
      case round =>
        obtain ⟨k, hk, rfl, HO, HB⟩ := hrel
        by_cases hlt : k < m
        · obtain ⟨j, hj⟩ : ∃ j, m - 1 - k = j := ⟨_, rfl⟩
          have ej : (m : Int) - 1 - (k : Int) = (j : Int) := by omega
          have ek : (m : Int) - 1 - (j : Int) = (k : Int) := by omega
          rw [ej]
          obtain ⟨g8, rfl, hg8, hgb8, hc8⟩ := C8.out (by omega)
          obtain ⟨g9, rfl, hg9, hgb9, hc9⟩ := C9.out (by omega)
          obtain ⟨a0, a1⟩ := hc8 j (by omega)
          obtain ⟨b0, b1⟩ := hc9 k (by omega)
          rw [rev_getD l m k HM.out hlt, hj] at b0 b1
          have d0 := (HB.out.cell (p := ⟨g8, j * 2, none⟩) hg8).trans a0
          have d1 := (HB.out.cell (p := ⟨g8, j * 2 + 1, none⟩) hg8).trans a1
          have HX2 := Lib.hid (map_take_next (byF x) l.reverse (0, false) k (by rw [List.length_reverse, HM.out]; exact hlt))
          rw [rev_getD l m k HM.out hlt, hj] at HX2
          have HLT : Hid (((l.reverse.take k).map (byF x)).length ≤ 100) := Lib.hid (by rw [List.length_map, List.length_take]; omega)
          have X5 := RgAt.below X4.out HB.out X4.out.lt
          obtain ⟨q0, q1, q2, q3, q4, q5, q6, q7, q8⟩ := RgAt.cells X5
          generalize l.getD j (0, false) = y at *
          obtain ⟨yc, yh⟩ := y
          dsimp only at d0 d1 a0 a1 b0 b1
          have CB := Lib.hid (fun u => refByte_any x HRx.out (yc : Int) yh u)
          have HV : Hid (byF x (yc, yh) = byB x (yc : Int) yh) := Lib.hid rfl
          obtain ⟨z, hz⟩ : ∃ z, byB x (yc : Int) yh = z := ⟨_, rfl⟩
          rw [hz] at HV CB
          have t0 : (0 : Int) ≤ j := by omega
          have t1 : (j : Int) < m := by omega
          have S0 : Hid ((fun w' : World => (w'.cell? ⟨W3.heap.size, 0, none⟩ = some (.int .u8 x.A) ∧ w'.cell? ⟨W3.heap.size, 1, none⟩ = some (.int .u8 x.B) ∧ w'.cell? ⟨W3.heap.size, 2, none⟩ = some (.int .u8 x.D) ∧ w'.cell? ⟨W3.heap.size, 3, none⟩ = some (.int .u8 x.C) ∧ w'.cell? ⟨W3.heap.size, 4, none⟩ = some (.int .u16 x.X) ∧ w'.cell? ⟨W3.heap.size, 5, none⟩ = some (.int .u16 x.Y) ∧ w'.cell? ⟨W3.heap.size, 6, none⟩ = some (.int .u16 x.U) ∧ w'.cell? ⟨W3.heap.size, 7, none⟩ = some (.int .u16 x.S) ∧ w'.cell? ⟨W3.heap.size, 8, none⟩ = some (.int .u16 x.P)) ∧ w'.cell? ⟨g8, j * 2, none⟩ = some (.int .i64 (yc : Int)) ∧ w'.cell? ⟨g8, j * 2 + 1, none⟩ = some (.bool yh)) wr.drew) := Lib.hid ⟨⟨q0, q1, q2, q3, q4, q5, q6, q7, q8⟩, d0, d1⟩
          have SK : Hid (∀ u : World, Below W4.heap.size W4 u → (fun w' : World => (w'.cell? ⟨W3.heap.size, 0, none⟩ = some (.int .u8 x.A) ∧ w'.cell? ⟨W3.heap.size, 1, none⟩ = some (.int .u8 x.B) ∧ w'.cell? ⟨W3.heap.size, 2, none⟩ = some (.int .u8 x.D) ∧ w'.cell? ⟨W3.heap.size, 3, none⟩ = some (.int .u8 x.C) ∧ w'.cell? ⟨W3.heap.size, 4, none⟩ = some (.int .u16 x.X) ∧ w'.cell? ⟨W3.heap.size, 5, none⟩ = some (.int .u16 x.Y) ∧ w'.cell? ⟨W3.heap.size, 6, none⟩ = some (.int .u16 x.U) ∧ w'.cell? ⟨W3.heap.size, 7, none⟩ = some (.int .u16 x.S) ∧ w'.cell? ⟨W3.heap.size, 8, none⟩ = some (.int .u16 x.P)) ∧ w'.cell? ⟨g8, j * 2, none⟩ = some (.int .i64 (yc : Int)) ∧ w'.cell? ⟨g8, j * 2 + 1, none⟩ = some (.bool yh)) u) := Lib.hid (fun u hu => ⟨RgAt.cells (RgAt.below X4.out hu X4.out.lt), (hu.cell (p := ⟨g8, j * 2, none⟩) hg8).trans a0, (hu.cell (p := ⟨g8, j * 2 + 1, none⟩) hg8).trans a1⟩)
          have HA : Hid (W4.cell? ⟨g8, j * 2, none⟩ = some (.int .i64 (yc : Int)) ∧ W4.cell? ⟨g8, j * 2 + 1, none⟩ = some (.bool yh) ∧ W4.cell? ⟨g9, k * 2, none⟩ = some (.int .i64 (yc : Int)) ∧ W4.cell? ⟨g9, k * 2 + 1, none⟩ = some (.bool yh) ∧ g8 < W4.heap.size ∧ g9 < W4.heap.size) := Lib.hid ⟨a0, a1, b0, b1, hg8, hg9⟩
          clear hc8 hc9 X5 hz hgb8 hgb9 hg8 hg9 a0 a1 b0 b1 q0 q1 q2 q3 q4 q5 q6 q7 q8 d0 d1 hj
          go_upto_region 14 with (fail)
          refine wp_region_noPanic ?_
          refine wp_region_held_drew (S := (fun w' : World => (w'.cell? ⟨W3.heap.size, 0, none⟩ = some (.int .u8 x.A) ∧ w'.cell? ⟨W3.heap.size, 1, none⟩ = some (.int .u8 x.B) ∧ w'.cell? ⟨W3.heap.size, 2, none⟩ = some (.int .u8 x.D) ∧ w'.cell? ⟨W3.heap.size, 3, none⟩ = some (.int .u8 x.C) ∧ w'.cell? ⟨W3.heap.size, 4, none⟩ = some (.int .u16 x.X) ∧ w'.cell? ⟨W3.heap.size, 5, none⟩ = some (.int .u16 x.Y) ∧ w'.cell? ⟨W3.heap.size, 6, none⟩ = some (.int .u16 x.U) ∧ w'.cell? ⟨W3.heap.size, 7, none⟩ = some (.int .u16 x.S) ∧ w'.cell? ⟨W3.heap.size, 8, none⟩ = some (.int .u16 x.P)) ∧ w'.cell? ⟨g8, j * 2, none⟩ = some (.int .i64 (yc : Int)) ∧ w'.cell? ⟨g8, j * 2 + 1, none⟩ = some (.bool yh))) (by kernel_rfl) ?_ (fun hH0 => ?_)
          · (try dsimp only); with_reducible exact S0.out
          refine wpAnyH_take (i := 0) (oi := ({ dst := some 40, op := Op.move (Operand.tmp 11), type := 27, pos := "law.go:54", after := #[], guard := none } : Oper)) (v := ?_) rfl (by kernel_rfl) (by kernel_rfl) (by kernel_rfl) (fun _ _ _ h => h) (Or.inl ⟨by rfl, ?_⟩) (by assumption) ?_
          rotate_left 1
          · (intro w hSw; (try dsimp only at hSw); go_simp; (try with_reducible rfl))
          (try simp only [Act.put, List.setIfInBounds_toArray, List.set_cons_zero, List.set_cons_succ])
          refine wpAnyH_take (i := 1) (oi := ({ dst := some 41, op := Op.load 24 (Operand.tmp 10), type := 24, pos := "law.go:54", after := #[], guard := none } : Oper)) (v := ?_) rfl (by kernel_rfl) (by kernel_rfl) (by kernel_rfl) (fun _ _ _ h => h) (Or.inl ⟨by rfl, ?_⟩) (by assumption) ?_
          rotate_left 1
          · (intro w hSw; (try dsimp only at hSw); go_simp; (try with_reducible rfl))
          (try simp only [Act.put, List.setIfInBounds_toArray, List.set_cons_zero, List.set_cons_succ])
          refine wpAnyH_take (i := 2) (oi := ({ dst := some 42, op := Op.move (Operand.tmp 8), type := 28, pos := "law.go:54", after := #[], guard := none } : Oper)) (v := ?_) rfl (by kernel_rfl) (by kernel_rfl) (by kernel_rfl) (fun _ _ _ h => h) (Or.inl ⟨by rfl, ?_⟩) (by assumption) ?_
          rotate_left 1
          · (intro w hSw; (try dsimp only at hSw); go_simp; (try with_reducible rfl))
          (try simp only [Act.put, List.setIfInBounds_toArray, List.set_cons_zero, List.set_cons_succ])
          refine wpAnyH_take (i := 3) (oi := ({ dst := some 43, op := Op.move (Operand.tmp 12), type := 3, pos := "law.go:54", after := #[], guard := none } : Oper)) (v := ?_) rfl (by kernel_rfl) (by kernel_rfl) (by kernel_rfl) (fun _ _ _ h => h) (Or.inl ⟨by rfl, ?_⟩) (by assumption) ?_
          rotate_left 1
          · (intro w hSw; (try dsimp only at hSw); go_simp; (try with_reducible rfl))
          (try simp only [Act.put, List.setIfInBounds_toArray, List.set_cons_zero, List.set_cons_succ])
          refine wpAnyH_take (i := 4) (oi := ({ dst := some 44, op := Op.indexAddr 28 (Operand.tmp 42) (Operand.tmp 43), type := 0, pos := "law.go:54", after := #[{ on := 2, ground := Ground.data }, { on := 3, ground := Ground.data }], guard := none } : Oper)) (v := ?_) rfl (by kernel_rfl) (by kernel_rfl) (by kernel_rfl) (fun _ _ _ h => h) (Or.inl ⟨by rfl, ?_⟩) (by assumption) ?_
          rotate_left 1
          · (intro w hSw; (try dsimp only at hSw); go_simp; (try with_reducible rfl))
          (try simp only [Act.put, List.setIfInBounds_toArray, List.set_cons_zero, List.set_cons_succ])
          refine wpAnyH_take (i := 5) (oi := ({ dst := some 45, op := Op.load 34 (Operand.tmp 44), type := 34, pos := "law.go:54", after := #[{ on := 4, ground := Ground.data }], guard := none } : Oper)) (v := ?_) rfl (by kernel_rfl) (by kernel_rfl) (by kernel_rfl) (fun _ _ _ h => h) (Or.inl ⟨by rfl, ?_⟩) (by assumption) ?_
          rotate_left 1
          · (intro w hSw; (try dsimp only at hSw); go_simp; (try with_reducible rfl))
          (try simp only [Act.put, List.setIfInBounds_toArray, List.set_cons_zero, List.set_cons_succ])
          refine wpAnyH_ready (rs := [6]) (by kernel_rfl) (by simp) ?_
          refine AllReadyH.cons (o := ({ dst := some 46, op := Op.call { callee := Callee.value (Operand.func 10), args := #[Operand.tmp 41, Operand.tmp 45], argTypes := #[24, 34] }, type := 5, pos := "law.go:54", after := #[{ on := 1, ground := Ground.data }, { on := 5, ground := Ground.data }], guard := none } : Oper)) rfl (fun K hK => ?_) ?_
          rotate_left 1
          · exact AllReadyH.nil
          go_simp
          go_at_call 10
          ((with_reducible refine (CB.out _).mono ?_); rintro e W5 ⟨rfl, hb5⟩; have HB5 := Lib.hid ((Below.drewW HB.out).trans (hb5.mono (by have := HB.out.size; exact this))); have HO5 := Lib.hid (Own.below (Own.drew HO.out) hb5 (fun g' e => (HO.out.lt g' e).2)); have HS5 := Lib.hid (SK.out _ HB5.out); have HS6 := Lib.hid (SK.out _ (Below.alloc HB5.out HB5.out.size (Obj.cells #[.int .u8 z] 5))); clear hb5)
          first | (refine hK.out _ _ ?_ (fun hH1 => ?_)) | (go_wp2_with fail; refine hK.out _ _ ?_ (fun hH1 => ?_))
          · (try dsimp only); with_reducible exact HS5.out
          clear hK K hH0
          (try simp only [Act.put, List.setIfInBounds_toArray, List.set_cons_zero, List.set_cons_succ])
          refine wpAnyH_ready (rs := [7]) (by kernel_rfl) (by simp) ?_
          refine AllReadyH.cons (o := ({ dst := some 47, op := Op.buildSlice 27 1 #[(0, Operand.tmp 46)], type := 27, pos := "law.go:54", after := #[{ on := 6, ground := Ground.data }], guard := none } : Oper)) rfl (fun K hK => ?_) ?_
          rotate_left 1
          · exact AllReadyH.nil
          go_simp
          first | (refine hK.out _ _ ?_ (fun hH2 => ?_)) | (go_wp2_with fail; refine hK.out _ _ ?_ (fun hH2 => ?_))
          · (try dsimp only); with_reducible exact HS6.out
          clear hK K hH1
          (try simp only [Act.put, List.setIfInBounds_toArray, List.set_cons_zero, List.set_cons_succ])
          refine wpAnyH_ready (rs := [8]) (by kernel_rfl) (by simp) ?_
          refine AllReadyH.cons (o := ({ dst := some 48, op := Op.call { callee := Callee.builtin Builtin.append, args := #[Operand.tmp 40, Operand.tmp 47], argTypes := #[27, 27] }, type := 27, pos := "law.go:54", after := #[{ on := 0, ground := Ground.data }, { on := 7, ground := Ground.data }, { on := 6, ground := Ground.chain }], guard := none } : Oper)) rfl (fun K hK => ?_) ?_
          rotate_left 1
          · exact AllReadyH.nil
          (refine step_app8 (by rfl) _ _ _ (by rfl) W4.heap.size u11 _ (by rfl) (HO5.out.alloc _) ⟨W5.heap.size, 0, none⟩ 1 1 [z] (by rfl) rfl (cells_lit _ _ _ _ _ rfl _ rfl) (by have := HLT.out; simp at this ⊢; omega) (by have := HB5.out.size; simp; omega) ?_; intro v' w7 hown hbel hgr; have HB7 := Lib.hid ((Below.alloc HB5.out HB5.out.size (Obj.cells #[.int .u8 z] 5)).trans hbel); have HS7 := Lib.hid (SK.out _ HB7.out))
          first | (refine hK.out _ _ ?_ (fun hH3 => ?_)) | (go_wp2_with fail; refine hK.out _ _ ?_ (fun hH3 => ?_))
          · (try dsimp only); with_reducible exact HS7.out
          clear hK K hH2
          (try simp only [Act.put, List.setIfInBounds_toArray, List.set_cons_zero, List.set_cons_succ])
          refine wpAnyH_take (i := 9) (oi := ({ dst := some 11, op := Op.assign (Operand.tmp 48), type := 27, pos := "law.go:54", after := #[{ on := 8, ground := Ground.data }, { on := 8, ground := Ground.chain }, { on := 0, ground := Ground.phase }, { on := 1, ground := Ground.phase }, { on := 2, ground := Ground.phase }, { on := 3, ground := Ground.phase }, { on := 4, ground := Ground.phase }, { on := 5, ground := Ground.phase }, { on := 6, ground := Ground.phase }, { on := 7, ground := Ground.phase }, { on := 8, ground := Ground.phase }], guard := none } : Oper)) (v := ?_) rfl (by kernel_rfl) (by kernel_rfl) (by kernel_rfl) (fun _ _ _ h => h) (Or.inl ⟨by rfl, ?_⟩) (by assumption) ?_
          rotate_left 1
          · (intro w hSw; (try dsimp only at hSw); go_simp; (try with_reducible rfl))
          (try simp only [Act.put, List.setIfInBounds_toArray, List.set_cons_zero, List.set_cons_succ])
          refine wpAnyH_done (by kernel_rfl) ?_ _
          refine NoPanic.normal ?_
          have HO7 : Hid (Own .u8 5 w7 W4.heap.size v' ((l.reverse.take (k + 1)).map (byF x))) := Lib.hid (by rw [HX2.out, HV.out]; exact hown)
          clear hown hbel hgr HS7 S0 HS5 HS6 SK HO5 HB5
          have d0 := (HB7.out.cell (p := ⟨g8, j * 2, none⟩) HA.out.2.2.2.2.1).trans HA.out.1
          have d1 := (HB7.out.cell (p := ⟨g8, j * 2 + 1, none⟩) HA.out.2.2.2.2.1).trans HA.out.2.1
          have d2 := (HB7.out.cell (p := ⟨g9, k * 2, none⟩) HA.out.2.2.2.2.2).trans HA.out.2.2.1
          have d3 := (HB7.out.cell (p := ⟨g9, k * 2 + 1, none⟩) HA.out.2.2.2.2.2).trans HA.out.2.2.2.1
          have n0 : ((m : Int) != (m : Int)) = false := by simp
          have n1 : ((yc : Int) != (yc : Int)) = false := by simp
          have n2 : (yh != yh) = false := by simp
          have t2 : (0 : Int) ≤ k := by omega
          have t3 : (k : Int) < m := by omega
          go_upto_region 15 with (fail)
          go_quiet (fail)
          go_wp2
          refine ⟨⟨k + 1, by omega, vint (by omega), HO7.out.drewN _ |> Lib.hid, Lib.hid (Below.drewNW HB7.out _)⟩, ?_⟩
          simp [intOf]
        · have hkm : k = m := by omega
          subst hkm
          have HW : Hid (Own .u8 5 wr W4.heap.size u11 (l.reverse.map (byF x))) := Lib.hid (by
            have := HO.out
            rwa [List.take_of_length_le (by rw [List.length_reverse, HM.out]; omega)] at this)
          have BW := Lib.hid (Below.trans B4.out (HB.out.mono B4.out.size))
          have RW := Lib.hid (RgAt.below R4.out HB.out R4.out.lt)
          have EW := Lib.hid (Blk.below E4.out HB.out E4.out.lt)
          have SW : Hid (w.heap.size + 2 ≤ W4.heap.size ∧ W4.heap.size ≤ wr.heap.size) := Lib.hid ⟨by have := S4.out; omega, HB.out.size⟩
          have hneg : ¬ (0 : Int) ≤ (k : Int) - 1 - k := by omega
          clear HO HB B4 R4 E4 X4 P4 L4 C8 C9 S4 tm
          obtain ⟨r0, r1, r2, r3, r4, r5, r6, r7, r8⟩ := RW.out.cells
          have CK := Lib.hid (fun u (hb : Ints .u8 u u.heap.size A n bs) (ht : LregAt u) => frBack_any r HR.out A n cap bs (by omega) u hb ht)
          have BB := Lib.hid (Ints.below HBB.out BW.out.size BW.out)
          obtain ⟨q, hq⟩ : ∃ q, bkR r bs = q := ⟨_, rfl⟩
          obtain ⟨ec, hec⟩ : ∃ ec, bkE bs = ec := ⟨_, rfl⟩
          rw [hq, hec] at CK
          have HQ := Lib.hid hq
          have HEC := Lib.hid hec
          clear hq hec
          go_wp2_with fail
          refine (CK.out _ BB.out (HT.out.below BW.out)).mono ?_
          rintro e W6 ⟨rfl, hb⟩
          have B6 := Lib.hid (Below.trans0 BW.out hb)
          have R6 := Lib.hid (RgAt.below RW.out hb RW.out.lt)
          have E6 := Lib.hid (Blk.below EW.out hb EW.out.lt)
          have O6 := Lib.hid (Own.below HW.out hb (fun g' e => (HW.out.lt g' e).2))
          have K6 : Hid (RgAt (W6.alloc (Obj.cells q.cells 24)) W6.heap.size 24 q) := Lib.hid (Blk.new _ _ _ _)
          have N6 := Lib.hid (Below.alloc0 (Below.refl _ W6) (Obj.cells q.cells 24))
          have S6 : Hid (w.heap.size + 2 ≤ W6.heap.size ∧ W4.heap.size ≤ W6.heap.size) := Lib.hid ⟨by have := SW.out; have := hb.size; omega, Nat.le_trans SW.out.2 hb.size⟩
          clear hb BB CK BW RW EW HW SW r0 r1 r2 r3 r4 r5 r6 r7 r8
          go_upto_region 18 with (fail)
          generalize W6.alloc (Obj.cells #[.int .u8 q.A, .int .u8 q.B, .int .u8 q.D, .int .u8 q.C, .int .u16 q.X, .int .u16 q.Y, .int .u16 q.U, .int .u16 q.S, .int .u16 q.P] 24) = W7 at K6 N6 ⊢
          have B7 := Lib.hid (Below.trans0 B6.out N6.out)
          have R7 := Lib.hid (RgAt.below R6.out N6.out R6.out.lt)
          have E7 := Lib.hid (Blk.below E6.out N6.out E6.out.lt)
          have O7 := Lib.hid (Own.below O6.out N6.out (fun g' e => (O6.out.lt g' e).2))
          have S7 : Hid (w.heap.size + 2 ≤ W6.heap.size ∧ W4.heap.size ≤ W6.heap.size ∧ W6.heap.size < W7.heap.size) := Lib.hid ⟨S6.out.1, S6.out.2, K6.out.lt⟩
          obtain ⟨YL, hYL⟩ : ∃ YL, l.reverse.map (byF x) = YL := ⟨_, rfl⟩
          have hYwf : ∀ z ∈ YL, (Lit.int .u8 z).wf = true := by
            intro z hz
            rw [← hYL] at hz
            obtain ⟨y, _, rfl⟩ := List.mem_map.1 hz
            obtain ⟨a, b⟩ := byB_range x HRx.out (y.1 : Int) y.2
            have : byF x y = byB x (y.1 : Int) y.2 := rfl
            rw [this]
            generalize byB x (y.1 : Int) y.2 = v at *
            simp [Lit.wf, IntKind.min, IntKind.max, IntKind.signed, IntKind.bits]; omega
          rw [hYL] at O7 CBy
          have HYW := Lib.hid hYwf
          clear hYL hYwf B6 R6 E6 O6 N6 S6
          obtain ⟨A11, c11, rfl, hI11⟩ := O7.out.ints HYW.out
          have I11 := Lib.hid hI11
          clear hI11
          obtain ⟨r0, r1, r2, r3, r4, r5, r6, r7, r8⟩ := R7.out.cells
          obtain ⟨⟨e0, e1, e2, e3⟩, -⟩ := E7.out.b4
          by_cases h0 : n = 0
          · subst h0
            have hbl : bs.length = 0 := HLE.out
            have hq0 : q = zeroRg := by rw [← HQ.out]; unfold bkR; rw [if_pos hbl]
            have he0 : ec = 20 := by rw [← HEC.out]; unfold bkE; rw [if_pos hbl]
            subst hq0 he0
            have HE : ∀ w, (binOp .eql 24 (.agg #[.int .u8 zeroRg.A, .int .u8 zeroRg.B, .int .u8 zeroRg.D, .int .u8 zeroRg.C, .int .u16 zeroRg.X, .int .u16 zeroRg.Y, .int .u16 zeroRg.U, .int .u16 zeroRg.S, .int .u16 zeroRg.P]) (.agg #[.int .u8 0, .int .u8 0, .int .u8 0, .int .u8 0, .int .u16 0, .int .u16 0, .int .u16 0, .int .u16 0, .int .u16 0])).run Tryd.prog w = .ok (.bool true) w := fun w => eql_rgF zeroRg w
            go_wp2_with fail
            refine (CBy.out _ (HT.out.below B7.out)).mono ?_
            rintro e W8 ⟨v8, rfl, ho, hb⟩
            obtain ⟨A12, c12, rfl, hI12⟩ := ho.ints HYW.out
            have B8 := Lib.hid (Below.trans0 B7.out hb)
            have K8 := Lib.hid (RgAt.below K6.out hb K6.out.lt)
            have CE := Lib.hid (bytesEqual_any A12 A11 YL.length c12 YL.length c11 YL YL _ _ W8 hI12 (Ints.below I11.out hb.size hb))
            rw [show (YL == YL) = true by simp] at CE
            clear hb ho hI12 r0 r1 r2 r3 r4 r5 r6 r7 r8 e0 e1 e2 e3
            obtain ⟨r0, r1, r2, r3, r4, r5, r6, r7, r8⟩ := K8.out.cells
            go_wp2_with fail
            refine CE.out.mono ?_
            rintro e w' ⟨rfl, rfl⟩
            go_wp2_with fail
            refine (alive25 _).mono ?_
            rintro e W9 ⟨rfl, hb⟩
            have B9 := Lib.hid (Below.trans0 B8.out hb)
            clear hb
            go_wp2
            go_ret
            exact ⟨rfl, B9.out⟩
          · have hpos : 0 < n := by omega
            obtain ⟨b, off, rfl, hb, hcell⟩ := HBB.out.2.2 hpos
            have hb0 := bounds_u8 (iat_wf HBB.out.2.1 0 (by rw [HLE.out]; omega))
            have c0 := (B7.out.cell (p := ⟨b, off + 0, none⟩) hb).trans (hcell 0 hpos)
            rw [Nat.add_zero] at c0
            obtain ⟨wh2, hwh⟩ : ∃ wh2, hasRef (iat bs 0) 128 = wh2 := ⟨_, rfl⟩
            have hdec := hasRef_128 (iat bs 0) hb0.1 (by omega)
            rw [hwh] at hdec
            obtain ⟨l2, hl2⟩ : ∃ l2, ordL (frP wh2) false = l2 := ⟨_, rfl⟩
            obtain ⟨M, hM⟩ : ∃ M, l2.length = M := ⟨_, rfl⟩
            have hMb : 0 < M ∧ M ≤ 100 := by rw [← hM, ← hl2]; cases wh2 <;> decide +kernel
            have hq1 : q = if n = M then mvS (wF r l2 bs n) n else zeroRg := by
              rw [← HQ.out]; unfold bkR; rw [HLE.out, if_neg h0, hwh, hl2, hM]
            have he1 : ec = if n < M then 20 else if M < n then 12 else 0 := by
              rw [← HEC.out]; unfold bkE; rw [HLE.out, if_neg h0, hwh, hl2, hM]
            have HQ1 := Lib.hid hq1
            have HE1 := Lib.hid he1
            have HM2 := Lib.hid hM
            have CA : Hid (∀ u, Calls Tryd.prog 8 #[.int .u8 129, .bool false] u fun e w' => ∃ v, e = .returned v ∧ Pts 34 w' u.heap.size v (ordL (frP false) false) ∧ Below u.heap.size u w') := Lib.hid (fun u => refOrder_any 129 (by decide) false u)
            have CB2 : Hid (∀ u, Calls Tryd.prog 8 #[.int .u8 255, .bool false] u fun e w' => ∃ v, e = .returned v ∧ Pts 34 w' u.heap.size v (ordL (frP true) false) ∧ Below u.heap.size u w') := Lib.hid (fun u => refOrder_any 255 (by decide) false u)
            have hne : ((n : Int) == 0) = false := by simp; omega
            have k0 : (0 : Int) < (n : Int) := by omega
            have HL2 := Lib.hid hl2
            have HMb := Lib.hid hMb
            have HCELL := Lib.hid hcell
            have HBw := Lib.hid hb
            clear HQ HEC hwh hq1 he1 hM hl2 hMb hcell hb
            generalize iat bs 0 = x0 at *
            go_wp2_with fail
            refine (CA.out _).mono ?_
            rintro e W8 ⟨v8, rfl, hp, hb8⟩
            have P8 := Lib.hid hp
            have N8 := Lib.hid hb8
            have c8 := (hb8.cell (p := ⟨b, off, none⟩) (by show b < W7.heap.size; have := HBw.out; have := B7.out.size; omega)).trans c0
            clear hp hb8 c0
            go_upto_if 118 with (fail)
            go_cut [15] (fun u15 wx => Hid (Pts 34 wx W7.heap.size u15 l2) ∧ Hid (Below W7.heap.size W7 wx))
            case first =>
              cases wh2
              · have hx0 : ¬ 127 < x0 := of_decide_eq_false hdec.symm
                clear hdec
                go_wp2
                go_meet
                case rel => exact ⟨Lib.hid (by rw [← HL2.out]; exact P8.out), N8⟩
              · have hx0 : 127 < x0 := of_decide_eq_true hdec.symm
                clear hdec
                go_wp2_with fail
                refine (CB2.out _).mono ?_
                rintro e W9 ⟨v9, rfl, hp, hb9⟩
                have P9 : Hid (Pts 34 W9 W7.heap.size v9 l2) := Lib.hid (by
                  rw [← HL2.out]
                  obtain ⟨hl, h2⟩ := hp
                  refine ⟨hl, ?_⟩
                  rcases h2 with h2 | ⟨g, cp, cur, e, h3, h4⟩
                  · exact .inl h2
                  · exact .inr ⟨g, cp, cur, e, Nat.le_trans N8.out.size h3, h4⟩)
                have N9 := Lib.hid (Below.trans0 N8.out hb9)
                clear hp hb9
                dsimp only
                go_wp2
                go_meet
                case rel => exact ⟨P9, N9⟩
            case rest =>
              obtain ⟨PX, NX⟩ := hcut
              have B9 := Lib.hid (Below.trans0 B7.out NX.out)
              have R9 := Lib.hid (RgAt.below R7.out NX.out R7.out.lt)
              have E9 := Lib.hid (Blk.below E7.out NX.out E7.out.lt)
              have K9 := Lib.hid (RgAt.below K6.out NX.out K6.out.lt)
              have I9 := Lib.hid (Ints.below I11.out NX.out.size NX.out)
              have S9 : Hid (w.heap.size + 2 ≤ W6.heap.size ∧ W6.heap.size < W7.heap.size ∧ W7.heap.size ≤ wc.heap.size) := Lib.hid ⟨S7.out.1, S7.out.2.2, NX.out.size⟩
              clear c8 P8 N8 B7 R7 E7 K6 O7 I11 S7 CA CB2 r0 r1 r2 r3 r4 r5 r6 r7 r8 e0 e1 e2 e3 hdec
              obtain ⟨A15, c15, rfl, hc15⟩ := PX.out.cells_
              rw [HM2.out] at hc15 ⊢
              have C15 := Lib.hid hc15
              clear hc15
              obtain ⟨r0, r1, r2, r3, r4, r5, r6, r7, r8⟩ := R9.out.cells
              go_upto_region 24 with (fail)
              have TT : Hid (RgAt (wc.alloc (Obj.cells #[.int .u8 r.A, .int .u8 r.B, .int .u8 r.D, .int .u8 r.C, .int .u16 r.X, .int .u16 r.Y, .int .u16 r.U, .int .u16 r.S, .int .u16 r.P] 24)) wc.heap.size 24 r) := Lib.hid (Blk.new _ _ _ _)
              have NTB : Hid (Below wc.heap.size wc (wc.alloc (Obj.cells #[.int .u8 r.A, .int .u8 r.B, .int .u8 r.D, .int .u8 r.C, .int .u16 r.X, .int .u16 r.Y, .int .u16 r.U, .int .u16 r.S, .int .u16 r.P] 24))) := Lib.hid (Below.alloc0 (Below.refl _ wc) _)
              generalize wc.alloc (Obj.cells #[.int .u8 r.A, .int .u8 r.B, .int .u8 r.D, .int .u8 r.C, .int .u16 r.X, .int .u16 r.Y, .int .u16 r.U, .int .u16 r.S, .int .u16 r.P] 24) = WT at TT NTB ⊢
              have BT := Lib.hid (Below.trans0 B9.out NTB.out)
              have RT := Lib.hid (RgAt.below R9.out NTB.out R9.out.lt)
              have ET := Lib.hid (Blk.below E9.out NTB.out E9.out.lt)
              have KT := Lib.hid (RgAt.below K9.out NTB.out K9.out.lt)
              have IT := Lib.hid (Ints.below (B' := wc.heap.size) I9.out (Nat.le_refl _) NTB.out)
              have XS : Hid (wc.heap.size < WT.heap.size) := Lib.hid TT.out.lt
              clear B9 R9 E9 K9 I9 r0 r1 r2 r3 r4 r5 r6 r7 r8
              rcases Nat.lt_trichotomy n M with h | h | h
              · have hq0 : q = zeroRg := by rw [HQ1.out, if_neg (by omega)]
                have he0 : ec = 20 := by rw [HE1.out, if_pos h]
                subst hq0 he0
                have n0 : ((n : Int) == (M : Int)) = false := by simp; omega
                have n1 : ((M : Int) == (n : Int)) = false := by simp; omega
                have tM : (0 : Int) < (M : Int) := by have := HMb.out; omega
                have tw1 : IntKind.u16.wrap (M : Int) = (M : Int) := by rw [IntKind.wrap_u16]; have := HMb.out; omega
                obtain ⟨t0, t1, t2, t3, t4, t5, t6, t7, t8⟩ := TT.out.cells
                have ft := TT.out.frozen 7
                have hz1 : ¬ M < n := by omega
                go_wp2
                go_loopw [18] (fun u18 wr => u18 = .int .i64 0 ∧ wr = WT) (fun _ _ => 0)
                case atStart => exact ⟨rfl, rfl⟩
                case round =>
                  obtain ⟨rfl, hwr⟩ := hrel
                  have hwr' := hwr.symm
                  clear hwr
                  subst hwr'
                  have hM0 : 0 < M := HMb.out.1
                  have hM1 : decide (0 < M) = true := by simpa using hM0
                  have n2 : (n == M) = false := by simp; omega
                  have n3 : ¬ n = M := by omega
                  go_upto_region 28 with (fail)
                  have tw2 : IntKind.u16.wrap (r.S + (M : Int)) = (r.S + (M : Int)) % 65536 := by rw [IntKind.wrap_u16]
                  have T10 := Lib.hid (Blk.set_ TT.out 7 (.int .u16 ((r.S + (M : Int)) % 65536)))
                  have T10' : Hid (RgAt (WT.setCell ⟨wc.heap.size, 7, none⟩ (.int .u16 ((r.S + (M : Int)) % 65536))) wc.heap.size 24 (mvS r M)) := T10
                  obtain ⟨a0, a1, a2, a3, a4, a5, a6, a7, a8⟩ := T10'.out.cells
                  obtain ⟨f0, f1, f2, f3, f4, f5, f6, f7, f8⟩ := T10'.out.frz
                  have G10 := Lib.hid (grown_cell WT wc.heap.size 7 (.int .u16 ((r.S + (M : Int)) % 65536)))
                  have T11 : Hid (RgAt ((((((((((WT.setCell ⟨wc.heap.size, 7, none⟩ (.int .u16 ((r.S + (M : Int)) % 65536))).setCell ⟨wc.heap.size, 0, none⟩ (.int .u8 0)).setCell ⟨wc.heap.size, 1, none⟩ (.int .u8 0)).setCell ⟨wc.heap.size, 2, none⟩ (.int .u8 0)).setCell ⟨wc.heap.size, 3, none⟩ (.int .u8 0)).setCell ⟨wc.heap.size, 4, none⟩ (.int .u16 0)).setCell ⟨wc.heap.size, 5, none⟩ (.int .u16 0)).setCell ⟨wc.heap.size, 6, none⟩ (.int .u16 0)).setCell ⟨wc.heap.size, 7, none⟩ (.int .u16 0)).setCell ⟨wc.heap.size, 8, none⟩ (.int .u16 0)) wc.heap.size 24 zeroRg) := Lib.hid (st9_at T10'.out zeroRg)
                  have G11 : Hid (WT.grownBy ((((((((((WT.setCell ⟨wc.heap.size, 7, none⟩ (.int .u16 ((r.S + (M : Int)) % 65536))).setCell ⟨wc.heap.size, 0, none⟩ (.int .u8 0)).setCell ⟨wc.heap.size, 1, none⟩ (.int .u8 0)).setCell ⟨wc.heap.size, 2, none⟩ (.int .u8 0)).setCell ⟨wc.heap.size, 3, none⟩ (.int .u8 0)).setCell ⟨wc.heap.size, 4, none⟩ (.int .u16 0)).setCell ⟨wc.heap.size, 5, none⟩ (.int .u16 0)).setCell ⟨wc.heap.size, 6, none⟩ (.int .u16 0)).setCell ⟨wc.heap.size, 7, none⟩ (.int .u16 0)).setCell ⟨wc.heap.size, 8, none⟩ (.int .u16 0)) (some wc.heap.size)) := Lib.hid (World.grownBy.trans G10.out (st9_grown (WT.setCell ⟨wc.heap.size, 7, none⟩ (.int .u16 ((r.S + (M : Int)) % 65536))) wc.heap.size zeroRg))
                  clear T10 T10' G10
                  go_upto_region 30 with (fail)
                  go_upto_region 33 with (fail)
                  generalize (((((((((WT.setCell ⟨wc.heap.size, 7, none⟩ (.int .u16 ((r.S + (M : Int)) % 65536))).setCell ⟨wc.heap.size, 0, none⟩ (.int .u8 0)).setCell ⟨wc.heap.size, 1, none⟩ (.int .u8 0)).setCell ⟨wc.heap.size, 2, none⟩ (.int .u8 0)).setCell ⟨wc.heap.size, 3, none⟩ (.int .u8 0)).setCell ⟨wc.heap.size, 4, none⟩ (.int .u16 0)).setCell ⟨wc.heap.size, 5, none⟩ (.int .u16 0)).setCell ⟨wc.heap.size, 6, none⟩ (.int .u16 0)).setCell ⟨wc.heap.size, 7, none⟩ (.int .u16 0)).setCell ⟨wc.heap.size, 8, none⟩ (.int .u16 0) = WF at T11 G11 ⊢
                  clear a0 a1 a2 a3 a4 a5 a6 a7 a8 f0 f1 f2 f3 f4 f5 f6 f7 f8 t0 t1 t2 t3 t4 t5 t6 t7 t8 ft tw2
                  have hgt := S9.out
                  have BF := Lib.hid (Below.trans BT.out (below_own (base := w.heap.size) G11.out (by intro g e; simp at e; omega) BT.out.size))
                  have RF := Lib.hid (RgAt.grown RT.out G11.out (by simp; omega))
                  have EF := Lib.hid (Blk.grown ET.out G11.out (by simp; omega))
                  have KF := Lib.hid (RgAt.grown KT.out G11.out (by simp; omega))
                  have TF := T11
                  have IF := Lib.hid (Ints.keep (B' := WF.heap.size) IT.out (by have := XS.out; have := G11.out.size; omega) (fun b o hlt => G11.out.cell_far ⟨b, o, none⟩ (by show b < WT.heap.size; have := XS.out; omega) (by simp; omega)))
                  clear T11 G11 RT ET KT IT BT hgt
                  obtain ⟨r0, r1, r2, r3, r4, r5, r6, r7, r8⟩ := RF.out.cells
                  obtain ⟨⟨e0, e1, e2, e3⟩, -⟩ := EF.out.b4
                  go_wp2_with fail
                  refine (CBy.out _ (HT.out.below BF.out)).mono ?_
                  rintro e V1 ⟨v8, rfl, ho, hb⟩
                  obtain ⟨A12, c12, rfl, hI12⟩ := ho.ints HYW.out
                  have BV := Lib.hid (Below.trans0 BF.out hb)
                  have KV := Lib.hid (RgAt.below KF.out hb KF.out.lt)
                  have TV := Lib.hid (RgAt.below TF.out hb TF.out.lt)
                  have CE := Lib.hid (bytesEqual_any A12 A11 YL.length c12 YL.length c11 YL YL _ _ V1 hI12 (Ints.below IF.out hb.size hb))
                  rw [show (YL == YL) = true by simp] at CE
                  clear hb ho hI12 r0 r1 r2 r3 r4 r5 r6 r7 r8 e0 e1 e2 e3
                  obtain ⟨r0, r1, r2, r3, r4, r5, r6, r7, r8⟩ := KV.out.cells
                  obtain ⟨s0, s1, s2, s3, s4, s5, s6, s7, s8⟩ := TV.out.cells
                  have HE := eql_rgF zeroRg
                  go_wp2_with fail
                  refine CE.out.mono ?_
                  rintro e w' ⟨rfl, rfl⟩
                  go_wp2_with fail
                  refine (alive25 _).mono ?_
                  rintro e V2 ⟨rfl, hb⟩
                  have BV2 := Lib.hid (Below.trans0 BV.out hb)
                  clear hb
                  go_wp2
                  go_ret
                  exact ⟨rfl, BV2.out⟩
              · subst h
                have hq0 : q = mvS (wF r l2 bs n) n := by rw [HQ1.out, if_pos rfl]
                have he0 : ec = 0 := by rw [HE1.out, if_neg (by omega), if_neg (by omega)]
                subst he0
                have HQ2 := Lib.hid hq0
                clear hq0 HQ1 HE1
                have nn : ¬ n < n := Nat.lt_irrefl n
                have n0 : ((n : Int) == (n : Int)) = true := by simp
                have HRn : Hid (∀ i, i < bs.length → 0 ≤ iat bs i ∧ iat bs i < 256) := Lib.hid (fun i hi => by have := bounds_u8 (iat_wf HBB.out.2.1 i hi); omega)
                have HOK : Hid (∀ k, k ≤ n → (wF r l2 bs k).Ok) := Lib.hid (fun k hk => wF_ok r HR.out l2 bs HRn.out k (by rw [HLE.out]; exact hk))
                go_wp2
                go_loopw [18] (fun u18 wr => ∃ k : Nat, k ≤ n ∧ u18 = .int .i64 k ∧ Hid (RgAt wr wc.heap.size 24 (wF r l2 bs k)) ∧ Hid (WT.grownBy wr (some wc.heap.size))) (fun u18 _ => n - (intOf u18).toNat)
                case atStart => exact ⟨0, Nat.zero_le _, rfl, TT, Lib.hid (World.grownBy.refl _ _)⟩
                case round =>
                  obtain ⟨i, hi, rfl, HRg, HG⟩ := hrel
                  by_cases hlt : i < n
                  · obtain ⟨g, rfl, hg, hgb, hc⟩ := C15.out (by omega)
                    obtain ⟨q0, q1⟩ := hc i hlt
                    have q2 := (NTB.out.cell (p := ⟨g, i * 2, none⟩) hg).trans q0
                    have q3 := (NTB.out.cell (p := ⟨g, i * 2 + 1, none⟩) hg).trans q1
                    have d0 := HG.out.cell q2 (by simp; omega)
                    have d1 := HG.out.cell q3 (by simp; omega)
                    have d2 := HG.out.cell ((BT.out.cell (p := ⟨b, off + i, none⟩) HBw.out).trans (HCELL.out i hlt)) (by have := S9.out; have := HBw.out; simp; omega)
                    have hy := HRn.out i (by rw [HLE.out]; exact hlt)
                    have HOKk := HOK.out i hi
                    have HS : Hid (wF r l2 bs (i + 1) = withR (wF r l2 bs i) ((l2.getD i (0, false)).1 : Int) (l2.getD i (0, false)).2 (iat bs i)) := Lib.hid rfl
                    generalize iat bs i = y at *
                    generalize l2.getD i (0, false) = z at *
                    obtain ⟨xc, xh⟩ := z
                    dsimp only at d0 d1 HS
                    have CW := Lib.hid (fun u => refWith_any (wF r l2 bs i) HOKk (xc : Int) xh y hy.1 hy.2 u)
                    rw [← HS.out] at CW
                    obtain ⟨s, hs⟩ : ∃ s, wF r l2 bs (i + 1) = s := ⟨_, rfl⟩
                    rw [hs] at CW
                    have HSs := Lib.hid hs
                    clear HS hs
                    obtain ⟨s0, s1, s2, s3, s4, s5, s6, s7, s8⟩ := RgAt.cells HRg.out
                    have t0 : (0 : Int) ≤ i := by omega
                    have t1 : (i : Int) < n := by omega
                    generalize wF r l2 bs i = qq at *
                    clear hc q0 q1 q2 q3 HOKk hy hgb hg
                    go_upto_region 27 with (fail)
                    refine wp_region_noPanic ?_
                    refine wp_region_held_drew (S := (fun _ => True)) (by kernel_rfl) ?_ (fun hH0 => ?_)
                    · trivial
                    refine wpAnyH_take (i := 1) (oi := ({ dst := some 135, op := Op.move (Operand.tmp 15), type := 28, pos := "law.go:69", after := #[], guard := none } : Oper)) (v := ?_) rfl (by kernel_rfl) (by kernel_rfl) (by kernel_rfl) (fun _ _ _ h => h) (Or.inl ⟨by rfl, ?_⟩) (by assumption) ?_
                    rotate_left 1
                    · (intro w hSw; (try dsimp only at hSw); go_simp; (try with_reducible rfl))
                    (try simp only [Act.put, List.setIfInBounds_toArray, List.set_cons_zero, List.set_cons_succ])
                    refine wpAnyH_take (i := 2) (oi := ({ dst := some 136, op := Op.move (Operand.tmp 18), type := 3, pos := "law.go:69", after := #[], guard := none } : Oper)) (v := ?_) rfl (by kernel_rfl) (by kernel_rfl) (by kernel_rfl) (fun _ _ _ h => h) (Or.inl ⟨by rfl, ?_⟩) (by assumption) ?_
                    rotate_left 1
                    · (intro w hSw; (try dsimp only at hSw); go_simp; (try with_reducible rfl))
                    (try simp only [Act.put, List.setIfInBounds_toArray, List.set_cons_zero, List.set_cons_succ])
                    refine wpAnyH_take (i := 3) (oi := ({ dst := some 137, op := Op.indexAddr 28 (Operand.tmp 135) (Operand.tmp 136), type := 0, pos := "law.go:69", after := #[{ on := 1, ground := Ground.data }, { on := 2, ground := Ground.data }], guard := none } : Oper)) (v := ?_) rfl (by kernel_rfl) (by kernel_rfl) (by kernel_rfl) (fun _ _ _ h => h) (Or.inl ⟨by rfl, ?_⟩) (by assumption) ?_
                    rotate_left 1
                    · (intro w hSw; (try dsimp only at hSw); go_simp; (try with_reducible rfl))
                    (try simp only [Act.put, List.setIfInBounds_toArray, List.set_cons_zero, List.set_cons_succ])
                    refine wpAnyH_take (i := 5) (oi := ({ dst := some 139, op := Op.move (Operand.tmp 2), type := 27, pos := "law.go:69", after := #[], guard := none } : Oper)) (v := ?_) rfl (by kernel_rfl) (by kernel_rfl) (by kernel_rfl) (fun _ _ _ h => h) (Or.inl ⟨by rfl, ?_⟩) (by assumption) ?_
                    rotate_left 1
                    · (intro w hSw; (try dsimp only at hSw); go_simp; (try with_reducible rfl))
                    (try simp only [Act.put, List.setIfInBounds_toArray, List.set_cons_zero, List.set_cons_succ])
                    refine wpAnyH_take (i := 6) (oi := ({ dst := some 140, op := Op.move (Operand.tmp 18), type := 3, pos := "law.go:69", after := #[], guard := none } : Oper)) (v := ?_) rfl (by kernel_rfl) (by kernel_rfl) (by kernel_rfl) (fun _ _ _ h => h) (Or.inl ⟨by rfl, ?_⟩) (by assumption) ?_
                    rotate_left 1
                    · (intro w hSw; (try dsimp only at hSw); go_simp; (try with_reducible rfl))
                    (try simp only [Act.put, List.setIfInBounds_toArray, List.set_cons_zero, List.set_cons_succ])
                    refine wpAnyH_take (i := 7) (oi := ({ dst := some 141, op := Op.indexAddr 27 (Operand.tmp 139) (Operand.tmp 140), type := 0, pos := "law.go:69", after := #[{ on := 5, ground := Ground.data }, { on := 6, ground := Ground.data }], guard := none } : Oper)) (v := ?_) rfl (by kernel_rfl) (by kernel_rfl) (by kernel_rfl) (fun _ _ _ h => h) (Or.inl ⟨by rfl, ?_⟩) (by assumption) ?_
                    rotate_left 1
                    · (intro w hSw; (try dsimp only at hSw); go_simp; (try with_reducible rfl))
                    (try simp only [Act.put, List.setIfInBounds_toArray, List.set_cons_zero, List.set_cons_succ])
                    refine wpAnyH_ready (rs := [0, 4, 8]) (by kernel_rfl) (by simp) ?_
                    refine AllReadyH.cons (o := ({ dst := some 134, op := Op.load 24 (Operand.tmp 16), type := 24, pos := "law.go:69", after := #[], guard := none } : Oper)) rfl (fun K hK => ?_) ?_
                    · go_simp
                      first | (refine hK.out _ _ ?_ (fun hH1 => ?_)) | (go_wp2_with fail; refine hK.out _ _ ?_ (fun hH1 => ?_))
                      · trivial
                      clear hK K hH0
                      (try simp only [Act.put, List.setIfInBounds_toArray, List.set_cons_zero, List.set_cons_succ])
                      refine wpAnyH_ready (rs := [4, 8]) (by kernel_rfl) (by simp) ?_
                      refine AllReadyH.cons (o := ({ dst := some 138, op := Op.load 34 (Operand.tmp 137), type := 34, pos := "law.go:69", after := #[{ on := 3, ground := Ground.data }], guard := none } : Oper)) rfl (fun K hK => ?_) ?_
                      · go_simp
                        first | (refine hK.out _ _ ?_ (fun hH2 => ?_)) | (go_wp2_with fail; refine hK.out _ _ ?_ (fun hH2 => ?_))
                        · trivial
                        clear hK K hH1
                        (try simp only [Act.put, List.setIfInBounds_toArray, List.set_cons_zero, List.set_cons_succ])
                        refine wpAnyH_ready (rs := [8]) (by kernel_rfl) (by simp) ?_
                        refine AllReadyH.cons (o := ({ dst := some 142, op := Op.load 5 (Operand.tmp 141), type := 5, pos := "law.go:69", after := #[{ on := 7, ground := Ground.data }], guard := none } : Oper)) rfl (fun K hK => ?_) ?_
                        rotate_left 1
                        · exact AllReadyH.nil
                        go_simp
                        first | (refine hK.out _ _ ?_ (fun hH3 => ?_)) | (go_wp2_with fail; refine hK.out _ _ ?_ (fun hH3 => ?_))
                        · trivial
                        clear hK K hH2
                        (try simp only [Act.put, List.setIfInBounds_toArray, List.set_cons_zero, List.set_cons_succ])
                        refine wpAnyH_ready (rs := [9]) (by kernel_rfl) (by simp) ?_
                        refine AllReadyH.cons (o := ({ dst := some 143, op := Op.call { callee := Callee.value (Operand.func 15), args := #[Operand.tmp 134, Operand.tmp 138, Operand.tmp 142], argTypes := #[24, 34, 5] }, type := 24, pos := "law.go:69", after := #[{ on := 0, ground := Ground.data }, { on := 4, ground := Ground.data }, { on := 8, ground := Ground.data }], guard := none } : Oper)) rfl (fun K hK => ?_) ?_
                        rotate_left 1
                        · exact AllReadyH.nil
                        go_simp
                        go_at_call 15
                        ((with_reducible refine (CW.out _).mono ?_); rintro e W5 ⟨rfl, hb5⟩; have R6x := Lib.hid (RgAt.below (w := wr.drew) (show RgAt wr.drew wc.heap.size 24 qq from HRg.out) hb5 HRg.out.lt); have HG6 := Lib.hid (World.grownBy.trans HG.out (show wr.grownBy W5 (some wc.heap.size) from ⟨hb5.os, hb5.tape, hb5.output, hb5.size, fun j hj _ => hb5.block j hj⟩)); obtain ⟨z0, z1, z2, z3, z4, z5, z6, z7, z8⟩ := R6x.out.cells; obtain ⟨f0, f1, f2, f3, f4, f5, f6, f7, f8⟩ := R6x.out.frz; clear hb5)
                        first | (refine hK.out _ _ ?_ (fun hH4 => ?_)) | (go_wp2_with fail; refine hK.out _ _ ?_ (fun hH4 => ?_))
                        · trivial
                        clear hK K hH3
                        (try simp only [Act.put, List.setIfInBounds_toArray, List.set_cons_zero, List.set_cons_succ])
                        refine wpAnyH_ready (rs := [10]) (by kernel_rfl) (by simp) ?_
                        refine AllReadyH.cons (o := ({ dst := none, op := Op.store 24 (Operand.tmp 16) (Operand.tmp 143), type := 0, pos := "law.go:69", after := #[{ on := 9, ground := Ground.data }, { on := 9, ground := Ground.chain }, { on := 0, ground := Ground.phase }, { on := 1, ground := Ground.phase }, { on := 2, ground := Ground.phase }, { on := 3, ground := Ground.phase }, { on := 4, ground := Ground.phase }, { on := 5, ground := Ground.phase }, { on := 6, ground := Ground.phase }, { on := 7, ground := Ground.phase }, { on := 8, ground := Ground.phase }, { on := 9, ground := Ground.phase }], guard := none } : Oper)) rfl (fun K hK => ?_) ?_
                        rotate_left 1
                        · exact AllReadyH.nil
                        go_simp
                        first | (refine hK.out _ _ ?_ (fun hH5 => ?_)) | (go_wp2_with fail; refine hK.out _ _ ?_ (fun hH5 => ?_))
                        · trivial
                        clear hK K hH4
                        (try simp only [Act.put, List.setIfInBounds_toArray, List.set_cons_zero, List.set_cons_succ])
                        refine wpAnyH_done (by kernel_rfl) ?_ _
                        refine NoPanic.normal ?_
                        have R7x : Hid (RgAt (((((((((W5.setCell ⟨wc.heap.size, 0, none⟩ (.int .u8 s.A)).setCell ⟨wc.heap.size, 1, none⟩ (.int .u8 s.B)).setCell ⟨wc.heap.size, 2, none⟩ (.int .u8 s.D)).setCell ⟨wc.heap.size, 3, none⟩ (.int .u8 s.C)).setCell ⟨wc.heap.size, 4, none⟩ (.int .u16 s.X)).setCell ⟨wc.heap.size, 5, none⟩ (.int .u16 s.Y)).setCell ⟨wc.heap.size, 6, none⟩ (.int .u16 s.U)).setCell ⟨wc.heap.size, 7, none⟩ (.int .u16 s.S)).setCell ⟨wc.heap.size, 8, none⟩ (.int .u16 s.P)) wc.heap.size 24 s) := Lib.hid (st9_at R6x.out s)
                        have HG7 : Hid (WT.grownBy (((((((((W5.setCell ⟨wc.heap.size, 0, none⟩ (.int .u8 s.A)).setCell ⟨wc.heap.size, 1, none⟩ (.int .u8 s.B)).setCell ⟨wc.heap.size, 2, none⟩ (.int .u8 s.D)).setCell ⟨wc.heap.size, 3, none⟩ (.int .u8 s.C)).setCell ⟨wc.heap.size, 4, none⟩ (.int .u16 s.X)).setCell ⟨wc.heap.size, 5, none⟩ (.int .u16 s.Y)).setCell ⟨wc.heap.size, 6, none⟩ (.int .u16 s.U)).setCell ⟨wc.heap.size, 7, none⟩ (.int .u16 s.S)).setCell ⟨wc.heap.size, 8, none⟩ (.int .u16 s.P)) (some wc.heap.size)) := Lib.hid (World.grownBy.trans HG6.out (st9_grown W5 wc.heap.size s))
                        clear z0 z1 z2 z3 z4 z5 z6 z7 z8 f0 f1 f2 f3 f4 f5 f6 f7 f8 R6x HG6 s0 s1 s2 s3 s4 s5 s6 s7 s8
                        generalize ((((((((W5.setCell ⟨wc.heap.size, 0, none⟩ (.int .u8 s.A)).setCell ⟨wc.heap.size, 1, none⟩ (.int .u8 s.B)).setCell ⟨wc.heap.size, 2, none⟩ (.int .u8 s.D)).setCell ⟨wc.heap.size, 3, none⟩ (.int .u8 s.C)).setCell ⟨wc.heap.size, 4, none⟩ (.int .u16 s.X)).setCell ⟨wc.heap.size, 5, none⟩ (.int .u16 s.Y)).setCell ⟨wc.heap.size, 6, none⟩ (.int .u16 s.U)).setCell ⟨wc.heap.size, 7, none⟩ (.int .u16 s.S)).setCell ⟨wc.heap.size, 8, none⟩ (.int .u16 s.P) = W9x at R7x HG7 ⊢
                        have R9x : Hid (RgAt W9x wc.heap.size 24 (wF r l2 bs (i + 1))) := Lib.hid (by rw [HSs.out]; exact R7x.out)
                        clear R7x d0 d1 d2
                        go_wp2
                        refine ⟨⟨i + 1, by omega, by go_num, R9x, HG7⟩, ?_⟩
                        simp [intOf]; omega
                      refine AllReadyH.cons (o := ({ dst := some 142, op := Op.load 5 (Operand.tmp 141), type := 5, pos := "law.go:69", after := #[{ on := 7, ground := Ground.data }], guard := none } : Oper)) rfl (fun K hK => ?_) ?_
                      · go_simp
                        first | (refine hK.out _ _ ?_ (fun hH2 => ?_)) | (go_wp2_with fail; refine hK.out _ _ ?_ (fun hH2 => ?_))
                        · trivial
                        clear hK K hH1
                        (try simp only [Act.put, List.setIfInBounds_toArray, List.set_cons_zero, List.set_cons_succ])
                        refine wpAnyH_ready (rs := [4]) (by kernel_rfl) (by simp) ?_
                        refine AllReadyH.cons (o := ({ dst := some 138, op := Op.load 34 (Operand.tmp 137), type := 34, pos := "law.go:69", after := #[{ on := 3, ground := Ground.data }], guard := none } : Oper)) rfl (fun K hK => ?_) ?_
                        rotate_left 1
                        · exact AllReadyH.nil
                        go_simp
                        first | (refine hK.out _ _ ?_ (fun hH3 => ?_)) | (go_wp2_with fail; refine hK.out _ _ ?_ (fun hH3 => ?_))
                        · trivial
                        clear hK K hH2
                        (try simp only [Act.put, List.setIfInBounds_toArray, List.set_cons_zero, List.set_cons_succ])
                        refine wpAnyH_ready (rs := [9]) (by kernel_rfl) (by simp) ?_
                        refine AllReadyH.cons (o := ({ dst := some 143, op := Op.call { callee := Callee.value (Operand.func 15), args := #[Operand.tmp 134, Operand.tmp 138, Operand.tmp 142], argTypes := #[24, 34, 5] }, type := 24, pos := "law.go:69", after := #[{ on := 0, ground := Ground.data }, { on := 4, ground := Ground.data }, { on := 8, ground := Ground.data }], guard := none } : Oper)) rfl (fun K hK => ?_) ?_
                        rotate_left 1
                        · exact AllReadyH.nil
                        go_simp
                        go_at_call 15
                        ((with_reducible refine (CW.out _).mono ?_); rintro e W5 ⟨rfl, hb5⟩; have R6x := Lib.hid (RgAt.below (w := wr.drew) (show RgAt wr.drew wc.heap.size 24 qq from HRg.out) hb5 HRg.out.lt); have HG6 := Lib.hid (World.grownBy.trans HG.out (show wr.grownBy W5 (some wc.heap.size) from ⟨hb5.os, hb5.tape, hb5.output, hb5.size, fun j hj _ => hb5.block j hj⟩)); obtain ⟨z0, z1, z2, z3, z4, z5, z6, z7, z8⟩ := R6x.out.cells; obtain ⟨f0, f1, f2, f3, f4, f5, f6, f7, f8⟩ := R6x.out.frz; clear hb5)
                        first | (refine hK.out _ _ ?_ (fun hH4 => ?_)) | (go_wp2_with fail; refine hK.out _ _ ?_ (fun hH4 => ?_))
                        · trivial
                        clear hK K hH3
                        (try simp only [Act.put, List.setIfInBounds_toArray, List.set_cons_zero, List.set_cons_succ])
                        refine wpAnyH_ready (rs := [10]) (by kernel_rfl) (by simp) ?_
                        refine AllReadyH.cons (o := ({ dst := none, op := Op.store 24 (Operand.tmp 16) (Operand.tmp 143), type := 0, pos := "law.go:69", after := #[{ on := 9, ground := Ground.data }, { on := 9, ground := Ground.chain }, { on := 0, ground := Ground.phase }, { on := 1, ground := Ground.phase }, { on := 2, ground := Ground.phase }, { on := 3, ground := Ground.phase }, { on := 4, ground := Ground.phase }, { on := 5, ground := Ground.phase }, { on := 6, ground := Ground.phase }, { on := 7, ground := Ground.phase }, { on := 8, ground := Ground.phase }, { on := 9, ground := Ground.phase }], guard := none } : Oper)) rfl (fun K hK => ?_) ?_
                        rotate_left 1
                        · exact AllReadyH.nil
                        go_simp
                        first | (refine hK.out _ _ ?_ (fun hH5 => ?_)) | (go_wp2_with fail; refine hK.out _ _ ?_ (fun hH5 => ?_))
                        · trivial
                        clear hK K hH4
                        (try simp only [Act.put, List.setIfInBounds_toArray, List.set_cons_zero, List.set_cons_succ])
                        refine wpAnyH_done (by kernel_rfl) ?_ _
                        refine NoPanic.normal ?_
                        have R7x : Hid (RgAt (((((((((W5.setCell ⟨wc.heap.size, 0, none⟩ (.int .u8 s.A)).setCell ⟨wc.heap.size, 1, none⟩ (.int .u8 s.B)).setCell ⟨wc.heap.size, 2, none⟩ (.int .u8 s.D)).setCell ⟨wc.heap.size, 3, none⟩ (.int .u8 s.C)).setCell ⟨wc.heap.size, 4, none⟩ (.int .u16 s.X)).setCell ⟨wc.heap.size, 5, none⟩ (.int .u16 s.Y)).setCell ⟨wc.heap.size, 6, none⟩ (.int .u16 s.U)).setCell ⟨wc.heap.size, 7, none⟩ (.int .u16 s.S)).setCell ⟨wc.heap.size, 8, none⟩ (.int .u16 s.P)) wc.heap.size 24 s) := Lib.hid (st9_at R6x.out s)
                        have HG7 : Hid (WT.grownBy (((((((((W5.setCell ⟨wc.heap.size, 0, none⟩ (.int .u8 s.A)).setCell ⟨wc.heap.size, 1, none⟩ (.int .u8 s.B)).setCell ⟨wc.heap.size, 2, none⟩ (.int .u8 s.D)).setCell ⟨wc.heap.size, 3, none⟩ (.int .u8 s.C)).setCell ⟨wc.heap.size, 4, none⟩ (.int .u16 s.X)).setCell ⟨wc.heap.size, 5, none⟩ (.int .u16 s.Y)).setCell ⟨wc.heap.size, 6, none⟩ (.int .u16 s.U)).setCell ⟨wc.heap.size, 7, none⟩ (.int .u16 s.S)).setCell ⟨wc.heap.size, 8, none⟩ (.int .u16 s.P)) (some wc.heap.size)) := Lib.hid (World.grownBy.trans HG6.out (st9_grown W5 wc.heap.size s))
                        clear z0 z1 z2 z3 z4 z5 z6 z7 z8 f0 f1 f2 f3 f4 f5 f6 f7 f8 R6x HG6 s0 s1 s2 s3 s4 s5 s6 s7 s8
                        generalize ((((((((W5.setCell ⟨wc.heap.size, 0, none⟩ (.int .u8 s.A)).setCell ⟨wc.heap.size, 1, none⟩ (.int .u8 s.B)).setCell ⟨wc.heap.size, 2, none⟩ (.int .u8 s.D)).setCell ⟨wc.heap.size, 3, none⟩ (.int .u8 s.C)).setCell ⟨wc.heap.size, 4, none⟩ (.int .u16 s.X)).setCell ⟨wc.heap.size, 5, none⟩ (.int .u16 s.Y)).setCell ⟨wc.heap.size, 6, none⟩ (.int .u16 s.U)).setCell ⟨wc.heap.size, 7, none⟩ (.int .u16 s.S)).setCell ⟨wc.heap.size, 8, none⟩ (.int .u16 s.P) = W9x at R7x HG7 ⊢
                        have R9x : Hid (RgAt W9x wc.heap.size 24 (wF r l2 bs (i + 1))) := Lib.hid (by rw [HSs.out]; exact R7x.out)
                        clear R7x d0 d1 d2
                        go_wp2
                        refine ⟨⟨i + 1, by omega, by go_num, R9x, HG7⟩, ?_⟩
                        simp [intOf]; omega
                      exact AllReadyH.nil
                    refine AllReadyH.cons (o := ({ dst := some 138, op := Op.load 34 (Operand.tmp 137), type := 34, pos := "law.go:69", after := #[{ on := 3, ground := Ground.data }], guard := none } : Oper)) rfl (fun K hK => ?_) ?_
                    · go_simp
                      first | (refine hK.out _ _ ?_ (fun hH1 => ?_)) | (go_wp2_with fail; refine hK.out _ _ ?_ (fun hH1 => ?_))
                      · trivial
                      clear hK K hH0
                      (try simp only [Act.put, List.setIfInBounds_toArray, List.set_cons_zero, List.set_cons_succ])
                      refine wpAnyH_ready (rs := [0, 8]) (by kernel_rfl) (by simp) ?_
                      refine AllReadyH.cons (o := ({ dst := some 134, op := Op.load 24 (Operand.tmp 16), type := 24, pos := "law.go:69", after := #[], guard := none } : Oper)) rfl (fun K hK => ?_) ?_
                      · go_simp
                        first | (refine hK.out _ _ ?_ (fun hH2 => ?_)) | (go_wp2_with fail; refine hK.out _ _ ?_ (fun hH2 => ?_))
                        · trivial
                        clear hK K hH1
                        (try simp only [Act.put, List.setIfInBounds_toArray, List.set_cons_zero, List.set_cons_succ])
                        refine wpAnyH_ready (rs := [8]) (by kernel_rfl) (by simp) ?_
                        refine AllReadyH.cons (o := ({ dst := some 142, op := Op.load 5 (Operand.tmp 141), type := 5, pos := "law.go:69", after := #[{ on := 7, ground := Ground.data }], guard := none } : Oper)) rfl (fun K hK => ?_) ?_
                        rotate_left 1
                        · exact AllReadyH.nil
                        go_simp
                        first | (refine hK.out _ _ ?_ (fun hH3 => ?_)) | (go_wp2_with fail; refine hK.out _ _ ?_ (fun hH3 => ?_))
                        · trivial
                        clear hK K hH2
                        (try simp only [Act.put, List.setIfInBounds_toArray, List.set_cons_zero, List.set_cons_succ])
                        refine wpAnyH_ready (rs := [9]) (by kernel_rfl) (by simp) ?_
                        refine AllReadyH.cons (o := ({ dst := some 143, op := Op.call { callee := Callee.value (Operand.func 15), args := #[Operand.tmp 134, Operand.tmp 138, Operand.tmp 142], argTypes := #[24, 34, 5] }, type := 24, pos := "law.go:69", after := #[{ on := 0, ground := Ground.data }, { on := 4, ground := Ground.data }, { on := 8, ground := Ground.data }], guard := none } : Oper)) rfl (fun K hK => ?_) ?_
                        rotate_left 1
                        · exact AllReadyH.nil
                        go_simp
                        go_at_call 15
                        ((with_reducible refine (CW.out _).mono ?_); rintro e W5 ⟨rfl, hb5⟩; have R6x := Lib.hid (RgAt.below (w := wr.drew) (show RgAt wr.drew wc.heap.size 24 qq from HRg.out) hb5 HRg.out.lt); have HG6 := Lib.hid (World.grownBy.trans HG.out (show wr.grownBy W5 (some wc.heap.size) from ⟨hb5.os, hb5.tape, hb5.output, hb5.size, fun j hj _ => hb5.block j hj⟩)); obtain ⟨z0, z1, z2, z3, z4, z5, z6, z7, z8⟩ := R6x.out.cells; obtain ⟨f0, f1, f2, f3, f4, f5, f6, f7, f8⟩ := R6x.out.frz; clear hb5)
                        first | (refine hK.out _ _ ?_ (fun hH4 => ?_)) | (go_wp2_with fail; refine hK.out _ _ ?_ (fun hH4 => ?_))
                        · trivial
                        clear hK K hH3
                        (try simp only [Act.put, List.setIfInBounds_toArray, List.set_cons_zero, List.set_cons_succ])
                        refine wpAnyH_ready (rs := [10]) (by kernel_rfl) (by simp) ?_
                        refine AllReadyH.cons (o := ({ dst := none, op := Op.store 24 (Operand.tmp 16) (Operand.tmp 143), type := 0, pos := "law.go:69", after := #[{ on := 9, ground := Ground.data }, { on := 9, ground := Ground.chain }, { on := 0, ground := Ground.phase }, { on := 1, ground := Ground.phase }, { on := 2, ground := Ground.phase }, { on := 3, ground := Ground.phase }, { on := 4, ground := Ground.phase }, { on := 5, ground := Ground.phase }, { on := 6, ground := Ground.phase }, { on := 7, ground := Ground.phase }, { on := 8, ground := Ground.phase }, { on := 9, ground := Ground.phase }], guard := none } : Oper)) rfl (fun K hK => ?_) ?_
                        rotate_left 1
                        · exact AllReadyH.nil
                        go_simp
                        first | (refine hK.out _ _ ?_ (fun hH5 => ?_)) | (go_wp2_with fail; refine hK.out _ _ ?_ (fun hH5 => ?_))
                        · trivial
                        clear hK K hH4
                        (try simp only [Act.put, List.setIfInBounds_toArray, List.set_cons_zero, List.set_cons_succ])
                        refine wpAnyH_done (by kernel_rfl) ?_ _
                        refine NoPanic.normal ?_
                        have R7x : Hid (RgAt (((((((((W5.setCell ⟨wc.heap.size, 0, none⟩ (.int .u8 s.A)).setCell ⟨wc.heap.size, 1, none⟩ (.int .u8 s.B)).setCell ⟨wc.heap.size, 2, none⟩ (.int .u8 s.D)).setCell ⟨wc.heap.size, 3, none⟩ (.int .u8 s.C)).setCell ⟨wc.heap.size, 4, none⟩ (.int .u16 s.X)).setCell ⟨wc.heap.size, 5, none⟩ (.int .u16 s.Y)).setCell ⟨wc.heap.size, 6, none⟩ (.int .u16 s.U)).setCell ⟨wc.heap.size, 7, none⟩ (.int .u16 s.S)).setCell ⟨wc.heap.size, 8, none⟩ (.int .u16 s.P)) wc.heap.size 24 s) := Lib.hid (st9_at R6x.out s)
                        have HG7 : Hid (WT.grownBy (((((((((W5.setCell ⟨wc.heap.size, 0, none⟩ (.int .u8 s.A)).setCell ⟨wc.heap.size, 1, none⟩ (.int .u8 s.B)).setCell ⟨wc.heap.size, 2, none⟩ (.int .u8 s.D)).setCell ⟨wc.heap.size, 3, none⟩ (.int .u8 s.C)).setCell ⟨wc.heap.size, 4, none⟩ (.int .u16 s.X)).setCell ⟨wc.heap.size, 5, none⟩ (.int .u16 s.Y)).setCell ⟨wc.heap.size, 6, none⟩ (.int .u16 s.U)).setCell ⟨wc.heap.size, 7, none⟩ (.int .u16 s.S)).setCell ⟨wc.heap.size, 8, none⟩ (.int .u16 s.P)) (some wc.heap.size)) := Lib.hid (World.grownBy.trans HG6.out (st9_grown W5 wc.heap.size s))
                        clear z0 z1 z2 z3 z4 z5 z6 z7 z8 f0 f1 f2 f3 f4 f5 f6 f7 f8 R6x HG6 s0 s1 s2 s3 s4 s5 s6 s7 s8
                        generalize ((((((((W5.setCell ⟨wc.heap.size, 0, none⟩ (.int .u8 s.A)).setCell ⟨wc.heap.size, 1, none⟩ (.int .u8 s.B)).setCell ⟨wc.heap.size, 2, none⟩ (.int .u8 s.D)).setCell ⟨wc.heap.size, 3, none⟩ (.int .u8 s.C)).setCell ⟨wc.heap.size, 4, none⟩ (.int .u16 s.X)).setCell ⟨wc.heap.size, 5, none⟩ (.int .u16 s.Y)).setCell ⟨wc.heap.size, 6, none⟩ (.int .u16 s.U)).setCell ⟨wc.heap.size, 7, none⟩ (.int .u16 s.S)).setCell ⟨wc.heap.size, 8, none⟩ (.int .u16 s.P) = W9x at R7x HG7 ⊢
                        have R9x : Hid (RgAt W9x wc.heap.size 24 (wF r l2 bs (i + 1))) := Lib.hid (by rw [HSs.out]; exact R7x.out)
                        clear R7x d0 d1 d2
                        go_wp2
                        refine ⟨⟨i + 1, by omega, by go_num, R9x, HG7⟩, ?_⟩
                        simp [intOf]; omega
                      refine AllReadyH.cons (o := ({ dst := some 142, op := Op.load 5 (Operand.tmp 141), type := 5, pos := "law.go:69", after := #[{ on := 7, ground := Ground.data }], guard := none } : Oper)) rfl (fun K hK => ?_) ?_
                      · go_simp
                        first | (refine hK.out _ _ ?_ (fun hH2 => ?_)) | (go_wp2_with fail; refine hK.out _ _ ?_ (fun hH2 => ?_))
                        · trivial
                        clear hK K hH1
                        (try simp only [Act.put, List.setIfInBounds_toArray, List.set_cons_zero, List.set_cons_succ])
                        refine wpAnyH_ready (rs := [0]) (by kernel_rfl) (by simp) ?_
                        refine AllReadyH.cons (o := ({ dst := some 134, op := Op.load 24 (Operand.tmp 16), type := 24, pos := "law.go:69", after := #[], guard := none } : Oper)) rfl (fun K hK => ?_) ?_
                        rotate_left 1
                        · exact AllReadyH.nil
                        go_simp
                        first | (refine hK.out _ _ ?_ (fun hH3 => ?_)) | (go_wp2_with fail; refine hK.out _ _ ?_ (fun hH3 => ?_))
                        · trivial
                        clear hK K hH2
                        (try simp only [Act.put, List.setIfInBounds_toArray, List.set_cons_zero, List.set_cons_succ])
                        refine wpAnyH_ready (rs := [9]) (by kernel_rfl) (by simp) ?_
                        refine AllReadyH.cons (o := ({ dst := some 143, op := Op.call { callee := Callee.value (Operand.func 15), args := #[Operand.tmp 134, Operand.tmp 138, Operand.tmp 142], argTypes := #[24, 34, 5] }, type := 24, pos := "law.go:69", after := #[{ on := 0, ground := Ground.data }, { on := 4, ground := Ground.data }, { on := 8, ground := Ground.data }], guard := none } : Oper)) rfl (fun K hK => ?_) ?_
                        rotate_left 1
                        · exact AllReadyH.nil
                        go_simp
                        go_at_call 15
                        ((with_reducible refine (CW.out _).mono ?_); rintro e W5 ⟨rfl, hb5⟩; have R6x := Lib.hid (RgAt.below (w := wr.drew) (show RgAt wr.drew wc.heap.size 24 qq from HRg.out) hb5 HRg.out.lt); have HG6 := Lib.hid (World.grownBy.trans HG.out (show wr.grownBy W5 (some wc.heap.size) from ⟨hb5.os, hb5.tape, hb5.output, hb5.size, fun j hj _ => hb5.block j hj⟩)); obtain ⟨z0, z1, z2, z3, z4, z5, z6, z7, z8⟩ := R6x.out.cells; obtain ⟨f0, f1, f2, f3, f4, f5, f6, f7, f8⟩ := R6x.out.frz; clear hb5)
                        first | (refine hK.out _ _ ?_ (fun hH4 => ?_)) | (go_wp2_with fail; refine hK.out _ _ ?_ (fun hH4 => ?_))
                        · trivial
                        clear hK K hH3
                        (try simp only [Act.put, List.setIfInBounds_toArray, List.set_cons_zero, List.set_cons_succ])
                        refine wpAnyH_ready (rs := [10]) (by kernel_rfl) (by simp) ?_
                        refine AllReadyH.cons (o := ({ dst := none, op := Op.store 24 (Operand.tmp 16) (Operand.tmp 143), type := 0, pos := "law.go:69", after := #[{ on := 9, ground := Ground.data }, { on := 9, ground := Ground.chain }, { on := 0, ground := Ground.phase }, { on := 1, ground := Ground.phase }, { on := 2, ground := Ground.phase }, { on := 3, ground := Ground.phase }, { on := 4, ground := Ground.phase }, { on := 5, ground := Ground.phase }, { on := 6, ground := Ground.phase }, { on := 7, ground := Ground.phase }, { on := 8, ground := Ground.phase }, { on := 9, ground := Ground.phase }], guard := none } : Oper)) rfl (fun K hK => ?_) ?_
                        rotate_left 1
                        · exact AllReadyH.nil
                        go_simp
                        first | (refine hK.out _ _ ?_ (fun hH5 => ?_)) | (go_wp2_with fail; refine hK.out _ _ ?_ (fun hH5 => ?_))
                        · trivial
                        clear hK K hH4
                        (try simp only [Act.put, List.setIfInBounds_toArray, List.set_cons_zero, List.set_cons_succ])
                        refine wpAnyH_done (by kernel_rfl) ?_ _
                        refine NoPanic.normal ?_
                        have R7x : Hid (RgAt (((((((((W5.setCell ⟨wc.heap.size, 0, none⟩ (.int .u8 s.A)).setCell ⟨wc.heap.size, 1, none⟩ (.int .u8 s.B)).setCell ⟨wc.heap.size, 2, none⟩ (.int .u8 s.D)).setCell ⟨wc.heap.size, 3, none⟩ (.int .u8 s.C)).setCell ⟨wc.heap.size, 4, none⟩ (.int .u16 s.X)).setCell ⟨wc.heap.size, 5, none⟩ (.int .u16 s.Y)).setCell ⟨wc.heap.size, 6, none⟩ (.int .u16 s.U)).setCell ⟨wc.heap.size, 7, none⟩ (.int .u16 s.S)).setCell ⟨wc.heap.size, 8, none⟩ (.int .u16 s.P)) wc.heap.size 24 s) := Lib.hid (st9_at R6x.out s)
                        have HG7 : Hid (WT.grownBy (((((((((W5.setCell ⟨wc.heap.size, 0, none⟩ (.int .u8 s.A)).setCell ⟨wc.heap.size, 1, none⟩ (.int .u8 s.B)).setCell ⟨wc.heap.size, 2, none⟩ (.int .u8 s.D)).setCell ⟨wc.heap.size, 3, none⟩ (.int .u8 s.C)).setCell ⟨wc.heap.size, 4, none⟩ (.int .u16 s.X)).setCell ⟨wc.heap.size, 5, none⟩ (.int .u16 s.Y)).setCell ⟨wc.heap.size, 6, none⟩ (.int .u16 s.U)).setCell ⟨wc.heap.size, 7, none⟩ (.int .u16 s.S)).setCell ⟨wc.heap.size, 8, none⟩ (.int .u16 s.P)) (some wc.heap.size)) := Lib.hid (World.grownBy.trans HG6.out (st9_grown W5 wc.heap.size s))
                        clear z0 z1 z2 z3 z4 z5 z6 z7 z8 f0 f1 f2 f3 f4 f5 f6 f7 f8 R6x HG6 s0 s1 s2 s3 s4 s5 s6 s7 s8
                        generalize ((((((((W5.setCell ⟨wc.heap.size, 0, none⟩ (.int .u8 s.A)).setCell ⟨wc.heap.size, 1, none⟩ (.int .u8 s.B)).setCell ⟨wc.heap.size, 2, none⟩ (.int .u8 s.D)).setCell ⟨wc.heap.size, 3, none⟩ (.int .u8 s.C)).setCell ⟨wc.heap.size, 4, none⟩ (.int .u16 s.X)).setCell ⟨wc.heap.size, 5, none⟩ (.int .u16 s.Y)).setCell ⟨wc.heap.size, 6, none⟩ (.int .u16 s.U)).setCell ⟨wc.heap.size, 7, none⟩ (.int .u16 s.S)).setCell ⟨wc.heap.size, 8, none⟩ (.int .u16 s.P) = W9x at R7x HG7 ⊢
                        have R9x : Hid (RgAt W9x wc.heap.size 24 (wF r l2 bs (i + 1))) := Lib.hid (by rw [HSs.out]; exact R7x.out)
                        clear R7x d0 d1 d2
                        go_wp2
                        refine ⟨⟨i + 1, by omega, by go_num, R9x, HG7⟩, ?_⟩
                        simp [intOf]; omega
                      exact AllReadyH.nil
                    refine AllReadyH.cons (o := ({ dst := some 142, op := Op.load 5 (Operand.tmp 141), type := 5, pos := "law.go:69", after := #[{ on := 7, ground := Ground.data }], guard := none } : Oper)) rfl (fun K hK => ?_) ?_
                    · go_simp
                      first | (refine hK.out _ _ ?_ (fun hH1 => ?_)) | (go_wp2_with fail; refine hK.out _ _ ?_ (fun hH1 => ?_))
                      · trivial
                      clear hK K hH0
                      (try simp only [Act.put, List.setIfInBounds_toArray, List.set_cons_zero, List.set_cons_succ])
                      refine wpAnyH_ready (rs := [0, 4]) (by kernel_rfl) (by simp) ?_
                      refine AllReadyH.cons (o := ({ dst := some 134, op := Op.load 24 (Operand.tmp 16), type := 24, pos := "law.go:69", after := #[], guard := none } : Oper)) rfl (fun K hK => ?_) ?_
                      · go_simp
                        first | (refine hK.out _ _ ?_ (fun hH2 => ?_)) | (go_wp2_with fail; refine hK.out _ _ ?_ (fun hH2 => ?_))
                        · trivial
                        clear hK K hH1
                        (try simp only [Act.put, List.setIfInBounds_toArray, List.set_cons_zero, List.set_cons_succ])
                        refine wpAnyH_ready (rs := [4]) (by kernel_rfl) (by simp) ?_
                        refine AllReadyH.cons (o := ({ dst := some 138, op := Op.load 34 (Operand.tmp 137), type := 34, pos := "law.go:69", after := #[{ on := 3, ground := Ground.data }], guard := none } : Oper)) rfl (fun K hK => ?_) ?_
                        rotate_left 1
                        · exact AllReadyH.nil
                        go_simp
                        first | (refine hK.out _ _ ?_ (fun hH3 => ?_)) | (go_wp2_with fail; refine hK.out _ _ ?_ (fun hH3 => ?_))
                        · trivial
                        clear hK K hH2
                        (try simp only [Act.put, List.setIfInBounds_toArray, List.set_cons_zero, List.set_cons_succ])
                        refine wpAnyH_ready (rs := [9]) (by kernel_rfl) (by simp) ?_
                        refine AllReadyH.cons (o := ({ dst := some 143, op := Op.call { callee := Callee.value (Operand.func 15), args := #[Operand.tmp 134, Operand.tmp 138, Operand.tmp 142], argTypes := #[24, 34, 5] }, type := 24, pos := "law.go:69", after := #[{ on := 0, ground := Ground.data }, { on := 4, ground := Ground.data }, { on := 8, ground := Ground.data }], guard := none } : Oper)) rfl (fun K hK => ?_) ?_
                        rotate_left 1
                        · exact AllReadyH.nil
                        go_simp
                        go_at_call 15
                        ((with_reducible refine (CW.out _).mono ?_); rintro e W5 ⟨rfl, hb5⟩; have R6x := Lib.hid (RgAt.below (w := wr.drew) (show RgAt wr.drew wc.heap.size 24 qq from HRg.out) hb5 HRg.out.lt); have HG6 := Lib.hid (World.grownBy.trans HG.out (show wr.grownBy W5 (some wc.heap.size) from ⟨hb5.os, hb5.tape, hb5.output, hb5.size, fun j hj _ => hb5.block j hj⟩)); obtain ⟨z0, z1, z2, z3, z4, z5, z6, z7, z8⟩ := R6x.out.cells; obtain ⟨f0, f1, f2, f3, f4, f5, f6, f7, f8⟩ := R6x.out.frz; clear hb5)
                        first | (refine hK.out _ _ ?_ (fun hH4 => ?_)) | (go_wp2_with fail; refine hK.out _ _ ?_ (fun hH4 => ?_))
                        · trivial
                        clear hK K hH3
                        (try simp only [Act.put, List.setIfInBounds_toArray, List.set_cons_zero, List.set_cons_succ])
                        refine wpAnyH_ready (rs := [10]) (by kernel_rfl) (by simp) ?_
                        refine AllReadyH.cons (o := ({ dst := none, op := Op.store 24 (Operand.tmp 16) (Operand.tmp 143), type := 0, pos := "law.go:69", after := #[{ on := 9, ground := Ground.data }, { on := 9, ground := Ground.chain }, { on := 0, ground := Ground.phase }, { on := 1, ground := Ground.phase }, { on := 2, ground := Ground.phase }, { on := 3, ground := Ground.phase }, { on := 4, ground := Ground.phase }, { on := 5, ground := Ground.phase }, { on := 6, ground := Ground.phase }, { on := 7, ground := Ground.phase }, { on := 8, ground := Ground.phase }, { on := 9, ground := Ground.phase }], guard := none } : Oper)) rfl (fun K hK => ?_) ?_
                        rotate_left 1
                        · exact AllReadyH.nil
                        go_simp
                        first | (refine hK.out _ _ ?_ (fun hH5 => ?_)) | (go_wp2_with fail; refine hK.out _ _ ?_ (fun hH5 => ?_))
                        · trivial
                        clear hK K hH4
                        (try simp only [Act.put, List.setIfInBounds_toArray, List.set_cons_zero, List.set_cons_succ])
                        refine wpAnyH_done (by kernel_rfl) ?_ _
                        refine NoPanic.normal ?_
                        have R7x : Hid (RgAt (((((((((W5.setCell ⟨wc.heap.size, 0, none⟩ (.int .u8 s.A)).setCell ⟨wc.heap.size, 1, none⟩ (.int .u8 s.B)).setCell ⟨wc.heap.size, 2, none⟩ (.int .u8 s.D)).setCell ⟨wc.heap.size, 3, none⟩ (.int .u8 s.C)).setCell ⟨wc.heap.size, 4, none⟩ (.int .u16 s.X)).setCell ⟨wc.heap.size, 5, none⟩ (.int .u16 s.Y)).setCell ⟨wc.heap.size, 6, none⟩ (.int .u16 s.U)).setCell ⟨wc.heap.size, 7, none⟩ (.int .u16 s.S)).setCell ⟨wc.heap.size, 8, none⟩ (.int .u16 s.P)) wc.heap.size 24 s) := Lib.hid (st9_at R6x.out s)
                        have HG7 : Hid (WT.grownBy (((((((((W5.setCell ⟨wc.heap.size, 0, none⟩ (.int .u8 s.A)).setCell ⟨wc.heap.size, 1, none⟩ (.int .u8 s.B)).setCell ⟨wc.heap.size, 2, none⟩ (.int .u8 s.D)).setCell ⟨wc.heap.size, 3, none⟩ (.int .u8 s.C)).setCell ⟨wc.heap.size, 4, none⟩ (.int .u16 s.X)).setCell ⟨wc.heap.size, 5, none⟩ (.int .u16 s.Y)).setCell ⟨wc.heap.size, 6, none⟩ (.int .u16 s.U)).setCell ⟨wc.heap.size, 7, none⟩ (.int .u16 s.S)).setCell ⟨wc.heap.size, 8, none⟩ (.int .u16 s.P)) (some wc.heap.size)) := Lib.hid (World.grownBy.trans HG6.out (st9_grown W5 wc.heap.size s))
                        clear z0 z1 z2 z3 z4 z5 z6 z7 z8 f0 f1 f2 f3 f4 f5 f6 f7 f8 R6x HG6 s0 s1 s2 s3 s4 s5 s6 s7 s8
                        generalize ((((((((W5.setCell ⟨wc.heap.size, 0, none⟩ (.int .u8 s.A)).setCell ⟨wc.heap.size, 1, none⟩ (.int .u8 s.B)).setCell ⟨wc.heap.size, 2, none⟩ (.int .u8 s.D)).setCell ⟨wc.heap.size, 3, none⟩ (.int .u8 s.C)).setCell ⟨wc.heap.size, 4, none⟩ (.int .u16 s.X)).setCell ⟨wc.heap.size, 5, none⟩ (.int .u16 s.Y)).setCell ⟨wc.heap.size, 6, none⟩ (.int .u16 s.U)).setCell ⟨wc.heap.size, 7, none⟩ (.int .u16 s.S)).setCell ⟨wc.heap.size, 8, none⟩ (.int .u16 s.P) = W9x at R7x HG7 ⊢
                        have R9x : Hid (RgAt W9x wc.heap.size 24 (wF r l2 bs (i + 1))) := Lib.hid (by rw [HSs.out]; exact R7x.out)
                        clear R7x d0 d1 d2
                        go_wp2
                        refine ⟨⟨i + 1, by omega, by go_num, R9x, HG7⟩, ?_⟩
                        simp [intOf]; omega
                      refine AllReadyH.cons (o := ({ dst := some 138, op := Op.load 34 (Operand.tmp 137), type := 34, pos := "law.go:69", after := #[{ on := 3, ground := Ground.data }], guard := none } : Oper)) rfl (fun K hK => ?_) ?_
                      · go_simp
                        first | (refine hK.out _ _ ?_ (fun hH2 => ?_)) | (go_wp2_with fail; refine hK.out _ _ ?_ (fun hH2 => ?_))
                        · trivial
                        clear hK K hH1
                        (try simp only [Act.put, List.setIfInBounds_toArray, List.set_cons_zero, List.set_cons_succ])
                        refine wpAnyH_ready (rs := [0]) (by kernel_rfl) (by simp) ?_
                        refine AllReadyH.cons (o := ({ dst := some 134, op := Op.load 24 (Operand.tmp 16), type := 24, pos := "law.go:69", after := #[], guard := none } : Oper)) rfl (fun K hK => ?_) ?_
                        rotate_left 1
                        · exact AllReadyH.nil
                        go_simp
                        first | (refine hK.out _ _ ?_ (fun hH3 => ?_)) | (go_wp2_with fail; refine hK.out _ _ ?_ (fun hH3 => ?_))
                        · trivial
                        clear hK K hH2
                        (try simp only [Act.put, List.setIfInBounds_toArray, List.set_cons_zero, List.set_cons_succ])
                        refine wpAnyH_ready (rs := [9]) (by kernel_rfl) (by simp) ?_
                        refine AllReadyH.cons (o := ({ dst := some 143, op := Op.call { callee := Callee.value (Operand.func 15), args := #[Operand.tmp 134, Operand.tmp 138, Operand.tmp 142], argTypes := #[24, 34, 5] }, type := 24, pos := "law.go:69", after := #[{ on := 0, ground := Ground.data }, { on := 4, ground := Ground.data }, { on := 8, ground := Ground.data }], guard := none } : Oper)) rfl (fun K hK => ?_) ?_
                        rotate_left 1
                        · exact AllReadyH.nil
                        go_simp
                        go_at_call 15
                        ((with_reducible refine (CW.out _).mono ?_); rintro e W5 ⟨rfl, hb5⟩; have R6x := Lib.hid (RgAt.below (w := wr.drew) (show RgAt wr.drew wc.heap.size 24 qq from HRg.out) hb5 HRg.out.lt); have HG6 := Lib.hid (World.grownBy.trans HG.out (show wr.grownBy W5 (some wc.heap.size) from ⟨hb5.os, hb5.tape, hb5.output, hb5.size, fun j hj _ => hb5.block j hj⟩)); obtain ⟨z0, z1, z2, z3, z4, z5, z6, z7, z8⟩ := R6x.out.cells; obtain ⟨f0, f1, f2, f3, f4, f5, f6, f7, f8⟩ := R6x.out.frz; clear hb5)
                        first | (refine hK.out _ _ ?_ (fun hH4 => ?_)) | (go_wp2_with fail; refine hK.out _ _ ?_ (fun hH4 => ?_))
                        · trivial
                        clear hK K hH3
                        (try simp only [Act.put, List.setIfInBounds_toArray, List.set_cons_zero, List.set_cons_succ])
                        refine wpAnyH_ready (rs := [10]) (by kernel_rfl) (by simp) ?_
                        refine AllReadyH.cons (o := ({ dst := none, op := Op.store 24 (Operand.tmp 16) (Operand.tmp 143), type := 0, pos := "law.go:69", after := #[{ on := 9, ground := Ground.data }, { on := 9, ground := Ground.chain }, { on := 0, ground := Ground.phase }, { on := 1, ground := Ground.phase }, { on := 2, ground := Ground.phase }, { on := 3, ground := Ground.phase }, { on := 4, ground := Ground.phase }, { on := 5, ground := Ground.phase }, { on := 6, ground := Ground.phase }, { on := 7, ground := Ground.phase }, { on := 8, ground := Ground.phase }, { on := 9, ground := Ground.phase }], guard := none } : Oper)) rfl (fun K hK => ?_) ?_
                        rotate_left 1
                        · exact AllReadyH.nil
                        go_simp
                        first | (refine hK.out _ _ ?_ (fun hH5 => ?_)) | (go_wp2_with fail; refine hK.out _ _ ?_ (fun hH5 => ?_))
                        · trivial
                        clear hK K hH4
                        (try simp only [Act.put, List.setIfInBounds_toArray, List.set_cons_zero, List.set_cons_succ])
                        refine wpAnyH_done (by kernel_rfl) ?_ _
                        refine NoPanic.normal ?_
                        have R7x : Hid (RgAt (((((((((W5.setCell ⟨wc.heap.size, 0, none⟩ (.int .u8 s.A)).setCell ⟨wc.heap.size, 1, none⟩ (.int .u8 s.B)).setCell ⟨wc.heap.size, 2, none⟩ (.int .u8 s.D)).setCell ⟨wc.heap.size, 3, none⟩ (.int .u8 s.C)).setCell ⟨wc.heap.size, 4, none⟩ (.int .u16 s.X)).setCell ⟨wc.heap.size, 5, none⟩ (.int .u16 s.Y)).setCell ⟨wc.heap.size, 6, none⟩ (.int .u16 s.U)).setCell ⟨wc.heap.size, 7, none⟩ (.int .u16 s.S)).setCell ⟨wc.heap.size, 8, none⟩ (.int .u16 s.P)) wc.heap.size 24 s) := Lib.hid (st9_at R6x.out s)
                        have HG7 : Hid (WT.grownBy (((((((((W5.setCell ⟨wc.heap.size, 0, none⟩ (.int .u8 s.A)).setCell ⟨wc.heap.size, 1, none⟩ (.int .u8 s.B)).setCell ⟨wc.heap.size, 2, none⟩ (.int .u8 s.D)).setCell ⟨wc.heap.size, 3, none⟩ (.int .u8 s.C)).setCell ⟨wc.heap.size, 4, none⟩ (.int .u16 s.X)).setCell ⟨wc.heap.size, 5, none⟩ (.int .u16 s.Y)).setCell ⟨wc.heap.size, 6, none⟩ (.int .u16 s.U)).setCell ⟨wc.heap.size, 7, none⟩ (.int .u16 s.S)).setCell ⟨wc.heap.size, 8, none⟩ (.int .u16 s.P)) (some wc.heap.size)) := Lib.hid (World.grownBy.trans HG6.out (st9_grown W5 wc.heap.size s))
                        clear z0 z1 z2 z3 z4 z5 z6 z7 z8 f0 f1 f2 f3 f4 f5 f6 f7 f8 R6x HG6 s0 s1 s2 s3 s4 s5 s6 s7 s8
                        generalize ((((((((W5.setCell ⟨wc.heap.size, 0, none⟩ (.int .u8 s.A)).setCell ⟨wc.heap.size, 1, none⟩ (.int .u8 s.B)).setCell ⟨wc.heap.size, 2, none⟩ (.int .u8 s.D)).setCell ⟨wc.heap.size, 3, none⟩ (.int .u8 s.C)).setCell ⟨wc.heap.size, 4, none⟩ (.int .u16 s.X)).setCell ⟨wc.heap.size, 5, none⟩ (.int .u16 s.Y)).setCell ⟨wc.heap.size, 6, none⟩ (.int .u16 s.U)).setCell ⟨wc.heap.size, 7, none⟩ (.int .u16 s.S)).setCell ⟨wc.heap.size, 8, none⟩ (.int .u16 s.P) = W9x at R7x HG7 ⊢
                        have R9x : Hid (RgAt W9x wc.heap.size 24 (wF r l2 bs (i + 1))) := Lib.hid (by rw [HSs.out]; exact R7x.out)
                        clear R7x d0 d1 d2
                        go_wp2
                        refine ⟨⟨i + 1, by omega, by go_num, R9x, HG7⟩, ?_⟩
                        simp [intOf]; omega
                      exact AllReadyH.nil
                    exact AllReadyH.nil
                  · have hin : i = n := by omega
                    subst hin
                    have HOKk := HOK.out i (Nat.le_refl _)
                    obtain ⟨qq, hqq⟩ : ∃ qq, wF r l2 bs i = qq := ⟨_, rfl⟩
                    rw [hqq] at HRg HOKk HQ2
                    have u0 := HOKk.s0
                    have u1 := HOKk.s1
                    obtain ⟨s0, s1, s2, s3, s4, s5, s6, s7, s8⟩ := RgAt.cells HRg.out
                    have fs := HRg.out.frozen 7
                    have tw1 : IntKind.u16.wrap (i : Int) = (i : Int) := by rw [IntKind.wrap_u16]; omega
                    have tw2 : IntKind.u16.wrap (qq.S + (i : Int)) = (qq.S + (i : Int)) % 65536 := by rw [IntKind.wrap_u16]
                    have TF' : Hid (RgAt (wr.setCell ⟨wc.heap.size, 7, none⟩ (.int .u16 ((qq.S + (i : Int)) % 65536))) wc.heap.size 24 (mvS qq i)) := Lib.hid (Blk.set_ HRg.out 7 _)
                    have G11 := Lib.hid (World.grownBy.trans HG.out (grown_cell wr wc.heap.size 7 (.int .u16 ((qq.S + (i : Int)) % 65536))))
                    go_upto_region 33 with (fail)
                    generalize wr.setCell ⟨wc.heap.size, 7, none⟩ (.int .u16 ((qq.S + (i : Int)) % 65536)) = WF at TF' G11 ⊢
                    have TF : Hid (RgAt WF wc.heap.size 24 q) := Lib.hid (by rw [HQ2.out]; exact TF'.out)
                    clear HRg HG HOKk TF' s0 s1 s2 s3 s4 s5 s6 s7 s8 fs tw1 tw2 HQ2
                    have hgt := S9.out
                    have BF := Lib.hid (Below.trans BT.out (below_own (base := w.heap.size) G11.out (by intro g e; simp at e; omega) BT.out.size))
                    have RF := Lib.hid (RgAt.grown RT.out G11.out (by simp; omega))
                    have EF := Lib.hid (Blk.grown ET.out G11.out (by simp; omega))
                    have KF := Lib.hid (RgAt.grown KT.out G11.out (by simp; omega))
                    have IF := Lib.hid (Ints.keep (B' := WF.heap.size) IT.out (by have := XS.out; have := G11.out.size; omega) (fun b o hlt => G11.out.cell_far ⟨b, o, none⟩ (by show b < WT.heap.size; have := XS.out; omega) (by simp; omega)))
                    clear G11 RT ET KT IT BT hgt
                    obtain ⟨r0, r1, r2, r3, r4, r5, r6, r7, r8⟩ := RF.out.cells
                    obtain ⟨⟨e0, e1, e2, e3⟩, -⟩ := EF.out.b4
                    go_wp2_with fail
                    refine (CBy.out _ (HT.out.below BF.out)).mono ?_
                    rintro e V1 ⟨v8, rfl, ho, hb⟩
                    obtain ⟨A12, c12, rfl, hI12⟩ := ho.ints HYW.out
                    have BV := Lib.hid (Below.trans0 BF.out hb)
                    have KV := Lib.hid (RgAt.below KF.out hb KF.out.lt)
                    have TV := Lib.hid (RgAt.below TF.out hb TF.out.lt)
                    have CE := Lib.hid (bytesEqual_any A12 A11 YL.length c12 YL.length c11 YL YL _ _ V1 hI12 (Ints.below IF.out hb.size hb))
                    rw [show (YL == YL) = true by simp] at CE
                    clear hb ho hI12 r0 r1 r2 r3 r4 r5 r6 r7 r8 e0 e1 e2 e3
                    obtain ⟨r0, r1, r2, r3, r4, r5, r6, r7, r8⟩ := KV.out.cells
                    obtain ⟨s0, s1, s2, s3, s4, s5, s6, s7, s8⟩ := TV.out.cells
                    have HE := eql_rgF q
                    go_wp2_with fail
                    refine CE.out.mono ?_
                    rintro e w' ⟨rfl, rfl⟩
                    go_wp2_with fail
                    refine (alive25 _).mono ?_
                    rintro e V2 ⟨rfl, hb⟩
                    have BV2 := Lib.hid (Below.trans0 BV.out hb)
                    clear hb
                    go_wp2
                    go_ret
                    exact ⟨rfl, BV2.out⟩
              · have hq0 : q = zeroRg := by rw [HQ1.out, if_neg (by omega)]
                have he0 : ec = 12 := by rw [HE1.out, if_neg (by omega), if_pos h]
                subst hq0 he0
                have n0 : ((n : Int) == (M : Int)) = false := by simp; omega
                have n1 : ((M : Int) == (n : Int)) = false := by simp; omega
                have tM : (0 : Int) < (M : Int) := by have := HMb.out; omega
                have tw1 : IntKind.u16.wrap (M : Int) = (M : Int) := by rw [IntKind.wrap_u16]; have := HMb.out; omega
                obtain ⟨t0, t1, t2, t3, t4, t5, t6, t7, t8⟩ := TT.out.cells
                have ft := TT.out.frozen 7
                have hz1 : ¬ n < M := by omega
                go_wp2
                go_loopw [18] (fun u18 wr => u18 = .int .i64 0 ∧ wr = WT) (fun _ _ => 0)
                case atStart => exact ⟨rfl, rfl⟩
                case round =>
                  obtain ⟨rfl, hwr⟩ := hrel
                  have hwr' := hwr.symm
                  clear hwr
                  subst hwr'
                  have hM0 : 0 < M := HMb.out.1
                  have hM1 : decide (0 < M) = true := by simpa using hM0
                  have n2 : (n == M) = false := by simp; omega
                  have n3 : ¬ n = M := by omega
                  go_upto_region 28 with (fail)
                  have tw2 : IntKind.u16.wrap (r.S + (M : Int)) = (r.S + (M : Int)) % 65536 := by rw [IntKind.wrap_u16]
                  have T10 := Lib.hid (Blk.set_ TT.out 7 (.int .u16 ((r.S + (M : Int)) % 65536)))
                  have T10' : Hid (RgAt (WT.setCell ⟨wc.heap.size, 7, none⟩ (.int .u16 ((r.S + (M : Int)) % 65536))) wc.heap.size 24 (mvS r M)) := T10
                  obtain ⟨a0, a1, a2, a3, a4, a5, a6, a7, a8⟩ := T10'.out.cells
                  obtain ⟨f0, f1, f2, f3, f4, f5, f6, f7, f8⟩ := T10'.out.frz
                  have G10 := Lib.hid (grown_cell WT wc.heap.size 7 (.int .u16 ((r.S + (M : Int)) % 65536)))
                  have T11 : Hid (RgAt ((((((((((WT.setCell ⟨wc.heap.size, 7, none⟩ (.int .u16 ((r.S + (M : Int)) % 65536))).setCell ⟨wc.heap.size, 0, none⟩ (.int .u8 0)).setCell ⟨wc.heap.size, 1, none⟩ (.int .u8 0)).setCell ⟨wc.heap.size, 2, none⟩ (.int .u8 0)).setCell ⟨wc.heap.size, 3, none⟩ (.int .u8 0)).setCell ⟨wc.heap.size, 4, none⟩ (.int .u16 0)).setCell ⟨wc.heap.size, 5, none⟩ (.int .u16 0)).setCell ⟨wc.heap.size, 6, none⟩ (.int .u16 0)).setCell ⟨wc.heap.size, 7, none⟩ (.int .u16 0)).setCell ⟨wc.heap.size, 8, none⟩ (.int .u16 0)) wc.heap.size 24 zeroRg) := Lib.hid (st9_at T10'.out zeroRg)
                  have G11 : Hid (WT.grownBy ((((((((((WT.setCell ⟨wc.heap.size, 7, none⟩ (.int .u16 ((r.S + (M : Int)) % 65536))).setCell ⟨wc.heap.size, 0, none⟩ (.int .u8 0)).setCell ⟨wc.heap.size, 1, none⟩ (.int .u8 0)).setCell ⟨wc.heap.size, 2, none⟩ (.int .u8 0)).setCell ⟨wc.heap.size, 3, none⟩ (.int .u8 0)).setCell ⟨wc.heap.size, 4, none⟩ (.int .u16 0)).setCell ⟨wc.heap.size, 5, none⟩ (.int .u16 0)).setCell ⟨wc.heap.size, 6, none⟩ (.int .u16 0)).setCell ⟨wc.heap.size, 7, none⟩ (.int .u16 0)).setCell ⟨wc.heap.size, 8, none⟩ (.int .u16 0)) (some wc.heap.size)) := Lib.hid (World.grownBy.trans G10.out (st9_grown (WT.setCell ⟨wc.heap.size, 7, none⟩ (.int .u16 ((r.S + (M : Int)) % 65536))) wc.heap.size zeroRg))
                  clear T10 T10' G10
                  go_upto_region 32 with (fail)
                  go_upto_region 33 with (fail)
                  generalize (((((((((WT.setCell ⟨wc.heap.size, 7, none⟩ (.int .u16 ((r.S + (M : Int)) % 65536))).setCell ⟨wc.heap.size, 0, none⟩ (.int .u8 0)).setCell ⟨wc.heap.size, 1, none⟩ (.int .u8 0)).setCell ⟨wc.heap.size, 2, none⟩ (.int .u8 0)).setCell ⟨wc.heap.size, 3, none⟩ (.int .u8 0)).setCell ⟨wc.heap.size, 4, none⟩ (.int .u16 0)).setCell ⟨wc.heap.size, 5, none⟩ (.int .u16 0)).setCell ⟨wc.heap.size, 6, none⟩ (.int .u16 0)).setCell ⟨wc.heap.size, 7, none⟩ (.int .u16 0)).setCell ⟨wc.heap.size, 8, none⟩ (.int .u16 0) = WF at T11 G11 ⊢
                  clear a0 a1 a2 a3 a4 a5 a6 a7 a8 f0 f1 f2 f3 f4 f5 f6 f7 f8 t0 t1 t2 t3 t4 t5 t6 t7 t8 ft tw2
                  have hgt := S9.out
                  have BF := Lib.hid (Below.trans BT.out (below_own (base := w.heap.size) G11.out (by intro g e; simp at e; omega) BT.out.size))
                  have RF := Lib.hid (RgAt.grown RT.out G11.out (by simp; omega))
                  have EF := Lib.hid (Blk.grown ET.out G11.out (by simp; omega))
                  have KF := Lib.hid (RgAt.grown KT.out G11.out (by simp; omega))
                  have TF := T11
                  have IF := Lib.hid (Ints.keep (B' := WF.heap.size) IT.out (by have := XS.out; have := G11.out.size; omega) (fun b o hlt => G11.out.cell_far ⟨b, o, none⟩ (by show b < WT.heap.size; have := XS.out; omega) (by simp; omega)))
                  clear T11 G11 RT ET KT IT BT hgt
                  obtain ⟨r0, r1, r2, r3, r4, r5, r6, r7, r8⟩ := RF.out.cells
                  obtain ⟨⟨e0, e1, e2, e3⟩, -⟩ := EF.out.b4
                  go_wp2_with fail
                  refine (CBy.out _ (HT.out.below BF.out)).mono ?_
                  rintro e V1 ⟨v8, rfl, ho, hb⟩
                  obtain ⟨A12, c12, rfl, hI12⟩ := ho.ints HYW.out
                  have BV := Lib.hid (Below.trans0 BF.out hb)
                  have KV := Lib.hid (RgAt.below KF.out hb KF.out.lt)
                  have TV := Lib.hid (RgAt.below TF.out hb TF.out.lt)
                  have CE := Lib.hid (bytesEqual_any A12 A11 YL.length c12 YL.length c11 YL YL _ _ V1 hI12 (Ints.below IF.out hb.size hb))
                  rw [show (YL == YL) = true by simp] at CE
                  clear hb ho hI12 r0 r1 r2 r3 r4 r5 r6 r7 r8 e0 e1 e2 e3
                  obtain ⟨r0, r1, r2, r3, r4, r5, r6, r7, r8⟩ := KV.out.cells
                  obtain ⟨s0, s1, s2, s3, s4, s5, s6, s7, s8⟩ := TV.out.cells
                  have HE := eql_rgF zeroRg
                  go_wp2_with fail
                  refine CE.out.mono ?_
                  rintro e w' ⟨rfl, rfl⟩
                  go_wp2_with fail
                  refine (alive25 _).mono ?_
                  rintro e V2 ⟨rfl, hb⟩
                  have BV2 := Lib.hid (Below.trans0 BV.out hb)
                  clear hb
                  go_wp2
                  go_ret
                  exact ⟨rfl, BV2.out⟩
  · go_enter Tryd.func3, Tryd.ntmps3
    go_wp2
    go_ret
    exact ⟨rfl, by repeat (first | exact Below.refl _ _ | apply Below.alloc0)⟩
end Go.Proofs.YtfjkbjkbpbnalabDoor
