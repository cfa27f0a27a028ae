/- The law IndexInsts, over numbers. -/
import Derived.Test.YtoogaenknjdpcacDoorIdxJ
import Derived.Test.YtoogaenknjdpcacDoorInsO
namespace Go.Proofs.YtoogaenknjdpcacDoor
open Go.ChangeShapes Go.WideShapes Go.ChangeAt Go.RowKit
set_option linter.unusedVariables false

theorem inst_pair (p c o m q va ln at_ : Int) (b : Nat) (hb : b < 256) (r : Rg) (hr : r.Ok) (v0 : 0 ≤ va) (v1 : va < 65536) : ∃ (x : Int) (R : Rg) (k : Bool),
    (∀ u, KindsAt u → Calls Tryd.prog 23 #[.agg #[.int .i64 p, .int .u8 c, .int .i64 o, .int .i64 m, .int .i64 q, .int .u8 (b : Int), .int .u16 va, .int .i64 ln], .agg r.cells, .int .u16 at_] u fun e w' => e = .returned (.tuple #[.int .u16 x, .agg R.cells, .bool k]) ∧ Below u.heap.size u w') ∧
    (∀ u, Calls Tryd.prog 24 #[.agg #[.int .i64 p, .int .u8 c, .int .i64 o, .int .i64 m, .int .i64 q, .int .u8 (b : Int), .int .u16 va, .int .i64 ln], .agg r.cells, .int .u16 at_] u fun e w' => e = .returned (.tuple #[.int .u16 x, .agg R.cells, .bool k]) ∧ Below u.heap.size u w') := by
  by_cases h3 : m = 3
  · subst h3
    exact ⟨_, _, _, fun u _ => inA_3 p c o q va ln at_ b hb r hr v0 v1 u, fun u => inF_3 p c o q va ln at_ b hb r hr v0 v1 u⟩
  by_cases h5 : m = 5
  · subst h5
    exact ⟨_, _, _, fun u _ => inA_5 p c o q va ln at_ b hb r hr v0 v1 u, fun u => inF_5 p c o q va ln at_ b hb r hr v0 v1 u⟩
  by_cases h4 : m = 4
  · subst h4
    exact ⟨_, _, _, fun u hT => inA_4 p c o q va ln at_ b hb r hr v0 v1 u hT, fun u => inF_4 p c o q va ln at_ b hb r hr v0 v1 u⟩
  · exact ⟨_, _, _, fun u _ => inA_o p c o m q va ln at_ b hb r hr v0 v1 ⟨h3, h5, h4⟩ u, fun u => inF_o p c o m q va ln at_ b hb r hr v0 v1 ⟨h3, h5, h4⟩ u⟩
theorem inAgg_ex (xs : List Int) (h : ∀ z ∈ xs, (Lit.int .u8 z).wf = true) : ∃ (p c o m q : Int) (b : Nat) (va ln : Int), inAgg xs = #[.int .i64 p, .int .u8 c, .int .i64 o, .int .i64 m, .int .i64 q, .int .u8 (b : Int), .int .u16 va, .int .i64 ln] ∧ b < 256 ∧ 0 ≤ va ∧ va < 65536 := by
  have hp := inPo_range h
  obtain ⟨b, hbv⟩ := Int.eq_ofNat_of_zero_le hp.1
  unfold inAgg
  split
  · refine ⟨(inPg xs : Int), inCo xs, (eOp (inE xs) : Int), (eMode (inE xs) : Int), (eReg (inE xs) : Int), b, inVa xs, (inLn xs : Int), by rw [hbv], by omega, ?_, ?_⟩
    · have r1 := iat_range8' h (inL2 xs); have r2 := iat_range8' h (inL2 xs + 1)
      unfold inVa signOf
      repeat (first | omega | split)
    · have r1 := iat_range8' h (inL2 xs); have r2 := iat_range8' h (inL2 xs + 1)
      unfold inVa signOf
      repeat (first | omega | split)
  · exact ⟨_, _, _, _, _, 0, _, _, rfl, by decide, by decide, by decide⟩
set_option maxRecDepth 100000 in
set_option maxHeartbeats 4000000 in
theorem law_insts (A : Option Addr) (n cap : Nat) (xs : List Int) (r : Rg) (hr : r.Ok) (at_ : Int) (w : World) (hI : Ints .u8 w w.heap.size A n xs) (hA : A = none → n = 0 ∧ cap = 0) (hn : n ≤ 140737488351232) (hT : KindsAt w) :
    Calls Tryd.prog 6 #[.slice A n cap, .agg r.cells, .int .u16 at_] w fun e w' => e = .returned (.bool true) ∧ Below w.heap.size w w' := by
  have CO := fun u (h : Ints .u8 u u.heap.size A n xs) => of18_any A n cap xs u h hA hn
  obtain ⟨p, c, o, m, q, b, va, ln, hx, hb, v0, v1⟩ := inAgg_ex xs hI.2.1
  rw [hx] at CO
  obtain ⟨x, R, k, CA, CF⟩ := inst_pair p c o m q va ln at_ b hb r hr v0 v1
  have D1 := Lib.hid CO
  have D2 := Lib.hid CA
  have D3 := Lib.hid CF
  have HI0 := Lib.hid (show Ints .u8 (w.alloc (Obj.cells r.cells 34)) (w.alloc (Obj.cells r.cells 34)).heap.size A n xs from hI.below (by simp) (Below.alloc0 (Below.refl _ _) _))
  have HR0 := Lib.hid (show RgAt (w.alloc (.cells r.cells 34)) w.heap.size 34 r from Blk.new _ _ _ _)
  have HB0 := Lib.hid (Below.alloc0 (Below.refl w.heap.size w) (Obj.cells r.cells 34))
  have HT := Lib.hid hT
  have HL := Lib.hid (show inOk xs = true → 0 < n from fun h => by
    have := hI.1
    unfold inOk at h
    have h2 : inLn xs ≤ xs.length := by simpa using h
    have h3 : 1 ≤ inLn xs := by unfold inLn inL2 inL1; repeat (first | omega | split)
    omega)
  have HW := Lib.hid (iat_range8' hI.2.1 0)
  have HD := Lib.hid (show 0 ≤ r.D ∧ r.D < 256 from ⟨hr.d0, hr.d1⟩)
  have HX := Lib.hid hI
  obtain ⟨ok, hok⟩ : ∃ ok, inOk xs = ok := ⟨_, rfl⟩
  rw [hok] at D1 HL
  clear CO CA CF hx hI hA hT hok hr hn
  by_cases h20 : n ≤ 20 ∧ ok = true
  rotate_left
  · have hc : 20 < n ∨ (n ≤ 20 ∧ ok = false) := by
      rcases Nat.lt_or_ge 20 n with h | h
      · exact .inl h
      · exact .inr ⟨h, by cases ok; rfl; exact absurd ⟨h, rfl⟩ h20⟩
    clear h20
    rcases hc with h | ⟨h, rfl⟩
    all_goals
      go_enter Tryd.func6, Tryd.ntmps6
      go_wp2_with fail
      refine (D1.out _ HI0.out).mono ?_
      rintro e w1 ⟨rfl, hb1⟩
      have HB1 := Lib.hid (Below.alloc0 (Below.trans0 HB0.out hb1) (Obj.cells #[.int .i64 p, .int .u8 c, .int .i64 o, .int .i64 m, .int .i64 q, .int .u8 (b : Int), .int .u16 va, .int .i64 ln] 49))
      clear hb1
      go_wp2
      go_ret
      exact ⟨rfl, HB1.out⟩
  · obtain ⟨h20, rfl⟩ := h20
    have n1 : 0 < n := HL.out rfl
    obtain ⟨g, off, rfl, hg, hcell⟩ := HX.out.2.2 n1
    have c0 := hcell 0 n1
    obtain ⟨b0, hb0⟩ : ∃ b0, iat xs 0 = b0 := ⟨_, rfl⟩
    rw [hb0] at c0 HW
    obtain ⟨w0, w1'⟩ := HW.out
    obtain ⟨d0, d1⟩ := HD.out
    have CD := Lib.hid (fun u => direct_any r.D b0 u d0 d1 w0 w1')
    have HC := Lib.hid c0
    have HG := Lib.hid hg
    have EK : (k == k) = true := by simp
    have EX : (x == x) = true := by simp
    have HE := eql_rg R
    clear hcell c0 hb0 hg HL HX
    go_enter Tryd.func6, Tryd.ntmps6
    go_wp2_with fail
    refine (D1.out _ HI0.out).mono ?_
    rintro e w1 ⟨rfl, hb1⟩
    have HR1 := Lib.hid (show RgAt (w1.alloc (Obj.cells #[.int .i64 p, .int .u8 c, .int .i64 o, .int .i64 m, .int .i64 q, .int .u8 (b : Int), .int .u16 va, .int .i64 ln] 49)) w.heap.size 34 r from Blk.alloc (RgAt.below HR0.out hb1 HR0.out.lt) _)
    have HI1 := Lib.hid (show Blk (w1.alloc (Obj.cells #[.int .i64 p, .int .u8 c, .int .i64 o, .int .i64 m, .int .i64 q, .int .u8 (b : Int), .int .u16 va, .int .i64 ln] 49)) w1.heap.size 49 #[.int .i64 p, .int .u8 c, .int .i64 o, .int .i64 m, .int .i64 q, .int .u8 (b : Int), .int .u16 va, .int .i64 ln] from Blk.new _ _ _ (0, 0))
    have HB1 := Lib.hid (Below.alloc0 (Below.trans0 HB0.out hb1) (Obj.cells #[.int .i64 p, .int .u8 c, .int .i64 o, .int .i64 m, .int .i64 q, .int .u8 (b : Int), .int .u16 va, .int .i64 ln] 49))
    clear hb1 HI0 HR0 HB0 D1
    obtain ⟨r0, r1, r2, r3, r4, r5, r6, r7, r8⟩ := HR1.out.cells
    go_wp2_with fail
    refine (D2.out _ (KindsAt.below20 HT.out HB1.out)).mono ?_
    rintro e w2 ⟨rfl, hb2⟩
    have HR2 := Lib.hid (show RgAt (w2.alloc (Obj.cells R.cells 34)) w.heap.size 34 r from Blk.alloc (RgAt.below HR1.out hb2 HR1.out.lt) _)
    have HI2 := Lib.hid (show Blk (w2.alloc (Obj.cells R.cells 34)) w1.heap.size 49 #[.int .i64 p, .int .u8 c, .int .i64 o, .int .i64 m, .int .i64 q, .int .u8 (b : Int), .int .u16 va, .int .i64 ln] from Blk.alloc (Blk.below HI1.out hb2 HI1.out.lt) _)
    have HS2 := Lib.hid (show RgAt (w2.alloc (Obj.cells R.cells 34)) w2.heap.size 34 R from Blk.new _ _ _ (0, 0))
    have HB2 := Lib.hid (Below.alloc0 (Below.trans0 HB1.out hb2) (Obj.cells R.cells 34))
    clear hb2 HR1 HI1 HB1 D2 r0 r1 r2 r3 r4 r5 r6 r7 r8
    obtain ⟨r0, r1, r2, r3, r4, r5, r6, r7, r8⟩ := HR2.out.cells
    obtain ⟨i0, i1, i2, i3, i4, i5, i6, i7⟩ := Blk.c8 HI2.out
    go_wp2_with fail
    refine (D3.out _).mono ?_
    rintro e w3 ⟨rfl, hb3⟩
    have P00 := Lib.hid (show RgAt (w3.alloc (Obj.cells R.cells 34)) w.heap.size 34 r from Blk.alloc (RgAt.below HR2.out hb3 HR2.out.lt) _)
    have P10 := Lib.hid (show RgAt (w3.alloc (Obj.cells R.cells 34)) w2.heap.size 34 R from Blk.alloc (RgAt.below HS2.out hb3 HS2.out.lt) _)
    have P20 := Lib.hid (show RgAt (w3.alloc (Obj.cells R.cells 34)) w3.heap.size 34 R from Blk.new _ _ _ (0, 0))
    have B0 := Lib.hid (Below.alloc0 (Below.trans0 HB2.out hb3) (Obj.cells R.cells 34))
    clear hb3 HR2 HI2 HS2 HB2 D3 r0 r1 r2 r3 r4 r5 r6 r7 r8 i0 i1 i2 i3 i4 i5 i6 i7
    go_upto_region 6 with (fail)
    generalize w3.alloc _ = V at P00 P10 P20 B0 ⊢
    have C0 : V.drew.cell? ⟨g, off, none⟩ = some (.int .u8 b0) := (B0.out.cell (p := ⟨g, off, none⟩) HG.out).trans HC.out
    have S0 : Hid ((fun w' => w'.cell? ⟨g, off, none⟩ = some (.int .u8 b0) ∧ (w'.cell? ⟨w.heap.size, 0, none⟩ = some (.int .u8 r.A) ∧ w'.cell? ⟨w.heap.size, 1, none⟩ = some (.int .u8 r.B) ∧ w'.cell? ⟨w.heap.size, 2, none⟩ = some (.int .u8 r.D) ∧ w'.cell? ⟨w.heap.size, 3, none⟩ = some (.int .u8 r.C) ∧ w'.cell? ⟨w.heap.size, 4, none⟩ = some (.int .u16 r.X) ∧ w'.cell? ⟨w.heap.size, 5, none⟩ = some (.int .u16 r.Y) ∧ w'.cell? ⟨w.heap.size, 6, none⟩ = some (.int .u16 r.U) ∧ w'.cell? ⟨w.heap.size, 7, none⟩ = some (.int .u16 r.S) ∧ w'.cell? ⟨w.heap.size, 8, none⟩ = some (.int .u16 r.P)) ∧ (w'.cell? ⟨w2.heap.size, 0, none⟩ = some (.int .u8 R.A) ∧ w'.cell? ⟨w2.heap.size, 1, none⟩ = some (.int .u8 R.B) ∧ w'.cell? ⟨w2.heap.size, 2, none⟩ = some (.int .u8 R.D) ∧ w'.cell? ⟨w2.heap.size, 3, none⟩ = some (.int .u8 R.C) ∧ w'.cell? ⟨w2.heap.size, 4, none⟩ = some (.int .u16 R.X) ∧ w'.cell? ⟨w2.heap.size, 5, none⟩ = some (.int .u16 R.Y) ∧ w'.cell? ⟨w2.heap.size, 6, none⟩ = some (.int .u16 R.U) ∧ w'.cell? ⟨w2.heap.size, 7, none⟩ = some (.int .u16 R.S) ∧ w'.cell? ⟨w2.heap.size, 8, none⟩ = some (.int .u16 R.P)) ∧ (w'.cell? ⟨w3.heap.size, 0, none⟩ = some (.int .u8 R.A) ∧ w'.cell? ⟨w3.heap.size, 1, none⟩ = some (.int .u8 R.B) ∧ w'.cell? ⟨w3.heap.size, 2, none⟩ = some (.int .u8 R.D) ∧ w'.cell? ⟨w3.heap.size, 3, none⟩ = some (.int .u8 R.C) ∧ w'.cell? ⟨w3.heap.size, 4, none⟩ = some (.int .u16 R.X) ∧ w'.cell? ⟨w3.heap.size, 5, none⟩ = some (.int .u16 R.Y) ∧ w'.cell? ⟨w3.heap.size, 6, none⟩ = some (.int .u16 R.U) ∧ w'.cell? ⟨w3.heap.size, 7, none⟩ = some (.int .u16 R.S) ∧ w'.cell? ⟨w3.heap.size, 8, none⟩ = some (.int .u16 R.P))) V.drew) := Lib.hid ⟨C0, RgAt.cells (show RgAt V.drew w.heap.size 34 r from Blk.drew P00.out), RgAt.cells (show RgAt V.drew w2.heap.size 34 R from Blk.drew P10.out), RgAt.cells (show RgAt V.drew w3.heap.size 34 R from Blk.drew P20.out)⟩
    have t0 : IntKind.u16.wrap r.D = r.D := by rw [IntKind.wrap_u16]; omega
    have t1 : IntKind.u16.wrap (r.D * 256) = r.D * 256 := by rw [IntKind.wrap_u16]; omega
    have t2 : IntKind.u16.wrap b0 = b0 := by rw [IntKind.wrap_u16]; omega
    have t3 : IntKind.u16.wrap (r.D * 256 + b0) = 256 * r.D + b0 := by rw [IntKind.wrap_u16]; omega
    have ED : (256 * r.D + b0 == 256 * r.D + b0) = true := by simp
    have n0 : (0 : Int) < (n : Int) := by omega
    clear C0
    refine wp_region_noPanic ?_
    refine wp_region_held_drew (S := (fun w' => w'.cell? ⟨g, off, none⟩ = some (.int .u8 b0) ∧ (w'.cell? ⟨w.heap.size, 0, none⟩ = some (.int .u8 r.A) ∧ w'.cell? ⟨w.heap.size, 1, none⟩ = some (.int .u8 r.B) ∧ w'.cell? ⟨w.heap.size, 2, none⟩ = some (.int .u8 r.D) ∧ w'.cell? ⟨w.heap.size, 3, none⟩ = some (.int .u8 r.C) ∧ w'.cell? ⟨w.heap.size, 4, none⟩ = some (.int .u16 r.X) ∧ w'.cell? ⟨w.heap.size, 5, none⟩ = some (.int .u16 r.Y) ∧ w'.cell? ⟨w.heap.size, 6, none⟩ = some (.int .u16 r.U) ∧ w'.cell? ⟨w.heap.size, 7, none⟩ = some (.int .u16 r.S) ∧ w'.cell? ⟨w.heap.size, 8, none⟩ = some (.int .u16 r.P)) ∧ (w'.cell? ⟨w2.heap.size, 0, none⟩ = some (.int .u8 R.A) ∧ w'.cell? ⟨w2.heap.size, 1, none⟩ = some (.int .u8 R.B) ∧ w'.cell? ⟨w2.heap.size, 2, none⟩ = some (.int .u8 R.D) ∧ w'.cell? ⟨w2.heap.size, 3, none⟩ = some (.int .u8 R.C) ∧ w'.cell? ⟨w2.heap.size, 4, none⟩ = some (.int .u16 R.X) ∧ w'.cell? ⟨w2.heap.size, 5, none⟩ = some (.int .u16 R.Y) ∧ w'.cell? ⟨w2.heap.size, 6, none⟩ = some (.int .u16 R.U) ∧ w'.cell? ⟨w2.heap.size, 7, none⟩ = some (.int .u16 R.S) ∧ w'.cell? ⟨w2.heap.size, 8, none⟩ = some (.int .u16 R.P)) ∧ (w'.cell? ⟨w3.heap.size, 0, none⟩ = some (.int .u8 R.A) ∧ w'.cell? ⟨w3.heap.size, 1, none⟩ = some (.int .u8 R.B) ∧ w'.cell? ⟨w3.heap.size, 2, none⟩ = some (.int .u8 R.D) ∧ w'.cell? ⟨w3.heap.size, 3, none⟩ = some (.int .u8 R.C) ∧ w'.cell? ⟨w3.heap.size, 4, none⟩ = some (.int .u16 R.X) ∧ w'.cell? ⟨w3.heap.size, 5, none⟩ = some (.int .u16 R.Y) ∧ w'.cell? ⟨w3.heap.size, 6, none⟩ = some (.int .u16 R.U) ∧ w'.cell? ⟨w3.heap.size, 7, none⟩ = some (.int .u16 R.S) ∧ w'.cell? ⟨w3.heap.size, 8, none⟩ = some (.int .u16 R.P)))) (by kernel_rfl) ?_ (fun hH0 => ?_)
    · (try dsimp only); with_reducible exact S0.out
    refine wpAnyH_take (i := 0) (oi := ({ dst := some 43, op := Op.move (Operand.tmp 9), type := 32, pos := "law.go:36", after := #[], guard := none } : Oper)) (v := ?_) rfl (by kernel_rfl) (by kernel_rfl) (by kernel_rfl) (fun _ _ _ h => h) (Or.inl ⟨by rfl, ?_⟩) (by assumption) ?_
    rotate_left 1
    · (intro w hSw; (try dsimp only at hSw); go_simp; (try with_reducible rfl))
    (try simp only [Act.put, List.setIfInBounds_toArray, List.set_cons_zero, List.set_cons_succ])
    refine wpAnyH_take (i := 1) (oi := ({ dst := some 44, op := Op.move (Operand.tmp 12), type := 32, pos := "law.go:36", after := #[], guard := none } : Oper)) (v := ?_) rfl (by kernel_rfl) (by kernel_rfl) (by kernel_rfl) (fun _ _ _ h => h) (Or.inl ⟨by rfl, ?_⟩) (by assumption) ?_
    rotate_left 1
    · (intro w hSw; (try dsimp only at hSw); go_simp; (try with_reducible rfl))
    (try simp only [Act.put, List.setIfInBounds_toArray, List.set_cons_zero, List.set_cons_succ])
    refine wpAnyH_take (i := 2) (oi := ({ dst := some 45, op := Op.binOp BinOp.eql 32 (Operand.tmp 43) (Operand.tmp 44) 32, type := 4, pos := "law.go:36", after := #[{ on := 0, ground := Ground.data }, { on := 1, ground := Ground.data }], guard := none } : Oper)) (v := ?_) rfl (by kernel_rfl) (by kernel_rfl) (by kernel_rfl) (fun _ _ _ h => h) (Or.inl ⟨by rfl, ?_⟩) (by assumption) ?_
    rotate_left 1
    · (intro w hSw; (try dsimp only at hSw); go_simp; (try with_reducible rfl))
    (try simp only [Act.put, List.setIfInBounds_toArray, List.set_cons_zero, List.set_cons_succ])
    refine wpAnyH_take (i := 3) (oi := ({ dst := some 46, op := Op.move (Operand.tmp 45), type := 4, pos := "law.go:36", after := #[{ on := 2, ground := Ground.data }], guard := none } : Oper)) (v := ?_) rfl (by kernel_rfl) (by kernel_rfl) (by kernel_rfl) (fun _ _ _ h => h) (Or.inl ⟨by rfl, ?_⟩) (by assumption) ?_
    rotate_left 1
    · (intro w hSw; (try dsimp only at hSw); go_simp; (try with_reducible rfl))
    (try simp only [Act.put, List.setIfInBounds_toArray, List.set_cons_zero, List.set_cons_succ])
    refine wpAnyH_take (i := 4) (oi := ({ dst := some 47, op := Op.load 34 (Operand.tmp 10), type := 34, pos := "law.go:36", after := #[{ on := 3, ground := Ground.guard }], guard := some (3, true) } : Oper)) (v := ?_) rfl (by kernel_rfl) (by kernel_rfl) (by kernel_rfl) (fun _ _ _ h => h) (Or.inl ⟨by rfl, ?_⟩) (by assumption) ?_
    rotate_left 1
    · (intro w hSw; (try dsimp only at hSw); go_simp; (try with_reducible rfl))
    (try simp only [Act.put, List.setIfInBounds_toArray, List.set_cons_zero, List.set_cons_succ])
    refine wpAnyH_take (i := 5) (oi := ({ dst := some 48, op := Op.load 34 (Operand.tmp 13), type := 34, pos := "law.go:36", after := #[{ on := 3, ground := Ground.guard }], guard := some (3, true) } : Oper)) (v := ?_) rfl (by kernel_rfl) (by kernel_rfl) (by kernel_rfl) (fun _ _ _ h => h) (Or.inl ⟨by rfl, ?_⟩) (by assumption) ?_
    rotate_left 1
    · (intro w hSw; (try dsimp only at hSw); go_simp; (try with_reducible rfl))
    (try simp only [Act.put, List.setIfInBounds_toArray, List.set_cons_zero, List.set_cons_succ])
    refine wpAnyH_take (i := 6) (oi := ({ dst := some 49, op := Op.binOp BinOp.eql 34 (Operand.tmp 47) (Operand.tmp 48) 34, type := 4, pos := "law.go:36", after := #[{ on := 4, ground := Ground.data }, { on := 5, ground := Ground.data }, { on := 3, ground := Ground.guard }], guard := some (3, true) } : Oper)) (v := ?_) rfl (by kernel_rfl) (by kernel_rfl) (by kernel_rfl) (fun _ _ _ h => h) (Or.inl ⟨by rfl, ?_⟩) (by assumption) ?_
    rotate_left 1
    · (intro w hSw; (try dsimp only at hSw); go_simp; (try with_reducible rfl))
    (try simp only [Act.put, List.setIfInBounds_toArray, List.set_cons_zero, List.set_cons_succ])
    refine wpAnyH_take (i := 7) (oi := ({ dst := some 50, op := Op.pick (Operand.tmp 46) (Operand.tmp 49) (Operand.const (Value.bool false)), type := 4, pos := "law.go:36", after := #[{ on := 3, ground := Ground.data }, { on := 6, ground := Ground.data }], guard := none } : Oper)) (v := ?_) rfl (by kernel_rfl) (by kernel_rfl) (by kernel_rfl) (fun _ _ _ h => h) (Or.inl ⟨by rfl, ?_⟩) (by assumption) ?_
    rotate_left 1
    · (intro w hSw; (try dsimp only at hSw); go_simp; (try with_reducible rfl))
    (try simp only [Act.put, List.setIfInBounds_toArray, List.set_cons_zero, List.set_cons_succ])
    refine wpAnyH_take (i := 8) (oi := ({ dst := some 51, op := Op.move (Operand.tmp 50), type := 4, pos := "law.go:36", after := #[{ on := 7, ground := Ground.data }, { on := 3, ground := Ground.chain }], guard := none } : Oper)) (v := ?_) rfl (by kernel_rfl) (by kernel_rfl) (by kernel_rfl) (fun _ _ _ h => h) (Or.inl ⟨by rfl, ?_⟩) (by assumption) ?_
    rotate_left 1
    · (intro w hSw; (try dsimp only at hSw); go_simp; (try with_reducible rfl))
    (try simp only [Act.put, List.setIfInBounds_toArray, List.set_cons_zero, List.set_cons_succ])
    refine wpAnyH_take (i := 9) (oi := ({ dst := some 52, op := Op.move (Operand.tmp 11), type := 4, pos := "law.go:36", after := #[{ on := 8, ground := Ground.guard }], guard := some (8, true) } : Oper)) (v := ?_) rfl (by kernel_rfl) (by kernel_rfl) (by kernel_rfl) (fun _ _ _ h => h) (Or.inl ⟨by rfl, ?_⟩) (by assumption) ?_
    rotate_left 1
    · (intro w hSw; (try dsimp only at hSw); go_simp; (try with_reducible rfl))
    (try simp only [Act.put, List.setIfInBounds_toArray, List.set_cons_zero, List.set_cons_succ])
    refine wpAnyH_take (i := 10) (oi := ({ dst := some 53, op := Op.move (Operand.tmp 14), type := 4, pos := "law.go:36", after := #[{ on := 8, ground := Ground.guard }], guard := some (8, true) } : Oper)) (v := ?_) rfl (by kernel_rfl) (by kernel_rfl) (by kernel_rfl) (fun _ _ _ h => h) (Or.inl ⟨by rfl, ?_⟩) (by assumption) ?_
    rotate_left 1
    · (intro w hSw; (try dsimp only at hSw); go_simp; (try with_reducible rfl))
    (try simp only [Act.put, List.setIfInBounds_toArray, List.set_cons_zero, List.set_cons_succ])
    refine wpAnyH_take (i := 11) (oi := ({ dst := some 54, op := Op.binOp BinOp.eql 4 (Operand.tmp 52) (Operand.tmp 53) 4, type := 4, pos := "law.go:36", after := #[{ on := 9, ground := Ground.data }, { on := 10, ground := Ground.data }, { on := 8, ground := Ground.guard }], guard := some (8, true) } : Oper)) (v := ?_) rfl (by kernel_rfl) (by kernel_rfl) (by kernel_rfl) (fun _ _ _ h => h) (Or.inl ⟨by rfl, ?_⟩) (by assumption) ?_
    rotate_left 1
    · (intro w hSw; (try dsimp only at hSw); go_simp; (try with_reducible rfl))
    (try simp only [Act.put, List.setIfInBounds_toArray, List.set_cons_zero, List.set_cons_succ])
    refine wpAnyH_take (i := 12) (oi := ({ dst := some 55, op := Op.pick (Operand.tmp 51) (Operand.tmp 54) (Operand.const (Value.bool false)), type := 4, pos := "law.go:36", after := #[{ on := 8, ground := Ground.data }, { on := 11, ground := Ground.data }], guard := none } : Oper)) (v := ?_) rfl (by kernel_rfl) (by kernel_rfl) (by kernel_rfl) (fun _ _ _ h => h) (Or.inl ⟨by rfl, ?_⟩) (by assumption) ?_
    rotate_left 1
    · (intro w hSw; (try dsimp only at hSw); go_simp; (try with_reducible rfl))
    (try simp only [Act.put, List.setIfInBounds_toArray, List.set_cons_zero, List.set_cons_succ])
    refine wpAnyH_take (i := 13) (oi := ({ dst := some 56, op := Op.move (Operand.tmp 55), type := 4, pos := "law.go:36", after := #[{ on := 12, ground := Ground.data }, { on := 8, ground := Ground.chain }], guard := none } : Oper)) (v := ?_) rfl (by kernel_rfl) (by kernel_rfl) (by kernel_rfl) (fun _ _ _ h => h) (Or.inl ⟨by rfl, ?_⟩) (by assumption) ?_
    rotate_left 1
    · (intro w hSw; (try dsimp only at hSw); go_simp; (try with_reducible rfl))
    (try simp only [Act.put, List.setIfInBounds_toArray, List.set_cons_zero, List.set_cons_succ])
    refine wpAnyH_take (i := 14) (oi := ({ dst := some 57, op := Op.fieldAddr 34 (Operand.tmp 4) 2, type := 0, pos := "law.go:36", after := #[{ on := 13, ground := Ground.guard }], guard := some (13, true) } : Oper)) (v := ?_) rfl (by kernel_rfl) (by kernel_rfl) (by kernel_rfl) (fun _ _ _ h => h) (Or.inl ⟨by rfl, ?_⟩) (by assumption) ?_
    rotate_left 1
    · (intro w hSw; (try dsimp only at hSw); go_simp; (try with_reducible rfl))
    (try simp only [Act.put, List.setIfInBounds_toArray, List.set_cons_zero, List.set_cons_succ])
    refine wpAnyH_take (i := 15) (oi := ({ dst := some 58, op := Op.load 5 (Operand.tmp 57), type := 5, pos := "law.go:36", after := #[{ on := 14, ground := Ground.data }, { on := 13, ground := Ground.guard }], guard := some (13, true) } : Oper)) (v := ?_) rfl (by kernel_rfl) (by kernel_rfl) (by kernel_rfl) (fun _ _ _ h => h) (Or.inl ⟨by rfl, ?_⟩) (by assumption) ?_
    rotate_left 1
    · (intro w hSw; (try dsimp only at hSw); go_simp; (try with_reducible rfl))
    (try simp only [Act.put, List.setIfInBounds_toArray, List.set_cons_zero, List.set_cons_succ])
    refine wpAnyH_take (i := 16) (oi := ({ dst := some 59, op := Op.move (Operand.tmp 0), type := 45, pos := "law.go:36", after := #[{ on := 13, ground := Ground.guard }], guard := some (13, true) } : Oper)) (v := ?_) rfl (by kernel_rfl) (by kernel_rfl) (by kernel_rfl) (fun _ _ _ h => h) (Or.inl ⟨by rfl, ?_⟩) (by assumption) ?_
    rotate_left 1
    · (intro w hSw; (try dsimp only at hSw); go_simp; (try with_reducible rfl))
    (try simp only [Act.put, List.setIfInBounds_toArray, List.set_cons_zero, List.set_cons_succ])
    refine wpAnyH_take (i := 17) (oi := ({ dst := some 60, op := Op.indexAddr 45 (Operand.tmp 59) (Operand.const (Value.int IntKind.i64 0)), type := 0, pos := "law.go:36", after := #[{ on := 16, ground := Ground.data }, { on := 13, ground := Ground.guard }], guard := some (13, true) } : Oper)) (v := ?_) rfl (by kernel_rfl) (by kernel_rfl) (by kernel_rfl) (fun _ _ _ h => h) (Or.inl ⟨by rfl, ?_⟩) (by assumption) ?_
    rotate_left 1
    · (intro w hSw; (try dsimp only at hSw); go_simp; (try with_reducible rfl))
    (try simp only [Act.put, List.setIfInBounds_toArray, List.set_cons_zero, List.set_cons_succ])
    refine wpAnyH_take (i := 18) (oi := ({ dst := some 61, op := Op.load 5 (Operand.tmp 60), type := 5, pos := "law.go:36", after := #[{ on := 17, ground := Ground.data }, { on := 13, ground := Ground.guard }], guard := some (13, true) } : Oper)) (v := ?_) rfl (by kernel_rfl) (by kernel_rfl) (by kernel_rfl) (fun _ _ _ h => h) (Or.inl ⟨by rfl, ?_⟩) (by assumption) ?_
    rotate_left 1
    · (intro w hSw; (try dsimp only at hSw); go_simp; (try with_reducible rfl))
    (try simp only [Act.put, List.setIfInBounds_toArray, List.set_cons_zero, List.set_cons_succ])
    refine wpAnyH_take (i := 20) (oi := ({ dst := some 63, op := Op.fieldAddr 34 (Operand.tmp 4) 2, type := 0, pos := "law.go:36", after := #[{ on := 13, ground := Ground.guard }], guard := some (13, true) } : Oper)) (v := ?_) rfl (by kernel_rfl) (by kernel_rfl) (by kernel_rfl) (fun _ _ _ h => h) (Or.inl ⟨by rfl, ?_⟩) (by assumption) ?_
    rotate_left 1
    · (intro w hSw; (try dsimp only at hSw); go_simp; (try with_reducible rfl))
    (try simp only [Act.put, List.setIfInBounds_toArray, List.set_cons_zero, List.set_cons_succ])
    refine wpAnyH_take (i := 21) (oi := ({ dst := some 64, op := Op.load 5 (Operand.tmp 63), type := 5, pos := "law.go:36", after := #[{ on := 20, ground := Ground.data }, { on := 13, ground := Ground.guard }], guard := some (13, true) } : Oper)) (v := ?_) rfl (by kernel_rfl) (by kernel_rfl) (by kernel_rfl) (fun _ _ _ h => h) (Or.inl ⟨by rfl, ?_⟩) (by assumption) ?_
    rotate_left 1
    · (intro w hSw; (try dsimp only at hSw); go_simp; (try with_reducible rfl))
    (try simp only [Act.put, List.setIfInBounds_toArray, List.set_cons_zero, List.set_cons_succ])
    refine wpAnyH_take (i := 22) (oi := ({ dst := some 65, op := Op.convert 5 32 (Operand.tmp 64), type := 32, pos := "law.go:36", after := #[{ on := 21, ground := Ground.data }, { on := 13, ground := Ground.guard }], guard := some (13, true) } : Oper)) (v := ?_) rfl (by kernel_rfl) (by kernel_rfl) (by kernel_rfl) (fun _ _ _ h => h) (Or.inl ⟨by rfl, ?_⟩) (by assumption) ?_
    rotate_left 1
    · (intro w hSw; (try dsimp only at hSw); go_simp; (try with_reducible rfl))
    (try simp only [Act.put, List.setIfInBounds_toArray, List.set_cons_zero, List.set_cons_succ])
    refine wpAnyH_take (i := 23) (oi := ({ dst := some 66, op := Op.binOp BinOp.mul 32 (Operand.tmp 65) (Operand.const (Value.int IntKind.u16 256)) 32, type := 32, pos := "law.go:36", after := #[{ on := 22, ground := Ground.data }, { on := 13, ground := Ground.guard }], guard := some (13, true) } : Oper)) (v := ?_) rfl (by kernel_rfl) (by kernel_rfl) (by kernel_rfl) (fun _ _ _ h => h) (Or.inl ⟨by rfl, ?_⟩) (by assumption) ?_
    rotate_left 1
    · (intro w hSw; (try dsimp only at hSw); go_simp; (try with_reducible rfl))
    (try simp only [Act.put, List.setIfInBounds_toArray, List.set_cons_zero, List.set_cons_succ])
    refine wpAnyH_take (i := 24) (oi := ({ dst := some 67, op := Op.move (Operand.tmp 0), type := 45, pos := "law.go:36", after := #[{ on := 13, ground := Ground.guard }], guard := some (13, true) } : Oper)) (v := ?_) rfl (by kernel_rfl) (by kernel_rfl) (by kernel_rfl) (fun _ _ _ h => h) (Or.inl ⟨by rfl, ?_⟩) (by assumption) ?_
    rotate_left 1
    · (intro w hSw; (try dsimp only at hSw); go_simp; (try with_reducible rfl))
    (try simp only [Act.put, List.setIfInBounds_toArray, List.set_cons_zero, List.set_cons_succ])
    refine wpAnyH_take (i := 25) (oi := ({ dst := some 68, op := Op.indexAddr 45 (Operand.tmp 67) (Operand.const (Value.int IntKind.i64 0)), type := 0, pos := "law.go:36", after := #[{ on := 24, ground := Ground.data }, { on := 13, ground := Ground.guard }], guard := some (13, true) } : Oper)) (v := ?_) rfl (by kernel_rfl) (by kernel_rfl) (by kernel_rfl) (fun _ _ _ h => h) (Or.inl ⟨by rfl, ?_⟩) (by assumption) ?_
    rotate_left 1
    · (intro w hSw; (try dsimp only at hSw); go_simp; (try with_reducible rfl))
    (try simp only [Act.put, List.setIfInBounds_toArray, List.set_cons_zero, List.set_cons_succ])
    refine wpAnyH_take (i := 26) (oi := ({ dst := some 69, op := Op.load 5 (Operand.tmp 68), type := 5, pos := "law.go:36", after := #[{ on := 25, ground := Ground.data }, { on := 13, ground := Ground.guard }], guard := some (13, true) } : Oper)) (v := ?_) rfl (by kernel_rfl) (by kernel_rfl) (by kernel_rfl) (fun _ _ _ h => h) (Or.inl ⟨by rfl, ?_⟩) (by assumption) ?_
    rotate_left 1
    · (intro w hSw; (try dsimp only at hSw); go_simp; (try with_reducible rfl))
    (try simp only [Act.put, List.setIfInBounds_toArray, List.set_cons_zero, List.set_cons_succ])
    refine wpAnyH_take (i := 27) (oi := ({ dst := some 70, op := Op.convert 5 32 (Operand.tmp 69), type := 32, pos := "law.go:36", after := #[{ on := 26, ground := Ground.data }, { on := 13, ground := Ground.guard }], guard := some (13, true) } : Oper)) (v := ?_) rfl (by kernel_rfl) (by kernel_rfl) (by kernel_rfl) (fun _ _ _ h => h) (Or.inl ⟨by rfl, ?_⟩) (by assumption) ?_
    rotate_left 1
    · (intro w hSw; (try dsimp only at hSw); go_simp; (try with_reducible rfl))
    (try simp only [Act.put, List.setIfInBounds_toArray, List.set_cons_zero, List.set_cons_succ])
    refine wpAnyH_take (i := 28) (oi := ({ dst := some 71, op := Op.binOp BinOp.add 32 (Operand.tmp 66) (Operand.tmp 70) 32, type := 32, pos := "law.go:36", after := #[{ on := 23, ground := Ground.data }, { on := 27, ground := Ground.data }, { on := 13, ground := Ground.guard }], guard := some (13, true) } : Oper)) (v := ?_) rfl (by kernel_rfl) (by kernel_rfl) (by kernel_rfl) (fun _ _ _ h => h) (Or.inl ⟨by rfl, ?_⟩) (by assumption) ?_
    rotate_left 1
    · (intro w hSw; (try dsimp only at hSw); go_simp; (try with_reducible rfl))
    (try simp only [Act.put, List.setIfInBounds_toArray, List.set_cons_zero, List.set_cons_succ])
    refine wpAnyH_ready (rs := [19]) (by kernel_rfl) (by simp) ?_
    refine AllReadyH.cons (o := ({ dst := some 62, op := Op.call { callee := Callee.value (Operand.func 25), args := #[Operand.tmp 58, Operand.tmp 61], argTypes := #[5, 5] }, type := 32, pos := "law.go:36", after := #[{ on := 15, ground := Ground.data }, { on := 18, ground := Ground.data }, { on := 13, ground := Ground.chain }, { on := 13, ground := Ground.guard }], guard := some (13, true) } : Oper)) rfl (fun K hK => ?_) ?_
    rotate_left 1
    · exact AllReadyH.nil
    go_simp
    go_at_call 25
    ((with_reducible refine (CD.out _).mono ?_); rintro e wq ⟨rfl, rfl⟩)
    first | (refine hK.out _ _ ?_ (fun hH1 => ?_)) | (go_wp2_with fail; refine hK.out _ _ ?_ (fun hH1 => ?_))
    · (try dsimp only); with_reducible exact S0.out
    clear hK K hH0
    (try simp only [Act.put, List.setIfInBounds_toArray, List.set_cons_zero, List.set_cons_succ])
    refine wpAnyH_take (i := 29) (oi := ({ dst := some 72, op := Op.binOp BinOp.eql 32 (Operand.tmp 62) (Operand.tmp 71) 32, type := 4, pos := "law.go:36", after := #[{ on := 19, ground := Ground.data }, { on := 28, ground := Ground.data }, { on := 13, ground := Ground.guard }], guard := some (13, true) } : Oper)) (v := ?_) rfl (by kernel_rfl) (by kernel_rfl) (by kernel_rfl) (fun _ _ _ h => h) (Or.inl ⟨by rfl, ?_⟩) (by assumption) ?_
    rotate_left 1
    · (intro w hSw; (try dsimp only at hSw); go_simp; (try with_reducible rfl))
    (try simp only [Act.put, List.setIfInBounds_toArray, List.set_cons_zero, List.set_cons_succ])
    refine wpAnyH_take (i := 30) (oi := ({ dst := some 73, op := Op.pick (Operand.tmp 56) (Operand.tmp 72) (Operand.const (Value.bool false)), type := 4, pos := "law.go:36", after := #[{ on := 13, ground := Ground.data }, { on := 29, ground := Ground.data }], guard := none } : Oper)) (v := ?_) rfl (by kernel_rfl) (by kernel_rfl) (by kernel_rfl) (fun _ _ _ h => h) (Or.inl ⟨by rfl, ?_⟩) (by assumption) ?_
    rotate_left 1
    · (intro w hSw; (try dsimp only at hSw); go_simp; (try with_reducible rfl))
    (try simp only [Act.put, List.setIfInBounds_toArray, List.set_cons_zero, List.set_cons_succ])
    refine wpAnyH_take (i := 31) (oi := ({ dst := some 74, op := Op.move (Operand.tmp 73), type := 4, pos := "law.go:36", after := #[{ on := 30, ground := Ground.data }, { on := 19, ground := Ground.chain }], guard := none } : Oper)) (v := ?_) rfl (by kernel_rfl) (by kernel_rfl) (by kernel_rfl) (fun _ _ _ h => h) (Or.inl ⟨by rfl, ?_⟩) (by assumption) ?_
    rotate_left 1
    · (intro w hSw; (try dsimp only at hSw); go_simp; (try with_reducible rfl))
    (try simp only [Act.put, List.setIfInBounds_toArray, List.set_cons_zero, List.set_cons_succ])
    refine wpAnyH_ready (rs := [32]) (by kernel_rfl) (by simp) ?_
    refine AllReadyH.cons (o := ({ dst := some 75, op := Op.call { callee := Callee.value (Operand.func 21), args := #[], argTypes := #[] }, type := 4, pos := "law.go:36", after := #[{ on := 31, ground := Ground.chain }, { on := 31, ground := Ground.guard }], guard := some (31, true) } : Oper)) rfl (fun K hK => ?_) ?_
    rotate_left 1
    · exact AllReadyH.nil
    go_simp
    go_at_call 21
    ((with_reducible refine (alive20 _ (KindsAt.below20 HT.out (Below.drew0 B0.out))).mono ?_); rintro e w4 ⟨rfl, hb⟩; have B4 := Lib.hid (Below.trans0 (Below.drew0 B0.out) hb); have S1 := Lib.hid (show (fun w' => w'.cell? ⟨g, off, none⟩ = some (.int .u8 b0) ∧ (w'.cell? ⟨w.heap.size, 0, none⟩ = some (.int .u8 r.A) ∧ w'.cell? ⟨w.heap.size, 1, none⟩ = some (.int .u8 r.B) ∧ w'.cell? ⟨w.heap.size, 2, none⟩ = some (.int .u8 r.D) ∧ w'.cell? ⟨w.heap.size, 3, none⟩ = some (.int .u8 r.C) ∧ w'.cell? ⟨w.heap.size, 4, none⟩ = some (.int .u16 r.X) ∧ w'.cell? ⟨w.heap.size, 5, none⟩ = some (.int .u16 r.Y) ∧ w'.cell? ⟨w.heap.size, 6, none⟩ = some (.int .u16 r.U) ∧ w'.cell? ⟨w.heap.size, 7, none⟩ = some (.int .u16 r.S) ∧ w'.cell? ⟨w.heap.size, 8, none⟩ = some (.int .u16 r.P)) ∧ (w'.cell? ⟨w2.heap.size, 0, none⟩ = some (.int .u8 R.A) ∧ w'.cell? ⟨w2.heap.size, 1, none⟩ = some (.int .u8 R.B) ∧ w'.cell? ⟨w2.heap.size, 2, none⟩ = some (.int .u8 R.D) ∧ w'.cell? ⟨w2.heap.size, 3, none⟩ = some (.int .u8 R.C) ∧ w'.cell? ⟨w2.heap.size, 4, none⟩ = some (.int .u16 R.X) ∧ w'.cell? ⟨w2.heap.size, 5, none⟩ = some (.int .u16 R.Y) ∧ w'.cell? ⟨w2.heap.size, 6, none⟩ = some (.int .u16 R.U) ∧ w'.cell? ⟨w2.heap.size, 7, none⟩ = some (.int .u16 R.S) ∧ w'.cell? ⟨w2.heap.size, 8, none⟩ = some (.int .u16 R.P)) ∧ (w'.cell? ⟨w3.heap.size, 0, none⟩ = some (.int .u8 R.A) ∧ w'.cell? ⟨w3.heap.size, 1, none⟩ = some (.int .u8 R.B) ∧ w'.cell? ⟨w3.heap.size, 2, none⟩ = some (.int .u8 R.D) ∧ w'.cell? ⟨w3.heap.size, 3, none⟩ = some (.int .u8 R.C) ∧ w'.cell? ⟨w3.heap.size, 4, none⟩ = some (.int .u16 R.X) ∧ w'.cell? ⟨w3.heap.size, 5, none⟩ = some (.int .u16 R.Y) ∧ w'.cell? ⟨w3.heap.size, 6, none⟩ = some (.int .u16 R.U) ∧ w'.cell? ⟨w3.heap.size, 7, none⟩ = some (.int .u16 R.S) ∧ w'.cell? ⟨w3.heap.size, 8, none⟩ = some (.int .u16 R.P))) w4 from ⟨(B4.out.cell (p := ⟨g, off, none⟩) HG.out).trans HC.out, RgAt.cells (RgAt.below (show RgAt V.drew w.heap.size 34 r from Blk.drew P00.out) hb (Blk.lt P00.out)), RgAt.cells (RgAt.below (show RgAt V.drew w2.heap.size 34 R from Blk.drew P10.out) hb (Blk.lt P10.out)), RgAt.cells (RgAt.below (show RgAt V.drew w3.heap.size 34 R from Blk.drew P20.out) hb (Blk.lt P20.out))⟩); clear hb)
    first | (refine hK.out _ _ ?_ (fun hH2 => ?_)) | (go_wp2_with fail; refine hK.out _ _ ?_ (fun hH2 => ?_))
    · (try dsimp only); with_reducible exact S1.out
    clear hK K hH1
    (try simp only [Act.put, List.setIfInBounds_toArray, List.set_cons_zero, List.set_cons_succ])
    refine wpAnyH_take (i := 33) (oi := ({ dst := some 76, op := Op.pick (Operand.tmp 74) (Operand.tmp 75) (Operand.const (Value.bool false)), type := 4, pos := "law.go:36", after := #[{ on := 31, ground := Ground.data }, { on := 32, ground := Ground.data }], guard := none } : Oper)) (v := ?_) rfl (by kernel_rfl) (by kernel_rfl) (by kernel_rfl) (fun _ _ _ h => h) (Or.inl ⟨by rfl, ?_⟩) (by assumption) ?_
    rotate_left 1
    · (intro w hSw; (try dsimp only at hSw); go_simp; (try with_reducible rfl))
    (try simp only [Act.put, List.setIfInBounds_toArray, List.set_cons_zero, List.set_cons_succ])
    refine wpAnyH_take (i := 34) (oi := ({ dst := some 6, op := Op.assign (Operand.tmp 76), type := 4, pos := "law.go:36", after := #[{ on := 33, ground := Ground.data }, { on := 32, ground := Ground.chain }, { on := 0, ground := Ground.phase }, { on := 1, ground := Ground.phase }, { on := 2, ground := Ground.phase }, { on := 3, ground := Ground.phase }, { on := 4, ground := Ground.phase }, { on := 5, ground := Ground.phase }, { on := 6, ground := Ground.phase }, { on := 7, ground := Ground.phase }, { on := 8, ground := Ground.phase }, { on := 9, ground := Ground.phase }, { on := 10, ground := Ground.phase }, { on := 11, ground := Ground.phase }, { on := 12, ground := Ground.phase }, { on := 13, ground := Ground.phase }, { on := 14, ground := Ground.phase }, { on := 15, ground := Ground.phase }, { on := 16, ground := Ground.phase }, { on := 17, ground := Ground.phase }, { on := 18, ground := Ground.phase }, { on := 19, ground := Ground.phase }, { on := 20, ground := Ground.phase }, { on := 21, ground := Ground.phase }, { on := 22, ground := Ground.phase }, { on := 23, ground := Ground.phase }, { on := 24, ground := Ground.phase }, { on := 25, ground := Ground.phase }, { on := 26, ground := Ground.phase }, { on := 27, ground := Ground.phase }, { on := 28, ground := Ground.phase }, { on := 29, ground := Ground.phase }, { on := 30, ground := Ground.phase }, { on := 31, ground := Ground.phase }, { on := 32, ground := Ground.phase }, { on := 33, ground := Ground.phase }], guard := none } : Oper)) (v := ?_) rfl (by kernel_rfl) (by kernel_rfl) (by kernel_rfl) (fun _ _ _ h => h) (Or.inl ⟨by rfl, ?_⟩) (by assumption) ?_
    rotate_left 1
    · (intro w hSw; (try dsimp only at hSw); go_simp; (try with_reducible rfl))
    (try simp only [Act.put, List.setIfInBounds_toArray, List.set_cons_zero, List.set_cons_succ])
    refine wpAnyH_done (by kernel_rfl) ?_ _
    refine NoPanic.normal ?_
    clear t0 t1 t2 t3
    go_wp2
    go_ret
    exact ⟨rfl, B4.out⟩
end Go.Proofs.YtoogaenknjdpcacDoor
