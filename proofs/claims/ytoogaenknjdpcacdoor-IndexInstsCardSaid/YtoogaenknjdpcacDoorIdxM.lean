/- The law IndexMakes, over numbers. -/
import Derived.Test.YtoogaenknjdpcacDoorIdxW
import Derived.Test.YtoogaenknjdpcacDoorIdxS
namespace Go.Proofs.YtoogaenknjdpcacDoor
open Go.ChangeShapes Go.WideShapes Go.ChangeAt Go.RowKit
set_option linter.unusedVariables false

theorem idA_wrap (k : Nat) (g o v n : Int) (r : Rg) : idA k g (IntKind.u16.wrap o) v n r = idA k g o v n r := by
  unfold idA
  rw [IntKind.wrap_u16]
  by_cases h : k = 1
  · rw [if_pos h, if_pos h]; omega
  · rw [if_neg h, if_neg h]
set_option maxRecDepth 100000 in
set_option maxHeartbeats 8000000 in
theorem law_makes (b : Nat) (hb : b < 256) (r : Rg) (hr : r.Ok) (x y : Int) (x0 : 0 ≤ x) (x1 : x < 65536) (y0 : 0 ≤ y) (y1 : y < 65536) (w : World) (hT : KindsAt w) :
    Calls Tryd.prog 5 #[.int .u8 (b : Int), .agg r.cells, .agg #[.int .u16 x, .int .u16 y]] w fun e w' => e = .returned (.bool true) ∧ Below w.heap.size w w' := by
  have hk := poK_lt b hb
  have CP := fun w => refOf_any b hb w
  unfold refP at CP
  obtain ⟨o, ho⟩ : ∃ o, IntKind.u16.wrap (poO b : Int) = o := ⟨_, rfl⟩
  have o0 : 0 ≤ o := by rw [← ho, IntKind.wrap_u16]; omega
  have CI := fun w => idxOf_any (poK b) hk (poR b) o (poI b) r hr x y o0 x0 y0 w
  rw [← ho, idA_wrap, ho] at CI
  have CF := fun w => ref20_any b hb r hr x y x0 x1 y0 w
  obtain ⟨A, hA⟩ : ∃ A, idA (poK b) (poR b) (poO b) x y r = A := ⟨_, rfl⟩
  obtain ⟨R, hR⟩ : ∃ R, idR (poK b) (poR b) r = R := ⟨_, rfl⟩
  rw [hA, hR] at CI CF
  have HE := eql_rg R
  have EA : (A == A) = true := by simp
  have D1 := Lib.hid CP
  have D2 := Lib.hid CI
  have D3 := Lib.hid CF
  have HR0 := Lib.hid (show RgAt ((w.alloc (.cells r.cells 34)).alloc (.cells #[.int .u16 x, .int .u16 y] 35)) w.heap.size 34 r from Blk.alloc (Blk.new _ _ _ _) _)
  have HX0 := Lib.hid (show Blk ((w.alloc (.cells r.cells 34)).alloc (.cells #[.int .u16 x, .int .u16 y] 35)) (w.heap.size + 1) 35 #[.int .u16 x, .int .u16 y] from Blk.at1 _)
  have HB := Lib.hid (Below.alloc0 (Below.alloc0 (Below.refl w.heap.size w) (Obj.cells r.cells 34)) (Obj.cells #[.int .u16 x, .int .u16 y] 35))
  have HT := Lib.hid (KindsAt.below20 hT (Below.alloc0 (Below.alloc0 (Below.refl w.heap.size w) (Obj.cells r.cells 34)) (Obj.cells #[.int .u16 x, .int .u16 y] 35)))
  clear CP CI CF hA hR hr hT hk
  have ow : IntKind.u16.wrap (poO b : Int) = o := ho
  clear ho o0
  go_enter Tryd.func5, Tryd.ntmps5
  go_wp2_with fail
  refine (D1.out _).mono ?_
  rintro e w1 ⟨rfl, hb1⟩
  have O1 : Hid (Obj.cells #[.int .i64 (poK b : Int), .int .i64 (poR b : Int), .int .i64 (poO b : Int), .bool (poI b), .int .i64 (poBytes (poK b) : Int), .int .i64 (poIdle (poK b) : Int)] 37 = Obj.cells #[.int .i64 (poK b : Int), .int .i64 (poR b : Int), .int .i64 (poO b : Int), .bool (poI b), .int .i64 (poBytes (poK b) : Int), .int .i64 (poIdle (poK b) : Int)] 37) := Lib.hid rfl
  have HR1 := Lib.hid (Blk.alloc (Blk.alloc (RgAt.below HR0.out hb1 HR0.out.lt) (Obj.cells #[.int .i64 (poK b : Int), .int .i64 (poR b : Int), .int .i64 (poO b : Int), .bool (poI b), .int .i64 (poBytes (poK b) : Int), .int .i64 (poIdle (poK b) : Int)] 37)) (Obj.cells #[.int .i64 (poK b : Int), .int .i64 (poR b : Int), .int .u16 o, .bool (poI b)] 40))
  have HX1 := Lib.hid (Blk.alloc (Blk.alloc (Blk.below HX0.out hb1 HX0.out.lt) (Obj.cells #[.int .i64 (poK b : Int), .int .i64 (poR b : Int), .int .i64 (poO b : Int), .bool (poI b), .int .i64 (poBytes (poK b) : Int), .int .i64 (poIdle (poK b) : Int)] 37)) (Obj.cells #[.int .i64 (poK b : Int), .int .i64 (poR b : Int), .int .u16 o, .bool (poI b)] 40))
  have HB1 := Lib.hid (Below.alloc0 (Below.alloc0 (Below.trans0 HB.out hb1) (Obj.cells #[.int .i64 (poK b : Int), .int .i64 (poR b : Int), .int .i64 (poO b : Int), .bool (poI b), .int .i64 (poBytes (poK b) : Int), .int .i64 (poIdle (poK b) : Int)] 37)) (Obj.cells #[.int .i64 (poK b : Int), .int .i64 (poR b : Int), .int .u16 o, .bool (poI b)] 40))
  have HT1 := Lib.hid (KindsAt.below20 (KindsAt.below20 HT.out hb1) (Below.alloc0 (Below.alloc0 (Below.refl _ w1) (Obj.cells #[.int .i64 (poK b : Int), .int .i64 (poR b : Int), .int .i64 (poO b : Int), .bool (poI b), .int .i64 (poBytes (poK b) : Int), .int .i64 (poIdle (poK b) : Int)] 37)) (Obj.cells #[.int .i64 (poK b : Int), .int .i64 (poR b : Int), .int .u16 o, .bool (poI b)] 40)))
  clear hb1 HR0 HX0 HB HT O1
  obtain ⟨r0, r1, r2, r3, r4, r5, r6, r7, r8⟩ := RgAt.cells HR1.out
  obtain ⟨y0', y1'⟩ := Blk.c2 HX1.out
  go_wp2_with fail
  refine (D2.out _).mono ?_
  rintro e w2 ⟨rfl, hb2⟩
  clear ow r0 r1 r2 r3 r4 r5 r6 r7 r8 y0' y1'
  have HR2 := Lib.hid (Blk.alloc (Blk.below HR1.out hb2 (Blk.lt HR1.out)) (Obj.cells R.cells 34))
  have HX2 := Lib.hid (Blk.alloc (Blk.below HX1.out hb2 (Blk.lt HX1.out)) (Obj.cells R.cells 34))
  have HS2 := Lib.hid (show RgAt (w2.alloc (.cells R.cells 34)) w2.heap.size 34 R from Blk.new _ _ _ _)
  have HT2 := Lib.hid (KindsAt.below20 (KindsAt.below20 HT1.out hb2) (Below.alloc0 (Below.refl _ w2) (Obj.cells R.cells 34)))
  have HB2 := Lib.hid (Below.alloc0 (Below.trans0 HB1.out hb2) (Obj.cells R.cells 34))
  clear hb2 HR1 HX1 HB1 HT1
  obtain ⟨r0, r1, r2, r3, r4, r5, r6, r7, r8⟩ := RgAt.cells HR2.out
  obtain ⟨y0', y1'⟩ := Blk.c2 HX2.out
  go_wp2_with fail
  refine (D3.out _).mono ?_
  rintro e w3 ⟨rfl, hb3⟩
  clear r0 r1 r2 r3 r4 r5 r6 r7 r8 y0' y1'
  have HS3 := Lib.hid (show RgAt (w3.alloc (.cells R.cells 34)) w2.heap.size 34 R from Blk.alloc (RgAt.below HS2.out hb3 HS2.out.lt) _)
  have HQ3 := Lib.hid (show RgAt (w3.alloc (.cells R.cells 34)) w3.heap.size 34 R from Blk.new _ _ _ _)
  have HT3 := Lib.hid (KindsAt.below20 (KindsAt.below20 HT2.out hb3) (Below.alloc0 (Below.refl _ w3) (Obj.cells R.cells 34)))
  have HB3 := Lib.hid (Below.alloc0 (Below.trans0 HB2.out hb3) (Obj.cells R.cells 34))
  clear hb3 HS2 HB2 HT2 HR2 HX2
  obtain ⟨s0, s1, s2, s3, s4, s5, s6, s7, s8⟩ := HS3.out.cells
  obtain ⟨t0, t1, t2, t3, t4, t5, t6, t7, t8⟩ := HQ3.out.cells
  go_wp2_with fail
  refine (alive20 _ HT3.out).mono ?_
  rintro e w4 ⟨rfl, hb4⟩
  have HB4 := Lib.hid (Below.trans0 HB3.out hb4)
  clear hb4
  go_wp2
  go_ret
  exact ⟨rfl, HB4.out⟩
end Go.Proofs.YtoogaenknjdpcacDoor
