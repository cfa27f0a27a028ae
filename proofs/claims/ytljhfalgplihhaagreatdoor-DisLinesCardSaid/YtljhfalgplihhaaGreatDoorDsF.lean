/- Package dis: an operand: the indexed mode, the pair's. -/
import Derived.Test.YtljhfalgplihhaaGreatDoorDsE
namespace Go.Proofs.YtljhfalgplihhaaGreatDoor
open Go.ChangeShapes Go.WideShapes Go.ChangeAt Go.RowKit
set_option linter.unusedVariables false
set_option maxHeartbeats 2000000 in
set_option maxRecDepth 100000 in
theorem operand4_any (p c o r v l a : Int) (b : Nat) (hb : b < 256) (w : World) (v0 : 0 ≤ v) (v1 : v < 65536) (hT : OregAt w) (hK : KindsAt w) :
    Calls Tryz.prog 52 #[.agg (iC p c o 4 r (b : Int) v l), .int .u16 a] w fun e w' => e = .returned (.string (oprT 4 r b v l a)) ∧ Below w.heap.size w w' := by
  have ho1 : poO b < 65536 := by unfold poO; omega
  have HTx := Lib.hid (fun wx (hb : Below w.heap.size w wx) => hT.below hb)
  have HKx := Lib.hid (fun wx (hb : Below w.heap.size w wx) => kinds_below hK hb)
  have C1 := Lib.hid (fun u h => of_any b hb u h)
  have C2 := Lib.hid (fun u h => indexed_any (poK b) (poK_lt b hb) (poR b : Int) (poO b : Int) v (poI b) u (by omega) (by omega) v0 v1 h)
  have HI0 := Lib.hid (Blk.drew (Blk.new w 37 (iC p c o 4 r (b : Int) v l) (0, 0)))
  have HB0 := Lib.hid (Below.drew0 (Below.alloc0 (Below.refl w.heap.size w) (Obj.cells (iC p c o 4 r (b : Int) v l) 37)))
  unfold oprT
  simp (decide := true) only [↓reduceIte]
  generalize idxT (poK b) (byteStr (regI (poR b : Int))) (poO b : Int) v (poI b) = S at C2 ⊢
  generalize (poK b : Int) = k1 at C1 C2
  generalize (poR b : Int) = r1 at C1 C2
  generalize (poO b : Int) = o1 at C1 C2
  generalize poI b = d1 at C1 C2
  clear hT hK ho1
  go_enter Tryz.func52, Tryz.ntmps52
  go_upto_region 19 with (fail)
  go_region_held3 (fun w' => w'.cell? ⟨w.heap.size, 5, none⟩ = some (.int .u8 (b : Int)) ∧ w'.cell? ⟨w.heap.size, 6, none⟩ = some (.int .u16 v))
    (first
      | (with_reducible exact ⟨HI0.out.s8.2.2.2.2.2.1, HI0.out.s8.2.2.2.2.2.2.1⟩)
      | (with_reducible exact ⟨HI2.out.s8.2.2.2.2.2.1, HI2.out.s8.2.2.2.2.2.2.1⟩)
      | (with_reducible exact ⟨HI3.out.s8.2.2.2.2.2.1, HI3.out.s8.2.2.2.2.2.2.1⟩))
    (first
      | (go_at_call 63; (refine (C1.out _ (HKx.out _ HB0.out)).mono ?_); rintro e w2 ⟨rfl, hb2⟩; have HI2 := Lib.hid (Blk.below HI0.out hb2 HI0.out.lt); have HB2 := Lib.hid (Below.trans0 HB0.out hb2); clear hb2)
      | (go_at_call 78; (refine (C2.out _ (HTx.out _ HB2.out)).mono ?_); rintro e w3 ⟨rfl, hb3⟩; have HI3 := Lib.hid (Blk.below HI2.out hb3 HI2.out.lt); have HB3 := Lib.hid (Below.trans0 HB2.out hb3); clear hb3))
  all_goals
    go_wp2
    go_ret
    exact ⟨rfl, HB3.out⟩
theorem shr4_fin8 : ∀ b : Fin 256, ((b.val : Int) / 16) = ((b.val / 16 : Nat) : Int) := by decide +kernel
set_option maxHeartbeats 2000000 in
set_option maxRecDepth 100000 in
theorem operand8_any (p c o r v l a : Int) (b : Nat) (hb : b < 256) (w : World) (hT : OregAt w) :
    Calls Tryz.prog 52 #[.agg (iC p c o 8 r (b : Int) v l), .int .u16 a] w fun e w' => e = .returned (.string (oprT 8 r b v l a)) ∧ Below w.heap.size w w' := by
  have e1 : ((b : Int) / 16) = ((b / 16 : Nat) : Int) := by omega
  have e2 := and15_fin8 ⟨b, hb⟩
  simp only at e2
  have HTx := Lib.hid (fun wx (hb : Below w.heap.size w wx) => hT.below hb)
  have C1 := Lib.hid (fun u h => disReg_any ((b / 16 : Nat) : Int) u (by omega) (by omega) h)
  have C2 := Lib.hid (fun u h => disReg_any ((b % 16 : Nat) : Int) u (by omega) (by omega) h)
  have hs1 := regT_size ((b / 16 : Nat) : Int) (by omega) (by omega)
  have hs2 := regT_size ((b % 16 : Nat) : Int) (by omega) (by omega)
  have HI0 := Lib.hid (Blk.drew (Blk.new w 37 (iC p c o 8 r (b : Int) v l) (0, 0)))
  have HB0 := Lib.hid (Below.drew0 (Below.alloc0 (Below.refl w.heap.size w) (Obj.cells (iC p c o 8 r (b : Int) v l) 37)))
  have h0 : (0 : Int) ≤ ((b / 16 : Nat) : Int) := by omega
  have h1 : ((b / 16 : Nat) : Int) < 16 := by omega
  have w1 : IntKind.i64.wrap ((b / 16 : Nat) : Int) = ((b / 16 : Nat) : Int) := IntWalk.i64_in _ (by omega)
  have w2 : IntKind.i64.wrap ((b % 16 : Nat) : Int) = ((b % 16 : Nat) : Int) := IntWalk.i64_in _ (by omega)
  unfold oprT
  simp (decide := true) only [↓reduceIte]
  generalize regT ((b / 16 : Nat) : Int) = S1 at C1 hs1 ⊢
  generalize regT ((b % 16 : Nat) : Int) = S2 at C2 hs2 ⊢
  generalize ((b / 16 : Nat) : Int) = x1 at C1 e1 h0 h1 w1
  generalize ((b % 16 : Nat) : Int) = x2 at C2 e2 w2
  have z1 : ¬ 9223372036854775807 < S1.size + 1 := by omega
  have z2 : ¬ 9223372036854775807 < S1.size + 1 + S2.size := by omega
  clear hT hs1 hs2
  go_enter Tryz.func52, Tryz.ntmps52
  go_upto_region 15 with (fail)
  go_region_held3 (fun w' => w'.cell? ⟨w.heap.size, 5, none⟩ = some (.int .u8 (b : Int)))
    (first
      | (with_reducible exact HI0.out.s8.2.2.2.2.2.1)
      | (with_reducible exact HI2.out.s8.2.2.2.2.2.1)
      | (with_reducible exact HI3.out.s8.2.2.2.2.2.1))
    ((go_at_call 76; first
      | ((with_reducible refine (C1.out _ (HTx.out _ HB2.out)).mono ?_); rintro e w3 ⟨rfl, hb3⟩; have HI3 := Lib.hid (Blk.below HI2.out hb3 HI2.out.lt); have HB3 := Lib.hid (Below.trans0 HB2.out hb3); clear hb3)
      | ((with_reducible refine (C2.out _ (HTx.out _ HB2.out)).mono ?_); rintro e w3 ⟨rfl, hb3⟩; have HI3 := Lib.hid (Blk.below HI2.out hb3 HI2.out.lt); have HB3 := Lib.hid (Below.trans0 HB2.out hb3); clear hb3)
      | ((with_reducible refine (C1.out _ (HTx.out _ HB0.out)).mono ?_); rintro e w2 ⟨rfl, hb2⟩; have HI2 := Lib.hid (Blk.below HI0.out hb2 HI0.out.lt); have HB2 := Lib.hid (Below.trans0 HB0.out hb2); clear hb2)
      | ((with_reducible refine (C2.out _ (HTx.out _ HB0.out)).mono ?_); rintro e w2 ⟨rfl, hb2⟩; have HI2 := Lib.hid (Blk.below HI0.out hb2 HI0.out.lt); have HB2 := Lib.hid (Below.trans0 HB0.out hb2); clear hb2)))
  all_goals
    go_wp2
    go_ret
    exact ⟨rfl, HB3.out⟩
end Go.Proofs.YtljhfalgplihhaaGreatDoor
