/- Contracts: the least cycles of an instruction, and how many more (package table). -/
import Derived.Test.YtkdekhcnamkcgabDoorTblG
import Derived.Test.YtkdekhcnamkcgabDoorLstO
import Derived.Test.YtkdekhcnamkcgabDoorPostU
import Derived.Test.YtkdekhcnamkcgabDoorPostE
import Derived.Deep.RegionHeld3
import Derived.Outline
namespace Go.Proofs.YtkdekhcnamkcgabDoor
open Go.ChangeShapes Go.WideShapes Go.ChangeAt Go.RowKit
set_option linter.unusedVariables false

abbrev iC (p c o m r b v l : Int) : Array Value := #[.int .i64 p, .int .u8 c, .int .i64 o, .int .i64 m, .int .i64 r, .int .u8 b, .int .u16 v, .int .i64 l]
def firstN (o m : Int) (b : Nat) : Int :=
  if m = 0 then aloneN o else if m = 1 then oneN o else if m = 2 then twoN o else if m = 3 then memN o else if m = 4 then memN o + poExtra (poK b) (poI b) else if m = 5 then memN o + 1 else if m = 9 then 5 + cntN b else otherN o
theorem memN_le (o : Int) : 0 ≤ memN o ∧ memN o ≤ 7 := by unfold memN; repeat (first | (split; · simp) | simp)
theorem six {w : World} {g : Nat} {t : TypeId} {v0 v1 v2 v3 v4 v5 v6 v7 : Value} (h : Blk w g t #[v0, v1, v2, v3, v4, v5, v6, v7]) : w.cell? ⟨g, 2, none⟩ = some v2 ∧ w.cell? ⟨g, 3, none⟩ = some v3 ∧ w.cell? ⟨g, 5, none⟩ = some v5 := by
  refine ⟨?_, ?_, ?_⟩ <;> (rw [h.cell]; rfl)
theorem poExtra_le : ((List.range 256).all fun b => Nat.ble (poExtra (poK b) (poI b)) 20) = true := by decide +kernel
theorem kinds_below {w w' : World} (h : KindsAt w) (hb : Below w.heap.size w w') : KindsAt w' := fun k hk => (hb.cell (p := ⟨0, k, none⟩) (cell_lt (h k hk))).trans (h k hk)
set_option maxRecDepth 100000 in
set_option maxHeartbeats 4000000 in
theorem first_any (p c o m r v l : Int) (b : Nat) (hb : b < 256) (w : World) (hT : KindsAt w) :
    Calls Tryd.prog 59 #[.agg (iC p c o m r (b : Int) v l)] w fun e w' => e = .returned (.int .i64 (firstN o m b)) ∧ Below w.heap.size w w' := by
  have HT := Lib.hid (kinds_below hT (Below.alloc0 (Below.refl _ w) (Obj.cells (iC p c o m r (b : Int) v l) 27)))
  have HB := Lib.hid (Below.alloc0 (Below.refl w.heap.size w) (Obj.cells (iC p c o m r (b : Int) v l) 27))
  clear hT
  have hm := memN_le o
  rcases (show m = 0 ∨ m = 1 ∨ m = 2 ∨ m = 3 ∨ m = 5 ∨ m = 9 ∨ m = 4 ∨ (¬ m = 0 ∧ ¬ m = 1 ∧ ¬ m = 2 ∧ ¬ m = 3 ∧ ¬ m = 4 ∧ ¬ m = 5 ∧ ¬ m = 9) by omega) with rfl | rfl | rfl | rfl | rfl | rfl | rfl | ⟨h0, h1, h2, h3, h4, h5, h9⟩
  · go_enter Tryd.func59, Tryd.ntmps59
    go_wp2_with (go_at_call 65; refine (alone_any _ _).mono ?_; rintro e w' ⟨rfl, rfl⟩)
    go_ret
    exact ⟨rfl, HB.out⟩
  · go_enter Tryd.func59, Tryd.ntmps59
    go_wp2_with (go_at_call 66; refine (one_any _ _).mono ?_; rintro e w' ⟨rfl, rfl⟩)
    go_ret
    exact ⟨rfl, HB.out⟩
  · go_enter Tryd.func59, Tryd.ntmps59
    go_wp2_with (go_at_call 67; refine (two_any _ _).mono ?_; rintro e w' ⟨rfl, rfl⟩)
    go_ret
    exact ⟨rfl, HB.out⟩
  · go_enter Tryd.func59, Tryd.ntmps59
    go_wp2_with (go_at_call 68; refine (tmem_any _ _).mono ?_; rintro e w' ⟨rfl, rfl⟩)
    go_ret
    exact ⟨rfl, HB.out⟩
  · have CM := Lib.hid (fun w => tmem_any o w)
    have HF : Hid (firstN o 5 b = memN o + 1) := Lib.hid rfl
    obtain ⟨x, hx⟩ : ∃ x, memN o = x := ⟨_, rfl⟩
    rw [hx] at CM HF hm
    obtain ⟨hm0, hm1⟩ := hm
    clear hx
    go_enter Tryd.func59, Tryd.ntmps59
    go_wp2_with (go_at_call 68; refine (CM.out _).mono ?_; rintro e w' ⟨rfl, rfl⟩)
    go_ret
    exact ⟨ret_int HF.out.symm, HB.out⟩
  · have CC := Lib.hid (fun w => count_any b hb w)
    have HF : Hid (firstN o 9 b = 5 + cntN b) := Lib.hid rfl
    have hn := cntN_le b
    obtain ⟨x, hx⟩ : ∃ x, cntN b = x := ⟨_, rfl⟩
    rw [hx] at CC HF hn
    clear hx
    have hx0 : (0 : Int) ≤ (x : Int) := by omega
    have hx1 : (x : Int) ≤ 16 := by omega
    go_enter Tryd.func59, Tryd.ntmps59
    go_wp2_with (go_at_call 37; refine (CC.out _).mono ?_; rintro e w1 ⟨rfl, hb1⟩)
    go_ret
    exact ⟨ret_int HF.out.symm, HB.out.trans (hb1.mono (by simp))⟩
  · have CM := Lib.hid (fun w => tmem_any o w)
    have CO := Lib.hid (fun w hT => of_any b hb w hT)
    have CE := Lib.hid (fun w => extra_any (poK b) (poR b) (poO b) (poI b) w (poK b) rfl (poK_lt b hb))
    have hx := Nat.le_of_ble_eq_true (allB 256 _ poExtra_le b hb)
    have HF : Hid (firstN o 4 b = memN o + poExtra (poK b) (poI b)) := Lib.hid rfl
    obtain ⟨x, hx1⟩ : ∃ x, memN o = x := ⟨_, rfl⟩
    obtain ⟨y, hy⟩ : ∃ y, poExtra (poK b) (poI b) = y := ⟨_, rfl⟩
    rw [hx1] at CM HF hm
    rw [hy] at CE HF hx
    clear hx1 hy
    have HI := Lib.hid (six (Blk.drew (Blk.new w 27 (iC p c o 4 r (b : Int) v l) (0, 0))))
    have HId := Lib.hid (Blk.drew (Blk.new w 27 (iC p c o 4 r (b : Int) v l) (0, 0)))
    have HBd := Lib.hid (Below.drew0 HB.out)
    have HTd := Lib.hid (show KindsAt (w.alloc (Obj.cells (iC p c o 4 r (b : Int) v l) 27)).drew from HT.out)
    have t1 : IntKind.i64.wrap (x + (y : Int)) = x + (y : Int) := IntWalk.i64_in _ (by omega)
    go_enter Tryd.func59, Tryd.ntmps59
    go_wp2
    go_region_held3 (fun w' => w'.cell? ⟨w.heap.size, 2, none⟩ = some (.int .i64 o) ∧ w'.cell? ⟨w.heap.size, 5, none⟩ = some (.int .u8 (b : Int)))
      (first
        | (with_reducible exact ⟨(six HId.out).1, (six HId.out).2.2⟩)
        | (with_reducible exact ⟨(six HI2.out).1, (six HI2.out).2.2⟩)
        | (with_reducible exact ⟨(six HI3.out).1, (six HI3.out).2.2⟩))
      (first
        | (go_at_call 68; ((with_reducible refine (CM.out _).mono ?_); rintro e w1 ⟨rfl, rfl⟩))
        | (go_at_call 27; ((with_reducible refine (CO.out _ HTd.out).mono ?_); rintro e w2 ⟨rfl, hb2⟩; have HI2 := Lib.hid (Blk.below HId.out hb2 HId.out.lt); have HB2 := Lib.hid (Below.trans0 HBd.out hb2); clear hb2))
        | (go_at_call 69; ((with_reducible refine (CE.out _).mono ?_); rintro e w3 ⟨rfl, hb2⟩; have HI3 := Lib.hid (Blk.below HI2.out hb2 HI2.out.lt); have HB3 := Lib.hid (Below.trans0 HB2.out hb2); clear hb2)))
    go_wp2
    all_goals
      go_ret
      exact ⟨ret_int HF.out.symm, HB3.out⟩
  · have e0 := ne_beq h0
    have e1 := ne_beq h1
    have e2 := ne_beq h2
    have e3 := ne_beq h3
    have e4 := ne_beq h4
    have e5 := ne_beq h5
    have e9 := ne_beq h9
    have HF : Hid (firstN o m b = otherN o) := Lib.hid (by unfold firstN; rw [if_neg h0, if_neg h1, if_neg h2, if_neg h3, if_neg h4, if_neg h5, if_neg h9])
    clear h0 h1 h2 h3 h4 h5 h9
    go_enter Tryd.func59, Tryd.ntmps59
    go_wp2_with (go_at_call 70; refine (other_any _ _).mono ?_; rintro e w' ⟨rfl, rfl⟩)
    go_ret
    exact ⟨ret_int HF.out.symm, HB.out⟩
end Go.Proofs.YtkdekhcnamkcgabDoor
