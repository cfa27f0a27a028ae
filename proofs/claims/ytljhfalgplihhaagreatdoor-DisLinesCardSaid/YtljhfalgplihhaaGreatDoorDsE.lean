/- Package dis: an operand (all modes but the pair's, which stands in its own text). -/
import Derived.Test.YtljhfalgplihhaaGreatDoorDsD
import Derived.Test.YtljhfalgplihhaaGreatDoorDsB
import Derived.Test.YtljhfalgplihhaaGreatDoorInsX
import Derived.Test.YtljhfalgplihhaaGreatDoorGLst
namespace Go.Proofs.YtljhfalgplihhaaGreatDoor
open Go.ChangeShapes Go.WideShapes Go.ChangeAt Go.RowKit
set_option linter.unusedVariables false
noncomputable def oprT (m r : Int) (b : Nat) (v l a : Int) : ByteArray :=
  if m = 1 then ⟨#[35]⟩ ++ hexT (v % 256) 2 else if m = 2 then ⟨#[35]⟩ ++ hexT v 4 else if m = 3 then ⟨#[60]⟩ ++ hexT (v % 256) 2
  else if m = 4 then idxT (poK b) (byteStr (regI (poR b : Int))) (poO b : Int) v (poI b) else if m = 5 then ⟨#[62]⟩ ++ hexT v 4
  else if m = 6 ∨ m = 7 then hexT (tgtI m l v a) 4 else if m = 8 then regT ((b / 16 : Nat) : Int) ++ ⟨#[44]⟩ ++ regT ((b % 16 : Nat) : Int)
  else if m = 9 then byteStr (txtL b (r == 3) 8) else ⟨#[]⟩
set_option maxHeartbeats 1000000 in
theorem operand1_any (p c o r v l a : Int) (b : Nat) (w : World) (v0 : 0 ≤ v) (v1 : v < 65536) :
    Calls Tryz.prog 52 #[.agg (iC p c o 1 r (b : Int) v l), .int .u16 a] w fun e w' => e = .returned (.string (oprT 1 r b v l a)) ∧ Below w.heap.size w w' := by
  have CL := Lib.hid (fun u => low_any v u v0 v1)
  have CB := Lib.hid (fun u => disByte_any (v % 256) u (by omega) (by omega))
  have hs := hexT_size (v % 256) 2 (by omega) (by omega) (by omega)
  have HB0 := Lib.hid (Below.alloc0 (Below.refl w.heap.size w) (Obj.cells (iC p c o 1 r (b : Int) v l) 37))
  unfold oprT
  simp (decide := true) only [↓reduceIte]
  generalize hexT (v % 256) 2 = S at CB hs ⊢
  have hz : 1 + S.size ≤ 100 := by omega
  clear hs
  go_enter Tryz.func52, Tryz.ntmps52
  go_wp2_with fail
  refine (CL.out _).mono ?_
  rintro e w1 ⟨rfl, rfl⟩
  go_wp2_with fail
  refine (CB.out _).mono ?_
  rintro e w1 ⟨rfl, hb⟩
  have HB := Lib.hid (Below.trans0 HB0.out hb)
  clear hb
  go_wp2
  go_ret
  exact ⟨rfl, HB.out⟩
set_option maxHeartbeats 1000000 in
theorem operand3_any (p c o r v l a : Int) (b : Nat) (w : World) (v0 : 0 ≤ v) (v1 : v < 65536) :
    Calls Tryz.prog 52 #[.agg (iC p c o 3 r (b : Int) v l), .int .u16 a] w fun e w' => e = .returned (.string (oprT 3 r b v l a)) ∧ Below w.heap.size w w' := by
  have CL := Lib.hid (fun u => low_any v u v0 v1)
  have CB := Lib.hid (fun u => disByte_any (v % 256) u (by omega) (by omega))
  have hs := hexT_size (v % 256) 2 (by omega) (by omega) (by omega)
  have HB0 := Lib.hid (Below.alloc0 (Below.refl w.heap.size w) (Obj.cells (iC p c o 3 r (b : Int) v l) 37))
  unfold oprT
  simp (decide := true) only [↓reduceIte]
  generalize hexT (v % 256) 2 = S at CB hs ⊢
  have hz : 1 + S.size ≤ 100 := by omega
  clear hs
  go_enter Tryz.func52, Tryz.ntmps52
  go_wp2_with fail
  refine (CL.out _).mono ?_
  rintro e w1 ⟨rfl, rfl⟩
  go_wp2_with fail
  refine (CB.out _).mono ?_
  rintro e w1 ⟨rfl, hb⟩
  have HB := Lib.hid (Below.trans0 HB0.out hb)
  clear hb
  go_wp2
  go_ret
  exact ⟨rfl, HB.out⟩
set_option maxHeartbeats 1000000 in
theorem operand2_any (p c o r v l a : Int) (b : Nat) (w : World) (v0 : 0 ≤ v) (v1 : v < 65536) :
    Calls Tryz.prog 52 #[.agg (iC p c o 2 r (b : Int) v l), .int .u16 a] w fun e w' => e = .returned (.string (oprT 2 r b v l a)) ∧ Below w.heap.size w w' := by
  have CB := Lib.hid (fun u => disWord_any v u (by omega) (by omega))
  have hs := hexT_size v 4 (by omega) (by omega) (by omega)
  have HB0 := Lib.hid (Below.alloc0 (Below.refl w.heap.size w) (Obj.cells (iC p c o 2 r (b : Int) v l) 37))
  unfold oprT
  simp (decide := true) only [↓reduceIte]
  generalize hexT v 4 = S at CB hs ⊢
  have hz : 1 + S.size ≤ 100 := by omega
  clear hs
  go_enter Tryz.func52, Tryz.ntmps52
  go_wp2_with fail
  refine (CB.out _).mono ?_
  rintro e w1 ⟨rfl, hb⟩
  have HB := Lib.hid (Below.trans0 HB0.out hb)
  clear hb
  go_wp2
  go_ret
  exact ⟨rfl, HB.out⟩
set_option maxHeartbeats 1000000 in
theorem operand5_any (p c o r v l a : Int) (b : Nat) (w : World) (v0 : 0 ≤ v) (v1 : v < 65536) :
    Calls Tryz.prog 52 #[.agg (iC p c o 5 r (b : Int) v l), .int .u16 a] w fun e w' => e = .returned (.string (oprT 5 r b v l a)) ∧ Below w.heap.size w w' := by
  have CB := Lib.hid (fun u => disWord_any v u (by omega) (by omega))
  have hs := hexT_size v 4 (by omega) (by omega) (by omega)
  have HB0 := Lib.hid (Below.alloc0 (Below.refl w.heap.size w) (Obj.cells (iC p c o 5 r (b : Int) v l) 37))
  unfold oprT
  simp (decide := true) only [↓reduceIte]
  generalize hexT v 4 = S at CB hs ⊢
  have hz : 1 + S.size ≤ 100 := by omega
  clear hs
  go_enter Tryz.func52, Tryz.ntmps52
  go_wp2_with fail
  refine (CB.out _).mono ?_
  rintro e w1 ⟨rfl, hb⟩
  have HB := Lib.hid (Below.trans0 HB0.out hb)
  clear hb
  go_wp2
  go_ret
  exact ⟨rfl, HB.out⟩
set_option maxHeartbeats 1000000 in
theorem operand6_any (p c o r v l a : Int) (b : Nat) (w : World) (l0 : 0 ≤ l) (l1 : l ≤ 100) (v0 : 0 ≤ v) (v1 : v < 65536) (a0 : 0 ≤ a) (a1 : a < 65536) :
    Calls Tryz.prog 52 #[.agg (iC p c o 6 r (b : Int) v l), .int .u16 a] w fun e w' => e = .returned (.string (oprT 6 r b v l a)) ∧ Below w.heap.size w w' := by
  have CT := Lib.hid (fun u => target_any p c o 6 r (b : Int) v l a l0 l1 v0 v1 a0 a1 u)
  have ht : 0 ≤ tgtI 6 l v a ∧ tgtI 6 l v a < 65536 := by unfold tgtI; simp (decide := true) only [↓reduceIte]; omega
  have CB := Lib.hid (fun u => disWord_any (tgtI 6 l v a) u ht.1 ht.2)
  have HB0 := Lib.hid (Below.alloc0 (Below.refl w.heap.size w) (Obj.cells (iC p c o 6 r (b : Int) v l) 37))
  unfold oprT
  simp (decide := true) only [↓reduceIte]
  clear ht
  generalize hexT (tgtI 6 l v a) 4 = S at CB ⊢
  generalize tgtI 6 l v a = T at CT CB
  generalize isRel 6 = F at CT
  go_enter Tryz.func52, Tryz.ntmps52
  go_wp2_with fail
  refine (CT.out _).mono ?_
  rintro e w1 ⟨rfl, hb⟩
  have HB := Lib.hid (Below.trans0 HB0.out hb)
  clear hb
  go_wp2_with fail
  refine (CB.out _).mono ?_
  rintro e w2 ⟨rfl, hb⟩
  have HB2 := Lib.hid (Below.trans0 HB.out hb)
  clear hb
  go_wp2
  go_ret
  exact ⟨rfl, HB2.out⟩
set_option maxHeartbeats 1000000 in
theorem operand7_any (p c o r v l a : Int) (b : Nat) (w : World) (l0 : 0 ≤ l) (l1 : l ≤ 100) (v0 : 0 ≤ v) (v1 : v < 65536) (a0 : 0 ≤ a) (a1 : a < 65536) :
    Calls Tryz.prog 52 #[.agg (iC p c o 7 r (b : Int) v l), .int .u16 a] w fun e w' => e = .returned (.string (oprT 7 r b v l a)) ∧ Below w.heap.size w w' := by
  have CT := Lib.hid (fun u => target_any p c o 7 r (b : Int) v l a l0 l1 v0 v1 a0 a1 u)
  have ht : 0 ≤ tgtI 7 l v a ∧ tgtI 7 l v a < 65536 := by unfold tgtI; simp (decide := true) only [↓reduceIte]; omega
  have CB := Lib.hid (fun u => disWord_any (tgtI 7 l v a) u ht.1 ht.2)
  have HB0 := Lib.hid (Below.alloc0 (Below.refl w.heap.size w) (Obj.cells (iC p c o 7 r (b : Int) v l) 37))
  unfold oprT
  simp (decide := true) only [↓reduceIte]
  clear ht
  generalize hexT (tgtI 7 l v a) 4 = S at CB ⊢
  generalize tgtI 7 l v a = T at CT CB
  generalize isRel 7 = F at CT
  go_enter Tryz.func52, Tryz.ntmps52
  go_wp2_with fail
  refine (CT.out _).mono ?_
  rintro e w1 ⟨rfl, hb⟩
  have HB := Lib.hid (Below.trans0 HB0.out hb)
  clear hb
  go_wp2_with fail
  refine (CB.out _).mono ?_
  rintro e w2 ⟨rfl, hb⟩
  have HB2 := Lib.hid (Below.trans0 HB.out hb)
  clear hb
  go_wp2
  go_ret
  exact ⟨rfl, HB2.out⟩
set_option maxHeartbeats 1000000 in
theorem operand9_any (p c o r v l a : Int) (b : Nat) (hb : b < 256) (w : World) (hT : TabAt w) :
    Calls Tryz.prog 52 #[.agg (iC p c o 9 r (b : Int) v l), .int .u16 a] w fun e w' => e = .returned (.string (oprT 9 r b v l a)) ∧ Below w.heap.size w w' := by
  have CT := Lib.hid (fun u h => text_any b hb r u h)
  have HB0 := Lib.hid (Below.alloc0 (Below.refl w.heap.size w) (Obj.cells (iC p c o 9 r (b : Int) v l) 37))
  have HT0 := Lib.hid (hT.below (Below.alloc0 (Below.refl w.heap.size w) (Obj.cells (iC p c o 9 r (b : Int) v l) 37)))
  unfold oprT
  simp (decide := true) only [↓reduceIte]
  generalize byteStr (txtL b (r == 3) 8) = S at CT ⊢
  clear hT
  go_enter Tryz.func52, Tryz.ntmps52
  go_wp2_with fail
  refine (CT.out _ HT0.out).mono ?_
  rintro e w1 ⟨rfl, hb⟩
  have HB := Lib.hid (Below.trans0 HB0.out hb)
  clear hb
  go_wp2
  go_ret
  exact ⟨rfl, HB.out⟩
set_option maxHeartbeats 1000000 in
theorem operand0_any (p c o m r v l a : Int) (b : Nat) (w : World) (hm : m < 1 ∨ 9 < m) :
    Calls Tryz.prog 52 #[.agg (iC p c o m r (b : Int) v l), .int .u16 a] w fun e w' => e = .returned (.string (oprT m r b v l a)) ∧ Below w.heap.size w w' := by
  have HB0 := Lib.hid (Below.alloc0 (Below.refl w.heap.size w) (Obj.cells (iC p c o m r (b : Int) v l) 37))
  have he : oprT m r b v l a = ⟨#[]⟩ := by
    unfold oprT
    repeat rw [if_neg (by omega)]
  rw [he]
  have e1 := ne_beq (show ¬ m = 1 by omega)
  have e2 := ne_beq (show ¬ m = 2 by omega)
  have e3 := ne_beq (show ¬ m = 3 by omega)
  have e4 := ne_beq (show ¬ m = 4 by omega)
  have e5 := ne_beq (show ¬ m = 5 by omega)
  have e6 := ne_beq (show ¬ m = 6 by omega)
  have e7 := ne_beq (show ¬ m = 7 by omega)
  have e8 := ne_beq (show ¬ m = 8 by omega)
  have e9 := ne_beq (show ¬ m = 9 by omega)
  clear hm he
  go_enter Tryz.func52, Tryz.ntmps52
  go_wp2
  go_ret
  exact ⟨rfl, HB0.out⟩
end Go.Proofs.YtljhfalgplihhaaGreatDoor
