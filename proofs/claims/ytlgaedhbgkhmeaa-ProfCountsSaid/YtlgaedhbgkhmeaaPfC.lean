/- The library's Concat of three rows of counts, and what it calls. -/
import Derived.Test.YtlgaedhbgkhmeaaPfS
import Derived.Lib.AppendZerosOnto
import Derived.Lib.SliceRun
import Derived.Deep.CutBlock
namespace Go.Proofs.Ytlgaedhbgkhmeaa
open Go.ChangeShapes Go.WideShapes Go.ChangeAt Go.RowKit
set_option linter.unusedVariables false
/-- An append whose run is known. -/
theorem wpList_appRun {P : Program} {ops : Array Oper} {rest : List Oper} {o : Oper} {a : Act} {Q : Exit → Act → World → Prop} (hgd : o.guard = none) (w : World) (s x : Operand) (t tn : TypeId)
    (ho : o.op = .call { callee := .builtin .append, args := #[s, x], argTypes := #[t, tn] }) (v y r : Value) (w' : World) (hs : a.eval s = v) (hx : a.eval x = y) (hr : (Builtin.append_ #[t, tn] o.type #[v, y]).run P w = .ok r w')
    (h : wpList P ops Q rest (a.put o.dst r) w') : wpList P ops Q (o :: rest) a w := by
  refine wpList_plain hgd fun _ hK => ?_
  unfold Oper.wp execOp
  simp only [ho, resolve, invoke, builtin, Sem.run_bind, Sem.run_pure, Result.andThen_ok, List.map_toArray, List.map_cons, List.map_nil, hs, hx, hr]
  exact hK _ _ h
set_option maxRecDepth 100000 in
set_option maxHeartbeats 1000000 in
theorem growSp (n : Nat) (w : World) (hn : n ≤ 100000) :
    Calls Try.prog 19 #[.slice none 0 0, .int .i64 (n : Int)] w fun e w' => ∃ v, e = .returned v ∧ eSp.Own 35 w' w.heap.size v [] ∧ Below w.heap.size w w' := by
  have h1 : ¬ ((n : Int) < 0) := by omega
  by_cases h0 : n = 0
  · subst h0
    go_enter Try.func19, Try.ntmps19
    go_wp2
    go_ret
    exact ⟨_, rfl, Els.Own.nil_ _ _, Below.refl _ _⟩
  · obtain ⟨i0, hi, hz0, hz1, hz2⟩ := info_parts infoSp
    have hf : (Builtin.firstCells i0.size 0 (.slice none 0 0)).run Try.prog w.drew = .ok ([] : List Value).toArray w.drew := rfl
    have hap := fun ty => Lib.run_append_grow_zeros (P := Try.prog) w 28 3 ty 35 i0 _ .i64 .i64 Try.underlying28 Try.underlying3 hi hz0 none 0 0 [] hf n (by omega) (by rw [hz1]; decide) (by omega) (by omega) (by rw [hz2]; omega) (by rw [hz2]; unfold Builtin.nextslicecap; rw [if_pos (by omega)]; omega)
    rw [Nat.zero_add] at hap
    have g1 := grownCap_ge w n 0 35
    have g2 := grownCap_le_maxLen w n 0 35 (by unfold maxLen; omega)
    generalize grownCap w n 0 35 = cp at hap g1 g2
    have hO : Hid (eSp.Own 35 (w.drew.alloc (.cells (([] : List Value).toArray ++ Builtin.zeroCells (Value.agg #[.int .u16 0, .int .i64 0, .int .i64 0, .int .i64 0]).cells n ++ Builtin.zeroCells (Value.agg #[.int .u16 0, .int .i64 0, .int .i64 0, .int .i64 0]).cells (cp - n)) 35)) w.heap.size (.slice (some ⟨w.heap.size, 0, none⟩) 0 cp) []) := Lib.hid (World.ownsRow_made w.drew _ cp (Nat.le_refl _) g2 (by
      simp only [Array.size_append, size_zeroCells]
      simp [Value.cells]
      omega))
    have hB : Hid (Below w.heap.size w (w.drew.alloc (.cells (([] : List Value).toArray ++ Builtin.zeroCells (Value.agg #[.int .u16 0, .int .i64 0, .int .i64 0, .int .i64 0]).cells n ++ Builtin.zeroCells (Value.agg #[.int .u16 0, .int .i64 0, .int .i64 0, .int .i64 0]).cells (cp - n)) 35))) := Lib.hid (Below.alloc0 (Below.drew0 (Below.refl _ _)) _)
    generalize w.drew.alloc (.cells (([] : List Value).toArray ++ Builtin.zeroCells (Value.agg #[.int .u16 0, .int .i64 0, .int .i64 0, .int .i64 0]).cells n ++ Builtin.zeroCells (Value.agg #[.int .u16 0, .int .i64 0, .int .i64 0, .int .i64 0]).cells (cp - n)) 35) = W1 at hap hO hB
    have h2 : (0 : Int) < (n : Int) := by omega
    have h3 : 0 < n := by omega
    have hsl : ∀ u : World, (Instr.slice 28 (.slice (some ⟨w.heap.size, 0, none⟩) n cp) none (some (.int .i64 0)) none).run Try.prog u = .ok (.slice (some ⟨w.heap.size, 0, none⟩) 0 cp) u := fun u => by
      have hs : (sizeOf (Try.prog.elem 28)).run Try.prog u = .ok 4 u := by kernel_rfl
      have ht : Try.prog.underlying 28 = some (.slice (Try.prog.elem 28)) := by kernel_rfl
      rw [run_slice_h u 28 _ n cp ht .i64 0 (by omega) (by omega), hs]
      simp [Result.andThen, sliced, Addr.add]
    clear hi hz0 hz1 hz2 hf g1 g2 h0
    go_enter Try.func19, Try.ntmps19
    have HAP := Lib.hid hap
    clear hap
    go_wp2_with (at_builtin; refine wpList_appRun rfl _ _ _ 28 3 rfl _ _ _ _ rfl rfl (HAP.out _) ?_)
    go_wp2
    go_ret
    exact ⟨_, rfl, hO.out, hB.out⟩
def cc3 (l1 l2 l3 : List SpN) : Nat → List SpN
  | 0 => []
  | 1 => l1
  | 2 => l1 ++ l2
  | _ => l1 ++ l2 ++ l3
set_option maxRecDepth 100000 in
set_option maxHeartbeats 2000000 in
theorem spConcat_any (q c : Nat) (v1 v2 v3 : Value) (l1 l2 l3 : List SpN) (w : World) (hq : q < w.heap.size) (h1 : w.cell? ⟨q, 0, none⟩ = some v1) (h2 : w.cell? ⟨q, 1, none⟩ = some v2) (h3 : w.cell? ⟨q, 2, none⟩ = some v3)
    (r1 : eSp.Rd w v1 l1) (r2 : eSp.Rd w v2 l2) (r3 : eSp.Rd w v3 l3) (n1 : l1.length ≤ 1000) (n2 : l2.length ≤ 1000) (n3 : l3.length ≤ 1000) :
    Calls Try.prog 7 #[.slice (some ⟨q, 0, none⟩) 3 c] w fun e w' => ∃ v, e = .returned v ∧ eSp.Own 35 w' w.heap.size v (l1 ++ l2 ++ l3) ∧ Below w.heap.size w w' := by
  obtain ⟨A1, c1, rfl, _⟩ := r1.open_
  obtain ⟨A2, c2, rfl, _⟩ := r2.open_
  obtain ⟨A3, c3, rfl, _⟩ := r3.open_
  have R1 := Lib.hid r1
  have R2 := Lib.hid r2
  have R3 := Lib.hid r3
  have K : Hid (∀ wx, Below w.heap.size w wx → wx.cell? ⟨q, 0, none⟩ = some (.slice A1 l1.length c1) ∧ wx.cell? ⟨q, 1, none⟩ = some (.slice A2 l2.length c2) ∧ wx.cell? ⟨q, 2, none⟩ = some (.slice A3 l3.length c3)) := Lib.hid (fun wx hb =>
    ⟨(hb.cell (p := ⟨q, 0, none⟩) hq).trans h1, (hb.cell (p := ⟨q, 1, none⟩) hq).trans h2, (hb.cell (p := ⟨q, 2, none⟩) hq).trans h3⟩)
  clear r1 r2 r3 h1 h2 h3
  have GR := Lib.hid (growSp (l1.length + l2.length + l3.length) w (by omega))
  obtain ⟨m1, hm1⟩ : ∃ m, l1.length = m := ⟨_, rfl⟩
  obtain ⟨m2, hm2⟩ : ∃ m, l2.length = m := ⟨_, rfl⟩
  obtain ⟨m3, hm3⟩ : ∃ m, l3.length = m := ⟨_, rfl⟩
  rw [hm1] at R1 K GR n1
  rw [hm2] at R2 K GR n2
  rw [hm3] at R3 K GR n3
  have M1 := Lib.hid hm1
  have M2 := Lib.hid hm2
  have M3 := Lib.hid hm3
  clear hm1 hm2 hm3
  go_enter Try.func7, Try.ntmps7
  go_wp2
  have KW := K.out _ (Below.refl _ _)
  obtain ⟨k1, k2, k3⟩ := KW
  have d2 : decide ((m1 : Int) + m2 < 0) = false := decide_eq_false (by omega)
  have d3 : decide ((m1 : Int) + m2 + m3 < 0) = false := decide_eq_false (by omega)
  have d2' : ¬ ((m1 : Int) + m2 < 0) := by omega
  have d3' : ¬ ((m1 : Int) + m2 + m3 < 0) := by omega
  go_loopw [3, 5, 11] (fun u3 _ u11 wr => wr = w ∧ ((u11 = .int .i64 0 ∧ u3 = .int .i64 0) ∨ (u11 = .int .i64 1 ∧ u3 = .int .i64 (m1 : Int)) ∨ (u11 = .int .i64 2 ∧ u3 = .int .i64 ((m1 : Int) + m2)) ∨ (u11 = .int .i64 3 ∧ u3 = .int .i64 ((m1 : Int) + m2 + m3)))) (fun _ _ u11 _ => 3 - (intOf u11).toNat)
  case atStart => exact ⟨rfl, .inl ⟨rfl, rfl⟩⟩
  case round =>
    obtain ⟨hw, ⟨rfl, rfl⟩ | ⟨rfl, rfl⟩ | ⟨rfl, rfl⟩ | ⟨rfl, rfl⟩⟩ := hrel
    · subst hw
      go_wp2
      go_roundw
      case rel => exact ⟨by trivial, .inr (.inl ⟨rfl, rfl⟩)⟩
      case measure => simp [intOf]
    · subst hw
      go_wp2
      go_roundw
      case rel => exact ⟨by trivial, .inr (.inr (.inl ⟨rfl, rfl⟩))⟩
      case measure => simp [intOf]
    · subst hw
      go_wp2
      go_roundw
      case rel => exact ⟨by trivial, .inr (.inr (.inr ⟨rfl, rfl⟩))⟩
      case measure => simp [intOf]
    · subst hw
      obtain ⟨wo, hwo⟩ : ∃ wo, wo = wr := ⟨_, rfl⟩
      subst hwo
      have GR2 := GR
      rw [show (((m1 + m2 + m3 : Nat) : Int)) = (m1 : Int) + m2 + m3 by omega] at GR2
      clear k1 k2 k3
      go_wp2_with fail
      refine (GR2.out).mono ?_
      rintro e w1 ⟨v, rfl, ho, hb⟩
      have HO := Lib.hid ho
      have HB := Lib.hid hb
      clear ho hb
      go_wp2
      go_loopw [6, 8, 27] (fun u6 _ u27 wx => ∃ k : Nat, k ≤ 3 ∧ u27 = .int .i64 (k : Int) ∧ Hid (eSp.Own 35 wx wo.heap.size u6 (cc3 l1 l2 l3 k)) ∧ Hid (Below wo.heap.size wo wx)) (fun _ _ u27 _ => 3 - (intOf u27).toNat)
      case atStart => exact ⟨0, by omega, rfl, HO, HB⟩
      case round =>
        obtain ⟨k, hk, hu, hO, hB⟩ := hrel
        obtain ⟨k1, k2, k3⟩ := K.out _ hB.out
        rcases (show k = 0 ∨ k = 1 ∨ k = 2 ∨ k = 3 by omega) with rfl | rfl | rfl | rfl
        · obtain rfl : u27 = .int .i64 0 := hu
          have HR := Lib.hid (R1.out.below hB.out)
          have HO1 : Hid (eSp.Own 35 wr wo.heap.size u6 []) := hO
          clear hO k2 k3
          go_wp2_with (at_builtin; refine wpList_appSp rfl _ _ _ rfl wo.heap.size u6 _ [] l1 rfl HO1.out rfl HR.out (by have := M1.out; simp; omega) hB.out.size ?_; intro v7 w7 ho7 hb7 hg7 hh7)
          have HO7 := Lib.hid ho7
          have HB7 := Lib.hid (hB.out.trans hb7)
          clear ho7 hb7 hg7 hh7 k1
          go_wp2
          go_roundw
          case rel => exact ⟨1, by omega, by go_num, HO7, HB7⟩
          case measure => simp [intOf]
        · obtain rfl : u27 = .int .i64 1 := hu
          have HR := Lib.hid (R2.out.below hB.out)
          have HO1 : Hid (eSp.Own 35 wr wo.heap.size u6 l1) := hO
          clear hO k1 k3
          go_wp2_with (at_builtin; refine wpList_appSp rfl _ _ _ rfl wo.heap.size u6 _ l1 l2 rfl HO1.out rfl HR.out (by have := M1.out; have := M2.out; omega) hB.out.size ?_; intro v7 w7 ho7 hb7 hg7 hh7)
          have HO7 := Lib.hid ho7
          have HB7 := Lib.hid (hB.out.trans hb7)
          clear ho7 hb7 hg7 hh7 k2
          go_wp2
          go_roundw
          case rel => exact ⟨2, by omega, by go_num, HO7, HB7⟩
          case measure => simp [intOf]
        · obtain rfl : u27 = .int .i64 2 := hu
          have HR := Lib.hid (R3.out.below hB.out)
          have HO1 : Hid (eSp.Own 35 wr wo.heap.size u6 (l1 ++ l2)) := hO
          clear hO k1 k2
          go_wp2_with (at_builtin; refine wpList_appSp rfl _ _ _ rfl wo.heap.size u6 _ (l1 ++ l2) l3 rfl HO1.out rfl HR.out (by have := M1.out; have := M2.out; have := M3.out; rw [List.length_append]; omega) hB.out.size ?_; intro v7 w7 ho7 hb7 hg7 hh7)
          have HO7 := Lib.hid ho7
          have HB7 := Lib.hid (hB.out.trans hb7)
          clear ho7 hb7 hg7 hh7 k3
          go_wp2
          go_roundw
          case rel => exact ⟨3, by omega, by go_num, HO7, HB7⟩
          case measure => simp [intOf]
        · obtain rfl : u27 = .int .i64 3 := hu
          clear k1 k2 k3
          go_wp2
          go_ret
          exact ⟨_, rfl, hO.out, hB.out⟩
end Go.Proofs.Ytlgaedhbgkhmeaa
