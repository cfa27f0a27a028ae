/- The law EdgeSteps answers true for every input, and each argument reads afterwards as it read before. Conditions: none. -/
import Derived.Test.YtoogaenknjdpcaaRows
import Derived.WalkKit
import Derived.ProofKit
import Derived.OpenShut
import Derived.ShutString
import Derived.ChangeOld
import Derived.Below
import Derived.Test.YtoogaenknjdpcaaEdg
import Derived.Deep.RegionHeld3
namespace Go.Proofs.Ytoogaenknjdpcaa.edgeSteps
open Go.ChangeShapes Go.WideShapes Go.ChangeAt Go.RowKit
open Go.ChangeMaps (open_string shut_string)
set_option linter.unusedVariables false

theorem own : ownKnob Try.prog.godebug = none := by kernel_rfl
theorem laidOut : laidOutB Try.prog = true := by kernel_rfl

theorem arr23 {cs : Array Value} (h : cs.size = 3) : ∃ c0 c1 c2 : Value, cs = #[c0, c1, c2] := by
  obtain ⟨l⟩ := cs
  match l, h with
  | [c0, c1, c2], _ => exact ⟨c0, c1, c2, rfl⟩
theorem cellsOf23_4 : Try.prog.cellsOf 4 = 1 := by kernel_rfl
theorem cellsOf23_23 : Try.prog.cellsOf 23 = 3 := by kernel_rfl
set_option maxRecDepth 100000 in
theorem open23 {H : Type} {enc : TypeId × Value → H} {W : World} {b0 base : Nat} {sp : Nat → Bool} {held : Bool} {v : Value} {d : DataW H} {p : List MemPlace} (hv : Value.okWide Try.prog W .any b0 23 v) (h : DataW.Trod enc Try.prog W base sp held 23 v d p) :
    ∃ (xLevel : Bool) (xArmed : Bool) (xSet : Bool), v = .agg #[.bool xLevel, .bool xArmed, .bool xSet] ∧ True := by
  obtain ⟨cs, rfl, hsz⟩ := okWide_struct Try.underlying23 hv
  obtain ⟨c0, c1, c2, rfl⟩ := arr23 (hsz.trans cellsOf23_23)
  obtain ⟨fuel, hf⟩ := h
  obtain ⟨xs0, n0, _, _, _, hl0, hg0⟩ := DataW.trod_struct Try.underlying23 hf
  have g0_0 : DataW.trod enc Try.prog W base sp held n0 4 (([c0, c1, c2].drop 0).take (Try.prog.cellsOf 4)) = xs0[0]? := hg0 0 _ rfl
  rw [List.getElem?_eq_getElem (show 0 < xs0.length by rw [hl0]; decide)] at g0_0
  rw [cellsOf23_4] at g0_0
  obtain ⟨y0, e0_0, _⟩ := DataW.trod_bool Try.underlying4 g0_0
  have E0 : c0 = .bool y0 := by simpa [Value.cells] using e0_0
  have g0_1 : DataW.trod enc Try.prog W base sp held n0 4 (([c0, c1, c2].drop 1).take (Try.prog.cellsOf 4)) = xs0[1]? := hg0 1 _ rfl
  rw [List.getElem?_eq_getElem (show 1 < xs0.length by rw [hl0]; decide)] at g0_1
  rw [cellsOf23_4] at g0_1
  obtain ⟨y1, e0_1, _⟩ := DataW.trod_bool Try.underlying4 g0_1
  have E1 : c1 = .bool y1 := by simpa [Value.cells] using e0_1
  have g0_2 : DataW.trod enc Try.prog W base sp held n0 4 (([c0, c1, c2].drop 2).take (Try.prog.cellsOf 4)) = xs0[2]? := hg0 2 _ rfl
  rw [List.getElem?_eq_getElem (show 2 < xs0.length by rw [hl0]; decide)] at g0_2
  rw [cellsOf23_4] at g0_2
  obtain ⟨y2, e0_2, _⟩ := DataW.trod_bool Try.underlying4 g0_2
  have E2 : c2 = .bool y2 := by simpa [Value.cells] using e0_2
  subst E0 E1 E2
  exact ⟨y0, y1, y2, rfl, trivial⟩

set_option maxRecDepth 100000 in
set_option maxHeartbeats 1000000 in
theorem walk (a0Level : Bool) (a0Armed : Bool) (a0Set : Bool) (a1 : Bool) (w : World) (w0 : True) :
    Calls Try.prog 3 #[.agg #[.bool a0Level, .bool a0Armed, .bool a0Set], .bool a1] w fun e w' => e = .returned (.bool true) ∧ Below w.heap.size w w' := by
  obtain ⟨X, hX⟩ : ∃ X, smS a0Level a0Armed a0Set a1 = X := ⟨_, rfl⟩
  have C1 := fun w => sample_any a0Level a0Armed a0Set a1 w
  have C2 := fun w => laArm_any a0Level a0Armed a0Set w
  have C3 := fun w => laTake_any a0Level a0Armed a0Set w
  have C4 := fun w => laReset_any a0Level a0Armed a0Set w
  rw [hX] at C1
  have HE : ∀ (x y z : Bool) (w : World), (binOp .eql 23 (.agg #[.bool x, .bool y, .bool z]) (.agg #[.bool x, .bool y, .bool z])).run Try.prog w = .ok (.bool true) w := fun x y z w => by rw [eql_la]; simp
  have key : (a0Set = true ∧ X = true) ∨ (a0Set = false ∧ a0Armed = false ∧ X = false) ∨ (a0Set = false ∧ a0Armed = true ∧ a1 = false ∧ X = false) ∨ (a0Set = false ∧ a0Armed = true ∧ a1 = true ∧ X = !a0Level) := by
    subst hX; unfold smS; cases a0Set <;> cases a0Armed <;> cases a1 <;> simp
  clear hX
  unfold laArm at C2
  unfold laTake at C3
  unfold laReset at C4
  unfold laA at C1 C2 C3 C4
  rcases key with ⟨rfl, rfl⟩ | ⟨rfl, rfl, rfl⟩ | ⟨rfl, rfl, rfl, rfl⟩ | ⟨rfl, rfl, rfl, rfl⟩
  · have P0 : Hid (Blk ((w.alloc (Obj.cells #[.bool a0Level, .bool a0Armed, .bool true] 23)).alloc (Obj.cells #[.bool a1, .bool a0Armed, .bool true] 23)) w.heap.size 23 #[.bool a0Level, .bool a0Armed, .bool true]) := Lib.hid (Blk.alloc (Blk.new _ _ _ (0, 0)) _)
    have Q0 : Hid (Blk ((w.alloc (Obj.cells #[.bool a0Level, .bool a0Armed, .bool true] 23)).alloc (Obj.cells #[.bool a1, .bool a0Armed, .bool true] 23)) (w.heap.size + 1) 23 #[.bool a1, .bool a0Armed, .bool true]) := Lib.hid (Blk.at1 _)
    have S0 : Hid ((fun w' => (w'.cell? ⟨w.heap.size, 0, none⟩ = some (.bool a0Level) ∧ w'.cell? ⟨w.heap.size, 1, none⟩ = some (.bool a0Armed) ∧ w'.cell? ⟨w.heap.size, 2, none⟩ = some (.bool true)) ∧ (w'.cell? ⟨w.heap.size + 1, 0, none⟩ = some (.bool a1) ∧ w'.cell? ⟨w.heap.size + 1, 1, none⟩ = some (.bool a0Armed) ∧ w'.cell? ⟨w.heap.size + 1, 2, none⟩ = some (.bool true))) ((w.alloc (Obj.cells #[.bool a0Level, .bool a0Armed, .bool true] 23)).alloc (Obj.cells #[.bool a1, .bool a0Armed, .bool true] 23)).drew) := Lib.hid ⟨Blk.c3 P0.out.drew, Blk.c3 Q0.out.drew⟩
    have B0 : Hid (Below w.heap.size w ((w.alloc (Obj.cells #[.bool a0Level, .bool a0Armed, .bool true] 23)).alloc (Obj.cells #[.bool a1, .bool a0Armed, .bool true] 23))) := Lib.hid (Below.alloc0 (Below.alloc0 (Below.refl _ _) _) _)
    have D1 := Lib.hid C1
    have D2 := Lib.hid C2
    have D3 := Lib.hid C3
    have D4 := Lib.hid C4
    clear C1 C2 C3 C4
    go_enter Try.func3, Try.ntmps3
    go_wp2
    go_region_held3 (fun w' => (w'.cell? ⟨w.heap.size, 0, none⟩ = some (.bool a0Level) ∧ w'.cell? ⟨w.heap.size, 1, none⟩ = some (.bool a0Armed) ∧ w'.cell? ⟨w.heap.size, 2, none⟩ = some (.bool true)) ∧ (w'.cell? ⟨w.heap.size + 1, 0, none⟩ = some (.bool a1) ∧ w'.cell? ⟨w.heap.size + 1, 1, none⟩ = some (.bool a0Armed) ∧ w'.cell? ⟨w.heap.size + 1, 2, none⟩ = some (.bool true)))
      (first
        | (with_reducible exact S0.out)
        | (with_reducible exact S1.out)
        | (with_reducible exact S2.out)
        | (with_reducible exact S3.out)
        | (with_reducible exact S4.out)
        | (with_reducible exact S5.out))
      (first
        | (go_at_call 9; ((with_reducible refine (D1.out _).mono ?_); rintro e w1 ⟨rfl, hb⟩; have P1 := Lib.hid (Blk.below P0.out.drew hb P0.out.lt); have Q1 := Lib.hid (Blk.below Q0.out.drew hb Q0.out.lt); have B1 := Lib.hid (Below.trans0 (Below.drew0 B0.out) hb); have S1 := Lib.hid (show (fun w' => (w'.cell? ⟨w.heap.size, 0, none⟩ = some (.bool a0Level) ∧ w'.cell? ⟨w.heap.size, 1, none⟩ = some (.bool a0Armed) ∧ w'.cell? ⟨w.heap.size, 2, none⟩ = some (.bool true)) ∧ (w'.cell? ⟨w.heap.size + 1, 0, none⟩ = some (.bool a1) ∧ w'.cell? ⟨w.heap.size + 1, 1, none⟩ = some (.bool a0Armed) ∧ w'.cell? ⟨w.heap.size + 1, 2, none⟩ = some (.bool true))) w1 from ⟨Blk.c3 P1.out, Blk.c3 Q1.out⟩); clear hb))
        | (go_at_call 10; ((with_reducible refine (D2.out _).mono ?_); rintro e w2 ⟨rfl, hb⟩; have P2 := Lib.hid (Blk.below P1.out hb P1.out.lt); have Q2 := Lib.hid (Blk.below Q1.out hb Q1.out.lt); have B2 := Lib.hid (Below.trans0 B1.out hb); have S2 := Lib.hid (show (fun w' => (w'.cell? ⟨w.heap.size, 0, none⟩ = some (.bool a0Level) ∧ w'.cell? ⟨w.heap.size, 1, none⟩ = some (.bool a0Armed) ∧ w'.cell? ⟨w.heap.size, 2, none⟩ = some (.bool true)) ∧ (w'.cell? ⟨w.heap.size + 1, 0, none⟩ = some (.bool a1) ∧ w'.cell? ⟨w.heap.size + 1, 1, none⟩ = some (.bool a0Armed) ∧ w'.cell? ⟨w.heap.size + 1, 2, none⟩ = some (.bool true))) w2 from ⟨Blk.c3 P2.out, Blk.c3 Q2.out⟩); clear hb))
        | (go_at_call 11; ((with_reducible refine (D3.out _).mono ?_); rintro e w3 ⟨rfl, hb⟩; have P3 := Lib.hid (Blk.below P2.out hb P2.out.lt); have Q3 := Lib.hid (Blk.below Q2.out hb Q2.out.lt); have B3 := Lib.hid (Below.trans0 B2.out hb); have S3 := Lib.hid (show (fun w' => (w'.cell? ⟨w.heap.size, 0, none⟩ = some (.bool a0Level) ∧ w'.cell? ⟨w.heap.size, 1, none⟩ = some (.bool a0Armed) ∧ w'.cell? ⟨w.heap.size, 2, none⟩ = some (.bool true)) ∧ (w'.cell? ⟨w.heap.size + 1, 0, none⟩ = some (.bool a1) ∧ w'.cell? ⟨w.heap.size + 1, 1, none⟩ = some (.bool a0Armed) ∧ w'.cell? ⟨w.heap.size + 1, 2, none⟩ = some (.bool true))) w3 from ⟨Blk.c3 P3.out, Blk.c3 Q3.out⟩); clear hb))
        | (go_at_call 12; ((with_reducible refine (D4.out _).mono ?_); rintro e w4 ⟨rfl, hb⟩; have P4 := Lib.hid (Blk.below P3.out hb P3.out.lt); have Q4 := Lib.hid (Blk.below Q3.out hb Q3.out.lt); have B4 := Lib.hid (Below.trans0 B3.out hb); have S4 := Lib.hid (show (fun w' => (w'.cell? ⟨w.heap.size, 0, none⟩ = some (.bool a0Level) ∧ w'.cell? ⟨w.heap.size, 1, none⟩ = some (.bool a0Armed) ∧ w'.cell? ⟨w.heap.size, 2, none⟩ = some (.bool true)) ∧ (w'.cell? ⟨w.heap.size + 1, 0, none⟩ = some (.bool a1) ∧ w'.cell? ⟨w.heap.size + 1, 1, none⟩ = some (.bool a0Armed) ∧ w'.cell? ⟨w.heap.size + 1, 2, none⟩ = some (.bool true))) w4 from ⟨Blk.c3 P4.out, Blk.c3 Q4.out⟩); clear hb))
        | (go_at_call 13; ((refine (alive28 _).mono ?_); rintro e w5 ⟨rfl, hb⟩; have P5 := Lib.hid (Blk.below P4.out hb P4.out.lt); have Q5 := Lib.hid (Blk.below Q4.out hb Q4.out.lt); have S5 := Lib.hid (show (fun w' => (w'.cell? ⟨w.heap.size, 0, none⟩ = some (.bool a0Level) ∧ w'.cell? ⟨w.heap.size, 1, none⟩ = some (.bool a0Armed) ∧ w'.cell? ⟨w.heap.size, 2, none⟩ = some (.bool true)) ∧ (w'.cell? ⟨w.heap.size + 1, 0, none⟩ = some (.bool a1) ∧ w'.cell? ⟨w.heap.size + 1, 1, none⟩ = some (.bool a0Armed) ∧ w'.cell? ⟨w.heap.size + 1, 2, none⟩ = some (.bool true))) w5 from ⟨Blk.c3 P5.out, Blk.c3 Q5.out⟩); have B5 := Lib.hid (Below.trans0 B4.out hb); clear hb)))
    go_wp2
    go_ret
    exact ⟨rfl, B5.out⟩
  · have P0 : Hid (Blk ((w.alloc (Obj.cells #[.bool a0Level, .bool false, .bool false] 23)).alloc (Obj.cells #[.bool a1, .bool false, .bool false] 23)) w.heap.size 23 #[.bool a0Level, .bool false, .bool false]) := Lib.hid (Blk.alloc (Blk.new _ _ _ (0, 0)) _)
    have Q0 : Hid (Blk ((w.alloc (Obj.cells #[.bool a0Level, .bool false, .bool false] 23)).alloc (Obj.cells #[.bool a1, .bool false, .bool false] 23)) (w.heap.size + 1) 23 #[.bool a1, .bool false, .bool false]) := Lib.hid (Blk.at1 _)
    have S0 : Hid ((fun w' => (w'.cell? ⟨w.heap.size, 0, none⟩ = some (.bool a0Level) ∧ w'.cell? ⟨w.heap.size, 1, none⟩ = some (.bool false) ∧ w'.cell? ⟨w.heap.size, 2, none⟩ = some (.bool false)) ∧ (w'.cell? ⟨w.heap.size + 1, 0, none⟩ = some (.bool a1) ∧ w'.cell? ⟨w.heap.size + 1, 1, none⟩ = some (.bool false) ∧ w'.cell? ⟨w.heap.size + 1, 2, none⟩ = some (.bool false))) ((w.alloc (Obj.cells #[.bool a0Level, .bool false, .bool false] 23)).alloc (Obj.cells #[.bool a1, .bool false, .bool false] 23)).drew) := Lib.hid ⟨Blk.c3 P0.out.drew, Blk.c3 Q0.out.drew⟩
    have B0 : Hid (Below w.heap.size w ((w.alloc (Obj.cells #[.bool a0Level, .bool false, .bool false] 23)).alloc (Obj.cells #[.bool a1, .bool false, .bool false] 23))) := Lib.hid (Below.alloc0 (Below.alloc0 (Below.refl _ _) _) _)
    have D1 := Lib.hid C1
    have D2 := Lib.hid C2
    have D3 := Lib.hid C3
    have D4 := Lib.hid C4
    clear C1 C2 C3 C4
    go_enter Try.func3, Try.ntmps3
    go_wp2
    go_region_held3 (fun w' => (w'.cell? ⟨w.heap.size, 0, none⟩ = some (.bool a0Level) ∧ w'.cell? ⟨w.heap.size, 1, none⟩ = some (.bool false) ∧ w'.cell? ⟨w.heap.size, 2, none⟩ = some (.bool false)) ∧ (w'.cell? ⟨w.heap.size + 1, 0, none⟩ = some (.bool a1) ∧ w'.cell? ⟨w.heap.size + 1, 1, none⟩ = some (.bool false) ∧ w'.cell? ⟨w.heap.size + 1, 2, none⟩ = some (.bool false)))
      (first
        | (with_reducible exact S0.out)
        | (with_reducible exact S1.out)
        | (with_reducible exact S2.out)
        | (with_reducible exact S3.out)
        | (with_reducible exact S4.out)
        | (with_reducible exact S5.out))
      (first
        | (go_at_call 9; ((with_reducible refine (D1.out _).mono ?_); rintro e w1 ⟨rfl, hb⟩; have P1 := Lib.hid (Blk.below P0.out.drew hb P0.out.lt); have Q1 := Lib.hid (Blk.below Q0.out.drew hb Q0.out.lt); have B1 := Lib.hid (Below.trans0 (Below.drew0 B0.out) hb); have S1 := Lib.hid (show (fun w' => (w'.cell? ⟨w.heap.size, 0, none⟩ = some (.bool a0Level) ∧ w'.cell? ⟨w.heap.size, 1, none⟩ = some (.bool false) ∧ w'.cell? ⟨w.heap.size, 2, none⟩ = some (.bool false)) ∧ (w'.cell? ⟨w.heap.size + 1, 0, none⟩ = some (.bool a1) ∧ w'.cell? ⟨w.heap.size + 1, 1, none⟩ = some (.bool false) ∧ w'.cell? ⟨w.heap.size + 1, 2, none⟩ = some (.bool false))) w1 from ⟨Blk.c3 P1.out, Blk.c3 Q1.out⟩); clear hb))
        | (go_at_call 10; ((with_reducible refine (D2.out _).mono ?_); rintro e w2 ⟨rfl, hb⟩; have P2 := Lib.hid (Blk.below P1.out hb P1.out.lt); have Q2 := Lib.hid (Blk.below Q1.out hb Q1.out.lt); have B2 := Lib.hid (Below.trans0 B1.out hb); have S2 := Lib.hid (show (fun w' => (w'.cell? ⟨w.heap.size, 0, none⟩ = some (.bool a0Level) ∧ w'.cell? ⟨w.heap.size, 1, none⟩ = some (.bool false) ∧ w'.cell? ⟨w.heap.size, 2, none⟩ = some (.bool false)) ∧ (w'.cell? ⟨w.heap.size + 1, 0, none⟩ = some (.bool a1) ∧ w'.cell? ⟨w.heap.size + 1, 1, none⟩ = some (.bool false) ∧ w'.cell? ⟨w.heap.size + 1, 2, none⟩ = some (.bool false))) w2 from ⟨Blk.c3 P2.out, Blk.c3 Q2.out⟩); clear hb))
        | (go_at_call 11; ((with_reducible refine (D3.out _).mono ?_); rintro e w3 ⟨rfl, hb⟩; have P3 := Lib.hid (Blk.below P2.out hb P2.out.lt); have Q3 := Lib.hid (Blk.below Q2.out hb Q2.out.lt); have B3 := Lib.hid (Below.trans0 B2.out hb); have S3 := Lib.hid (show (fun w' => (w'.cell? ⟨w.heap.size, 0, none⟩ = some (.bool a0Level) ∧ w'.cell? ⟨w.heap.size, 1, none⟩ = some (.bool false) ∧ w'.cell? ⟨w.heap.size, 2, none⟩ = some (.bool false)) ∧ (w'.cell? ⟨w.heap.size + 1, 0, none⟩ = some (.bool a1) ∧ w'.cell? ⟨w.heap.size + 1, 1, none⟩ = some (.bool false) ∧ w'.cell? ⟨w.heap.size + 1, 2, none⟩ = some (.bool false))) w3 from ⟨Blk.c3 P3.out, Blk.c3 Q3.out⟩); clear hb))
        | (go_at_call 12; ((with_reducible refine (D4.out _).mono ?_); rintro e w4 ⟨rfl, hb⟩; have P4 := Lib.hid (Blk.below P3.out hb P3.out.lt); have Q4 := Lib.hid (Blk.below Q3.out hb Q3.out.lt); have B4 := Lib.hid (Below.trans0 B3.out hb); have S4 := Lib.hid (show (fun w' => (w'.cell? ⟨w.heap.size, 0, none⟩ = some (.bool a0Level) ∧ w'.cell? ⟨w.heap.size, 1, none⟩ = some (.bool false) ∧ w'.cell? ⟨w.heap.size, 2, none⟩ = some (.bool false)) ∧ (w'.cell? ⟨w.heap.size + 1, 0, none⟩ = some (.bool a1) ∧ w'.cell? ⟨w.heap.size + 1, 1, none⟩ = some (.bool false) ∧ w'.cell? ⟨w.heap.size + 1, 2, none⟩ = some (.bool false))) w4 from ⟨Blk.c3 P4.out, Blk.c3 Q4.out⟩); clear hb))
        | (go_at_call 13; ((refine (alive28 _).mono ?_); rintro e w5 ⟨rfl, hb⟩; have P5 := Lib.hid (Blk.below P4.out hb P4.out.lt); have Q5 := Lib.hid (Blk.below Q4.out hb Q4.out.lt); have S5 := Lib.hid (show (fun w' => (w'.cell? ⟨w.heap.size, 0, none⟩ = some (.bool a0Level) ∧ w'.cell? ⟨w.heap.size, 1, none⟩ = some (.bool false) ∧ w'.cell? ⟨w.heap.size, 2, none⟩ = some (.bool false)) ∧ (w'.cell? ⟨w.heap.size + 1, 0, none⟩ = some (.bool a1) ∧ w'.cell? ⟨w.heap.size + 1, 1, none⟩ = some (.bool false) ∧ w'.cell? ⟨w.heap.size + 1, 2, none⟩ = some (.bool false))) w5 from ⟨Blk.c3 P5.out, Blk.c3 Q5.out⟩); have B5 := Lib.hid (Below.trans0 B4.out hb); clear hb)))
    go_wp2
    go_ret
    exact ⟨rfl, B5.out⟩
  · have P0 : Hid (Blk ((w.alloc (Obj.cells #[.bool a0Level, .bool true, .bool false] 23)).alloc (Obj.cells #[.bool false, .bool true, .bool false] 23)) w.heap.size 23 #[.bool a0Level, .bool true, .bool false]) := Lib.hid (Blk.alloc (Blk.new _ _ _ (0, 0)) _)
    have Q0 : Hid (Blk ((w.alloc (Obj.cells #[.bool a0Level, .bool true, .bool false] 23)).alloc (Obj.cells #[.bool false, .bool true, .bool false] 23)) (w.heap.size + 1) 23 #[.bool false, .bool true, .bool false]) := Lib.hid (Blk.at1 _)
    have S0 : Hid ((fun w' => (w'.cell? ⟨w.heap.size, 0, none⟩ = some (.bool a0Level) ∧ w'.cell? ⟨w.heap.size, 1, none⟩ = some (.bool true) ∧ w'.cell? ⟨w.heap.size, 2, none⟩ = some (.bool false)) ∧ (w'.cell? ⟨w.heap.size + 1, 0, none⟩ = some (.bool false) ∧ w'.cell? ⟨w.heap.size + 1, 1, none⟩ = some (.bool true) ∧ w'.cell? ⟨w.heap.size + 1, 2, none⟩ = some (.bool false))) ((w.alloc (Obj.cells #[.bool a0Level, .bool true, .bool false] 23)).alloc (Obj.cells #[.bool false, .bool true, .bool false] 23)).drew) := Lib.hid ⟨Blk.c3 P0.out.drew, Blk.c3 Q0.out.drew⟩
    have B0 : Hid (Below w.heap.size w ((w.alloc (Obj.cells #[.bool a0Level, .bool true, .bool false] 23)).alloc (Obj.cells #[.bool false, .bool true, .bool false] 23))) := Lib.hid (Below.alloc0 (Below.alloc0 (Below.refl _ _) _) _)
    have D1 := Lib.hid C1
    have D2 := Lib.hid C2
    have D3 := Lib.hid C3
    have D4 := Lib.hid C4
    clear C1 C2 C3 C4
    go_enter Try.func3, Try.ntmps3
    go_wp2
    go_region_held3 (fun w' => (w'.cell? ⟨w.heap.size, 0, none⟩ = some (.bool a0Level) ∧ w'.cell? ⟨w.heap.size, 1, none⟩ = some (.bool true) ∧ w'.cell? ⟨w.heap.size, 2, none⟩ = some (.bool false)) ∧ (w'.cell? ⟨w.heap.size + 1, 0, none⟩ = some (.bool false) ∧ w'.cell? ⟨w.heap.size + 1, 1, none⟩ = some (.bool true) ∧ w'.cell? ⟨w.heap.size + 1, 2, none⟩ = some (.bool false)))
      (first
        | (with_reducible exact S0.out)
        | (with_reducible exact S1.out)
        | (with_reducible exact S2.out)
        | (with_reducible exact S3.out)
        | (with_reducible exact S4.out)
        | (with_reducible exact S5.out))
      (first
        | (go_at_call 9; ((with_reducible refine (D1.out _).mono ?_); rintro e w1 ⟨rfl, hb⟩; have P1 := Lib.hid (Blk.below P0.out.drew hb P0.out.lt); have Q1 := Lib.hid (Blk.below Q0.out.drew hb Q0.out.lt); have B1 := Lib.hid (Below.trans0 (Below.drew0 B0.out) hb); have S1 := Lib.hid (show (fun w' => (w'.cell? ⟨w.heap.size, 0, none⟩ = some (.bool a0Level) ∧ w'.cell? ⟨w.heap.size, 1, none⟩ = some (.bool true) ∧ w'.cell? ⟨w.heap.size, 2, none⟩ = some (.bool false)) ∧ (w'.cell? ⟨w.heap.size + 1, 0, none⟩ = some (.bool false) ∧ w'.cell? ⟨w.heap.size + 1, 1, none⟩ = some (.bool true) ∧ w'.cell? ⟨w.heap.size + 1, 2, none⟩ = some (.bool false))) w1 from ⟨Blk.c3 P1.out, Blk.c3 Q1.out⟩); clear hb))
        | (go_at_call 10; ((with_reducible refine (D2.out _).mono ?_); rintro e w2 ⟨rfl, hb⟩; have P2 := Lib.hid (Blk.below P1.out hb P1.out.lt); have Q2 := Lib.hid (Blk.below Q1.out hb Q1.out.lt); have B2 := Lib.hid (Below.trans0 B1.out hb); have S2 := Lib.hid (show (fun w' => (w'.cell? ⟨w.heap.size, 0, none⟩ = some (.bool a0Level) ∧ w'.cell? ⟨w.heap.size, 1, none⟩ = some (.bool true) ∧ w'.cell? ⟨w.heap.size, 2, none⟩ = some (.bool false)) ∧ (w'.cell? ⟨w.heap.size + 1, 0, none⟩ = some (.bool false) ∧ w'.cell? ⟨w.heap.size + 1, 1, none⟩ = some (.bool true) ∧ w'.cell? ⟨w.heap.size + 1, 2, none⟩ = some (.bool false))) w2 from ⟨Blk.c3 P2.out, Blk.c3 Q2.out⟩); clear hb))
        | (go_at_call 11; ((with_reducible refine (D3.out _).mono ?_); rintro e w3 ⟨rfl, hb⟩; have P3 := Lib.hid (Blk.below P2.out hb P2.out.lt); have Q3 := Lib.hid (Blk.below Q2.out hb Q2.out.lt); have B3 := Lib.hid (Below.trans0 B2.out hb); have S3 := Lib.hid (show (fun w' => (w'.cell? ⟨w.heap.size, 0, none⟩ = some (.bool a0Level) ∧ w'.cell? ⟨w.heap.size, 1, none⟩ = some (.bool true) ∧ w'.cell? ⟨w.heap.size, 2, none⟩ = some (.bool false)) ∧ (w'.cell? ⟨w.heap.size + 1, 0, none⟩ = some (.bool false) ∧ w'.cell? ⟨w.heap.size + 1, 1, none⟩ = some (.bool true) ∧ w'.cell? ⟨w.heap.size + 1, 2, none⟩ = some (.bool false))) w3 from ⟨Blk.c3 P3.out, Blk.c3 Q3.out⟩); clear hb))
        | (go_at_call 12; ((with_reducible refine (D4.out _).mono ?_); rintro e w4 ⟨rfl, hb⟩; have P4 := Lib.hid (Blk.below P3.out hb P3.out.lt); have Q4 := Lib.hid (Blk.below Q3.out hb Q3.out.lt); have B4 := Lib.hid (Below.trans0 B3.out hb); have S4 := Lib.hid (show (fun w' => (w'.cell? ⟨w.heap.size, 0, none⟩ = some (.bool a0Level) ∧ w'.cell? ⟨w.heap.size, 1, none⟩ = some (.bool true) ∧ w'.cell? ⟨w.heap.size, 2, none⟩ = some (.bool false)) ∧ (w'.cell? ⟨w.heap.size + 1, 0, none⟩ = some (.bool false) ∧ w'.cell? ⟨w.heap.size + 1, 1, none⟩ = some (.bool true) ∧ w'.cell? ⟨w.heap.size + 1, 2, none⟩ = some (.bool false))) w4 from ⟨Blk.c3 P4.out, Blk.c3 Q4.out⟩); clear hb))
        | (go_at_call 13; ((refine (alive28 _).mono ?_); rintro e w5 ⟨rfl, hb⟩; have P5 := Lib.hid (Blk.below P4.out hb P4.out.lt); have Q5 := Lib.hid (Blk.below Q4.out hb Q4.out.lt); have S5 := Lib.hid (show (fun w' => (w'.cell? ⟨w.heap.size, 0, none⟩ = some (.bool a0Level) ∧ w'.cell? ⟨w.heap.size, 1, none⟩ = some (.bool true) ∧ w'.cell? ⟨w.heap.size, 2, none⟩ = some (.bool false)) ∧ (w'.cell? ⟨w.heap.size + 1, 0, none⟩ = some (.bool false) ∧ w'.cell? ⟨w.heap.size + 1, 1, none⟩ = some (.bool true) ∧ w'.cell? ⟨w.heap.size + 1, 2, none⟩ = some (.bool false))) w5 from ⟨Blk.c3 P5.out, Blk.c3 Q5.out⟩); have B5 := Lib.hid (Below.trans0 B4.out hb); clear hb)))
    go_wp2
    go_ret
    exact ⟨rfl, B5.out⟩
  · have P0 : Hid (Blk ((w.alloc (Obj.cells #[.bool a0Level, .bool true, .bool false] 23)).alloc (Obj.cells #[.bool true, .bool true, .bool (!a0Level)] 23)) w.heap.size 23 #[.bool a0Level, .bool true, .bool false]) := Lib.hid (Blk.alloc (Blk.new _ _ _ (0, 0)) _)
    have Q0 : Hid (Blk ((w.alloc (Obj.cells #[.bool a0Level, .bool true, .bool false] 23)).alloc (Obj.cells #[.bool true, .bool true, .bool (!a0Level)] 23)) (w.heap.size + 1) 23 #[.bool true, .bool true, .bool (!a0Level)]) := Lib.hid (Blk.at1 _)
    have S0 : Hid ((fun w' => (w'.cell? ⟨w.heap.size, 0, none⟩ = some (.bool a0Level) ∧ w'.cell? ⟨w.heap.size, 1, none⟩ = some (.bool true) ∧ w'.cell? ⟨w.heap.size, 2, none⟩ = some (.bool false)) ∧ (w'.cell? ⟨w.heap.size + 1, 0, none⟩ = some (.bool true) ∧ w'.cell? ⟨w.heap.size + 1, 1, none⟩ = some (.bool true) ∧ w'.cell? ⟨w.heap.size + 1, 2, none⟩ = some (.bool (!a0Level)))) ((w.alloc (Obj.cells #[.bool a0Level, .bool true, .bool false] 23)).alloc (Obj.cells #[.bool true, .bool true, .bool (!a0Level)] 23)).drew) := Lib.hid ⟨Blk.c3 P0.out.drew, Blk.c3 Q0.out.drew⟩
    have B0 : Hid (Below w.heap.size w ((w.alloc (Obj.cells #[.bool a0Level, .bool true, .bool false] 23)).alloc (Obj.cells #[.bool true, .bool true, .bool (!a0Level)] 23))) := Lib.hid (Below.alloc0 (Below.alloc0 (Below.refl _ _) _) _)
    have D1 := Lib.hid C1
    have D2 := Lib.hid C2
    have D3 := Lib.hid C3
    have D4 := Lib.hid C4
    clear C1 C2 C3 C4
    go_enter Try.func3, Try.ntmps3
    go_wp2
    go_region_held3 (fun w' => (w'.cell? ⟨w.heap.size, 0, none⟩ = some (.bool a0Level) ∧ w'.cell? ⟨w.heap.size, 1, none⟩ = some (.bool true) ∧ w'.cell? ⟨w.heap.size, 2, none⟩ = some (.bool false)) ∧ (w'.cell? ⟨w.heap.size + 1, 0, none⟩ = some (.bool true) ∧ w'.cell? ⟨w.heap.size + 1, 1, none⟩ = some (.bool true) ∧ w'.cell? ⟨w.heap.size + 1, 2, none⟩ = some (.bool (!a0Level))))
      (first
        | (with_reducible exact S0.out)
        | (with_reducible exact S1.out)
        | (with_reducible exact S2.out)
        | (with_reducible exact S3.out)
        | (with_reducible exact S4.out)
        | (with_reducible exact S5.out))
      (first
        | (go_at_call 9; ((with_reducible refine (D1.out _).mono ?_); rintro e w1 ⟨rfl, hb⟩; have P1 := Lib.hid (Blk.below P0.out.drew hb P0.out.lt); have Q1 := Lib.hid (Blk.below Q0.out.drew hb Q0.out.lt); have B1 := Lib.hid (Below.trans0 (Below.drew0 B0.out) hb); have S1 := Lib.hid (show (fun w' => (w'.cell? ⟨w.heap.size, 0, none⟩ = some (.bool a0Level) ∧ w'.cell? ⟨w.heap.size, 1, none⟩ = some (.bool true) ∧ w'.cell? ⟨w.heap.size, 2, none⟩ = some (.bool false)) ∧ (w'.cell? ⟨w.heap.size + 1, 0, none⟩ = some (.bool true) ∧ w'.cell? ⟨w.heap.size + 1, 1, none⟩ = some (.bool true) ∧ w'.cell? ⟨w.heap.size + 1, 2, none⟩ = some (.bool (!a0Level)))) w1 from ⟨Blk.c3 P1.out, Blk.c3 Q1.out⟩); clear hb))
        | (go_at_call 10; ((with_reducible refine (D2.out _).mono ?_); rintro e w2 ⟨rfl, hb⟩; have P2 := Lib.hid (Blk.below P1.out hb P1.out.lt); have Q2 := Lib.hid (Blk.below Q1.out hb Q1.out.lt); have B2 := Lib.hid (Below.trans0 B1.out hb); have S2 := Lib.hid (show (fun w' => (w'.cell? ⟨w.heap.size, 0, none⟩ = some (.bool a0Level) ∧ w'.cell? ⟨w.heap.size, 1, none⟩ = some (.bool true) ∧ w'.cell? ⟨w.heap.size, 2, none⟩ = some (.bool false)) ∧ (w'.cell? ⟨w.heap.size + 1, 0, none⟩ = some (.bool true) ∧ w'.cell? ⟨w.heap.size + 1, 1, none⟩ = some (.bool true) ∧ w'.cell? ⟨w.heap.size + 1, 2, none⟩ = some (.bool (!a0Level)))) w2 from ⟨Blk.c3 P2.out, Blk.c3 Q2.out⟩); clear hb))
        | (go_at_call 11; ((with_reducible refine (D3.out _).mono ?_); rintro e w3 ⟨rfl, hb⟩; have P3 := Lib.hid (Blk.below P2.out hb P2.out.lt); have Q3 := Lib.hid (Blk.below Q2.out hb Q2.out.lt); have B3 := Lib.hid (Below.trans0 B2.out hb); have S3 := Lib.hid (show (fun w' => (w'.cell? ⟨w.heap.size, 0, none⟩ = some (.bool a0Level) ∧ w'.cell? ⟨w.heap.size, 1, none⟩ = some (.bool true) ∧ w'.cell? ⟨w.heap.size, 2, none⟩ = some (.bool false)) ∧ (w'.cell? ⟨w.heap.size + 1, 0, none⟩ = some (.bool true) ∧ w'.cell? ⟨w.heap.size + 1, 1, none⟩ = some (.bool true) ∧ w'.cell? ⟨w.heap.size + 1, 2, none⟩ = some (.bool (!a0Level)))) w3 from ⟨Blk.c3 P3.out, Blk.c3 Q3.out⟩); clear hb))
        | (go_at_call 12; ((with_reducible refine (D4.out _).mono ?_); rintro e w4 ⟨rfl, hb⟩; have P4 := Lib.hid (Blk.below P3.out hb P3.out.lt); have Q4 := Lib.hid (Blk.below Q3.out hb Q3.out.lt); have B4 := Lib.hid (Below.trans0 B3.out hb); have S4 := Lib.hid (show (fun w' => (w'.cell? ⟨w.heap.size, 0, none⟩ = some (.bool a0Level) ∧ w'.cell? ⟨w.heap.size, 1, none⟩ = some (.bool true) ∧ w'.cell? ⟨w.heap.size, 2, none⟩ = some (.bool false)) ∧ (w'.cell? ⟨w.heap.size + 1, 0, none⟩ = some (.bool true) ∧ w'.cell? ⟨w.heap.size + 1, 1, none⟩ = some (.bool true) ∧ w'.cell? ⟨w.heap.size + 1, 2, none⟩ = some (.bool (!a0Level)))) w4 from ⟨Blk.c3 P4.out, Blk.c3 Q4.out⟩); clear hb))
        | (go_at_call 13; ((refine (alive28 _).mono ?_); rintro e w5 ⟨rfl, hb⟩; have P5 := Lib.hid (Blk.below P4.out hb P4.out.lt); have Q5 := Lib.hid (Blk.below Q4.out hb Q4.out.lt); have S5 := Lib.hid (show (fun w' => (w'.cell? ⟨w.heap.size, 0, none⟩ = some (.bool a0Level) ∧ w'.cell? ⟨w.heap.size, 1, none⟩ = some (.bool true) ∧ w'.cell? ⟨w.heap.size, 2, none⟩ = some (.bool false)) ∧ (w'.cell? ⟨w.heap.size + 1, 0, none⟩ = some (.bool true) ∧ w'.cell? ⟨w.heap.size + 1, 1, none⟩ = some (.bool true) ∧ w'.cell? ⟨w.heap.size + 1, 2, none⟩ = some (.bool (!a0Level)))) w5 from ⟨Blk.c3 P5.out, Blk.c3 Q5.out⟩); have B5 := Lib.hid (Below.trans0 B4.out hb); clear hb)))
    go_wp2
    go_ret
    exact ⟨rfl, B5.out⟩

set_option maxRecDepth 100000 in
theorem lifted (os : Os) (started : os.Started) (H : Type) (enc : TypeId × Value → H) :
    ReturnsInHanded {} Try.checked os 3 .any (Rows.edgeStepsSpec.pre6 enc Try.prog Try.f3 Rows.edgeStepsRow.domain false) (Rows.edgeStepsSpec.post enc Try.prog Try.f3 false true false false) := by
  refine returnsInHanded_of_change (C := Try.checked) own started (by kernel_rfl) Try.func3
    (ChangeSpec.witness6 (enc := enc) (C := Try.checked) false ⟨#[], #[.agg #[.bool false, .bool false, .bool false], .bool false], []⟩ 8 (by kernel_rfl) (by kernel_rfl) (by kernel_rfl) (by kernel_rfl)) ?_
  intro W base args ds gs before hval0 hW hcnd _
  have hval : ∀ (j : Nat) t v, Try.f3.params[j]? = some t → args[j]? = some v → Value.okWide Try.prog W .any base t v := hval0
  have hW' := hW
  obtain ⟨p, q, hA0, hV, rfl, hfz, hnd⟩ := hW
  have hA : DataW.TrodAll enc Try.prog W 0 (fun _ => true) true Try.f3.params.toList args.toList ds p := hA0
  rw [Try.params3] at hA hval
  obtain ⟨v0, vs0, d0, ds0, p0, q0, hargs, rfl, rfl, h0, r0⟩ := trodAll_cons hA
  obtain ⟨v1, vs1, d1, ds1, p1, q1, rfl, rfl, rfl, h1, r1⟩ := trodAll_cons r0
  obtain ⟨rfl, rfl, rfl⟩ := trodAll_nil r1
  obtain rfl : args = #[v0, v1] := by cases args; simp_all
  obtain ⟨rfl, rfl⟩ := trodVars_none hV
  have k0 := h0
  have lt0 : ∀ x ∈ p0, x.block < W.heap.size := by obtain ⟨m, hm⟩ := k0; exact DataW.trod_lt m _ _ _ hm
  obtain ⟨a0Level, a0Armed, a0Set, rfl, w0⟩ := open23 (hval 0 23 v0 rfl rfl) h0
  obtain ⟨a1, rfl, rfl, rfl⟩ := open_bool Try.underlying4 (hval 1 4 v1 rfl rfl) h1
  clear hA0 hval0
  refine (walk a0Level a0Armed a0Set a1 W w0).mono fun e W' ⟨he, bel⟩ => ?_
  subst he
  exact ⟨_, rfl, _, _, _, [], _, [], hW', trodAll_mk1 (shut_bool Try.underlying4 _), (trodAll_cons_mk (Below.trod laidOut (by kernel_rfl) (of_decide_eq_true (by kernel_rfl)) k0 bel lt0) (trodAll_cons_mk (shut_bool Try.underlying4 _) trodAll_mk0)), rfl, bel.frame _, fun h => by cases h⟩

theorem over : Rows.edgeStepsRow.holds Try.pinned (OpenSpec.ofChange Rows.edgeStepsSpec) :=
  OpenClaim.holds_of_wide 3 Try.f3 rfl rfl rfl rfl rfl rfl rfl ⟨rfl, rfl, rfl, rfl, rfl⟩ rfl rfl rfl rfl rfl (by kernel_rfl) Try.func3 (by kernel_rfl)
    (of_decide_eq_true (by kernel_rfl)) (by unfold Func.isWrapper; first | (rw [if_pos (by decide +kernel)]; kernel_rfl) | (rw [if_neg (by decide +kernel)]; exact ⟨rfl, rfl⟩))
    (fun os started H enc _ => lifted os started H enc)

theorem proved : Rows.EdgeStepsSaid := over
#print axioms proved
end Go.Proofs.Ytoogaenknjdpcaa.edgeSteps
