/- The law PrioOnly answers true for every input, and each argument reads afterwards as it read before. Conditions: none. -/
import Derived.Test.YtoogaenknjdpcaaRows
import Derived.WalkKit
import Derived.ProofKit
import Derived.OpenShut
import Derived.ShutString
import Derived.ChangeOld
import Derived.Below
import Derived.Test.YtoogaenknjdpcaaPri
import Derived.Test.YtoogaenknjdpcaaStc
import Derived.Deep.RegionHeld3
namespace Go.Proofs.Ytoogaenknjdpcaa.prioOnly
open Go.ChangeShapes Go.WideShapes Go.ChangeAt Go.RowKit
open Go.ChangeMaps (open_string shut_string)
set_option linter.unusedVariables false

theorem own : ownKnob Try.prog.godebug = none := by kernel_rfl
theorem laidOut : laidOutB Try.prog = true := by kernel_rfl

theorem arr23 {cs : Array Value} (h : cs.size = 3) : ∃ c0 c1 c2 : Value, cs = #[c0, c1, c2] := by
  obtain ⟨l⟩ := cs
  match l, h with
  | [c0, c1, c2], _ => exact ⟨c0, c1, c2, rfl⟩
theorem cellsOf23_4 : Try.prog.cellsOf 4 = 1 := by kernel_rfl
theorem cellsOf23_23 : Try.prog.cellsOf 23 = 3 := by kernel_rfl
set_option maxRecDepth 100000 in
theorem open23 {H : Type} {enc : TypeId × Value → H} {W : World} {b0 base : Nat} {sp : Nat → Bool} {held : Bool} {v : Value} {d : DataW H} {p : List MemPlace} (hv : Value.okWide Try.prog W .any b0 23 v) (h : DataW.Trod enc Try.prog W base sp held 23 v d p) :
    ∃ (xLevel : Bool) (xArmed : Bool) (xSet : Bool), v = .agg #[.bool xLevel, .bool xArmed, .bool xSet] ∧ True := by
  obtain ⟨cs, rfl, hsz⟩ := okWide_struct Try.underlying23 hv
  obtain ⟨c0, c1, c2, rfl⟩ := arr23 (hsz.trans cellsOf23_23)
  obtain ⟨fuel, hf⟩ := h
  obtain ⟨xs0, n0, _, _, _, hl0, hg0⟩ := DataW.trod_struct Try.underlying23 hf
  have g0_0 : DataW.trod enc Try.prog W base sp held n0 4 (([c0, c1, c2].drop 0).take (Try.prog.cellsOf 4)) = xs0[0]? := hg0 0 _ rfl
  rw [List.getElem?_eq_getElem (show 0 < xs0.length by rw [hl0]; decide)] at g0_0
  rw [cellsOf23_4] at g0_0
  obtain ⟨y0, e0_0, _⟩ := DataW.trod_bool Try.underlying4 g0_0
  have E0 : c0 = .bool y0 := by simpa [Value.cells] using e0_0
  have g0_1 : DataW.trod enc Try.prog W base sp held n0 4 (([c0, c1, c2].drop 1).take (Try.prog.cellsOf 4)) = xs0[1]? := hg0 1 _ rfl
  rw [List.getElem?_eq_getElem (show 1 < xs0.length by rw [hl0]; decide)] at g0_1
  rw [cellsOf23_4] at g0_1
  obtain ⟨y1, e0_1, _⟩ := DataW.trod_bool Try.underlying4 g0_1
  have E1 : c1 = .bool y1 := by simpa [Value.cells] using e0_1
  have g0_2 : DataW.trod enc Try.prog W base sp held n0 4 (([c0, c1, c2].drop 2).take (Try.prog.cellsOf 4)) = xs0[2]? := hg0 2 _ rfl
  rw [List.getElem?_eq_getElem (show 2 < xs0.length by rw [hl0]; decide)] at g0_2
  rw [cellsOf23_4] at g0_2
  obtain ⟨y2, e0_2, _⟩ := DataW.trod_bool Try.underlying4 g0_2
  have E2 : c2 = .bool y2 := by simpa [Value.cells] using e0_2
  subst E0 E1 E2
  exact ⟨y0, y1, y2, rfl, trivial⟩

theorem arr32 {cs : Array Value} (h : cs.size = 6) : ∃ c0 c1 c2 c3 c4 c5 : Value, cs = #[c0, c1, c2, c3, c4, c5] := by
  obtain ⟨l⟩ := cs
  match l, h with
  | [c0, c1, c2, c3, c4, c5], _ => exact ⟨c0, c1, c2, c3, c4, c5, rfl⟩
theorem cellsOf32_4 : Try.prog.cellsOf 4 = 1 := by kernel_rfl
theorem cellsOf32_32 : Try.prog.cellsOf 32 = 6 := by kernel_rfl
set_option maxRecDepth 100000 in
theorem open32 {H : Type} {enc : TypeId × Value → H} {W : World} {b0 base : Nat} {sp : Nat → Bool} {held : Bool} {v : Value} {d : DataW H} {p : List MemPlace} (hv : Value.okWide Try.prog W .any b0 32 v) (h : DataW.Trod enc Try.prog W base sp held 32 v d p) :
    ∃ (xReset : Bool) (xNmi : Bool) (xFirq : Bool) (xIrq : Bool) (xHalt : Bool) (xReq : Bool), v = .agg #[.bool xReset, .bool xNmi, .bool xFirq, .bool xIrq, .bool xHalt, .bool xReq] ∧ True := by
  obtain ⟨cs, rfl, hsz⟩ := okWide_struct Try.underlying32 hv
  obtain ⟨c0, c1, c2, c3, c4, c5, rfl⟩ := arr32 (hsz.trans cellsOf32_32)
  obtain ⟨fuel, hf⟩ := h
  obtain ⟨xs0, n0, _, _, _, hl0, hg0⟩ := DataW.trod_struct Try.underlying32 hf
  have g0_0 : DataW.trod enc Try.prog W base sp held n0 4 (([c0, c1, c2, c3, c4, c5].drop 0).take (Try.prog.cellsOf 4)) = xs0[0]? := hg0 0 _ rfl
  rw [List.getElem?_eq_getElem (show 0 < xs0.length by rw [hl0]; decide)] at g0_0
  rw [cellsOf32_4] at g0_0
  obtain ⟨y0, e0_0, _⟩ := DataW.trod_bool Try.underlying4 g0_0
  have E0 : c0 = .bool y0 := by simpa [Value.cells] using e0_0
  have g0_1 : DataW.trod enc Try.prog W base sp held n0 4 (([c0, c1, c2, c3, c4, c5].drop 1).take (Try.prog.cellsOf 4)) = xs0[1]? := hg0 1 _ rfl
  rw [List.getElem?_eq_getElem (show 1 < xs0.length by rw [hl0]; decide)] at g0_1
  rw [cellsOf32_4] at g0_1
  obtain ⟨y1, e0_1, _⟩ := DataW.trod_bool Try.underlying4 g0_1
  have E1 : c1 = .bool y1 := by simpa [Value.cells] using e0_1
  have g0_2 : DataW.trod enc Try.prog W base sp held n0 4 (([c0, c1, c2, c3, c4, c5].drop 2).take (Try.prog.cellsOf 4)) = xs0[2]? := hg0 2 _ rfl
  rw [List.getElem?_eq_getElem (show 2 < xs0.length by rw [hl0]; decide)] at g0_2
  rw [cellsOf32_4] at g0_2
  obtain ⟨y2, e0_2, _⟩ := DataW.trod_bool Try.underlying4 g0_2
  have E2 : c2 = .bool y2 := by simpa [Value.cells] using e0_2
  have g0_3 : DataW.trod enc Try.prog W base sp held n0 4 (([c0, c1, c2, c3, c4, c5].drop 3).take (Try.prog.cellsOf 4)) = xs0[3]? := hg0 3 _ rfl
  rw [List.getElem?_eq_getElem (show 3 < xs0.length by rw [hl0]; decide)] at g0_3
  rw [cellsOf32_4] at g0_3
  obtain ⟨y3, e0_3, _⟩ := DataW.trod_bool Try.underlying4 g0_3
  have E3 : c3 = .bool y3 := by simpa [Value.cells] using e0_3
  have g0_4 : DataW.trod enc Try.prog W base sp held n0 4 (([c0, c1, c2, c3, c4, c5].drop 4).take (Try.prog.cellsOf 4)) = xs0[4]? := hg0 4 _ rfl
  rw [List.getElem?_eq_getElem (show 4 < xs0.length by rw [hl0]; decide)] at g0_4
  rw [cellsOf32_4] at g0_4
  obtain ⟨y4, e0_4, _⟩ := DataW.trod_bool Try.underlying4 g0_4
  have E4 : c4 = .bool y4 := by simpa [Value.cells] using e0_4
  have g0_5 : DataW.trod enc Try.prog W base sp held n0 4 (([c0, c1, c2, c3, c4, c5].drop 5).take (Try.prog.cellsOf 4)) = xs0[5]? := hg0 5 _ rfl
  rw [List.getElem?_eq_getElem (show 5 < xs0.length by rw [hl0]; decide)] at g0_5
  rw [cellsOf32_4] at g0_5
  obtain ⟨y5, e0_5, _⟩ := DataW.trod_bool Try.underlying4 g0_5
  have E5 : c5 = .bool y5 := by simpa [Value.cells] using e0_5
  subst E0 E1 E2 E3 E4 E5
  exact ⟨y0, y1, y2, y3, y4, y5, rfl, trivial⟩

set_option maxRecDepth 100000 in
set_option maxHeartbeats 1000000 in
theorem walk (a0Level : Bool) (a0Armed : Bool) (a0Set : Bool) (a1Reset : Bool) (a1Nmi : Bool) (a1Firq : Bool) (a1Irq : Bool) (a1Halt : Bool) (a1Req : Bool) (a2 : Int) (w : World) (w0 : True) (w1 : True) (w2 : (Lit.int .u8 a2).wf = true) :
    Calls Try.prog 6 #[.agg #[.bool a0Level, .bool a0Armed, .bool a0Set], .agg #[.bool a1Reset, .bool a1Nmi, .bool a1Firq, .bool a1Irq, .bool a1Halt, .bool a1Req], .int .u8 a2] w fun e w' => e = .returned (.bool true) ∧ Below w.heap.size w w' := by
  have b2 := bounds_u8 w2
  have hcc : CC a2 := CC.mk' b2.1 (by omega)
  obtain ⟨m1, m2, m3, m4, hca, hco⟩ := mask80_of hcc
  have C1 := fun w => prioRow_any a0Level a0Armed a0Set a1Reset a1Nmi a1Firq a1Irq a1Halt a1Req a2 hcc w
  have C2 := fun w => prioRow_any false false a0Set false false a1Firq a1Irq false false _ hca w
  have C3 := fun w => behind_any a0Level a0Armed a0Set a1Reset a1Nmi a1Firq a1Irq a1Halt a1Req a2 hcc w
  have C4 := fun w => wakes_any a0Level a0Armed a0Set a1Reset a1Nmi a1Firq a1Irq a1Halt a1Req w
  have C5 := fun w => prioRow_any a0Level a0Armed a0Set a1Reset a1Nmi a1Firq a1Irq a1Halt a1Req _ hco w
  rw [m1, m2] at C2
  rw [m3, m4] at C5
  unfold behN behB at C3
  have hv : (a0Set = true ∧ wakN a0Set a1Firq a1Irq = true ∧ rowN a0Set a1Firq a1Irq true true = 1 ∧ rowN a0Set a1Firq a1Irq (hasRef a2 64) (hasRef a2 16) = 1) ∨ (a0Set = false ∧ rowN a0Set a1Firq a1Irq true true = 0 ∧ rowN a0Set a1Firq a1Irq (hasRef a2 64) (hasRef a2 16) = 0) ∨ (a0Set = false ∧ wakN a0Set a1Firq a1Irq = true ∧ rowN a0Set a1Firq a1Irq true true = 0 ∧ 0 < rowN a0Set a1Firq a1Irq (hasRef a2 64) (hasRef a2 16) ∧ rowN a0Set a1Firq a1Irq (hasRef a2 64) (hasRef a2 16) ≤ 3) := by
    unfold rowN wakN
    cases a0Set <;> cases a1Firq <;> cases a1Irq <;> cases hasRef a2 64 <;> cases hasRef a2 16 <;> simp
  generalize rowN a0Set a1Firq a1Irq (hasRef a2 64) (hasRef a2 16) = v at C1 C2 C3 hv
  generalize rowN a0Set a1Firq a1Irq true true = u at C5 hv
  generalize wakN a0Set a1Firq a1Irq = k at C4 hv
  have c0 : 0 ≤ a2 := b2.1
  have c1 : a2 < 256 := hcc.2
  clear hcc b2 m1 m2 m3 m4 hca hco
  rcases hv with ⟨rfl, rfl, rfl, rfl⟩ | ⟨rfl, rfl, rfl⟩ | ⟨rfl, rfl, rfl, h0, h3⟩
  · have P00 : Hid (Blk ((((w.alloc (Obj.cells #[.bool a0Level, .bool a0Armed, .bool true] 23)).alloc (Obj.cells #[.bool a1Reset, .bool a1Nmi, .bool a1Firq, .bool a1Irq, .bool a1Halt, .bool a1Req] 32)).alloc (Obj.cells #[.bool false, .bool false, .bool a1Firq, .bool a1Irq, .bool false, .bool false] 32)).alloc (Obj.cells #[.bool false, .bool false, .bool true] 23)) (w.heap.size) 23 #[.bool a0Level, .bool a0Armed, .bool true]) := Lib.hid (Blk.alloc (Blk.alloc (Blk.alloc (Blk.new _ _ _ (0, 0)) _) _) _)
    have P10 : Hid (Blk ((((w.alloc (Obj.cells #[.bool a0Level, .bool a0Armed, .bool true] 23)).alloc (Obj.cells #[.bool a1Reset, .bool a1Nmi, .bool a1Firq, .bool a1Irq, .bool a1Halt, .bool a1Req] 32)).alloc (Obj.cells #[.bool false, .bool false, .bool a1Firq, .bool a1Irq, .bool false, .bool false] 32)).alloc (Obj.cells #[.bool false, .bool false, .bool true] 23)) (w.heap.size + 1) 32 #[.bool a1Reset, .bool a1Nmi, .bool a1Firq, .bool a1Irq, .bool a1Halt, .bool a1Req]) := Lib.hid (Blk.alloc (Blk.alloc (Blk.at1 _) _) _)
    have P20 : Hid (Blk ((((w.alloc (Obj.cells #[.bool a0Level, .bool a0Armed, .bool true] 23)).alloc (Obj.cells #[.bool a1Reset, .bool a1Nmi, .bool a1Firq, .bool a1Irq, .bool a1Halt, .bool a1Req] 32)).alloc (Obj.cells #[.bool false, .bool false, .bool a1Firq, .bool a1Irq, .bool false, .bool false] 32)).alloc (Obj.cells #[.bool false, .bool false, .bool true] 23)) (w.heap.size + 2) 32 #[.bool false, .bool false, .bool a1Firq, .bool a1Irq, .bool false, .bool false]) := Lib.hid (Blk.alloc (Blk.at2 _ _) _)
    have P30 : Hid (Blk ((((w.alloc (Obj.cells #[.bool a0Level, .bool a0Armed, .bool true] 23)).alloc (Obj.cells #[.bool a1Reset, .bool a1Nmi, .bool a1Firq, .bool a1Irq, .bool a1Halt, .bool a1Req] 32)).alloc (Obj.cells #[.bool false, .bool false, .bool a1Firq, .bool a1Irq, .bool false, .bool false] 32)).alloc (Obj.cells #[.bool false, .bool false, .bool true] 23)) (w.heap.size + 3) 23 #[.bool false, .bool false, .bool true]) := Lib.hid (Blk.at3 _ _ _)
    have B00 : Hid (Below w.heap.size w ((((w.alloc (Obj.cells #[.bool a0Level, .bool a0Armed, .bool true] 23)).alloc (Obj.cells #[.bool a1Reset, .bool a1Nmi, .bool a1Firq, .bool a1Irq, .bool a1Halt, .bool a1Req] 32)).alloc (Obj.cells #[.bool false, .bool false, .bool a1Firq, .bool a1Irq, .bool false, .bool false] 32)).alloc (Obj.cells #[.bool false, .bool false, .bool true] 23))) := Lib.hid (Below.alloc0 (Below.alloc0 (Below.alloc0 (Below.alloc0 (Below.refl _ _) _) _) _) _)
    simp only [show (if (1 : Int) > 0 then (1 : Int) + 4 else 0) = 5 from by decide, show decide ((1 : Int) > 0) = true from by decide] at C3
    have D1 := Lib.hid C1
    have D2 := Lib.hid C2
    have D3 := Lib.hid C3
    have D4 := Lib.hid C4
    have D5 := Lib.hid C5
    clear C1 C2 C3 C4 C5
    go_enter Try.func6, Try.ntmps6
    go_wp2_with fail
    refine (D3.out _).mono ?_
    rintro e w1 ⟨rfl, hb⟩
    replace P00 := Lib.hid (Blk.below P00.out hb P00.out.lt)
    replace P10 := Lib.hid (Blk.below P10.out hb P10.out.lt)
    replace P20 := Lib.hid (Blk.below P20.out hb P20.out.lt)
    replace P30 := Lib.hid (Blk.below P30.out hb P30.out.lt)
    have B0 := Lib.hid (Below.trans0 B00.out hb)
    clear hb
    go_wp2
    have S0 : Hid ((fun w' => (w'.cell? ⟨w.heap.size, 0, none⟩ = some (.bool a0Level) ∧ w'.cell? ⟨w.heap.size, 1, none⟩ = some (.bool a0Armed) ∧ w'.cell? ⟨w.heap.size, 2, none⟩ = some (.bool true)) ∧ (w'.cell? ⟨w.heap.size + 1, 0, none⟩ = some (.bool a1Reset) ∧ w'.cell? ⟨w.heap.size + 1, 1, none⟩ = some (.bool a1Nmi) ∧ w'.cell? ⟨w.heap.size + 1, 2, none⟩ = some (.bool a1Firq) ∧ w'.cell? ⟨w.heap.size + 1, 3, none⟩ = some (.bool a1Irq) ∧ w'.cell? ⟨w.heap.size + 1, 4, none⟩ = some (.bool a1Halt) ∧ w'.cell? ⟨w.heap.size + 1, 5, none⟩ = some (.bool a1Req)) ∧ (w'.cell? ⟨w.heap.size + 2, 0, none⟩ = some (.bool false) ∧ w'.cell? ⟨w.heap.size + 2, 1, none⟩ = some (.bool false) ∧ w'.cell? ⟨w.heap.size + 2, 2, none⟩ = some (.bool a1Firq) ∧ w'.cell? ⟨w.heap.size + 2, 3, none⟩ = some (.bool a1Irq) ∧ w'.cell? ⟨w.heap.size + 2, 4, none⟩ = some (.bool false) ∧ w'.cell? ⟨w.heap.size + 2, 5, none⟩ = some (.bool false)) ∧ (w'.cell? ⟨w.heap.size + 3, 0, none⟩ = some (.bool false) ∧ w'.cell? ⟨w.heap.size + 3, 1, none⟩ = some (.bool false) ∧ w'.cell? ⟨w.heap.size + 3, 2, none⟩ = some (.bool true))) w1.drew) := Lib.hid (show (fun w' => (w'.cell? ⟨w.heap.size, 0, none⟩ = some (.bool a0Level) ∧ w'.cell? ⟨w.heap.size, 1, none⟩ = some (.bool a0Armed) ∧ w'.cell? ⟨w.heap.size, 2, none⟩ = some (.bool true)) ∧ (w'.cell? ⟨w.heap.size + 1, 0, none⟩ = some (.bool a1Reset) ∧ w'.cell? ⟨w.heap.size + 1, 1, none⟩ = some (.bool a1Nmi) ∧ w'.cell? ⟨w.heap.size + 1, 2, none⟩ = some (.bool a1Firq) ∧ w'.cell? ⟨w.heap.size + 1, 3, none⟩ = some (.bool a1Irq) ∧ w'.cell? ⟨w.heap.size + 1, 4, none⟩ = some (.bool a1Halt) ∧ w'.cell? ⟨w.heap.size + 1, 5, none⟩ = some (.bool a1Req)) ∧ (w'.cell? ⟨w.heap.size + 2, 0, none⟩ = some (.bool false) ∧ w'.cell? ⟨w.heap.size + 2, 1, none⟩ = some (.bool false) ∧ w'.cell? ⟨w.heap.size + 2, 2, none⟩ = some (.bool a1Firq) ∧ w'.cell? ⟨w.heap.size + 2, 3, none⟩ = some (.bool a1Irq) ∧ w'.cell? ⟨w.heap.size + 2, 4, none⟩ = some (.bool false) ∧ w'.cell? ⟨w.heap.size + 2, 5, none⟩ = some (.bool false)) ∧ (w'.cell? ⟨w.heap.size + 3, 0, none⟩ = some (.bool false) ∧ w'.cell? ⟨w.heap.size + 3, 1, none⟩ = some (.bool false) ∧ w'.cell? ⟨w.heap.size + 3, 2, none⟩ = some (.bool true))) w1.drew from ⟨Blk.c3 P00.out.drew, Blk.c6 P10.out.drew, Blk.c6 P20.out.drew, Blk.c3 P30.out.drew⟩)
    refine wp_region_noPanic ?_
    refine wp_region_held_drew (S := (fun w' => (w'.cell? ⟨w.heap.size, 0, none⟩ = some (.bool a0Level) ∧ w'.cell? ⟨w.heap.size, 1, none⟩ = some (.bool a0Armed) ∧ w'.cell? ⟨w.heap.size, 2, none⟩ = some (.bool true)) ∧ (w'.cell? ⟨w.heap.size + 1, 0, none⟩ = some (.bool a1Reset) ∧ w'.cell? ⟨w.heap.size + 1, 1, none⟩ = some (.bool a1Nmi) ∧ w'.cell? ⟨w.heap.size + 1, 2, none⟩ = some (.bool a1Firq) ∧ w'.cell? ⟨w.heap.size + 1, 3, none⟩ = some (.bool a1Irq) ∧ w'.cell? ⟨w.heap.size + 1, 4, none⟩ = some (.bool a1Halt) ∧ w'.cell? ⟨w.heap.size + 1, 5, none⟩ = some (.bool a1Req)) ∧ (w'.cell? ⟨w.heap.size + 2, 0, none⟩ = some (.bool false) ∧ w'.cell? ⟨w.heap.size + 2, 1, none⟩ = some (.bool false) ∧ w'.cell? ⟨w.heap.size + 2, 2, none⟩ = some (.bool a1Firq) ∧ w'.cell? ⟨w.heap.size + 2, 3, none⟩ = some (.bool a1Irq) ∧ w'.cell? ⟨w.heap.size + 2, 4, none⟩ = some (.bool false) ∧ w'.cell? ⟨w.heap.size + 2, 5, none⟩ = some (.bool false)) ∧ (w'.cell? ⟨w.heap.size + 3, 0, none⟩ = some (.bool false) ∧ w'.cell? ⟨w.heap.size + 3, 1, none⟩ = some (.bool false) ∧ w'.cell? ⟨w.heap.size + 3, 2, none⟩ = some (.bool true)))) (by kernel_rfl) ?_ (fun hH0 => ?_)
    · (try dsimp only); with_reducible exact S0.out
    refine wpAnyH_take (i := 0) (oi := ({ dst := some 26, op := Op.load 23 (Operand.tmp 3), type := 23, pos := "law.go:32", after := #[], guard := none } : Oper)) (v := ?_) rfl (by kernel_rfl) (by kernel_rfl) (by kernel_rfl) (fun _ _ _ h => h) (Or.inl ⟨by rfl, ?_⟩) (by assumption) ?_
    rotate_left 1
    · (intro w hSw; (try dsimp only at hSw); go_simp; (try with_reducible rfl))
    (try simp only [Act.put, List.setIfInBounds_toArray, List.set_cons_zero, List.set_cons_succ])
    refine wpAnyH_take (i := 1) (oi := ({ dst := some 27, op := Op.load 32 (Operand.tmp 4), type := 32, pos := "law.go:32", after := #[], guard := none } : Oper)) (v := ?_) rfl (by kernel_rfl) (by kernel_rfl) (by kernel_rfl) (fun _ _ _ h => h) (Or.inl ⟨by rfl, ?_⟩) (by assumption) ?_
    rotate_left 1
    · (intro w hSw; (try dsimp only at hSw); go_simp; (try with_reducible rfl))
    (try simp only [Act.put, List.setIfInBounds_toArray, List.set_cons_zero, List.set_cons_succ])
    refine wpAnyH_take (i := 2) (oi := ({ dst := some 28, op := Op.move (Operand.tmp 2), type := 5, pos := "law.go:32", after := #[], guard := none } : Oper)) (v := ?_) rfl (by kernel_rfl) (by kernel_rfl) (by kernel_rfl) (fun _ _ _ h => h) (Or.inl ⟨by rfl, ?_⟩) (by assumption) ?_
    rotate_left 1
    · (intro w hSw; (try dsimp only at hSw); go_simp; (try with_reducible rfl))
    (try simp only [Act.put, List.setIfInBounds_toArray, List.set_cons_zero, List.set_cons_succ])
    refine wpAnyH_take (i := 4) (oi := ({ dst := some 30, op := Op.load 23 (Operand.tmp 8), type := 23, pos := "law.go:32", after := #[], guard := none } : Oper)) (v := ?_) rfl (by kernel_rfl) (by kernel_rfl) (by kernel_rfl) (fun _ _ _ h => h) (Or.inl ⟨by rfl, ?_⟩) (by assumption) ?_
    rotate_left 1
    · (intro w hSw; (try dsimp only at hSw); go_simp; (try with_reducible rfl))
    (try simp only [Act.put, List.setIfInBounds_toArray, List.set_cons_zero, List.set_cons_succ])
    refine wpAnyH_take (i := 5) (oi := ({ dst := some 31, op := Op.load 32 (Operand.tmp 7), type := 32, pos := "law.go:32", after := #[], guard := none } : Oper)) (v := ?_) rfl (by kernel_rfl) (by kernel_rfl) (by kernel_rfl) (fun _ _ _ h => h) (Or.inl ⟨by rfl, ?_⟩) (by assumption) ?_
    rotate_left 1
    · (intro w hSw; (try dsimp only at hSw); go_simp; (try with_reducible rfl))
    (try simp only [Act.put, List.setIfInBounds_toArray, List.set_cons_zero, List.set_cons_succ])
    refine wpAnyH_take (i := 6) (oi := ({ dst := some 32, op := Op.move (Operand.tmp 2), type := 5, pos := "law.go:32", after := #[], guard := none } : Oper)) (v := ?_) rfl (by kernel_rfl) (by kernel_rfl) (by kernel_rfl) (fun _ _ _ h => h) (Or.inl ⟨by rfl, ?_⟩) (by assumption) ?_
    rotate_left 1
    · (intro w hSw; (try dsimp only at hSw); go_simp; (try with_reducible rfl))
    (try simp only [Act.put, List.setIfInBounds_toArray, List.set_cons_zero, List.set_cons_succ])
    refine wpAnyH_take (i := 7) (oi := ({ dst := some 33, op := Op.binOp BinOp.and 5 (Operand.tmp 32) (Operand.const (Value.int IntKind.u8 80)) 5, type := 5, pos := "law.go:32", after := #[{ on := 6, ground := Ground.data }], guard := none } : Oper)) (v := ?_) rfl (by kernel_rfl) (by kernel_rfl) (by kernel_rfl) (fun _ _ _ h => h) (Or.inl ⟨by rfl, ?_⟩) (by assumption) ?_
    rotate_left 1
    · (intro w hSw; (try dsimp only at hSw); go_simp; (try with_reducible rfl))
    (try simp only [Act.put, List.setIfInBounds_toArray, List.set_cons_zero, List.set_cons_succ])
    refine wpAnyH_ready (rs := [3]) (by kernel_rfl) (by simp) ?_
    refine AllReadyH.cons (o := ({ dst := some 29, op := Op.call { callee := Callee.value (Operand.func 17), args := #[Operand.tmp 26, Operand.tmp 27, Operand.tmp 28], argTypes := #[23, 32, 5] }, type := 3, pos := "law.go:32", after := #[{ on := 0, ground := Ground.data }, { on := 1, ground := Ground.data }, { on := 2, ground := Ground.data }], guard := none } : Oper)) rfl (fun K hK => ?_) ?_
    rotate_left 1
    · exact AllReadyH.nil
    go_simp
    go_at_call 17
    ((with_reducible refine (D1.out _).mono ?_); rintro e v1 ⟨rfl, hb⟩; have P01 := Lib.hid (Blk.below P00.out.drew hb P00.out.lt); have P11 := Lib.hid (Blk.below P10.out.drew hb P10.out.lt); have P21 := Lib.hid (Blk.below P20.out.drew hb P20.out.lt); have P31 := Lib.hid (Blk.below P30.out.drew hb P30.out.lt); have B1 := Lib.hid (Below.trans0 (Below.drew0 B0.out) hb); have S1 := Lib.hid (show (fun w' => (w'.cell? ⟨w.heap.size, 0, none⟩ = some (.bool a0Level) ∧ w'.cell? ⟨w.heap.size, 1, none⟩ = some (.bool a0Armed) ∧ w'.cell? ⟨w.heap.size, 2, none⟩ = some (.bool true)) ∧ (w'.cell? ⟨w.heap.size + 1, 0, none⟩ = some (.bool a1Reset) ∧ w'.cell? ⟨w.heap.size + 1, 1, none⟩ = some (.bool a1Nmi) ∧ w'.cell? ⟨w.heap.size + 1, 2, none⟩ = some (.bool a1Firq) ∧ w'.cell? ⟨w.heap.size + 1, 3, none⟩ = some (.bool a1Irq) ∧ w'.cell? ⟨w.heap.size + 1, 4, none⟩ = some (.bool a1Halt) ∧ w'.cell? ⟨w.heap.size + 1, 5, none⟩ = some (.bool a1Req)) ∧ (w'.cell? ⟨w.heap.size + 2, 0, none⟩ = some (.bool false) ∧ w'.cell? ⟨w.heap.size + 2, 1, none⟩ = some (.bool false) ∧ w'.cell? ⟨w.heap.size + 2, 2, none⟩ = some (.bool a1Firq) ∧ w'.cell? ⟨w.heap.size + 2, 3, none⟩ = some (.bool a1Irq) ∧ w'.cell? ⟨w.heap.size + 2, 4, none⟩ = some (.bool false) ∧ w'.cell? ⟨w.heap.size + 2, 5, none⟩ = some (.bool false)) ∧ (w'.cell? ⟨w.heap.size + 3, 0, none⟩ = some (.bool false) ∧ w'.cell? ⟨w.heap.size + 3, 1, none⟩ = some (.bool false) ∧ w'.cell? ⟨w.heap.size + 3, 2, none⟩ = some (.bool true))) v1 from ⟨Blk.c3 P01.out, Blk.c6 P11.out, Blk.c6 P21.out, Blk.c3 P31.out⟩); clear hb)
    first | (refine hK.out _ _ ?_ (fun hH1 => ?_)) | (go_wp2_with fail; refine hK.out _ _ ?_ (fun hH1 => ?_))
    · (try dsimp only); with_reducible exact S1.out
    clear hK K hH0
    (try simp only [Act.put, List.setIfInBounds_toArray, List.set_cons_zero, List.set_cons_succ])
    refine wpAnyH_ready (rs := [8]) (by kernel_rfl) (by simp) ?_
    refine AllReadyH.cons (o := ({ dst := some 34, op := Op.call { callee := Callee.value (Operand.func 17), args := #[Operand.tmp 30, Operand.tmp 31, Operand.tmp 33], argTypes := #[23, 32, 5] }, type := 3, pos := "law.go:32", after := #[{ on := 4, ground := Ground.data }, { on := 5, ground := Ground.data }, { on := 7, ground := Ground.data }, { on := 3, ground := Ground.chain }], guard := none } : Oper)) rfl (fun K hK => ?_) ?_
    rotate_left 1
    · exact AllReadyH.nil
    go_simp
    go_at_call 17
    ((with_reducible refine (D2.out _).mono ?_); rintro e v2 ⟨rfl, hb⟩; have P02 := Lib.hid (Blk.below P01.out hb P01.out.lt); have P12 := Lib.hid (Blk.below P11.out hb P11.out.lt); have P22 := Lib.hid (Blk.below P21.out hb P21.out.lt); have P32 := Lib.hid (Blk.below P31.out hb P31.out.lt); have B2 := Lib.hid (Below.trans0 B1.out hb); have S2 := Lib.hid (show (fun w' => (w'.cell? ⟨w.heap.size, 0, none⟩ = some (.bool a0Level) ∧ w'.cell? ⟨w.heap.size, 1, none⟩ = some (.bool a0Armed) ∧ w'.cell? ⟨w.heap.size, 2, none⟩ = some (.bool true)) ∧ (w'.cell? ⟨w.heap.size + 1, 0, none⟩ = some (.bool a1Reset) ∧ w'.cell? ⟨w.heap.size + 1, 1, none⟩ = some (.bool a1Nmi) ∧ w'.cell? ⟨w.heap.size + 1, 2, none⟩ = some (.bool a1Firq) ∧ w'.cell? ⟨w.heap.size + 1, 3, none⟩ = some (.bool a1Irq) ∧ w'.cell? ⟨w.heap.size + 1, 4, none⟩ = some (.bool a1Halt) ∧ w'.cell? ⟨w.heap.size + 1, 5, none⟩ = some (.bool a1Req)) ∧ (w'.cell? ⟨w.heap.size + 2, 0, none⟩ = some (.bool false) ∧ w'.cell? ⟨w.heap.size + 2, 1, none⟩ = some (.bool false) ∧ w'.cell? ⟨w.heap.size + 2, 2, none⟩ = some (.bool a1Firq) ∧ w'.cell? ⟨w.heap.size + 2, 3, none⟩ = some (.bool a1Irq) ∧ w'.cell? ⟨w.heap.size + 2, 4, none⟩ = some (.bool false) ∧ w'.cell? ⟨w.heap.size + 2, 5, none⟩ = some (.bool false)) ∧ (w'.cell? ⟨w.heap.size + 3, 0, none⟩ = some (.bool false) ∧ w'.cell? ⟨w.heap.size + 3, 1, none⟩ = some (.bool false) ∧ w'.cell? ⟨w.heap.size + 3, 2, none⟩ = some (.bool true))) v2 from ⟨Blk.c3 P02.out, Blk.c6 P12.out, Blk.c6 P22.out, Blk.c3 P32.out⟩); clear hb)
    first | (refine hK.out _ _ ?_ (fun hH2 => ?_)) | (go_wp2_with fail; refine hK.out _ _ ?_ (fun hH2 => ?_))
    · (try dsimp only); with_reducible exact S2.out
    clear hK K hH1
    (try simp only [Act.put, List.setIfInBounds_toArray, List.set_cons_zero, List.set_cons_succ])
    refine wpAnyH_take (i := 9) (oi := ({ dst := some 35, op := Op.binOp BinOp.eql 3 (Operand.tmp 29) (Operand.tmp 34) 3, type := 4, pos := "law.go:32", after := #[{ on := 3, ground := Ground.data }, { on := 8, ground := Ground.data }], guard := none } : Oper)) (v := ?_) rfl (by kernel_rfl) (by kernel_rfl) (by kernel_rfl) (fun _ _ _ h => h) (Or.inl ⟨by rfl, ?_⟩) (by assumption) ?_
    rotate_left 1
    · (intro w hSw; (try dsimp only at hSw); go_simp; (try with_reducible rfl))
    (try simp only [Act.put, List.setIfInBounds_toArray, List.set_cons_zero, List.set_cons_succ])
    refine wpAnyH_take (i := 10) (oi := ({ dst := some 36, op := Op.move (Operand.tmp 35), type := 4, pos := "law.go:32", after := #[{ on := 9, ground := Ground.data }, { on := 8, ground := Ground.chain }], guard := none } : Oper)) (v := ?_) rfl (by kernel_rfl) (by kernel_rfl) (by kernel_rfl) (fun _ _ _ h => h) (Or.inl ⟨by rfl, ?_⟩) (by assumption) ?_
    rotate_left 1
    · (intro w hSw; (try dsimp only at hSw); go_simp; (try with_reducible rfl))
    (try simp only [Act.put, List.setIfInBounds_toArray, List.set_cons_zero, List.set_cons_succ])
    refine wpAnyH_take (i := 11) (oi := ({ dst := some 37, op := Op.move (Operand.tmp 10), type := 4, pos := "law.go:32", after := #[{ on := 10, ground := Ground.guard }], guard := some (10, true) } : Oper)) (v := ?_) rfl (by kernel_rfl) (by kernel_rfl) (by kernel_rfl) (fun _ _ _ h => h) (Or.inl ⟨by rfl, ?_⟩) (by assumption) ?_
    rotate_left 1
    · (intro w hSw; (try dsimp only at hSw); go_simp; (try with_reducible rfl))
    (try simp only [Act.put, List.setIfInBounds_toArray, List.set_cons_zero, List.set_cons_succ])
    refine wpAnyH_take (i := 12) (oi := ({ dst := some 38, op := Op.unOp UnOp.not 4 (Operand.tmp 37), type := 4, pos := "law.go:32", after := #[{ on := 11, ground := Ground.data }, { on := 10, ground := Ground.guard }], guard := some (10, true) } : Oper)) (v := ?_) rfl (by kernel_rfl) (by kernel_rfl) (by kernel_rfl) (fun _ _ _ h => h) (Or.inl ⟨by rfl, ?_⟩) (by assumption) ?_
    rotate_left 1
    · (intro w hSw; (try dsimp only at hSw); go_simp; (try with_reducible rfl))
    (try simp only [Act.put, List.setIfInBounds_toArray, List.set_cons_zero, List.set_cons_succ])
    refine wpAnyH_take (i := 13) (oi := ({ dst := some 39, op := Op.move (Operand.tmp 38), type := 4, pos := "law.go:32", after := #[{ on := 12, ground := Ground.data }, { on := 10, ground := Ground.chain }, { on := 10, ground := Ground.guard }], guard := some (10, true) } : Oper)) (v := ?_) rfl (by kernel_rfl) (by kernel_rfl) (by kernel_rfl) (fun _ _ _ h => h) (Or.inl ⟨by rfl, ?_⟩) (by assumption) ?_
    rotate_left 1
    · (intro w hSw; (try dsimp only at hSw); go_simp; (try with_reducible rfl))
    (try simp only [Act.put, List.setIfInBounds_toArray, List.set_cons_zero, List.set_cons_succ])
    refine wpAnyH_take (i := 14) (oi := ({ dst := some 40, op := Op.load 23 (Operand.tmp 3), type := 23, pos := "law.go:32", after := #[{ on := 13, ground := Ground.guard }], guard := some (13, false) } : Oper)) (v := ?_) rfl (by kernel_rfl) (by kernel_rfl) (by kernel_rfl) (fun _ _ _ h => h) (Or.inl ⟨by rfl, ?_⟩) (by assumption) ?_
    rotate_left 1
    · (intro w hSw; (try dsimp only at hSw); go_simp; (try with_reducible rfl))
    (try simp only [Act.put, List.setIfInBounds_toArray, List.set_cons_zero, List.set_cons_succ])
    refine wpAnyH_take (i := 15) (oi := ({ dst := some 41, op := Op.load 32 (Operand.tmp 4), type := 32, pos := "law.go:32", after := #[{ on := 13, ground := Ground.guard }], guard := some (13, false) } : Oper)) (v := ?_) rfl (by kernel_rfl) (by kernel_rfl) (by kernel_rfl) (fun _ _ _ h => h) (Or.inl ⟨by rfl, ?_⟩) (by assumption) ?_
    rotate_left 1
    · (intro w hSw; (try dsimp only at hSw); go_simp; (try with_reducible rfl))
    (try simp only [Act.put, List.setIfInBounds_toArray, List.set_cons_zero, List.set_cons_succ])
    refine wpAnyH_ready (rs := [16]) (by kernel_rfl) (by simp) ?_
    refine AllReadyH.cons (o := ({ dst := some 42, op := Op.call { callee := Callee.value (Operand.func 18), args := #[Operand.tmp 40, Operand.tmp 41], argTypes := #[23, 32] }, type := 4, pos := "law.go:32", after := #[{ on := 14, ground := Ground.data }, { on := 15, ground := Ground.data }, { on := 13, ground := Ground.chain }, { on := 13, ground := Ground.guard }], guard := some (13, false) } : Oper)) rfl (fun K hK => ?_) ?_
    rotate_left 1
    · exact AllReadyH.nil
    go_simp
    go_at_call 18
    ((with_reducible refine (D4.out _).mono ?_); rintro e v3 ⟨rfl, hb⟩; have P03 := Lib.hid (Blk.below P02.out hb P02.out.lt); have P13 := Lib.hid (Blk.below P12.out hb P12.out.lt); have P23 := Lib.hid (Blk.below P22.out hb P22.out.lt); have P33 := Lib.hid (Blk.below P32.out hb P32.out.lt); have B3 := Lib.hid (Below.trans0 B2.out hb); have S3 := Lib.hid (show (fun w' => (w'.cell? ⟨w.heap.size, 0, none⟩ = some (.bool a0Level) ∧ w'.cell? ⟨w.heap.size, 1, none⟩ = some (.bool a0Armed) ∧ w'.cell? ⟨w.heap.size, 2, none⟩ = some (.bool true)) ∧ (w'.cell? ⟨w.heap.size + 1, 0, none⟩ = some (.bool a1Reset) ∧ w'.cell? ⟨w.heap.size + 1, 1, none⟩ = some (.bool a1Nmi) ∧ w'.cell? ⟨w.heap.size + 1, 2, none⟩ = some (.bool a1Firq) ∧ w'.cell? ⟨w.heap.size + 1, 3, none⟩ = some (.bool a1Irq) ∧ w'.cell? ⟨w.heap.size + 1, 4, none⟩ = some (.bool a1Halt) ∧ w'.cell? ⟨w.heap.size + 1, 5, none⟩ = some (.bool a1Req)) ∧ (w'.cell? ⟨w.heap.size + 2, 0, none⟩ = some (.bool false) ∧ w'.cell? ⟨w.heap.size + 2, 1, none⟩ = some (.bool false) ∧ w'.cell? ⟨w.heap.size + 2, 2, none⟩ = some (.bool a1Firq) ∧ w'.cell? ⟨w.heap.size + 2, 3, none⟩ = some (.bool a1Irq) ∧ w'.cell? ⟨w.heap.size + 2, 4, none⟩ = some (.bool false) ∧ w'.cell? ⟨w.heap.size + 2, 5, none⟩ = some (.bool false)) ∧ (w'.cell? ⟨w.heap.size + 3, 0, none⟩ = some (.bool false) ∧ w'.cell? ⟨w.heap.size + 3, 1, none⟩ = some (.bool false) ∧ w'.cell? ⟨w.heap.size + 3, 2, none⟩ = some (.bool true))) v3 from ⟨Blk.c3 P03.out, Blk.c6 P13.out, Blk.c6 P23.out, Blk.c3 P33.out⟩); clear hb)
    first | (refine hK.out _ _ ?_ (fun hH3 => ?_)) | (go_wp2_with fail; refine hK.out _ _ ?_ (fun hH3 => ?_))
    · (try dsimp only); with_reducible exact S3.out
    clear hK K hH2
    (try simp only [Act.put, List.setIfInBounds_toArray, List.set_cons_zero, List.set_cons_succ])
    refine wpAnyH_take (i := 17) (oi := ({ dst := some 43, op := Op.pick (Operand.tmp 39) (Operand.const (Value.bool true)) (Operand.tmp 42), type := 4, pos := "law.go:32", after := #[{ on := 13, ground := Ground.data }, { on := 16, ground := Ground.data }, { on := 10, ground := Ground.guard }], guard := some (10, true) } : Oper)) (v := ?_) rfl (by kernel_rfl) (by kernel_rfl) (by kernel_rfl) (fun _ _ _ h => h) (Or.inl ⟨by rfl, ?_⟩) (by assumption) ?_
    rotate_left 1
    · (intro w hSw; (try dsimp only at hSw); go_simp; (try with_reducible rfl))
    (try simp only [Act.put, List.setIfInBounds_toArray, List.set_cons_zero, List.set_cons_succ])
    refine wpAnyH_take (i := 18) (oi := ({ dst := some 44, op := Op.pick (Operand.tmp 36) (Operand.tmp 43) (Operand.const (Value.bool false)), type := 4, pos := "law.go:32", after := #[{ on := 10, ground := Ground.data }, { on := 17, ground := Ground.data }], guard := none } : Oper)) (v := ?_) rfl (by kernel_rfl) (by kernel_rfl) (by kernel_rfl) (fun _ _ _ h => h) (Or.inl ⟨by rfl, ?_⟩) (by assumption) ?_
    rotate_left 1
    · (intro w hSw; (try dsimp only at hSw); go_simp; (try with_reducible rfl))
    (try simp only [Act.put, List.setIfInBounds_toArray, List.set_cons_zero, List.set_cons_succ])
    refine wpAnyH_take (i := 19) (oi := ({ dst := some 45, op := Op.move (Operand.tmp 44), type := 4, pos := "law.go:32", after := #[{ on := 18, ground := Ground.data }, { on := 16, ground := Ground.chain }], guard := none } : Oper)) (v := ?_) rfl (by kernel_rfl) (by kernel_rfl) (by kernel_rfl) (fun _ _ _ h => h) (Or.inl ⟨by rfl, ?_⟩) (by assumption) ?_
    rotate_left 1
    · (intro w hSw; (try dsimp only at hSw); go_simp; (try with_reducible rfl))
    (try simp only [Act.put, List.setIfInBounds_toArray, List.set_cons_zero, List.set_cons_succ])
    refine wpAnyH_take (i := 20) (oi := ({ dst := some 46, op := Op.load 23 (Operand.tmp 3), type := 23, pos := "law.go:32", after := #[{ on := 19, ground := Ground.guard }], guard := some (19, true) } : Oper)) (v := ?_) rfl (by kernel_rfl) (by kernel_rfl) (by kernel_rfl) (fun _ _ _ h => h) (Or.inl ⟨by rfl, ?_⟩) (by assumption) ?_
    rotate_left 1
    · (intro w hSw; (try dsimp only at hSw); go_simp; (try with_reducible rfl))
    (try simp only [Act.put, List.setIfInBounds_toArray, List.set_cons_zero, List.set_cons_succ])
    refine wpAnyH_take (i := 21) (oi := ({ dst := some 47, op := Op.load 32 (Operand.tmp 4), type := 32, pos := "law.go:32", after := #[{ on := 19, ground := Ground.guard }], guard := some (19, true) } : Oper)) (v := ?_) rfl (by kernel_rfl) (by kernel_rfl) (by kernel_rfl) (fun _ _ _ h => h) (Or.inl ⟨by rfl, ?_⟩) (by assumption) ?_
    rotate_left 1
    · (intro w hSw; (try dsimp only at hSw); go_simp; (try with_reducible rfl))
    (try simp only [Act.put, List.setIfInBounds_toArray, List.set_cons_zero, List.set_cons_succ])
    refine wpAnyH_take (i := 22) (oi := ({ dst := some 48, op := Op.move (Operand.tmp 2), type := 5, pos := "law.go:32", after := #[{ on := 19, ground := Ground.guard }], guard := some (19, true) } : Oper)) (v := ?_) rfl (by kernel_rfl) (by kernel_rfl) (by kernel_rfl) (fun _ _ _ h => h) (Or.inl ⟨by rfl, ?_⟩) (by assumption) ?_
    rotate_left 1
    · (intro w hSw; (try dsimp only at hSw); go_simp; (try with_reducible rfl))
    (try simp only [Act.put, List.setIfInBounds_toArray, List.set_cons_zero, List.set_cons_succ])
    refine wpAnyH_take (i := 23) (oi := ({ dst := some 49, op := Op.binOp BinOp.or 5 (Operand.tmp 48) (Operand.const (Value.int IntKind.u8 80)) 5, type := 5, pos := "law.go:32", after := #[{ on := 22, ground := Ground.data }, { on := 19, ground := Ground.guard }], guard := some (19, true) } : Oper)) (v := ?_) rfl (by kernel_rfl) (by kernel_rfl) (by kernel_rfl) (fun _ _ _ h => h) (Or.inl ⟨by rfl, ?_⟩) (by assumption) ?_
    rotate_left 1
    · (intro w hSw; (try dsimp only at hSw); go_simp; (try with_reducible rfl))
    (try simp only [Act.put, List.setIfInBounds_toArray, List.set_cons_zero, List.set_cons_succ])
    refine wpAnyH_take (i := 26) (oi := ({ dst := some 52, op := Op.fieldAddr 23 (Operand.tmp 3) 2, type := 0, pos := "law.go:32", after := #[{ on := 19, ground := Ground.guard }], guard := some (19, true) } : Oper)) (v := ?_) rfl (by kernel_rfl) (by kernel_rfl) (by kernel_rfl) (fun _ _ _ h => h) (Or.inl ⟨by rfl, ?_⟩) (by assumption) ?_
    rotate_left 1
    · (intro w hSw; (try dsimp only at hSw); go_simp; (try with_reducible rfl))
    (try simp only [Act.put, List.setIfInBounds_toArray, List.set_cons_zero, List.set_cons_succ])
    refine wpAnyH_take (i := 27) (oi := ({ dst := some 53, op := Op.load 4 (Operand.tmp 52), type := 4, pos := "law.go:32", after := #[{ on := 26, ground := Ground.data }, { on := 19, ground := Ground.guard }], guard := some (19, true) } : Oper)) (v := ?_) rfl (by kernel_rfl) (by kernel_rfl) (by kernel_rfl) (fun _ _ _ h => h) (Or.inl ⟨by rfl, ?_⟩) (by assumption) ?_
    rotate_left 1
    · (intro w hSw; (try dsimp only at hSw); go_simp; (try with_reducible rfl))
    (try simp only [Act.put, List.setIfInBounds_toArray, List.set_cons_zero, List.set_cons_succ])
    refine wpAnyH_take (i := 28) (oi := ({ dst := some 54, op := Op.unOp UnOp.not 4 (Operand.tmp 53), type := 4, pos := "law.go:32", after := #[{ on := 27, ground := Ground.data }, { on := 19, ground := Ground.guard }], guard := some (19, true) } : Oper)) (v := ?_) rfl (by kernel_rfl) (by kernel_rfl) (by kernel_rfl) (fun _ _ _ h => h) (Or.inl ⟨by rfl, ?_⟩) (by assumption) ?_
    rotate_left 1
    · (intro w hSw; (try dsimp only at hSw); go_simp; (try with_reducible rfl))
    (try simp only [Act.put, List.setIfInBounds_toArray, List.set_cons_zero, List.set_cons_succ])
    refine wpAnyH_ready (rs := [24]) (by kernel_rfl) (by simp) ?_
    refine AllReadyH.cons (o := ({ dst := some 50, op := Op.call { callee := Callee.value (Operand.func 17), args := #[Operand.tmp 46, Operand.tmp 47, Operand.tmp 49], argTypes := #[23, 32, 5] }, type := 3, pos := "law.go:32", after := #[{ on := 20, ground := Ground.data }, { on := 21, ground := Ground.data }, { on := 23, ground := Ground.data }, { on := 19, ground := Ground.chain }, { on := 19, ground := Ground.guard }], guard := some (19, true) } : Oper)) rfl (fun K hK => ?_) ?_
    rotate_left 1
    · exact AllReadyH.nil
    go_simp
    go_at_call 17
    ((with_reducible refine (D5.out _).mono ?_); rintro e v4 ⟨rfl, hb⟩; have P04 := Lib.hid (Blk.below P03.out hb P03.out.lt); have P14 := Lib.hid (Blk.below P13.out hb P13.out.lt); have P24 := Lib.hid (Blk.below P23.out hb P23.out.lt); have P34 := Lib.hid (Blk.below P33.out hb P33.out.lt); have B4 := Lib.hid (Below.trans0 B3.out hb); have S4 := Lib.hid (show (fun w' => (w'.cell? ⟨w.heap.size, 0, none⟩ = some (.bool a0Level) ∧ w'.cell? ⟨w.heap.size, 1, none⟩ = some (.bool a0Armed) ∧ w'.cell? ⟨w.heap.size, 2, none⟩ = some (.bool true)) ∧ (w'.cell? ⟨w.heap.size + 1, 0, none⟩ = some (.bool a1Reset) ∧ w'.cell? ⟨w.heap.size + 1, 1, none⟩ = some (.bool a1Nmi) ∧ w'.cell? ⟨w.heap.size + 1, 2, none⟩ = some (.bool a1Firq) ∧ w'.cell? ⟨w.heap.size + 1, 3, none⟩ = some (.bool a1Irq) ∧ w'.cell? ⟨w.heap.size + 1, 4, none⟩ = some (.bool a1Halt) ∧ w'.cell? ⟨w.heap.size + 1, 5, none⟩ = some (.bool a1Req)) ∧ (w'.cell? ⟨w.heap.size + 2, 0, none⟩ = some (.bool false) ∧ w'.cell? ⟨w.heap.size + 2, 1, none⟩ = some (.bool false) ∧ w'.cell? ⟨w.heap.size + 2, 2, none⟩ = some (.bool a1Firq) ∧ w'.cell? ⟨w.heap.size + 2, 3, none⟩ = some (.bool a1Irq) ∧ w'.cell? ⟨w.heap.size + 2, 4, none⟩ = some (.bool false) ∧ w'.cell? ⟨w.heap.size + 2, 5, none⟩ = some (.bool false)) ∧ (w'.cell? ⟨w.heap.size + 3, 0, none⟩ = some (.bool false) ∧ w'.cell? ⟨w.heap.size + 3, 1, none⟩ = some (.bool false) ∧ w'.cell? ⟨w.heap.size + 3, 2, none⟩ = some (.bool true))) v4 from ⟨Blk.c3 P04.out, Blk.c6 P14.out, Blk.c6 P24.out, Blk.c3 P34.out⟩); clear hb)
    first | (refine hK.out _ _ ?_ (fun hH4 => ?_)) | (go_wp2_with fail; refine hK.out _ _ ?_ (fun hH4 => ?_))
    · (try dsimp only); with_reducible exact S4.out
    clear hK K hH3
    (try simp only [Act.put, List.setIfInBounds_toArray, List.set_cons_zero, List.set_cons_succ])
    refine wpAnyH_take (i := 25) (oi := ({ dst := some 51, op := Op.binOp BinOp.eql 3 (Operand.tmp 50) (Operand.const (Value.int IntKind.i64 0)) 3, type := 4, pos := "law.go:32", after := #[{ on := 24, ground := Ground.data }, { on := 19, ground := Ground.guard }], guard := some (19, true) } : Oper)) (v := ?_) rfl (by kernel_rfl) (by kernel_rfl) (by kernel_rfl) (fun _ _ _ h => h) (Or.inl ⟨by rfl, ?_⟩) (by assumption) ?_
    rotate_left 1
    · (intro w hSw; (try dsimp only at hSw); go_simp; (try with_reducible rfl))
    (try simp only [Act.put, List.setIfInBounds_toArray, List.set_cons_zero, List.set_cons_succ])
    refine wpAnyH_take (i := 29) (oi := ({ dst := some 55, op := Op.binOp BinOp.eql 4 (Operand.tmp 51) (Operand.tmp 54) 4, type := 4, pos := "law.go:32", after := #[{ on := 25, ground := Ground.data }, { on := 28, ground := Ground.data }, { on := 19, ground := Ground.guard }], guard := some (19, true) } : Oper)) (v := ?_) rfl (by kernel_rfl) (by kernel_rfl) (by kernel_rfl) (fun _ _ _ h => h) (Or.inl ⟨by rfl, ?_⟩) (by assumption) ?_
    rotate_left 1
    · (intro w hSw; (try dsimp only at hSw); go_simp; (try with_reducible rfl))
    (try simp only [Act.put, List.setIfInBounds_toArray, List.set_cons_zero, List.set_cons_succ])
    refine wpAnyH_take (i := 30) (oi := ({ dst := some 56, op := Op.pick (Operand.tmp 45) (Operand.tmp 55) (Operand.const (Value.bool false)), type := 4, pos := "law.go:32", after := #[{ on := 19, ground := Ground.data }, { on := 29, ground := Ground.data }], guard := none } : Oper)) (v := ?_) rfl (by kernel_rfl) (by kernel_rfl) (by kernel_rfl) (fun _ _ _ h => h) (Or.inl ⟨by rfl, ?_⟩) (by assumption) ?_
    rotate_left 1
    · (intro w hSw; (try dsimp only at hSw); go_simp; (try with_reducible rfl))
    (try simp only [Act.put, List.setIfInBounds_toArray, List.set_cons_zero, List.set_cons_succ])
    refine wpAnyH_take (i := 31) (oi := ({ dst := some 57, op := Op.move (Operand.tmp 56), type := 4, pos := "law.go:32", after := #[{ on := 30, ground := Ground.data }, { on := 24, ground := Ground.chain }], guard := none } : Oper)) (v := ?_) rfl (by kernel_rfl) (by kernel_rfl) (by kernel_rfl) (fun _ _ _ h => h) (Or.inl ⟨by rfl, ?_⟩) (by assumption) ?_
    rotate_left 1
    · (intro w hSw; (try dsimp only at hSw); go_simp; (try with_reducible rfl))
    (try simp only [Act.put, List.setIfInBounds_toArray, List.set_cons_zero, List.set_cons_succ])
    refine wpAnyH_ready (rs := [32]) (by kernel_rfl) (by simp) ?_
    refine AllReadyH.cons (o := ({ dst := some 58, op := Op.call { callee := Callee.value (Operand.func 19), args := #[], argTypes := #[] }, type := 4, pos := "law.go:32", after := #[{ on := 31, ground := Ground.chain }, { on := 31, ground := Ground.guard }], guard := some (31, true) } : Oper)) rfl (fun K hK => ?_) ?_
    rotate_left 1
    · exact AllReadyH.nil
    go_simp
    go_at_call 19
    ((with_reducible refine (alive29 _).mono ?_); rintro e v5 ⟨rfl, hb⟩; have P05 := Lib.hid (Blk.below P04.out hb P04.out.lt); have P15 := Lib.hid (Blk.below P14.out hb P14.out.lt); have P25 := Lib.hid (Blk.below P24.out hb P24.out.lt); have P35 := Lib.hid (Blk.below P34.out hb P34.out.lt); have B5 := Lib.hid (Below.trans0 B4.out hb); have S5 := Lib.hid (show (fun w' => (w'.cell? ⟨w.heap.size, 0, none⟩ = some (.bool a0Level) ∧ w'.cell? ⟨w.heap.size, 1, none⟩ = some (.bool a0Armed) ∧ w'.cell? ⟨w.heap.size, 2, none⟩ = some (.bool true)) ∧ (w'.cell? ⟨w.heap.size + 1, 0, none⟩ = some (.bool a1Reset) ∧ w'.cell? ⟨w.heap.size + 1, 1, none⟩ = some (.bool a1Nmi) ∧ w'.cell? ⟨w.heap.size + 1, 2, none⟩ = some (.bool a1Firq) ∧ w'.cell? ⟨w.heap.size + 1, 3, none⟩ = some (.bool a1Irq) ∧ w'.cell? ⟨w.heap.size + 1, 4, none⟩ = some (.bool a1Halt) ∧ w'.cell? ⟨w.heap.size + 1, 5, none⟩ = some (.bool a1Req)) ∧ (w'.cell? ⟨w.heap.size + 2, 0, none⟩ = some (.bool false) ∧ w'.cell? ⟨w.heap.size + 2, 1, none⟩ = some (.bool false) ∧ w'.cell? ⟨w.heap.size + 2, 2, none⟩ = some (.bool a1Firq) ∧ w'.cell? ⟨w.heap.size + 2, 3, none⟩ = some (.bool a1Irq) ∧ w'.cell? ⟨w.heap.size + 2, 4, none⟩ = some (.bool false) ∧ w'.cell? ⟨w.heap.size + 2, 5, none⟩ = some (.bool false)) ∧ (w'.cell? ⟨w.heap.size + 3, 0, none⟩ = some (.bool false) ∧ w'.cell? ⟨w.heap.size + 3, 1, none⟩ = some (.bool false) ∧ w'.cell? ⟨w.heap.size + 3, 2, none⟩ = some (.bool true))) v5 from ⟨Blk.c3 P05.out, Blk.c6 P15.out, Blk.c6 P25.out, Blk.c3 P35.out⟩); clear hb)
    first | (refine hK.out _ _ ?_ (fun hH5 => ?_)) | (go_wp2_with fail; refine hK.out _ _ ?_ (fun hH5 => ?_))
    · (try dsimp only); with_reducible exact S5.out
    clear hK K hH4
    (try simp only [Act.put, List.setIfInBounds_toArray, List.set_cons_zero, List.set_cons_succ])
    refine wpAnyH_take (i := 33) (oi := ({ dst := some 59, op := Op.pick (Operand.tmp 57) (Operand.tmp 58) (Operand.const (Value.bool false)), type := 4, pos := "law.go:32", after := #[{ on := 31, ground := Ground.data }, { on := 32, ground := Ground.data }], guard := none } : Oper)) (v := ?_) rfl (by kernel_rfl) (by kernel_rfl) (by kernel_rfl) (fun _ _ _ h => h) (Or.inl ⟨by rfl, ?_⟩) (by assumption) ?_
    rotate_left 1
    · (intro w hSw; (try dsimp only at hSw); go_simp; (try with_reducible rfl))
    (try simp only [Act.put, List.setIfInBounds_toArray, List.set_cons_zero, List.set_cons_succ])
    refine wpAnyH_take (i := 34) (oi := ({ dst := some 6, op := Op.assign (Operand.tmp 59), type := 4, pos := "law.go:32", after := #[{ on := 33, ground := Ground.data }, { on := 32, ground := Ground.chain }, { on := 0, ground := Ground.phase }, { on := 1, ground := Ground.phase }, { on := 2, ground := Ground.phase }, { on := 3, ground := Ground.phase }, { on := 4, ground := Ground.phase }, { on := 5, ground := Ground.phase }, { on := 6, ground := Ground.phase }, { on := 7, ground := Ground.phase }, { on := 8, ground := Ground.phase }, { on := 9, ground := Ground.phase }, { on := 10, ground := Ground.phase }, { on := 11, ground := Ground.phase }, { on := 12, ground := Ground.phase }, { on := 13, ground := Ground.phase }, { on := 14, ground := Ground.phase }, { on := 15, ground := Ground.phase }, { on := 16, ground := Ground.phase }, { on := 17, ground := Ground.phase }, { on := 18, ground := Ground.phase }, { on := 19, ground := Ground.phase }, { on := 20, ground := Ground.phase }, { on := 21, ground := Ground.phase }, { on := 22, ground := Ground.phase }, { on := 23, ground := Ground.phase }, { on := 24, ground := Ground.phase }, { on := 25, ground := Ground.phase }, { on := 26, ground := Ground.phase }, { on := 27, ground := Ground.phase }, { on := 28, ground := Ground.phase }, { on := 29, ground := Ground.phase }, { on := 30, ground := Ground.phase }, { on := 31, ground := Ground.phase }, { on := 32, ground := Ground.phase }, { on := 33, ground := Ground.phase }], guard := none } : Oper)) (v := ?_) rfl (by kernel_rfl) (by kernel_rfl) (by kernel_rfl) (fun _ _ _ h => h) (Or.inl ⟨by rfl, ?_⟩) (by assumption) ?_
    rotate_left 1
    · (intro w hSw; (try dsimp only at hSw); go_simp; (try with_reducible rfl))
    (try simp only [Act.put, List.setIfInBounds_toArray, List.set_cons_zero, List.set_cons_succ])
    refine wpAnyH_done (by kernel_rfl) ?_ _
    refine NoPanic.normal ?_
    go_wp2
    go_ret
    exact ⟨rfl, B5.out⟩
  · have P00 : Hid (Blk ((((w.alloc (Obj.cells #[.bool a0Level, .bool a0Armed, .bool false] 23)).alloc (Obj.cells #[.bool a1Reset, .bool a1Nmi, .bool a1Firq, .bool a1Irq, .bool a1Halt, .bool a1Req] 32)).alloc (Obj.cells #[.bool false, .bool false, .bool a1Firq, .bool a1Irq, .bool false, .bool false] 32)).alloc (Obj.cells #[.bool false, .bool false, .bool false] 23)) (w.heap.size) 23 #[.bool a0Level, .bool a0Armed, .bool false]) := Lib.hid (Blk.alloc (Blk.alloc (Blk.alloc (Blk.new _ _ _ (0, 0)) _) _) _)
    have P10 : Hid (Blk ((((w.alloc (Obj.cells #[.bool a0Level, .bool a0Armed, .bool false] 23)).alloc (Obj.cells #[.bool a1Reset, .bool a1Nmi, .bool a1Firq, .bool a1Irq, .bool a1Halt, .bool a1Req] 32)).alloc (Obj.cells #[.bool false, .bool false, .bool a1Firq, .bool a1Irq, .bool false, .bool false] 32)).alloc (Obj.cells #[.bool false, .bool false, .bool false] 23)) (w.heap.size + 1) 32 #[.bool a1Reset, .bool a1Nmi, .bool a1Firq, .bool a1Irq, .bool a1Halt, .bool a1Req]) := Lib.hid (Blk.alloc (Blk.alloc (Blk.at1 _) _) _)
    have P20 : Hid (Blk ((((w.alloc (Obj.cells #[.bool a0Level, .bool a0Armed, .bool false] 23)).alloc (Obj.cells #[.bool a1Reset, .bool a1Nmi, .bool a1Firq, .bool a1Irq, .bool a1Halt, .bool a1Req] 32)).alloc (Obj.cells #[.bool false, .bool false, .bool a1Firq, .bool a1Irq, .bool false, .bool false] 32)).alloc (Obj.cells #[.bool false, .bool false, .bool false] 23)) (w.heap.size + 2) 32 #[.bool false, .bool false, .bool a1Firq, .bool a1Irq, .bool false, .bool false]) := Lib.hid (Blk.alloc (Blk.at2 _ _) _)
    have P30 : Hid (Blk ((((w.alloc (Obj.cells #[.bool a0Level, .bool a0Armed, .bool false] 23)).alloc (Obj.cells #[.bool a1Reset, .bool a1Nmi, .bool a1Firq, .bool a1Irq, .bool a1Halt, .bool a1Req] 32)).alloc (Obj.cells #[.bool false, .bool false, .bool a1Firq, .bool a1Irq, .bool false, .bool false] 32)).alloc (Obj.cells #[.bool false, .bool false, .bool false] 23)) (w.heap.size + 3) 23 #[.bool false, .bool false, .bool false]) := Lib.hid (Blk.at3 _ _ _)
    have B00 : Hid (Below w.heap.size w ((((w.alloc (Obj.cells #[.bool a0Level, .bool a0Armed, .bool false] 23)).alloc (Obj.cells #[.bool a1Reset, .bool a1Nmi, .bool a1Firq, .bool a1Irq, .bool a1Halt, .bool a1Req] 32)).alloc (Obj.cells #[.bool false, .bool false, .bool a1Firq, .bool a1Irq, .bool false, .bool false] 32)).alloc (Obj.cells #[.bool false, .bool false, .bool false] 23))) := Lib.hid (Below.alloc0 (Below.alloc0 (Below.alloc0 (Below.alloc0 (Below.refl _ _) _) _) _) _)
    simp only [show (if (0 : Int) > 0 then (0 : Int) + 4 else 0) = 0 from by decide, show decide ((0 : Int) > 0) = false from by decide] at C3
    have D1 := Lib.hid C1
    have D2 := Lib.hid C2
    have D3 := Lib.hid C3
    have D4 := Lib.hid C4
    have D5 := Lib.hid C5
    clear C1 C2 C3 C4 C5
    go_enter Try.func6, Try.ntmps6
    go_wp2_with fail
    refine (D3.out _).mono ?_
    rintro e w1 ⟨rfl, hb⟩
    replace P00 := Lib.hid (Blk.below P00.out hb P00.out.lt)
    replace P10 := Lib.hid (Blk.below P10.out hb P10.out.lt)
    replace P20 := Lib.hid (Blk.below P20.out hb P20.out.lt)
    replace P30 := Lib.hid (Blk.below P30.out hb P30.out.lt)
    have B0 := Lib.hid (Below.trans0 B00.out hb)
    clear hb
    go_wp2
    have S0 : Hid ((fun w' => (w'.cell? ⟨w.heap.size, 0, none⟩ = some (.bool a0Level) ∧ w'.cell? ⟨w.heap.size, 1, none⟩ = some (.bool a0Armed) ∧ w'.cell? ⟨w.heap.size, 2, none⟩ = some (.bool false)) ∧ (w'.cell? ⟨w.heap.size + 1, 0, none⟩ = some (.bool a1Reset) ∧ w'.cell? ⟨w.heap.size + 1, 1, none⟩ = some (.bool a1Nmi) ∧ w'.cell? ⟨w.heap.size + 1, 2, none⟩ = some (.bool a1Firq) ∧ w'.cell? ⟨w.heap.size + 1, 3, none⟩ = some (.bool a1Irq) ∧ w'.cell? ⟨w.heap.size + 1, 4, none⟩ = some (.bool a1Halt) ∧ w'.cell? ⟨w.heap.size + 1, 5, none⟩ = some (.bool a1Req)) ∧ (w'.cell? ⟨w.heap.size + 2, 0, none⟩ = some (.bool false) ∧ w'.cell? ⟨w.heap.size + 2, 1, none⟩ = some (.bool false) ∧ w'.cell? ⟨w.heap.size + 2, 2, none⟩ = some (.bool a1Firq) ∧ w'.cell? ⟨w.heap.size + 2, 3, none⟩ = some (.bool a1Irq) ∧ w'.cell? ⟨w.heap.size + 2, 4, none⟩ = some (.bool false) ∧ w'.cell? ⟨w.heap.size + 2, 5, none⟩ = some (.bool false)) ∧ (w'.cell? ⟨w.heap.size + 3, 0, none⟩ = some (.bool false) ∧ w'.cell? ⟨w.heap.size + 3, 1, none⟩ = some (.bool false) ∧ w'.cell? ⟨w.heap.size + 3, 2, none⟩ = some (.bool false))) w1.drew) := Lib.hid (show (fun w' => (w'.cell? ⟨w.heap.size, 0, none⟩ = some (.bool a0Level) ∧ w'.cell? ⟨w.heap.size, 1, none⟩ = some (.bool a0Armed) ∧ w'.cell? ⟨w.heap.size, 2, none⟩ = some (.bool false)) ∧ (w'.cell? ⟨w.heap.size + 1, 0, none⟩ = some (.bool a1Reset) ∧ w'.cell? ⟨w.heap.size + 1, 1, none⟩ = some (.bool a1Nmi) ∧ w'.cell? ⟨w.heap.size + 1, 2, none⟩ = some (.bool a1Firq) ∧ w'.cell? ⟨w.heap.size + 1, 3, none⟩ = some (.bool a1Irq) ∧ w'.cell? ⟨w.heap.size + 1, 4, none⟩ = some (.bool a1Halt) ∧ w'.cell? ⟨w.heap.size + 1, 5, none⟩ = some (.bool a1Req)) ∧ (w'.cell? ⟨w.heap.size + 2, 0, none⟩ = some (.bool false) ∧ w'.cell? ⟨w.heap.size + 2, 1, none⟩ = some (.bool false) ∧ w'.cell? ⟨w.heap.size + 2, 2, none⟩ = some (.bool a1Firq) ∧ w'.cell? ⟨w.heap.size + 2, 3, none⟩ = some (.bool a1Irq) ∧ w'.cell? ⟨w.heap.size + 2, 4, none⟩ = some (.bool false) ∧ w'.cell? ⟨w.heap.size + 2, 5, none⟩ = some (.bool false)) ∧ (w'.cell? ⟨w.heap.size + 3, 0, none⟩ = some (.bool false) ∧ w'.cell? ⟨w.heap.size + 3, 1, none⟩ = some (.bool false) ∧ w'.cell? ⟨w.heap.size + 3, 2, none⟩ = some (.bool false))) w1.drew from ⟨Blk.c3 P00.out.drew, Blk.c6 P10.out.drew, Blk.c6 P20.out.drew, Blk.c3 P30.out.drew⟩)
    refine wp_region_noPanic ?_
    refine wp_region_held_drew (S := (fun w' => (w'.cell? ⟨w.heap.size, 0, none⟩ = some (.bool a0Level) ∧ w'.cell? ⟨w.heap.size, 1, none⟩ = some (.bool a0Armed) ∧ w'.cell? ⟨w.heap.size, 2, none⟩ = some (.bool false)) ∧ (w'.cell? ⟨w.heap.size + 1, 0, none⟩ = some (.bool a1Reset) ∧ w'.cell? ⟨w.heap.size + 1, 1, none⟩ = some (.bool a1Nmi) ∧ w'.cell? ⟨w.heap.size + 1, 2, none⟩ = some (.bool a1Firq) ∧ w'.cell? ⟨w.heap.size + 1, 3, none⟩ = some (.bool a1Irq) ∧ w'.cell? ⟨w.heap.size + 1, 4, none⟩ = some (.bool a1Halt) ∧ w'.cell? ⟨w.heap.size + 1, 5, none⟩ = some (.bool a1Req)) ∧ (w'.cell? ⟨w.heap.size + 2, 0, none⟩ = some (.bool false) ∧ w'.cell? ⟨w.heap.size + 2, 1, none⟩ = some (.bool false) ∧ w'.cell? ⟨w.heap.size + 2, 2, none⟩ = some (.bool a1Firq) ∧ w'.cell? ⟨w.heap.size + 2, 3, none⟩ = some (.bool a1Irq) ∧ w'.cell? ⟨w.heap.size + 2, 4, none⟩ = some (.bool false) ∧ w'.cell? ⟨w.heap.size + 2, 5, none⟩ = some (.bool false)) ∧ (w'.cell? ⟨w.heap.size + 3, 0, none⟩ = some (.bool false) ∧ w'.cell? ⟨w.heap.size + 3, 1, none⟩ = some (.bool false) ∧ w'.cell? ⟨w.heap.size + 3, 2, none⟩ = some (.bool false)))) (by kernel_rfl) ?_ (fun hH0 => ?_)
    · (try dsimp only); with_reducible exact S0.out
    refine wpAnyH_take (i := 0) (oi := ({ dst := some 26, op := Op.load 23 (Operand.tmp 3), type := 23, pos := "law.go:32", after := #[], guard := none } : Oper)) (v := ?_) rfl (by kernel_rfl) (by kernel_rfl) (by kernel_rfl) (fun _ _ _ h => h) (Or.inl ⟨by rfl, ?_⟩) (by assumption) ?_
    rotate_left 1
    · (intro w hSw; (try dsimp only at hSw); go_simp; (try with_reducible rfl))
    (try simp only [Act.put, List.setIfInBounds_toArray, List.set_cons_zero, List.set_cons_succ])
    refine wpAnyH_take (i := 1) (oi := ({ dst := some 27, op := Op.load 32 (Operand.tmp 4), type := 32, pos := "law.go:32", after := #[], guard := none } : Oper)) (v := ?_) rfl (by kernel_rfl) (by kernel_rfl) (by kernel_rfl) (fun _ _ _ h => h) (Or.inl ⟨by rfl, ?_⟩) (by assumption) ?_
    rotate_left 1
    · (intro w hSw; (try dsimp only at hSw); go_simp; (try with_reducible rfl))
    (try simp only [Act.put, List.setIfInBounds_toArray, List.set_cons_zero, List.set_cons_succ])
    refine wpAnyH_take (i := 2) (oi := ({ dst := some 28, op := Op.move (Operand.tmp 2), type := 5, pos := "law.go:32", after := #[], guard := none } : Oper)) (v := ?_) rfl (by kernel_rfl) (by kernel_rfl) (by kernel_rfl) (fun _ _ _ h => h) (Or.inl ⟨by rfl, ?_⟩) (by assumption) ?_
    rotate_left 1
    · (intro w hSw; (try dsimp only at hSw); go_simp; (try with_reducible rfl))
    (try simp only [Act.put, List.setIfInBounds_toArray, List.set_cons_zero, List.set_cons_succ])
    refine wpAnyH_take (i := 4) (oi := ({ dst := some 30, op := Op.load 23 (Operand.tmp 8), type := 23, pos := "law.go:32", after := #[], guard := none } : Oper)) (v := ?_) rfl (by kernel_rfl) (by kernel_rfl) (by kernel_rfl) (fun _ _ _ h => h) (Or.inl ⟨by rfl, ?_⟩) (by assumption) ?_
    rotate_left 1
    · (intro w hSw; (try dsimp only at hSw); go_simp; (try with_reducible rfl))
    (try simp only [Act.put, List.setIfInBounds_toArray, List.set_cons_zero, List.set_cons_succ])
    refine wpAnyH_take (i := 5) (oi := ({ dst := some 31, op := Op.load 32 (Operand.tmp 7), type := 32, pos := "law.go:32", after := #[], guard := none } : Oper)) (v := ?_) rfl (by kernel_rfl) (by kernel_rfl) (by kernel_rfl) (fun _ _ _ h => h) (Or.inl ⟨by rfl, ?_⟩) (by assumption) ?_
    rotate_left 1
    · (intro w hSw; (try dsimp only at hSw); go_simp; (try with_reducible rfl))
    (try simp only [Act.put, List.setIfInBounds_toArray, List.set_cons_zero, List.set_cons_succ])
    refine wpAnyH_take (i := 6) (oi := ({ dst := some 32, op := Op.move (Operand.tmp 2), type := 5, pos := "law.go:32", after := #[], guard := none } : Oper)) (v := ?_) rfl (by kernel_rfl) (by kernel_rfl) (by kernel_rfl) (fun _ _ _ h => h) (Or.inl ⟨by rfl, ?_⟩) (by assumption) ?_
    rotate_left 1
    · (intro w hSw; (try dsimp only at hSw); go_simp; (try with_reducible rfl))
    (try simp only [Act.put, List.setIfInBounds_toArray, List.set_cons_zero, List.set_cons_succ])
    refine wpAnyH_take (i := 7) (oi := ({ dst := some 33, op := Op.binOp BinOp.and 5 (Operand.tmp 32) (Operand.const (Value.int IntKind.u8 80)) 5, type := 5, pos := "law.go:32", after := #[{ on := 6, ground := Ground.data }], guard := none } : Oper)) (v := ?_) rfl (by kernel_rfl) (by kernel_rfl) (by kernel_rfl) (fun _ _ _ h => h) (Or.inl ⟨by rfl, ?_⟩) (by assumption) ?_
    rotate_left 1
    · (intro w hSw; (try dsimp only at hSw); go_simp; (try with_reducible rfl))
    (try simp only [Act.put, List.setIfInBounds_toArray, List.set_cons_zero, List.set_cons_succ])
    refine wpAnyH_ready (rs := [3]) (by kernel_rfl) (by simp) ?_
    refine AllReadyH.cons (o := ({ dst := some 29, op := Op.call { callee := Callee.value (Operand.func 17), args := #[Operand.tmp 26, Operand.tmp 27, Operand.tmp 28], argTypes := #[23, 32, 5] }, type := 3, pos := "law.go:32", after := #[{ on := 0, ground := Ground.data }, { on := 1, ground := Ground.data }, { on := 2, ground := Ground.data }], guard := none } : Oper)) rfl (fun K hK => ?_) ?_
    rotate_left 1
    · exact AllReadyH.nil
    go_simp
    go_at_call 17
    ((with_reducible refine (D1.out _).mono ?_); rintro e v1 ⟨rfl, hb⟩; have P01 := Lib.hid (Blk.below P00.out.drew hb P00.out.lt); have P11 := Lib.hid (Blk.below P10.out.drew hb P10.out.lt); have P21 := Lib.hid (Blk.below P20.out.drew hb P20.out.lt); have P31 := Lib.hid (Blk.below P30.out.drew hb P30.out.lt); have B1 := Lib.hid (Below.trans0 (Below.drew0 B0.out) hb); have S1 := Lib.hid (show (fun w' => (w'.cell? ⟨w.heap.size, 0, none⟩ = some (.bool a0Level) ∧ w'.cell? ⟨w.heap.size, 1, none⟩ = some (.bool a0Armed) ∧ w'.cell? ⟨w.heap.size, 2, none⟩ = some (.bool false)) ∧ (w'.cell? ⟨w.heap.size + 1, 0, none⟩ = some (.bool a1Reset) ∧ w'.cell? ⟨w.heap.size + 1, 1, none⟩ = some (.bool a1Nmi) ∧ w'.cell? ⟨w.heap.size + 1, 2, none⟩ = some (.bool a1Firq) ∧ w'.cell? ⟨w.heap.size + 1, 3, none⟩ = some (.bool a1Irq) ∧ w'.cell? ⟨w.heap.size + 1, 4, none⟩ = some (.bool a1Halt) ∧ w'.cell? ⟨w.heap.size + 1, 5, none⟩ = some (.bool a1Req)) ∧ (w'.cell? ⟨w.heap.size + 2, 0, none⟩ = some (.bool false) ∧ w'.cell? ⟨w.heap.size + 2, 1, none⟩ = some (.bool false) ∧ w'.cell? ⟨w.heap.size + 2, 2, none⟩ = some (.bool a1Firq) ∧ w'.cell? ⟨w.heap.size + 2, 3, none⟩ = some (.bool a1Irq) ∧ w'.cell? ⟨w.heap.size + 2, 4, none⟩ = some (.bool false) ∧ w'.cell? ⟨w.heap.size + 2, 5, none⟩ = some (.bool false)) ∧ (w'.cell? ⟨w.heap.size + 3, 0, none⟩ = some (.bool false) ∧ w'.cell? ⟨w.heap.size + 3, 1, none⟩ = some (.bool false) ∧ w'.cell? ⟨w.heap.size + 3, 2, none⟩ = some (.bool false))) v1 from ⟨Blk.c3 P01.out, Blk.c6 P11.out, Blk.c6 P21.out, Blk.c3 P31.out⟩); clear hb)
    first | (refine hK.out _ _ ?_ (fun hH1 => ?_)) | (go_wp2_with fail; refine hK.out _ _ ?_ (fun hH1 => ?_))
    · (try dsimp only); with_reducible exact S1.out
    clear hK K hH0
    (try simp only [Act.put, List.setIfInBounds_toArray, List.set_cons_zero, List.set_cons_succ])
    refine wpAnyH_ready (rs := [8]) (by kernel_rfl) (by simp) ?_
    refine AllReadyH.cons (o := ({ dst := some 34, op := Op.call { callee := Callee.value (Operand.func 17), args := #[Operand.tmp 30, Operand.tmp 31, Operand.tmp 33], argTypes := #[23, 32, 5] }, type := 3, pos := "law.go:32", after := #[{ on := 4, ground := Ground.data }, { on := 5, ground := Ground.data }, { on := 7, ground := Ground.data }, { on := 3, ground := Ground.chain }], guard := none } : Oper)) rfl (fun K hK => ?_) ?_
    rotate_left 1
    · exact AllReadyH.nil
    go_simp
    go_at_call 17
    ((with_reducible refine (D2.out _).mono ?_); rintro e v2 ⟨rfl, hb⟩; have P02 := Lib.hid (Blk.below P01.out hb P01.out.lt); have P12 := Lib.hid (Blk.below P11.out hb P11.out.lt); have P22 := Lib.hid (Blk.below P21.out hb P21.out.lt); have P32 := Lib.hid (Blk.below P31.out hb P31.out.lt); have B2 := Lib.hid (Below.trans0 B1.out hb); have S2 := Lib.hid (show (fun w' => (w'.cell? ⟨w.heap.size, 0, none⟩ = some (.bool a0Level) ∧ w'.cell? ⟨w.heap.size, 1, none⟩ = some (.bool a0Armed) ∧ w'.cell? ⟨w.heap.size, 2, none⟩ = some (.bool false)) ∧ (w'.cell? ⟨w.heap.size + 1, 0, none⟩ = some (.bool a1Reset) ∧ w'.cell? ⟨w.heap.size + 1, 1, none⟩ = some (.bool a1Nmi) ∧ w'.cell? ⟨w.heap.size + 1, 2, none⟩ = some (.bool a1Firq) ∧ w'.cell? ⟨w.heap.size + 1, 3, none⟩ = some (.bool a1Irq) ∧ w'.cell? ⟨w.heap.size + 1, 4, none⟩ = some (.bool a1Halt) ∧ w'.cell? ⟨w.heap.size + 1, 5, none⟩ = some (.bool a1Req)) ∧ (w'.cell? ⟨w.heap.size + 2, 0, none⟩ = some (.bool false) ∧ w'.cell? ⟨w.heap.size + 2, 1, none⟩ = some (.bool false) ∧ w'.cell? ⟨w.heap.size + 2, 2, none⟩ = some (.bool a1Firq) ∧ w'.cell? ⟨w.heap.size + 2, 3, none⟩ = some (.bool a1Irq) ∧ w'.cell? ⟨w.heap.size + 2, 4, none⟩ = some (.bool false) ∧ w'.cell? ⟨w.heap.size + 2, 5, none⟩ = some (.bool false)) ∧ (w'.cell? ⟨w.heap.size + 3, 0, none⟩ = some (.bool false) ∧ w'.cell? ⟨w.heap.size + 3, 1, none⟩ = some (.bool false) ∧ w'.cell? ⟨w.heap.size + 3, 2, none⟩ = some (.bool false))) v2 from ⟨Blk.c3 P02.out, Blk.c6 P12.out, Blk.c6 P22.out, Blk.c3 P32.out⟩); clear hb)
    first | (refine hK.out _ _ ?_ (fun hH2 => ?_)) | (go_wp2_with fail; refine hK.out _ _ ?_ (fun hH2 => ?_))
    · (try dsimp only); with_reducible exact S2.out
    clear hK K hH1
    (try simp only [Act.put, List.setIfInBounds_toArray, List.set_cons_zero, List.set_cons_succ])
    refine wpAnyH_take (i := 9) (oi := ({ dst := some 35, op := Op.binOp BinOp.eql 3 (Operand.tmp 29) (Operand.tmp 34) 3, type := 4, pos := "law.go:32", after := #[{ on := 3, ground := Ground.data }, { on := 8, ground := Ground.data }], guard := none } : Oper)) (v := ?_) rfl (by kernel_rfl) (by kernel_rfl) (by kernel_rfl) (fun _ _ _ h => h) (Or.inl ⟨by rfl, ?_⟩) (by assumption) ?_
    rotate_left 1
    · (intro w hSw; (try dsimp only at hSw); go_simp; (try with_reducible rfl))
    (try simp only [Act.put, List.setIfInBounds_toArray, List.set_cons_zero, List.set_cons_succ])
    refine wpAnyH_take (i := 10) (oi := ({ dst := some 36, op := Op.move (Operand.tmp 35), type := 4, pos := "law.go:32", after := #[{ on := 9, ground := Ground.data }, { on := 8, ground := Ground.chain }], guard := none } : Oper)) (v := ?_) rfl (by kernel_rfl) (by kernel_rfl) (by kernel_rfl) (fun _ _ _ h => h) (Or.inl ⟨by rfl, ?_⟩) (by assumption) ?_
    rotate_left 1
    · (intro w hSw; (try dsimp only at hSw); go_simp; (try with_reducible rfl))
    (try simp only [Act.put, List.setIfInBounds_toArray, List.set_cons_zero, List.set_cons_succ])
    refine wpAnyH_take (i := 11) (oi := ({ dst := some 37, op := Op.move (Operand.tmp 10), type := 4, pos := "law.go:32", after := #[{ on := 10, ground := Ground.guard }], guard := some (10, true) } : Oper)) (v := ?_) rfl (by kernel_rfl) (by kernel_rfl) (by kernel_rfl) (fun _ _ _ h => h) (Or.inl ⟨by rfl, ?_⟩) (by assumption) ?_
    rotate_left 1
    · (intro w hSw; (try dsimp only at hSw); go_simp; (try with_reducible rfl))
    (try simp only [Act.put, List.setIfInBounds_toArray, List.set_cons_zero, List.set_cons_succ])
    refine wpAnyH_take (i := 12) (oi := ({ dst := some 38, op := Op.unOp UnOp.not 4 (Operand.tmp 37), type := 4, pos := "law.go:32", after := #[{ on := 11, ground := Ground.data }, { on := 10, ground := Ground.guard }], guard := some (10, true) } : Oper)) (v := ?_) rfl (by kernel_rfl) (by kernel_rfl) (by kernel_rfl) (fun _ _ _ h => h) (Or.inl ⟨by rfl, ?_⟩) (by assumption) ?_
    rotate_left 1
    · (intro w hSw; (try dsimp only at hSw); go_simp; (try with_reducible rfl))
    (try simp only [Act.put, List.setIfInBounds_toArray, List.set_cons_zero, List.set_cons_succ])
    refine wpAnyH_take (i := 13) (oi := ({ dst := some 39, op := Op.move (Operand.tmp 38), type := 4, pos := "law.go:32", after := #[{ on := 12, ground := Ground.data }, { on := 10, ground := Ground.chain }, { on := 10, ground := Ground.guard }], guard := some (10, true) } : Oper)) (v := ?_) rfl (by kernel_rfl) (by kernel_rfl) (by kernel_rfl) (fun _ _ _ h => h) (Or.inl ⟨by rfl, ?_⟩) (by assumption) ?_
    rotate_left 1
    · (intro w hSw; (try dsimp only at hSw); go_simp; (try with_reducible rfl))
    (try simp only [Act.put, List.setIfInBounds_toArray, List.set_cons_zero, List.set_cons_succ])
    refine wpAnyH_take (i := 14) (oi := ({ dst := some 40, op := Op.load 23 (Operand.tmp 3), type := 23, pos := "law.go:32", after := #[{ on := 13, ground := Ground.guard }], guard := some (13, false) } : Oper)) (v := undef) rfl (by kernel_rfl) (by kernel_rfl) (by kernel_rfl) (fun _ _ _ h => h) (Or.inr ⟨by rfl, rfl⟩) (by assumption) ?_
    (try simp only [Act.put, List.setIfInBounds_toArray, List.set_cons_zero, List.set_cons_succ])
    refine wpAnyH_take (i := 15) (oi := ({ dst := some 41, op := Op.load 32 (Operand.tmp 4), type := 32, pos := "law.go:32", after := #[{ on := 13, ground := Ground.guard }], guard := some (13, false) } : Oper)) (v := undef) rfl (by kernel_rfl) (by kernel_rfl) (by kernel_rfl) (fun _ _ _ h => h) (Or.inr ⟨by rfl, rfl⟩) (by assumption) ?_
    (try simp only [Act.put, List.setIfInBounds_toArray, List.set_cons_zero, List.set_cons_succ])
    refine wpAnyH_take (i := 16) (oi := ({ dst := some 42, op := Op.call { callee := Callee.value (Operand.func 18), args := #[Operand.tmp 40, Operand.tmp 41], argTypes := #[23, 32] }, type := 4, pos := "law.go:32", after := #[{ on := 14, ground := Ground.data }, { on := 15, ground := Ground.data }, { on := 13, ground := Ground.chain }, { on := 13, ground := Ground.guard }], guard := some (13, false) } : Oper)) (v := undef) rfl (by kernel_rfl) (by kernel_rfl) (by kernel_rfl) (fun _ _ _ h => h) (Or.inr ⟨by rfl, rfl⟩) (by assumption) ?_
    (try simp only [Act.put, List.setIfInBounds_toArray, List.set_cons_zero, List.set_cons_succ])
    refine wpAnyH_take (i := 17) (oi := ({ dst := some 43, op := Op.pick (Operand.tmp 39) (Operand.const (Value.bool true)) (Operand.tmp 42), type := 4, pos := "law.go:32", after := #[{ on := 13, ground := Ground.data }, { on := 16, ground := Ground.data }, { on := 10, ground := Ground.guard }], guard := some (10, true) } : Oper)) (v := ?_) rfl (by kernel_rfl) (by kernel_rfl) (by kernel_rfl) (fun _ _ _ h => h) (Or.inl ⟨by rfl, ?_⟩) (by assumption) ?_
    rotate_left 1
    · (intro w hSw; (try dsimp only at hSw); go_simp; (try with_reducible rfl))
    (try simp only [Act.put, List.setIfInBounds_toArray, List.set_cons_zero, List.set_cons_succ])
    refine wpAnyH_take (i := 18) (oi := ({ dst := some 44, op := Op.pick (Operand.tmp 36) (Operand.tmp 43) (Operand.const (Value.bool false)), type := 4, pos := "law.go:32", after := #[{ on := 10, ground := Ground.data }, { on := 17, ground := Ground.data }], guard := none } : Oper)) (v := ?_) rfl (by kernel_rfl) (by kernel_rfl) (by kernel_rfl) (fun _ _ _ h => h) (Or.inl ⟨by rfl, ?_⟩) (by assumption) ?_
    rotate_left 1
    · (intro w hSw; (try dsimp only at hSw); go_simp; (try with_reducible rfl))
    (try simp only [Act.put, List.setIfInBounds_toArray, List.set_cons_zero, List.set_cons_succ])
    refine wpAnyH_take (i := 19) (oi := ({ dst := some 45, op := Op.move (Operand.tmp 44), type := 4, pos := "law.go:32", after := #[{ on := 18, ground := Ground.data }, { on := 16, ground := Ground.chain }], guard := none } : Oper)) (v := ?_) rfl (by kernel_rfl) (by kernel_rfl) (by kernel_rfl) (fun _ _ _ h => h) (Or.inl ⟨by rfl, ?_⟩) (by assumption) ?_
    rotate_left 1
    · (intro w hSw; (try dsimp only at hSw); go_simp; (try with_reducible rfl))
    (try simp only [Act.put, List.setIfInBounds_toArray, List.set_cons_zero, List.set_cons_succ])
    refine wpAnyH_take (i := 20) (oi := ({ dst := some 46, op := Op.load 23 (Operand.tmp 3), type := 23, pos := "law.go:32", after := #[{ on := 19, ground := Ground.guard }], guard := some (19, true) } : Oper)) (v := ?_) rfl (by kernel_rfl) (by kernel_rfl) (by kernel_rfl) (fun _ _ _ h => h) (Or.inl ⟨by rfl, ?_⟩) (by assumption) ?_
    rotate_left 1
    · (intro w hSw; (try dsimp only at hSw); go_simp; (try with_reducible rfl))
    (try simp only [Act.put, List.setIfInBounds_toArray, List.set_cons_zero, List.set_cons_succ])
    refine wpAnyH_take (i := 21) (oi := ({ dst := some 47, op := Op.load 32 (Operand.tmp 4), type := 32, pos := "law.go:32", after := #[{ on := 19, ground := Ground.guard }], guard := some (19, true) } : Oper)) (v := ?_) rfl (by kernel_rfl) (by kernel_rfl) (by kernel_rfl) (fun _ _ _ h => h) (Or.inl ⟨by rfl, ?_⟩) (by assumption) ?_
    rotate_left 1
    · (intro w hSw; (try dsimp only at hSw); go_simp; (try with_reducible rfl))
    (try simp only [Act.put, List.setIfInBounds_toArray, List.set_cons_zero, List.set_cons_succ])
    refine wpAnyH_take (i := 22) (oi := ({ dst := some 48, op := Op.move (Operand.tmp 2), type := 5, pos := "law.go:32", after := #[{ on := 19, ground := Ground.guard }], guard := some (19, true) } : Oper)) (v := ?_) rfl (by kernel_rfl) (by kernel_rfl) (by kernel_rfl) (fun _ _ _ h => h) (Or.inl ⟨by rfl, ?_⟩) (by assumption) ?_
    rotate_left 1
    · (intro w hSw; (try dsimp only at hSw); go_simp; (try with_reducible rfl))
    (try simp only [Act.put, List.setIfInBounds_toArray, List.set_cons_zero, List.set_cons_succ])
    refine wpAnyH_take (i := 23) (oi := ({ dst := some 49, op := Op.binOp BinOp.or 5 (Operand.tmp 48) (Operand.const (Value.int IntKind.u8 80)) 5, type := 5, pos := "law.go:32", after := #[{ on := 22, ground := Ground.data }, { on := 19, ground := Ground.guard }], guard := some (19, true) } : Oper)) (v := ?_) rfl (by kernel_rfl) (by kernel_rfl) (by kernel_rfl) (fun _ _ _ h => h) (Or.inl ⟨by rfl, ?_⟩) (by assumption) ?_
    rotate_left 1
    · (intro w hSw; (try dsimp only at hSw); go_simp; (try with_reducible rfl))
    (try simp only [Act.put, List.setIfInBounds_toArray, List.set_cons_zero, List.set_cons_succ])
    refine wpAnyH_take (i := 26) (oi := ({ dst := some 52, op := Op.fieldAddr 23 (Operand.tmp 3) 2, type := 0, pos := "law.go:32", after := #[{ on := 19, ground := Ground.guard }], guard := some (19, true) } : Oper)) (v := ?_) rfl (by kernel_rfl) (by kernel_rfl) (by kernel_rfl) (fun _ _ _ h => h) (Or.inl ⟨by rfl, ?_⟩) (by assumption) ?_
    rotate_left 1
    · (intro w hSw; (try dsimp only at hSw); go_simp; (try with_reducible rfl))
    (try simp only [Act.put, List.setIfInBounds_toArray, List.set_cons_zero, List.set_cons_succ])
    refine wpAnyH_take (i := 27) (oi := ({ dst := some 53, op := Op.load 4 (Operand.tmp 52), type := 4, pos := "law.go:32", after := #[{ on := 26, ground := Ground.data }, { on := 19, ground := Ground.guard }], guard := some (19, true) } : Oper)) (v := ?_) rfl (by kernel_rfl) (by kernel_rfl) (by kernel_rfl) (fun _ _ _ h => h) (Or.inl ⟨by rfl, ?_⟩) (by assumption) ?_
    rotate_left 1
    · (intro w hSw; (try dsimp only at hSw); go_simp; (try with_reducible rfl))
    (try simp only [Act.put, List.setIfInBounds_toArray, List.set_cons_zero, List.set_cons_succ])
    refine wpAnyH_take (i := 28) (oi := ({ dst := some 54, op := Op.unOp UnOp.not 4 (Operand.tmp 53), type := 4, pos := "law.go:32", after := #[{ on := 27, ground := Ground.data }, { on := 19, ground := Ground.guard }], guard := some (19, true) } : Oper)) (v := ?_) rfl (by kernel_rfl) (by kernel_rfl) (by kernel_rfl) (fun _ _ _ h => h) (Or.inl ⟨by rfl, ?_⟩) (by assumption) ?_
    rotate_left 1
    · (intro w hSw; (try dsimp only at hSw); go_simp; (try with_reducible rfl))
    (try simp only [Act.put, List.setIfInBounds_toArray, List.set_cons_zero, List.set_cons_succ])
    refine wpAnyH_ready (rs := [24]) (by kernel_rfl) (by simp) ?_
    refine AllReadyH.cons (o := ({ dst := some 50, op := Op.call { callee := Callee.value (Operand.func 17), args := #[Operand.tmp 46, Operand.tmp 47, Operand.tmp 49], argTypes := #[23, 32, 5] }, type := 3, pos := "law.go:32", after := #[{ on := 20, ground := Ground.data }, { on := 21, ground := Ground.data }, { on := 23, ground := Ground.data }, { on := 19, ground := Ground.chain }, { on := 19, ground := Ground.guard }], guard := some (19, true) } : Oper)) rfl (fun K hK => ?_) ?_
    rotate_left 1
    · exact AllReadyH.nil
    go_simp
    go_at_call 17
    ((with_reducible refine (D5.out _).mono ?_); rintro e v3 ⟨rfl, hb⟩; have P03 := Lib.hid (Blk.below P02.out hb P02.out.lt); have P13 := Lib.hid (Blk.below P12.out hb P12.out.lt); have P23 := Lib.hid (Blk.below P22.out hb P22.out.lt); have P33 := Lib.hid (Blk.below P32.out hb P32.out.lt); have B3 := Lib.hid (Below.trans0 B2.out hb); have S3 := Lib.hid (show (fun w' => (w'.cell? ⟨w.heap.size, 0, none⟩ = some (.bool a0Level) ∧ w'.cell? ⟨w.heap.size, 1, none⟩ = some (.bool a0Armed) ∧ w'.cell? ⟨w.heap.size, 2, none⟩ = some (.bool false)) ∧ (w'.cell? ⟨w.heap.size + 1, 0, none⟩ = some (.bool a1Reset) ∧ w'.cell? ⟨w.heap.size + 1, 1, none⟩ = some (.bool a1Nmi) ∧ w'.cell? ⟨w.heap.size + 1, 2, none⟩ = some (.bool a1Firq) ∧ w'.cell? ⟨w.heap.size + 1, 3, none⟩ = some (.bool a1Irq) ∧ w'.cell? ⟨w.heap.size + 1, 4, none⟩ = some (.bool a1Halt) ∧ w'.cell? ⟨w.heap.size + 1, 5, none⟩ = some (.bool a1Req)) ∧ (w'.cell? ⟨w.heap.size + 2, 0, none⟩ = some (.bool false) ∧ w'.cell? ⟨w.heap.size + 2, 1, none⟩ = some (.bool false) ∧ w'.cell? ⟨w.heap.size + 2, 2, none⟩ = some (.bool a1Firq) ∧ w'.cell? ⟨w.heap.size + 2, 3, none⟩ = some (.bool a1Irq) ∧ w'.cell? ⟨w.heap.size + 2, 4, none⟩ = some (.bool false) ∧ w'.cell? ⟨w.heap.size + 2, 5, none⟩ = some (.bool false)) ∧ (w'.cell? ⟨w.heap.size + 3, 0, none⟩ = some (.bool false) ∧ w'.cell? ⟨w.heap.size + 3, 1, none⟩ = some (.bool false) ∧ w'.cell? ⟨w.heap.size + 3, 2, none⟩ = some (.bool false))) v3 from ⟨Blk.c3 P03.out, Blk.c6 P13.out, Blk.c6 P23.out, Blk.c3 P33.out⟩); clear hb)
    first | (refine hK.out _ _ ?_ (fun hH3 => ?_)) | (go_wp2_with fail; refine hK.out _ _ ?_ (fun hH3 => ?_))
    · (try dsimp only); with_reducible exact S3.out
    clear hK K hH2
    (try simp only [Act.put, List.setIfInBounds_toArray, List.set_cons_zero, List.set_cons_succ])
    refine wpAnyH_take (i := 25) (oi := ({ dst := some 51, op := Op.binOp BinOp.eql 3 (Operand.tmp 50) (Operand.const (Value.int IntKind.i64 0)) 3, type := 4, pos := "law.go:32", after := #[{ on := 24, ground := Ground.data }, { on := 19, ground := Ground.guard }], guard := some (19, true) } : Oper)) (v := ?_) rfl (by kernel_rfl) (by kernel_rfl) (by kernel_rfl) (fun _ _ _ h => h) (Or.inl ⟨by rfl, ?_⟩) (by assumption) ?_
    rotate_left 1
    · (intro w hSw; (try dsimp only at hSw); go_simp; (try with_reducible rfl))
    (try simp only [Act.put, List.setIfInBounds_toArray, List.set_cons_zero, List.set_cons_succ])
    refine wpAnyH_take (i := 29) (oi := ({ dst := some 55, op := Op.binOp BinOp.eql 4 (Operand.tmp 51) (Operand.tmp 54) 4, type := 4, pos := "law.go:32", after := #[{ on := 25, ground := Ground.data }, { on := 28, ground := Ground.data }, { on := 19, ground := Ground.guard }], guard := some (19, true) } : Oper)) (v := ?_) rfl (by kernel_rfl) (by kernel_rfl) (by kernel_rfl) (fun _ _ _ h => h) (Or.inl ⟨by rfl, ?_⟩) (by assumption) ?_
    rotate_left 1
    · (intro w hSw; (try dsimp only at hSw); go_simp; (try with_reducible rfl))
    (try simp only [Act.put, List.setIfInBounds_toArray, List.set_cons_zero, List.set_cons_succ])
    refine wpAnyH_take (i := 30) (oi := ({ dst := some 56, op := Op.pick (Operand.tmp 45) (Operand.tmp 55) (Operand.const (Value.bool false)), type := 4, pos := "law.go:32", after := #[{ on := 19, ground := Ground.data }, { on := 29, ground := Ground.data }], guard := none } : Oper)) (v := ?_) rfl (by kernel_rfl) (by kernel_rfl) (by kernel_rfl) (fun _ _ _ h => h) (Or.inl ⟨by rfl, ?_⟩) (by assumption) ?_
    rotate_left 1
    · (intro w hSw; (try dsimp only at hSw); go_simp; (try with_reducible rfl))
    (try simp only [Act.put, List.setIfInBounds_toArray, List.set_cons_zero, List.set_cons_succ])
    refine wpAnyH_take (i := 31) (oi := ({ dst := some 57, op := Op.move (Operand.tmp 56), type := 4, pos := "law.go:32", after := #[{ on := 30, ground := Ground.data }, { on := 24, ground := Ground.chain }], guard := none } : Oper)) (v := ?_) rfl (by kernel_rfl) (by kernel_rfl) (by kernel_rfl) (fun _ _ _ h => h) (Or.inl ⟨by rfl, ?_⟩) (by assumption) ?_
    rotate_left 1
    · (intro w hSw; (try dsimp only at hSw); go_simp; (try with_reducible rfl))
    (try simp only [Act.put, List.setIfInBounds_toArray, List.set_cons_zero, List.set_cons_succ])
    refine wpAnyH_ready (rs := [32]) (by kernel_rfl) (by simp) ?_
    refine AllReadyH.cons (o := ({ dst := some 58, op := Op.call { callee := Callee.value (Operand.func 19), args := #[], argTypes := #[] }, type := 4, pos := "law.go:32", after := #[{ on := 31, ground := Ground.chain }, { on := 31, ground := Ground.guard }], guard := some (31, true) } : Oper)) rfl (fun K hK => ?_) ?_
    rotate_left 1
    · exact AllReadyH.nil
    go_simp
    go_at_call 19
    ((with_reducible refine (alive29 _).mono ?_); rintro e v4 ⟨rfl, hb⟩; have P04 := Lib.hid (Blk.below P03.out hb P03.out.lt); have P14 := Lib.hid (Blk.below P13.out hb P13.out.lt); have P24 := Lib.hid (Blk.below P23.out hb P23.out.lt); have P34 := Lib.hid (Blk.below P33.out hb P33.out.lt); have B4 := Lib.hid (Below.trans0 B3.out hb); have S4 := Lib.hid (show (fun w' => (w'.cell? ⟨w.heap.size, 0, none⟩ = some (.bool a0Level) ∧ w'.cell? ⟨w.heap.size, 1, none⟩ = some (.bool a0Armed) ∧ w'.cell? ⟨w.heap.size, 2, none⟩ = some (.bool false)) ∧ (w'.cell? ⟨w.heap.size + 1, 0, none⟩ = some (.bool a1Reset) ∧ w'.cell? ⟨w.heap.size + 1, 1, none⟩ = some (.bool a1Nmi) ∧ w'.cell? ⟨w.heap.size + 1, 2, none⟩ = some (.bool a1Firq) ∧ w'.cell? ⟨w.heap.size + 1, 3, none⟩ = some (.bool a1Irq) ∧ w'.cell? ⟨w.heap.size + 1, 4, none⟩ = some (.bool a1Halt) ∧ w'.cell? ⟨w.heap.size + 1, 5, none⟩ = some (.bool a1Req)) ∧ (w'.cell? ⟨w.heap.size + 2, 0, none⟩ = some (.bool false) ∧ w'.cell? ⟨w.heap.size + 2, 1, none⟩ = some (.bool false) ∧ w'.cell? ⟨w.heap.size + 2, 2, none⟩ = some (.bool a1Firq) ∧ w'.cell? ⟨w.heap.size + 2, 3, none⟩ = some (.bool a1Irq) ∧ w'.cell? ⟨w.heap.size + 2, 4, none⟩ = some (.bool false) ∧ w'.cell? ⟨w.heap.size + 2, 5, none⟩ = some (.bool false)) ∧ (w'.cell? ⟨w.heap.size + 3, 0, none⟩ = some (.bool false) ∧ w'.cell? ⟨w.heap.size + 3, 1, none⟩ = some (.bool false) ∧ w'.cell? ⟨w.heap.size + 3, 2, none⟩ = some (.bool false))) v4 from ⟨Blk.c3 P04.out, Blk.c6 P14.out, Blk.c6 P24.out, Blk.c3 P34.out⟩); clear hb)
    first | (refine hK.out _ _ ?_ (fun hH4 => ?_)) | (go_wp2_with fail; refine hK.out _ _ ?_ (fun hH4 => ?_))
    · (try dsimp only); with_reducible exact S4.out
    clear hK K hH3
    (try simp only [Act.put, List.setIfInBounds_toArray, List.set_cons_zero, List.set_cons_succ])
    refine wpAnyH_take (i := 33) (oi := ({ dst := some 59, op := Op.pick (Operand.tmp 57) (Operand.tmp 58) (Operand.const (Value.bool false)), type := 4, pos := "law.go:32", after := #[{ on := 31, ground := Ground.data }, { on := 32, ground := Ground.data }], guard := none } : Oper)) (v := ?_) rfl (by kernel_rfl) (by kernel_rfl) (by kernel_rfl) (fun _ _ _ h => h) (Or.inl ⟨by rfl, ?_⟩) (by assumption) ?_
    rotate_left 1
    · (intro w hSw; (try dsimp only at hSw); go_simp; (try with_reducible rfl))
    (try simp only [Act.put, List.setIfInBounds_toArray, List.set_cons_zero, List.set_cons_succ])
    refine wpAnyH_take (i := 34) (oi := ({ dst := some 6, op := Op.assign (Operand.tmp 59), type := 4, pos := "law.go:32", after := #[{ on := 33, ground := Ground.data }, { on := 32, ground := Ground.chain }, { on := 0, ground := Ground.phase }, { on := 1, ground := Ground.phase }, { on := 2, ground := Ground.phase }, { on := 3, ground := Ground.phase }, { on := 4, ground := Ground.phase }, { on := 5, ground := Ground.phase }, { on := 6, ground := Ground.phase }, { on := 7, ground := Ground.phase }, { on := 8, ground := Ground.phase }, { on := 9, ground := Ground.phase }, { on := 10, ground := Ground.phase }, { on := 11, ground := Ground.phase }, { on := 12, ground := Ground.phase }, { on := 13, ground := Ground.phase }, { on := 14, ground := Ground.phase }, { on := 15, ground := Ground.phase }, { on := 16, ground := Ground.phase }, { on := 17, ground := Ground.phase }, { on := 18, ground := Ground.phase }, { on := 19, ground := Ground.phase }, { on := 20, ground := Ground.phase }, { on := 21, ground := Ground.phase }, { on := 22, ground := Ground.phase }, { on := 23, ground := Ground.phase }, { on := 24, ground := Ground.phase }, { on := 25, ground := Ground.phase }, { on := 26, ground := Ground.phase }, { on := 27, ground := Ground.phase }, { on := 28, ground := Ground.phase }, { on := 29, ground := Ground.phase }, { on := 30, ground := Ground.phase }, { on := 31, ground := Ground.phase }, { on := 32, ground := Ground.phase }, { on := 33, ground := Ground.phase }], guard := none } : Oper)) (v := ?_) rfl (by kernel_rfl) (by kernel_rfl) (by kernel_rfl) (fun _ _ _ h => h) (Or.inl ⟨by rfl, ?_⟩) (by assumption) ?_
    rotate_left 1
    · (intro w hSw; (try dsimp only at hSw); go_simp; (try with_reducible rfl))
    (try simp only [Act.put, List.setIfInBounds_toArray, List.set_cons_zero, List.set_cons_succ])
    refine wpAnyH_done (by kernel_rfl) ?_ _
    refine NoPanic.normal ?_
    go_wp2
    go_ret
    exact ⟨rfl, B4.out⟩
  · have P00 : Hid (Blk ((((w.alloc (Obj.cells #[.bool a0Level, .bool a0Armed, .bool false] 23)).alloc (Obj.cells #[.bool a1Reset, .bool a1Nmi, .bool a1Firq, .bool a1Irq, .bool a1Halt, .bool a1Req] 32)).alloc (Obj.cells #[.bool false, .bool false, .bool a1Firq, .bool a1Irq, .bool false, .bool false] 32)).alloc (Obj.cells #[.bool false, .bool false, .bool false] 23)) (w.heap.size) 23 #[.bool a0Level, .bool a0Armed, .bool false]) := Lib.hid (Blk.alloc (Blk.alloc (Blk.alloc (Blk.new _ _ _ (0, 0)) _) _) _)
    have P10 : Hid (Blk ((((w.alloc (Obj.cells #[.bool a0Level, .bool a0Armed, .bool false] 23)).alloc (Obj.cells #[.bool a1Reset, .bool a1Nmi, .bool a1Firq, .bool a1Irq, .bool a1Halt, .bool a1Req] 32)).alloc (Obj.cells #[.bool false, .bool false, .bool a1Firq, .bool a1Irq, .bool false, .bool false] 32)).alloc (Obj.cells #[.bool false, .bool false, .bool false] 23)) (w.heap.size + 1) 32 #[.bool a1Reset, .bool a1Nmi, .bool a1Firq, .bool a1Irq, .bool a1Halt, .bool a1Req]) := Lib.hid (Blk.alloc (Blk.alloc (Blk.at1 _) _) _)
    have P20 : Hid (Blk ((((w.alloc (Obj.cells #[.bool a0Level, .bool a0Armed, .bool false] 23)).alloc (Obj.cells #[.bool a1Reset, .bool a1Nmi, .bool a1Firq, .bool a1Irq, .bool a1Halt, .bool a1Req] 32)).alloc (Obj.cells #[.bool false, .bool false, .bool a1Firq, .bool a1Irq, .bool false, .bool false] 32)).alloc (Obj.cells #[.bool false, .bool false, .bool false] 23)) (w.heap.size + 2) 32 #[.bool false, .bool false, .bool a1Firq, .bool a1Irq, .bool false, .bool false]) := Lib.hid (Blk.alloc (Blk.at2 _ _) _)
    have P30 : Hid (Blk ((((w.alloc (Obj.cells #[.bool a0Level, .bool a0Armed, .bool false] 23)).alloc (Obj.cells #[.bool a1Reset, .bool a1Nmi, .bool a1Firq, .bool a1Irq, .bool a1Halt, .bool a1Req] 32)).alloc (Obj.cells #[.bool false, .bool false, .bool a1Firq, .bool a1Irq, .bool false, .bool false] 32)).alloc (Obj.cells #[.bool false, .bool false, .bool false] 23)) (w.heap.size + 3) 23 #[.bool false, .bool false, .bool false]) := Lib.hid (Blk.at3 _ _ _)
    have B00 : Hid (Below w.heap.size w ((((w.alloc (Obj.cells #[.bool a0Level, .bool a0Armed, .bool false] 23)).alloc (Obj.cells #[.bool a1Reset, .bool a1Nmi, .bool a1Firq, .bool a1Irq, .bool a1Halt, .bool a1Req] 32)).alloc (Obj.cells #[.bool false, .bool false, .bool a1Firq, .bool a1Irq, .bool false, .bool false] 32)).alloc (Obj.cells #[.bool false, .bool false, .bool false] 23))) := Lib.hid (Below.alloc0 (Below.alloc0 (Below.alloc0 (Below.alloc0 (Below.refl _ _) _) _) _) _)
    have g1 : (if v > 0 then v + 4 else 0) = v + 4 := if_pos h0
    have g2 : decide (v > 0) = true := by simpa using h0
    rw [g1, g2] at C3
    clear g1 g2
    have D1 := Lib.hid C1
    have D2 := Lib.hid C2
    have D3 := Lib.hid C3
    have D4 := Lib.hid C4
    have D5 := Lib.hid C5
    clear C1 C2 C3 C4 C5
    go_enter Try.func6, Try.ntmps6
    go_wp2_with fail
    refine (D3.out _).mono ?_
    rintro e w1 ⟨rfl, hb⟩
    replace P00 := Lib.hid (Blk.below P00.out hb P00.out.lt)
    replace P10 := Lib.hid (Blk.below P10.out hb P10.out.lt)
    replace P20 := Lib.hid (Blk.below P20.out hb P20.out.lt)
    replace P30 := Lib.hid (Blk.below P30.out hb P30.out.lt)
    have B0 := Lib.hid (Below.trans0 B00.out hb)
    clear hb
    go_wp2
    have S0 : Hid ((fun w' => (w'.cell? ⟨w.heap.size, 0, none⟩ = some (.bool a0Level) ∧ w'.cell? ⟨w.heap.size, 1, none⟩ = some (.bool a0Armed) ∧ w'.cell? ⟨w.heap.size, 2, none⟩ = some (.bool false)) ∧ (w'.cell? ⟨w.heap.size + 1, 0, none⟩ = some (.bool a1Reset) ∧ w'.cell? ⟨w.heap.size + 1, 1, none⟩ = some (.bool a1Nmi) ∧ w'.cell? ⟨w.heap.size + 1, 2, none⟩ = some (.bool a1Firq) ∧ w'.cell? ⟨w.heap.size + 1, 3, none⟩ = some (.bool a1Irq) ∧ w'.cell? ⟨w.heap.size + 1, 4, none⟩ = some (.bool a1Halt) ∧ w'.cell? ⟨w.heap.size + 1, 5, none⟩ = some (.bool a1Req)) ∧ (w'.cell? ⟨w.heap.size + 2, 0, none⟩ = some (.bool false) ∧ w'.cell? ⟨w.heap.size + 2, 1, none⟩ = some (.bool false) ∧ w'.cell? ⟨w.heap.size + 2, 2, none⟩ = some (.bool a1Firq) ∧ w'.cell? ⟨w.heap.size + 2, 3, none⟩ = some (.bool a1Irq) ∧ w'.cell? ⟨w.heap.size + 2, 4, none⟩ = some (.bool false) ∧ w'.cell? ⟨w.heap.size + 2, 5, none⟩ = some (.bool false)) ∧ (w'.cell? ⟨w.heap.size + 3, 0, none⟩ = some (.bool false) ∧ w'.cell? ⟨w.heap.size + 3, 1, none⟩ = some (.bool false) ∧ w'.cell? ⟨w.heap.size + 3, 2, none⟩ = some (.bool false))) w1.drew) := Lib.hid (show (fun w' => (w'.cell? ⟨w.heap.size, 0, none⟩ = some (.bool a0Level) ∧ w'.cell? ⟨w.heap.size, 1, none⟩ = some (.bool a0Armed) ∧ w'.cell? ⟨w.heap.size, 2, none⟩ = some (.bool false)) ∧ (w'.cell? ⟨w.heap.size + 1, 0, none⟩ = some (.bool a1Reset) ∧ w'.cell? ⟨w.heap.size + 1, 1, none⟩ = some (.bool a1Nmi) ∧ w'.cell? ⟨w.heap.size + 1, 2, none⟩ = some (.bool a1Firq) ∧ w'.cell? ⟨w.heap.size + 1, 3, none⟩ = some (.bool a1Irq) ∧ w'.cell? ⟨w.heap.size + 1, 4, none⟩ = some (.bool a1Halt) ∧ w'.cell? ⟨w.heap.size + 1, 5, none⟩ = some (.bool a1Req)) ∧ (w'.cell? ⟨w.heap.size + 2, 0, none⟩ = some (.bool false) ∧ w'.cell? ⟨w.heap.size + 2, 1, none⟩ = some (.bool false) ∧ w'.cell? ⟨w.heap.size + 2, 2, none⟩ = some (.bool a1Firq) ∧ w'.cell? ⟨w.heap.size + 2, 3, none⟩ = some (.bool a1Irq) ∧ w'.cell? ⟨w.heap.size + 2, 4, none⟩ = some (.bool false) ∧ w'.cell? ⟨w.heap.size + 2, 5, none⟩ = some (.bool false)) ∧ (w'.cell? ⟨w.heap.size + 3, 0, none⟩ = some (.bool false) ∧ w'.cell? ⟨w.heap.size + 3, 1, none⟩ = some (.bool false) ∧ w'.cell? ⟨w.heap.size + 3, 2, none⟩ = some (.bool false))) w1.drew from ⟨Blk.c3 P00.out.drew, Blk.c6 P10.out.drew, Blk.c6 P20.out.drew, Blk.c3 P30.out.drew⟩)
    refine wp_region_noPanic ?_
    refine wp_region_held_drew (S := (fun w' => (w'.cell? ⟨w.heap.size, 0, none⟩ = some (.bool a0Level) ∧ w'.cell? ⟨w.heap.size, 1, none⟩ = some (.bool a0Armed) ∧ w'.cell? ⟨w.heap.size, 2, none⟩ = some (.bool false)) ∧ (w'.cell? ⟨w.heap.size + 1, 0, none⟩ = some (.bool a1Reset) ∧ w'.cell? ⟨w.heap.size + 1, 1, none⟩ = some (.bool a1Nmi) ∧ w'.cell? ⟨w.heap.size + 1, 2, none⟩ = some (.bool a1Firq) ∧ w'.cell? ⟨w.heap.size + 1, 3, none⟩ = some (.bool a1Irq) ∧ w'.cell? ⟨w.heap.size + 1, 4, none⟩ = some (.bool a1Halt) ∧ w'.cell? ⟨w.heap.size + 1, 5, none⟩ = some (.bool a1Req)) ∧ (w'.cell? ⟨w.heap.size + 2, 0, none⟩ = some (.bool false) ∧ w'.cell? ⟨w.heap.size + 2, 1, none⟩ = some (.bool false) ∧ w'.cell? ⟨w.heap.size + 2, 2, none⟩ = some (.bool a1Firq) ∧ w'.cell? ⟨w.heap.size + 2, 3, none⟩ = some (.bool a1Irq) ∧ w'.cell? ⟨w.heap.size + 2, 4, none⟩ = some (.bool false) ∧ w'.cell? ⟨w.heap.size + 2, 5, none⟩ = some (.bool false)) ∧ (w'.cell? ⟨w.heap.size + 3, 0, none⟩ = some (.bool false) ∧ w'.cell? ⟨w.heap.size + 3, 1, none⟩ = some (.bool false) ∧ w'.cell? ⟨w.heap.size + 3, 2, none⟩ = some (.bool false)))) (by kernel_rfl) ?_ (fun hH0 => ?_)
    · (try dsimp only); with_reducible exact S0.out
    refine wpAnyH_take (i := 0) (oi := ({ dst := some 26, op := Op.load 23 (Operand.tmp 3), type := 23, pos := "law.go:32", after := #[], guard := none } : Oper)) (v := ?_) rfl (by kernel_rfl) (by kernel_rfl) (by kernel_rfl) (fun _ _ _ h => h) (Or.inl ⟨by rfl, ?_⟩) (by assumption) ?_
    rotate_left 1
    · (intro w hSw; (try dsimp only at hSw); go_simp; (try with_reducible rfl))
    (try simp only [Act.put, List.setIfInBounds_toArray, List.set_cons_zero, List.set_cons_succ])
    refine wpAnyH_take (i := 1) (oi := ({ dst := some 27, op := Op.load 32 (Operand.tmp 4), type := 32, pos := "law.go:32", after := #[], guard := none } : Oper)) (v := ?_) rfl (by kernel_rfl) (by kernel_rfl) (by kernel_rfl) (fun _ _ _ h => h) (Or.inl ⟨by rfl, ?_⟩) (by assumption) ?_
    rotate_left 1
    · (intro w hSw; (try dsimp only at hSw); go_simp; (try with_reducible rfl))
    (try simp only [Act.put, List.setIfInBounds_toArray, List.set_cons_zero, List.set_cons_succ])
    refine wpAnyH_take (i := 2) (oi := ({ dst := some 28, op := Op.move (Operand.tmp 2), type := 5, pos := "law.go:32", after := #[], guard := none } : Oper)) (v := ?_) rfl (by kernel_rfl) (by kernel_rfl) (by kernel_rfl) (fun _ _ _ h => h) (Or.inl ⟨by rfl, ?_⟩) (by assumption) ?_
    rotate_left 1
    · (intro w hSw; (try dsimp only at hSw); go_simp; (try with_reducible rfl))
    (try simp only [Act.put, List.setIfInBounds_toArray, List.set_cons_zero, List.set_cons_succ])
    refine wpAnyH_take (i := 4) (oi := ({ dst := some 30, op := Op.load 23 (Operand.tmp 8), type := 23, pos := "law.go:32", after := #[], guard := none } : Oper)) (v := ?_) rfl (by kernel_rfl) (by kernel_rfl) (by kernel_rfl) (fun _ _ _ h => h) (Or.inl ⟨by rfl, ?_⟩) (by assumption) ?_
    rotate_left 1
    · (intro w hSw; (try dsimp only at hSw); go_simp; (try with_reducible rfl))
    (try simp only [Act.put, List.setIfInBounds_toArray, List.set_cons_zero, List.set_cons_succ])
    refine wpAnyH_take (i := 5) (oi := ({ dst := some 31, op := Op.load 32 (Operand.tmp 7), type := 32, pos := "law.go:32", after := #[], guard := none } : Oper)) (v := ?_) rfl (by kernel_rfl) (by kernel_rfl) (by kernel_rfl) (fun _ _ _ h => h) (Or.inl ⟨by rfl, ?_⟩) (by assumption) ?_
    rotate_left 1
    · (intro w hSw; (try dsimp only at hSw); go_simp; (try with_reducible rfl))
    (try simp only [Act.put, List.setIfInBounds_toArray, List.set_cons_zero, List.set_cons_succ])
    refine wpAnyH_take (i := 6) (oi := ({ dst := some 32, op := Op.move (Operand.tmp 2), type := 5, pos := "law.go:32", after := #[], guard := none } : Oper)) (v := ?_) rfl (by kernel_rfl) (by kernel_rfl) (by kernel_rfl) (fun _ _ _ h => h) (Or.inl ⟨by rfl, ?_⟩) (by assumption) ?_
    rotate_left 1
    · (intro w hSw; (try dsimp only at hSw); go_simp; (try with_reducible rfl))
    (try simp only [Act.put, List.setIfInBounds_toArray, List.set_cons_zero, List.set_cons_succ])
    refine wpAnyH_take (i := 7) (oi := ({ dst := some 33, op := Op.binOp BinOp.and 5 (Operand.tmp 32) (Operand.const (Value.int IntKind.u8 80)) 5, type := 5, pos := "law.go:32", after := #[{ on := 6, ground := Ground.data }], guard := none } : Oper)) (v := ?_) rfl (by kernel_rfl) (by kernel_rfl) (by kernel_rfl) (fun _ _ _ h => h) (Or.inl ⟨by rfl, ?_⟩) (by assumption) ?_
    rotate_left 1
    · (intro w hSw; (try dsimp only at hSw); go_simp; (try with_reducible rfl))
    (try simp only [Act.put, List.setIfInBounds_toArray, List.set_cons_zero, List.set_cons_succ])
    refine wpAnyH_ready (rs := [3]) (by kernel_rfl) (by simp) ?_
    refine AllReadyH.cons (o := ({ dst := some 29, op := Op.call { callee := Callee.value (Operand.func 17), args := #[Operand.tmp 26, Operand.tmp 27, Operand.tmp 28], argTypes := #[23, 32, 5] }, type := 3, pos := "law.go:32", after := #[{ on := 0, ground := Ground.data }, { on := 1, ground := Ground.data }, { on := 2, ground := Ground.data }], guard := none } : Oper)) rfl (fun K hK => ?_) ?_
    rotate_left 1
    · exact AllReadyH.nil
    go_simp
    go_at_call 17
    ((with_reducible refine (D1.out _).mono ?_); rintro e v1 ⟨rfl, hb⟩; have P01 := Lib.hid (Blk.below P00.out.drew hb P00.out.lt); have P11 := Lib.hid (Blk.below P10.out.drew hb P10.out.lt); have P21 := Lib.hid (Blk.below P20.out.drew hb P20.out.lt); have P31 := Lib.hid (Blk.below P30.out.drew hb P30.out.lt); have B1 := Lib.hid (Below.trans0 (Below.drew0 B0.out) hb); have S1 := Lib.hid (show (fun w' => (w'.cell? ⟨w.heap.size, 0, none⟩ = some (.bool a0Level) ∧ w'.cell? ⟨w.heap.size, 1, none⟩ = some (.bool a0Armed) ∧ w'.cell? ⟨w.heap.size, 2, none⟩ = some (.bool false)) ∧ (w'.cell? ⟨w.heap.size + 1, 0, none⟩ = some (.bool a1Reset) ∧ w'.cell? ⟨w.heap.size + 1, 1, none⟩ = some (.bool a1Nmi) ∧ w'.cell? ⟨w.heap.size + 1, 2, none⟩ = some (.bool a1Firq) ∧ w'.cell? ⟨w.heap.size + 1, 3, none⟩ = some (.bool a1Irq) ∧ w'.cell? ⟨w.heap.size + 1, 4, none⟩ = some (.bool a1Halt) ∧ w'.cell? ⟨w.heap.size + 1, 5, none⟩ = some (.bool a1Req)) ∧ (w'.cell? ⟨w.heap.size + 2, 0, none⟩ = some (.bool false) ∧ w'.cell? ⟨w.heap.size + 2, 1, none⟩ = some (.bool false) ∧ w'.cell? ⟨w.heap.size + 2, 2, none⟩ = some (.bool a1Firq) ∧ w'.cell? ⟨w.heap.size + 2, 3, none⟩ = some (.bool a1Irq) ∧ w'.cell? ⟨w.heap.size + 2, 4, none⟩ = some (.bool false) ∧ w'.cell? ⟨w.heap.size + 2, 5, none⟩ = some (.bool false)) ∧ (w'.cell? ⟨w.heap.size + 3, 0, none⟩ = some (.bool false) ∧ w'.cell? ⟨w.heap.size + 3, 1, none⟩ = some (.bool false) ∧ w'.cell? ⟨w.heap.size + 3, 2, none⟩ = some (.bool false))) v1 from ⟨Blk.c3 P01.out, Blk.c6 P11.out, Blk.c6 P21.out, Blk.c3 P31.out⟩); clear hb)
    first | (refine hK.out _ _ ?_ (fun hH1 => ?_)) | (go_wp2_with fail; refine hK.out _ _ ?_ (fun hH1 => ?_))
    · (try dsimp only); with_reducible exact S1.out
    clear hK K hH0
    (try simp only [Act.put, List.setIfInBounds_toArray, List.set_cons_zero, List.set_cons_succ])
    refine wpAnyH_ready (rs := [8]) (by kernel_rfl) (by simp) ?_
    refine AllReadyH.cons (o := ({ dst := some 34, op := Op.call { callee := Callee.value (Operand.func 17), args := #[Operand.tmp 30, Operand.tmp 31, Operand.tmp 33], argTypes := #[23, 32, 5] }, type := 3, pos := "law.go:32", after := #[{ on := 4, ground := Ground.data }, { on := 5, ground := Ground.data }, { on := 7, ground := Ground.data }, { on := 3, ground := Ground.chain }], guard := none } : Oper)) rfl (fun K hK => ?_) ?_
    rotate_left 1
    · exact AllReadyH.nil
    go_simp
    go_at_call 17
    ((with_reducible refine (D2.out _).mono ?_); rintro e v2 ⟨rfl, hb⟩; have P02 := Lib.hid (Blk.below P01.out hb P01.out.lt); have P12 := Lib.hid (Blk.below P11.out hb P11.out.lt); have P22 := Lib.hid (Blk.below P21.out hb P21.out.lt); have P32 := Lib.hid (Blk.below P31.out hb P31.out.lt); have B2 := Lib.hid (Below.trans0 B1.out hb); have S2 := Lib.hid (show (fun w' => (w'.cell? ⟨w.heap.size, 0, none⟩ = some (.bool a0Level) ∧ w'.cell? ⟨w.heap.size, 1, none⟩ = some (.bool a0Armed) ∧ w'.cell? ⟨w.heap.size, 2, none⟩ = some (.bool false)) ∧ (w'.cell? ⟨w.heap.size + 1, 0, none⟩ = some (.bool a1Reset) ∧ w'.cell? ⟨w.heap.size + 1, 1, none⟩ = some (.bool a1Nmi) ∧ w'.cell? ⟨w.heap.size + 1, 2, none⟩ = some (.bool a1Firq) ∧ w'.cell? ⟨w.heap.size + 1, 3, none⟩ = some (.bool a1Irq) ∧ w'.cell? ⟨w.heap.size + 1, 4, none⟩ = some (.bool a1Halt) ∧ w'.cell? ⟨w.heap.size + 1, 5, none⟩ = some (.bool a1Req)) ∧ (w'.cell? ⟨w.heap.size + 2, 0, none⟩ = some (.bool false) ∧ w'.cell? ⟨w.heap.size + 2, 1, none⟩ = some (.bool false) ∧ w'.cell? ⟨w.heap.size + 2, 2, none⟩ = some (.bool a1Firq) ∧ w'.cell? ⟨w.heap.size + 2, 3, none⟩ = some (.bool a1Irq) ∧ w'.cell? ⟨w.heap.size + 2, 4, none⟩ = some (.bool false) ∧ w'.cell? ⟨w.heap.size + 2, 5, none⟩ = some (.bool false)) ∧ (w'.cell? ⟨w.heap.size + 3, 0, none⟩ = some (.bool false) ∧ w'.cell? ⟨w.heap.size + 3, 1, none⟩ = some (.bool false) ∧ w'.cell? ⟨w.heap.size + 3, 2, none⟩ = some (.bool false))) v2 from ⟨Blk.c3 P02.out, Blk.c6 P12.out, Blk.c6 P22.out, Blk.c3 P32.out⟩); clear hb)
    first | (refine hK.out _ _ ?_ (fun hH2 => ?_)) | (go_wp2_with fail; refine hK.out _ _ ?_ (fun hH2 => ?_))
    · (try dsimp only); with_reducible exact S2.out
    clear hK K hH1
    (try simp only [Act.put, List.setIfInBounds_toArray, List.set_cons_zero, List.set_cons_succ])
    refine wpAnyH_take (i := 9) (oi := ({ dst := some 35, op := Op.binOp BinOp.eql 3 (Operand.tmp 29) (Operand.tmp 34) 3, type := 4, pos := "law.go:32", after := #[{ on := 3, ground := Ground.data }, { on := 8, ground := Ground.data }], guard := none } : Oper)) (v := ?_) rfl (by kernel_rfl) (by kernel_rfl) (by kernel_rfl) (fun _ _ _ h => h) (Or.inl ⟨by rfl, ?_⟩) (by assumption) ?_
    rotate_left 1
    · (intro w hSw; (try dsimp only at hSw); go_simp; (try with_reducible rfl))
    (try simp only [Act.put, List.setIfInBounds_toArray, List.set_cons_zero, List.set_cons_succ])
    refine wpAnyH_take (i := 10) (oi := ({ dst := some 36, op := Op.move (Operand.tmp 35), type := 4, pos := "law.go:32", after := #[{ on := 9, ground := Ground.data }, { on := 8, ground := Ground.chain }], guard := none } : Oper)) (v := ?_) rfl (by kernel_rfl) (by kernel_rfl) (by kernel_rfl) (fun _ _ _ h => h) (Or.inl ⟨by rfl, ?_⟩) (by assumption) ?_
    rotate_left 1
    · (intro w hSw; (try dsimp only at hSw); go_simp; (try with_reducible rfl))
    (try simp only [Act.put, List.setIfInBounds_toArray, List.set_cons_zero, List.set_cons_succ])
    refine wpAnyH_take (i := 11) (oi := ({ dst := some 37, op := Op.move (Operand.tmp 10), type := 4, pos := "law.go:32", after := #[{ on := 10, ground := Ground.guard }], guard := some (10, true) } : Oper)) (v := ?_) rfl (by kernel_rfl) (by kernel_rfl) (by kernel_rfl) (fun _ _ _ h => h) (Or.inl ⟨by rfl, ?_⟩) (by assumption) ?_
    rotate_left 1
    · (intro w hSw; (try dsimp only at hSw); go_simp; (try with_reducible rfl))
    (try simp only [Act.put, List.setIfInBounds_toArray, List.set_cons_zero, List.set_cons_succ])
    refine wpAnyH_take (i := 12) (oi := ({ dst := some 38, op := Op.unOp UnOp.not 4 (Operand.tmp 37), type := 4, pos := "law.go:32", after := #[{ on := 11, ground := Ground.data }, { on := 10, ground := Ground.guard }], guard := some (10, true) } : Oper)) (v := ?_) rfl (by kernel_rfl) (by kernel_rfl) (by kernel_rfl) (fun _ _ _ h => h) (Or.inl ⟨by rfl, ?_⟩) (by assumption) ?_
    rotate_left 1
    · (intro w hSw; (try dsimp only at hSw); go_simp; (try with_reducible rfl))
    (try simp only [Act.put, List.setIfInBounds_toArray, List.set_cons_zero, List.set_cons_succ])
    refine wpAnyH_take (i := 13) (oi := ({ dst := some 39, op := Op.move (Operand.tmp 38), type := 4, pos := "law.go:32", after := #[{ on := 12, ground := Ground.data }, { on := 10, ground := Ground.chain }, { on := 10, ground := Ground.guard }], guard := some (10, true) } : Oper)) (v := ?_) rfl (by kernel_rfl) (by kernel_rfl) (by kernel_rfl) (fun _ _ _ h => h) (Or.inl ⟨by rfl, ?_⟩) (by assumption) ?_
    rotate_left 1
    · (intro w hSw; (try dsimp only at hSw); go_simp; (try with_reducible rfl))
    (try simp only [Act.put, List.setIfInBounds_toArray, List.set_cons_zero, List.set_cons_succ])
    refine wpAnyH_take (i := 14) (oi := ({ dst := some 40, op := Op.load 23 (Operand.tmp 3), type := 23, pos := "law.go:32", after := #[{ on := 13, ground := Ground.guard }], guard := some (13, false) } : Oper)) (v := ?_) rfl (by kernel_rfl) (by kernel_rfl) (by kernel_rfl) (fun _ _ _ h => h) (Or.inl ⟨by rfl, ?_⟩) (by assumption) ?_
    rotate_left 1
    · (intro w hSw; (try dsimp only at hSw); go_simp; (try with_reducible rfl))
    (try simp only [Act.put, List.setIfInBounds_toArray, List.set_cons_zero, List.set_cons_succ])
    refine wpAnyH_take (i := 15) (oi := ({ dst := some 41, op := Op.load 32 (Operand.tmp 4), type := 32, pos := "law.go:32", after := #[{ on := 13, ground := Ground.guard }], guard := some (13, false) } : Oper)) (v := ?_) rfl (by kernel_rfl) (by kernel_rfl) (by kernel_rfl) (fun _ _ _ h => h) (Or.inl ⟨by rfl, ?_⟩) (by assumption) ?_
    rotate_left 1
    · (intro w hSw; (try dsimp only at hSw); go_simp; (try with_reducible rfl))
    (try simp only [Act.put, List.setIfInBounds_toArray, List.set_cons_zero, List.set_cons_succ])
    refine wpAnyH_ready (rs := [16]) (by kernel_rfl) (by simp) ?_
    refine AllReadyH.cons (o := ({ dst := some 42, op := Op.call { callee := Callee.value (Operand.func 18), args := #[Operand.tmp 40, Operand.tmp 41], argTypes := #[23, 32] }, type := 4, pos := "law.go:32", after := #[{ on := 14, ground := Ground.data }, { on := 15, ground := Ground.data }, { on := 13, ground := Ground.chain }, { on := 13, ground := Ground.guard }], guard := some (13, false) } : Oper)) rfl (fun K hK => ?_) ?_
    rotate_left 1
    · exact AllReadyH.nil
    go_simp
    go_at_call 18
    ((with_reducible refine (D4.out _).mono ?_); rintro e v3 ⟨rfl, hb⟩; have P03 := Lib.hid (Blk.below P02.out hb P02.out.lt); have P13 := Lib.hid (Blk.below P12.out hb P12.out.lt); have P23 := Lib.hid (Blk.below P22.out hb P22.out.lt); have P33 := Lib.hid (Blk.below P32.out hb P32.out.lt); have B3 := Lib.hid (Below.trans0 B2.out hb); have S3 := Lib.hid (show (fun w' => (w'.cell? ⟨w.heap.size, 0, none⟩ = some (.bool a0Level) ∧ w'.cell? ⟨w.heap.size, 1, none⟩ = some (.bool a0Armed) ∧ w'.cell? ⟨w.heap.size, 2, none⟩ = some (.bool false)) ∧ (w'.cell? ⟨w.heap.size + 1, 0, none⟩ = some (.bool a1Reset) ∧ w'.cell? ⟨w.heap.size + 1, 1, none⟩ = some (.bool a1Nmi) ∧ w'.cell? ⟨w.heap.size + 1, 2, none⟩ = some (.bool a1Firq) ∧ w'.cell? ⟨w.heap.size + 1, 3, none⟩ = some (.bool a1Irq) ∧ w'.cell? ⟨w.heap.size + 1, 4, none⟩ = some (.bool a1Halt) ∧ w'.cell? ⟨w.heap.size + 1, 5, none⟩ = some (.bool a1Req)) ∧ (w'.cell? ⟨w.heap.size + 2, 0, none⟩ = some (.bool false) ∧ w'.cell? ⟨w.heap.size + 2, 1, none⟩ = some (.bool false) ∧ w'.cell? ⟨w.heap.size + 2, 2, none⟩ = some (.bool a1Firq) ∧ w'.cell? ⟨w.heap.size + 2, 3, none⟩ = some (.bool a1Irq) ∧ w'.cell? ⟨w.heap.size + 2, 4, none⟩ = some (.bool false) ∧ w'.cell? ⟨w.heap.size + 2, 5, none⟩ = some (.bool false)) ∧ (w'.cell? ⟨w.heap.size + 3, 0, none⟩ = some (.bool false) ∧ w'.cell? ⟨w.heap.size + 3, 1, none⟩ = some (.bool false) ∧ w'.cell? ⟨w.heap.size + 3, 2, none⟩ = some (.bool false))) v3 from ⟨Blk.c3 P03.out, Blk.c6 P13.out, Blk.c6 P23.out, Blk.c3 P33.out⟩); clear hb)
    first | (refine hK.out _ _ ?_ (fun hH3 => ?_)) | (go_wp2_with fail; refine hK.out _ _ ?_ (fun hH3 => ?_))
    · (try dsimp only); with_reducible exact S3.out
    clear hK K hH2
    (try simp only [Act.put, List.setIfInBounds_toArray, List.set_cons_zero, List.set_cons_succ])
    refine wpAnyH_take (i := 17) (oi := ({ dst := some 43, op := Op.pick (Operand.tmp 39) (Operand.const (Value.bool true)) (Operand.tmp 42), type := 4, pos := "law.go:32", after := #[{ on := 13, ground := Ground.data }, { on := 16, ground := Ground.data }, { on := 10, ground := Ground.guard }], guard := some (10, true) } : Oper)) (v := ?_) rfl (by kernel_rfl) (by kernel_rfl) (by kernel_rfl) (fun _ _ _ h => h) (Or.inl ⟨by rfl, ?_⟩) (by assumption) ?_
    rotate_left 1
    · (intro w hSw; (try dsimp only at hSw); go_simp; (try with_reducible rfl))
    (try simp only [Act.put, List.setIfInBounds_toArray, List.set_cons_zero, List.set_cons_succ])
    refine wpAnyH_take (i := 18) (oi := ({ dst := some 44, op := Op.pick (Operand.tmp 36) (Operand.tmp 43) (Operand.const (Value.bool false)), type := 4, pos := "law.go:32", after := #[{ on := 10, ground := Ground.data }, { on := 17, ground := Ground.data }], guard := none } : Oper)) (v := ?_) rfl (by kernel_rfl) (by kernel_rfl) (by kernel_rfl) (fun _ _ _ h => h) (Or.inl ⟨by rfl, ?_⟩) (by assumption) ?_
    rotate_left 1
    · (intro w hSw; (try dsimp only at hSw); go_simp; (try with_reducible rfl))
    (try simp only [Act.put, List.setIfInBounds_toArray, List.set_cons_zero, List.set_cons_succ])
    refine wpAnyH_take (i := 19) (oi := ({ dst := some 45, op := Op.move (Operand.tmp 44), type := 4, pos := "law.go:32", after := #[{ on := 18, ground := Ground.data }, { on := 16, ground := Ground.chain }], guard := none } : Oper)) (v := ?_) rfl (by kernel_rfl) (by kernel_rfl) (by kernel_rfl) (fun _ _ _ h => h) (Or.inl ⟨by rfl, ?_⟩) (by assumption) ?_
    rotate_left 1
    · (intro w hSw; (try dsimp only at hSw); go_simp; (try with_reducible rfl))
    (try simp only [Act.put, List.setIfInBounds_toArray, List.set_cons_zero, List.set_cons_succ])
    refine wpAnyH_take (i := 20) (oi := ({ dst := some 46, op := Op.load 23 (Operand.tmp 3), type := 23, pos := "law.go:32", after := #[{ on := 19, ground := Ground.guard }], guard := some (19, true) } : Oper)) (v := ?_) rfl (by kernel_rfl) (by kernel_rfl) (by kernel_rfl) (fun _ _ _ h => h) (Or.inl ⟨by rfl, ?_⟩) (by assumption) ?_
    rotate_left 1
    · (intro w hSw; (try dsimp only at hSw); go_simp; (try with_reducible rfl))
    (try simp only [Act.put, List.setIfInBounds_toArray, List.set_cons_zero, List.set_cons_succ])
    refine wpAnyH_take (i := 21) (oi := ({ dst := some 47, op := Op.load 32 (Operand.tmp 4), type := 32, pos := "law.go:32", after := #[{ on := 19, ground := Ground.guard }], guard := some (19, true) } : Oper)) (v := ?_) rfl (by kernel_rfl) (by kernel_rfl) (by kernel_rfl) (fun _ _ _ h => h) (Or.inl ⟨by rfl, ?_⟩) (by assumption) ?_
    rotate_left 1
    · (intro w hSw; (try dsimp only at hSw); go_simp; (try with_reducible rfl))
    (try simp only [Act.put, List.setIfInBounds_toArray, List.set_cons_zero, List.set_cons_succ])
    refine wpAnyH_take (i := 22) (oi := ({ dst := some 48, op := Op.move (Operand.tmp 2), type := 5, pos := "law.go:32", after := #[{ on := 19, ground := Ground.guard }], guard := some (19, true) } : Oper)) (v := ?_) rfl (by kernel_rfl) (by kernel_rfl) (by kernel_rfl) (fun _ _ _ h => h) (Or.inl ⟨by rfl, ?_⟩) (by assumption) ?_
    rotate_left 1
    · (intro w hSw; (try dsimp only at hSw); go_simp; (try with_reducible rfl))
    (try simp only [Act.put, List.setIfInBounds_toArray, List.set_cons_zero, List.set_cons_succ])
    refine wpAnyH_take (i := 23) (oi := ({ dst := some 49, op := Op.binOp BinOp.or 5 (Operand.tmp 48) (Operand.const (Value.int IntKind.u8 80)) 5, type := 5, pos := "law.go:32", after := #[{ on := 22, ground := Ground.data }, { on := 19, ground := Ground.guard }], guard := some (19, true) } : Oper)) (v := ?_) rfl (by kernel_rfl) (by kernel_rfl) (by kernel_rfl) (fun _ _ _ h => h) (Or.inl ⟨by rfl, ?_⟩) (by assumption) ?_
    rotate_left 1
    · (intro w hSw; (try dsimp only at hSw); go_simp; (try with_reducible rfl))
    (try simp only [Act.put, List.setIfInBounds_toArray, List.set_cons_zero, List.set_cons_succ])
    refine wpAnyH_take (i := 26) (oi := ({ dst := some 52, op := Op.fieldAddr 23 (Operand.tmp 3) 2, type := 0, pos := "law.go:32", after := #[{ on := 19, ground := Ground.guard }], guard := some (19, true) } : Oper)) (v := ?_) rfl (by kernel_rfl) (by kernel_rfl) (by kernel_rfl) (fun _ _ _ h => h) (Or.inl ⟨by rfl, ?_⟩) (by assumption) ?_
    rotate_left 1
    · (intro w hSw; (try dsimp only at hSw); go_simp; (try with_reducible rfl))
    (try simp only [Act.put, List.setIfInBounds_toArray, List.set_cons_zero, List.set_cons_succ])
    refine wpAnyH_take (i := 27) (oi := ({ dst := some 53, op := Op.load 4 (Operand.tmp 52), type := 4, pos := "law.go:32", after := #[{ on := 26, ground := Ground.data }, { on := 19, ground := Ground.guard }], guard := some (19, true) } : Oper)) (v := ?_) rfl (by kernel_rfl) (by kernel_rfl) (by kernel_rfl) (fun _ _ _ h => h) (Or.inl ⟨by rfl, ?_⟩) (by assumption) ?_
    rotate_left 1
    · (intro w hSw; (try dsimp only at hSw); go_simp; (try with_reducible rfl))
    (try simp only [Act.put, List.setIfInBounds_toArray, List.set_cons_zero, List.set_cons_succ])
    refine wpAnyH_take (i := 28) (oi := ({ dst := some 54, op := Op.unOp UnOp.not 4 (Operand.tmp 53), type := 4, pos := "law.go:32", after := #[{ on := 27, ground := Ground.data }, { on := 19, ground := Ground.guard }], guard := some (19, true) } : Oper)) (v := ?_) rfl (by kernel_rfl) (by kernel_rfl) (by kernel_rfl) (fun _ _ _ h => h) (Or.inl ⟨by rfl, ?_⟩) (by assumption) ?_
    rotate_left 1
    · (intro w hSw; (try dsimp only at hSw); go_simp; (try with_reducible rfl))
    (try simp only [Act.put, List.setIfInBounds_toArray, List.set_cons_zero, List.set_cons_succ])
    refine wpAnyH_ready (rs := [24]) (by kernel_rfl) (by simp) ?_
    refine AllReadyH.cons (o := ({ dst := some 50, op := Op.call { callee := Callee.value (Operand.func 17), args := #[Operand.tmp 46, Operand.tmp 47, Operand.tmp 49], argTypes := #[23, 32, 5] }, type := 3, pos := "law.go:32", after := #[{ on := 20, ground := Ground.data }, { on := 21, ground := Ground.data }, { on := 23, ground := Ground.data }, { on := 19, ground := Ground.chain }, { on := 19, ground := Ground.guard }], guard := some (19, true) } : Oper)) rfl (fun K hK => ?_) ?_
    rotate_left 1
    · exact AllReadyH.nil
    go_simp
    go_at_call 17
    ((with_reducible refine (D5.out _).mono ?_); rintro e v4 ⟨rfl, hb⟩; have P04 := Lib.hid (Blk.below P03.out hb P03.out.lt); have P14 := Lib.hid (Blk.below P13.out hb P13.out.lt); have P24 := Lib.hid (Blk.below P23.out hb P23.out.lt); have P34 := Lib.hid (Blk.below P33.out hb P33.out.lt); have B4 := Lib.hid (Below.trans0 B3.out hb); have S4 := Lib.hid (show (fun w' => (w'.cell? ⟨w.heap.size, 0, none⟩ = some (.bool a0Level) ∧ w'.cell? ⟨w.heap.size, 1, none⟩ = some (.bool a0Armed) ∧ w'.cell? ⟨w.heap.size, 2, none⟩ = some (.bool false)) ∧ (w'.cell? ⟨w.heap.size + 1, 0, none⟩ = some (.bool a1Reset) ∧ w'.cell? ⟨w.heap.size + 1, 1, none⟩ = some (.bool a1Nmi) ∧ w'.cell? ⟨w.heap.size + 1, 2, none⟩ = some (.bool a1Firq) ∧ w'.cell? ⟨w.heap.size + 1, 3, none⟩ = some (.bool a1Irq) ∧ w'.cell? ⟨w.heap.size + 1, 4, none⟩ = some (.bool a1Halt) ∧ w'.cell? ⟨w.heap.size + 1, 5, none⟩ = some (.bool a1Req)) ∧ (w'.cell? ⟨w.heap.size + 2, 0, none⟩ = some (.bool false) ∧ w'.cell? ⟨w.heap.size + 2, 1, none⟩ = some (.bool false) ∧ w'.cell? ⟨w.heap.size + 2, 2, none⟩ = some (.bool a1Firq) ∧ w'.cell? ⟨w.heap.size + 2, 3, none⟩ = some (.bool a1Irq) ∧ w'.cell? ⟨w.heap.size + 2, 4, none⟩ = some (.bool false) ∧ w'.cell? ⟨w.heap.size + 2, 5, none⟩ = some (.bool false)) ∧ (w'.cell? ⟨w.heap.size + 3, 0, none⟩ = some (.bool false) ∧ w'.cell? ⟨w.heap.size + 3, 1, none⟩ = some (.bool false) ∧ w'.cell? ⟨w.heap.size + 3, 2, none⟩ = some (.bool false))) v4 from ⟨Blk.c3 P04.out, Blk.c6 P14.out, Blk.c6 P24.out, Blk.c3 P34.out⟩); clear hb)
    first | (refine hK.out _ _ ?_ (fun hH4 => ?_)) | (go_wp2_with fail; refine hK.out _ _ ?_ (fun hH4 => ?_))
    · (try dsimp only); with_reducible exact S4.out
    clear hK K hH3
    (try simp only [Act.put, List.setIfInBounds_toArray, List.set_cons_zero, List.set_cons_succ])
    refine wpAnyH_take (i := 25) (oi := ({ dst := some 51, op := Op.binOp BinOp.eql 3 (Operand.tmp 50) (Operand.const (Value.int IntKind.i64 0)) 3, type := 4, pos := "law.go:32", after := #[{ on := 24, ground := Ground.data }, { on := 19, ground := Ground.guard }], guard := some (19, true) } : Oper)) (v := ?_) rfl (by kernel_rfl) (by kernel_rfl) (by kernel_rfl) (fun _ _ _ h => h) (Or.inl ⟨by rfl, ?_⟩) (by assumption) ?_
    rotate_left 1
    · (intro w hSw; (try dsimp only at hSw); go_simp; (try with_reducible rfl))
    (try simp only [Act.put, List.setIfInBounds_toArray, List.set_cons_zero, List.set_cons_succ])
    refine wpAnyH_take (i := 29) (oi := ({ dst := some 55, op := Op.binOp BinOp.eql 4 (Operand.tmp 51) (Operand.tmp 54) 4, type := 4, pos := "law.go:32", after := #[{ on := 25, ground := Ground.data }, { on := 28, ground := Ground.data }, { on := 19, ground := Ground.guard }], guard := some (19, true) } : Oper)) (v := ?_) rfl (by kernel_rfl) (by kernel_rfl) (by kernel_rfl) (fun _ _ _ h => h) (Or.inl ⟨by rfl, ?_⟩) (by assumption) ?_
    rotate_left 1
    · (intro w hSw; (try dsimp only at hSw); go_simp; (try with_reducible rfl))
    (try simp only [Act.put, List.setIfInBounds_toArray, List.set_cons_zero, List.set_cons_succ])
    refine wpAnyH_take (i := 30) (oi := ({ dst := some 56, op := Op.pick (Operand.tmp 45) (Operand.tmp 55) (Operand.const (Value.bool false)), type := 4, pos := "law.go:32", after := #[{ on := 19, ground := Ground.data }, { on := 29, ground := Ground.data }], guard := none } : Oper)) (v := ?_) rfl (by kernel_rfl) (by kernel_rfl) (by kernel_rfl) (fun _ _ _ h => h) (Or.inl ⟨by rfl, ?_⟩) (by assumption) ?_
    rotate_left 1
    · (intro w hSw; (try dsimp only at hSw); go_simp; (try with_reducible rfl))
    (try simp only [Act.put, List.setIfInBounds_toArray, List.set_cons_zero, List.set_cons_succ])
    refine wpAnyH_take (i := 31) (oi := ({ dst := some 57, op := Op.move (Operand.tmp 56), type := 4, pos := "law.go:32", after := #[{ on := 30, ground := Ground.data }, { on := 24, ground := Ground.chain }], guard := none } : Oper)) (v := ?_) rfl (by kernel_rfl) (by kernel_rfl) (by kernel_rfl) (fun _ _ _ h => h) (Or.inl ⟨by rfl, ?_⟩) (by assumption) ?_
    rotate_left 1
    · (intro w hSw; (try dsimp only at hSw); go_simp; (try with_reducible rfl))
    (try simp only [Act.put, List.setIfInBounds_toArray, List.set_cons_zero, List.set_cons_succ])
    refine wpAnyH_ready (rs := [32]) (by kernel_rfl) (by simp) ?_
    refine AllReadyH.cons (o := ({ dst := some 58, op := Op.call { callee := Callee.value (Operand.func 19), args := #[], argTypes := #[] }, type := 4, pos := "law.go:32", after := #[{ on := 31, ground := Ground.chain }, { on := 31, ground := Ground.guard }], guard := some (31, true) } : Oper)) rfl (fun K hK => ?_) ?_
    rotate_left 1
    · exact AllReadyH.nil
    go_simp
    go_at_call 19
    ((with_reducible refine (alive29 _).mono ?_); rintro e v5 ⟨rfl, hb⟩; have P05 := Lib.hid (Blk.below P04.out hb P04.out.lt); have P15 := Lib.hid (Blk.below P14.out hb P14.out.lt); have P25 := Lib.hid (Blk.below P24.out hb P24.out.lt); have P35 := Lib.hid (Blk.below P34.out hb P34.out.lt); have B5 := Lib.hid (Below.trans0 B4.out hb); have S5 := Lib.hid (show (fun w' => (w'.cell? ⟨w.heap.size, 0, none⟩ = some (.bool a0Level) ∧ w'.cell? ⟨w.heap.size, 1, none⟩ = some (.bool a0Armed) ∧ w'.cell? ⟨w.heap.size, 2, none⟩ = some (.bool false)) ∧ (w'.cell? ⟨w.heap.size + 1, 0, none⟩ = some (.bool a1Reset) ∧ w'.cell? ⟨w.heap.size + 1, 1, none⟩ = some (.bool a1Nmi) ∧ w'.cell? ⟨w.heap.size + 1, 2, none⟩ = some (.bool a1Firq) ∧ w'.cell? ⟨w.heap.size + 1, 3, none⟩ = some (.bool a1Irq) ∧ w'.cell? ⟨w.heap.size + 1, 4, none⟩ = some (.bool a1Halt) ∧ w'.cell? ⟨w.heap.size + 1, 5, none⟩ = some (.bool a1Req)) ∧ (w'.cell? ⟨w.heap.size + 2, 0, none⟩ = some (.bool false) ∧ w'.cell? ⟨w.heap.size + 2, 1, none⟩ = some (.bool false) ∧ w'.cell? ⟨w.heap.size + 2, 2, none⟩ = some (.bool a1Firq) ∧ w'.cell? ⟨w.heap.size + 2, 3, none⟩ = some (.bool a1Irq) ∧ w'.cell? ⟨w.heap.size + 2, 4, none⟩ = some (.bool false) ∧ w'.cell? ⟨w.heap.size + 2, 5, none⟩ = some (.bool false)) ∧ (w'.cell? ⟨w.heap.size + 3, 0, none⟩ = some (.bool false) ∧ w'.cell? ⟨w.heap.size + 3, 1, none⟩ = some (.bool false) ∧ w'.cell? ⟨w.heap.size + 3, 2, none⟩ = some (.bool false))) v5 from ⟨Blk.c3 P05.out, Blk.c6 P15.out, Blk.c6 P25.out, Blk.c3 P35.out⟩); clear hb)
    first | (refine hK.out _ _ ?_ (fun hH5 => ?_)) | (go_wp2_with fail; refine hK.out _ _ ?_ (fun hH5 => ?_))
    · (try dsimp only); with_reducible exact S5.out
    clear hK K hH4
    (try simp only [Act.put, List.setIfInBounds_toArray, List.set_cons_zero, List.set_cons_succ])
    refine wpAnyH_take (i := 33) (oi := ({ dst := some 59, op := Op.pick (Operand.tmp 57) (Operand.tmp 58) (Operand.const (Value.bool false)), type := 4, pos := "law.go:32", after := #[{ on := 31, ground := Ground.data }, { on := 32, ground := Ground.data }], guard := none } : Oper)) (v := ?_) rfl (by kernel_rfl) (by kernel_rfl) (by kernel_rfl) (fun _ _ _ h => h) (Or.inl ⟨by rfl, ?_⟩) (by assumption) ?_
    rotate_left 1
    · (intro w hSw; (try dsimp only at hSw); go_simp; (try with_reducible rfl))
    (try simp only [Act.put, List.setIfInBounds_toArray, List.set_cons_zero, List.set_cons_succ])
    refine wpAnyH_take (i := 34) (oi := ({ dst := some 6, op := Op.assign (Operand.tmp 59), type := 4, pos := "law.go:32", after := #[{ on := 33, ground := Ground.data }, { on := 32, ground := Ground.chain }, { on := 0, ground := Ground.phase }, { on := 1, ground := Ground.phase }, { on := 2, ground := Ground.phase }, { on := 3, ground := Ground.phase }, { on := 4, ground := Ground.phase }, { on := 5, ground := Ground.phase }, { on := 6, ground := Ground.phase }, { on := 7, ground := Ground.phase }, { on := 8, ground := Ground.phase }, { on := 9, ground := Ground.phase }, { on := 10, ground := Ground.phase }, { on := 11, ground := Ground.phase }, { on := 12, ground := Ground.phase }, { on := 13, ground := Ground.phase }, { on := 14, ground := Ground.phase }, { on := 15, ground := Ground.phase }, { on := 16, ground := Ground.phase }, { on := 17, ground := Ground.phase }, { on := 18, ground := Ground.phase }, { on := 19, ground := Ground.phase }, { on := 20, ground := Ground.phase }, { on := 21, ground := Ground.phase }, { on := 22, ground := Ground.phase }, { on := 23, ground := Ground.phase }, { on := 24, ground := Ground.phase }, { on := 25, ground := Ground.phase }, { on := 26, ground := Ground.phase }, { on := 27, ground := Ground.phase }, { on := 28, ground := Ground.phase }, { on := 29, ground := Ground.phase }, { on := 30, ground := Ground.phase }, { on := 31, ground := Ground.phase }, { on := 32, ground := Ground.phase }, { on := 33, ground := Ground.phase }], guard := none } : Oper)) (v := ?_) rfl (by kernel_rfl) (by kernel_rfl) (by kernel_rfl) (fun _ _ _ h => h) (Or.inl ⟨by rfl, ?_⟩) (by assumption) ?_
    rotate_left 1
    · (intro w hSw; (try dsimp only at hSw); go_simp; (try with_reducible rfl))
    (try simp only [Act.put, List.setIfInBounds_toArray, List.set_cons_zero, List.set_cons_succ])
    refine wpAnyH_done (by kernel_rfl) ?_ _
    refine NoPanic.normal ?_
    go_wp2
    go_ret
    exact ⟨rfl, B5.out⟩

set_option maxRecDepth 100000 in
theorem lifted (os : Os) (started : os.Started) (H : Type) (enc : TypeId × Value → H) :
    ReturnsInHanded {} Try.checked os 6 .any (Rows.prioOnlySpec.pre6 enc Try.prog Try.f6 Rows.prioOnlyRow.domain false) (Rows.prioOnlySpec.post enc Try.prog Try.f6 false true false false) := by
  refine returnsInHanded_of_change (C := Try.checked) own started (by kernel_rfl) Try.func6
    (ChangeSpec.witness6 (enc := enc) (C := Try.checked) false ⟨#[], #[.agg #[.bool false, .bool false, .bool false], .agg #[.bool false, .bool false, .bool false, .bool false, .bool false, .bool false], .int .u8 0], []⟩ 8 (by kernel_rfl) (by kernel_rfl) (by kernel_rfl) (by kernel_rfl)) ?_
  intro W base args ds gs before hval0 hW hcnd _
  have hval : ∀ (j : Nat) t v, Try.f6.params[j]? = some t → args[j]? = some v → Value.okWide Try.prog W .any base t v := hval0
  have hW' := hW
  obtain ⟨p, q, hA0, hV, rfl, hfz, hnd⟩ := hW
  have hA : DataW.TrodAll enc Try.prog W 0 (fun _ => true) true Try.f6.params.toList args.toList ds p := hA0
  rw [Try.params6] at hA hval
  obtain ⟨v0, vs0, d0, ds0, p0, q0, hargs, rfl, rfl, h0, r0⟩ := trodAll_cons hA
  obtain ⟨v1, vs1, d1, ds1, p1, q1, rfl, rfl, rfl, h1, r1⟩ := trodAll_cons r0
  obtain ⟨v2, vs2, d2, ds2, p2, q2, rfl, rfl, rfl, h2, r2⟩ := trodAll_cons r1
  obtain ⟨rfl, rfl, rfl⟩ := trodAll_nil r2
  obtain rfl : args = #[v0, v1, v2] := by cases args; simp_all
  obtain ⟨rfl, rfl⟩ := trodVars_none hV
  have k0 := h0
  have lt0 : ∀ x ∈ p0, x.block < W.heap.size := by obtain ⟨m, hm⟩ := k0; exact DataW.trod_lt m _ _ _ hm
  obtain ⟨a0Level, a0Armed, a0Set, rfl, w0⟩ := open23 (hval 0 23 v0 rfl rfl) h0
  have k1 := h1
  have lt1 : ∀ x ∈ p1, x.block < W.heap.size := by obtain ⟨m, hm⟩ := k1; exact DataW.trod_lt m _ _ _ hm
  obtain ⟨a1Reset, a1Nmi, a1Firq, a1Irq, a1Halt, a1Req, rfl, w1⟩ := open32 (hval 1 32 v1 rfl rfl) h1
  obtain ⟨a2, rfl, rfl, rfl, w2⟩ := open_int Try.underlying5 (hval 2 5 v2 rfl rfl) h2
  clear hA0 hval0
  refine (walk a0Level a0Armed a0Set a1Reset a1Nmi a1Firq a1Irq a1Halt a1Req a2 W w0 w1 w2).mono fun e W' ⟨he, bel⟩ => ?_
  subst he
  exact ⟨_, rfl, _, _, _, [], _, [], hW', trodAll_mk1 (shut_bool Try.underlying4 _), (trodAll_cons_mk (Below.trod laidOut (by kernel_rfl) (of_decide_eq_true (by kernel_rfl)) k0 bel lt0) (trodAll_cons_mk (Below.trod laidOut (by kernel_rfl) (of_decide_eq_true (by kernel_rfl)) k1 bel lt1) (trodAll_cons_mk (shut_int Try.underlying5 w2) trodAll_mk0))), rfl, bel.frame _, fun h => by cases h⟩

theorem over : Rows.prioOnlyRow.holds Try.pinned (OpenSpec.ofChange Rows.prioOnlySpec) :=
  OpenClaim.holds_of_wide 6 Try.f6 rfl rfl rfl rfl rfl rfl rfl ⟨rfl, rfl, rfl, rfl, rfl⟩ rfl rfl rfl rfl rfl (by kernel_rfl) Try.func6 (by kernel_rfl)
    (of_decide_eq_true (by kernel_rfl)) (by unfold Func.isWrapper; first | (rw [if_pos (by decide +kernel)]; kernel_rfl) | (rw [if_neg (by decide +kernel)]; exact ⟨rfl, rfl⟩))
    (fun os started H enc _ => lifted os started H enc)

theorem proved : Rows.PrioOnlySaid := over
#print axioms proved
end Go.Proofs.Ytoogaenknjdpcaa.prioOnly
