/- The law WatchPoints answers true for every input, and each argument reads afterwards as it read before. Conditions: none. -/
import Derived.Test.YteaajmoclgfhnaaRows
import Derived.WalkKit
import Derived.ProofKit
import Derived.OpenShut
import Derived.ShutString
import Derived.ChangeOld
import Derived.Below
import Derived.Test.YteaajmoclgfhnaaWma
import Derived.Deep.RegionHeld3
import Derived.Deep.CutBlock
namespace Go.Proofs.Yteaajmoclgfhnaa.watchPoints
open Go.ChangeShapes Go.WideShapes Go.ChangeAt Go.RowKit
open Go.ChangeMaps (open_string shut_string)
set_option linter.unusedVariables false

theorem own : ownKnob Try.prog.godebug = none := by kernel_rfl
theorem laidOut : laidOutB Try.prog = true := by kernel_rfl

theorem arr25 {cs : Array Value} (h : cs.size = 9) : ∃ c0 c1 c2 c3 c4 c5 c6 c7 c8 : Value, cs = #[c0, c1, c2, c3, c4, c5, c6, c7, c8] := by
  obtain ⟨l⟩ := cs
  match l, h with
  | [c0, c1, c2, c3, c4, c5, c6, c7, c8], _ => exact ⟨c0, c1, c2, c3, c4, c5, c6, c7, c8, rfl⟩
theorem cellsOf25_4 : Try.prog.cellsOf 4 = 1 := by kernel_rfl
theorem cellsOf25_5 : Try.prog.cellsOf 5 = 1 := by kernel_rfl
theorem cellsOf25_23 : Try.prog.cellsOf 23 = 1 := by kernel_rfl
theorem cellsOf25_25 : Try.prog.cellsOf 25 = 9 := by kernel_rfl
set_option maxRecDepth 100000 in
theorem open25 {H : Type} {enc : TypeId × Value → H} {W : World} {b0 base : Nat} {sp : Nat → Bool} {held : Bool} {v : Value} {d : DataW H} {p : List MemPlace} (hv : Value.okWide Try.prog W .any b0 25 v) (h : DataW.Trod enc Try.prog W base sp held 25 v d p) :
    ∃ (xAddr : Int) (xData : Int) (xRead : Bool) (xBA : Bool) (xBS : Bool) (xLIC : Bool) (xAVMA : Bool) (xBUSY : Bool) (xMine : Bool), v = .agg #[.int .u16 xAddr, .int .u8 xData, .bool xRead, .bool xBA, .bool xBS, .bool xLIC, .bool xAVMA, .bool xBUSY, .bool xMine] ∧ (Lit.int .u16 xAddr).wf = true ∧ (Lit.int .u8 xData).wf = true := by
  obtain ⟨cs, rfl, hsz⟩ := okWide_struct Try.underlying25 hv
  obtain ⟨c0, c1, c2, c3, c4, c5, c6, c7, c8, rfl⟩ := arr25 (hsz.trans cellsOf25_25)
  obtain ⟨fuel, hf⟩ := h
  obtain ⟨xs0, n0, _, _, _, hl0, hg0⟩ := DataW.trod_struct Try.underlying25 hf
  have g0_0 : DataW.trod enc Try.prog W base sp held n0 23 (([c0, c1, c2, c3, c4, c5, c6, c7, c8].drop 0).take (Try.prog.cellsOf 23)) = xs0[0]? := hg0 0 _ rfl
  rw [List.getElem?_eq_getElem (show 0 < xs0.length by rw [hl0]; decide)] at g0_0
  rw [cellsOf25_23] at g0_0
  obtain ⟨y0, e0_0, _, w0⟩ := DataW.trod_int Try.underlying23 g0_0
  have E0 : c0 = .int .u16 y0 := by simpa [Value.cells] using e0_0
  have g0_1 : DataW.trod enc Try.prog W base sp held n0 5 (([c0, c1, c2, c3, c4, c5, c6, c7, c8].drop 1).take (Try.prog.cellsOf 5)) = xs0[1]? := hg0 1 _ rfl
  rw [List.getElem?_eq_getElem (show 1 < xs0.length by rw [hl0]; decide)] at g0_1
  rw [cellsOf25_5] at g0_1
  obtain ⟨y1, e0_1, _, w1⟩ := DataW.trod_int Try.underlying5 g0_1
  have E1 : c1 = .int .u8 y1 := by simpa [Value.cells] using e0_1
  have g0_2 : DataW.trod enc Try.prog W base sp held n0 4 (([c0, c1, c2, c3, c4, c5, c6, c7, c8].drop 2).take (Try.prog.cellsOf 4)) = xs0[2]? := hg0 2 _ rfl
  rw [List.getElem?_eq_getElem (show 2 < xs0.length by rw [hl0]; decide)] at g0_2
  rw [cellsOf25_4] at g0_2
  obtain ⟨y2, e0_2, _⟩ := DataW.trod_bool Try.underlying4 g0_2
  have E2 : c2 = .bool y2 := by simpa [Value.cells] using e0_2
  have g0_3 : DataW.trod enc Try.prog W base sp held n0 4 (([c0, c1, c2, c3, c4, c5, c6, c7, c8].drop 3).take (Try.prog.cellsOf 4)) = xs0[3]? := hg0 3 _ rfl
  rw [List.getElem?_eq_getElem (show 3 < xs0.length by rw [hl0]; decide)] at g0_3
  rw [cellsOf25_4] at g0_3
  obtain ⟨y3, e0_3, _⟩ := DataW.trod_bool Try.underlying4 g0_3
  have E3 : c3 = .bool y3 := by simpa [Value.cells] using e0_3
  have g0_4 : DataW.trod enc Try.prog W base sp held n0 4 (([c0, c1, c2, c3, c4, c5, c6, c7, c8].drop 4).take (Try.prog.cellsOf 4)) = xs0[4]? := hg0 4 _ rfl
  rw [List.getElem?_eq_getElem (show 4 < xs0.length by rw [hl0]; decide)] at g0_4
  rw [cellsOf25_4] at g0_4
  obtain ⟨y4, e0_4, _⟩ := DataW.trod_bool Try.underlying4 g0_4
  have E4 : c4 = .bool y4 := by simpa [Value.cells] using e0_4
  have g0_5 : DataW.trod enc Try.prog W base sp held n0 4 (([c0, c1, c2, c3, c4, c5, c6, c7, c8].drop 5).take (Try.prog.cellsOf 4)) = xs0[5]? := hg0 5 _ rfl
  rw [List.getElem?_eq_getElem (show 5 < xs0.length by rw [hl0]; decide)] at g0_5
  rw [cellsOf25_4] at g0_5
  obtain ⟨y5, e0_5, _⟩ := DataW.trod_bool Try.underlying4 g0_5
  have E5 : c5 = .bool y5 := by simpa [Value.cells] using e0_5
  have g0_6 : DataW.trod enc Try.prog W base sp held n0 4 (([c0, c1, c2, c3, c4, c5, c6, c7, c8].drop 6).take (Try.prog.cellsOf 4)) = xs0[6]? := hg0 6 _ rfl
  rw [List.getElem?_eq_getElem (show 6 < xs0.length by rw [hl0]; decide)] at g0_6
  rw [cellsOf25_4] at g0_6
  obtain ⟨y6, e0_6, _⟩ := DataW.trod_bool Try.underlying4 g0_6
  have E6 : c6 = .bool y6 := by simpa [Value.cells] using e0_6
  have g0_7 : DataW.trod enc Try.prog W base sp held n0 4 (([c0, c1, c2, c3, c4, c5, c6, c7, c8].drop 7).take (Try.prog.cellsOf 4)) = xs0[7]? := hg0 7 _ rfl
  rw [List.getElem?_eq_getElem (show 7 < xs0.length by rw [hl0]; decide)] at g0_7
  rw [cellsOf25_4] at g0_7
  obtain ⟨y7, e0_7, _⟩ := DataW.trod_bool Try.underlying4 g0_7
  have E7 : c7 = .bool y7 := by simpa [Value.cells] using e0_7
  have g0_8 : DataW.trod enc Try.prog W base sp held n0 4 (([c0, c1, c2, c3, c4, c5, c6, c7, c8].drop 8).take (Try.prog.cellsOf 4)) = xs0[8]? := hg0 8 _ rfl
  rw [List.getElem?_eq_getElem (show 8 < xs0.length by rw [hl0]; decide)] at g0_8
  rw [cellsOf25_4] at g0_8
  obtain ⟨y8, e0_8, _⟩ := DataW.trod_bool Try.underlying4 g0_8
  have E8 : c8 = .bool y8 := by simpa [Value.cells] using e0_8
  subst E0 E1 E2 E3 E4 E5 E6 E7 E8
  exact ⟨y0, y1, y2, y3, y4, y5, y6, y7, y8, rfl, w0, w1⟩

set_option maxRecDepth 100000 in
set_option maxHeartbeats 16000000 in
theorem walk (a0 : Option Addr) (len0 cap0 : Nat) (z0 : List OpV) (a1Addr : Int) (a1Data : Int) (a1Read : Bool) (a1BA : Bool) (a1BS : Bool) (a1LIC : Bool) (a1AVMA : Bool) (a1BUSY : Bool) (a1Mine : Bool) (w : World) (w0 : eO.In (fun _ => True) w a0 len0 cap0 z0) (w1 : (Lit.int .u16 a1Addr).wf = true ∧ (Lit.int .u8 a1Data).wf = true) :
    Calls Try.prog 5 #[.slice a0 len0 cap0, .agg #[.int .u16 a1Addr, .int .u8 a1Data, .bool a1Read, .bool a1BA, .bool a1BS, .bool a1LIC, .bool a1AVMA, .bool a1BUSY, .bool a1Mine]] w fun e w' => e = .returned (.bool true) ∧ Below w.heap.size w w' := by
  -- open 0 : List OpV | eO.In (fun _ => True) | open_ops49
  -- heartbeats 16000000
  obtain ⟨l, hL⟩ : ∃ l, eO.In (fun _ => True) w a0 len0 cap0 l := ⟨_, w0⟩
  clear w0 w1
  obtain ⟨hR, hln, hlm, -⟩ := hL
  have B1 := Lib.hid (Below.alloc0 (Below.refl w.heap.size w) (Obj.cells #[.int .u16 a1Addr, .int .u8 a1Data, .bool a1Read, .bool a1BA, .bool a1BS, .bool a1LIC, .bool a1AVMA, .bool a1BUSY, .bool a1Mine] 25))
  by_cases h40 : len0 ≤ 40
  · have X1 := Lib.hid (Blk.new w 25 #[.int .u16 a1Addr, .int .u8 a1Data, .bool a1Read, .bool a1BA, .bool a1BS, .bool a1LIC, .bool a1AVMA, .bool a1BUSY, .bool a1Mine] (0, 0))
    have HR1 := Lib.hid (Els.Rd.alloc hR (Obj.cells #[.int .u16 a1Addr, .int .u8 a1Data, .bool a1Read, .bool a1BA, .bool a1BS, .bool a1LIC, .bool a1AVMA, .bool a1BUSY, .bool a1Mine] 25))
    have HS1 : Hid ((w.alloc (Obj.cells #[.int .u16 a1Addr, .int .u8 a1Data, .bool a1Read, .bool a1BA, .bool a1BS, .bool a1LIC, .bool a1AVMA, .bool a1BUSY, .bool a1Mine] 25)).heap.size = w.heap.size + 1) := Lib.hid (by simp)
    have Z2 := Lib.hid (Blk.new (w.alloc (Obj.cells #[.int .u16 a1Addr, .int .u8 a1Data, .bool a1Read, .bool a1BA, .bool a1BS, .bool a1LIC, .bool a1AVMA, .bool a1BUSY, .bool a1Mine] 25)) 49 #[.slice none 0 0, .int .i64 0] (0, 0))
    have BB2 := Lib.hid (Below.alloc0 (Below.refl (w.alloc (Obj.cells #[.int .u16 a1Addr, .int .u8 a1Data, .bool a1Read, .bool a1BA, .bool a1BS, .bool a1LIC, .bool a1AVMA, .bool a1BUSY, .bool a1Mine] 25)).heap.size (w.alloc (Obj.cells #[.int .u16 a1Addr, .int .u8 a1Data, .bool a1Read, .bool a1BA, .bool a1BS, .bool a1LIC, .bool a1AVMA, .bool a1BUSY, .bool a1Mine] 25))) (Obj.cells #[.slice none 0 0, .int .i64 0] 49))
    have CM := Lib.hid (fun (g : Nat) (hg : (w.alloc (Obj.cells #[.int .u16 a1Addr, .int .u8 a1Data, .bool a1Read, .bool a1BA, .bool a1BS, .bool a1LIC, .bool a1AVMA, .bool a1BUSY, .bool a1Mine] 25)).heap.size = g) => made_any g len0 cap0 a0 l _ _ BB2.out (by omega) ⟨by rw [← hg]; exact Z2.out, Els.Own.nil_ _ _⟩ HR1.out hln h40)
    have LO := Lib.hid (opsS_len l)
    have HLN := Lib.hid hln
    have H40 := Lib.hid h40
    clear hR hlm
    go_enter Try.func5, Try.ntmps5
    go_wp2_with fail
    refine (CM.out _ HS1.out).mono ?_
    rintro e w3 ⟨u, v, rfl, hI⟩
    obtain ⟨s, hs⟩ : ∃ s, opsS l = s := ⟨_, rfl⟩
    rw [hs] at hI LO
    obtain ⟨P, la⟩ := s
    have LP : Hid (P.length ≤ 40) := Lib.hid (by have h1 := LO.out.1; have h2 := HLN.out; have h3 := H40.out; simp only at h1; omega)
    have HI := Lib.hid hI
    have HX3 := Lib.hid (Blk.below X1.out hI.below X1.out.lt)
    have B3 := Lib.hid (Below.trans0 B1.out hI.below)
    clear hs hI CM hln h40 LO BB2 Z2 HR1
    obtain ⟨A6, c6, rfl, -⟩ := HI.out.own.rd.open_
    have HR3 := Lib.hid HI.out.own.rd
    have HW3 := Lib.hid HI.out.at_
    clear HI
    obtain ⟨pl, hpl⟩ : ∃ n, P.length = n := ⟨_, rfl⟩
    rw [hpl] at HR3 ⊢
    have HPL := Lib.hid hpl
    have HP40 := Lib.hid (show pl ≤ 40 from by rw [← hpl]; exact LP.out)
    clear hpl LP
    have CH := Lib.hid (fun (kd : Int) => hits_any (.slice A6 pl c6) P kd a1Addr w3 HR3.out (by have h1 := HPL.out; have h2 := HP40.out; omega))
    cases a1Mine
    case false =>
      obtain ⟨x0, x1, x2, x3, x4, x5, x6, x7, x8⟩ := Blk.c9 HX3.out
      have H4 := Lib.hid (Below.refl w3.heap.size w3)
      go_upto_region 12 with (fail)
      have HX4 : Hid (Blk w3 w.heap.size 25 #[.int .u16 a1Addr, .int .u8 a1Data, .bool a1Read, .bool a1BA, .bool a1BS, .bool a1LIC, .bool a1AVMA, .bool a1BUSY, .bool false]) := Lib.hid HX3.out
      have B4 := Lib.hid (Below.trans0 B3.out H4.out)
      have HW4 := Lib.hid (WAt.below HW3.out H4.out)
      have HR4 := Lib.hid (Els.Rd.below HR3.out H4.out)
      have LH := Lib.hid (fun kd => Nat.le_trans (hitsL_len P kd a1Addr) (by have h1 := HPL.out; have h2 := HP40.out; omega : P.length ≤ 1000))
      have CY := Lib.hid (fun (z : World) (hz : Below w3.heap.size w3 z) => (show Calls Try.prog 19 #[.pointer (some ⟨w.heap.size + 1, 0, none⟩), .agg #[.int .u16 a1Addr, .int .u8 a1Data, .bool a1Read, .bool a1BA, .bool a1BS, .bool a1LIC, .bool a1AVMA, .bool a1BUSY, .bool false]] z (GivesI ([]) z) from cycle_any (w.heap.size + 1) v la P ⟨a1Addr, a1Data, a1Read, a1BA, a1BS, a1LIC, a1AVMA, a1BUSY, false⟩ z (WAt.below HW4.out hz).1 (WAt.below HW4.out hz).2.rd (by have h1 := HPL.out; have h2 := HP40.out; omega)))
      have CB := Lib.hid (fun (z : World) (hz : Below w3.heap.size w3 z) => boundary_any (w.heap.size + 1) v la P a1Addr z (WAt.below HW4.out hz).1 (WAt.below HW4.out hz).2.rd (by have h1 := HPL.out; have h2 := HP40.out; omega))
      have CT := Lib.hid (fun (z : World) (hz : Below w3.heap.size w3 z) => hits_any (.slice A6 pl c6) P 2 a1Addr z (Els.Rd.below HR4.out hz) (by have h1 := HPL.out; have h2 := HP40.out; omega))
      have CA := Lib.hid (fun z => alive49 z)
      have CQ := Lib.hid (fun (z : World) (va vb : Value) (L : List Int) (h : eI.Rd z va L) (h' : eI.Rd z vb L) (hn : L.length ≤ 1000) => (show Calls Try.prog 18 #[va, vb] z (fun e z' => e = .returned (.bool true) ∧ Below z.heap.size z z') from (by have := eqI_b va vb L L z h h' (by omega) (by omega); rwa [beq_self_eq_true] at this)))
      clear x0 x1 x2 x3 x4 x5 x6 x7 x8
      obtain ⟨x0, x1, x2, x3, x4, x5, x6, x7, x8⟩ := Blk.c9 HX4.out
      have S0 : Hid ((fun w' : World => (w'.cell? ⟨w.heap.size, 0, none⟩ = some (.int .u16 a1Addr) ∧ w'.cell? ⟨w.heap.size, 1, none⟩ = some (.int .u8 a1Data) ∧ w'.cell? ⟨w.heap.size, 2, none⟩ = some (.bool a1Read) ∧ w'.cell? ⟨w.heap.size, 3, none⟩ = some (.bool a1BA) ∧ w'.cell? ⟨w.heap.size, 4, none⟩ = some (.bool a1BS) ∧ w'.cell? ⟨w.heap.size, 5, none⟩ = some (.bool a1LIC) ∧ w'.cell? ⟨w.heap.size, 6, none⟩ = some (.bool a1AVMA) ∧ w'.cell? ⟨w.heap.size, 7, none⟩ = some (.bool a1BUSY) ∧ w'.cell? ⟨w.heap.size, 8, none⟩ = some (.bool false))) w3.drew) := Lib.hid (Blk.c9 (Blk.drew HX4.out))
      have HB0 := Lib.hid (Below.refl w3.heap.size w3)
      have HV8 : Hid (eI.Rd w3 (.slice none 0 0) ([])) := Lib.hid (Els.Rd.nil_ _)
      refine wp_region_noPanic ?_
      refine wp_region_held_drew (S := (fun w' : World => (w'.cell? ⟨w.heap.size, 0, none⟩ = some (.int .u16 a1Addr) ∧ w'.cell? ⟨w.heap.size, 1, none⟩ = some (.int .u8 a1Data) ∧ w'.cell? ⟨w.heap.size, 2, none⟩ = some (.bool a1Read) ∧ w'.cell? ⟨w.heap.size, 3, none⟩ = some (.bool a1BA) ∧ w'.cell? ⟨w.heap.size, 4, none⟩ = some (.bool a1BS) ∧ w'.cell? ⟨w.heap.size, 5, none⟩ = some (.bool a1LIC) ∧ w'.cell? ⟨w.heap.size, 6, none⟩ = some (.bool a1AVMA) ∧ w'.cell? ⟨w.heap.size, 7, none⟩ = some (.bool a1BUSY) ∧ w'.cell? ⟨w.heap.size, 8, none⟩ = some (.bool false)))) (by kernel_rfl) ?_ (fun hH0 => ?_)
      · (try dsimp only); with_reducible exact S0.out
      refine wpAnyH_take (i := 0) (oi := ({ dst := some 43, op := Op.move (Operand.tmp 5), type := 46, pos := "law.go:96", after := #[], guard := none } : Oper)) (v := ?_) rfl (by kernel_rfl) (by kernel_rfl) (by kernel_rfl) (fun _ _ _ h => h) (Or.inl ⟨by rfl, ?_⟩) (by assumption) ?_
      rotate_left 1
      · (intro w hSw; (try dsimp only at hSw); go_simp; (try with_reducible rfl))
      (try simp only [Act.put, List.setIfInBounds_toArray, List.set_cons_zero, List.set_cons_succ])
      refine wpAnyH_take (i := 1) (oi := ({ dst := some 44, op := Op.load 25 (Operand.tmp 3), type := 25, pos := "law.go:96", after := #[], guard := none } : Oper)) (v := ?_) rfl (by kernel_rfl) (by kernel_rfl) (by kernel_rfl) (fun _ _ _ h => h) (Or.inl ⟨by rfl, ?_⟩) (by assumption) ?_
      rotate_left 1
      · (intro w hSw; (try dsimp only at hSw); go_simp; (try with_reducible rfl))
      (try simp only [Act.put, List.setIfInBounds_toArray, List.set_cons_zero, List.set_cons_succ])
      refine wpAnyH_take (i := 3) (oi := ({ dst := some 46, op := Op.move (Operand.tmp 8), type := 52, pos := "law.go:96", after := #[], guard := none } : Oper)) (v := ?_) rfl (by kernel_rfl) (by kernel_rfl) (by kernel_rfl) (fun _ _ _ h => h) (Or.inl ⟨by rfl, ?_⟩) (by assumption) ?_
      rotate_left 1
      · (intro w hSw; (try dsimp only at hSw); go_simp; (try with_reducible rfl))
      (try simp only [Act.put, List.setIfInBounds_toArray, List.set_cons_zero, List.set_cons_succ])
      refine wpAnyH_ready (rs := [2]) (by kernel_rfl) (by simp) ?_
      refine AllReadyH.cons (o := ({ dst := some 45, op := Op.call { callee := Callee.value (Operand.func 19), args := #[Operand.tmp 43, Operand.tmp 44], argTypes := #[46, 25] }, type := 52, pos := "law.go:96", after := #[{ on := 0, ground := Ground.data }, { on := 1, ground := Ground.data }], guard := none } : Oper)) rfl (fun K hK => ?_) ?_
      rotate_left 1
      · exact AllReadyH.nil
      go_simp
      go_at_call 19
      ((with_reducible refine (CY.out _ (by first | exact HB0.out | exact Below.drew0 HB0.out)).mono ?_); rintro e v1 ⟨va, rfl, hoa, hb⟩; have HB1 := Lib.hid (Below.trans0 (by first | exact HB0.out | exact Below.drew0 HB0.out) hb); have HA1 := Lib.hid hoa.rd; have H81 := Lib.hid (Els.Rd.below HV8.out HB1.out); have S1 := Lib.hid (show (fun w' : World => (w'.cell? ⟨w.heap.size, 0, none⟩ = some (.int .u16 a1Addr) ∧ w'.cell? ⟨w.heap.size, 1, none⟩ = some (.int .u8 a1Data) ∧ w'.cell? ⟨w.heap.size, 2, none⟩ = some (.bool a1Read) ∧ w'.cell? ⟨w.heap.size, 3, none⟩ = some (.bool a1BA) ∧ w'.cell? ⟨w.heap.size, 4, none⟩ = some (.bool a1BS) ∧ w'.cell? ⟨w.heap.size, 5, none⟩ = some (.bool a1LIC) ∧ w'.cell? ⟨w.heap.size, 6, none⟩ = some (.bool a1AVMA) ∧ w'.cell? ⟨w.heap.size, 7, none⟩ = some (.bool a1BUSY) ∧ w'.cell? ⟨w.heap.size, 8, none⟩ = some (.bool false))) v1 from Blk.c9 (Blk.below HX4.out HB1.out HX4.out.lt)); clear hoa hb)
      first | (refine hK.out _ _ ?_ (fun hH1 => ?_)) | (go_wp2_with fail; refine hK.out _ _ ?_ (fun hH1 => ?_))
      · (try dsimp only); with_reducible exact S1.out
      clear hK K hH0
      (try simp only [Act.put, List.setIfInBounds_toArray, List.set_cons_zero, List.set_cons_succ])
      refine wpAnyH_ready (rs := [4]) (by kernel_rfl) (by simp) ?_
      refine AllReadyH.cons (o := ({ dst := some 47, op := Op.call { callee := Callee.value (Operand.func 18), args := #[Operand.tmp 45, Operand.tmp 46], argTypes := #[52, 52] }, type := 4, pos := "law.go:96", after := #[{ on := 2, ground := Ground.data }, { on := 3, ground := Ground.data }, { on := 2, ground := Ground.chain }], guard := none } : Oper)) rfl (fun K hK => ?_) ?_
      rotate_left 1
      · exact AllReadyH.nil
      go_simp
      go_at_call 18
      ((with_reducible refine (CQ.out _ _ _ ([]) (by first | exact HA1.out | exact Els.Rd.drew (HA1.out)) (by first | exact H81.out | exact Els.Rd.drew (H81.out)) (by first | exact LH.out _ | simp)).mono ?_); rintro e v2 ⟨rfl, hb⟩; have HB2 := Lib.hid (Below.trans0 (by first | exact HB1.out | exact Below.drew0 HB1.out) hb); have S2 := Lib.hid (show (fun w' : World => (w'.cell? ⟨w.heap.size, 0, none⟩ = some (.int .u16 a1Addr) ∧ w'.cell? ⟨w.heap.size, 1, none⟩ = some (.int .u8 a1Data) ∧ w'.cell? ⟨w.heap.size, 2, none⟩ = some (.bool a1Read) ∧ w'.cell? ⟨w.heap.size, 3, none⟩ = some (.bool a1BA) ∧ w'.cell? ⟨w.heap.size, 4, none⟩ = some (.bool a1BS) ∧ w'.cell? ⟨w.heap.size, 5, none⟩ = some (.bool a1LIC) ∧ w'.cell? ⟨w.heap.size, 6, none⟩ = some (.bool a1AVMA) ∧ w'.cell? ⟨w.heap.size, 7, none⟩ = some (.bool a1BUSY) ∧ w'.cell? ⟨w.heap.size, 8, none⟩ = some (.bool false))) v2 from Blk.c9 (Blk.below HX4.out HB2.out HX4.out.lt)); clear hb)
      first | (refine hK.out _ _ ?_ (fun hH2 => ?_)) | (go_wp2_with fail; refine hK.out _ _ ?_ (fun hH2 => ?_))
      · (try dsimp only); with_reducible exact S2.out
      clear hK K hH1
      (try simp only [Act.put, List.setIfInBounds_toArray, List.set_cons_zero, List.set_cons_succ])
      refine wpAnyH_take (i := 5) (oi := ({ dst := some 48, op := Op.move (Operand.tmp 47), type := 4, pos := "law.go:96", after := #[{ on := 4, ground := Ground.data }, { on := 4, ground := Ground.chain }], guard := none } : Oper)) (v := ?_) rfl (by kernel_rfl) (by kernel_rfl) (by kernel_rfl) (fun _ _ _ h => h) (Or.inl ⟨by rfl, ?_⟩) (by assumption) ?_
      rotate_left 1
      · (intro w hSw; (try dsimp only at hSw); go_simp; (try with_reducible rfl))
      (try simp only [Act.put, List.setIfInBounds_toArray, List.set_cons_zero, List.set_cons_succ])
      refine wpAnyH_take (i := 6) (oi := ({ dst := some 49, op := Op.move (Operand.tmp 5), type := 46, pos := "law.go:96", after := #[{ on := 5, ground := Ground.guard }], guard := some (5, true) } : Oper)) (v := ?_) rfl (by kernel_rfl) (by kernel_rfl) (by kernel_rfl) (fun _ _ _ h => h) (Or.inl ⟨by rfl, ?_⟩) (by assumption) ?_
      rotate_left 1
      · (intro w hSw; (try dsimp only at hSw); go_simp; (try with_reducible rfl))
      (try simp only [Act.put, List.setIfInBounds_toArray, List.set_cons_zero, List.set_cons_succ])
      refine wpAnyH_take (i := 7) (oi := ({ dst := some 50, op := Op.fieldAddr 25 (Operand.tmp 3) 0, type := 0, pos := "law.go:96", after := #[{ on := 5, ground := Ground.guard }], guard := some (5, true) } : Oper)) (v := ?_) rfl (by kernel_rfl) (by kernel_rfl) (by kernel_rfl) (fun _ _ _ h => h) (Or.inl ⟨by rfl, ?_⟩) (by assumption) ?_
      rotate_left 1
      · (intro w hSw; (try dsimp only at hSw); go_simp; (try with_reducible rfl))
      (try simp only [Act.put, List.setIfInBounds_toArray, List.set_cons_zero, List.set_cons_succ])
      refine wpAnyH_take (i := 8) (oi := ({ dst := some 51, op := Op.load 23 (Operand.tmp 50), type := 23, pos := "law.go:96", after := #[{ on := 7, ground := Ground.data }, { on := 5, ground := Ground.guard }], guard := some (5, true) } : Oper)) (v := ?_) rfl (by kernel_rfl) (by kernel_rfl) (by kernel_rfl) (fun _ _ _ h => h) (Or.inl ⟨by rfl, ?_⟩) (by assumption) ?_
      rotate_left 1
      · (intro w hSw; (try dsimp only at hSw); go_simp; (try with_reducible rfl))
      (try simp only [Act.put, List.setIfInBounds_toArray, List.set_cons_zero, List.set_cons_succ])
      refine wpAnyH_take (i := 10) (oi := ({ dst := some 53, op := Op.move (Operand.tmp 6), type := 47, pos := "law.go:96", after := #[{ on := 5, ground := Ground.guard }], guard := some (5, true) } : Oper)) (v := ?_) rfl (by kernel_rfl) (by kernel_rfl) (by kernel_rfl) (fun _ _ _ h => h) (Or.inl ⟨by rfl, ?_⟩) (by assumption) ?_
      rotate_left 1
      · (intro w hSw; (try dsimp only at hSw); go_simp; (try with_reducible rfl))
      (try simp only [Act.put, List.setIfInBounds_toArray, List.set_cons_zero, List.set_cons_succ])
      refine wpAnyH_take (i := 11) (oi := ({ dst := some 54, op := Op.fieldAddr 25 (Operand.tmp 3) 0, type := 0, pos := "law.go:96", after := #[{ on := 5, ground := Ground.guard }], guard := some (5, true) } : Oper)) (v := ?_) rfl (by kernel_rfl) (by kernel_rfl) (by kernel_rfl) (fun _ _ _ h => h) (Or.inl ⟨by rfl, ?_⟩) (by assumption) ?_
      rotate_left 1
      · (intro w hSw; (try dsimp only at hSw); go_simp; (try with_reducible rfl))
      (try simp only [Act.put, List.setIfInBounds_toArray, List.set_cons_zero, List.set_cons_succ])
      refine wpAnyH_take (i := 12) (oi := ({ dst := some 55, op := Op.load 23 (Operand.tmp 54), type := 23, pos := "law.go:96", after := #[{ on := 11, ground := Ground.data }, { on := 5, ground := Ground.guard }], guard := some (5, true) } : Oper)) (v := ?_) rfl (by kernel_rfl) (by kernel_rfl) (by kernel_rfl) (fun _ _ _ h => h) (Or.inl ⟨by rfl, ?_⟩) (by assumption) ?_
      rotate_left 1
      · (intro w hSw; (try dsimp only at hSw); go_simp; (try with_reducible rfl))
      (try simp only [Act.put, List.setIfInBounds_toArray, List.set_cons_zero, List.set_cons_succ])
      refine wpAnyH_ready (rs := [9]) (by kernel_rfl) (by simp) ?_
      refine AllReadyH.cons (o := ({ dst := some 52, op := Op.call { callee := Callee.value (Operand.func 20), args := #[Operand.tmp 49, Operand.tmp 51], argTypes := #[46, 23] }, type := 52, pos := "law.go:96", after := #[{ on := 6, ground := Ground.data }, { on := 8, ground := Ground.data }, { on := 5, ground := Ground.chain }, { on := 5, ground := Ground.guard }], guard := some (5, true) } : Oper)) rfl (fun K hK => ?_) ?_
      rotate_left 1
      · exact AllReadyH.nil
      go_simp
      go_at_call 20
      ((with_reducible refine (CB.out _ (by first | exact HB2.out | exact Below.drew0 HB2.out)).mono ?_); rintro e v3 ⟨vb, rfl, hob, hb⟩; have HB3 := Lib.hid (Below.trans0 (by first | exact HB2.out | exact Below.drew0 HB2.out) hb); have HA3 := Lib.hid hob.rd; have S3 := Lib.hid (show (fun w' : World => (w'.cell? ⟨w.heap.size, 0, none⟩ = some (.int .u16 a1Addr) ∧ w'.cell? ⟨w.heap.size, 1, none⟩ = some (.int .u8 a1Data) ∧ w'.cell? ⟨w.heap.size, 2, none⟩ = some (.bool a1Read) ∧ w'.cell? ⟨w.heap.size, 3, none⟩ = some (.bool a1BA) ∧ w'.cell? ⟨w.heap.size, 4, none⟩ = some (.bool a1BS) ∧ w'.cell? ⟨w.heap.size, 5, none⟩ = some (.bool a1LIC) ∧ w'.cell? ⟨w.heap.size, 6, none⟩ = some (.bool a1AVMA) ∧ w'.cell? ⟨w.heap.size, 7, none⟩ = some (.bool a1BUSY) ∧ w'.cell? ⟨w.heap.size, 8, none⟩ = some (.bool false))) v3 from Blk.c9 (Blk.below HX4.out HB3.out HX4.out.lt)); clear hob hb)
      first | (refine hK.out _ _ ?_ (fun hH3 => ?_)) | (go_wp2_with fail; refine hK.out _ _ ?_ (fun hH3 => ?_))
      · (try dsimp only); with_reducible exact S3.out
      clear hK K hH2
      (try simp only [Act.put, List.setIfInBounds_toArray, List.set_cons_zero, List.set_cons_succ])
      refine wpAnyH_ready (rs := [13]) (by kernel_rfl) (by simp) ?_
      refine AllReadyH.cons (o := ({ dst := some 56, op := Op.call { callee := Callee.value (Operand.func 17), args := #[Operand.tmp 53, Operand.const (Value.int IntKind.i64 2), Operand.tmp 55], argTypes := #[47, 3, 23] }, type := 52, pos := "law.go:96", after := #[{ on := 10, ground := Ground.data }, { on := 12, ground := Ground.data }, { on := 9, ground := Ground.chain }, { on := 5, ground := Ground.guard }], guard := some (5, true) } : Oper)) rfl (fun K hK => ?_) ?_
      rotate_left 1
      · exact AllReadyH.nil
      go_simp
      go_at_call 17
      ((with_reducible refine (CT.out _ (by first | exact HB3.out | exact Below.drew0 HB3.out)).mono ?_); rintro e v4 ⟨vc, rfl, hoc, hb⟩; have HB4' := Lib.hid (Below.trans0 (by first | exact HB3.out | exact Below.drew0 HB3.out) hb); have HA4 := Lib.hid (Els.Rd.below HA3.out (by first | exact hb | exact Below.drew0 hb)); have HC4 := Lib.hid hoc.rd; have S4 := Lib.hid (show (fun w' : World => (w'.cell? ⟨w.heap.size, 0, none⟩ = some (.int .u16 a1Addr) ∧ w'.cell? ⟨w.heap.size, 1, none⟩ = some (.int .u8 a1Data) ∧ w'.cell? ⟨w.heap.size, 2, none⟩ = some (.bool a1Read) ∧ w'.cell? ⟨w.heap.size, 3, none⟩ = some (.bool a1BA) ∧ w'.cell? ⟨w.heap.size, 4, none⟩ = some (.bool a1BS) ∧ w'.cell? ⟨w.heap.size, 5, none⟩ = some (.bool a1LIC) ∧ w'.cell? ⟨w.heap.size, 6, none⟩ = some (.bool a1AVMA) ∧ w'.cell? ⟨w.heap.size, 7, none⟩ = some (.bool a1BUSY) ∧ w'.cell? ⟨w.heap.size, 8, none⟩ = some (.bool false))) v4 from Blk.c9 (Blk.below HX4.out HB4'.out HX4.out.lt)); clear hoc hb)
      first | (refine hK.out _ _ ?_ (fun hH4 => ?_)) | (go_wp2_with fail; refine hK.out _ _ ?_ (fun hH4 => ?_))
      · (try dsimp only); with_reducible exact S4.out
      clear hK K hH3
      (try simp only [Act.put, List.setIfInBounds_toArray, List.set_cons_zero, List.set_cons_succ])
      refine wpAnyH_ready (rs := [14]) (by kernel_rfl) (by simp) ?_
      refine AllReadyH.cons (o := ({ dst := some 57, op := Op.call { callee := Callee.value (Operand.func 18), args := #[Operand.tmp 52, Operand.tmp 56], argTypes := #[52, 52] }, type := 4, pos := "law.go:96", after := #[{ on := 9, ground := Ground.data }, { on := 13, ground := Ground.data }, { on := 13, ground := Ground.chain }, { on := 5, ground := Ground.guard }], guard := some (5, true) } : Oper)) rfl (fun K hK => ?_) ?_
      rotate_left 1
      · exact AllReadyH.nil
      go_simp
      go_at_call 18
      ((with_reducible refine (CQ.out _ _ _ (hitsL P 2 a1Addr) (by first | exact HA4.out | exact Els.Rd.drew (HA4.out)) (by first | exact HC4.out | exact Els.Rd.drew (HC4.out)) (LH.out _)).mono ?_); rintro e v5 ⟨rfl, hb⟩; have HB5 := Lib.hid (Below.trans0 (by first | exact HB4'.out | exact Below.drew0 HB4'.out) hb); have S5 := Lib.hid (show (fun w' : World => (w'.cell? ⟨w.heap.size, 0, none⟩ = some (.int .u16 a1Addr) ∧ w'.cell? ⟨w.heap.size, 1, none⟩ = some (.int .u8 a1Data) ∧ w'.cell? ⟨w.heap.size, 2, none⟩ = some (.bool a1Read) ∧ w'.cell? ⟨w.heap.size, 3, none⟩ = some (.bool a1BA) ∧ w'.cell? ⟨w.heap.size, 4, none⟩ = some (.bool a1BS) ∧ w'.cell? ⟨w.heap.size, 5, none⟩ = some (.bool a1LIC) ∧ w'.cell? ⟨w.heap.size, 6, none⟩ = some (.bool a1AVMA) ∧ w'.cell? ⟨w.heap.size, 7, none⟩ = some (.bool a1BUSY) ∧ w'.cell? ⟨w.heap.size, 8, none⟩ = some (.bool false))) v5 from Blk.c9 (Blk.below HX4.out HB5.out HX4.out.lt)); clear hb)
      first | (refine hK.out _ _ ?_ (fun hH5 => ?_)) | (go_wp2_with fail; refine hK.out _ _ ?_ (fun hH5 => ?_))
      · (try dsimp only); with_reducible exact S5.out
      clear hK K hH4
      (try simp only [Act.put, List.setIfInBounds_toArray, List.set_cons_zero, List.set_cons_succ])
      refine wpAnyH_take (i := 15) (oi := ({ dst := some 58, op := Op.pick (Operand.tmp 48) (Operand.tmp 57) (Operand.const (Value.bool false)), type := 4, pos := "law.go:96", after := #[{ on := 5, ground := Ground.data }, { on := 14, ground := Ground.data }], guard := none } : Oper)) (v := ?_) rfl (by kernel_rfl) (by kernel_rfl) (by kernel_rfl) (fun _ _ _ h => h) (Or.inl ⟨by rfl, ?_⟩) (by assumption) ?_
      rotate_left 1
      · (intro w hSw; (try dsimp only at hSw); go_simp; (try with_reducible rfl))
      (try simp only [Act.put, List.setIfInBounds_toArray, List.set_cons_zero, List.set_cons_succ])
      refine wpAnyH_take (i := 16) (oi := ({ dst := some 59, op := Op.move (Operand.tmp 58), type := 4, pos := "law.go:96", after := #[{ on := 15, ground := Ground.data }, { on := 14, ground := Ground.chain }], guard := none } : Oper)) (v := ?_) rfl (by kernel_rfl) (by kernel_rfl) (by kernel_rfl) (fun _ _ _ h => h) (Or.inl ⟨by rfl, ?_⟩) (by assumption) ?_
      rotate_left 1
      · (intro w hSw; (try dsimp only at hSw); go_simp; (try with_reducible rfl))
      (try simp only [Act.put, List.setIfInBounds_toArray, List.set_cons_zero, List.set_cons_succ])
      refine wpAnyH_ready (rs := [17]) (by kernel_rfl) (by simp) ?_
      refine AllReadyH.cons (o := ({ dst := some 60, op := Op.call { callee := Callee.value (Operand.func 21), args := #[], argTypes := #[] }, type := 4, pos := "law.go:96", after := #[{ on := 16, ground := Ground.chain }, { on := 16, ground := Ground.guard }], guard := some (16, true) } : Oper)) rfl (fun K hK => ?_) ?_
      rotate_left 1
      · exact AllReadyH.nil
      go_simp
      go_at_call 21
      ((with_reducible refine (CA.out _).mono ?_); rintro e v6 ⟨rfl, hb⟩; have HB6 := Lib.hid (Below.trans0 (by first | exact HB5.out | exact Below.drew0 HB5.out) hb); have S6 := Lib.hid (show (fun w' : World => (w'.cell? ⟨w.heap.size, 0, none⟩ = some (.int .u16 a1Addr) ∧ w'.cell? ⟨w.heap.size, 1, none⟩ = some (.int .u8 a1Data) ∧ w'.cell? ⟨w.heap.size, 2, none⟩ = some (.bool a1Read) ∧ w'.cell? ⟨w.heap.size, 3, none⟩ = some (.bool a1BA) ∧ w'.cell? ⟨w.heap.size, 4, none⟩ = some (.bool a1BS) ∧ w'.cell? ⟨w.heap.size, 5, none⟩ = some (.bool a1LIC) ∧ w'.cell? ⟨w.heap.size, 6, none⟩ = some (.bool a1AVMA) ∧ w'.cell? ⟨w.heap.size, 7, none⟩ = some (.bool a1BUSY) ∧ w'.cell? ⟨w.heap.size, 8, none⟩ = some (.bool false))) v6 from Blk.c9 (Blk.below HX4.out HB6.out HX4.out.lt)); clear hb)
      first | (refine hK.out _ _ ?_ (fun hH6 => ?_)) | (go_wp2_with fail; refine hK.out _ _ ?_ (fun hH6 => ?_))
      · (try dsimp only); with_reducible exact S6.out
      clear hK K hH5
      (try simp only [Act.put, List.setIfInBounds_toArray, List.set_cons_zero, List.set_cons_succ])
      refine wpAnyH_take (i := 18) (oi := ({ dst := some 61, op := Op.pick (Operand.tmp 59) (Operand.tmp 60) (Operand.const (Value.bool false)), type := 4, pos := "law.go:96", after := #[{ on := 16, ground := Ground.data }, { on := 17, ground := Ground.data }], guard := none } : Oper)) (v := ?_) rfl (by kernel_rfl) (by kernel_rfl) (by kernel_rfl) (fun _ _ _ h => h) (Or.inl ⟨by rfl, ?_⟩) (by assumption) ?_
      rotate_left 1
      · (intro w hSw; (try dsimp only at hSw); go_simp; (try with_reducible rfl))
      (try simp only [Act.put, List.setIfInBounds_toArray, List.set_cons_zero, List.set_cons_succ])
      refine wpAnyH_take (i := 19) (oi := ({ dst := some 4, op := Op.assign (Operand.tmp 61), type := 4, pos := "law.go:96", after := #[{ on := 18, ground := Ground.data }, { on := 17, ground := Ground.chain }, { on := 0, ground := Ground.phase }, { on := 1, ground := Ground.phase }, { on := 2, ground := Ground.phase }, { on := 3, ground := Ground.phase }, { on := 4, ground := Ground.phase }, { on := 5, ground := Ground.phase }, { on := 6, ground := Ground.phase }, { on := 7, ground := Ground.phase }, { on := 8, ground := Ground.phase }, { on := 9, ground := Ground.phase }, { on := 10, ground := Ground.phase }, { on := 11, ground := Ground.phase }, { on := 12, ground := Ground.phase }, { on := 13, ground := Ground.phase }, { on := 14, ground := Ground.phase }, { on := 15, ground := Ground.phase }, { on := 16, ground := Ground.phase }, { on := 17, ground := Ground.phase }, { on := 18, ground := Ground.phase }], guard := none } : Oper)) (v := ?_) rfl (by kernel_rfl) (by kernel_rfl) (by kernel_rfl) (fun _ _ _ h => h) (Or.inl ⟨by rfl, ?_⟩) (by assumption) ?_
      rotate_left 1
      · (intro w hSw; (try dsimp only at hSw); go_simp; (try with_reducible rfl))
      (try simp only [Act.put, List.setIfInBounds_toArray, List.set_cons_zero, List.set_cons_succ])
      refine wpAnyH_done (by kernel_rfl) ?_ _
      refine NoPanic.normal ?_
      have HF := Lib.hid (Below.trans0 B4.out (by first | exact HB6.out | exact Below.drew0 HB6.out))
      go_wp2
      go_ret
      exact ⟨rfl, by first | exact HF.out | exact Below.drew0 HF.out⟩
    case true =>
      cases a1Read
      case false =>
        obtain ⟨x0, x1, x2, x3, x4, x5, x6, x7, x8⟩ := Blk.c9 HX3.out
        go_wp2_with fail
        refine (CH.out 1).mono ?_
        rintro e w4 ⟨v8, rfl, ho8, hb8⟩
        have H4 := Lib.hid hb8
        have HO8 := Lib.hid ho8
        obtain ⟨x0', x1', x2', x3', x4', x5', x6', x7', x8'⟩ := Blk.c9 (Blk.below HX3.out hb8 HX3.out.lt)
        clear hb8 ho8 CH x0 x1 x2 x3 x4 x5 x6 x7 x8
        have x0 := x0'; have x1 := x1'; have x2 := x2'; have x3 := x3'; have x4 := x4'; have x5 := x5'; have x6 := x6'; have x7 := x7'; have x8 := x8'
        clear x0' x1' x2' x3' x4' x5' x6' x7' x8'
        go_upto_region 12 with (fail)
        have HX4 : Hid (Blk w4 w.heap.size 25 #[.int .u16 a1Addr, .int .u8 a1Data, .bool false, .bool a1BA, .bool a1BS, .bool a1LIC, .bool a1AVMA, .bool a1BUSY, .bool true]) := Lib.hid (Blk.below HX3.out H4.out HX3.out.lt)
        have B4 := Lib.hid (Below.trans0 B3.out H4.out)
        have HW4 := Lib.hid (WAt.below HW3.out H4.out)
        have HR4 := Lib.hid (Els.Rd.below HR3.out H4.out)
        have LH := Lib.hid (fun kd => Nat.le_trans (hitsL_len P kd a1Addr) (by have h1 := HPL.out; have h2 := HP40.out; omega : P.length ≤ 1000))
        have CY := Lib.hid (fun (z : World) (hz : Below w4.heap.size w4 z) => (show Calls Try.prog 19 #[.pointer (some ⟨w.heap.size + 1, 0, none⟩), .agg #[.int .u16 a1Addr, .int .u8 a1Data, .bool false, .bool a1BA, .bool a1BS, .bool a1LIC, .bool a1AVMA, .bool a1BUSY, .bool true]] z (GivesI (hitsL P 1 a1Addr) z) from cycle_any (w.heap.size + 1) v la P ⟨a1Addr, a1Data, false, a1BA, a1BS, a1LIC, a1AVMA, a1BUSY, true⟩ z (WAt.below HW4.out hz).1 (WAt.below HW4.out hz).2.rd (by have h1 := HPL.out; have h2 := HP40.out; omega)))
        have CB := Lib.hid (fun (z : World) (hz : Below w4.heap.size w4 z) => boundary_any (w.heap.size + 1) v la P a1Addr z (WAt.below HW4.out hz).1 (WAt.below HW4.out hz).2.rd (by have h1 := HPL.out; have h2 := HP40.out; omega))
        have CT := Lib.hid (fun (z : World) (hz : Below w4.heap.size w4 z) => hits_any (.slice A6 pl c6) P 2 a1Addr z (Els.Rd.below HR4.out hz) (by have h1 := HPL.out; have h2 := HP40.out; omega))
        have CA := Lib.hid (fun z => alive49 z)
        have CQ := Lib.hid (fun (z : World) (va vb : Value) (L : List Int) (h : eI.Rd z va L) (h' : eI.Rd z vb L) (hn : L.length ≤ 1000) => (show Calls Try.prog 18 #[va, vb] z (fun e z' => e = .returned (.bool true) ∧ Below z.heap.size z z') from (by have := eqI_b va vb L L z h h' (by omega) (by omega); rwa [beq_self_eq_true] at this)))
        clear x0 x1 x2 x3 x4 x5 x6 x7 x8
        obtain ⟨x0, x1, x2, x3, x4, x5, x6, x7, x8⟩ := Blk.c9 HX4.out
        have S0 : Hid ((fun w' : World => (w'.cell? ⟨w.heap.size, 0, none⟩ = some (.int .u16 a1Addr) ∧ w'.cell? ⟨w.heap.size, 1, none⟩ = some (.int .u8 a1Data) ∧ w'.cell? ⟨w.heap.size, 2, none⟩ = some (.bool false) ∧ w'.cell? ⟨w.heap.size, 3, none⟩ = some (.bool a1BA) ∧ w'.cell? ⟨w.heap.size, 4, none⟩ = some (.bool a1BS) ∧ w'.cell? ⟨w.heap.size, 5, none⟩ = some (.bool a1LIC) ∧ w'.cell? ⟨w.heap.size, 6, none⟩ = some (.bool a1AVMA) ∧ w'.cell? ⟨w.heap.size, 7, none⟩ = some (.bool a1BUSY) ∧ w'.cell? ⟨w.heap.size, 8, none⟩ = some (.bool true))) w4.drew) := Lib.hid (Blk.c9 (Blk.drew HX4.out))
        have HB0 := Lib.hid (Below.refl w4.heap.size w4)
        have HV8 : Hid (eI.Rd w4 v8 (hitsL P 1 a1Addr)) := Lib.hid HO8.out.rd
        refine wp_region_noPanic ?_
        refine wp_region_held_drew (S := (fun w' : World => (w'.cell? ⟨w.heap.size, 0, none⟩ = some (.int .u16 a1Addr) ∧ w'.cell? ⟨w.heap.size, 1, none⟩ = some (.int .u8 a1Data) ∧ w'.cell? ⟨w.heap.size, 2, none⟩ = some (.bool false) ∧ w'.cell? ⟨w.heap.size, 3, none⟩ = some (.bool a1BA) ∧ w'.cell? ⟨w.heap.size, 4, none⟩ = some (.bool a1BS) ∧ w'.cell? ⟨w.heap.size, 5, none⟩ = some (.bool a1LIC) ∧ w'.cell? ⟨w.heap.size, 6, none⟩ = some (.bool a1AVMA) ∧ w'.cell? ⟨w.heap.size, 7, none⟩ = some (.bool a1BUSY) ∧ w'.cell? ⟨w.heap.size, 8, none⟩ = some (.bool true)))) (by kernel_rfl) ?_ (fun hH0 => ?_)
        · (try dsimp only); with_reducible exact S0.out
        refine wpAnyH_take (i := 0) (oi := ({ dst := some 43, op := Op.move (Operand.tmp 5), type := 46, pos := "law.go:96", after := #[], guard := none } : Oper)) (v := ?_) rfl (by kernel_rfl) (by kernel_rfl) (by kernel_rfl) (fun _ _ _ h => h) (Or.inl ⟨by rfl, ?_⟩) (by assumption) ?_
        rotate_left 1
        · (intro w hSw; (try dsimp only at hSw); go_simp; (try with_reducible rfl))
        (try simp only [Act.put, List.setIfInBounds_toArray, List.set_cons_zero, List.set_cons_succ])
        refine wpAnyH_take (i := 1) (oi := ({ dst := some 44, op := Op.load 25 (Operand.tmp 3), type := 25, pos := "law.go:96", after := #[], guard := none } : Oper)) (v := ?_) rfl (by kernel_rfl) (by kernel_rfl) (by kernel_rfl) (fun _ _ _ h => h) (Or.inl ⟨by rfl, ?_⟩) (by assumption) ?_
        rotate_left 1
        · (intro w hSw; (try dsimp only at hSw); go_simp; (try with_reducible rfl))
        (try simp only [Act.put, List.setIfInBounds_toArray, List.set_cons_zero, List.set_cons_succ])
        refine wpAnyH_take (i := 3) (oi := ({ dst := some 46, op := Op.move (Operand.tmp 8), type := 52, pos := "law.go:96", after := #[], guard := none } : Oper)) (v := ?_) rfl (by kernel_rfl) (by kernel_rfl) (by kernel_rfl) (fun _ _ _ h => h) (Or.inl ⟨by rfl, ?_⟩) (by assumption) ?_
        rotate_left 1
        · (intro w hSw; (try dsimp only at hSw); go_simp; (try with_reducible rfl))
        (try simp only [Act.put, List.setIfInBounds_toArray, List.set_cons_zero, List.set_cons_succ])
        refine wpAnyH_ready (rs := [2]) (by kernel_rfl) (by simp) ?_
        refine AllReadyH.cons (o := ({ dst := some 45, op := Op.call { callee := Callee.value (Operand.func 19), args := #[Operand.tmp 43, Operand.tmp 44], argTypes := #[46, 25] }, type := 52, pos := "law.go:96", after := #[{ on := 0, ground := Ground.data }, { on := 1, ground := Ground.data }], guard := none } : Oper)) rfl (fun K hK => ?_) ?_
        rotate_left 1
        · exact AllReadyH.nil
        go_simp
        go_at_call 19
        ((with_reducible refine (CY.out _ (by first | exact HB0.out | exact Below.drew0 HB0.out)).mono ?_); rintro e v1 ⟨va, rfl, hoa, hb⟩; have HB1 := Lib.hid (Below.trans0 (by first | exact HB0.out | exact Below.drew0 HB0.out) hb); have HA1 := Lib.hid hoa.rd; have H81 := Lib.hid (Els.Rd.below HV8.out HB1.out); have S1 := Lib.hid (show (fun w' : World => (w'.cell? ⟨w.heap.size, 0, none⟩ = some (.int .u16 a1Addr) ∧ w'.cell? ⟨w.heap.size, 1, none⟩ = some (.int .u8 a1Data) ∧ w'.cell? ⟨w.heap.size, 2, none⟩ = some (.bool false) ∧ w'.cell? ⟨w.heap.size, 3, none⟩ = some (.bool a1BA) ∧ w'.cell? ⟨w.heap.size, 4, none⟩ = some (.bool a1BS) ∧ w'.cell? ⟨w.heap.size, 5, none⟩ = some (.bool a1LIC) ∧ w'.cell? ⟨w.heap.size, 6, none⟩ = some (.bool a1AVMA) ∧ w'.cell? ⟨w.heap.size, 7, none⟩ = some (.bool a1BUSY) ∧ w'.cell? ⟨w.heap.size, 8, none⟩ = some (.bool true))) v1 from Blk.c9 (Blk.below HX4.out HB1.out HX4.out.lt)); clear hoa hb)
        first | (refine hK.out _ _ ?_ (fun hH1 => ?_)) | (go_wp2_with fail; refine hK.out _ _ ?_ (fun hH1 => ?_))
        · (try dsimp only); with_reducible exact S1.out
        clear hK K hH0
        (try simp only [Act.put, List.setIfInBounds_toArray, List.set_cons_zero, List.set_cons_succ])
        refine wpAnyH_ready (rs := [4]) (by kernel_rfl) (by simp) ?_
        refine AllReadyH.cons (o := ({ dst := some 47, op := Op.call { callee := Callee.value (Operand.func 18), args := #[Operand.tmp 45, Operand.tmp 46], argTypes := #[52, 52] }, type := 4, pos := "law.go:96", after := #[{ on := 2, ground := Ground.data }, { on := 3, ground := Ground.data }, { on := 2, ground := Ground.chain }], guard := none } : Oper)) rfl (fun K hK => ?_) ?_
        rotate_left 1
        · exact AllReadyH.nil
        go_simp
        go_at_call 18
        ((with_reducible refine (CQ.out _ _ _ (hitsL P 1 a1Addr) (by first | exact HA1.out | exact Els.Rd.drew (HA1.out)) (by first | exact H81.out | exact Els.Rd.drew (H81.out)) (by first | exact LH.out _ | simp)).mono ?_); rintro e v2 ⟨rfl, hb⟩; have HB2 := Lib.hid (Below.trans0 (by first | exact HB1.out | exact Below.drew0 HB1.out) hb); have S2 := Lib.hid (show (fun w' : World => (w'.cell? ⟨w.heap.size, 0, none⟩ = some (.int .u16 a1Addr) ∧ w'.cell? ⟨w.heap.size, 1, none⟩ = some (.int .u8 a1Data) ∧ w'.cell? ⟨w.heap.size, 2, none⟩ = some (.bool false) ∧ w'.cell? ⟨w.heap.size, 3, none⟩ = some (.bool a1BA) ∧ w'.cell? ⟨w.heap.size, 4, none⟩ = some (.bool a1BS) ∧ w'.cell? ⟨w.heap.size, 5, none⟩ = some (.bool a1LIC) ∧ w'.cell? ⟨w.heap.size, 6, none⟩ = some (.bool a1AVMA) ∧ w'.cell? ⟨w.heap.size, 7, none⟩ = some (.bool a1BUSY) ∧ w'.cell? ⟨w.heap.size, 8, none⟩ = some (.bool true))) v2 from Blk.c9 (Blk.below HX4.out HB2.out HX4.out.lt)); clear hb)
        first | (refine hK.out _ _ ?_ (fun hH2 => ?_)) | (go_wp2_with fail; refine hK.out _ _ ?_ (fun hH2 => ?_))
        · (try dsimp only); with_reducible exact S2.out
        clear hK K hH1
        (try simp only [Act.put, List.setIfInBounds_toArray, List.set_cons_zero, List.set_cons_succ])
        refine wpAnyH_take (i := 5) (oi := ({ dst := some 48, op := Op.move (Operand.tmp 47), type := 4, pos := "law.go:96", after := #[{ on := 4, ground := Ground.data }, { on := 4, ground := Ground.chain }], guard := none } : Oper)) (v := ?_) rfl (by kernel_rfl) (by kernel_rfl) (by kernel_rfl) (fun _ _ _ h => h) (Or.inl ⟨by rfl, ?_⟩) (by assumption) ?_
        rotate_left 1
        · (intro w hSw; (try dsimp only at hSw); go_simp; (try with_reducible rfl))
        (try simp only [Act.put, List.setIfInBounds_toArray, List.set_cons_zero, List.set_cons_succ])
        refine wpAnyH_take (i := 6) (oi := ({ dst := some 49, op := Op.move (Operand.tmp 5), type := 46, pos := "law.go:96", after := #[{ on := 5, ground := Ground.guard }], guard := some (5, true) } : Oper)) (v := ?_) rfl (by kernel_rfl) (by kernel_rfl) (by kernel_rfl) (fun _ _ _ h => h) (Or.inl ⟨by rfl, ?_⟩) (by assumption) ?_
        rotate_left 1
        · (intro w hSw; (try dsimp only at hSw); go_simp; (try with_reducible rfl))
        (try simp only [Act.put, List.setIfInBounds_toArray, List.set_cons_zero, List.set_cons_succ])
        refine wpAnyH_take (i := 7) (oi := ({ dst := some 50, op := Op.fieldAddr 25 (Operand.tmp 3) 0, type := 0, pos := "law.go:96", after := #[{ on := 5, ground := Ground.guard }], guard := some (5, true) } : Oper)) (v := ?_) rfl (by kernel_rfl) (by kernel_rfl) (by kernel_rfl) (fun _ _ _ h => h) (Or.inl ⟨by rfl, ?_⟩) (by assumption) ?_
        rotate_left 1
        · (intro w hSw; (try dsimp only at hSw); go_simp; (try with_reducible rfl))
        (try simp only [Act.put, List.setIfInBounds_toArray, List.set_cons_zero, List.set_cons_succ])
        refine wpAnyH_take (i := 8) (oi := ({ dst := some 51, op := Op.load 23 (Operand.tmp 50), type := 23, pos := "law.go:96", after := #[{ on := 7, ground := Ground.data }, { on := 5, ground := Ground.guard }], guard := some (5, true) } : Oper)) (v := ?_) rfl (by kernel_rfl) (by kernel_rfl) (by kernel_rfl) (fun _ _ _ h => h) (Or.inl ⟨by rfl, ?_⟩) (by assumption) ?_
        rotate_left 1
        · (intro w hSw; (try dsimp only at hSw); go_simp; (try with_reducible rfl))
        (try simp only [Act.put, List.setIfInBounds_toArray, List.set_cons_zero, List.set_cons_succ])
        refine wpAnyH_take (i := 10) (oi := ({ dst := some 53, op := Op.move (Operand.tmp 6), type := 47, pos := "law.go:96", after := #[{ on := 5, ground := Ground.guard }], guard := some (5, true) } : Oper)) (v := ?_) rfl (by kernel_rfl) (by kernel_rfl) (by kernel_rfl) (fun _ _ _ h => h) (Or.inl ⟨by rfl, ?_⟩) (by assumption) ?_
        rotate_left 1
        · (intro w hSw; (try dsimp only at hSw); go_simp; (try with_reducible rfl))
        (try simp only [Act.put, List.setIfInBounds_toArray, List.set_cons_zero, List.set_cons_succ])
        refine wpAnyH_take (i := 11) (oi := ({ dst := some 54, op := Op.fieldAddr 25 (Operand.tmp 3) 0, type := 0, pos := "law.go:96", after := #[{ on := 5, ground := Ground.guard }], guard := some (5, true) } : Oper)) (v := ?_) rfl (by kernel_rfl) (by kernel_rfl) (by kernel_rfl) (fun _ _ _ h => h) (Or.inl ⟨by rfl, ?_⟩) (by assumption) ?_
        rotate_left 1
        · (intro w hSw; (try dsimp only at hSw); go_simp; (try with_reducible rfl))
        (try simp only [Act.put, List.setIfInBounds_toArray, List.set_cons_zero, List.set_cons_succ])
        refine wpAnyH_take (i := 12) (oi := ({ dst := some 55, op := Op.load 23 (Operand.tmp 54), type := 23, pos := "law.go:96", after := #[{ on := 11, ground := Ground.data }, { on := 5, ground := Ground.guard }], guard := some (5, true) } : Oper)) (v := ?_) rfl (by kernel_rfl) (by kernel_rfl) (by kernel_rfl) (fun _ _ _ h => h) (Or.inl ⟨by rfl, ?_⟩) (by assumption) ?_
        rotate_left 1
        · (intro w hSw; (try dsimp only at hSw); go_simp; (try with_reducible rfl))
        (try simp only [Act.put, List.setIfInBounds_toArray, List.set_cons_zero, List.set_cons_succ])
        refine wpAnyH_ready (rs := [9]) (by kernel_rfl) (by simp) ?_
        refine AllReadyH.cons (o := ({ dst := some 52, op := Op.call { callee := Callee.value (Operand.func 20), args := #[Operand.tmp 49, Operand.tmp 51], argTypes := #[46, 23] }, type := 52, pos := "law.go:96", after := #[{ on := 6, ground := Ground.data }, { on := 8, ground := Ground.data }, { on := 5, ground := Ground.chain }, { on := 5, ground := Ground.guard }], guard := some (5, true) } : Oper)) rfl (fun K hK => ?_) ?_
        rotate_left 1
        · exact AllReadyH.nil
        go_simp
        go_at_call 20
        ((with_reducible refine (CB.out _ (by first | exact HB2.out | exact Below.drew0 HB2.out)).mono ?_); rintro e v3 ⟨vb, rfl, hob, hb⟩; have HB3 := Lib.hid (Below.trans0 (by first | exact HB2.out | exact Below.drew0 HB2.out) hb); have HA3 := Lib.hid hob.rd; have S3 := Lib.hid (show (fun w' : World => (w'.cell? ⟨w.heap.size, 0, none⟩ = some (.int .u16 a1Addr) ∧ w'.cell? ⟨w.heap.size, 1, none⟩ = some (.int .u8 a1Data) ∧ w'.cell? ⟨w.heap.size, 2, none⟩ = some (.bool false) ∧ w'.cell? ⟨w.heap.size, 3, none⟩ = some (.bool a1BA) ∧ w'.cell? ⟨w.heap.size, 4, none⟩ = some (.bool a1BS) ∧ w'.cell? ⟨w.heap.size, 5, none⟩ = some (.bool a1LIC) ∧ w'.cell? ⟨w.heap.size, 6, none⟩ = some (.bool a1AVMA) ∧ w'.cell? ⟨w.heap.size, 7, none⟩ = some (.bool a1BUSY) ∧ w'.cell? ⟨w.heap.size, 8, none⟩ = some (.bool true))) v3 from Blk.c9 (Blk.below HX4.out HB3.out HX4.out.lt)); clear hob hb)
        first | (refine hK.out _ _ ?_ (fun hH3 => ?_)) | (go_wp2_with fail; refine hK.out _ _ ?_ (fun hH3 => ?_))
        · (try dsimp only); with_reducible exact S3.out
        clear hK K hH2
        (try simp only [Act.put, List.setIfInBounds_toArray, List.set_cons_zero, List.set_cons_succ])
        refine wpAnyH_ready (rs := [13]) (by kernel_rfl) (by simp) ?_
        refine AllReadyH.cons (o := ({ dst := some 56, op := Op.call { callee := Callee.value (Operand.func 17), args := #[Operand.tmp 53, Operand.const (Value.int IntKind.i64 2), Operand.tmp 55], argTypes := #[47, 3, 23] }, type := 52, pos := "law.go:96", after := #[{ on := 10, ground := Ground.data }, { on := 12, ground := Ground.data }, { on := 9, ground := Ground.chain }, { on := 5, ground := Ground.guard }], guard := some (5, true) } : Oper)) rfl (fun K hK => ?_) ?_
        rotate_left 1
        · exact AllReadyH.nil
        go_simp
        go_at_call 17
        ((with_reducible refine (CT.out _ (by first | exact HB3.out | exact Below.drew0 HB3.out)).mono ?_); rintro e v4 ⟨vc, rfl, hoc, hb⟩; have HB4' := Lib.hid (Below.trans0 (by first | exact HB3.out | exact Below.drew0 HB3.out) hb); have HA4 := Lib.hid (Els.Rd.below HA3.out (by first | exact hb | exact Below.drew0 hb)); have HC4 := Lib.hid hoc.rd; have S4 := Lib.hid (show (fun w' : World => (w'.cell? ⟨w.heap.size, 0, none⟩ = some (.int .u16 a1Addr) ∧ w'.cell? ⟨w.heap.size, 1, none⟩ = some (.int .u8 a1Data) ∧ w'.cell? ⟨w.heap.size, 2, none⟩ = some (.bool false) ∧ w'.cell? ⟨w.heap.size, 3, none⟩ = some (.bool a1BA) ∧ w'.cell? ⟨w.heap.size, 4, none⟩ = some (.bool a1BS) ∧ w'.cell? ⟨w.heap.size, 5, none⟩ = some (.bool a1LIC) ∧ w'.cell? ⟨w.heap.size, 6, none⟩ = some (.bool a1AVMA) ∧ w'.cell? ⟨w.heap.size, 7, none⟩ = some (.bool a1BUSY) ∧ w'.cell? ⟨w.heap.size, 8, none⟩ = some (.bool true))) v4 from Blk.c9 (Blk.below HX4.out HB4'.out HX4.out.lt)); clear hoc hb)
        first | (refine hK.out _ _ ?_ (fun hH4 => ?_)) | (go_wp2_with fail; refine hK.out _ _ ?_ (fun hH4 => ?_))
        · (try dsimp only); with_reducible exact S4.out
        clear hK K hH3
        (try simp only [Act.put, List.setIfInBounds_toArray, List.set_cons_zero, List.set_cons_succ])
        refine wpAnyH_ready (rs := [14]) (by kernel_rfl) (by simp) ?_
        refine AllReadyH.cons (o := ({ dst := some 57, op := Op.call { callee := Callee.value (Operand.func 18), args := #[Operand.tmp 52, Operand.tmp 56], argTypes := #[52, 52] }, type := 4, pos := "law.go:96", after := #[{ on := 9, ground := Ground.data }, { on := 13, ground := Ground.data }, { on := 13, ground := Ground.chain }, { on := 5, ground := Ground.guard }], guard := some (5, true) } : Oper)) rfl (fun K hK => ?_) ?_
        rotate_left 1
        · exact AllReadyH.nil
        go_simp
        go_at_call 18
        ((with_reducible refine (CQ.out _ _ _ (hitsL P 2 a1Addr) (by first | exact HA4.out | exact Els.Rd.drew (HA4.out)) (by first | exact HC4.out | exact Els.Rd.drew (HC4.out)) (LH.out _)).mono ?_); rintro e v5 ⟨rfl, hb⟩; have HB5 := Lib.hid (Below.trans0 (by first | exact HB4'.out | exact Below.drew0 HB4'.out) hb); have S5 := Lib.hid (show (fun w' : World => (w'.cell? ⟨w.heap.size, 0, none⟩ = some (.int .u16 a1Addr) ∧ w'.cell? ⟨w.heap.size, 1, none⟩ = some (.int .u8 a1Data) ∧ w'.cell? ⟨w.heap.size, 2, none⟩ = some (.bool false) ∧ w'.cell? ⟨w.heap.size, 3, none⟩ = some (.bool a1BA) ∧ w'.cell? ⟨w.heap.size, 4, none⟩ = some (.bool a1BS) ∧ w'.cell? ⟨w.heap.size, 5, none⟩ = some (.bool a1LIC) ∧ w'.cell? ⟨w.heap.size, 6, none⟩ = some (.bool a1AVMA) ∧ w'.cell? ⟨w.heap.size, 7, none⟩ = some (.bool a1BUSY) ∧ w'.cell? ⟨w.heap.size, 8, none⟩ = some (.bool true))) v5 from Blk.c9 (Blk.below HX4.out HB5.out HX4.out.lt)); clear hb)
        first | (refine hK.out _ _ ?_ (fun hH5 => ?_)) | (go_wp2_with fail; refine hK.out _ _ ?_ (fun hH5 => ?_))
        · (try dsimp only); with_reducible exact S5.out
        clear hK K hH4
        (try simp only [Act.put, List.setIfInBounds_toArray, List.set_cons_zero, List.set_cons_succ])
        refine wpAnyH_take (i := 15) (oi := ({ dst := some 58, op := Op.pick (Operand.tmp 48) (Operand.tmp 57) (Operand.const (Value.bool false)), type := 4, pos := "law.go:96", after := #[{ on := 5, ground := Ground.data }, { on := 14, ground := Ground.data }], guard := none } : Oper)) (v := ?_) rfl (by kernel_rfl) (by kernel_rfl) (by kernel_rfl) (fun _ _ _ h => h) (Or.inl ⟨by rfl, ?_⟩) (by assumption) ?_
        rotate_left 1
        · (intro w hSw; (try dsimp only at hSw); go_simp; (try with_reducible rfl))
        (try simp only [Act.put, List.setIfInBounds_toArray, List.set_cons_zero, List.set_cons_succ])
        refine wpAnyH_take (i := 16) (oi := ({ dst := some 59, op := Op.move (Operand.tmp 58), type := 4, pos := "law.go:96", after := #[{ on := 15, ground := Ground.data }, { on := 14, ground := Ground.chain }], guard := none } : Oper)) (v := ?_) rfl (by kernel_rfl) (by kernel_rfl) (by kernel_rfl) (fun _ _ _ h => h) (Or.inl ⟨by rfl, ?_⟩) (by assumption) ?_
        rotate_left 1
        · (intro w hSw; (try dsimp only at hSw); go_simp; (try with_reducible rfl))
        (try simp only [Act.put, List.setIfInBounds_toArray, List.set_cons_zero, List.set_cons_succ])
        refine wpAnyH_ready (rs := [17]) (by kernel_rfl) (by simp) ?_
        refine AllReadyH.cons (o := ({ dst := some 60, op := Op.call { callee := Callee.value (Operand.func 21), args := #[], argTypes := #[] }, type := 4, pos := "law.go:96", after := #[{ on := 16, ground := Ground.chain }, { on := 16, ground := Ground.guard }], guard := some (16, true) } : Oper)) rfl (fun K hK => ?_) ?_
        rotate_left 1
        · exact AllReadyH.nil
        go_simp
        go_at_call 21
        ((with_reducible refine (CA.out _).mono ?_); rintro e v6 ⟨rfl, hb⟩; have HB6 := Lib.hid (Below.trans0 (by first | exact HB5.out | exact Below.drew0 HB5.out) hb); have S6 := Lib.hid (show (fun w' : World => (w'.cell? ⟨w.heap.size, 0, none⟩ = some (.int .u16 a1Addr) ∧ w'.cell? ⟨w.heap.size, 1, none⟩ = some (.int .u8 a1Data) ∧ w'.cell? ⟨w.heap.size, 2, none⟩ = some (.bool false) ∧ w'.cell? ⟨w.heap.size, 3, none⟩ = some (.bool a1BA) ∧ w'.cell? ⟨w.heap.size, 4, none⟩ = some (.bool a1BS) ∧ w'.cell? ⟨w.heap.size, 5, none⟩ = some (.bool a1LIC) ∧ w'.cell? ⟨w.heap.size, 6, none⟩ = some (.bool a1AVMA) ∧ w'.cell? ⟨w.heap.size, 7, none⟩ = some (.bool a1BUSY) ∧ w'.cell? ⟨w.heap.size, 8, none⟩ = some (.bool true))) v6 from Blk.c9 (Blk.below HX4.out HB6.out HX4.out.lt)); clear hb)
        first | (refine hK.out _ _ ?_ (fun hH6 => ?_)) | (go_wp2_with fail; refine hK.out _ _ ?_ (fun hH6 => ?_))
        · (try dsimp only); with_reducible exact S6.out
        clear hK K hH5
        (try simp only [Act.put, List.setIfInBounds_toArray, List.set_cons_zero, List.set_cons_succ])
        refine wpAnyH_take (i := 18) (oi := ({ dst := some 61, op := Op.pick (Operand.tmp 59) (Operand.tmp 60) (Operand.const (Value.bool false)), type := 4, pos := "law.go:96", after := #[{ on := 16, ground := Ground.data }, { on := 17, ground := Ground.data }], guard := none } : Oper)) (v := ?_) rfl (by kernel_rfl) (by kernel_rfl) (by kernel_rfl) (fun _ _ _ h => h) (Or.inl ⟨by rfl, ?_⟩) (by assumption) ?_
        rotate_left 1
        · (intro w hSw; (try dsimp only at hSw); go_simp; (try with_reducible rfl))
        (try simp only [Act.put, List.setIfInBounds_toArray, List.set_cons_zero, List.set_cons_succ])
        refine wpAnyH_take (i := 19) (oi := ({ dst := some 4, op := Op.assign (Operand.tmp 61), type := 4, pos := "law.go:96", after := #[{ on := 18, ground := Ground.data }, { on := 17, ground := Ground.chain }, { on := 0, ground := Ground.phase }, { on := 1, ground := Ground.phase }, { on := 2, ground := Ground.phase }, { on := 3, ground := Ground.phase }, { on := 4, ground := Ground.phase }, { on := 5, ground := Ground.phase }, { on := 6, ground := Ground.phase }, { on := 7, ground := Ground.phase }, { on := 8, ground := Ground.phase }, { on := 9, ground := Ground.phase }, { on := 10, ground := Ground.phase }, { on := 11, ground := Ground.phase }, { on := 12, ground := Ground.phase }, { on := 13, ground := Ground.phase }, { on := 14, ground := Ground.phase }, { on := 15, ground := Ground.phase }, { on := 16, ground := Ground.phase }, { on := 17, ground := Ground.phase }, { on := 18, ground := Ground.phase }], guard := none } : Oper)) (v := ?_) rfl (by kernel_rfl) (by kernel_rfl) (by kernel_rfl) (fun _ _ _ h => h) (Or.inl ⟨by rfl, ?_⟩) (by assumption) ?_
        rotate_left 1
        · (intro w hSw; (try dsimp only at hSw); go_simp; (try with_reducible rfl))
        (try simp only [Act.put, List.setIfInBounds_toArray, List.set_cons_zero, List.set_cons_succ])
        refine wpAnyH_done (by kernel_rfl) ?_ _
        refine NoPanic.normal ?_
        have HF := Lib.hid (Below.trans0 B4.out (by first | exact HB6.out | exact Below.drew0 HB6.out))
        go_wp2
        go_ret
        exact ⟨rfl, by first | exact HF.out | exact Below.drew0 HF.out⟩
      case true =>
        obtain ⟨x0, x1, x2, x3, x4, x5, x6, x7, x8⟩ := Blk.c9 HX3.out
        go_wp2_with fail
        refine (CH.out 0).mono ?_
        rintro e w4 ⟨v8, rfl, ho8, hb8⟩
        have H4 := Lib.hid hb8
        have HO8 := Lib.hid ho8
        obtain ⟨x0', x1', x2', x3', x4', x5', x6', x7', x8'⟩ := Blk.c9 (Blk.below HX3.out hb8 HX3.out.lt)
        clear hb8 ho8 CH x0 x1 x2 x3 x4 x5 x6 x7 x8
        have x0 := x0'; have x1 := x1'; have x2 := x2'; have x3 := x3'; have x4 := x4'; have x5 := x5'; have x6 := x6'; have x7 := x7'; have x8 := x8'
        clear x0' x1' x2' x3' x4' x5' x6' x7' x8'
        go_upto_region 12 with (fail)
        have HX4 : Hid (Blk w4 w.heap.size 25 #[.int .u16 a1Addr, .int .u8 a1Data, .bool true, .bool a1BA, .bool a1BS, .bool a1LIC, .bool a1AVMA, .bool a1BUSY, .bool true]) := Lib.hid (Blk.below HX3.out H4.out HX3.out.lt)
        have B4 := Lib.hid (Below.trans0 B3.out H4.out)
        have HW4 := Lib.hid (WAt.below HW3.out H4.out)
        have HR4 := Lib.hid (Els.Rd.below HR3.out H4.out)
        have LH := Lib.hid (fun kd => Nat.le_trans (hitsL_len P kd a1Addr) (by have h1 := HPL.out; have h2 := HP40.out; omega : P.length ≤ 1000))
        have CY := Lib.hid (fun (z : World) (hz : Below w4.heap.size w4 z) => (show Calls Try.prog 19 #[.pointer (some ⟨w.heap.size + 1, 0, none⟩), .agg #[.int .u16 a1Addr, .int .u8 a1Data, .bool true, .bool a1BA, .bool a1BS, .bool a1LIC, .bool a1AVMA, .bool a1BUSY, .bool true]] z (GivesI (hitsL P 0 a1Addr) z) from cycle_any (w.heap.size + 1) v la P ⟨a1Addr, a1Data, true, a1BA, a1BS, a1LIC, a1AVMA, a1BUSY, true⟩ z (WAt.below HW4.out hz).1 (WAt.below HW4.out hz).2.rd (by have h1 := HPL.out; have h2 := HP40.out; omega)))
        have CB := Lib.hid (fun (z : World) (hz : Below w4.heap.size w4 z) => boundary_any (w.heap.size + 1) v la P a1Addr z (WAt.below HW4.out hz).1 (WAt.below HW4.out hz).2.rd (by have h1 := HPL.out; have h2 := HP40.out; omega))
        have CT := Lib.hid (fun (z : World) (hz : Below w4.heap.size w4 z) => hits_any (.slice A6 pl c6) P 2 a1Addr z (Els.Rd.below HR4.out hz) (by have h1 := HPL.out; have h2 := HP40.out; omega))
        have CA := Lib.hid (fun z => alive49 z)
        have CQ := Lib.hid (fun (z : World) (va vb : Value) (L : List Int) (h : eI.Rd z va L) (h' : eI.Rd z vb L) (hn : L.length ≤ 1000) => (show Calls Try.prog 18 #[va, vb] z (fun e z' => e = .returned (.bool true) ∧ Below z.heap.size z z') from (by have := eqI_b va vb L L z h h' (by omega) (by omega); rwa [beq_self_eq_true] at this)))
        clear x0 x1 x2 x3 x4 x5 x6 x7 x8
        obtain ⟨x0, x1, x2, x3, x4, x5, x6, x7, x8⟩ := Blk.c9 HX4.out
        have S0 : Hid ((fun w' : World => (w'.cell? ⟨w.heap.size, 0, none⟩ = some (.int .u16 a1Addr) ∧ w'.cell? ⟨w.heap.size, 1, none⟩ = some (.int .u8 a1Data) ∧ w'.cell? ⟨w.heap.size, 2, none⟩ = some (.bool true) ∧ w'.cell? ⟨w.heap.size, 3, none⟩ = some (.bool a1BA) ∧ w'.cell? ⟨w.heap.size, 4, none⟩ = some (.bool a1BS) ∧ w'.cell? ⟨w.heap.size, 5, none⟩ = some (.bool a1LIC) ∧ w'.cell? ⟨w.heap.size, 6, none⟩ = some (.bool a1AVMA) ∧ w'.cell? ⟨w.heap.size, 7, none⟩ = some (.bool a1BUSY) ∧ w'.cell? ⟨w.heap.size, 8, none⟩ = some (.bool true))) w4.drew) := Lib.hid (Blk.c9 (Blk.drew HX4.out))
        have HB0 := Lib.hid (Below.refl w4.heap.size w4)
        have HV8 : Hid (eI.Rd w4 v8 (hitsL P 0 a1Addr)) := Lib.hid HO8.out.rd
        refine wp_region_noPanic ?_
        refine wp_region_held_drew (S := (fun w' : World => (w'.cell? ⟨w.heap.size, 0, none⟩ = some (.int .u16 a1Addr) ∧ w'.cell? ⟨w.heap.size, 1, none⟩ = some (.int .u8 a1Data) ∧ w'.cell? ⟨w.heap.size, 2, none⟩ = some (.bool true) ∧ w'.cell? ⟨w.heap.size, 3, none⟩ = some (.bool a1BA) ∧ w'.cell? ⟨w.heap.size, 4, none⟩ = some (.bool a1BS) ∧ w'.cell? ⟨w.heap.size, 5, none⟩ = some (.bool a1LIC) ∧ w'.cell? ⟨w.heap.size, 6, none⟩ = some (.bool a1AVMA) ∧ w'.cell? ⟨w.heap.size, 7, none⟩ = some (.bool a1BUSY) ∧ w'.cell? ⟨w.heap.size, 8, none⟩ = some (.bool true)))) (by kernel_rfl) ?_ (fun hH0 => ?_)
        · (try dsimp only); with_reducible exact S0.out
        refine wpAnyH_take (i := 0) (oi := ({ dst := some 43, op := Op.move (Operand.tmp 5), type := 46, pos := "law.go:96", after := #[], guard := none } : Oper)) (v := ?_) rfl (by kernel_rfl) (by kernel_rfl) (by kernel_rfl) (fun _ _ _ h => h) (Or.inl ⟨by rfl, ?_⟩) (by assumption) ?_
        rotate_left 1
        · (intro w hSw; (try dsimp only at hSw); go_simp; (try with_reducible rfl))
        (try simp only [Act.put, List.setIfInBounds_toArray, List.set_cons_zero, List.set_cons_succ])
        refine wpAnyH_take (i := 1) (oi := ({ dst := some 44, op := Op.load 25 (Operand.tmp 3), type := 25, pos := "law.go:96", after := #[], guard := none } : Oper)) (v := ?_) rfl (by kernel_rfl) (by kernel_rfl) (by kernel_rfl) (fun _ _ _ h => h) (Or.inl ⟨by rfl, ?_⟩) (by assumption) ?_
        rotate_left 1
        · (intro w hSw; (try dsimp only at hSw); go_simp; (try with_reducible rfl))
        (try simp only [Act.put, List.setIfInBounds_toArray, List.set_cons_zero, List.set_cons_succ])
        refine wpAnyH_take (i := 3) (oi := ({ dst := some 46, op := Op.move (Operand.tmp 8), type := 52, pos := "law.go:96", after := #[], guard := none } : Oper)) (v := ?_) rfl (by kernel_rfl) (by kernel_rfl) (by kernel_rfl) (fun _ _ _ h => h) (Or.inl ⟨by rfl, ?_⟩) (by assumption) ?_
        rotate_left 1
        · (intro w hSw; (try dsimp only at hSw); go_simp; (try with_reducible rfl))
        (try simp only [Act.put, List.setIfInBounds_toArray, List.set_cons_zero, List.set_cons_succ])
        refine wpAnyH_ready (rs := [2]) (by kernel_rfl) (by simp) ?_
        refine AllReadyH.cons (o := ({ dst := some 45, op := Op.call { callee := Callee.value (Operand.func 19), args := #[Operand.tmp 43, Operand.tmp 44], argTypes := #[46, 25] }, type := 52, pos := "law.go:96", after := #[{ on := 0, ground := Ground.data }, { on := 1, ground := Ground.data }], guard := none } : Oper)) rfl (fun K hK => ?_) ?_
        rotate_left 1
        · exact AllReadyH.nil
        go_simp
        go_at_call 19
        ((with_reducible refine (CY.out _ (by first | exact HB0.out | exact Below.drew0 HB0.out)).mono ?_); rintro e v1 ⟨va, rfl, hoa, hb⟩; have HB1 := Lib.hid (Below.trans0 (by first | exact HB0.out | exact Below.drew0 HB0.out) hb); have HA1 := Lib.hid hoa.rd; have H81 := Lib.hid (Els.Rd.below HV8.out HB1.out); have S1 := Lib.hid (show (fun w' : World => (w'.cell? ⟨w.heap.size, 0, none⟩ = some (.int .u16 a1Addr) ∧ w'.cell? ⟨w.heap.size, 1, none⟩ = some (.int .u8 a1Data) ∧ w'.cell? ⟨w.heap.size, 2, none⟩ = some (.bool true) ∧ w'.cell? ⟨w.heap.size, 3, none⟩ = some (.bool a1BA) ∧ w'.cell? ⟨w.heap.size, 4, none⟩ = some (.bool a1BS) ∧ w'.cell? ⟨w.heap.size, 5, none⟩ = some (.bool a1LIC) ∧ w'.cell? ⟨w.heap.size, 6, none⟩ = some (.bool a1AVMA) ∧ w'.cell? ⟨w.heap.size, 7, none⟩ = some (.bool a1BUSY) ∧ w'.cell? ⟨w.heap.size, 8, none⟩ = some (.bool true))) v1 from Blk.c9 (Blk.below HX4.out HB1.out HX4.out.lt)); clear hoa hb)
        first | (refine hK.out _ _ ?_ (fun hH1 => ?_)) | (go_wp2_with fail; refine hK.out _ _ ?_ (fun hH1 => ?_))
        · (try dsimp only); with_reducible exact S1.out
        clear hK K hH0
        (try simp only [Act.put, List.setIfInBounds_toArray, List.set_cons_zero, List.set_cons_succ])
        refine wpAnyH_ready (rs := [4]) (by kernel_rfl) (by simp) ?_
        refine AllReadyH.cons (o := ({ dst := some 47, op := Op.call { callee := Callee.value (Operand.func 18), args := #[Operand.tmp 45, Operand.tmp 46], argTypes := #[52, 52] }, type := 4, pos := "law.go:96", after := #[{ on := 2, ground := Ground.data }, { on := 3, ground := Ground.data }, { on := 2, ground := Ground.chain }], guard := none } : Oper)) rfl (fun K hK => ?_) ?_
        rotate_left 1
        · exact AllReadyH.nil
        go_simp
        go_at_call 18
        ((with_reducible refine (CQ.out _ _ _ (hitsL P 0 a1Addr) (by first | exact HA1.out | exact Els.Rd.drew (HA1.out)) (by first | exact H81.out | exact Els.Rd.drew (H81.out)) (by first | exact LH.out _ | simp)).mono ?_); rintro e v2 ⟨rfl, hb⟩; have HB2 := Lib.hid (Below.trans0 (by first | exact HB1.out | exact Below.drew0 HB1.out) hb); have S2 := Lib.hid (show (fun w' : World => (w'.cell? ⟨w.heap.size, 0, none⟩ = some (.int .u16 a1Addr) ∧ w'.cell? ⟨w.heap.size, 1, none⟩ = some (.int .u8 a1Data) ∧ w'.cell? ⟨w.heap.size, 2, none⟩ = some (.bool true) ∧ w'.cell? ⟨w.heap.size, 3, none⟩ = some (.bool a1BA) ∧ w'.cell? ⟨w.heap.size, 4, none⟩ = some (.bool a1BS) ∧ w'.cell? ⟨w.heap.size, 5, none⟩ = some (.bool a1LIC) ∧ w'.cell? ⟨w.heap.size, 6, none⟩ = some (.bool a1AVMA) ∧ w'.cell? ⟨w.heap.size, 7, none⟩ = some (.bool a1BUSY) ∧ w'.cell? ⟨w.heap.size, 8, none⟩ = some (.bool true))) v2 from Blk.c9 (Blk.below HX4.out HB2.out HX4.out.lt)); clear hb)
        first | (refine hK.out _ _ ?_ (fun hH2 => ?_)) | (go_wp2_with fail; refine hK.out _ _ ?_ (fun hH2 => ?_))
        · (try dsimp only); with_reducible exact S2.out
        clear hK K hH1
        (try simp only [Act.put, List.setIfInBounds_toArray, List.set_cons_zero, List.set_cons_succ])
        refine wpAnyH_take (i := 5) (oi := ({ dst := some 48, op := Op.move (Operand.tmp 47), type := 4, pos := "law.go:96", after := #[{ on := 4, ground := Ground.data }, { on := 4, ground := Ground.chain }], guard := none } : Oper)) (v := ?_) rfl (by kernel_rfl) (by kernel_rfl) (by kernel_rfl) (fun _ _ _ h => h) (Or.inl ⟨by rfl, ?_⟩) (by assumption) ?_
        rotate_left 1
        · (intro w hSw; (try dsimp only at hSw); go_simp; (try with_reducible rfl))
        (try simp only [Act.put, List.setIfInBounds_toArray, List.set_cons_zero, List.set_cons_succ])
        refine wpAnyH_take (i := 6) (oi := ({ dst := some 49, op := Op.move (Operand.tmp 5), type := 46, pos := "law.go:96", after := #[{ on := 5, ground := Ground.guard }], guard := some (5, true) } : Oper)) (v := ?_) rfl (by kernel_rfl) (by kernel_rfl) (by kernel_rfl) (fun _ _ _ h => h) (Or.inl ⟨by rfl, ?_⟩) (by assumption) ?_
        rotate_left 1
        · (intro w hSw; (try dsimp only at hSw); go_simp; (try with_reducible rfl))
        (try simp only [Act.put, List.setIfInBounds_toArray, List.set_cons_zero, List.set_cons_succ])
        refine wpAnyH_take (i := 7) (oi := ({ dst := some 50, op := Op.fieldAddr 25 (Operand.tmp 3) 0, type := 0, pos := "law.go:96", after := #[{ on := 5, ground := Ground.guard }], guard := some (5, true) } : Oper)) (v := ?_) rfl (by kernel_rfl) (by kernel_rfl) (by kernel_rfl) (fun _ _ _ h => h) (Or.inl ⟨by rfl, ?_⟩) (by assumption) ?_
        rotate_left 1
        · (intro w hSw; (try dsimp only at hSw); go_simp; (try with_reducible rfl))
        (try simp only [Act.put, List.setIfInBounds_toArray, List.set_cons_zero, List.set_cons_succ])
        refine wpAnyH_take (i := 8) (oi := ({ dst := some 51, op := Op.load 23 (Operand.tmp 50), type := 23, pos := "law.go:96", after := #[{ on := 7, ground := Ground.data }, { on := 5, ground := Ground.guard }], guard := some (5, true) } : Oper)) (v := ?_) rfl (by kernel_rfl) (by kernel_rfl) (by kernel_rfl) (fun _ _ _ h => h) (Or.inl ⟨by rfl, ?_⟩) (by assumption) ?_
        rotate_left 1
        · (intro w hSw; (try dsimp only at hSw); go_simp; (try with_reducible rfl))
        (try simp only [Act.put, List.setIfInBounds_toArray, List.set_cons_zero, List.set_cons_succ])
        refine wpAnyH_take (i := 10) (oi := ({ dst := some 53, op := Op.move (Operand.tmp 6), type := 47, pos := "law.go:96", after := #[{ on := 5, ground := Ground.guard }], guard := some (5, true) } : Oper)) (v := ?_) rfl (by kernel_rfl) (by kernel_rfl) (by kernel_rfl) (fun _ _ _ h => h) (Or.inl ⟨by rfl, ?_⟩) (by assumption) ?_
        rotate_left 1
        · (intro w hSw; (try dsimp only at hSw); go_simp; (try with_reducible rfl))
        (try simp only [Act.put, List.setIfInBounds_toArray, List.set_cons_zero, List.set_cons_succ])
        refine wpAnyH_take (i := 11) (oi := ({ dst := some 54, op := Op.fieldAddr 25 (Operand.tmp 3) 0, type := 0, pos := "law.go:96", after := #[{ on := 5, ground := Ground.guard }], guard := some (5, true) } : Oper)) (v := ?_) rfl (by kernel_rfl) (by kernel_rfl) (by kernel_rfl) (fun _ _ _ h => h) (Or.inl ⟨by rfl, ?_⟩) (by assumption) ?_
        rotate_left 1
        · (intro w hSw; (try dsimp only at hSw); go_simp; (try with_reducible rfl))
        (try simp only [Act.put, List.setIfInBounds_toArray, List.set_cons_zero, List.set_cons_succ])
        refine wpAnyH_take (i := 12) (oi := ({ dst := some 55, op := Op.load 23 (Operand.tmp 54), type := 23, pos := "law.go:96", after := #[{ on := 11, ground := Ground.data }, { on := 5, ground := Ground.guard }], guard := some (5, true) } : Oper)) (v := ?_) rfl (by kernel_rfl) (by kernel_rfl) (by kernel_rfl) (fun _ _ _ h => h) (Or.inl ⟨by rfl, ?_⟩) (by assumption) ?_
        rotate_left 1
        · (intro w hSw; (try dsimp only at hSw); go_simp; (try with_reducible rfl))
        (try simp only [Act.put, List.setIfInBounds_toArray, List.set_cons_zero, List.set_cons_succ])
        refine wpAnyH_ready (rs := [9]) (by kernel_rfl) (by simp) ?_
        refine AllReadyH.cons (o := ({ dst := some 52, op := Op.call { callee := Callee.value (Operand.func 20), args := #[Operand.tmp 49, Operand.tmp 51], argTypes := #[46, 23] }, type := 52, pos := "law.go:96", after := #[{ on := 6, ground := Ground.data }, { on := 8, ground := Ground.data }, { on := 5, ground := Ground.chain }, { on := 5, ground := Ground.guard }], guard := some (5, true) } : Oper)) rfl (fun K hK => ?_) ?_
        rotate_left 1
        · exact AllReadyH.nil
        go_simp
        go_at_call 20
        ((with_reducible refine (CB.out _ (by first | exact HB2.out | exact Below.drew0 HB2.out)).mono ?_); rintro e v3 ⟨vb, rfl, hob, hb⟩; have HB3 := Lib.hid (Below.trans0 (by first | exact HB2.out | exact Below.drew0 HB2.out) hb); have HA3 := Lib.hid hob.rd; have S3 := Lib.hid (show (fun w' : World => (w'.cell? ⟨w.heap.size, 0, none⟩ = some (.int .u16 a1Addr) ∧ w'.cell? ⟨w.heap.size, 1, none⟩ = some (.int .u8 a1Data) ∧ w'.cell? ⟨w.heap.size, 2, none⟩ = some (.bool true) ∧ w'.cell? ⟨w.heap.size, 3, none⟩ = some (.bool a1BA) ∧ w'.cell? ⟨w.heap.size, 4, none⟩ = some (.bool a1BS) ∧ w'.cell? ⟨w.heap.size, 5, none⟩ = some (.bool a1LIC) ∧ w'.cell? ⟨w.heap.size, 6, none⟩ = some (.bool a1AVMA) ∧ w'.cell? ⟨w.heap.size, 7, none⟩ = some (.bool a1BUSY) ∧ w'.cell? ⟨w.heap.size, 8, none⟩ = some (.bool true))) v3 from Blk.c9 (Blk.below HX4.out HB3.out HX4.out.lt)); clear hob hb)
        first | (refine hK.out _ _ ?_ (fun hH3 => ?_)) | (go_wp2_with fail; refine hK.out _ _ ?_ (fun hH3 => ?_))
        · (try dsimp only); with_reducible exact S3.out
        clear hK K hH2
        (try simp only [Act.put, List.setIfInBounds_toArray, List.set_cons_zero, List.set_cons_succ])
        refine wpAnyH_ready (rs := [13]) (by kernel_rfl) (by simp) ?_
        refine AllReadyH.cons (o := ({ dst := some 56, op := Op.call { callee := Callee.value (Operand.func 17), args := #[Operand.tmp 53, Operand.const (Value.int IntKind.i64 2), Operand.tmp 55], argTypes := #[47, 3, 23] }, type := 52, pos := "law.go:96", after := #[{ on := 10, ground := Ground.data }, { on := 12, ground := Ground.data }, { on := 9, ground := Ground.chain }, { on := 5, ground := Ground.guard }], guard := some (5, true) } : Oper)) rfl (fun K hK => ?_) ?_
        rotate_left 1
        · exact AllReadyH.nil
        go_simp
        go_at_call 17
        ((with_reducible refine (CT.out _ (by first | exact HB3.out | exact Below.drew0 HB3.out)).mono ?_); rintro e v4 ⟨vc, rfl, hoc, hb⟩; have HB4' := Lib.hid (Below.trans0 (by first | exact HB3.out | exact Below.drew0 HB3.out) hb); have HA4 := Lib.hid (Els.Rd.below HA3.out (by first | exact hb | exact Below.drew0 hb)); have HC4 := Lib.hid hoc.rd; have S4 := Lib.hid (show (fun w' : World => (w'.cell? ⟨w.heap.size, 0, none⟩ = some (.int .u16 a1Addr) ∧ w'.cell? ⟨w.heap.size, 1, none⟩ = some (.int .u8 a1Data) ∧ w'.cell? ⟨w.heap.size, 2, none⟩ = some (.bool true) ∧ w'.cell? ⟨w.heap.size, 3, none⟩ = some (.bool a1BA) ∧ w'.cell? ⟨w.heap.size, 4, none⟩ = some (.bool a1BS) ∧ w'.cell? ⟨w.heap.size, 5, none⟩ = some (.bool a1LIC) ∧ w'.cell? ⟨w.heap.size, 6, none⟩ = some (.bool a1AVMA) ∧ w'.cell? ⟨w.heap.size, 7, none⟩ = some (.bool a1BUSY) ∧ w'.cell? ⟨w.heap.size, 8, none⟩ = some (.bool true))) v4 from Blk.c9 (Blk.below HX4.out HB4'.out HX4.out.lt)); clear hoc hb)
        first | (refine hK.out _ _ ?_ (fun hH4 => ?_)) | (go_wp2_with fail; refine hK.out _ _ ?_ (fun hH4 => ?_))
        · (try dsimp only); with_reducible exact S4.out
        clear hK K hH3
        (try simp only [Act.put, List.setIfInBounds_toArray, List.set_cons_zero, List.set_cons_succ])
        refine wpAnyH_ready (rs := [14]) (by kernel_rfl) (by simp) ?_
        refine AllReadyH.cons (o := ({ dst := some 57, op := Op.call { callee := Callee.value (Operand.func 18), args := #[Operand.tmp 52, Operand.tmp 56], argTypes := #[52, 52] }, type := 4, pos := "law.go:96", after := #[{ on := 9, ground := Ground.data }, { on := 13, ground := Ground.data }, { on := 13, ground := Ground.chain }, { on := 5, ground := Ground.guard }], guard := some (5, true) } : Oper)) rfl (fun K hK => ?_) ?_
        rotate_left 1
        · exact AllReadyH.nil
        go_simp
        go_at_call 18
        ((with_reducible refine (CQ.out _ _ _ (hitsL P 2 a1Addr) (by first | exact HA4.out | exact Els.Rd.drew (HA4.out)) (by first | exact HC4.out | exact Els.Rd.drew (HC4.out)) (LH.out _)).mono ?_); rintro e v5 ⟨rfl, hb⟩; have HB5 := Lib.hid (Below.trans0 (by first | exact HB4'.out | exact Below.drew0 HB4'.out) hb); have S5 := Lib.hid (show (fun w' : World => (w'.cell? ⟨w.heap.size, 0, none⟩ = some (.int .u16 a1Addr) ∧ w'.cell? ⟨w.heap.size, 1, none⟩ = some (.int .u8 a1Data) ∧ w'.cell? ⟨w.heap.size, 2, none⟩ = some (.bool true) ∧ w'.cell? ⟨w.heap.size, 3, none⟩ = some (.bool a1BA) ∧ w'.cell? ⟨w.heap.size, 4, none⟩ = some (.bool a1BS) ∧ w'.cell? ⟨w.heap.size, 5, none⟩ = some (.bool a1LIC) ∧ w'.cell? ⟨w.heap.size, 6, none⟩ = some (.bool a1AVMA) ∧ w'.cell? ⟨w.heap.size, 7, none⟩ = some (.bool a1BUSY) ∧ w'.cell? ⟨w.heap.size, 8, none⟩ = some (.bool true))) v5 from Blk.c9 (Blk.below HX4.out HB5.out HX4.out.lt)); clear hb)
        first | (refine hK.out _ _ ?_ (fun hH5 => ?_)) | (go_wp2_with fail; refine hK.out _ _ ?_ (fun hH5 => ?_))
        · (try dsimp only); with_reducible exact S5.out
        clear hK K hH4
        (try simp only [Act.put, List.setIfInBounds_toArray, List.set_cons_zero, List.set_cons_succ])
        refine wpAnyH_take (i := 15) (oi := ({ dst := some 58, op := Op.pick (Operand.tmp 48) (Operand.tmp 57) (Operand.const (Value.bool false)), type := 4, pos := "law.go:96", after := #[{ on := 5, ground := Ground.data }, { on := 14, ground := Ground.data }], guard := none } : Oper)) (v := ?_) rfl (by kernel_rfl) (by kernel_rfl) (by kernel_rfl) (fun _ _ _ h => h) (Or.inl ⟨by rfl, ?_⟩) (by assumption) ?_
        rotate_left 1
        · (intro w hSw; (try dsimp only at hSw); go_simp; (try with_reducible rfl))
        (try simp only [Act.put, List.setIfInBounds_toArray, List.set_cons_zero, List.set_cons_succ])
        refine wpAnyH_take (i := 16) (oi := ({ dst := some 59, op := Op.move (Operand.tmp 58), type := 4, pos := "law.go:96", after := #[{ on := 15, ground := Ground.data }, { on := 14, ground := Ground.chain }], guard := none } : Oper)) (v := ?_) rfl (by kernel_rfl) (by kernel_rfl) (by kernel_rfl) (fun _ _ _ h => h) (Or.inl ⟨by rfl, ?_⟩) (by assumption) ?_
        rotate_left 1
        · (intro w hSw; (try dsimp only at hSw); go_simp; (try with_reducible rfl))
        (try simp only [Act.put, List.setIfInBounds_toArray, List.set_cons_zero, List.set_cons_succ])
        refine wpAnyH_ready (rs := [17]) (by kernel_rfl) (by simp) ?_
        refine AllReadyH.cons (o := ({ dst := some 60, op := Op.call { callee := Callee.value (Operand.func 21), args := #[], argTypes := #[] }, type := 4, pos := "law.go:96", after := #[{ on := 16, ground := Ground.chain }, { on := 16, ground := Ground.guard }], guard := some (16, true) } : Oper)) rfl (fun K hK => ?_) ?_
        rotate_left 1
        · exact AllReadyH.nil
        go_simp
        go_at_call 21
        ((with_reducible refine (CA.out _).mono ?_); rintro e v6 ⟨rfl, hb⟩; have HB6 := Lib.hid (Below.trans0 (by first | exact HB5.out | exact Below.drew0 HB5.out) hb); have S6 := Lib.hid (show (fun w' : World => (w'.cell? ⟨w.heap.size, 0, none⟩ = some (.int .u16 a1Addr) ∧ w'.cell? ⟨w.heap.size, 1, none⟩ = some (.int .u8 a1Data) ∧ w'.cell? ⟨w.heap.size, 2, none⟩ = some (.bool true) ∧ w'.cell? ⟨w.heap.size, 3, none⟩ = some (.bool a1BA) ∧ w'.cell? ⟨w.heap.size, 4, none⟩ = some (.bool a1BS) ∧ w'.cell? ⟨w.heap.size, 5, none⟩ = some (.bool a1LIC) ∧ w'.cell? ⟨w.heap.size, 6, none⟩ = some (.bool a1AVMA) ∧ w'.cell? ⟨w.heap.size, 7, none⟩ = some (.bool a1BUSY) ∧ w'.cell? ⟨w.heap.size, 8, none⟩ = some (.bool true))) v6 from Blk.c9 (Blk.below HX4.out HB6.out HX4.out.lt)); clear hb)
        first | (refine hK.out _ _ ?_ (fun hH6 => ?_)) | (go_wp2_with fail; refine hK.out _ _ ?_ (fun hH6 => ?_))
        · (try dsimp only); with_reducible exact S6.out
        clear hK K hH5
        (try simp only [Act.put, List.setIfInBounds_toArray, List.set_cons_zero, List.set_cons_succ])
        refine wpAnyH_take (i := 18) (oi := ({ dst := some 61, op := Op.pick (Operand.tmp 59) (Operand.tmp 60) (Operand.const (Value.bool false)), type := 4, pos := "law.go:96", after := #[{ on := 16, ground := Ground.data }, { on := 17, ground := Ground.data }], guard := none } : Oper)) (v := ?_) rfl (by kernel_rfl) (by kernel_rfl) (by kernel_rfl) (fun _ _ _ h => h) (Or.inl ⟨by rfl, ?_⟩) (by assumption) ?_
        rotate_left 1
        · (intro w hSw; (try dsimp only at hSw); go_simp; (try with_reducible rfl))
        (try simp only [Act.put, List.setIfInBounds_toArray, List.set_cons_zero, List.set_cons_succ])
        refine wpAnyH_take (i := 19) (oi := ({ dst := some 4, op := Op.assign (Operand.tmp 61), type := 4, pos := "law.go:96", after := #[{ on := 18, ground := Ground.data }, { on := 17, ground := Ground.chain }, { on := 0, ground := Ground.phase }, { on := 1, ground := Ground.phase }, { on := 2, ground := Ground.phase }, { on := 3, ground := Ground.phase }, { on := 4, ground := Ground.phase }, { on := 5, ground := Ground.phase }, { on := 6, ground := Ground.phase }, { on := 7, ground := Ground.phase }, { on := 8, ground := Ground.phase }, { on := 9, ground := Ground.phase }, { on := 10, ground := Ground.phase }, { on := 11, ground := Ground.phase }, { on := 12, ground := Ground.phase }, { on := 13, ground := Ground.phase }, { on := 14, ground := Ground.phase }, { on := 15, ground := Ground.phase }, { on := 16, ground := Ground.phase }, { on := 17, ground := Ground.phase }, { on := 18, ground := Ground.phase }], guard := none } : Oper)) (v := ?_) rfl (by kernel_rfl) (by kernel_rfl) (by kernel_rfl) (fun _ _ _ h => h) (Or.inl ⟨by rfl, ?_⟩) (by assumption) ?_
        rotate_left 1
        · (intro w hSw; (try dsimp only at hSw); go_simp; (try with_reducible rfl))
        (try simp only [Act.put, List.setIfInBounds_toArray, List.set_cons_zero, List.set_cons_succ])
        refine wpAnyH_done (by kernel_rfl) ?_ _
        refine NoPanic.normal ?_
        have HF := Lib.hid (Below.trans0 B4.out (by first | exact HB6.out | exact Below.drew0 HB6.out))
        go_wp2
        go_ret
        exact ⟨rfl, by first | exact HF.out | exact Below.drew0 HF.out⟩
  · have h40' : ¬ ((len0 : Nat) : Int) ≤ 40 := by omega
    go_enter Try.func5, Try.ntmps5
    go_wp2
    go_ret
    exact ⟨rfl, B1.out⟩

set_option maxRecDepth 100000 in
theorem lifted (os : Os) (started : os.Started) (H : Type) (enc : TypeId × Value → H) :
    ReturnsInHanded {} Try.checked os 5 .any (Rows.watchPointsSpec.pre6 enc Try.prog Try.f5 Rows.watchPointsRow.domain false) (Rows.watchPointsSpec.post enc Try.prog Try.f5 false true false false) := by
  refine returnsInHanded_of_change (C := Try.checked) own started (by kernel_rfl) Try.func5
    (ChangeSpec.witness6 (enc := enc) (C := Try.checked) false ⟨#[], #[.slice none 0 0, .agg #[.int .u16 0, .int .u8 0, .bool false, .bool false, .bool false, .bool false, .bool false, .bool false, .bool false]], []⟩ 8 (by kernel_rfl) (by kernel_rfl) (by kernel_rfl) (by kernel_rfl)) ?_
  intro W base args ds gs before hval0 hW hcnd _
  have hval : ∀ (j : Nat) t v, Try.f5.params[j]? = some t → args[j]? = some v → Value.okWide Try.prog W .any base t v := hval0
  have hW' := hW
  obtain ⟨p, q, hA0, hV, rfl, hfz, hnd⟩ := hW
  have hA : DataW.TrodAll enc Try.prog W 0 (fun _ => true) true Try.f5.params.toList args.toList ds p := hA0
  rw [Try.params5] at hA hval
  obtain ⟨v0, vs0, d0, ds0, p0, q0, hargs, rfl, rfl, h0, r0⟩ := trodAll_cons hA
  obtain ⟨v1, vs1, d1, ds1, p1, q1, rfl, rfl, rfl, h1, r1⟩ := trodAll_cons r0
  obtain ⟨rfl, rfl, rfl⟩ := trodAll_nil r1
  obtain rfl : args = #[v0, v1] := by cases args; simp_all
  obtain ⟨rfl, rfl⟩ := trodVars_none hV
  obtain ⟨a0, len0, cap0, rfl⟩ := okWide_slice Try.underlying45 (hval 0 45 v0 rfl rfl)
  have k0 := h0
  have lt0 : ∀ x ∈ p0, x.block < W.heap.size := by obtain ⟨m, hm⟩ := k0; exact DataW.trod_lt m _ _ _ hm
  obtain ⟨z0, w0⟩ : ∃ zs, eO.In (fun _ => True) W a0 len0 cap0 zs := by
    obtain ⟨fuel, hf⟩ := h0
    exact open_ops49 hf
  have k1 := h1
  have lt1 : ∀ x ∈ p1, x.block < W.heap.size := by obtain ⟨m, hm⟩ := k1; exact DataW.trod_lt m _ _ _ hm
  obtain ⟨a1Addr, a1Data, a1Read, a1BA, a1BS, a1LIC, a1AVMA, a1BUSY, a1Mine, rfl, w1⟩ := open25 (hval 1 25 v1 rfl rfl) h1
  clear hA0 hval0
  refine (walk a0 len0 cap0 z0 a1Addr a1Data a1Read a1BA a1BS a1LIC a1AVMA a1BUSY a1Mine W w0 w1).mono fun e W' ⟨he, bel⟩ => ?_
  subst he
  exact ⟨_, rfl, _, _, _, [], _, [], hW', trodAll_mk1 (shut_bool Try.underlying4 _), (trodAll_cons_mk (Below.trod laidOut (by kernel_rfl) (of_decide_eq_true (by kernel_rfl)) k0 bel lt0) (trodAll_cons_mk (Below.trod laidOut (by kernel_rfl) (of_decide_eq_true (by kernel_rfl)) k1 bel lt1) trodAll_mk0)), rfl, bel.frame _, fun h => by cases h⟩

theorem over : Rows.watchPointsRow.holds Try.pinned (OpenSpec.ofChange Rows.watchPointsSpec) :=
  OpenClaim.holds_of_wide 5 Try.f5 rfl rfl rfl rfl rfl rfl rfl ⟨rfl, rfl, rfl, rfl, rfl⟩ rfl rfl rfl rfl rfl (by kernel_rfl) Try.func5 (by kernel_rfl)
    (of_decide_eq_true (by kernel_rfl)) (by unfold Func.isWrapper; first | (rw [if_pos (by decide +kernel)]; kernel_rfl) | (rw [if_neg (by decide +kernel)]; exact ⟨rfl, rfl⟩))
    (fun os started H enc _ => lifted os started H enc)

theorem proved : Rows.WatchPointsSaid := over
#print axioms proved
end Go.Proofs.Yteaajmoclgfhnaa.watchPoints
