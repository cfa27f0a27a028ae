/- The law FrameBytes answers true for every input, and each argument reads afterwards as it read before. Conditions: none. -/
import Derived.Test.YtfjkbjkbpbnalabDoorRows
import Derived.WalkKit
import Derived.ProofKit
import Derived.OpenShut
import Derived.ShutString
import Derived.ChangeOld
import Derived.Below
import Derived.Test.YtfjkbjkbpbnalabDoorFrL
import Derived.Test.YtfjkbjkbpbnalabDoorLrg
import Derived.LaidMore
import Derived.Test.YtfjkbjkbpbnalabDoorCards
import Derived.Test.YtfjkbjkbpbnalabDoorTie
import Derived.LaidMore
import Derived.Stop.Joined
import Derived.SevenTiedAt
namespace Go.Proofs.YtfjkbjkbpbnalabDoor.frameBytes
open Go.ChangeShapes Go.WideShapes Go.ChangeAt Go.RowKit
open Go.ChangeMaps (open_string shut_string)
set_option linter.unusedVariables false

theorem own : ownKnob Tryd.prog.godebug = none := by kernel_rfl
theorem laidOut : laidOutB Tryd.prog = true := by kernel_rfl

theorem arr24 {cs : Array Value} (h : cs.size = 9) : ∃ c0 c1 c2 c3 c4 c5 c6 c7 c8 : Value, cs = #[c0, c1, c2, c3, c4, c5, c6, c7, c8] := by
  obtain ⟨l⟩ := cs
  match l, h with
  | [c0, c1, c2, c3, c4, c5, c6, c7, c8], _ => exact ⟨c0, c1, c2, c3, c4, c5, c6, c7, c8, rfl⟩
theorem cellsOf24_5 : Tryd.prog.cellsOf 5 = 1 := by kernel_rfl
theorem cellsOf24_22 : Tryd.prog.cellsOf 22 = 1 := by kernel_rfl
theorem cellsOf24_24 : Tryd.prog.cellsOf 24 = 9 := by kernel_rfl
set_option maxRecDepth 100000 in
theorem open24 {H : Type} {enc : TypeId × Value → H} {W : World} {b0 base : Nat} {sp : Nat → Bool} {held : Bool} {v : Value} {d : DataW H} {p : List MemPlace} (hv : Value.okWide Tryd.prog W .any b0 24 v) (h : DataW.Trod enc Tryd.prog W base sp held 24 v d p) :
    ∃ (xA : Int) (xB : Int) (xDP : Int) (xCC : Int) (xX : Int) (xY : Int) (xU : Int) (xS : Int) (xPC : Int), v = .agg #[.int .u8 xA, .int .u8 xB, .int .u8 xDP, .int .u8 xCC, .int .u16 xX, .int .u16 xY, .int .u16 xU, .int .u16 xS, .int .u16 xPC] ∧ (Lit.int .u8 xA).wf = true ∧ (Lit.int .u8 xB).wf = true ∧ (Lit.int .u8 xDP).wf = true ∧ (Lit.int .u8 xCC).wf = true ∧ (Lit.int .u16 xX).wf = true ∧ (Lit.int .u16 xY).wf = true ∧ (Lit.int .u16 xU).wf = true ∧ (Lit.int .u16 xS).wf = true ∧ (Lit.int .u16 xPC).wf = true := by
  obtain ⟨cs, rfl, hsz⟩ := okWide_struct Tryd.underlying24 hv
  obtain ⟨c0, c1, c2, c3, c4, c5, c6, c7, c8, rfl⟩ := arr24 (hsz.trans cellsOf24_24)
  obtain ⟨fuel, hf⟩ := h
  obtain ⟨xs0, n0, _, _, _, hl0, hg0⟩ := DataW.trod_struct Tryd.underlying24 hf
  have g0_0 : DataW.trod enc Tryd.prog W base sp held n0 5 (([c0, c1, c2, c3, c4, c5, c6, c7, c8].drop 0).take (Tryd.prog.cellsOf 5)) = xs0[0]? := hg0 0 _ rfl
  rw [List.getElem?_eq_getElem (show 0 < xs0.length by rw [hl0]; decide)] at g0_0
  rw [cellsOf24_5] at g0_0
  obtain ⟨y0, e0_0, _, w0⟩ := DataW.trod_int Tryd.underlying5 g0_0
  have E0 : c0 = .int .u8 y0 := by simpa [Value.cells] using e0_0
  have g0_1 : DataW.trod enc Tryd.prog W base sp held n0 5 (([c0, c1, c2, c3, c4, c5, c6, c7, c8].drop 1).take (Tryd.prog.cellsOf 5)) = xs0[1]? := hg0 1 _ rfl
  rw [List.getElem?_eq_getElem (show 1 < xs0.length by rw [hl0]; decide)] at g0_1
  rw [cellsOf24_5] at g0_1
  obtain ⟨y1, e0_1, _, w1⟩ := DataW.trod_int Tryd.underlying5 g0_1
  have E1 : c1 = .int .u8 y1 := by simpa [Value.cells] using e0_1
  have g0_2 : DataW.trod enc Tryd.prog W base sp held n0 5 (([c0, c1, c2, c3, c4, c5, c6, c7, c8].drop 2).take (Tryd.prog.cellsOf 5)) = xs0[2]? := hg0 2 _ rfl
  rw [List.getElem?_eq_getElem (show 2 < xs0.length by rw [hl0]; decide)] at g0_2
  rw [cellsOf24_5] at g0_2
  obtain ⟨y2, e0_2, _, w2⟩ := DataW.trod_int Tryd.underlying5 g0_2
  have E2 : c2 = .int .u8 y2 := by simpa [Value.cells] using e0_2
  have g0_3 : DataW.trod enc Tryd.prog W base sp held n0 5 (([c0, c1, c2, c3, c4, c5, c6, c7, c8].drop 3).take (Tryd.prog.cellsOf 5)) = xs0[3]? := hg0 3 _ rfl
  rw [List.getElem?_eq_getElem (show 3 < xs0.length by rw [hl0]; decide)] at g0_3
  rw [cellsOf24_5] at g0_3
  obtain ⟨y3, e0_3, _, w3⟩ := DataW.trod_int Tryd.underlying5 g0_3
  have E3 : c3 = .int .u8 y3 := by simpa [Value.cells] using e0_3
  have g0_4 : DataW.trod enc Tryd.prog W base sp held n0 22 (([c0, c1, c2, c3, c4, c5, c6, c7, c8].drop 4).take (Tryd.prog.cellsOf 22)) = xs0[4]? := hg0 4 _ rfl
  rw [List.getElem?_eq_getElem (show 4 < xs0.length by rw [hl0]; decide)] at g0_4
  rw [cellsOf24_22] at g0_4
  obtain ⟨y4, e0_4, _, w4⟩ := DataW.trod_int Tryd.underlying22 g0_4
  have E4 : c4 = .int .u16 y4 := by simpa [Value.cells] using e0_4
  have g0_5 : DataW.trod enc Tryd.prog W base sp held n0 22 (([c0, c1, c2, c3, c4, c5, c6, c7, c8].drop 5).take (Tryd.prog.cellsOf 22)) = xs0[5]? := hg0 5 _ rfl
  rw [List.getElem?_eq_getElem (show 5 < xs0.length by rw [hl0]; decide)] at g0_5
  rw [cellsOf24_22] at g0_5
  obtain ⟨y5, e0_5, _, w5⟩ := DataW.trod_int Tryd.underlying22 g0_5
  have E5 : c5 = .int .u16 y5 := by simpa [Value.cells] using e0_5
  have g0_6 : DataW.trod enc Tryd.prog W base sp held n0 22 (([c0, c1, c2, c3, c4, c5, c6, c7, c8].drop 6).take (Tryd.prog.cellsOf 22)) = xs0[6]? := hg0 6 _ rfl
  rw [List.getElem?_eq_getElem (show 6 < xs0.length by rw [hl0]; decide)] at g0_6
  rw [cellsOf24_22] at g0_6
  obtain ⟨y6, e0_6, _, w6⟩ := DataW.trod_int Tryd.underlying22 g0_6
  have E6 : c6 = .int .u16 y6 := by simpa [Value.cells] using e0_6
  have g0_7 : DataW.trod enc Tryd.prog W base sp held n0 22 (([c0, c1, c2, c3, c4, c5, c6, c7, c8].drop 7).take (Tryd.prog.cellsOf 22)) = xs0[7]? := hg0 7 _ rfl
  rw [List.getElem?_eq_getElem (show 7 < xs0.length by rw [hl0]; decide)] at g0_7
  rw [cellsOf24_22] at g0_7
  obtain ⟨y7, e0_7, _, w7⟩ := DataW.trod_int Tryd.underlying22 g0_7
  have E7 : c7 = .int .u16 y7 := by simpa [Value.cells] using e0_7
  have g0_8 : DataW.trod enc Tryd.prog W base sp held n0 22 (([c0, c1, c2, c3, c4, c5, c6, c7, c8].drop 8).take (Tryd.prog.cellsOf 22)) = xs0[8]? := hg0 8 _ rfl
  rw [List.getElem?_eq_getElem (show 8 < xs0.length by rw [hl0]; decide)] at g0_8
  rw [cellsOf24_22] at g0_8
  obtain ⟨y8, e0_8, _, w8⟩ := DataW.trod_int Tryd.underlying22 g0_8
  have E8 : c8 = .int .u16 y8 := by simpa [Value.cells] using e0_8
  subst E0 E1 E2 E3 E4 E5 E6 E7 E8
  exact ⟨y0, y1, y2, y3, y4, y5, y6, y7, y8, rfl, w0, w1, w2, w3, w4, w5, w6, w7, w8⟩

theorem arr26 {cs : Array Value} (h : cs.size = 4) : ∃ c0 c1 c2 c3 : Value, cs = #[c0, c1, c2, c3] := by
  obtain ⟨l⟩ := cs
  match l, h with
  | [c0, c1, c2, c3], _ => exact ⟨c0, c1, c2, c3, rfl⟩
theorem cellsOf26_4 : Tryd.prog.cellsOf 4 = 1 := by kernel_rfl
theorem cellsOf26_5 : Tryd.prog.cellsOf 5 = 1 := by kernel_rfl
theorem cellsOf26_22 : Tryd.prog.cellsOf 22 = 1 := by kernel_rfl
theorem cellsOf26_26 : Tryd.prog.cellsOf 26 = 4 := by kernel_rfl
set_option maxRecDepth 100000 in
theorem open26 {H : Type} {enc : TypeId × Value → H} {W : World} {b0 base : Nat} {sp : Nat → Bool} {held : Bool} {v : Value} {d : DataW H} {p : List MemPlace} (hv : Value.okWide Tryd.prog W .any b0 26 v) (h : DataW.Trod enc Tryd.prog W base sp held 26 v d p) :
    ∃ (xPushed : Int) (xThen : Int) (xVector : Int) (xWhole : Bool), v = .agg #[.int .u8 xPushed, .int .u8 xThen, .int .u16 xVector, .bool xWhole] ∧ (Lit.int .u8 xPushed).wf = true ∧ (Lit.int .u8 xThen).wf = true ∧ (Lit.int .u16 xVector).wf = true := by
  obtain ⟨cs, rfl, hsz⟩ := okWide_struct Tryd.underlying26 hv
  obtain ⟨c0, c1, c2, c3, rfl⟩ := arr26 (hsz.trans cellsOf26_26)
  obtain ⟨fuel, hf⟩ := h
  obtain ⟨xs0, n0, _, _, _, hl0, hg0⟩ := DataW.trod_struct Tryd.underlying26 hf
  have g0_0 : DataW.trod enc Tryd.prog W base sp held n0 5 (([c0, c1, c2, c3].drop 0).take (Tryd.prog.cellsOf 5)) = xs0[0]? := hg0 0 _ rfl
  rw [List.getElem?_eq_getElem (show 0 < xs0.length by rw [hl0]; decide)] at g0_0
  rw [cellsOf26_5] at g0_0
  obtain ⟨y0, e0_0, _, w0⟩ := DataW.trod_int Tryd.underlying5 g0_0
  have E0 : c0 = .int .u8 y0 := by simpa [Value.cells] using e0_0
  have g0_1 : DataW.trod enc Tryd.prog W base sp held n0 5 (([c0, c1, c2, c3].drop 1).take (Tryd.prog.cellsOf 5)) = xs0[1]? := hg0 1 _ rfl
  rw [List.getElem?_eq_getElem (show 1 < xs0.length by rw [hl0]; decide)] at g0_1
  rw [cellsOf26_5] at g0_1
  obtain ⟨y1, e0_1, _, w1⟩ := DataW.trod_int Tryd.underlying5 g0_1
  have E1 : c1 = .int .u8 y1 := by simpa [Value.cells] using e0_1
  have g0_2 : DataW.trod enc Tryd.prog W base sp held n0 22 (([c0, c1, c2, c3].drop 2).take (Tryd.prog.cellsOf 22)) = xs0[2]? := hg0 2 _ rfl
  rw [List.getElem?_eq_getElem (show 2 < xs0.length by rw [hl0]; decide)] at g0_2
  rw [cellsOf26_22] at g0_2
  obtain ⟨y2, e0_2, _, w2⟩ := DataW.trod_int Tryd.underlying22 g0_2
  have E2 : c2 = .int .u16 y2 := by simpa [Value.cells] using e0_2
  have g0_3 : DataW.trod enc Tryd.prog W base sp held n0 4 (([c0, c1, c2, c3].drop 3).take (Tryd.prog.cellsOf 4)) = xs0[3]? := hg0 3 _ rfl
  rw [List.getElem?_eq_getElem (show 3 < xs0.length by rw [hl0]; decide)] at g0_3
  rw [cellsOf26_4] at g0_3
  obtain ⟨y3, e0_3, _⟩ := DataW.trod_bool Tryd.underlying4 g0_3
  have E3 : c3 = .bool y3 := by simpa [Value.cells] using e0_3
  subst E0 E1 E2 E3
  exact ⟨y0, y1, y2, y3, rfl, w0, w1, w2⟩

set_option maxRecDepth 100000 in
set_option maxHeartbeats 1000000 in
theorem walk (a0A : Int) (a0B : Int) (a0DP : Int) (a0CC : Int) (a0X : Int) (a0Y : Int) (a0U : Int) (a0S : Int) (a0PC : Int) (a1Pushed : Int) (a1Then : Int) (a1Vector : Int) (a1Whole : Bool) (a2 : Option Addr) (len2 cap2 : Nat) (z2 : List Int) (w : World) (w0 : (Lit.int .u8 a0A).wf = true ∧ (Lit.int .u8 a0B).wf = true ∧ (Lit.int .u8 a0DP).wf = true ∧ (Lit.int .u8 a0CC).wf = true ∧ (Lit.int .u16 a0X).wf = true ∧ (Lit.int .u16 a0Y).wf = true ∧ (Lit.int .u16 a0U).wf = true ∧ (Lit.int .u16 a0S).wf = true ∧ (Lit.int .u16 a0PC).wf = true) (w1 : (Lit.int .u8 a1Pushed).wf = true ∧ (Lit.int .u8 a1Then).wf = true ∧ (Lit.int .u16 a1Vector).wf = true) (w2 : IsRow .u8 w a2 len2 cap2 z2) (hL : laidMetH Tryd.prog Rows.frameBytesRow.laid w) :
    Calls Tryd.prog 3 #[.agg #[.int .u8 a0A, .int .u8 a0B, .int .u8 a0DP, .int .u8 a0CC, .int .u16 a0X, .int .u16 a0Y, .int .u16 a0U, .int .u16 a0S, .int .u16 a0PC], .agg #[.int .u8 a1Pushed, .int .u8 a1Then, .int .u16 a1Vector, .bool a1Whole], .slice a2 len2 cap2] w fun e w' => e = .returned (.bool true) ∧ Below w.heap.size w w' := by
  obtain ⟨p0, p1, p2, p3, p4, p5, p6, p7, p8⟩ := w0
  have hv := bounds_u8 w1.1
  obtain ⟨xs, hx, hm⟩ := Ints.of_row w2
  exact law_frb ⟨a0A, a0B, a0DP, a0CC, a0X, a0Y, a0U, a0S, a0PC⟩ (rg_ok p0 p1 p2 p3 p4 p5 p6 p7 p8) a1Pushed a1Then a1Vector hv.1 (by omega) a1Whole a2 len2 cap2 xs w hx (lregAt_of_laid hL)

theorem door_met (os : Os) (args : Array Value) : laidMetH Tryd.prog Rows.frameBytesRow.laid ((World.doorLaid Tryd.prog 39 os).forCall (fun _ _ => 0) ⟨#[], args, []⟩).memory :=
  laidMetH_of_parts3 (fuel := 8) (laidMet_of_run' 8 (by kernel_rfl) (by kernel_rfl)) (by kernel_rfl) (by kernel_rfl)

set_option maxRecDepth 100000 in
theorem lifted (os : Os) (started : os.Started) (H : Type) (enc : TypeId × Value → H) :
    ReturnsInHanded {} Tryd.checked os 3 .any (fun w args => (Rows.frameBytesSpec.pre enc Tryd.prog Tryd.f3 Rows.frameBytesRow.domain false w args ∧ laidMetH Tryd.prog Rows.frameBytesRow.laid w) ∧ sizedMet enc Tryd.prog Tryd.f3 (OpenSpec.ofChange Rows.frameBytesSpec) false w args) (Rows.frameBytesSpec.post enc Tryd.prog Tryd.f3 false true false false) := by
  refine returnsInHanded_of_change_and (C := Tryd.checked) (X := fun w _ => laidMetH Tryd.prog Rows.frameBytesRow.laid w) (fun _ _ _ hh h => h.of_heap hh) own started (by kernel_rfl) Tryd.func3
    (ChangeSpec.witness_shaped (enc := enc) (C := Tryd.checked) (os := os) (X := fun w _ => laidMetH Tryd.prog Rows.frameBytesRow.laid w) false (World.doorLaid Tryd.prog 39 os) #[.agg #[.int .u8 0, .int .u8 0, .int .u8 0, .int .u8 0, .int .u16 0, .int .u16 0, .int .u16 0, .int .u16 0, .int .u16 0], .agg #[.int .u8 0, .int .u8 0, .int .u16 0, .bool false], .slice none 0 0] 8 rfl (World.shaped_of_RefB (by kernel_rfl) (by kernel_rfl)) (by kernel_rfl) (by kernel_rfl) (by kernel_rfl) (door_met os _)) ?_
  intro W base args ds gs before hval0 hW _ hZ hL _
  have hval : ∀ (j : Nat) t v, Tryd.f3.params[j]? = some t → args[j]? = some v → Value.okWide Tryd.prog W .any base t v := hval0
  have hW' := hW
  obtain ⟨p, q, hA0, hV, rfl, hfz, hnd⟩ := hW
  have hA : DataW.TrodAll enc Tryd.prog W 0 (fun _ => true) true Tryd.f3.params.toList args.toList ds p := hA0
  rw [Tryd.params3] at hA hval
  obtain ⟨v0, vs0, d0, ds0, p0, q0, hargs, rfl, rfl, h0, r0⟩ := trodAll_cons hA
  obtain ⟨v1, vs1, d1, ds1, p1, q1, rfl, rfl, rfl, h1, r1⟩ := trodAll_cons r0
  obtain ⟨v2, vs2, d2, ds2, p2, q2, rfl, rfl, rfl, h2, r2⟩ := trodAll_cons r1
  obtain ⟨rfl, rfl, rfl⟩ := trodAll_nil r2
  obtain rfl : args = #[v0, v1, v2] := by cases args; simp_all
  obtain ⟨rfl, rfl⟩ := trodVars_none hV
  have k0 := h0
  have lt0 : ∀ x ∈ p0, x.block < W.heap.size := by obtain ⟨m, hm⟩ := k0; exact DataW.trod_lt m _ _ _ hm
  obtain ⟨a0A, a0B, a0DP, a0CC, a0X, a0Y, a0U, a0S, a0PC, rfl, w0⟩ := open24 (hval 0 24 v0 rfl rfl) h0
  have k1 := h1
  have lt1 : ∀ x ∈ p1, x.block < W.heap.size := by obtain ⟨m, hm⟩ := k1; exact DataW.trod_lt m _ _ _ hm
  obtain ⟨a1Pushed, a1Then, a1Vector, a1Whole, rfl, w1⟩ := open26 (hval 1 26 v1 rfl rfl) h1
  obtain ⟨a2, len2, cap2, rfl⟩ := okWide_slice Tryd.underlying27 (hval 2 27 v2 rfl rfl)
  have k2 := h2
  have lt2 : ∀ x ∈ p2, x.block < W.heap.size := by obtain ⟨m, hm⟩ := k2; exact DataW.trod_lt m _ _ _ hm
  obtain ⟨z2, w2⟩ : ∃ zs, IsRow .u8 W a2 len2 cap2 zs := by
    obtain ⟨fuel, hf⟩ := h2
    rcases open_ints Tryd.underlying27 Tryd.underlying5 (by kernel_rfl) hf with ⟨hcs, _⟩ | ⟨x, l, c, zs, hcs, _, hl, hm, hz, _, hcell, hwz⟩
    · simp [Value.cells] at hcs
      obtain ⟨rfl, rfl, rfl⟩ := hcs
      exact ⟨[], .inl ⟨rfl, rfl, rfl, rfl⟩⟩
    · simp [Value.cells] at hcs
      obtain ⟨rfl, rfl, rfl⟩ := hcs
      exact ⟨zs, .inr ⟨_, rfl, hl, hm, by simpa using hz, hcell, hwz⟩⟩
  clear hA0 hval0
  refine (walk a0A a0B a0DP a0CC a0X a0Y a0U a0S a0PC a1Pushed a1Then a1Vector a1Whole a2 len2 cap2 z2 W w0 w1 w2 hL).mono fun e W' ⟨he, bel⟩ => ?_
  subst he
  exact ⟨_, rfl, _, _, _, [], _, [], hW', trodAll_mk1 (shut_bool Tryd.underlying4 _), (trodAll_cons_mk (Below.trod laidOut (by kernel_rfl) (of_decide_eq_true (by kernel_rfl)) k0 bel lt0) (trodAll_cons_mk (Below.trod laidOut (by kernel_rfl) (of_decide_eq_true (by kernel_rfl)) k1 bel lt1) (trodAll_cons_mk (Below.trod laidOut (by kernel_rfl) (of_decide_eq_true (by kernel_rfl)) k2 bel lt2) trodAll_mk0))), rfl, bel.frame _, fun h => by cases h⟩

theorem over : Rows.frameBytesRow.holds Tryd.pinned (OpenSpec.ofChange Rows.frameBytesSpec) :=
  OpenClaim.holds_of_wide 3 Tryd.f3 rfl rfl rfl rfl rfl rfl rfl ⟨rfl, rfl, rfl, rfl, rfl⟩ rfl rfl rfl rfl rfl (by kernel_rfl) Tryd.func3 (by kernel_rfl)
    (of_decide_eq_true (by kernel_rfl)) (by unfold Func.isWrapper; first | (rw [if_pos (by decide +kernel)]; kernel_rfl) | (rw [if_neg (by decide +kernel)]; exact ⟨rfl, rfl⟩))
    (fun os started H enc _ => lifted os started H enc)

theorem proved : Rows.FrameBytesCardSaid :=
  Claim7.holds_tied_plain_at .later [] [.data] true (true, "027c5ca8a7d89dd0b9671d9de85a80bde5db05447ac45aa120fb99d2c104131d") false
    over (fun _ h => by cases h) (by kernel_rfl) (fun _ h => by cases h) frameBytes_row_tie rfl ⟨rfl, rfl⟩ (by kernel_rfl) rfl
    (fun f fn hf hfn => by
      obtain rfl : f = 3 := Option.some.inj ((show Tryd.prog.funcNamed "spinet/spinetlaw25.FrameBytes" = some 3 by kernel_rfl).symm.trans hf) |>.symm
      obtain rfl : fn = Tryd.f3 := (Option.some.inj (Tryd.func3.symm.trans hfn)).symm
      exact ⟨by kernel_rfl, fun j t ht => by
        rw [Tryd.params3] at ht
        have hm : t ∈ [24, 26, 27] := by have := Array.mem_of_getElem? ht; simp at this ⊢; omega
        have hall : ([24, 26, 27].all fun u => !Tryd.prog.wantsStandIn u) = true := by kernel_rfl
        exact (show Tryd.prog.wantsStandIn t = false by simpa using List.all_eq_true.1 hall t hm)⟩)
    (by kernel_rfl)
#print axioms proved
end Go.Proofs.YtfjkbjkbpbnalabDoor.frameBytes
