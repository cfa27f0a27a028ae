/- The law IndexInsts answers true for every input, and each argument reads afterwards as it read before. Conditions: none. -/
import Derived.Test.YtoogaenknjdpcacDoorRows
import Derived.WalkKit
import Derived.ProofKit
import Derived.OpenShut
import Derived.ShutString
import Derived.ChangeOld
import Derived.Below
import Derived.Test.YtoogaenknjdpcacDoorIdxK
import Derived.Test.YtoogaenknjdpcacDoorRow0
import Derived.Test.YtoogaenknjdpcacDoorKnd
import Derived.LaidMore
import Derived.SizedLaws
import Derived.Test.YtoogaenknjdpcacDoorCards
import Derived.Test.YtoogaenknjdpcacDoorTie
import Derived.LaidMore
import Derived.Stop.Joined
import Derived.SevenTiedAt
namespace Go.Proofs.YtoogaenknjdpcacDoor.indexInsts
open Go.ChangeShapes Go.WideShapes Go.ChangeAt Go.RowKit
open Go.ChangeMaps (open_string shut_string)
set_option linter.unusedVariables false

theorem own : ownKnob Tryd.prog.godebug = none := by kernel_rfl
theorem laidOut : laidOutB Tryd.prog = true := by kernel_rfl

theorem arr34 {cs : Array Value} (h : cs.size = 9) : ∃ c0 c1 c2 c3 c4 c5 c6 c7 c8 : Value, cs = #[c0, c1, c2, c3, c4, c5, c6, c7, c8] := by
  obtain ⟨l⟩ := cs
  match l, h with
  | [c0, c1, c2, c3, c4, c5, c6, c7, c8], _ => exact ⟨c0, c1, c2, c3, c4, c5, c6, c7, c8, rfl⟩
theorem cellsOf34_5 : Tryd.prog.cellsOf 5 = 1 := by kernel_rfl
theorem cellsOf34_32 : Tryd.prog.cellsOf 32 = 1 := by kernel_rfl
theorem cellsOf34_34 : Tryd.prog.cellsOf 34 = 9 := by kernel_rfl
set_option maxRecDepth 100000 in
theorem open34 {H : Type} {enc : TypeId × Value → H} {W : World} {b0 base : Nat} {sp : Nat → Bool} {held : Bool} {v : Value} {d : DataW H} {p : List MemPlace} (hv : Value.okWide Tryd.prog W .any b0 34 v) (h : DataW.Trod enc Tryd.prog W base sp held 34 v d p) :
    ∃ (xA : Int) (xB : Int) (xDP : Int) (xCC : Int) (xX : Int) (xY : Int) (xU : Int) (xS : Int) (xPC : Int), v = .agg #[.int .u8 xA, .int .u8 xB, .int .u8 xDP, .int .u8 xCC, .int .u16 xX, .int .u16 xY, .int .u16 xU, .int .u16 xS, .int .u16 xPC] ∧ (Lit.int .u8 xA).wf = true ∧ (Lit.int .u8 xB).wf = true ∧ (Lit.int .u8 xDP).wf = true ∧ (Lit.int .u8 xCC).wf = true ∧ (Lit.int .u16 xX).wf = true ∧ (Lit.int .u16 xY).wf = true ∧ (Lit.int .u16 xU).wf = true ∧ (Lit.int .u16 xS).wf = true ∧ (Lit.int .u16 xPC).wf = true := by
  obtain ⟨cs, rfl, hsz⟩ := okWide_struct Tryd.underlying34 hv
  obtain ⟨c0, c1, c2, c3, c4, c5, c6, c7, c8, rfl⟩ := arr34 (hsz.trans cellsOf34_34)
  obtain ⟨fuel, hf⟩ := h
  obtain ⟨xs0, n0, _, _, _, hl0, hg0⟩ := DataW.trod_struct Tryd.underlying34 hf
  have g0_0 : DataW.trod enc Tryd.prog W base sp held n0 5 (([c0, c1, c2, c3, c4, c5, c6, c7, c8].drop 0).take (Tryd.prog.cellsOf 5)) = xs0[0]? := hg0 0 _ rfl
  rw [List.getElem?_eq_getElem (show 0 < xs0.length by rw [hl0]; decide)] at g0_0
  rw [cellsOf34_5] at g0_0
  obtain ⟨y0, e0_0, _, w0⟩ := DataW.trod_int Tryd.underlying5 g0_0
  have E0 : c0 = .int .u8 y0 := by simpa [Value.cells] using e0_0
  have g0_1 : DataW.trod enc Tryd.prog W base sp held n0 5 (([c0, c1, c2, c3, c4, c5, c6, c7, c8].drop 1).take (Tryd.prog.cellsOf 5)) = xs0[1]? := hg0 1 _ rfl
  rw [List.getElem?_eq_getElem (show 1 < xs0.length by rw [hl0]; decide)] at g0_1
  rw [cellsOf34_5] at g0_1
  obtain ⟨y1, e0_1, _, w1⟩ := DataW.trod_int Tryd.underlying5 g0_1
  have E1 : c1 = .int .u8 y1 := by simpa [Value.cells] using e0_1
  have g0_2 : DataW.trod enc Tryd.prog W base sp held n0 5 (([c0, c1, c2, c3, c4, c5, c6, c7, c8].drop 2).take (Tryd.prog.cellsOf 5)) = xs0[2]? := hg0 2 _ rfl
  rw [List.getElem?_eq_getElem (show 2 < xs0.length by rw [hl0]; decide)] at g0_2
  rw [cellsOf34_5] at g0_2
  obtain ⟨y2, e0_2, _, w2⟩ := DataW.trod_int Tryd.underlying5 g0_2
  have E2 : c2 = .int .u8 y2 := by simpa [Value.cells] using e0_2
  have g0_3 : DataW.trod enc Tryd.prog W base sp held n0 5 (([c0, c1, c2, c3, c4, c5, c6, c7, c8].drop 3).take (Tryd.prog.cellsOf 5)) = xs0[3]? := hg0 3 _ rfl
  rw [List.getElem?_eq_getElem (show 3 < xs0.length by rw [hl0]; decide)] at g0_3
  rw [cellsOf34_5] at g0_3
  obtain ⟨y3, e0_3, _, w3⟩ := DataW.trod_int Tryd.underlying5 g0_3
  have E3 : c3 = .int .u8 y3 := by simpa [Value.cells] using e0_3
  have g0_4 : DataW.trod enc Tryd.prog W base sp held n0 32 (([c0, c1, c2, c3, c4, c5, c6, c7, c8].drop 4).take (Tryd.prog.cellsOf 32)) = xs0[4]? := hg0 4 _ rfl
  rw [List.getElem?_eq_getElem (show 4 < xs0.length by rw [hl0]; decide)] at g0_4
  rw [cellsOf34_32] at g0_4
  obtain ⟨y4, e0_4, _, w4⟩ := DataW.trod_int Tryd.underlying32 g0_4
  have E4 : c4 = .int .u16 y4 := by simpa [Value.cells] using e0_4
  have g0_5 : DataW.trod enc Tryd.prog W base sp held n0 32 (([c0, c1, c2, c3, c4, c5, c6, c7, c8].drop 5).take (Tryd.prog.cellsOf 32)) = xs0[5]? := hg0 5 _ rfl
  rw [List.getElem?_eq_getElem (show 5 < xs0.length by rw [hl0]; decide)] at g0_5
  rw [cellsOf34_32] at g0_5
  obtain ⟨y5, e0_5, _, w5⟩ := DataW.trod_int Tryd.underlying32 g0_5
  have E5 : c5 = .int .u16 y5 := by simpa [Value.cells] using e0_5
  have g0_6 : DataW.trod enc Tryd.prog W base sp held n0 32 (([c0, c1, c2, c3, c4, c5, c6, c7, c8].drop 6).take (Tryd.prog.cellsOf 32)) = xs0[6]? := hg0 6 _ rfl
  rw [List.getElem?_eq_getElem (show 6 < xs0.length by rw [hl0]; decide)] at g0_6
  rw [cellsOf34_32] at g0_6
  obtain ⟨y6, e0_6, _, w6⟩ := DataW.trod_int Tryd.underlying32 g0_6
  have E6 : c6 = .int .u16 y6 := by simpa [Value.cells] using e0_6
  have g0_7 : DataW.trod enc Tryd.prog W base sp held n0 32 (([c0, c1, c2, c3, c4, c5, c6, c7, c8].drop 7).take (Tryd.prog.cellsOf 32)) = xs0[7]? := hg0 7 _ rfl
  rw [List.getElem?_eq_getElem (show 7 < xs0.length by rw [hl0]; decide)] at g0_7
  rw [cellsOf34_32] at g0_7
  obtain ⟨y7, e0_7, _, w7⟩ := DataW.trod_int Tryd.underlying32 g0_7
  have E7 : c7 = .int .u16 y7 := by simpa [Value.cells] using e0_7
  have g0_8 : DataW.trod enc Tryd.prog W base sp held n0 32 (([c0, c1, c2, c3, c4, c5, c6, c7, c8].drop 8).take (Tryd.prog.cellsOf 32)) = xs0[8]? := hg0 8 _ rfl
  rw [List.getElem?_eq_getElem (show 8 < xs0.length by rw [hl0]; decide)] at g0_8
  rw [cellsOf34_32] at g0_8
  obtain ⟨y8, e0_8, _, w8⟩ := DataW.trod_int Tryd.underlying32 g0_8
  have E8 : c8 = .int .u16 y8 := by simpa [Value.cells] using e0_8
  subst E0 E1 E2 E3 E4 E5 E6 E7 E8
  exact ⟨y0, y1, y2, y3, y4, y5, y6, y7, y8, rfl, w0, w1, w2, w3, w4, w5, w6, w7, w8⟩

set_option maxRecDepth 100000 in
set_option maxHeartbeats 1000000 in
theorem walk (a0 : Option Addr) (len0 cap0 : Nat) (z0 : List Int) (a1A : Int) (a1B : Int) (a1DP : Int) (a1CC : Int) (a1X : Int) (a1Y : Int) (a1U : Int) (a1S : Int) (a1PC : Int) (a2 : Int) (w : World) (w0 : IsRow .u8 w a0 len0 cap0 z0) (w1 : (Lit.int .u8 a1A).wf = true ∧ (Lit.int .u8 a1B).wf = true ∧ (Lit.int .u8 a1DP).wf = true ∧ (Lit.int .u8 a1CC).wf = true ∧ (Lit.int .u16 a1X).wf = true ∧ (Lit.int .u16 a1Y).wf = true ∧ (Lit.int .u16 a1U).wf = true ∧ (Lit.int .u16 a1S).wf = true ∧ (Lit.int .u16 a1PC).wf = true) (w2 : (Lit.int .u16 a2).wf = true) (hL : laidMetH Tryd.prog Rows.indexInstsRow.laid w) (q0 : cap0 ≤ 140737488351232) :
    Calls Tryd.prog 6 #[.slice a0 len0 cap0, .agg #[.int .u8 a1A, .int .u8 a1B, .int .u8 a1DP, .int .u8 a1CC, .int .u16 a1X, .int .u16 a1Y, .int .u16 a1U, .int .u16 a1S, .int .u16 a1PC], .int .u16 a2] w fun e w' => e = .returned (.bool true) ∧ Below w.heap.size w w' := by
  -- reach 0
  obtain ⟨xs, hI, hm⟩ := Ints.of_row w0
  obtain ⟨p0, p1, p2, p3, p4, p5, p6, p7, p8⟩ := w1
  have hl := w0.le_cap
  exact law_insts a0 len0 cap0 xs ⟨a1A, a1B, a1DP, a1CC, a1X, a1Y, a1U, a1S, a1PC⟩ (rg_ok p0 p1 p2 p3 p4 p5 p6 p7 p8) a2 w hI w0.none0 (by omega) (kindsAt_of_laid hL)

theorem door_met (os : Os) (args : Array Value) : laidMetH Tryd.prog Rows.indexInstsRow.laid ((World.doorLaid Tryd.prog 34 os).forCall (fun _ _ => 0) ⟨#[], args, []⟩).memory :=
  laidMetH_of_parts3 (fuel := 8) (laidMet_of_run' 8 (by kernel_rfl) (by kernel_rfl)) (by kernel_rfl) (by kernel_rfl)

set_option maxRecDepth 100000 in
theorem lifted (os : Os) (started : os.Started) (H : Type) (enc : TypeId × Value → H) :
    ReturnsInHanded {} Tryd.checked os 6 .any (fun w args => (Rows.indexInstsSpec.pre enc Tryd.prog Tryd.f6 Rows.indexInstsRow.domain false w args ∧ laidMetH Tryd.prog Rows.indexInstsRow.laid w) ∧ sizedMet enc Tryd.prog Tryd.f6 (OpenSpec.ofChange Rows.indexInstsSpec) false w args) (Rows.indexInstsSpec.post enc Tryd.prog Tryd.f6 false true false false) := by
  refine returnsInHanded_of_change_and (C := Tryd.checked) (X := fun w _ => laidMetH Tryd.prog Rows.indexInstsRow.laid w) (fun _ _ _ hh h => h.of_heap hh) own started (by kernel_rfl) Tryd.func6
    (ChangeSpec.witness_shaped (enc := enc) (C := Tryd.checked) (os := os) (X := fun w _ => laidMetH Tryd.prog Rows.indexInstsRow.laid w) false (World.doorLaid Tryd.prog 34 os) #[.slice none 0 0, .agg #[.int .u8 0, .int .u8 0, .int .u8 0, .int .u8 0, .int .u16 0, .int .u16 0, .int .u16 0, .int .u16 0, .int .u16 0], .int .u16 0] 8 rfl (World.shaped_of_RefB (by kernel_rfl) (by kernel_rfl)) (by kernel_rfl) (by kernel_rfl) (by kernel_rfl) (door_met os _)) ?_
  intro W base args ds gs before hval0 hW _ hZ hL _
  have hval : ∀ (j : Nat) t v, Tryd.f6.params[j]? = some t → args[j]? = some v → Value.okWide Tryd.prog W .any base t v := hval0
  have hW' := hW
  obtain ⟨p, q, hA0, hV, rfl, hfz, hnd⟩ := hW
  have hA : DataW.TrodAll enc Tryd.prog W 0 (fun _ => true) true Tryd.f6.params.toList args.toList ds p := hA0
  rw [Tryd.params6] at hA hval
  obtain ⟨v0, vs0, d0, ds0, p0, q0, hargs, rfl, rfl, h0, r0⟩ := trodAll_cons hA
  obtain ⟨v1, vs1, d1, ds1, p1, q1, rfl, rfl, rfl, h1, r1⟩ := trodAll_cons r0
  obtain ⟨v2, vs2, d2, ds2, p2, q2, rfl, rfl, rfl, h2, r2⟩ := trodAll_cons r1
  obtain ⟨rfl, rfl, rfl⟩ := trodAll_nil r2
  obtain rfl : args = #[v0, v1, v2] := by cases args; simp_all
  obtain ⟨rfl, rfl⟩ := trodVars_none hV
  obtain ⟨a0, len0, cap0, rfl⟩ := okWide_slice Tryd.underlying45 (hval 0 45 v0 rfl rfl)
  have k0 := h0
  have lt0 : ∀ x ∈ p0, x.block < W.heap.size := by obtain ⟨m, hm⟩ := k0; exact DataW.trod_lt m _ _ _ hm
  obtain ⟨z0, w0, q0⟩ : ∃ zs, IsRow .u8 W a0 len0 cap0 zs ∧ cap0 ≤ 140737488351232 := by
    obtain ⟨fuel, hf⟩ := h0
    rcases open_ints Tryd.underlying45 Tryd.underlying5 (by kernel_rfl) hf with ⟨hcs, _⟩ | ⟨x, l, c, zs, hcs, _, hl, hm, hz, hx, hcell, hwz⟩
    · simp [Value.cells] at hcs
      obtain ⟨rfl, rfl, rfl⟩ := hcs
      exact ⟨[], .inl ⟨rfl, rfl, rfl, rfl⟩, by decide⟩
    · simp [Value.cells] at hcs
      obtain ⟨rfl, rfl, rfl⟩ := hcs
      refine ⟨zs, .inr ⟨_, rfl, hl, hm, by simpa using hz, hcell, hwz⟩, ?_⟩
      have hs := sized_slice hZ (j := 0) rfl (congrArg some (congrArg Prod.fst hx)) Tryd.underlying45
      have hbe : Tryd.checked.prog.bytesOf 5 = 1 := by kernel_rfl
      rw [hbe] at hs
      have hz' : zs.length = cap0 := by simpa using hz
      simp [lits] at hs
      have hr : reachBytes = 140737488351232 := by decide
      rw [hr] at hs
      omega
  have k1 := h1
  have lt1 : ∀ x ∈ p1, x.block < W.heap.size := by obtain ⟨m, hm⟩ := k1; exact DataW.trod_lt m _ _ _ hm
  obtain ⟨a1A, a1B, a1DP, a1CC, a1X, a1Y, a1U, a1S, a1PC, rfl, w1⟩ := open34 (hval 1 34 v1 rfl rfl) h1
  obtain ⟨a2, rfl, rfl, rfl, w2⟩ := open_int Tryd.underlying32 (hval 2 32 v2 rfl rfl) h2
  clear hA0 hval0
  refine (walk a0 len0 cap0 z0 a1A a1B a1DP a1CC a1X a1Y a1U a1S a1PC a2 W w0 w1 w2 hL q0).mono fun e W' ⟨he, bel⟩ => ?_
  subst he
  exact ⟨_, rfl, _, _, _, [], _, [], hW', trodAll_mk1 (shut_bool Tryd.underlying4 _), (trodAll_cons_mk (Below.trod laidOut (by kernel_rfl) (of_decide_eq_true (by kernel_rfl)) k0 bel lt0) (trodAll_cons_mk (Below.trod laidOut (by kernel_rfl) (of_decide_eq_true (by kernel_rfl)) k1 bel lt1) (trodAll_cons_mk (shut_int Tryd.underlying32 w2) trodAll_mk0))), rfl, bel.frame _, fun h => by cases h⟩

theorem over : Rows.indexInstsRow.holds Tryd.pinned (OpenSpec.ofChange Rows.indexInstsSpec) :=
  OpenClaim.holds_of_wide 6 Tryd.f6 rfl rfl rfl rfl rfl rfl rfl ⟨rfl, rfl, rfl, rfl, rfl⟩ rfl rfl rfl rfl rfl (by kernel_rfl) Tryd.func6 (by kernel_rfl)
    (of_decide_eq_true (by kernel_rfl)) (by unfold Func.isWrapper; first | (rw [if_pos (by decide +kernel)]; kernel_rfl) | (rw [if_neg (by decide +kernel)]; exact ⟨rfl, rfl⟩))
    (fun os started H enc _ => lifted os started H enc)

theorem proved : Rows.IndexInstsCardSaid :=
  Claim7.holds_tied_plain_at .later [] [.data] true (true, "07047a1cc7011093a05a3ee1934ea1140914b4f64a9415f89ed2cf363b1aeeba") false
    over (fun _ h => by cases h) (by kernel_rfl) (fun _ h => by cases h) indexInsts_row_tie rfl ⟨rfl, rfl⟩ (by kernel_rfl) rfl
    (fun f fn hf hfn => by
      obtain rfl : f = 6 := Option.some.inj ((show Tryd.prog.funcNamed "spinet/spinetlaw20.IndexInsts" = some 6 by kernel_rfl).symm.trans hf) |>.symm
      obtain rfl : fn = Tryd.f6 := (Option.some.inj (Tryd.func6.symm.trans hfn)).symm
      exact ⟨by kernel_rfl, fun j t ht => by
        rw [Tryd.params6] at ht
        have hm : t ∈ [45, 34, 32] := by have := Array.mem_of_getElem? ht; simp at this ⊢; omega
        have hall : ([45, 34, 32].all fun u => !Tryd.prog.wantsStandIn u) = true := by kernel_rfl
        exact (show Tryd.prog.wantsStandIn t = false by simpa using List.all_eq_true.1 hall t hm)⟩)
    (by kernel_rfl)
#print axioms proved
end Go.Proofs.YtoogaenknjdpcacDoor.indexInsts
