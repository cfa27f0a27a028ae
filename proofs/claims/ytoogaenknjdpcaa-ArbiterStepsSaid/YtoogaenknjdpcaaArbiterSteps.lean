/- The law ArbiterSteps answers true for every input, and each argument reads afterwards as it read before. Conditions: none. -/
import Derived.Test.YtoogaenknjdpcaaRows
import Derived.WalkKit
import Derived.ProofKit
import Derived.OpenShut
import Derived.ShutString
import Derived.ChangeOld
import Derived.Below
import Derived.Test.YtoogaenknjdpcaaArb
namespace Go.Proofs.Ytoogaenknjdpcaa.arbiterSteps
open Go.ChangeShapes Go.WideShapes Go.ChangeAt Go.RowKit
open Go.ChangeMaps (open_string shut_string)
set_option linter.unusedVariables false

theorem own : ownKnob Try.prog.godebug = none := by kernel_rfl
theorem laidOut : laidOutB Try.prog = true := by kernel_rfl

theorem arr40 {cs : Array Value} (h : cs.size = 2) : ∃ c0 c1 : Value, cs = #[c0, c1] := by
  obtain ⟨l⟩ := cs
  match l, h with
  | [c0, c1], _ => exact ⟨c0, c1, rfl⟩
theorem cellsOf40_3 : Try.prog.cellsOf 3 = 1 := by kernel_rfl
theorem cellsOf40_40 : Try.prog.cellsOf 40 = 2 := by kernel_rfl
set_option maxRecDepth 100000 in
theorem open40 {H : Type} {enc : TypeId × Value → H} {W : World} {b0 base : Nat} {sp : Nat → Bool} {held : Bool} {v : Value} {d : DataW H} {p : List MemPlace} (hv : Value.okWide Try.prog W .any b0 40 v) (h : DataW.Trod enc Try.prog W base sp held 40 v d p) :
    ∃ (xPhase : Int) (xCount : Int), v = .agg #[.int .i64 xPhase, .int .i64 xCount] ∧ (Lit.int .i64 xPhase).wf = true ∧ (Lit.int .i64 xCount).wf = true := by
  obtain ⟨cs, rfl, hsz⟩ := okWide_struct Try.underlying40 hv
  obtain ⟨c0, c1, rfl⟩ := arr40 (hsz.trans cellsOf40_40)
  obtain ⟨fuel, hf⟩ := h
  obtain ⟨xs0, n0, _, _, _, hl0, hg0⟩ := DataW.trod_struct Try.underlying40 hf
  have g0_0 : DataW.trod enc Try.prog W base sp held n0 3 (([c0, c1].drop 0).take (Try.prog.cellsOf 3)) = xs0[0]? := hg0 0 _ rfl
  rw [List.getElem?_eq_getElem (show 0 < xs0.length by rw [hl0]; decide)] at g0_0
  rw [cellsOf40_3] at g0_0
  obtain ⟨y0, e0_0, _, w0⟩ := DataW.trod_int Try.underlying3 g0_0
  have E0 : c0 = .int .i64 y0 := by simpa [Value.cells] using e0_0
  have g0_1 : DataW.trod enc Try.prog W base sp held n0 3 (([c0, c1].drop 1).take (Try.prog.cellsOf 3)) = xs0[1]? := hg0 1 _ rfl
  rw [List.getElem?_eq_getElem (show 1 < xs0.length by rw [hl0]; decide)] at g0_1
  rw [cellsOf40_3] at g0_1
  obtain ⟨y1, e0_1, _, w1⟩ := DataW.trod_int Try.underlying3 g0_1
  have E1 : c1 = .int .i64 y1 := by simpa [Value.cells] using e0_1
  subst E0 E1
  exact ⟨y0, y1, rfl, w0, w1⟩

set_option maxRecDepth 100000 in
set_option maxHeartbeats 1000000 in
theorem walk (a0 : Int) (a1Phase : Int) (a1Count : Int) (a2 : Bool) (w : World) (w0 : (Lit.int .i64 a0).wf = true) (w1 : (Lit.int .i64 a1Phase).wf = true ∧ (Lit.int .i64 a1Count).wf = true) :
    Calls Try.prog 7 #[.int .i64 a0, .agg #[.int .i64 a1Phase, .int .i64 a1Count], .bool a2] w fun e w' => e = .returned (.bool true) ∧ Below w.heap.size w w' := by
  by_cases hk : a0 = 0 ∨ a0 = 1
  · obtain ⟨d, hd⟩ : ∃ d : Bool, a0 = kd d := by
      rcases hk with rfl | rfl
      · exact ⟨false, rfl⟩
      · exact ⟨true, rfl⟩
    have HE := eql_ar
    have CR0 := fun w => arRight_any d a1Phase a1Count w
    rw [← hd] at CR0
    have CR := Lib.hid CR0
    have P0 : Hid (Blk (w.alloc (Obj.cells #[.int .i64 a1Phase, .int .i64 a1Count] 40)) w.heap.size 40 (arA a1Phase a1Count)) := Lib.hid (Blk.new _ _ _ (0, 0))
    have B0 := Lib.hid (Below.alloc0 (Below.refl w.heap.size w) (Obj.cells #[.int .i64 a1Phase, .int .i64 a1Count] 40))
    clear CR0 hk
    by_cases hR : arR d a1Phase a1Count = true
    · have ok := arR_ok _ _ _ hR
      have hN := arN_ok d (a1Phase, a1Count) a2 ok
      have CN := fun w => arNext_any d a1Phase a1Count a2 ok w
      have CF := fun w => refNext30_any d a1Phase a1Count a2 ok w
      obtain ⟨P, hP⟩ : ∃ P, arN d (a1Phase, a1Count) a2 = P := ⟨_, rfl⟩
      obtain ⟨u, hu⟩ : ∃ u, arW d (a1Phase, a1Count) a2 = u := ⟨_, rfl⟩
      simp only [hP, hu] at CN CF
      rw [hP] at hN
      obtain ⟨p, q⟩ := P
      have CR2 := fun w => arRight_any d p q w
      rw [arR_of d p q hN] at CR2
      rw [hR] at CR
      rw [← hd] at CN CF CR2
      have DN := Lib.hid CN
      have DF := Lib.hid CF
      have DR := Lib.hid CR2
      have cs := ar_cases d a1Phase a1Count ok
      have K0 : a0 = 0 ∧ d = false ∨ a0 = 1 ∧ d = true := by rw [hd]; cases d <;> simp [kd]
      have cs2 : (a0 = 0 ∧ a1Phase = 0 ∧ a1Count = 0) ∨ (a0 = 1 ∧ a1Phase = 0 ∧ a1Count = 0) ∨ (a0 = 1 ∧ a1Phase = 1 ∧ a1Count = 0) ∨ (a0 = 1 ∧ a1Phase = 1 ∧ 0 < a1Count ∧ a1Count ≤ 15) ∨ (a0 = 1 ∧ a1Phase = 2 ∧ a1Count = 0) := by
        rcases K0 with ⟨h, rfl⟩ | ⟨h, rfl⟩ <;> simp at cs <;> omega
      clear hd hR ok hN CN CF hP hu CR2 cs K0
      have e1 : (p == p && q == q) = true := by simp
      have e2 : (p == p) = true := by simp
      have e3 : (q == q) = true := by simp
      have e4 : (u == u) = true := by simp
      rcases cs2 with ⟨rfl, rfl, rfl⟩ | ⟨rfl, rfl, rfl⟩ | ⟨rfl, rfl, rfl⟩ | ⟨rfl, rfl, c0, c1⟩ | ⟨rfl, rfl, rfl⟩
      · go_enter Try.func7, Try.ntmps7
        go_wp2_with fail
        refine (CR.out _).mono ?_
        rintro e w1 ⟨rfl, hb⟩
        have P1 := Lib.hid (Blk.below P0.out hb P0.out.lt)
        have B1 := Lib.hid (Below.trans0 B0.out hb)
        clear hb
        obtain ⟨x0, x1⟩ := Blk.c2 P1.out
        go_wp2_with fail
        refine (DN.out _).mono ?_
        rintro e w2 ⟨rfl, hb⟩
        have P2 := Lib.hid (Blk.alloc (Blk.below P1.out hb P1.out.lt) (Obj.cells #[.int .i64 p, .int .i64 q] 40))
        have T2 : Hid (Blk (w2.alloc (Obj.cells #[.int .i64 p, .int .i64 q] 40)) w2.heap.size 40 (arA p q)) := Lib.hid (Blk.new _ _ _ (0, 0))
        have B2 := Lib.hid (Below.alloc0 (Below.trans0 B1.out hb) (Obj.cells #[.int .i64 p, .int .i64 q] 40))
        clear hb x0 x1
        obtain ⟨x0, x1⟩ := Blk.c2 P2.out
        obtain ⟨y0, y1⟩ := Blk.c2 T2.out
        go_wp2_with fail
        refine (DF.out _).mono ?_
        rintro e w3 ⟨rfl, rfl⟩
        go_wp2_with fail
        refine (DR.out _).mono ?_
        rintro e w4 ⟨rfl, hb⟩
        have B4 := Lib.hid (Below.trans0 B2.out hb)
        clear hb
        go_wp2_with fail
        refine (alive30 _).mono ?_
        rintro e w5 ⟨rfl, hb⟩
        have B5 := Lib.hid (Below.trans0 B4.out hb)
        clear hb
        go_wp2
        go_ret
        exact ⟨rfl, B5.out⟩
      · go_enter Try.func7, Try.ntmps7
        go_wp2_with fail
        refine (CR.out _).mono ?_
        rintro e w1 ⟨rfl, hb⟩
        have P1 := Lib.hid (Blk.below P0.out hb P0.out.lt)
        have B1 := Lib.hid (Below.trans0 B0.out hb)
        clear hb
        obtain ⟨x0, x1⟩ := Blk.c2 P1.out
        go_wp2_with fail
        refine (DN.out _).mono ?_
        rintro e w2 ⟨rfl, hb⟩
        have P2 := Lib.hid (Blk.alloc (Blk.below P1.out hb P1.out.lt) (Obj.cells #[.int .i64 p, .int .i64 q] 40))
        have T2 : Hid (Blk (w2.alloc (Obj.cells #[.int .i64 p, .int .i64 q] 40)) w2.heap.size 40 (arA p q)) := Lib.hid (Blk.new _ _ _ (0, 0))
        have B2 := Lib.hid (Below.alloc0 (Below.trans0 B1.out hb) (Obj.cells #[.int .i64 p, .int .i64 q] 40))
        clear hb x0 x1
        obtain ⟨x0, x1⟩ := Blk.c2 P2.out
        obtain ⟨y0, y1⟩ := Blk.c2 T2.out
        go_wp2_with fail
        refine (DF.out _).mono ?_
        rintro e w3 ⟨rfl, rfl⟩
        go_wp2_with fail
        refine (DR.out _).mono ?_
        rintro e w4 ⟨rfl, hb⟩
        have B4 := Lib.hid (Below.trans0 B2.out hb)
        clear hb
        go_wp2_with fail
        refine (alive30 _).mono ?_
        rintro e w5 ⟨rfl, hb⟩
        have B5 := Lib.hid (Below.trans0 B4.out hb)
        clear hb
        go_wp2
        go_ret
        exact ⟨rfl, B5.out⟩
      · go_enter Try.func7, Try.ntmps7
        go_wp2_with fail
        refine (CR.out _).mono ?_
        rintro e w1 ⟨rfl, hb⟩
        have P1 := Lib.hid (Blk.below P0.out hb P0.out.lt)
        have B1 := Lib.hid (Below.trans0 B0.out hb)
        clear hb
        obtain ⟨x0, x1⟩ := Blk.c2 P1.out
        go_wp2_with fail
        refine (DN.out _).mono ?_
        rintro e w2 ⟨rfl, hb⟩
        have P2 := Lib.hid (Blk.alloc (Blk.below P1.out hb P1.out.lt) (Obj.cells #[.int .i64 p, .int .i64 q] 40))
        have T2 : Hid (Blk (w2.alloc (Obj.cells #[.int .i64 p, .int .i64 q] 40)) w2.heap.size 40 (arA p q)) := Lib.hid (Blk.new _ _ _ (0, 0))
        have B2 := Lib.hid (Below.alloc0 (Below.trans0 B1.out hb) (Obj.cells #[.int .i64 p, .int .i64 q] 40))
        clear hb x0 x1
        obtain ⟨x0, x1⟩ := Blk.c2 P2.out
        obtain ⟨y0, y1⟩ := Blk.c2 T2.out
        go_wp2_with fail
        refine (DF.out _).mono ?_
        rintro e w3 ⟨rfl, rfl⟩
        go_wp2_with fail
        refine (DR.out _).mono ?_
        rintro e w4 ⟨rfl, hb⟩
        have B4 := Lib.hid (Below.trans0 B2.out hb)
        clear hb
        go_wp2_with fail
        refine (alive30 _).mono ?_
        rintro e w5 ⟨rfl, hb⟩
        have B5 := Lib.hid (Below.trans0 B4.out hb)
        clear hb
        go_wp2
        go_ret
        exact ⟨rfl, B5.out⟩
      · have c2 : (a1Count == 0) = false := by rw [beq_eq_false_iff_ne]; omega
        go_enter Try.func7, Try.ntmps7
        go_wp2_with fail
        refine (CR.out _).mono ?_
        rintro e w1 ⟨rfl, hb⟩
        have P1 := Lib.hid (Blk.below P0.out hb P0.out.lt)
        have B1 := Lib.hid (Below.trans0 B0.out hb)
        clear hb
        obtain ⟨x0, x1⟩ := Blk.c2 P1.out
        go_wp2_with fail
        refine (DN.out _).mono ?_
        rintro e w2 ⟨rfl, hb⟩
        have P2 := Lib.hid (Blk.alloc (Blk.below P1.out hb P1.out.lt) (Obj.cells #[.int .i64 p, .int .i64 q] 40))
        have T2 : Hid (Blk (w2.alloc (Obj.cells #[.int .i64 p, .int .i64 q] 40)) w2.heap.size 40 (arA p q)) := Lib.hid (Blk.new _ _ _ (0, 0))
        have B2 := Lib.hid (Below.alloc0 (Below.trans0 B1.out hb) (Obj.cells #[.int .i64 p, .int .i64 q] 40))
        clear hb x0 x1
        obtain ⟨x0, x1⟩ := Blk.c2 P2.out
        obtain ⟨y0, y1⟩ := Blk.c2 T2.out
        go_wp2_with fail
        refine (DF.out _).mono ?_
        rintro e w3 ⟨rfl, rfl⟩
        go_wp2_with fail
        refine (DR.out _).mono ?_
        rintro e w4 ⟨rfl, hb⟩
        have B4 := Lib.hid (Below.trans0 B2.out hb)
        clear hb
        go_wp2_with fail
        refine (alive30 _).mono ?_
        rintro e w5 ⟨rfl, hb⟩
        have B5 := Lib.hid (Below.trans0 B4.out hb)
        clear hb
        go_wp2
        go_ret
        exact ⟨rfl, B5.out⟩
      · go_enter Try.func7, Try.ntmps7
        go_wp2_with fail
        refine (CR.out _).mono ?_
        rintro e w1 ⟨rfl, hb⟩
        have P1 := Lib.hid (Blk.below P0.out hb P0.out.lt)
        have B1 := Lib.hid (Below.trans0 B0.out hb)
        clear hb
        obtain ⟨x0, x1⟩ := Blk.c2 P1.out
        go_wp2_with fail
        refine (DN.out _).mono ?_
        rintro e w2 ⟨rfl, hb⟩
        have P2 := Lib.hid (Blk.alloc (Blk.below P1.out hb P1.out.lt) (Obj.cells #[.int .i64 p, .int .i64 q] 40))
        have T2 : Hid (Blk (w2.alloc (Obj.cells #[.int .i64 p, .int .i64 q] 40)) w2.heap.size 40 (arA p q)) := Lib.hid (Blk.new _ _ _ (0, 0))
        have B2 := Lib.hid (Below.alloc0 (Below.trans0 B1.out hb) (Obj.cells #[.int .i64 p, .int .i64 q] 40))
        clear hb x0 x1
        obtain ⟨x0, x1⟩ := Blk.c2 P2.out
        obtain ⟨y0, y1⟩ := Blk.c2 T2.out
        go_wp2_with fail
        refine (DF.out _).mono ?_
        rintro e w3 ⟨rfl, rfl⟩
        go_wp2_with fail
        refine (DR.out _).mono ?_
        rintro e w4 ⟨rfl, hb⟩
        have B4 := Lib.hid (Below.trans0 B2.out hb)
        clear hb
        go_wp2_with fail
        refine (alive30 _).mono ?_
        rintro e w5 ⟨rfl, hb⟩
        have B5 := Lib.hid (Below.trans0 B4.out hb)
        clear hb
        go_wp2
        go_ret
        exact ⟨rfl, B5.out⟩
    · have hR' : arR d a1Phase a1Count = false := by simpa using hR
      rw [hR'] at CR
      have K0 : a0 = 0 ∧ d = false ∨ a0 = 1 ∧ d = true := by rw [hd]; cases d <;> simp [kd]
      have cs2 : (a0 = 0 ∧ (a1Phase == 0 && a1Count == 0) = false) ∨ (a0 = 1 ∧ a1Phase < 0) ∨ (a0 = 1 ∧ 2 < a1Phase) ∨ (a0 = 1 ∧ 0 ≤ a1Phase ∧ a1Phase ≤ 2 ∧ a1Count < 0) ∨ (a0 = 1 ∧ 0 ≤ a1Phase ∧ a1Phase ≤ 2 ∧ 15 < a1Count) ∨ (a0 = 1 ∧ 0 ≤ a1Phase ∧ a1Phase ≤ 2 ∧ 0 ≤ a1Count ∧ a1Count ≤ 15 ∧ (a1Count == 0) = false ∧ (a1Phase == 1) = false) := by
        rcases K0 with ⟨h, rfl⟩ | ⟨h, rfl⟩
        · exact .inl ⟨h, hR'⟩
        · refine .inr ?_
          simp [arR] at hR'
          simp [h]
          omega
      clear hd hR hR' K0
      rcases cs2 with ⟨rfl, e1⟩ | ⟨rfl, e1⟩ | ⟨rfl, e1⟩ | ⟨rfl, e1, e2, e3⟩ | ⟨rfl, e1, e2, e3⟩ | ⟨rfl, e1, e2, e3, e4, e5, e6⟩
      · go_enter Try.func7, Try.ntmps7
        go_wp2_with fail
        refine (CR.out _).mono ?_
        rintro e w1 ⟨rfl, hb⟩
        have B1 := Lib.hid (Below.trans0 B0.out hb)
        clear hb
        go_wp2_with fail
        refine (alive30 _).mono ?_
        rintro e w5 ⟨rfl, hb⟩
        have B5 := Lib.hid (Below.trans0 B1.out hb)
        clear hb
        go_wp2
        go_ret
        exact ⟨rfl, B5.out⟩
      · go_enter Try.func7, Try.ntmps7
        go_wp2_with fail
        refine (CR.out _).mono ?_
        rintro e w1 ⟨rfl, hb⟩
        have B1 := Lib.hid (Below.trans0 B0.out hb)
        clear hb
        go_wp2_with fail
        refine (alive30 _).mono ?_
        rintro e w5 ⟨rfl, hb⟩
        have B5 := Lib.hid (Below.trans0 B1.out hb)
        clear hb
        go_wp2
        go_ret
        exact ⟨rfl, B5.out⟩
      · go_enter Try.func7, Try.ntmps7
        go_wp2_with fail
        refine (CR.out _).mono ?_
        rintro e w1 ⟨rfl, hb⟩
        have B1 := Lib.hid (Below.trans0 B0.out hb)
        clear hb
        go_wp2_with fail
        refine (alive30 _).mono ?_
        rintro e w5 ⟨rfl, hb⟩
        have B5 := Lib.hid (Below.trans0 B1.out hb)
        clear hb
        go_wp2
        go_ret
        exact ⟨rfl, B5.out⟩
      · go_enter Try.func7, Try.ntmps7
        go_wp2_with fail
        refine (CR.out _).mono ?_
        rintro e w1 ⟨rfl, hb⟩
        have B1 := Lib.hid (Below.trans0 B0.out hb)
        clear hb
        go_wp2_with fail
        refine (alive30 _).mono ?_
        rintro e w5 ⟨rfl, hb⟩
        have B5 := Lib.hid (Below.trans0 B1.out hb)
        clear hb
        go_wp2
        go_ret
        exact ⟨rfl, B5.out⟩
      · go_enter Try.func7, Try.ntmps7
        go_wp2_with fail
        refine (CR.out _).mono ?_
        rintro e w1 ⟨rfl, hb⟩
        have B1 := Lib.hid (Below.trans0 B0.out hb)
        clear hb
        go_wp2_with fail
        refine (alive30 _).mono ?_
        rintro e w5 ⟨rfl, hb⟩
        have B5 := Lib.hid (Below.trans0 B1.out hb)
        clear hb
        go_wp2
        go_ret
        exact ⟨rfl, B5.out⟩
      · go_enter Try.func7, Try.ntmps7
        go_wp2_with fail
        refine (CR.out _).mono ?_
        rintro e w1 ⟨rfl, hb⟩
        have B1 := Lib.hid (Below.trans0 B0.out hb)
        clear hb
        go_wp2_with fail
        refine (alive30 _).mono ?_
        rintro e w5 ⟨rfl, hb⟩
        have B5 := Lib.hid (Below.trans0 B1.out hb)
        clear hb
        go_wp2
        go_ret
        exact ⟨rfl, B5.out⟩
  · have n0 : (a0 != 0) = true := by simp; omega
    have n1 : (a0 != 1) = true := by simp; omega
    clear hk
    go_enter Try.func7, Try.ntmps7
    go_wp2
    go_ret
    exact ⟨rfl, Below.alloc0 (Below.refl _ _) _⟩

set_option maxRecDepth 100000 in
theorem lifted (os : Os) (started : os.Started) (H : Type) (enc : TypeId × Value → H) :
    ReturnsInHanded {} Try.checked os 7 .any (Rows.arbiterStepsSpec.pre6 enc Try.prog Try.f7 Rows.arbiterStepsRow.domain false) (Rows.arbiterStepsSpec.post enc Try.prog Try.f7 false true false false) := by
  refine returnsInHanded_of_change (C := Try.checked) own started (by kernel_rfl) Try.func7
    (ChangeSpec.witness6 (enc := enc) (C := Try.checked) false ⟨#[], #[.int .i64 0, .agg #[.int .i64 0, .int .i64 0], .bool false], []⟩ 8 (by kernel_rfl) (by kernel_rfl) (by kernel_rfl) (by kernel_rfl)) ?_
  intro W base args ds gs before hval0 hW hcnd _
  have hval : ∀ (j : Nat) t v, Try.f7.params[j]? = some t → args[j]? = some v → Value.okWide Try.prog W .any base t v := hval0
  have hW' := hW
  obtain ⟨p, q, hA0, hV, rfl, hfz, hnd⟩ := hW
  have hA : DataW.TrodAll enc Try.prog W 0 (fun _ => true) true Try.f7.params.toList args.toList ds p := hA0
  rw [Try.params7] at hA hval
  obtain ⟨v0, vs0, d0, ds0, p0, q0, hargs, rfl, rfl, h0, r0⟩ := trodAll_cons hA
  obtain ⟨v1, vs1, d1, ds1, p1, q1, rfl, rfl, rfl, h1, r1⟩ := trodAll_cons r0
  obtain ⟨v2, vs2, d2, ds2, p2, q2, rfl, rfl, rfl, h2, r2⟩ := trodAll_cons r1
  obtain ⟨rfl, rfl, rfl⟩ := trodAll_nil r2
  obtain rfl : args = #[v0, v1, v2] := by cases args; simp_all
  obtain ⟨rfl, rfl⟩ := trodVars_none hV
  obtain ⟨a0, rfl, rfl, rfl, w0⟩ := open_int Try.underlying3 (hval 0 3 v0 rfl rfl) h0
  have k1 := h1
  have lt1 : ∀ x ∈ p1, x.block < W.heap.size := by obtain ⟨m, hm⟩ := k1; exact DataW.trod_lt m _ _ _ hm
  obtain ⟨a1Phase, a1Count, rfl, w1⟩ := open40 (hval 1 40 v1 rfl rfl) h1
  obtain ⟨a2, rfl, rfl, rfl⟩ := open_bool Try.underlying4 (hval 2 4 v2 rfl rfl) h2
  clear hA0 hval0
  refine (walk a0 a1Phase a1Count a2 W w0 w1).mono fun e W' ⟨he, bel⟩ => ?_
  subst he
  exact ⟨_, rfl, _, _, _, [], _, [], hW', trodAll_mk1 (shut_bool Try.underlying4 _), (trodAll_cons_mk (shut_int Try.underlying3 w0) (trodAll_cons_mk (Below.trod laidOut (by kernel_rfl) (of_decide_eq_true (by kernel_rfl)) k1 bel lt1) (trodAll_cons_mk (shut_bool Try.underlying4 _) trodAll_mk0))), rfl, bel.frame _, fun h => by cases h⟩

theorem over : Rows.arbiterStepsRow.holds Try.pinned (OpenSpec.ofChange Rows.arbiterStepsSpec) :=
  OpenClaim.holds_of_wide 7 Try.f7 rfl rfl rfl rfl rfl rfl rfl ⟨rfl, rfl, rfl, rfl, rfl⟩ rfl rfl rfl rfl rfl (by kernel_rfl) Try.func7 (by kernel_rfl)
    (of_decide_eq_true (by kernel_rfl)) (by unfold Func.isWrapper; first | (rw [if_pos (by decide +kernel)]; kernel_rfl) | (rw [if_neg (by decide +kernel)]; exact ⟨rfl, rfl⟩))
    (fun os started H enc _ => lifted os started H enc)

theorem proved : Rows.ArbiterStepsSaid := over
#print axioms proved
end Go.Proofs.Ytoogaenknjdpcaa.arbiterSteps
