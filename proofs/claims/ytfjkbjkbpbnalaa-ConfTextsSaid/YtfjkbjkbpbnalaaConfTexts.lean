/- The law ConfTexts answers true for every input, and each argument reads afterwards as it read before. Conditions: none. -/
import Derived.Test.YtfjkbjkbpbnalaaRows
import Derived.WalkKit
import Derived.ProofKit
import Derived.OpenShut
import Derived.ShutString
import Derived.ChangeOld
import Derived.Below
import Derived.Test.YtfjkbjkbpbnalaaCnf
import Derived.BigQuiet
import Derived.HandedShaped
namespace Go.Proofs.Ytfjkbjkbpbnalaa.confTexts
open Go.ChangeShapes Go.WideShapes Go.ChangeAt Go.RowKit
open Go.ChangeMaps (open_string shut_string)
set_option linter.unusedVariables false

theorem own : ownKnob Try.prog.godebug = none := by kernel_rfl
theorem laidOut : laidOutB Try.prog = true := by kernel_rfl

theorem arr23 {cs : Array Value} (h : cs.size = 2) : ∃ c0 c1 : Value, cs = #[c0, c1] := by
  obtain ⟨l⟩ := cs
  match l, h with
  | [c0, c1], _ => exact ⟨c0, c1, rfl⟩
theorem cellsOf23_3 : Try.prog.cellsOf 3 = 1 := by kernel_rfl
theorem cellsOf23_23 : Try.prog.cellsOf 23 = 2 := by kernel_rfl
set_option maxRecDepth 100000 in
theorem open23 {H : Type} {enc : TypeId × Value → H} {W : World} {b0 base : Nat} {sp : Nat → Bool} {held : Bool} {v : Value} {d : DataW H} {p : List MemPlace} (hv : Value.okWide Try.prog W .any b0 23 v) (h : DataW.Trod enc Try.prog W base sp held 23 v d p) :
    ∃ (xKind : Int) (xRom : Int), v = .agg #[.int .i64 xKind, .int .i64 xRom] ∧ (Lit.int .i64 xKind).wf = true ∧ (Lit.int .i64 xRom).wf = true := by
  obtain ⟨cs, rfl, hsz⟩ := okWide_struct Try.underlying23 hv
  obtain ⟨c0, c1, rfl⟩ := arr23 (hsz.trans cellsOf23_23)
  obtain ⟨fuel, hf⟩ := h
  obtain ⟨xs0, n0, _, _, _, hl0, hg0⟩ := DataW.trod_struct Try.underlying23 hf
  have g0_0 : DataW.trod enc Try.prog W base sp held n0 3 (([c0, c1].drop 0).take (Try.prog.cellsOf 3)) = xs0[0]? := hg0 0 _ rfl
  rw [List.getElem?_eq_getElem (show 0 < xs0.length by rw [hl0]; decide)] at g0_0
  rw [cellsOf23_3] at g0_0
  obtain ⟨y0, e0_0, _, w0⟩ := DataW.trod_int Try.underlying3 g0_0
  have E0 : c0 = .int .i64 y0 := by simpa [Value.cells] using e0_0
  have g0_1 : DataW.trod enc Try.prog W base sp held n0 3 (([c0, c1].drop 1).take (Try.prog.cellsOf 3)) = xs0[1]? := hg0 1 _ rfl
  rw [List.getElem?_eq_getElem (show 1 < xs0.length by rw [hl0]; decide)] at g0_1
  rw [cellsOf23_3] at g0_1
  obtain ⟨y1, e0_1, _, w1⟩ := DataW.trod_int Try.underlying3 g0_1
  have E1 : c1 = .int .i64 y1 := by simpa [Value.cells] using e0_1
  subst E0 E1
  exact ⟨y0, y1, rfl, w0, w1⟩

set_option maxRecDepth 100000 in
set_option maxHeartbeats 1000000 in
theorem walk (a0Kind : Int) (a0Rom : Int) (w : World) (w0 : (Lit.int .i64 a0Kind).wf = true ∧ (Lit.int .i64 a0Rom).wf = true) (hS : w.ShapedOpen Try.prog) :
    Calls Try.prog 3 #[.agg #[.int .i64 a0Kind, .int .i64 a0Rom]] w fun e w' => e = .returned (.bool true) ∧ Below w.heap.size w w' := by
  -- shaped
  have HM := Lib.hid (MaxL.of_shaped hS)
  clear hS w0
  generalize a0Kind = k
  generalize a0Rom = r
  by_cases hok : cfOk k r = true
  · have hr := hok
    simp only [cfOk, Bool.and_eq_true, decide_eq_true_eq] at hr
    obtain ⟨hk, r0, r1⟩ := hr
    have C1 := Lib.hid (fun u => cfRight_any k r u)
    have C2 := Lib.hid (fun u => cfCheck_any k r u)
    have C3 := Lib.hid (fun u => cfText_any k r u)
    have C4 := Lib.hid (fun u h => cfBack_any k r hok u h)
    have C5 := Lib.hid (fun u => cfLaw_any k r u hok)
    rw [(cfE_ok k r).2 hok] at C2
    rw [hok] at C1
    rw [hok, if_pos rfl] at C3
    clear hok
    generalize strOfNums (cfT k r) = T at *
    have t0 := toList_same T
    have d0 : decide (0 ≤ r) = true := by simpa using r0
    have d1 : decide (r ≤ 65536) = true := by simpa using r1
    rcases hk with rfl | rfl
    · go_enter Try.func3, Try.ntmps3
      go_wp2
      go_quiet (fail)
      go_wp2_with fail
      refine (C1.out _).mono ?_
      rintro e w1 ⟨rfl, hb⟩
      have HB := Lib.hid (Below.trans0 (Below.drewN0 (Below.alloc0 (Below.refl _ w) _) _) hb)
      have P1 := Lib.hid (Blk.below (Blk.drewN (Blk.new w 23 _ (0, 0)) _) hb (by simp))
      clear hb
      obtain ⟨p0, p1⟩ := Blk.c2 P1.out
      go_wp2_with fail
      refine (C2.out _).mono ?_
      rintro e w2 ⟨rfl, hb⟩
      have HB2 := Lib.hid (Below.trans0 HB.out hb)
      have P2 := Lib.hid (Blk.below P1.out hb P1.out.lt)
      clear hb p0 p1
      obtain ⟨p0, p1⟩ := Blk.c2 P2.out
      go_wp2_with fail
      refine (C3.out _).mono ?_
      rintro e w3 ⟨rfl, hb⟩
      have HB3 := Lib.hid (Below.trans0 HB2.out hb)
      have P3 := Lib.hid (Blk.below P2.out hb P2.out.lt)
      clear hb p0 p1
      obtain ⟨p0, p1⟩ := Blk.c2 P3.out
      go_wp2_with fail
      refine (C4.out _ (MaxL.below HM.out HB3.out)).mono ?_
      rintro e w4 ⟨rfl, hb⟩
      have HB4 := Lib.hid (Below.trans0 HB3.out hb)
      have P4 := Lib.hid (Blk.below P3.out hb P3.out.lt)
      clear hb p0 p1
      obtain ⟨p0, p1⟩ := Blk.c2 (Blk.alloc P4.out (Obj.cells (cfA 0 r) 23))
      go_wp2_with fail
      refine (C5.out _).mono ?_
      rintro e w5 ⟨rfl, hb⟩
      have HB5 := Lib.hid (Below.trans0 (Below.alloc0 HB4.out _) hb)
      have P5 := Lib.hid (Blk.below (Blk.alloc P4.out _) hb (by have := P4.out.lt; simp; omega))
      have Q5 := Lib.hid (Blk.below (Blk.new w4 23 _ (0, 0)) hb (by simp))
      clear hb p0 p1
      obtain ⟨p0, p1⟩ := Blk.c2 P5.out
      obtain ⟨q0, q1⟩ := Blk.c2 Q5.out
      go_wp2_with fail
      refine (alive33 _).mono ?_
      rintro e w6 ⟨rfl, hb⟩
      have HB6 := Lib.hid (Below.trans0 HB5.out hb)
      clear hb
      go_wp2
      go_ret
      exact ⟨rfl, HB6.out⟩
    · go_enter Try.func3, Try.ntmps3
      go_wp2
      go_quiet (fail)
      go_wp2_with fail
      refine (C1.out _).mono ?_
      rintro e w1 ⟨rfl, hb⟩
      have HB := Lib.hid (Below.trans0 (Below.drewN0 (Below.alloc0 (Below.refl _ w) _) _) hb)
      have P1 := Lib.hid (Blk.below (Blk.drewN (Blk.new w 23 _ (0, 0)) _) hb (by simp))
      clear hb
      obtain ⟨p0, p1⟩ := Blk.c2 P1.out
      go_wp2_with fail
      refine (C2.out _).mono ?_
      rintro e w2 ⟨rfl, hb⟩
      have HB2 := Lib.hid (Below.trans0 HB.out hb)
      have P2 := Lib.hid (Blk.below P1.out hb P1.out.lt)
      clear hb p0 p1
      obtain ⟨p0, p1⟩ := Blk.c2 P2.out
      go_wp2_with fail
      refine (C3.out _).mono ?_
      rintro e w3 ⟨rfl, hb⟩
      have HB3 := Lib.hid (Below.trans0 HB2.out hb)
      have P3 := Lib.hid (Blk.below P2.out hb P2.out.lt)
      clear hb p0 p1
      obtain ⟨p0, p1⟩ := Blk.c2 P3.out
      go_wp2_with fail
      refine (C4.out _ (MaxL.below HM.out HB3.out)).mono ?_
      rintro e w4 ⟨rfl, hb⟩
      have HB4 := Lib.hid (Below.trans0 HB3.out hb)
      have P4 := Lib.hid (Blk.below P3.out hb P3.out.lt)
      clear hb p0 p1
      obtain ⟨p0, p1⟩ := Blk.c2 (Blk.alloc P4.out (Obj.cells (cfA 1 r) 23))
      go_wp2_with fail
      refine (C5.out _).mono ?_
      rintro e w5 ⟨rfl, hb⟩
      have HB5 := Lib.hid (Below.trans0 (Below.alloc0 HB4.out _) hb)
      have P5 := Lib.hid (Blk.below (Blk.alloc P4.out _) hb (by have := P4.out.lt; simp; omega))
      have Q5 := Lib.hid (Blk.below (Blk.new w4 23 _ (0, 0)) hb (by simp))
      clear hb p0 p1
      obtain ⟨p0, p1⟩ := Blk.c2 P5.out
      obtain ⟨q0, q1⟩ := Blk.c2 Q5.out
      go_wp2_with fail
      refine (alive33 _).mono ?_
      rintro e w6 ⟨rfl, hb⟩
      have HB6 := Lib.hid (Below.trans0 HB5.out hb)
      clear hb
      go_wp2
      go_ret
      exact ⟨rfl, HB6.out⟩
  · have hok : cfOk k r = false := by simpa using hok
    have C1 := Lib.hid (fun u => cfRight_any k r u)
    have C2 := Lib.hid (fun u => cfCheck_any k r u)
    have C3 := Lib.hid (fun u => cfText_any k r u)
    rw [hok] at C1
    rw [hok, if_neg (by simp)] at C3
    obtain ⟨V, hV⟩ : ∃ V, cfE k r = V := ⟨_, rfl⟩
    have E := hV.symm.trans (show cfE k r = if k = 0 ∨ k = 1 then (if 0 ≤ r ∧ r ≤ 65536 then 0 else 11) else 10 from rfl)
    rw [hV] at C2
    have hne : ¬ (cfE k r = 0) := fun e => by rw [(cfE_ok k r).1 e] at hok; cases hok
    rw [hV] at hne
    clear hV hok
    have ht : strOfNums [] = ⟨#[]⟩ := rfl
    rw [ht] at C3
    clear ht
    obtain ⟨hk, rfl⟩ | ⟨hk, hr, rfl⟩ : ((¬ k = 0 ∧ ¬ k = 1) ∧ V = 10) ∨ ((k = 0 ∨ k = 1) ∧ ¬ (0 ≤ r ∧ r ≤ 65536) ∧ V = 11) := by
      by_cases a : k = 0 ∨ k = 1
      · rw [if_pos a] at E
        by_cases b : 0 ≤ r ∧ r ≤ 65536
        · rw [if_pos b] at E; exact absurd E hne
        · rw [if_neg b] at E; exact .inr ⟨a, b, E⟩
      · rw [if_neg a] at E; exact .inl ⟨by omega, E⟩
    · obtain ⟨n0, n1⟩ := hk
      have m0 : (k == 0) = false := by simpa using n0
      have m1 : (k == 1) = false := by simpa using n1
      clear E hne
      by_cases r0 : 0 ≤ r
      case' pos => have d0 : decide (0 ≤ r) = true := by simpa using r0
      case' neg => have d0 : decide (0 ≤ r) = false := by simpa using r0
      all_goals by_cases r1 : r ≤ 65536
      all_goals try (have d1 : decide (r ≤ 65536) = true := by simpa using r1)
      all_goals try (have d1 : decide (r ≤ 65536) = false := by simpa using r1)
      all_goals
        go_enter Try.func3, Try.ntmps3
        go_wp2
        go_quiet (fail)
        go_wp2_with fail
        refine (C1.out _).mono ?_
        rintro e w1 ⟨rfl, hb⟩
        have HB := Lib.hid (Below.trans0 (Below.drewN0 (Below.alloc0 (Below.refl _ w) _) _) hb)
        have P1 := Lib.hid (Blk.below (Blk.drewN (Blk.new w 23 _ (0, 0)) _) hb (by simp))
        clear hb
        obtain ⟨p0, p1⟩ := Blk.c2 P1.out
        go_wp2_with fail
        refine (C2.out _).mono ?_
        rintro e w2 ⟨rfl, hb⟩
        have HB2 := Lib.hid (Below.trans0 HB.out hb)
        have P2 := Lib.hid (Blk.below P1.out hb P1.out.lt)
        clear hb p0 p1
        obtain ⟨p0, p1⟩ := Blk.c2 P2.out
        go_wp2_with fail
        refine (C3.out _).mono ?_
        rintro e w3 ⟨rfl, hb⟩
        have HB3 := Lib.hid (Below.trans0 HB2.out hb)
        clear hb p0 p1
        go_wp2_with fail
        refine (alive33 _).mono ?_
        rintro e w6 ⟨rfl, hb⟩
        have HB6 := Lib.hid (Below.trans0 HB3.out hb)
        clear hb
        go_wp2
        go_ret
        exact ⟨rfl, HB6.out⟩
    · clear E hne
      by_cases r0 : 0 ≤ r
      case' pos => have d0 : decide (0 ≤ r) = true := by simpa using r0
      case' neg => have d0 : decide (0 ≤ r) = false := by simpa using r0
      all_goals by_cases r1 : r ≤ 65536
      all_goals try (have d1 : decide (r ≤ 65536) = true := by simpa using r1)
      all_goals try (have d1 : decide (r ≤ 65536) = false := by simpa using r1)
      all_goals try (exfalso; omega)
      all_goals
        rcases hk with rfl | rfl
        all_goals
          go_enter Try.func3, Try.ntmps3
          go_wp2
          go_quiet (fail)
          go_wp2_with fail
          refine (C1.out _).mono ?_
          rintro e w1 ⟨rfl, hb⟩
          have HB := Lib.hid (Below.trans0 (Below.drewN0 (Below.alloc0 (Below.refl _ w) _) _) hb)
          have P1 := Lib.hid (Blk.below (Blk.drewN (Blk.new w 23 _ (0, 0)) _) hb (by simp))
          clear hb
          obtain ⟨p0, p1⟩ := Blk.c2 P1.out
          go_wp2_with fail
          refine (C2.out _).mono ?_
          rintro e w2 ⟨rfl, hb⟩
          have HB2 := Lib.hid (Below.trans0 HB.out hb)
          have P2 := Lib.hid (Blk.below P1.out hb P1.out.lt)
          clear hb p0 p1
          obtain ⟨p0, p1⟩ := Blk.c2 P2.out
          go_wp2_with fail
          refine (C3.out _).mono ?_
          rintro e w3 ⟨rfl, hb⟩
          have HB3 := Lib.hid (Below.trans0 HB2.out hb)
          clear hb p0 p1
          go_wp2_with fail
          refine (alive33 _).mono ?_
          rintro e w6 ⟨rfl, hb⟩
          have HB6 := Lib.hid (Below.trans0 HB3.out hb)
          clear hb
          go_wp2
          go_ret
          exact ⟨rfl, HB6.out⟩

set_option maxRecDepth 100000 in
theorem lifted (os : Os) (started : os.Started) (H : Type) (enc : TypeId × Value → H) :
    ReturnsInHanded {} Try.checked os 3 .any (Rows.confTextsSpec.pre6 enc Try.prog Try.f3 Rows.confTextsRow.domain false) (Rows.confTextsSpec.post enc Try.prog Try.f3 false true false false) := by
  refine returnsInHanded_of_change_shaped (C := Try.checked) own started (by kernel_rfl) Try.func3
    (ChangeSpec.witness6 (enc := enc) (C := Try.checked) false ⟨#[], #[.agg #[.int .i64 0, .int .i64 0]], []⟩ 8 (by kernel_rfl) (by kernel_rfl) (by kernel_rfl) (by kernel_rfl)) ?_
  intro W base args ds gs before hval0 hW hcnd _ hsh _
  have hval : ∀ (j : Nat) t v, Try.f3.params[j]? = some t → args[j]? = some v → Value.okWide Try.prog W .any base t v := hval0
  have hW' := hW
  obtain ⟨p, q, hA0, hV, rfl, hfz, hnd⟩ := hW
  have hA : DataW.TrodAll enc Try.prog W 0 (fun _ => true) true Try.f3.params.toList args.toList ds p := hA0
  rw [Try.params3] at hA hval
  obtain ⟨v0, vs0, d0, ds0, p0, q0, hargs, rfl, rfl, h0, r0⟩ := trodAll_cons hA
  obtain ⟨rfl, rfl, rfl⟩ := trodAll_nil r0
  obtain rfl : args = #[v0] := by cases args; simp_all
  obtain ⟨rfl, rfl⟩ := trodVars_none hV
  have k0 := h0
  have lt0 : ∀ x ∈ p0, x.block < W.heap.size := by obtain ⟨m, hm⟩ := k0; exact DataW.trod_lt m _ _ _ hm
  obtain ⟨a0Kind, a0Rom, rfl, w0⟩ := open23 (hval 0 23 v0 rfl rfl) h0
  clear hA0 hval0
  refine (walk a0Kind a0Rom W w0 hsh).mono fun e W' ⟨he, bel⟩ => ?_
  subst he
  exact ⟨_, rfl, _, _, _, [], _, [], hW', trodAll_mk1 (shut_bool Try.underlying4 _), (trodAll_cons_mk (Below.trod laidOut (by kernel_rfl) (of_decide_eq_true (by kernel_rfl)) k0 bel lt0) trodAll_mk0), rfl, bel.frame _, fun h => by cases h⟩

theorem over : Rows.confTextsRow.holds Try.pinned (OpenSpec.ofChange Rows.confTextsSpec) :=
  OpenClaim.holds_of_wide 3 Try.f3 rfl rfl rfl rfl rfl rfl rfl ⟨rfl, rfl, rfl, rfl, rfl⟩ rfl rfl rfl rfl rfl (by kernel_rfl) Try.func3 (by kernel_rfl)
    (of_decide_eq_true (by kernel_rfl)) (by unfold Func.isWrapper; first | (rw [if_pos (by decide +kernel)]; kernel_rfl) | (rw [if_neg (by decide +kernel)]; exact ⟨rfl, rfl⟩))
    (fun os started H enc _ => lifted os started H enc)

theorem proved : Rows.ConfTextsSaid := over
#print axioms proved
end Go.Proofs.Ytfjkbjkbpbnalaa.confTexts
