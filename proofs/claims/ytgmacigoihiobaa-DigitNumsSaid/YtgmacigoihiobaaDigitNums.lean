/- The law DigitNums answers true for every input, and each argument reads afterwards as it read before. Conditions: none. -/
import Derived.Test.YtgmacigoihiobaaRows
import Derived.WalkKit
import Derived.ProofKit
import Derived.OpenShut
import Derived.ShutString
import Derived.ChangeOld
import Derived.Below
import Derived.Test.YtgmacigoihiobaaDigPairs
namespace Go.Proofs.Ytgmacigoihiobaa.digitNums
open Go.ChangeShapes Go.WideShapes Go.ChangeAt Go.RowKit
open Go.ChangeMaps (open_string shut_string)
set_option linter.unusedVariables false      -- a walk need not use every 'w<i>' (that an integer argument fits its kind)

theorem own : ownKnob Try.prog.godebug = none := by kernel_rfl

set_option maxRecDepth 100000 in
set_option maxHeartbeats 1000000 in
theorem walk (a0 : Int) (a1 : Int) (w0 : (Lit.int .u64 a0).wf = true) (w1 : (Lit.int .i64 a1).wf = true) (w : World) :
    Calls Try.prog 6 #[.int .u64 a0, .int .i64 a1] w fun e w' => e = .returned (.bool true) ∧ Below w.heap.size w w' := by
  obtain ⟨ha, ha'⟩ := bounds_u64 w0
  have hcl := clampW_range a1
  obtain ⟨g1, g2⟩ := read_hex a0 a1 ha ha'
  obtain ⟨g3, g4⟩ := read_dec a0 ha ha'
  have e1 : (numV 16 16 (nums (strOfNums (written 16 a0 (clampW a1)))) == a0) = true := by rw [g1]; simp
  have e2 : (numE 16 16 (nums (strOfNums (written 16 a0 (clampW a1)))) == 0) = true := by rw [g2]; rfl
  have e3 : (numV 10 20 (nums (strOfNums (written 10 a0 1))) == a0) = true := by rw [g3]; simp
  have e4 : (numE 10 20 (nums (strOfNums (written 10 a0 1))) == 0) = true := by rw [g4]; rfl
  have z1 := size_written 16 a0 16 (clampW a1) (by decide) (by decide) hcl.2 ha (by omega)
  have z2 := size_written 10 a0 20 1 (by decide) (by decide) (by decide) ha (by omega)
  clear g1 g2 g3 g4
  by_cases c1 : a1 < 1
  all_goals by_cases c2 : 16 < a1
  all_goals try (exfalso; omega)
  all_goals
    have HC : Hid ((clampW a1 : Int) = if a1 < 1 then 1 else if 16 < a1 then 16 else a1) := Lib.hid (by unfold clampW; split <;> (try split) <;> omega)
    have hWI : Hid ((clampW a1 : Int) = (if a1 < 1 then 1 else if 16 < a1 then 16 else a1)) := HC
    go_enter Try.func6, Try.ntmps6
    go_wp2_with fail
    refine (hex_any _ _ _ ha ha').mono ?_
    rintro e W1 ⟨rfl, hb1⟩
    go_wp2_with fail
    refine (dec_any _ _ ha ha').mono ?_
    rintro e W2 ⟨rfl, hb2⟩
    go_wp2_with fail
    refine (readHex_any _ _ (by unfold maxLen; omega)).mono ?_
    rintro e w' ⟨rfl, rfl⟩
    go_wp2_with fail
    refine (readDec_any _ _ (by unfold maxLen; omega)).mono ?_
    rintro e w' ⟨rfl, rfl⟩
    go_wp2_with fail
    refine (refDigits16_int _ (clampW a1) _ _ ha ha' hcl.1 hcl.2 (by rw [HC.out]; first | (rw [if_pos (by omega)]; done) | (rw [if_neg (by omega), if_pos (by omega)]; done) | (rw [if_neg (by omega), if_neg (by omega)]; done))).mono ?_
    rintro e w' ⟨rfl, rfl⟩
    go_wp2_with fail
    refine (refDigits10_int _ 1 _ _ ha ha' (by omega) (by omega) rfl).mono ?_
    rintro e w' ⟨rfl, rfl⟩
    go_wp2_with fail
    refine (alive02 _).mono ?_
    rintro e W3 ⟨rfl, hb3⟩
    go_wp2
    go_ret
    exact ⟨rfl, (hb1.trans (hb2.mono hb1.size)).trans (hb3.mono (Nat.le_trans hb1.size hb2.size))⟩

set_option maxRecDepth 100000 in
theorem lifted (os : Os) (started : os.Started) (H : Type) (enc : TypeId × Value → H) :
    ReturnsInHanded {} Try.checked os 6 .any (Rows.digitNumsSpec.pre6 enc Try.prog Try.f6 Rows.digitNumsRow.domain false) (Rows.digitNumsSpec.post enc Try.prog Try.f6 false true false false) := by
  refine returnsInHanded_of_change (C := Try.checked) own started (by kernel_rfl) Try.func6
    (ChangeSpec.witness6 (enc := enc) (C := Try.checked) false ⟨#[], #[.int .u64 0, .int .i64 0], []⟩ 8 (by kernel_rfl) (by kernel_rfl) (by kernel_rfl) (by kernel_rfl)) ?_
  intro W base args ds gs before hval0 hW hcnd _
  have hval : ∀ (j : Nat) t v, Try.f6.params[j]? = some t → args[j]? = some v → Value.okWide Try.prog W .any base t v := hval0
  have hW' := hW
  obtain ⟨p, q, hA0, hV, rfl, hfz, hnd⟩ := hW
  have hA : DataW.TrodAll enc Try.prog W 0 (fun _ => true) true Try.f6.params.toList args.toList ds p := hA0
  rw [Try.params6] at hA hval
  obtain ⟨v0, vs0, d0, ds0, p0, q0, hargs, rfl, rfl, h0, r0⟩ := trodAll_cons hA
  obtain ⟨v1, vs1, d1, ds1, p1, q1, rfl, rfl, rfl, h1, r1⟩ := trodAll_cons r0
  obtain ⟨rfl, rfl, rfl⟩ := trodAll_nil r1
  obtain rfl : args = #[v0, v1] := by cases args; simp_all
  obtain ⟨rfl, rfl⟩ := trodVars_none hV
  obtain ⟨a0, rfl, rfl, rfl, w0⟩ := open_int Try.underlying38 (hval 0 38 v0 rfl rfl) h0
  obtain ⟨a1, rfl, rfl, rfl, w1⟩ := open_int Try.underlying3 (hval 1 3 v1 rfl rfl) h1
  clear hA0 hval0
  refine (walk a0 a1 w0 w1 W).mono fun e W' ⟨he, bel⟩ => ?_
  subst he
  exact ⟨_, rfl, _, _, _, [], _, [], hW', trodAll_mk1 (shut_bool Try.underlying4 _), (trodAll_cons_mk (shut_int Try.underlying38 w0) (trodAll_cons_mk (shut_int Try.underlying3 w1) trodAll_mk0)), rfl, bel.frame _, fun h => by cases h⟩

theorem over : Rows.digitNumsRow.holds Try.pinned (OpenSpec.ofChange Rows.digitNumsSpec) :=
  OpenClaim.holds_of_wide 6 Try.f6 rfl rfl rfl rfl rfl rfl rfl ⟨rfl, rfl, rfl, rfl, rfl⟩ rfl rfl rfl rfl rfl (by kernel_rfl) Try.func6 (by kernel_rfl)
    (of_decide_eq_true (by kernel_rfl)) (by unfold Func.isWrapper; first | (rw [if_pos (by decide +kernel)]; kernel_rfl) | (rw [if_neg (by decide +kernel)]; exact ⟨rfl, rfl⟩))
    (fun os started H enc _ => lifted os started H enc)

theorem proved : Rows.DigitNumsSaid :=
  over
#print axioms proved
end Go.Proofs.Ytgmacigoihiobaa.digitNums
