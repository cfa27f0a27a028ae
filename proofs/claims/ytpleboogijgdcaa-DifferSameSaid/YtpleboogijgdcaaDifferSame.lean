/- The law DifferSame answers true for every input, and each argument reads afterwards as it read before. Conditions: none. -/
import Derived.Test.YtpleboogijgdcaaRows
import Derived.WalkKit
import Derived.ProofKit
import Derived.OpenShut
import Derived.ShutString
import Derived.ChangeOld
import Derived.Below
import Derived.Test.YtpleboogijgdcaaDfa
import Derived.Deep.CutBlock
namespace Go.Proofs.Ytpleboogijgdcaa.differSame
open Go.ChangeShapes Go.WideShapes Go.ChangeAt Go.RowKit
open Go.ChangeMaps (open_string shut_string)
set_option linter.unusedVariables false

theorem own : ownKnob Try.prog.godebug = none := by kernel_rfl
theorem laidOut : laidOutB Try.prog = true := by kernel_rfl

set_option maxRecDepth 100000 in
set_option maxHeartbeats 8000000 in
theorem walk (a0 : Option Addr) (len0 cap0 : Nat) (z0 : List Rc) (a1 : Option Addr) (len1 cap1 : Nat) (z1 : List Rc) (w : World) (w0 : eR.In Rc.Ok w a0 len0 cap0 z0) (w1 : eR.In Rc.Ok w a1 len1 cap1 z1) :
    Calls Try.prog 3 #[.slice a0 len0 cap0, .slice a1 len1 cap1] w fun e w' => e = .returned (.bool true) ∧ Below w.heap.size w w' := by
  -- open 0 : List Rc | eR.In Rc.Ok | open_recs
  -- open 1 : List Rc | eR.In Rc.Ok | open_recs
  -- heartbeats 8000000
  obtain ⟨l, hL⟩ : ∃ l, eR.In Rc.Ok w a0 len0 cap0 l := ⟨_, w0⟩
  obtain ⟨m, hM⟩ : ∃ m, eR.In Rc.Ok w a1 len1 cap1 m := ⟨_, w1⟩
  clear w0 w1
  obtain ⟨hR, hln, hlm, hok⟩ := hL
  obtain ⟨hR', hln', hlm', hok'⟩ := hM
  by_cases h1 : len0 ≤ 100
  case neg =>
    go_enter Try.func3, Try.ntmps3
    go_wp2
    go_ret
    exact ⟨rfl, Below.refl _ _⟩
  by_cases h2 : len1 ≤ 100
  case neg =>
    go_enter Try.func3, Try.ntmps3
    go_wp2
    go_ret
    exact ⟨rfl, Below.refl _ _⟩
  have hx : mxD l m ≤ 1000000 := by unfold mxD; omega
  have CQ := Lib.hid (fun u (q : Below w.heap.size w u) => rcEq_any _ _ l m u (hR.below q) (hR'.below q) (by omega))
  have CF := Lib.hid (fun u (q : Below w.heap.size w u) => dfFirst_any _ _ l m u (hR.below q) (hR'.below q) (by omega) (by omega))
  have CF' := Lib.hid (fun u (q : Below w.heap.size w u) => dfFirst_any _ _ m l u (hR'.below q) (hR.below q) (by omega) (by omega))
  have CS := Lib.hid (fun u (q : Below w.heap.size w u) => dfFirst_any _ _ l l u (hR.below q) (hR.below q) (by omega) (by omega))
  have CC := Lib.hid (fun u (q : Below w.heap.size w u) => dfCount_any _ _ l m u (hR.below q) (hR'.below q) (by omega) (by omega))
  have CC' := Lib.hid (fun u (q : Below w.heap.size w u) => dfCount_any _ _ m l u (hR'.below q) (hR.below q) (by omega) (by omega))
  have CR := Lib.hid (fun u (q : Below w.heap.size w u) => dfReport_any 9 (by decide) (by decide) _ _ l m hok hok' u (hR.below q) (hR'.below q) (by omega) (by omega))
  have CA := Lib.hid (fun u => alive51 u)
  rw [fsD_comm m l] at CF'
  rw [ctD_comm m l, mxD_comm m l] at CC'
  have e1 := fsD_same l m
  have e2 := ctD_same l m
  have e3 := repS_same l m hok hok' 9 (by decide) hx
  have e4 : decide (fsD l l < 0) = true := by rw [fsD_same, eqB_self]
  generalize fsD l l = F2 at *
  generalize fsD l m = F at *
  have k2 : ((ctD l m (mxD l m) : Nat) : Int) = ((ctD l m (mxD l m) : Nat) : Int) := rfl
  generalize ctD l m (mxD l m) = C at *
  generalize (repS l m 9 (mxD l m)).1 = R at *
  generalize eqB l m = q at *
  have e5 : (F == F) = true := by simp
  have e6 : ((C : Int) == (C : Int)) = true := by simp
  have t1 : (decide (F < 0) == q) = true := by rw [e1]; simp
  have t2 : (((C : Int) == 0) == q) = true := by rw [e2]; simp
  have t3 : ((R.toList == (⟨#[]⟩ : ByteArray).toList) == q) = true := by rw [e3]; simp
  have e7 : R.toList.isEmpty = q := by
    rw [← e3]
    rw [show (⟨#[]⟩ : ByteArray).toList = [] from by rw [ByteArray.toList_eq]]
    cases R.toList <;> rfl
  have t4 : (R.toList.isEmpty == q) = true := by rw [e7]; simp
  clear hR hR' hln hln' hlm hlm' hok hok' k2 hx
  go_enter Try.func3, Try.ntmps3
  go_wp2_with fail
  refine (CQ.out _ (Below.refl _ _)).mono ?_
  rintro e w1 ⟨rfl, j, hw⟩
  have HB : Hid (Below w.heap.size w w1) := Lib.hid (by rw [hw]; exact Below.drewN0 (Below.refl w.heap.size w) _)
  clear hw
  go_wp2_with fail
  refine (CF.out _ HB.out).mono ?_
  rintro e w1 ⟨rfl, j1, hw⟩
  have HB1 : Hid (Below w.heap.size w w1) := Lib.hid (by rw [hw]; exact Below.drewN0 HB.out _)
  clear hw
  go_wp2_with fail
  refine (CC.out _ HB1.out).mono ?_
  rintro e w1 ⟨rfl, j2, hw⟩
  have HB2 : Hid (Below w.heap.size w w1) := Lib.hid (by rw [hw]; exact Below.drewN0 HB1.out _)
  clear hw
  go_wp2_with fail
  refine (CR.out _ HB2.out).mono ?_
  rintro e w2 ⟨rfl, hb⟩
  have HB3 := Lib.hid (Below.trans0 HB2.out hb)
  clear hb
  go_wp2_with fail
  refine (CF.out _ HB3.out).mono ?_
  rintro e w1 ⟨rfl, j4, hw⟩
  have HB4 : Hid (Below w.heap.size w w1) := Lib.hid (by rw [hw]; exact Below.drewN0 HB3.out _)
  clear hw
  go_wp2_with fail
  refine (CF'.out _ HB4.out).mono ?_
  rintro e w1 ⟨rfl, j5, hw⟩
  have HB5 : Hid (Below w.heap.size w w1) := Lib.hid (by rw [hw]; exact Below.drewN0 HB4.out _)
  clear hw
  go_wp2_with fail
  refine (CC.out _ HB5.out).mono ?_
  rintro e w1 ⟨rfl, j6, hw⟩
  have HB6 : Hid (Below w.heap.size w w1) := Lib.hid (by rw [hw]; exact Below.drewN0 HB5.out _)
  clear hw
  go_wp2_with fail
  refine (CC'.out _ HB6.out).mono ?_
  rintro e w1 ⟨rfl, j7, hw⟩
  have HB7 : Hid (Below w.heap.size w w1) := Lib.hid (by rw [hw]; exact Below.drewN0 HB6.out _)
  clear hw
  go_wp2_with fail
  refine (CS.out _ HB7.out).mono ?_
  rintro e w1 ⟨rfl, j8, hw⟩
  have HB8 : Hid (Below w.heap.size w w1) := Lib.hid (by rw [hw]; exact Below.drewN0 HB7.out _)
  clear hw
  go_wp2_with fail
  refine (CA.out _).mono ?_
  rintro e w3 ⟨rfl, hb⟩
  have HB9 := Lib.hid (Below.trans0 HB8.out hb)
  go_wp2
  go_ret
  exact ⟨rfl, HB9.out⟩

set_option maxRecDepth 100000 in
theorem lifted (os : Os) (started : os.Started) (H : Type) (enc : TypeId × Value → H) :
    ReturnsInHanded {} Try.checked os 3 .any (Rows.differSameSpec.pre6 enc Try.prog Try.f3 Rows.differSameRow.domain false) (Rows.differSameSpec.post enc Try.prog Try.f3 false true false false) := by
  refine returnsInHanded_of_change (C := Try.checked) own started (by kernel_rfl) Try.func3
    (ChangeSpec.witness6 (enc := enc) (C := Try.checked) false ⟨#[], #[.slice none 0 0, .slice none 0 0], []⟩ 8 (by kernel_rfl) (by kernel_rfl) (by kernel_rfl) (by kernel_rfl)) ?_
  intro W base args ds gs before hval0 hW hcnd _
  have hval : ∀ (j : Nat) t v, Try.f3.params[j]? = some t → args[j]? = some v → Value.okWide Try.prog W .any base t v := hval0
  have hW' := hW
  obtain ⟨p, q, hA0, hV, rfl, hfz, hnd⟩ := hW
  have hA : DataW.TrodAll enc Try.prog W 0 (fun _ => true) true Try.f3.params.toList args.toList ds p := hA0
  rw [Try.params3] at hA hval
  obtain ⟨v0, vs0, d0, ds0, p0, q0, hargs, rfl, rfl, h0, r0⟩ := trodAll_cons hA
  obtain ⟨v1, vs1, d1, ds1, p1, q1, rfl, rfl, rfl, h1, r1⟩ := trodAll_cons r0
  obtain ⟨rfl, rfl, rfl⟩ := trodAll_nil r1
  obtain rfl : args = #[v0, v1] := by cases args; simp_all
  obtain ⟨rfl, rfl⟩ := trodVars_none hV
  obtain ⟨a0, len0, cap0, rfl⟩ := okWide_slice Try.underlying22 (hval 0 22 v0 rfl rfl)
  have k0 := h0
  have lt0 : ∀ x ∈ p0, x.block < W.heap.size := by obtain ⟨m, hm⟩ := k0; exact DataW.trod_lt m _ _ _ hm
  obtain ⟨z0, w0⟩ : ∃ zs, eR.In Rc.Ok W a0 len0 cap0 zs := by
    obtain ⟨fuel, hf⟩ := h0
    exact open_recs hf
  obtain ⟨a1, len1, cap1, rfl⟩ := okWide_slice Try.underlying22 (hval 1 22 v1 rfl rfl)
  have k1 := h1
  have lt1 : ∀ x ∈ p1, x.block < W.heap.size := by obtain ⟨m, hm⟩ := k1; exact DataW.trod_lt m _ _ _ hm
  obtain ⟨z1, w1⟩ : ∃ zs, eR.In Rc.Ok W a1 len1 cap1 zs := by
    obtain ⟨fuel, hf⟩ := h1
    exact open_recs hf
  clear hA0 hval0
  refine (walk a0 len0 cap0 z0 a1 len1 cap1 z1 W w0 w1).mono fun e W' ⟨he, bel⟩ => ?_
  subst he
  exact ⟨_, rfl, _, _, _, [], _, [], hW', trodAll_mk1 (shut_bool Try.underlying4 _), (trodAll_cons_mk (Below.trod laidOut (by kernel_rfl) (of_decide_eq_true (by kernel_rfl)) k0 bel lt0) (trodAll_cons_mk (Below.trod laidOut (by kernel_rfl) (of_decide_eq_true (by kernel_rfl)) k1 bel lt1) trodAll_mk0)), rfl, bel.frame _, fun h => by cases h⟩

theorem over : Rows.differSameRow.holds Try.pinned (OpenSpec.ofChange Rows.differSameSpec) :=
  OpenClaim.holds_of_wide 3 Try.f3 rfl rfl rfl rfl rfl rfl rfl ⟨rfl, rfl, rfl, rfl, rfl⟩ rfl rfl rfl rfl rfl (by kernel_rfl) Try.func3 (by kernel_rfl)
    (of_decide_eq_true (by kernel_rfl)) (by unfold Func.isWrapper; first | (rw [if_pos (by decide +kernel)]; kernel_rfl) | (rw [if_neg (by decide +kernel)]; exact ⟨rfl, rfl⟩))
    (fun os started H enc _ => lifted os started H enc)

theorem proved : Rows.DifferSameSaid := over
#print axioms proved
end Go.Proofs.Ytpleboogijgdcaa.differSame
