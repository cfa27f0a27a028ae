/- The law ShiftRing answers true for every input, and each argument reads afterwards as it read before. Conditions: none. -/
import Derived.Test.YtdkghfapmoikdaaRows
import Derived.WalkKit
import Derived.ProofKit
import Derived.OpenShut
import Derived.ShutString
import Derived.ChangeOld
import Derived.Below
import Derived.Test.YtdkghfapmoikdaaShiRef
namespace Go.Proofs.Ytdkghfapmoikdaa.shiftRing
open Go.ChangeShapes Go.WideShapes Go.ChangeAt Go.RowKit
open Go.ChangeMaps (open_string shut_string)
set_option linter.unusedVariables false      -- a walk need not use every 'w<i>' (that an integer argument fits its kind)

theorem own : ownKnob Try.prog.godebug = none := by kernel_rfl

set_option maxRecDepth 100000 in
set_option maxHeartbeats 1000000 in
theorem walk (a0 : Int) (a1 : Int) (w0 : (Lit.int .u8 a0).wf = true) (w1 : (Lit.int .u8 a1).wf = true) (w : World) :
    Calls Try.prog 12 #[.int .u8 a0, .int .u8 a1] w fun e w' => e = .returned (.bool true) ∧ Below w.heap.size w w' := by
  obtain ⟨ha, ha'⟩ := bounds_u8 w0
  obtain ⟨hc, hc'⟩ := bounds_u8 w1
  have hcc : CC a1 := CC.mk' hc (by omega)
  obtain ⟨n, rfl⟩ := Int.eq_ofNat_of_zero_le ha
  obtain ⟨c, hcn, hc2⟩ : ∃ c : Nat, a1 % 2 = (c : Int) ∧ c < 2 := ⟨(a1 % 2).toNat, by omega, by omega⟩
  obtain ⟨g1, g2, g3⟩ := ring9 ⟨n, by omega⟩ ⟨c, hc2⟩
  have G1 := Lib.hid g1
  have G2 := Lib.hid g2
  have G3 := Lib.hid g3
  have HCN := Lib.hid hcn
  clear g1 g2 g3 hcn
  go_enter Try.func12, Try.ntmps12
  go_wp2
  go_loopw [5, 6, 7, 8, 9] (fun x f y g i wr => ∃ (k : Nat) (cf cg : Int), k ≤ 9 ∧ i = .int .i64 k ∧ x = .int .u8 ((rolN (n, c) k).1 : Nat) ∧ f = .int .u8 cf ∧ y = .int .u8 ((rorN (n, c) k).1 : Nat) ∧ g = .int .u8 cg ∧ CC cf ∧ CC cg ∧ Hid (cf % 2 = ((rolN (n, c) k).2 : Nat)) ∧ Hid (cg % 2 = ((rorN (n, c) k).2 : Nat)) ∧ Below w.heap.size w wr) (fun _ _ _ _ i _ => 9 - (intOf i).toNat)
  case atStart => exact ⟨0, a1, a1, Nat.zero_le _, rfl, rfl, rfl, rfl, rfl, hcc, hcc, HCN, HCN, Below.refl _ _⟩
  case round =>
    obtain ⟨k, cf, cg, hk, rfl, rfl, rfl, rfl, rfl, hcf, hcg, hlf, hlg, hbel⟩ := hrel
    by_cases hlt : k < 9
    · have o1 := rolN_ok n c (by omega) hc2 k
      have o2 := rorN_ok n c (by omega) hc2 k
      obtain ⟨o11, o12⟩ := o1
      obtain ⟨o21, o22⟩ := o2
      have L1 := Lib.hid (leftR_rol (rolN (n, c) k).1 (rolN (n, c) k).2 o12)
      have L2 := Lib.hid (leftC_rol cf (rolN (n, c) k).1 (rolN (n, c) k).2 hcf o11)
      have R1 := Lib.hid (rightR_ror cg (rorN (n, c) k).1 hcg)
      have R2 := Lib.hid (rightC_ror cg (rorN (n, c) k).1 (rorN (n, c) k).2 (hasRef cg 1) hcg)
      have hcl := CC.left hcf (rolN (n, c) k).1 (cf % 2)
      have hcr := CC.right hcg (rorN (n, c) k).1 (hasRef cg 1)
      go_wp2_with (first
        | (go_at_call 44; refine (rol_any _ _ _ (by omega) (by omega) hcf).mono ?_; rintro e w1 ⟨rfl, hb1⟩)
        | (go_at_call 40; refine (shRor_any _ _ _ (by omega) (by omega) hcg).mono ?_; rintro e w2 ⟨rfl, hb2⟩))
      go_roundw
      case rel =>
        have hq : (cg % 2).toNat = (rorN (n, c) k).2 := by rw [hlg.out]; rfl
        exact ⟨k + 1, _, _, by omega, by go_num, vint (by rw [hlf.out, L1.out]; rfl), rfl, vint (by show rightR _ (hasRef cg 1) = _; rw [R1.out, hq]; rfl), rfl, hcl, hcr, Lib.hid (by rw [hlf.out, L2.out]; rfl), Lib.hid (by show rightC _ _ (hasRef cg 1) % 2 = _; rw [R2.out]; rfl), Below.trans0 (Below.trans0 hbel hb1) hb2⟩
      case measure => simp [intOf]; omega
    · obtain rfl : k = 9 := by omega
      have v1 : (rolN (n, c) 9).1 = n := by rw [G1.out]
      have v2 : (rorN (n, c) 9).1 = n := by rw [G2.out]
      have v3 := hlf.out
      rw [G1.out] at v3
      have v4 := hlg.out
      rw [G2.out] at v4
      rw [v1, v2]
      have L1 := Lib.hid (leftR_rol n c hc2)
      have L2 := Lib.hid (leftC_rol a1 n c hcc (by omega))
      have R1 := Lib.hid (rightR_ror (leftC a1 n (a1 % 2)) (rolS (n, c)).1 (CC.left hcc _ _))
      have R2 := Lib.hid (rightC_ror (leftC a1 n (a1 % 2)) (rolS (n, c)).1 (rolS (n, c)).2 (hasRef (leftC a1 n (a1 % 2)) 1) (CC.left hcc _ _))
      have q1 : leftR n (a1 % 2) = ((rolS (n, c)).1 : Int) := by rw [HCN.out, L1.out]
      have q2 : leftC a1 n (a1 % 2) % 2 = ((rolS (n, c)).2 : Int) := by rw [HCN.out, L2.out]
      have q3 : rightR ((rolS (n, c)).1 : Int) (inRor ((rolS (n, c)).1 : Int) (leftC a1 n (a1 % 2))) = (n : Int) := by
        show rightR _ (hasRef _ 1) = _
        rw [R1.out, q2, Int.toNat_natCast]
        show (((rorS (rolS (n, c))).1 : Nat) : Int) = _
        rw [G3.out]
      have q4 : rightC (leftC a1 n (a1 % 2)) ((rolS (n, c)).1 : Int) (inRor ((rolS (n, c)).1 : Int) (leftC a1 n (a1 % 2))) % 2 = a1 % 2 := by
        show rightC _ _ (hasRef _ 1) % 2 = _
        rw [R2.out]
        show (((rorS (rolS (n, c))).2 : Nat) : Int) = _
        rw [G3.out, HCN.out]
      have e3 : (cf % 2 == a1 % 2) = true := by rw [v3, HCN.out]; simp
      have e4 : (cg % 2 == a1 % 2) = true := by rw [v4, HCN.out]; simp
      have e5 : ((n : Int) == n) = true := by simp
      have hcL := CC.left hcc n (a1 % 2)
      have hcR := CC.right hcL ((rolS (n, c)).1 : Int) (inRor ((rolS (n, c)).1 : Int) (leftC a1 n (a1 % 2)))
      have e6 : (rightC (leftC a1 n (a1 % 2)) ((rolS (n, c)).1 : Int) (inRor ((rolS (n, c)).1 : Int) (leftC a1 n (a1 % 2))) % 2 == a1 % 2) = true := by rw [q4]; simp
      have s1 : (rolS (n, c)).1 < 256 := by unfold rolS; simp only; omega
      have hcR0 := hcR.1
      have hcf0 := hcf.1
      have hcg0 := hcg.1
      clear q2 q4 v3 v4 v1 v2
      go_wp2_with (first
        | (go_at_call 44; refine (rol_any _ _ _ (by omega) (by omega) hcc).mono ?_; rintro e w1 ⟨rfl, hb1⟩)
        | (go_at_call 40; refine (shRor_any _ _ _ (by omega) (by omega) hcL).mono ?_; rintro e w2 ⟨rfl, hb2⟩)
        | (go_at_call 42; refine (alive07 _).mono ?_; rintro e w5 ⟨rfl, hb5⟩))
      go_ret
      exact ⟨rfl, Below.trans0 (Below.trans0 (Below.trans0 hbel hb1) hb2) hb5⟩

set_option maxRecDepth 100000 in
theorem lifted (os : Os) (started : os.Started) (H : Type) (enc : TypeId × Value → H) :
    ReturnsInHanded {} Try.checked os 12 .any (Rows.shiftRingSpec.pre6 enc Try.prog Try.f12 Rows.shiftRingRow.domain false) (Rows.shiftRingSpec.post enc Try.prog Try.f12 false true false false) := by
  refine returnsInHanded_of_change (C := Try.checked) own started (by kernel_rfl) Try.func12
    (ChangeSpec.witness6 (enc := enc) (C := Try.checked) false ⟨#[], #[.int .u8 0, .int .u8 0], []⟩ 8 (by kernel_rfl) (by kernel_rfl) (by kernel_rfl) (by kernel_rfl)) ?_
  intro W base args ds gs before hval0 hW hcnd _
  have hval : ∀ (j : Nat) t v, Try.f12.params[j]? = some t → args[j]? = some v → Value.okWide Try.prog W .any base t v := hval0
  have hW' := hW
  obtain ⟨p, q, hA0, hV, rfl, hfz, hnd⟩ := hW
  have hA : DataW.TrodAll enc Try.prog W 0 (fun _ => true) true Try.f12.params.toList args.toList ds p := hA0
  rw [Try.params12] at hA hval
  obtain ⟨v0, vs0, d0, ds0, p0, q0, hargs, rfl, rfl, h0, r0⟩ := trodAll_cons hA
  obtain ⟨v1, vs1, d1, ds1, p1, q1, rfl, rfl, rfl, h1, r1⟩ := trodAll_cons r0
  obtain ⟨rfl, rfl, rfl⟩ := trodAll_nil r1
  obtain rfl : args = #[v0, v1] := by cases args; simp_all
  obtain ⟨rfl, rfl⟩ := trodVars_none hV
  obtain ⟨a0, rfl, rfl, rfl, w0⟩ := open_int Try.underlying5 (hval 0 5 v0 rfl rfl) h0
  obtain ⟨a1, rfl, rfl, rfl, w1⟩ := open_int Try.underlying5 (hval 1 5 v1 rfl rfl) h1
  clear hA0 hval0
  refine (walk a0 a1 w0 w1 W).mono fun e W' ⟨he, bel⟩ => ?_
  subst he
  exact ⟨_, rfl, _, _, _, [], _, [], hW', trodAll_mk1 (shut_bool Try.underlying4 _), (trodAll_cons_mk (shut_int Try.underlying5 w0) (trodAll_cons_mk (shut_int Try.underlying5 w1) trodAll_mk0)), rfl, bel.frame _, fun h => by cases h⟩

theorem over : Rows.shiftRingRow.holds Try.pinned (OpenSpec.ofChange Rows.shiftRingSpec) :=
  OpenClaim.holds_of_wide 12 Try.f12 rfl rfl rfl rfl rfl rfl rfl ⟨rfl, rfl, rfl, rfl, rfl⟩ rfl rfl rfl rfl rfl (by kernel_rfl) Try.func12 (by kernel_rfl)
    (of_decide_eq_true (by kernel_rfl)) (by unfold Func.isWrapper; first | (rw [if_pos (by decide +kernel)]; kernel_rfl) | (rw [if_neg (by decide +kernel)]; exact ⟨rfl, rfl⟩))
    (fun os started H enc _ => lifted os started H enc)

theorem proved : Rows.ShiftRingSaid :=
  over
#print axioms proved
end Go.Proofs.Ytdkghfapmoikdaa.shiftRing
