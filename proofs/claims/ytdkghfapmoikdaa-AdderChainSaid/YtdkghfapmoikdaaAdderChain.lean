/- The law AdderChain answers true for every input, and each argument reads afterwards as it read before. Conditions: none. -/
import Derived.Test.YtdkghfapmoikdaaRows
import Derived.WalkKit
import Derived.ProofKit
import Derived.OpenShut
import Derived.ShutString
import Derived.ChangeOld
import Derived.Below
import Derived.Test.YtdkghfapmoikdaaChA
import Derived.Deep.QuietTactic
import Derived.BigQuiet
import Derived.IntWalk
namespace Go.Proofs.Ytdkghfapmoikdaa.adderChain
open Go.ChangeShapes Go.WideShapes Go.ChangeAt Go.RowKit
open Go.ChangeMaps (open_string shut_string)
set_option linter.unusedVariables false

theorem own : ownKnob Try.prog.godebug = none := by kernel_rfl
theorem laidOut : laidOutB Try.prog = true := by kernel_rfl


set_option maxRecDepth 100000 in
set_option maxHeartbeats 1000000 in
theorem walk (a0 : Option Addr) (len0 cap0 : Nat) (z0 : List Int) (a1 : Option Addr) (len1 cap1 : Nat) (z1 : List Int) (a2 : Int) (w : World) (w0 : IsRow .u8 w a0 len0 cap0 z0) (w1 : IsRow .u8 w a1 len1 cap1 z1) (w2 : (Lit.int .u8 a2).wf = true) :
    Calls Try.prog 4 #[.slice a0 len0 cap0, .slice a1 len1 cap1, .int .u8 a2] w fun e w' => e = .returned (.bool true) ∧ Below w.heap.size w w' := by
  obtain ⟨xs, hx, hm⟩ := Ints.of_row w0
  obtain ⟨ys, hy, hm'⟩ := Ints.of_row w1
  obtain ⟨hc, hc'⟩ := bounds_u8 w2
  have hcc : CC a2 := CC.mk' hc (by omega)
  unfold maxLen at hm hm'
  clear w0 w1
  by_cases h1 : len0 ≤ 60
  · by_cases h2 : len1 ≤ 60
    · by_cases he : len0 = len1
      · obtain rfl := he
        have LX := Lib.hid hx.1
        have LY := Lib.hid hy.1
        have HX := Lib.hid hx
        have HY := Lib.hid hy
        clear hx hy
        go_enter Try.func4, Try.ntmps4
        go_wp2_with (go_at_call 19; refine (chainA_any _ _ _ _ _ _ _ _ _ HX.out HY.out (by omega) hcc).mono ?_; rintro e w1 ⟨g, rfl, hg, hR, hb1⟩; have HR := Lib.hid hR; clear hR)
        have hf := chCC_ok (K := addC) (fun _ _ _ _ h => CC.add h _ _ _) xs ys len0 a2 hcc len0
        have hf0 := hf.1
        have hf1 := hf.2
        clear hf
        go_loopw [10, 11] (fun c i wr => ∃ (p : Nat) (x : Int), p ≤ len0 ∧ i = .int .i64 x ∧ Hid (x = (p : Int) - 1) ∧ c = .int .i64 (car addC xs ys len0 a2 (len0 - p)) ∧ Below w1.heap.size w1 wr) (fun _ i _ => (intOf i + 1).toNat)
        case atStart => exact ⟨len0, _, Nat.le_refl _, rfl, Lib.hid rfl, by rw [Nat.sub_self]; rfl, Below.refl _ _⟩
        case round =>
          obtain ⟨p, x, hp, rfl, hx, rfl, hbel⟩ := hrel
          rcases p with _ | q
          · obtain rfl : x = -1 := by have := hx.out; omega
            have B1 : Below w.heap.size w wr := Below.trans0 hb1 hbel
            rcases Nat.eq_zero_or_pos len0 with h0 | h0
            · have h0' := Lib.hid h0
              have e1 : ((len0 : Int) == 0) = true := by rw [h0]; rfl
              have e2 : (chCC addC xs ys len0 a2 len0 == a2) = true := by rw [h0]; simp [chCC]
              clear h0
              go_wp2_with (go_at_call 18; refine (alive04 _).mono ?_; rintro e w3 ⟨rfl, hb3⟩)
              go_ret
              exact ⟨rfl, Below.trans0 B1 hb3⟩
            · have e1 : ((len0 : Int) == 0) = false := by rw [beq_eq_false_iff_ne]; omega
              have e3 : (0 : Int) < (len0 : Int) := by omega
              have e2 : (chCC addC xs ys len0 a2 len0 % 2 == car addC xs ys len0 a2 (len0 - 0)) = true := by rw [Nat.sub_zero, car_pos _ _ _ _ _ _ h0]; simp
              have e2' : (chCC addC xs ys len0 a2 len0 % 2 == car addC xs ys len0 a2 len0) = true := by rw [car_pos _ _ _ _ _ _ h0]; simp
              go_wp2_with (go_at_call 18; refine (alive04 _).mono ?_; rintro e w3 ⟨rfl, hb3⟩)
              go_ret
              exact ⟨rfl, Below.trans0 B1 hb3⟩
          · obtain rfl : x = (q : Int) := by have := hx.out; omega
            obtain ⟨b, off, rfl, hb, hcell⟩ := HX.out.2.2 (by omega)
            obtain ⟨b', off', rfl, hb', hcell'⟩ := HY.out.2.2 (by omega)
            have hk1 := (hbel.cell (p := ⟨b, off + q, none⟩) (Nat.lt_of_lt_of_le hb hb1.size)).trans ((hb1.cell (p := ⟨b, off + q, none⟩) hb).trans (hcell q (by omega)))
            have hk2 := (hbel.cell (p := ⟨b', off' + q, none⟩) (Nat.lt_of_lt_of_le hb' hb1.size)).trans ((hb1.cell (p := ⟨b', off' + q, none⟩) hb').trans (hcell' q (by omega)))
            have hk3 := (hbel.cell (p := ⟨g, q, none⟩) HR.out.lt).trans (HR.out.cell q (by rw [outL_len]; omega))
            rw [outL_at _ _ _ (by omega), show len0 - 1 - q = len0 - (q + 1) by omega, dig_down _ _ _ _ _ _ q (by omega)] at hk3
            obtain ⟨x0, x1⟩ := bounds_u8 (iat_wf HX.out.2.1 q (by rw [LX.out]; omega))
            obtain ⟨y0, y1⟩ := bounds_u8 (iat_wf HY.out.2.1 q (by rw [LY.out]; omega))
            obtain ⟨c0, c1⟩ := car_range (K := addC) xs ys len0 a2 (len0 - (q + 1))
            have hcn : Hid (car addC xs ys len0 a2 (len0 - q) = (iat xs q + iat ys q + car addC xs ys len0 a2 (len0 - (q + 1))) / 256) := Lib.hid (by
              rw [car_pos _ _ _ _ _ (len0 - q) (by omega), chCC_down addC xs ys len0 a2 q (by omega), addC_low _ _ _ _ (chCC_ok (fun _ _ _ _ h => CC.add h _ _ _) xs ys len0 a2 hcc _)]
              split <;> omega)
            obtain ⟨u, hu⟩ : ∃ u, u = car addC xs ys len0 a2 (len0 - (q + 1)) := ⟨_, rfl⟩
            rw [← hu] at hcn hk3 c0 c1 ⊢
            have q0 : (0 : Int) ≤ (q : Int) := by omega
            have q1 : (q : Int) < (len0 : Int) := by omega
            have t1 : IntKind.i64.wrap (iat xs q + iat ys q) = iat xs q + iat ys q := IntWalk.i64_in _ (by omega)
            have t2 : IntKind.i64.wrap (iat xs q + iat ys q + u) = iat xs q + iat ys q + u := IntWalk.i64_in _ (by omega)
            have e1 : (addD (iat xs q) (iat ys q) u != (iat xs q + iat ys q + u) % 256) = false := by unfold addD; simp
            have d0 : 0 ≤ addD (iat xs q) (iat ys q) u := by unfold addD; omega
            have d1 : addD (iat xs q) (iat ys q) u < 256 := by unfold addD; omega
            have HU := Lib.hid hu
            clear hcell hcell' hu
            go_wp2
            go_quiet (fail)
            clear t1 t2
            go_wp2
            go_roundw
            case rel => exact ⟨q, _, by omega, rfl, Lib.hid rfl, by rw [hcn.out], Below.drewN0 hbel _⟩
            case measure => simp [intOf]; try omega
      · go_enter Try.func4, Try.ntmps4
        have hne : ((len0 : Int) != (len1 : Int)) = true := by simp; omega
        go_wp2_with (first
          | (go_at_call 19; refine (chainA_no _ _ _ _ _ _ _ _ (by omega) (by omega) (by omega)).mono ?_; rintro e w' ⟨rfl, rfl⟩)
          | (go_at_call 18; refine (alive04 _).mono ?_; rintro e w3 ⟨rfl, hb3⟩))
        go_ret
        exact ⟨rfl, hb3⟩
    · go_enter Try.func4, Try.ntmps4
      go_wp2
      go_ret
      exact ⟨rfl, Below.refl _ _⟩
  · go_enter Try.func4, Try.ntmps4
    go_wp2
    go_ret
    exact ⟨rfl, Below.refl _ _⟩

set_option maxRecDepth 100000 in
theorem lifted (os : Os) (started : os.Started) (H : Type) (enc : TypeId × Value → H) :
    ReturnsInHanded {} Try.checked os 4 .any (Rows.adderChainSpec.pre6 enc Try.prog Try.f4 Rows.adderChainRow.domain false) (Rows.adderChainSpec.post enc Try.prog Try.f4 false true false false) := by
  refine returnsInHanded_of_change (C := Try.checked) own started (by kernel_rfl) Try.func4
    (ChangeSpec.witness6 (enc := enc) (C := Try.checked) false ⟨#[], #[.slice none 0 0, .slice none 0 0, .int .u8 0], []⟩ 8 (by kernel_rfl) (by kernel_rfl) (by kernel_rfl) (by kernel_rfl)) ?_
  intro W base args ds gs before hval0 hW hcnd _
  have hval : ∀ (j : Nat) t v, Try.f4.params[j]? = some t → args[j]? = some v → Value.okWide Try.prog W .any base t v := hval0
  have hW' := hW
  obtain ⟨p, q, hA0, hV, rfl, hfz, hnd⟩ := hW
  have hA : DataW.TrodAll enc Try.prog W 0 (fun _ => true) true Try.f4.params.toList args.toList ds p := hA0
  rw [Try.params4] at hA hval
  obtain ⟨v0, vs0, d0, ds0, p0, q0, hargs, rfl, rfl, h0, r0⟩ := trodAll_cons hA
  obtain ⟨v1, vs1, d1, ds1, p1, q1, rfl, rfl, rfl, h1, r1⟩ := trodAll_cons r0
  obtain ⟨v2, vs2, d2, ds2, p2, q2, rfl, rfl, rfl, h2, r2⟩ := trodAll_cons r1
  obtain ⟨rfl, rfl, rfl⟩ := trodAll_nil r2
  obtain rfl : args = #[v0, v1, v2] := by cases args; simp_all
  obtain ⟨rfl, rfl⟩ := trodVars_none hV
  obtain ⟨a0, len0, cap0, rfl⟩ := okWide_slice Try.underlying27 (hval 0 27 v0 rfl rfl)
  have k0 := h0
  have lt0 : ∀ x ∈ p0, x.block < W.heap.size := by obtain ⟨m, hm⟩ := k0; exact DataW.trod_lt m _ _ _ hm
  obtain ⟨z0, w0⟩ : ∃ zs, IsRow .u8 W a0 len0 cap0 zs := by
    obtain ⟨fuel, hf⟩ := h0
    rcases open_ints Try.underlying27 Try.underlying5 (by kernel_rfl) hf with ⟨hcs, _⟩ | ⟨x, l, c, zs, hcs, _, hl, hm, hz, _, hcell, hwz⟩
    · simp [Value.cells] at hcs
      obtain ⟨rfl, rfl, rfl⟩ := hcs
      exact ⟨[], .inl ⟨rfl, rfl, rfl, rfl⟩⟩
    · simp [Value.cells] at hcs
      obtain ⟨rfl, rfl, rfl⟩ := hcs
      exact ⟨zs, .inr ⟨_, rfl, hl, hm, by simpa using hz, hcell, hwz⟩⟩
  obtain ⟨a1, len1, cap1, rfl⟩ := okWide_slice Try.underlying27 (hval 1 27 v1 rfl rfl)
  have k1 := h1
  have lt1 : ∀ x ∈ p1, x.block < W.heap.size := by obtain ⟨m, hm⟩ := k1; exact DataW.trod_lt m _ _ _ hm
  obtain ⟨z1, w1⟩ : ∃ zs, IsRow .u8 W a1 len1 cap1 zs := by
    obtain ⟨fuel, hf⟩ := h1
    rcases open_ints Try.underlying27 Try.underlying5 (by kernel_rfl) hf with ⟨hcs, _⟩ | ⟨x, l, c, zs, hcs, _, hl, hm, hz, _, hcell, hwz⟩
    · simp [Value.cells] at hcs
      obtain ⟨rfl, rfl, rfl⟩ := hcs
      exact ⟨[], .inl ⟨rfl, rfl, rfl, rfl⟩⟩
    · simp [Value.cells] at hcs
      obtain ⟨rfl, rfl, rfl⟩ := hcs
      exact ⟨zs, .inr ⟨_, rfl, hl, hm, by simpa using hz, hcell, hwz⟩⟩
  obtain ⟨a2, rfl, rfl, rfl, w2⟩ := open_int Try.underlying5 (hval 2 5 v2 rfl rfl) h2
  clear hA0 hval0
  refine (walk a0 len0 cap0 z0 a1 len1 cap1 z1 a2 W w0 w1 w2).mono fun e W' ⟨he, bel⟩ => ?_
  subst he
  exact ⟨_, rfl, _, _, _, [], _, [], hW', trodAll_mk1 (shut_bool Try.underlying4 _), (trodAll_cons_mk (Below.trod laidOut (by kernel_rfl) (of_decide_eq_true (by kernel_rfl)) k0 bel lt0) (trodAll_cons_mk (Below.trod laidOut (by kernel_rfl) (of_decide_eq_true (by kernel_rfl)) k1 bel lt1) (trodAll_cons_mk (shut_int Try.underlying5 w2) trodAll_mk0))), rfl, bel.frame _, fun h => by cases h⟩

theorem over : Rows.adderChainRow.holds Try.pinned (OpenSpec.ofChange Rows.adderChainSpec) :=
  OpenClaim.holds_of_wide 4 Try.f4 rfl rfl rfl rfl rfl rfl rfl ⟨rfl, rfl, rfl, rfl, rfl⟩ rfl rfl rfl rfl rfl (by kernel_rfl) Try.func4 (by kernel_rfl)
    (of_decide_eq_true (by kernel_rfl)) (by unfold Func.isWrapper; first | (rw [if_pos (by decide +kernel)]; kernel_rfl) | (rw [if_neg (by decide +kernel)]; exact ⟨rfl, rfl⟩))
    (fun os started H enc _ => lifted os started H enc)

theorem proved : Rows.AdderChainSaid := over
#print axioms proved
end Go.Proofs.Ytdkghfapmoikdaa.adderChain
