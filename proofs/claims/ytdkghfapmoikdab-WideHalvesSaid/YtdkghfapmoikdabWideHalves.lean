/- The law WideHalves answers true for every input, and each argument reads afterwards as it read before. Conditions: none. -/
import Derived.Test.YtdkghfapmoikdabRows
import Derived.WalkKit
import Derived.ProofKit
import Derived.OpenShut
import Derived.ShutString
import Derived.ChangeOld
import Derived.Below
import Derived.Test.YtdkghfapmoikdabWid
namespace Go.Proofs.Ytdkghfapmoikdab.wideHalves
open Go.ChangeShapes Go.WideShapes Go.ChangeAt Go.RowKit
open Go.ChangeMaps (open_string shut_string)
set_option linter.unusedVariables false      -- a walk need not use every 'w<i>' (that an integer argument fits its kind)

theorem own : ownKnob Try.prog.godebug = none := by kernel_rfl

set_option maxRecDepth 100000 in
set_option maxHeartbeats 1000000 in
theorem walk (a0 : Int) (a1 : Int) (a2 : Int) (w0 : (Lit.int .u16 a0).wf = true) (w1 : (Lit.int .u16 a1).wf = true) (w2 : (Lit.int .u8 a2).wf = true) (w : World) :
    Calls Try.prog 10 #[.int .u16 a0, .int .u16 a1, .int .u8 a2] w fun e w' => e = .returned (.bool true) ∧ Below w.heap.size w w' := by
  obtain ⟨ha, ha'⟩ := bounds_u16 w0
  obtain ⟨hb, hb'⟩ := bounds_u16 w1
  obtain ⟨hc, hc'⟩ := bounds_u8 w2
  have hcc : CC a2 := CC.mk' hc (by omega)
  obtain ⟨f, hf⟩ : ∃ f, addC a2 (a0 % 256) (a1 % 256) 0 = f := ⟨_, rfl⟩
  obtain ⟨g, hg⟩ : ∃ g, addC f (a0 / 256) (a1 / 256) (f % 2) = g := ⟨_, rfl⟩
  obtain ⟨x, hx⟩ : ∃ x, wordC a2 (a0 + a1) (sgW a0 + sgW a1) = x := ⟨_, rfl⟩
  obtain ⟨h, hh⟩ : ∃ h, subC a2 (a0 % 256) (a1 % 256) 0 = h := ⟨_, rfl⟩
  obtain ⟨i, hi⟩ : ∃ i, subC h (a0 / 256) (a1 / 256) (h % 2) = i := ⟨_, rfl⟩
  obtain ⟨y, hy⟩ : ∃ y, wordC a2 (a0 - a1) (sgW a0 - sgW a1) = y := ⟨_, rfl⟩
  obtain ⟨p1, p2, p3, cf, cg, cx⟩ := addHalves a2 a0 a1 hcc ha (by omega) hb (by omega) f g x hf hg hx
  obtain ⟨q1, q2, q3, ch, ci, cy⟩ := subHalves a2 a0 a1 hcc ha (by omega) hb (by omega) h i y hh hi hy
  obtain ⟨b1, b2⟩ := cf
  obtain ⟨b3, b4⟩ := cg
  obtain ⟨b5, b6⟩ := cx
  obtain ⟨d1, d2⟩ := ch
  obtain ⟨d3, d4⟩ := ci
  obtain ⟨d5, d6⟩ := cy
  have cf : CC f := CC.mk' b1 b2
  have ch : CC h := CC.mk' d1 d2
  have e1 : (256 * ((a0 / 256 + a1 / 256 + f % 2) % 256) + (a0 + a1) % 256 == (a0 + a1) % 65536) = true := by rw [p1]; simp
  have e2 : (256 * ((a0 / 256 - a1 / 256 - h % 2) % 256) + (a0 - a1) % 256 == (a0 - a1) % 65536) = true := by rw [q1]; simp
  have e3 : (g % 4 == x % 4) = true := by rw [p2]; simp
  have e4 : (g / 8 % 2 == x / 8 % 2) = true := by rw [p3]; simp
  have e5 : (i % 4 == y % 4) = true := by rw [q2]; simp
  have e6 : (i / 8 % 2 == y / 8 % 2) = true := by rw [q3]; simp
  clear p1 p2 p3 q1 q2 q3
  go_enter Try.func10, Try.ntmps10
  go_wp2_with (first
    | (go_at_call 37; refine (low_any _ _ (by omega) (by omega)).mono ?_; rintro e w' ⟨rfl, rfl⟩)
    | (go_at_call 38; refine (high_any _ _ (by omega) (by omega)).mono ?_; rintro e w' ⟨rfl, rfl⟩)
    | (go_at_call 41; refine (word_any _ _ _ (by omega) (by omega) (by omega) (by omega)).mono ?_; rintro e w' ⟨rfl, rfl⟩)
    | (go_at_call 36; refine (add_any _ _ _ _ (by omega) (by omega) (by omega) (by omega) hcc).mono ?_; rintro e w1 ⟨rfl, hb1⟩)
    | (go_at_call 14; refine (adc_any _ _ _ _ (by omega) (by omega) (by omega) (by omega) cf).mono ?_; rintro e w2 ⟨rfl, hb2⟩)
    | (go_at_call 24; refine (addW_any _ _ _ _ ha (by omega) hb (by omega) hcc).mono ?_; rintro e w3 ⟨rfl, hb3⟩)
    | (go_at_call 39; refine (sub_any _ _ _ _ (by omega) (by omega) (by omega) (by omega) hcc).mono ?_; rintro e w4 ⟨rfl, hb4⟩)
    | (go_at_call 40; refine (sbc_any _ _ _ _ (by omega) (by omega) (by omega) (by omega) ch).mono ?_; rintro e w5 ⟨rfl, hb5⟩)
    | (go_at_call 26; refine (subW_any _ _ _ _ ha (by omega) hb (by omega) hcc).mono ?_; rintro e w6 ⟨rfl, hb6⟩)
    | (go_at_call 29; refine (alive11 _).mono ?_; rintro e w7 ⟨rfl, hb7⟩))
  go_ret
  exact ⟨rfl, Below.trans0 (Below.trans0 (Below.trans0 (Below.trans0 (Below.trans0 (Below.trans0 hb1 hb2) hb3) hb4) hb5) hb6) hb7⟩

set_option maxRecDepth 100000 in
theorem lifted (os : Os) (started : os.Started) (H : Type) (enc : TypeId × Value → H) :
    ReturnsInHanded {} Try.checked os 10 .any (Rows.wideHalvesSpec.pre6 enc Try.prog Try.f10 Rows.wideHalvesRow.domain false) (Rows.wideHalvesSpec.post enc Try.prog Try.f10 false true false false) := by
  refine returnsInHanded_of_change (C := Try.checked) own started (by kernel_rfl) Try.func10
    (ChangeSpec.witness6 (enc := enc) (C := Try.checked) false ⟨#[], #[.int .u16 0, .int .u16 0, .int .u8 0], []⟩ 8 (by kernel_rfl) (by kernel_rfl) (by kernel_rfl) (by kernel_rfl)) ?_
  intro W base args ds gs before hval0 hW hcnd _
  have hval : ∀ (j : Nat) t v, Try.f10.params[j]? = some t → args[j]? = some v → Value.okWide Try.prog W .any base t v := hval0
  have hW' := hW
  obtain ⟨p, q, hA0, hV, rfl, hfz, hnd⟩ := hW
  have hA : DataW.TrodAll enc Try.prog W 0 (fun _ => true) true Try.f10.params.toList args.toList ds p := hA0
  rw [Try.params10] at hA hval
  obtain ⟨v0, vs0, d0, ds0, p0, q0, hargs, rfl, rfl, h0, r0⟩ := trodAll_cons hA
  obtain ⟨v1, vs1, d1, ds1, p1, q1, rfl, rfl, rfl, h1, r1⟩ := trodAll_cons r0
  obtain ⟨v2, vs2, d2, ds2, p2, q2, rfl, rfl, rfl, h2, r2⟩ := trodAll_cons r1
  obtain ⟨rfl, rfl, rfl⟩ := trodAll_nil r2
  obtain rfl : args = #[v0, v1, v2] := by cases args; simp_all
  obtain ⟨rfl, rfl⟩ := trodVars_none hV
  obtain ⟨a0, rfl, rfl, rfl, w0⟩ := open_int Try.underlying35 (hval 0 35 v0 rfl rfl) h0
  obtain ⟨a1, rfl, rfl, rfl, w1⟩ := open_int Try.underlying35 (hval 1 35 v1 rfl rfl) h1
  obtain ⟨a2, rfl, rfl, rfl, w2⟩ := open_int Try.underlying5 (hval 2 5 v2 rfl rfl) h2
  clear hA0 hval0
  refine (walk a0 a1 a2 w0 w1 w2 W).mono fun e W' ⟨he, bel⟩ => ?_
  subst he
  exact ⟨_, rfl, _, _, _, [], _, [], hW', trodAll_mk1 (shut_bool Try.underlying4 _), (trodAll_cons_mk (shut_int Try.underlying35 w0) (trodAll_cons_mk (shut_int Try.underlying35 w1) (trodAll_cons_mk (shut_int Try.underlying5 w2) trodAll_mk0))), rfl, bel.frame _, fun h => by cases h⟩

theorem over : Rows.wideHalvesRow.holds Try.pinned (OpenSpec.ofChange Rows.wideHalvesSpec) :=
  OpenClaim.holds_of_wide 10 Try.f10 rfl rfl rfl rfl rfl rfl rfl ⟨rfl, rfl, rfl, rfl, rfl⟩ rfl rfl rfl rfl rfl (by kernel_rfl) Try.func10 (by kernel_rfl)
    (of_decide_eq_true (by kernel_rfl)) (by unfold Func.isWrapper; first | (rw [if_pos (by decide +kernel)]; kernel_rfl) | (rw [if_neg (by decide +kernel)]; exact ⟨rfl, rfl⟩))
    (fun os started H enc _ => lifted os started H enc)

theorem proved : Rows.WideHalvesSaid :=
  over
#print axioms proved
end Go.Proofs.Ytdkghfapmoikdab.wideHalves
