/- The law DigitPairs answers true for every input, and each argument reads afterwards as it read before. Conditions: none. -/
import Derived.Test.YtgmacigoihiobaaRows
import Derived.WalkKit
import Derived.ProofKit
import Derived.OpenShut
import Derived.ShutString
import Derived.ChangeOld
import Derived.Below
import Derived.Test.YtgmacigoihiobaaDigPL
namespace Go.Proofs.Ytgmacigoihiobaa.digitPairs
open Go.ChangeShapes Go.WideShapes Go.ChangeAt Go.RowKit
open Go.ChangeMaps (open_string shut_string)
set_option linter.unusedVariables false

theorem own : ownKnob Try.prog.godebug = none := by kernel_rfl
theorem laidOut : laidOutB Try.prog = true := by kernel_rfl


set_option maxRecDepth 100000 in
set_option maxHeartbeats 1000000 in
theorem walk (a0 : Option Addr) (len0 cap0 : Nat) (z0 : List Int) (a1 : ByteArray) (w : World) (w0 : IsRow .u8 w a0 len0 cap0 z0) (w1 : a1.size ≤ maxLen) :
    Calls Try.prog 8 #[.slice a0 len0 cap0, .string a1] w fun e w' => e = .returned (.bool true) ∧ Below w.heap.size w w' := by
  obtain ⟨xs, hx, hm⟩ := Ints.of_row w0
  unfold maxLen at hm
  clear w0
  by_cases h1 : len0 ≤ 200
  · by_cases h2 : a1.size ≤ 200
    · have HX := Lib.hid hx
      have LX := Lib.hid hx.1
      have PB := Lib.hid (pairs_back xs hx.2.1)
      have hz : (strOfNums (pairsOf xs)).size ≤ 1099511627776 := by rw [strOfNums_size, pairsOf_len, LX.out]; omega
      clear hx
      go_enter Try.func8, Try.ntmps8
      go_wp2_with fail
      refine (pairs_any _ _ _ _ _ HX.out (by omega)).mono ?_
      rintro e W1 ⟨rfl, B1⟩
      go_wp2_with fail
      refine (unpair_any _ _ hz).mono ?_
      rintro e W2 ⟨v2, rfl, ho2, hb2⟩
      have B2 := B1.trans (hb2.mono B1.size)
      obtain ⟨A2, c2, rfl, hI2⟩ := ho2.ints (upV_wf _)
      have I2 := Lib.hid hI2
      clear hI2 ho2
      go_wp2_with fail
      refine (unpair_any _ _ (by omega)).mono ?_
      rintro e W3 ⟨v3, rfl, ho3, hb3⟩
      have B3 := B2.trans (hb3.mono B2.size)
      obtain ⟨A3, c3, rfl, hI3⟩ := ho3.ints (upV_wf _)
      have I3 := Lib.hid hI3
      clear hI3 ho3
      go_wp2_with fail
      refine (refUnpair_any _ _ (by omega)).mono ?_
      rintro e W4 ⟨v4, rfl, ho4, hb4⟩
      have B4 := B3.trans (hb4.mono B3.size)
      obtain ⟨A4, c4, rfl, hI4⟩ := ho4.ints (upV_wf _)
      have I4 := Lib.hid hI4
      clear hI4 ho4
      go_wp2_with fail
      refine (refPairs_any _ _ _ _ _ _ (HX.out.below B4.size B4) (by omega)).mono ?_
      rintro e w' ⟨rfl, rfl⟩
      go_wp2_with fail
      refine (bytesEqual_any _ _ _ _ _ _ _ _ _ _ _ (I2.out.below hb3.size (hb3.trans (hb4.mono hb3.size))) (HX.out.below (Nat.le_refl _) B4)).mono ?_
      rintro e w' ⟨rfl, rfl⟩
      have e1 : (upV (nums (strOfNums (pairsOf xs))) == xs) = true := by rw [PB.out.1]; simp
      have e2 : (upE (nums (strOfNums (pairsOf xs))) == 0) = true := by rw [PB.out.2]; rfl
      go_wp2_with fail
      refine (bytesEqual_any _ _ _ _ _ _ _ _ _ _ _ (I3.out.below (Nat.le_refl _) hb4) I4.out).mono ?_
      rintro e w' ⟨rfl, rfl⟩
      have e3 : (upV (nums a1) == upV (nums a1)) = true := by simp
      go_wp2_with fail
      refine (alive02 _).mono ?_
      rintro e W5 ⟨rfl, hb5⟩
      go_wp2
      go_ret
      exact ⟨rfl, B4.trans (hb5.mono B4.size)⟩
    · go_enter Try.func8, Try.ntmps8
      go_wp2
      go_ret
      exact ⟨rfl, Below.refl _ _⟩
  · go_enter Try.func8, Try.ntmps8
    go_wp2
    go_ret
    exact ⟨rfl, Below.refl _ _⟩

set_option maxRecDepth 100000 in
theorem lifted (os : Os) (started : os.Started) (H : Type) (enc : TypeId × Value → H) :
    ReturnsInHanded {} Try.checked os 8 .any (Rows.digitPairsSpec.pre6 enc Try.prog Try.f8 Rows.digitPairsRow.domain false) (Rows.digitPairsSpec.post enc Try.prog Try.f8 false true false false) := by
  refine returnsInHanded_of_change (C := Try.checked) own started (by kernel_rfl) Try.func8
    (ChangeSpec.witness6 (enc := enc) (C := Try.checked) false ⟨#[], #[.slice none 0 0, .string ByteArray.empty], []⟩ 8 (by kernel_rfl) (by kernel_rfl) (by kernel_rfl) (by kernel_rfl)) ?_
  intro W base args ds gs before hval0 hW hcnd _
  have hval : ∀ (j : Nat) t v, Try.f8.params[j]? = some t → args[j]? = some v → Value.okWide Try.prog W .any base t v := hval0
  have hW' := hW
  obtain ⟨p, q, hA0, hV, rfl, hfz, hnd⟩ := hW
  have hA : DataW.TrodAll enc Try.prog W 0 (fun _ => true) true Try.f8.params.toList args.toList ds p := hA0
  rw [Try.params8] at hA hval
  obtain ⟨v0, vs0, d0, ds0, p0, q0, hargs, rfl, rfl, h0, r0⟩ := trodAll_cons hA
  obtain ⟨v1, vs1, d1, ds1, p1, q1, rfl, rfl, rfl, h1, r1⟩ := trodAll_cons r0
  obtain ⟨rfl, rfl, rfl⟩ := trodAll_nil r1
  obtain rfl : args = #[v0, v1] := by cases args; simp_all
  obtain ⟨rfl, rfl⟩ := trodVars_none hV
  obtain ⟨a0, len0, cap0, rfl⟩ := okWide_slice Try.underlying29 (hval 0 29 v0 rfl rfl)
  have k0 := h0
  have lt0 : ∀ x ∈ p0, x.block < W.heap.size := by obtain ⟨m, hm⟩ := k0; exact DataW.trod_lt m _ _ _ hm
  obtain ⟨z0, w0⟩ : ∃ zs, IsRow .u8 W a0 len0 cap0 zs := by
    obtain ⟨fuel, hf⟩ := h0
    rcases open_ints Try.underlying29 Try.underlying5 (by kernel_rfl) hf with ⟨hcs, _⟩ | ⟨x, l, c, zs, hcs, _, hl, hm, hz, _, hcell, hwz⟩
    · simp [Value.cells] at hcs
      obtain ⟨rfl, rfl, rfl⟩ := hcs
      exact ⟨[], .inl ⟨rfl, rfl, rfl, rfl⟩⟩
    · simp [Value.cells] at hcs
      obtain ⟨rfl, rfl, rfl⟩ := hcs
      exact ⟨zs, .inr ⟨_, rfl, hl, hm, by simpa using hz, hcell, hwz⟩⟩
  obtain ⟨a1, rfl, rfl, rfl, w1⟩ := open_string Try.underlying9 (hval 1 9 v1 rfl rfl) h1
  clear hA0 hval0
  refine (walk a0 len0 cap0 z0 a1 W w0 w1).mono fun e W' ⟨he, bel⟩ => ?_
  subst he
  exact ⟨_, rfl, _, _, _, [], _, [], hW', trodAll_mk1 (shut_bool Try.underlying4 _), (trodAll_cons_mk (Below.trod laidOut (by kernel_rfl) (of_decide_eq_true (by kernel_rfl)) k0 bel lt0) (trodAll_cons_mk (shut_string Try.underlying9 w1) trodAll_mk0)), rfl, bel.frame _, fun h => by cases h⟩

theorem over : Rows.digitPairsRow.holds Try.pinned (OpenSpec.ofChange Rows.digitPairsSpec) :=
  OpenClaim.holds_of_wide 8 Try.f8 rfl rfl rfl rfl rfl rfl rfl ⟨rfl, rfl, rfl, rfl, rfl⟩ rfl rfl rfl rfl rfl (by kernel_rfl) Try.func8 (by kernel_rfl)
    (of_decide_eq_true (by kernel_rfl)) (by unfold Func.isWrapper; first | (rw [if_pos (by decide +kernel)]; kernel_rfl) | (rw [if_neg (by decide +kernel)]; exact ⟨rfl, rfl⟩))
    (fun os started H enc _ => lifted os started H enc)

theorem proved : Rows.DigitPairsSaid := over
#print axioms proved
end Go.Proofs.Ytgmacigoihiobaa.digitPairs
