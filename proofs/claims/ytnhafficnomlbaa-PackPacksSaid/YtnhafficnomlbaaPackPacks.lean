/- The law PackPacks answers true for every input, and each argument reads afterwards as it read before. Conditions: none. -/
import Derived.Test.YtnhafficnomlbaaRows
import Derived.WalkKit
import Derived.ProofKit
import Derived.OpenShut
import Derived.ShutString
import Derived.ChangeOld
import Derived.Below
import Derived.Test.YtnhafficnomlbaaPckV
import Derived.Test.YtnhafficnomlbaaPckR
import Derived.Test.YtnhafficnomlbaaPckA
namespace Go.Proofs.Ytnhafficnomlbaa.packPacks
open Go.ChangeShapes Go.WideShapes Go.ChangeAt Go.RowKit
open Go.ChangeMaps (open_string shut_string)
set_option linter.unusedVariables false

theorem own : ownKnob Try.prog.godebug = none := by kernel_rfl
theorem laidOut : laidOutB Try.prog = true := by kernel_rfl


set_option maxRecDepth 100000 in
set_option maxHeartbeats 1000000 in
theorem walk (a0 : Option Addr) (len0 cap0 : Nat) (z0 : List Int) (w : World) (w0 : IsRow .u8 w a0 len0 cap0 z0) :
    Calls Try.prog 5 #[.slice a0 len0 cap0] w fun e w' => e = .returned (.bool true) ∧ Below w.heap.size w w' := by
  obtain ⟨xs, hx, hl, hm, hz⟩ := rdY_of_row w0
  have hcap : len0 ≤ cap0 := by
    rcases w0 with ⟨_, rfl, _⟩ | ⟨_, _, h, _⟩
    · exact Nat.zero_le _
    · exact h
  unfold maxLen at hm
  clear w0
  by_cases h1 : len0 ≤ 600
  · have RX := Lib.hid hx
    have HX := Lib.hid hl
    have ZX := Lib.hid hz
    have PL := Lib.hid (pack_long xs.length xs (Nat.le_refl _))
    have PB := Lib.hid (packL_byt xs.length xs (Nat.le_refl _) hz)
    have PU := unpL_pack xs hz
    rw [hl] at PU
    have HU := Lib.hid PU
    have CP := Lib.hid (pack_any a0 len0 cap0 xs w hx hcap hz (by omega))
    have CR := Lib.hid (fun (u : World) (hb : Below w.heap.size w u) => refPack_any a0 len0 cap0 xs u (Els.Rd.below hx hb) hcap hz (by omega))
    clear hx hl hz PU
    go_enter Try.func5, Try.ntmps5
    go_wp2_with fail
    refine CP.out.mono ?_
    rintro e w1 ⟨v1, rfl, ho, hb⟩
    obtain ⟨A1, c1, rfl, hc1⟩ := ownP_cap ho
    have B1 := Lib.hid hb
    have R1 := Lib.hid ho.rd
    have CU := Lib.hid (unpack_any A1 (packL xs).length c1 (packL xs) (len0 : Int) (by simp [Lit.wf, IntKind.min, IntKind.max, IntKind.signed, IntKind.bits]; omega) w1 ho.rd hc1 PB.out (by have := PL.out; have := HX.out; omega))
    clear ho hb hc1 CP
    go_wp2_with fail
    refine CU.out.mono ?_
    rintro e w2 ⟨v2, rfl, hr, hb⟩
    rw [HU.out] at hr ⊢
    have B2 := Lib.hid (B1.out.trans (hb.mono B1.out.size))
    have R2 := Lib.hid hr
    have S2 := Lib.hid (Els.Rd.below R1.out hb)
    clear hr hb CU
    go_wp2_with fail
    refine (CR.out _ B2.out).mono ?_
    rintro e w3 ⟨v3, rfl, ho, hb⟩
    have B3 := Lib.hid (Below.trans0 B2.out hb)
    have CE := Lib.hid (eqY_any _ v3 _ _ w3 (Els.Rd.below S2.out hb) ho.rd PB.out PB.out)
    have CF := Lib.hid (eqY_any v2 (.slice a0 len0 cap0) xs xs w3 (Els.Rd.below R2.out hb) (Els.Rd.below RX.out B3.out) ZX.out ZX.out)
    rw [beq_self_eq_true] at CE CF
    clear ho hb
    go_wp2_with fail
    refine CE.out.mono ?_
    rintro e w4 ⟨rfl, rfl⟩
    go_wp2_with fail
    refine CF.out.mono ?_
    rintro e w4 ⟨rfl, rfl⟩
    go_wp2_with fail
    refine (alive38 _).mono ?_
    rintro e w5 ⟨rfl, hb⟩
    have B5 := Lib.hid (Below.trans0 B3.out hb)
    clear hb
    go_wp2
    go_ret
    exact ⟨rfl, B5.out⟩
  · go_enter Try.func5, Try.ntmps5
    go_wp2
    go_ret
    exact ⟨rfl, Below.refl _ _⟩

set_option maxRecDepth 100000 in
theorem lifted (os : Os) (started : os.Started) (H : Type) (enc : TypeId × Value → H) :
    ReturnsInHanded {} Try.checked os 5 .any (Rows.packPacksSpec.pre6 enc Try.prog Try.f5 Rows.packPacksRow.domain false) (Rows.packPacksSpec.post enc Try.prog Try.f5 false true false false) := by
  refine returnsInHanded_of_change (C := Try.checked) own started (by kernel_rfl) Try.func5
    (ChangeSpec.witness6 (enc := enc) (C := Try.checked) false ⟨#[], #[.slice none 0 0], []⟩ 8 (by kernel_rfl) (by kernel_rfl) (by kernel_rfl) (by kernel_rfl)) ?_
  intro W base args ds gs before hval0 hW hcnd _
  have hval : ∀ (j : Nat) t v, Try.f5.params[j]? = some t → args[j]? = some v → Value.okWide Try.prog W .any base t v := hval0
  have hW' := hW
  obtain ⟨p, q, hA0, hV, rfl, hfz, hnd⟩ := hW
  have hA : DataW.TrodAll enc Try.prog W 0 (fun _ => true) true Try.f5.params.toList args.toList ds p := hA0
  rw [Try.params5] at hA hval
  obtain ⟨v0, vs0, d0, ds0, p0, q0, hargs, rfl, rfl, h0, r0⟩ := trodAll_cons hA
  obtain ⟨rfl, rfl, rfl⟩ := trodAll_nil r0
  obtain rfl : args = #[v0] := by cases args; simp_all
  obtain ⟨rfl, rfl⟩ := trodVars_none hV
  obtain ⟨a0, len0, cap0, rfl⟩ := okWide_slice Try.underlying22 (hval 0 22 v0 rfl rfl)
  have k0 := h0
  have lt0 : ∀ x ∈ p0, x.block < W.heap.size := by obtain ⟨m, hm⟩ := k0; exact DataW.trod_lt m _ _ _ hm
  obtain ⟨z0, w0⟩ : ∃ zs, IsRow .u8 W a0 len0 cap0 zs := by
    obtain ⟨fuel, hf⟩ := h0
    rcases open_ints Try.underlying22 Try.underlying5 (by kernel_rfl) hf with ⟨hcs, _⟩ | ⟨x, l, c, zs, hcs, _, hl, hm, hz, _, hcell, hwz⟩
    · simp [Value.cells] at hcs
      obtain ⟨rfl, rfl, rfl⟩ := hcs
      exact ⟨[], .inl ⟨rfl, rfl, rfl, rfl⟩⟩
    · simp [Value.cells] at hcs
      obtain ⟨rfl, rfl, rfl⟩ := hcs
      exact ⟨zs, .inr ⟨_, rfl, hl, hm, by simpa using hz, hcell, hwz⟩⟩
  clear hA0 hval0
  refine (walk a0 len0 cap0 z0 W w0).mono fun e W' ⟨he, bel⟩ => ?_
  subst he
  exact ⟨_, rfl, _, _, _, [], _, [], hW', trodAll_mk1 (shut_bool Try.underlying4 _), (trodAll_cons_mk (Below.trod laidOut (by kernel_rfl) (of_decide_eq_true (by kernel_rfl)) k0 bel lt0) trodAll_mk0), rfl, bel.frame _, fun h => by cases h⟩

theorem over : Rows.packPacksRow.holds Try.pinned (OpenSpec.ofChange Rows.packPacksSpec) :=
  OpenClaim.holds_of_wide 5 Try.f5 rfl rfl rfl rfl rfl rfl rfl ⟨rfl, rfl, rfl, rfl, rfl⟩ rfl rfl rfl rfl rfl (by kernel_rfl) Try.func5 (by kernel_rfl)
    (of_decide_eq_true (by kernel_rfl)) (by unfold Func.isWrapper; first | (rw [if_pos (by decide +kernel)]; kernel_rfl) | (rw [if_neg (by decide +kernel)]; exact ⟨rfl, rfl⟩))
    (fun os started H enc _ => lifted os started H enc)

theorem proved : Rows.PackPacksSaid := over
#print axioms proved
end Go.Proofs.Ytnhafficnomlbaa.packPacks
