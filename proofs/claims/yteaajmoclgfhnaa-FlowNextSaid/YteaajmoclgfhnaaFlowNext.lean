/- The law FlowNext answers true for every input, and each argument reads afterwards as it read before. Conditions: none. -/
import Derived.Test.YteaajmoclgfhnaaRows
import Derived.WalkKit
import Derived.ProofKit
import Derived.OpenShut
import Derived.ShutString
import Derived.ChangeOld
import Derived.Below
import Derived.Test.YteaajmoclgfhnaaFll
import Derived.Test.YteaajmoclgfhnaaRow0
import Derived.SizedLaws
import Derived.HandedShaped
namespace Go.Proofs.Yteaajmoclgfhnaa.flowNext
open Go.ChangeShapes Go.WideShapes Go.ChangeAt Go.RowKit
open Go.ChangeMaps (open_string shut_string)
set_option linter.unusedVariables false

theorem own : ownKnob Try.prog.godebug = none := by kernel_rfl
theorem laidOut : laidOutB Try.prog = true := by kernel_rfl


set_option maxRecDepth 100000 in
set_option maxHeartbeats 4000000 in
theorem walk (a0 : Option Addr) (len0 cap0 : Nat) (z0 : List Int) (a1 : Int) (w : World) (w0 : IsRow .u8 w a0 len0 cap0 z0) (w1 : (Lit.int .u16 a1).wf = true) (q0 : cap0 ≤ 140737488351232) (hS : w.ShapedOpen Try.prog) :
    Calls Try.prog 4 #[.slice a0 len0 cap0, .int .u16 a1] w fun e w' => e = .returned (.bool true) ∧ Below w.heap.size w w' := by
  -- reach 0
  -- heartbeats 4000000
  obtain ⟨xs, hI, hm⟩ := Ints.of_row w0
  have hc := bounds_u16 w1
  have hl := w0.le_cap
  have C1 := of18_any a0 len0 cap0 xs w hI w0.none0 (by omega)
  have hwf := hI.wf
  clear hI w0
  by_cases hk : inOk xs = true
  · have CF := fun u => flowOf hwf hk a1 hc.1 (by omega) u
    have CR := fun u => refOfF hwf hk a1 hc.1 (by omega) u
    have LL := Lib.hid (fwL_len xs a1)
    rw [hk] at C1
    obtain ⟨p, c, o, m, r, b, v, l, hA⟩ := inAgg_ok hk
    rw [hA] at C1 CF CR
    generalize fwL xs a1 = L at CF CR LL
    generalize fwA xs = F at CF CR
    have D1 := Lib.hid C1
    have DF := Lib.hid CF
    have DR := Lib.hid CR
    have CE := Lib.hid (fun (u : World) (A A' : Option Addr) (c c' : Nat) (h : Ints .u16 u u.heap.size A L.length L) (h' : Ints .u16 u u.heap.size A' L.length L) => eqW (c := c) (c' := c') h h' LL.out)
    have CA := Lib.hid (fun u => alive54 u)
    clear C1 CF CR hA hk hwf
    by_cases h20 : len0 ≤ 20
    · go_enter Try.func4, Try.ntmps4
      go_wp2_with fail
      refine D1.out.mono ?_
      rintro e w1 ⟨rfl, hb⟩
      have HB1 := Lib.hid (Below.alloc0 hb (Obj.cells (iD p c o m r b v l) 37))
      have HS1 := Lib.hid (Blk.new w1 37 (iD p c o m r b v l) (0, 0))
      clear hb
      go_wp2_with fail
      refine (DF.out _).mono ?_
      rintro e w2 ⟨A2, c2, rfl, hi2, hb⟩
      have HB2 := Lib.hid (Below.trans0 HB1.out hb)
      have HS2 := Lib.hid (Blk.below HS1.out hb HS1.out.lt)
      have HI2 := Lib.hid hi2
      clear hb hi2
      obtain ⟨q0, q1, q2, q3, q4, q5, q6, q7⟩ := Blk.c8 HS2.out
      go_wp2_with fail
      clear q0 q1 q2 q3 q4 q5 q6 q7
      refine (DR.out _).mono ?_
      rintro e w3 ⟨A3, c3, rfl, hi3, hb⟩
      have HB3 := Lib.hid (Below.trans0 HB2.out hb)
      have HI3 := Lib.hid (Ints.below HI2.out hb.size hb)
      have HJ3 := Lib.hid hi3
      have hF : (F == F) = true := by simp
      clear hb hi3
      go_wp2_with (first | (go_at_call 14; refine (CE.out _ _ _ _ _ HI3.out HJ3.out).mono ?_; rintro e w4 ⟨rfl, hb4⟩; have HB4 := Lib.hid (Below.trans0 HB3.out hb4)) | (go_at_call 15; refine (CA.out _).mono ?_; rintro e w5 ⟨rfl, hb5⟩; have HB5 := Lib.hid (Below.trans0 HB4.out hb5)))
      go_wp2
      go_ret
      exact ⟨rfl, HB5.out⟩
    · go_enter Try.func4, Try.ntmps4
      go_wp2_with fail
      refine D1.out.mono ?_
      rintro e w1 ⟨rfl, hb⟩
      have HB1 := Lib.hid (Below.alloc0 hb (Obj.cells (iD p c o m r b v l) 37))
      clear hb
      go_wp2
      go_ret
      exact ⟨rfl, HB1.out⟩
  · have hk' : inOk xs = false := by simpa using hk
    rw [hk', inAgg_no hk'] at C1
    have D1 := Lib.hid C1
    clear C1 hk hk' hwf
    go_enter Try.func4, Try.ntmps4
    go_wp2_with fail
    refine D1.out.mono ?_
    rintro e w1 ⟨rfl, hb⟩
    have HB1 := Lib.hid (Below.alloc0 hb (Obj.cells (iD 0 0 0 0 0 0 0 0) 37))
    clear hb
    by_cases h20 : len0 ≤ 20
    · go_wp2
      go_ret
      exact ⟨rfl, HB1.out⟩
    · go_wp2
      go_ret
      exact ⟨rfl, HB1.out⟩

set_option maxRecDepth 100000 in
theorem lifted (os : Os) (started : os.Started) (H : Type) (enc : TypeId × Value → H) :
    ReturnsInHanded {} Try.checked os 4 .any (Rows.flowNextSpec.pre6 enc Try.prog Try.f4 Rows.flowNextRow.domain false) (Rows.flowNextSpec.post enc Try.prog Try.f4 false true false false) := by
  refine returnsInHanded_of_change_shaped (C := Try.checked) own started (by kernel_rfl) Try.func4
    (ChangeSpec.witness6 (enc := enc) (C := Try.checked) false ⟨#[], #[.slice none 0 0, .int .u16 0], []⟩ 8 (by kernel_rfl) (by kernel_rfl) (by kernel_rfl) (by kernel_rfl)) ?_
  intro W base args ds gs before hval0 hW hcnd hZ hsh _
  have hval : ∀ (j : Nat) t v, Try.f4.params[j]? = some t → args[j]? = some v → Value.okWide Try.prog W .any base t v := hval0
  have hW' := hW
  obtain ⟨p, q, hA0, hV, rfl, hfz, hnd⟩ := hW
  have hA : DataW.TrodAll enc Try.prog W 0 (fun _ => true) true Try.f4.params.toList args.toList ds p := hA0
  rw [Try.params4] at hA hval
  obtain ⟨v0, vs0, d0, ds0, p0, q0, hargs, rfl, rfl, h0, r0⟩ := trodAll_cons hA
  obtain ⟨v1, vs1, d1, ds1, p1, q1, rfl, rfl, rfl, h1, r1⟩ := trodAll_cons r0
  obtain ⟨rfl, rfl, rfl⟩ := trodAll_nil r1
  obtain rfl : args = #[v0, v1] := by cases args; simp_all
  obtain ⟨rfl, rfl⟩ := trodVars_none hV
  obtain ⟨a0, len0, cap0, rfl⟩ := okWide_slice Try.underlying33 (hval 0 33 v0 rfl rfl)
  have k0 := h0
  have lt0 : ∀ x ∈ p0, x.block < W.heap.size := by obtain ⟨m, hm⟩ := k0; exact DataW.trod_lt m _ _ _ hm
  obtain ⟨z0, w0, q0⟩ : ∃ zs, IsRow .u8 W a0 len0 cap0 zs ∧ cap0 ≤ 140737488351232 := by
    obtain ⟨fuel, hf⟩ := h0
    rcases open_ints Try.underlying33 Try.underlying5 (by kernel_rfl) hf with ⟨hcs, _⟩ | ⟨x, l, c, zs, hcs, _, hl, hm, hz, hx, hcell, hwz⟩
    · simp [Value.cells] at hcs
      obtain ⟨rfl, rfl, rfl⟩ := hcs
      exact ⟨[], .inl ⟨rfl, rfl, rfl, rfl⟩, by decide⟩
    · simp [Value.cells] at hcs
      obtain ⟨rfl, rfl, rfl⟩ := hcs
      refine ⟨zs, .inr ⟨_, rfl, hl, hm, by simpa using hz, hcell, hwz⟩, ?_⟩
      have hs := sized_slice hZ (j := 0) rfl (congrArg some (congrArg Prod.fst hx)) Try.underlying33
      have hbe : Try.checked.prog.bytesOf 5 = 1 := by kernel_rfl
      rw [hbe] at hs
      have hz' : zs.length = cap0 := by simpa using hz
      simp [lits] at hs
      have hr : reachBytes = 140737488351232 := by decide
      rw [hr] at hs
      omega
  obtain ⟨a1, rfl, rfl, rfl, w1⟩ := open_int Try.underlying23 (hval 1 23 v1 rfl rfl) h1
  clear hA0 hval0
  refine (walk a0 len0 cap0 z0 a1 W w0 w1 q0 hsh).mono fun e W' ⟨he, bel⟩ => ?_
  subst he
  exact ⟨_, rfl, _, _, _, [], _, [], hW', trodAll_mk1 (shut_bool Try.underlying4 _), (trodAll_cons_mk (Below.trod laidOut (by kernel_rfl) (of_decide_eq_true (by kernel_rfl)) k0 bel lt0) (trodAll_cons_mk (shut_int Try.underlying23 w1) trodAll_mk0)), rfl, bel.frame _, fun h => by cases h⟩

theorem over : Rows.flowNextRow.holds Try.pinned (OpenSpec.ofChange Rows.flowNextSpec) :=
  OpenClaim.holds_of_wide 4 Try.f4 rfl rfl rfl rfl rfl rfl rfl ⟨rfl, rfl, rfl, rfl, rfl⟩ rfl rfl rfl rfl rfl (by kernel_rfl) Try.func4 (by kernel_rfl)
    (of_decide_eq_true (by kernel_rfl)) (by unfold Func.isWrapper; first | (rw [if_pos (by decide +kernel)]; kernel_rfl) | (rw [if_neg (by decide +kernel)]; exact ⟨rfl, rfl⟩))
    (fun os started H enc _ => lifted os started H enc)

theorem proved : Rows.FlowNextSaid := over
#print axioms proved
end Go.Proofs.Yteaajmoclgfhnaa.flowNext
