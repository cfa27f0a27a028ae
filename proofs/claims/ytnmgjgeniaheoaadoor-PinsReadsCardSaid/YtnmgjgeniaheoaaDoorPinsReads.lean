/- The law PinsReads answers true for every input, and each argument reads afterwards as it read before. Conditions: none. -/
import Derived.Test.YtnmgjgeniaheoaaDoorRows
import Derived.WalkKit
import Derived.ProofKit
import Derived.OpenShut
import Derived.ShutString
import Derived.ChangeOld
import Derived.Below
import Derived.Test.YtnmgjgeniaheoaaDoorPnA
import Derived.Deep.CutBlock
import Derived.LaidMore
import Derived.Lay
import Derived.Test.YtnmgjgeniaheoaaDoorCards
import Derived.Test.YtnmgjgeniaheoaaDoorTie
import Derived.LaidMore
import Derived.Stop.Joined
import Derived.SevenTiedAt
namespace Go.Proofs.YtnmgjgeniaheoaaDoor.pinsReads
open Go.ChangeShapes Go.WideShapes Go.ChangeAt Go.RowKit
open Go.ChangeMaps (open_string shut_string)
set_option linter.unusedVariables false      -- a walk need not use every 'w<i>' (that an integer argument fits its kind)

theorem own : ownKnob Tryd.prog.godebug = none := by kernel_rfl

set_option maxRecDepth 100000 in
set_option maxHeartbeats 8000000 in
theorem walk (a0 : ByteArray) (w0 : a0.size ≤ maxLen) (w : World) (hL : laidMetH Tryd.prog Rows.pinsReadsRow.laid w) :
    Calls Tryd.prog 4 #[.string a0] w fun e w' => e = .returned (.bool true) ∧ Below w.heap.size w w' := by
  -- heartbeats 8000000
  by_cases h1 : a0.size ≤ 200
  case neg =>
    go_enter Tryd.func4, Tryd.ntmps4
    go_wp2
    go_ret
    exact ⟨rfl, Below.refl _ _⟩
  have CP := Lib.hid (fun u => parse_any a0 (by omega) u)
  have CR := Lib.hid (fun u => refParse_any a0 (by omega) u)
  have CO := Lib.hid (fun u => one_any a0 u)
  have CQ := Lib.hid (fun u => refOne_any a0 u)
  have CA := Lib.hid (fun u => alive31 u)
  have LL := Lib.hid (paL_len a0)
  obtain ⟨l, hl⟩ : ∃ l, paL a0 = l := ⟨_, rfl⟩
  have CE := Lib.hid (fun v v' u (h : eN.Rd u v l) (h' : eN.Rd u v' l) => by have := pnEq_any v v' l l u h h' (by have := LL.out; rw [hl] at this; omega); rw [eqB_self] at this; exact this)
  obtain ⟨⟨q0, q1, q2, q3, q4, q5⟩, hq⟩ : ∃ q, onP a0 = q := ⟨_, rfl⟩
  obtain ⟨b, hb⟩ : ∃ b, onB a0 = b := ⟨_, rfl⟩
  rw [hq, hb] at CO CQ
  have EQ := eql_pns ⟨q0, q1, q2, q3, q4, q5⟩
  clear hq hb LL
  go_enter Tryd.func4, Tryd.ntmps4
  go_wp2_with fail
  refine (CP.out _).mono ?_
  rintro e w1 ⟨v1, rfl, hr1, hb1⟩
  rw [hl] at hr1
  have R1 := Lib.hid hr1
  have B1 := Lib.hid hb1
  clear hr1 hb1
  go_wp2_with fail
  refine (CR.out _).mono ?_
  rintro e w2 ⟨v2, rfl, hr2, hb2⟩
  rw [hl] at hr2
  have R2 := Lib.hid hr2
  have S2 := Lib.hid (Els.Rd.below R1.out hb2)
  have B2 := Lib.hid (Below.trans0 B1.out hb2)
  clear hr2 hb2 R1 B1
  go_wp2_with fail
  refine (CO.out _).mono ?_
  rintro e w3 ⟨rfl, hb3⟩
  obtain ⟨g3, hg3⟩ : ∃ g, w3.heap.size = g := ⟨_, rfl⟩
  obtain ⟨W3, hW3⟩ : ∃ W3, w3.alloc (Obj.cells #[.bool q0, .bool q1, .bool q2, .bool q3, .bool q4, .bool q5] 24) = W3 := ⟨_, rfl⟩
  have P3 : Hid (Blk W3 g3 24 #[.bool q0, .bool q1, .bool q2, .bool q3, .bool q4, .bool q5]) := Lib.hid (by rw [← hW3, ← hg3]; exact Blk.new _ _ _ _)
  have R3 : Hid (eN.Rd W3 v2 l) := Lib.hid (by rw [← hW3]; exact (Els.Rd.below R2.out hb3).alloc _)
  have S3 : Hid (eN.Rd W3 v1 l) := Lib.hid (by rw [← hW3]; exact (Els.Rd.below S2.out hb3).alloc _)
  have B3 : Hid (Below w.heap.size w W3) := Lib.hid (by rw [← hW3]; exact Below.alloc0 (Below.trans0 B2.out hb3) _)
  clear hb3 R2 S2 B2
  go_wp2_with fail
  refine (CQ.out _).mono ?_
  rintro e w4 ⟨rfl, hb4⟩
  obtain ⟨g4, hg4⟩ : ∃ g, w4.heap.size = g := ⟨_, rfl⟩
  obtain ⟨W4, hW4⟩ : ∃ W4, w4.alloc (Obj.cells #[.bool q0, .bool q1, .bool q2, .bool q3, .bool q4, .bool q5] 24) = W4 := ⟨_, rfl⟩
  have P4 : Hid (Blk W4 g4 24 #[.bool q0, .bool q1, .bool q2, .bool q3, .bool q4, .bool q5]) := Lib.hid (by rw [← hW4, ← hg4]; exact Blk.new _ _ _ _)
  have Q4 : Hid (Blk W4 g3 24 #[.bool q0, .bool q1, .bool q2, .bool q3, .bool q4, .bool q5]) := Lib.hid (by rw [← hW4]; exact (Blk.below P3.out hb4 P3.out.lt).alloc _)
  have R4 : Hid (eN.Rd W4 v2 l) := Lib.hid (by rw [← hW4]; exact (Els.Rd.below R3.out hb4).alloc _)
  have S4 : Hid (eN.Rd W4 v1 l) := Lib.hid (by rw [← hW4]; exact (Els.Rd.below S3.out hb4).alloc _)
  have B4 : Hid (Below w.heap.size w W4) := Lib.hid (by rw [← hW4]; exact Below.alloc0 (Below.trans0 B3.out hb4) _)
  clear hb4 R3 S3 B3 hl
  go_wp2_with fail
  refine (CE.out _ _ _ S4.out R4.out).mono ?_
  rintro e w5 ⟨rfl, hk⟩
  have P5 : Hid (Blk w5 g4 24 #[.bool q0, .bool q1, .bool q2, .bool q3, .bool q4, .bool q5]) := Lib.hid (by obtain ⟨k, hk⟩ := hk; rw [hk]; exact P4.out)
  have Q5 : Hid (Blk w5 g3 24 #[.bool q0, .bool q1, .bool q2, .bool q3, .bool q4, .bool q5]) := Lib.hid (by obtain ⟨k, hk⟩ := hk; rw [hk]; exact Q4.out)
  have B5 : Hid (Below w.heap.size w w5) := Lib.hid (by obtain ⟨k, hk⟩ := hk; rw [hk]; exact Below.drewN0 B4.out k)
  have c5 := P5.out.c6
  have d5 := Q5.out.c6
  have be : (b == b) = true := by simp
  clear hk hW3 hW4 hg3 hg4
  go_wp2_with fail
  refine (CA.out _).mono ?_
  rintro e w6 ⟨rfl, hb6⟩
  have B6 := Lib.hid (Below.trans0 B5.out hb6)
  clear hb6
  go_wp2
  go_ret
  exact ⟨rfl, B6.out⟩

set_option maxRecDepth 100000 in
theorem lifted (os : Os) (started : os.Started) (H : Type) (enc : TypeId × Value → H) :
    ReturnsInHanded {} Tryd.checked os 4 .any (fun w args => (Rows.pinsReadsSpec.pre enc Tryd.prog Tryd.f4 Rows.pinsReadsRow.domain false w args ∧ laidMetH Tryd.prog Rows.pinsReadsRow.laid w) ∧ sizedMet enc Tryd.prog Tryd.f4 (OpenSpec.ofChange Rows.pinsReadsSpec) false w args) (Rows.pinsReadsSpec.post enc Tryd.prog Tryd.f4 false true false false) := by
  refine returnsInHanded_of_change_and (C := Tryd.checked) (X := fun w _ => laidMetH Tryd.prog Rows.pinsReadsRow.laid w) (fun _ _ _ hh h => h.of_heap hh) own started (by kernel_rfl) Tryd.func4
    (ChangeSpec.witness_shaped (enc := enc) (C := Tryd.checked) (os := os) (X := fun w _ => laidMetH Tryd.prog Rows.pinsReadsRow.laid w) false (World.laidAll Tryd.prog os Rows.pinsReadsRow.laid) #[.string ByteArray.empty] 8 (World.laidAll_os _ _ _) (World.shaped_of_ZipB (by kernel_rfl) (by kernel_rfl)) (by kernel_rfl) (by kernel_rfl) (by kernel_rfl) (by rw [MakeChecks.laidMetH_plain _ _ _ (by kernel_rfl)]; exact laidMet_laidAll _ (by kernel_rfl) (by kernel_rfl))) ?_
  intro W base args ds gs before hval0 hW _ hZ hL _
  have hval : ∀ (j : Nat) t v, Tryd.f4.params[j]? = some t → args[j]? = some v → Value.okWide Tryd.prog W .any base t v := hval0
  have hW' := hW
  obtain ⟨p, q, hA0, hV, rfl, hfz, hnd⟩ := hW
  have hA : DataW.TrodAll enc Tryd.prog W 0 (fun _ => true) true Tryd.f4.params.toList args.toList ds p := hA0
  rw [Tryd.params4] at hA hval
  obtain ⟨v0, vs0, d0, ds0, p0, q0, hargs, rfl, rfl, h0, r0⟩ := trodAll_cons hA
  obtain ⟨rfl, rfl, rfl⟩ := trodAll_nil r0
  obtain rfl : args = #[v0] := by cases args; simp_all
  obtain ⟨rfl, rfl⟩ := trodVars_none hV
  obtain ⟨a0, rfl, rfl, rfl, w0⟩ := open_string Tryd.underlying9 (hval 0 9 v0 rfl rfl) h0
  clear hA0 hval0
  refine (walk a0 w0 W hL).mono fun e W' ⟨he, bel⟩ => ?_
  subst he
  exact ⟨_, rfl, _, _, _, [], _, [], hW', trodAll_mk1 (shut_bool Tryd.underlying4 _), (trodAll_cons_mk (shut_string Tryd.underlying9 w0) trodAll_mk0), rfl, bel.frame _, fun h => by cases h⟩

theorem over : Rows.pinsReadsRow.holds Tryd.pinned (OpenSpec.ofChange Rows.pinsReadsSpec) :=
  OpenClaim.holds_of_wide 4 Tryd.f4 rfl rfl rfl rfl rfl rfl rfl ⟨rfl, rfl, rfl, rfl, rfl⟩ rfl rfl rfl rfl rfl (by kernel_rfl) Tryd.func4 (by kernel_rfl)
    (of_decide_eq_true (by kernel_rfl)) (by unfold Func.isWrapper; first | (rw [if_pos (by decide +kernel)]; kernel_rfl) | (rw [if_neg (by decide +kernel)]; exact ⟨rfl, rfl⟩))
    (fun os started H enc _ => lifted os started H enc)

theorem proved : Rows.PinsReadsCardSaid :=
  Claim7.holds_tied_plain_at .later [] [.data, .pinned] true (true, "64489b982535b69c804dc4870efc822d12acbc7a04bc5304b151d8f0995898b6") false
    over (fun _ h => by cases h) (by kernel_rfl) (fun _ h => by cases h) pinsReads_row_tie rfl ⟨rfl, rfl⟩ (by kernel_rfl) rfl
    (fun f fn hf hfn => by
      obtain rfl : f = 4 := Option.some.inj ((show Tryd.prog.funcNamed "spinet/spinetlaw31.PinsReads" = some 4 by kernel_rfl).symm.trans hf) |>.symm
      obtain rfl : fn = Tryd.f4 := (Option.some.inj (Tryd.func4.symm.trans hfn)).symm
      exact ⟨by kernel_rfl, fun j t ht => by
        rw [Tryd.params4] at ht
        have hm : t ∈ [9] := by have := Array.mem_of_getElem? ht; simp at this ⊢; omega
        have hall : ([9].all fun u => !Tryd.prog.wantsStandIn u) = true := by kernel_rfl
        exact (show Tryd.prog.wantsStandIn t = false by simpa using List.all_eq_true.1 hall t hm)⟩)
    (by kernel_rfl)
#print axioms proved
end Go.Proofs.YtnmgjgeniaheoaaDoor.pinsReads
