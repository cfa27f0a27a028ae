/- The law EdgeKept answers true for every input, and each argument reads afterwards as it read before. Conditions: none. -/
import Derived.Test.YtoogaenknjdpcaaRows
import Derived.WalkKit
import Derived.ProofKit
import Derived.OpenShut
import Derived.ShutString
import Derived.ChangeOld
import Derived.Below
import Derived.Test.YtoogaenknjdpcaaEdg
namespace Go.Proofs.Ytoogaenknjdpcaa.edgeKept
open Go.ChangeShapes Go.WideShapes Go.ChangeAt Go.RowKit
open Go.ChangeMaps (open_string shut_string)
set_option linter.unusedVariables false

theorem own : ownKnob Try.prog.godebug = none := by kernel_rfl
theorem laidOut : laidOutB Try.prog = true := by kernel_rfl

set_option maxRecDepth 100000 in
set_option maxHeartbeats 1000000 in
theorem walk (a0 : Bool) (a1 : Bool) (a2 : Option Addr) (len2 cap2 : Nat) (z2 : List Bool) (w : World) (w2 : eB.In (fun _ => True) w a2 len2 cap2 z2) :
    Calls Try.prog 4 #[.bool a0, .bool a1, .slice a2 len2 cap2] w fun e w' => e = .returned (.bool true) ∧ Below w.heap.size w w' := by
  -- open 2 : List Bool | eB.In (fun _ => True) | open_bools
  obtain ⟨hr, hl, hm, -⟩ := w2
  by_cases h : len2 ≤ 200
  · obtain ⟨A, c, hv, hc⟩ := Els.one_at (E := eB) (f := Value.bool) rfl (fun _ => rfl) hr
    obtain ⟨rfl, -, rfl⟩ : a2 = A ∧ len2 = z2.length ∧ cap2 = c := by simpa using hv
    obtain ⟨n, hn⟩ : ∃ n, n = len2 := ⟨_, rfl⟩
    have K := smAll_ri a0 z2 a1 0 (Int.le_refl 0)
    simp only [Int.lt_irrefl, decide_false, Bool.and_false] at K
    have C := fun w (h : eB.Rd w (.slice a2 len2 cap2) z2) => edgeAll_any a1 a0 false _ z2 w h (by omega)
    rw [K] at C
    obtain ⟨P, hP⟩ : ∃ P, riAll (0, a1) z2 = P := ⟨_, rfl⟩
    rw [hP] at C
    rw [hl] at hc
    subst n
    have hn := hl
    have HC := Lib.hid hc
    have CA := Lib.hid C
    have HP := Lib.hid hP
    have HN := Lib.hid hn
    have HR := Lib.hid hr
    clear hc C hP hn hr K hv hl hm
    have HE : ∀ (x y z : Bool) (w : World), (binOp .eql 23 (.agg #[.bool x, .bool y, .bool z]) (.agg #[.bool x, .bool y, .bool z])).run Try.prog w = .ok (.bool true) w := fun x y z w => by rw [eql_la]; simp
    go_enter Try.func4, Try.ntmps4
    go_wp2
    go_loop [7, 8, 9] (fun e l i => ∃ k : Nat, k ≤ len2 ∧ i = .int .i64 k ∧ e = .int .i64 (riAll (0, a1) (z2.take k)).1 ∧ l = .bool (riAll (0, a1) (z2.take k)).2) (fun _ _ i => len2 - (intOf i).toNat)
    case atStart => exact ⟨0, Nat.zero_le _, rfl, rfl, rfl⟩
    case round =>
      obtain ⟨k, hk, rfl, rfl, rfl⟩ := hrel
      by_cases hlt : k < len2
      · obtain ⟨g, off, rfl, hg, hcell⟩ := HC.out (by omega)
        obtain ⟨x, hx⟩ : ∃ x, z2[k]? = some x := ⟨_, List.getElem?_eq_getElem (by rw [HN.out]; exact hlt)⟩
        have c := hcell k x hx
        have NX := Lib.hid (riAll_take (0, a1) z2 k x hx)
        have bd := riAll_bd (z2.take k) (0, a1)
        rw [List.length_take] at bd
        generalize riAll (0, a1) (z2.take k) = Q at NX bd ⊢
        obtain ⟨e, l⟩ := Q
        simp only at bd ⊢
        obtain ⟨bd0, bd1⟩ := bd
        have bd2 : e ≤ 200 := by omega
        have hk0 : (0 : Int) ≤ k := by omega
        have hkn : (k : Int) < len2 := by omega
        clear hcell hx bd1
        cases x <;> cases l
        all_goals
          go_wp2
          go_round
          case rel => exact ⟨k + 1, by omega, by go_num, by rw [NX.out]; rfl, by rw [NX.out]; rfl⟩
          case measure => simp [intOf]; omega
      · have hE : Hid (riAll (0, a1) (z2.take k) = P) := Lib.hid (by rw [List.take_of_length_le (by rw [HN.out]; omega)]; exact HP.out)
        rw [hE.out]
        obtain ⟨e, l⟩ := P
        cases a0
        · go_wp2_with fail
          refine (CA.out _ HR.out).mono ?_
          rintro e w1 ⟨rfl, hb⟩
          have HB := Lib.hid hb
          clear hb
          go_wp2_with fail
          refine (alive28 _).mono ?_
          rintro e w2 ⟨rfl, hb⟩
          have HB2 := Lib.hid (Below.trans0 HB.out hb)
          clear hb
          go_wp2
          go_ret
          exact ⟨rfl, HB2.out⟩
        · go_wp2_with fail
          refine (CA.out _ HR.out).mono ?_
          rintro e w1 ⟨rfl, hb⟩
          have HB := Lib.hid hb
          clear hb
          go_wp2_with fail
          refine (alive28 _).mono ?_
          rintro e w2 ⟨rfl, hb⟩
          have HB2 := Lib.hid (Below.trans0 HB.out hb)
          clear hb
          go_wp2
          go_ret
          exact ⟨rfl, HB2.out⟩
  · go_enter Try.func4, Try.ntmps4
    go_wp2
    go_ret
    exact ⟨rfl, Below.refl _ _⟩

set_option maxRecDepth 100000 in
theorem lifted (os : Os) (started : os.Started) (H : Type) (enc : TypeId × Value → H) :
    ReturnsInHanded {} Try.checked os 4 .any (Rows.edgeKeptSpec.pre6 enc Try.prog Try.f4 Rows.edgeKeptRow.domain false) (Rows.edgeKeptSpec.post enc Try.prog Try.f4 false true false false) := by
  refine returnsInHanded_of_change (C := Try.checked) own started (by kernel_rfl) Try.func4
    (ChangeSpec.witness6 (enc := enc) (C := Try.checked) false ⟨#[], #[.bool false, .bool false, .slice none 0 0], []⟩ 8 (by kernel_rfl) (by kernel_rfl) (by kernel_rfl) (by kernel_rfl)) ?_
  intro W base args ds gs before hval0 hW hcnd _
  have hval : ∀ (j : Nat) t v, Try.f4.params[j]? = some t → args[j]? = some v → Value.okWide Try.prog W .any base t v := hval0
  have hW' := hW
  obtain ⟨p, q, hA0, hV, rfl, hfz, hnd⟩ := hW
  have hA : DataW.TrodAll enc Try.prog W 0 (fun _ => true) true Try.f4.params.toList args.toList ds p := hA0
  rw [Try.params4] at hA hval
  obtain ⟨v0, vs0, d0, ds0, p0, q0, hargs, rfl, rfl, h0, r0⟩ := trodAll_cons hA
  obtain ⟨v1, vs1, d1, ds1, p1, q1, rfl, rfl, rfl, h1, r1⟩ := trodAll_cons r0
  obtain ⟨v2, vs2, d2, ds2, p2, q2, rfl, rfl, rfl, h2, r2⟩ := trodAll_cons r1
  obtain ⟨rfl, rfl, rfl⟩ := trodAll_nil r2
  obtain rfl : args = #[v0, v1, v2] := by cases args; simp_all
  obtain ⟨rfl, rfl⟩ := trodVars_none hV
  obtain ⟨a0, rfl, rfl, rfl⟩ := open_bool Try.underlying4 (hval 0 4 v0 rfl rfl) h0
  obtain ⟨a1, rfl, rfl, rfl⟩ := open_bool Try.underlying4 (hval 1 4 v1 rfl rfl) h1
  obtain ⟨a2, len2, cap2, rfl⟩ := okWide_slice Try.underlying28 (hval 2 28 v2 rfl rfl)
  have k2 := h2
  have lt2 : ∀ x ∈ p2, x.block < W.heap.size := by obtain ⟨m, hm⟩ := k2; exact DataW.trod_lt m _ _ _ hm
  obtain ⟨z2, w2⟩ : ∃ zs, eB.In (fun _ => True) W a2 len2 cap2 zs := by
    obtain ⟨fuel, hf⟩ := h2
    exact open_bools hf
  clear hA0 hval0
  refine (walk a0 a1 a2 len2 cap2 z2 W w2).mono fun e W' ⟨he, bel⟩ => ?_
  subst he
  exact ⟨_, rfl, _, _, _, [], _, [], hW', trodAll_mk1 (shut_bool Try.underlying4 _), (trodAll_cons_mk (shut_bool Try.underlying4 _) (trodAll_cons_mk (shut_bool Try.underlying4 _) (trodAll_cons_mk (Below.trod laidOut (by kernel_rfl) (of_decide_eq_true (by kernel_rfl)) k2 bel lt2) trodAll_mk0))), rfl, bel.frame _, fun h => by cases h⟩

theorem over : Rows.edgeKeptRow.holds Try.pinned (OpenSpec.ofChange Rows.edgeKeptSpec) :=
  OpenClaim.holds_of_wide 4 Try.f4 rfl rfl rfl rfl rfl rfl rfl ⟨rfl, rfl, rfl, rfl, rfl⟩ rfl rfl rfl rfl rfl (by kernel_rfl) Try.func4 (by kernel_rfl)
    (of_decide_eq_true (by kernel_rfl)) (by unfold Func.isWrapper; first | (rw [if_pos (by decide +kernel)]; kernel_rfl) | (rw [if_neg (by decide +kernel)]; exact ⟨rfl, rfl⟩))
    (fun os started H enc _ => lifted os started H enc)

theorem proved : Rows.EdgeKeptSaid := over
#print axioms proved
end Go.Proofs.Ytoogaenknjdpcaa.edgeKept
