/- The law ArbiterPlans answers true for every input, and each argument reads afterwards as it read before. Conditions: none. -/
import Derived.Test.YtoogaenknjdpcaaRows
import Derived.WalkKit
import Derived.ProofKit
import Derived.OpenShut
import Derived.ShutString
import Derived.ChangeOld
import Derived.Below
import Derived.Test.YtoogaenknjdpcaaArb
namespace Go.Proofs.Ytoogaenknjdpcaa.arbiterPlans
open Go.ChangeShapes Go.WideShapes Go.ChangeAt Go.RowKit
open Go.ChangeMaps (open_string shut_string)
set_option linter.unusedVariables false

theorem own : ownKnob Try.prog.godebug = none := by kernel_rfl
theorem laidOut : laidOutB Try.prog = true := by kernel_rfl

set_option maxRecDepth 100000 in
set_option maxHeartbeats 1000000 in
theorem walk (a0 : Bool) (a1 : Option Addr) (len1 cap1 : Nat) (z1 : List Bool) (w : World) (w1 : eB.In (fun _ => True) w a1 len1 cap1 z1) :
    Calls Try.prog 8 #[.bool a0, .slice a1 len1 cap1] w fun e w' => e = .returned (.bool true) ∧ Below w.heap.size w w' := by
  -- open 1 : List Bool | eB.In (fun _ => True) | open_bools
  obtain ⟨hr, hl, hm, -⟩ := w1
  by_cases h : len1 ≤ 200
  · obtain ⟨A, c, hv, hc⟩ := Els.one_at (E := eB) (f := Value.bool) rfl (fun _ => rfl) hr
    obtain ⟨rfl, -, rfl⟩ : a1 = A ∧ len1 = z1.length ∧ cap1 = c := by simpa using hv
    have CP := Lib.hid (fun w (h : eB.Rd w (.slice a1 len1 cap1) z1) => plan_any a0 _ z1 w h (by omega))
    rw [hl] at hc
    have HC := Lib.hid hc
    have HL := Lib.hid hl
    have HR := Lib.hid hr
    obtain ⟨K, hK⟩ : ∃ K, kd a0 = K := ⟨_, rfl⟩
    have C30 := Lib.hid (fun p c r (h : arOk a0 (p, c)) w => refNext30_any a0 p c r h w)
    rw [hK] at CP C30
    have H0 : Hid ((0, 0) = arS a0 (z1.take 0) ∧ arL a0 (z1.take 0) = []) := Lib.hid ⟨by cases a0 <;> rfl, rfl⟩
    have hk : K = (if a0 then 1 else 0) := hK.symm
    clear hc hr hl hm hv hK
    cases a0
    · simp only [Bool.false_eq_true, if_false] at hk
      subst hk
      go_enter Try.func8, Try.ntmps8
      go_wp2
      go_loopw [6, 7, 8, 9] (fun p c o i wr => ∃ k : Nat, k ≤ len1 ∧ i = .int .i64 k ∧ p = .int .i64 (arS false (z1.take k)).1 ∧ c = .int .i64 (arS false (z1.take k)).2 ∧ Hid (eI.Own 3 wr w.heap.size o (arL false (z1.take k))) ∧ Hid (Below w.heap.size w wr)) (fun _ _ _ i _ => len1 - (intOf i).toNat)
      case atStart => exact ⟨0, Nat.zero_le _, rfl, rfl, rfl, Lib.hid (Els.Own.nil_ _ _), Lib.hid (Below.refl _ _)⟩
      case round =>
        obtain ⟨k, hk, rfl, rfl, rfl, hO, hB⟩ := hrel
        by_cases hlt : k < len1
        · obtain ⟨g, off, rfl, hg, hcell⟩ := HC.out (by omega)
          obtain ⟨x, hx⟩ : ∃ x, z1[k]? = some x := ⟨_, List.getElem?_eq_getElem (by rw [HL.out]; exact hlt)⟩
          have cx := (hB.out.cell (p := ⟨g, off + k, none⟩) hg).trans (hcell k x hx)
          have NX := Lib.hid (ar_next false z1 k x hx)
          have ok := Lib.hid (arS_ok false (z1.take k))
          have LN := Lib.hid (show (arL false (z1.take k)).length ≤ 1000 by rw [arL_len, List.length_take]; omega)
          generalize arL false (z1.take k) = L at hO NX LN
          generalize arS false (z1.take k) = P at NX ok ⊢
          obtain ⟨p, q⟩ := P
          simp only
          have C := fun w => C30.out p q x ok.out w
          obtain ⟨P', hP⟩ : ∃ P, arN false (p, q) x = P := ⟨_, rfl⟩
          obtain ⟨u, hu⟩ : ∃ u, arW false (p, q) x = u := ⟨_, rfl⟩
          simp only [hP, hu] at C
          rw [hP, hu] at NX
          obtain ⟨p', q'⟩ := P'
          have D := Lib.hid C
          have hk0 : (0 : Int) ≤ k := by omega
          have hkn : (k : Int) < len1 := by omega
          have hO2 := Lib.hid (Els.Own.alloc hO.out (Obj.cells #[.int .i64 u] 3))
          have hB2 := Lib.hid (Below.alloc0 hB.out (Obj.cells #[.int .i64 u] 3))
          clear hcell hx C hP hu
          go_wp2_with fail
          refine (D.out _).mono ?_
          rintro e w1 ⟨rfl, rfl⟩
          go_wp2_with (at_builtin; refine wpList_appI rfl _ (.tmp 37) (.tmp 39) rfl w.heap.size u8 _ L [u] rfl hO2.out rfl (Els.Rd.new (E := eI) _ rfl 3 [u] #[.int .i64 u] 1 rfl rfl 1) (by have := LN.out; simp; omega) (by have := hB2.out.size; simpa using this) ?_; intro v' w2 hown hbel hgr hwh)
          have HO3 := Lib.hid hown
          have HB3 := Lib.hid (hB2.out.trans hbel)
          clear hown hbel hgr hwh
          go_wp2
          go_roundw
          case rel => exact ⟨k + 1, by omega, by go_num, by rw [NX.out.1], by rw [NX.out.1], by rw [NX.out.2]; exact HO3, HB3⟩
          case measure => simp [intOf]; omega
        · have hE : Hid (z1.take k = z1) := Lib.hid (List.take_of_length_le (by rw [HL.out]; omega))
          rw [hE.out] at hO
          have hR2 := Lib.hid (Els.Rd.below HR.out (hB.out.mono (Nat.le_refl _)))
          go_wp2_with fail
          refine (CP.out _ hR2.out).mono ?_
          rintro e w1 ⟨v1, rfl, hr, hb⟩
          have H1 := Lib.hid hr
          have O1 := Lib.hid (Els.Own.below hO.out hb)
          have B1 := Lib.hid (Below.trans0 hB.out hb)
          have LE := Lib.hid (show (arL false z1).length ≤ 1000 by rw [arL_len, HL.out]; omega)
          clear hr hb
          go_wp2_with fail
          refine (eqI_b _ _ _ _ _ H1.out (Els.Own.rd O1.out) (by have := LE.out; omega) (by have := LE.out; omega)).mono ?_
          rintro e w2 ⟨rfl, hb⟩
          have B2 := Lib.hid (Below.trans0 B1.out hb)
          have hee : (arL false z1 == arL false z1) = true := by simp
          clear hb
          go_wp2_with fail
          refine (alive30 _).mono ?_
          rintro e w3 ⟨rfl, hb⟩
          have B3 := Lib.hid (Below.trans0 B2.out hb)
          clear hb
          go_wp2
          go_ret
          exact ⟨rfl, B3.out⟩
    · simp only [if_true] at hk
      subst hk
      go_enter Try.func8, Try.ntmps8
      go_wp2
      go_loopw [6, 7, 8, 9] (fun p c o i wr => ∃ k : Nat, k ≤ len1 ∧ i = .int .i64 k ∧ p = .int .i64 (arS true (z1.take k)).1 ∧ c = .int .i64 (arS true (z1.take k)).2 ∧ Hid (eI.Own 3 wr w.heap.size o (arL true (z1.take k))) ∧ Hid (Below w.heap.size w wr)) (fun _ _ _ i _ => len1 - (intOf i).toNat)
      case atStart => exact ⟨0, Nat.zero_le _, rfl, rfl, rfl, Lib.hid (Els.Own.nil_ _ _), Lib.hid (Below.refl _ _)⟩
      case round =>
        obtain ⟨k, hk, rfl, rfl, rfl, hO, hB⟩ := hrel
        by_cases hlt : k < len1
        · obtain ⟨g, off, rfl, hg, hcell⟩ := HC.out (by omega)
          obtain ⟨x, hx⟩ : ∃ x, z1[k]? = some x := ⟨_, List.getElem?_eq_getElem (by rw [HL.out]; exact hlt)⟩
          have cx := (hB.out.cell (p := ⟨g, off + k, none⟩) hg).trans (hcell k x hx)
          have NX := Lib.hid (ar_next true z1 k x hx)
          have ok := Lib.hid (arS_ok true (z1.take k))
          have LN := Lib.hid (show (arL true (z1.take k)).length ≤ 1000 by rw [arL_len, List.length_take]; omega)
          generalize arL true (z1.take k) = L at hO NX LN
          generalize arS true (z1.take k) = P at NX ok ⊢
          obtain ⟨p, q⟩ := P
          simp only
          have C := fun w => C30.out p q x ok.out w
          obtain ⟨P', hP⟩ : ∃ P, arN true (p, q) x = P := ⟨_, rfl⟩
          obtain ⟨u, hu⟩ : ∃ u, arW true (p, q) x = u := ⟨_, rfl⟩
          simp only [hP, hu] at C
          rw [hP, hu] at NX
          obtain ⟨p', q'⟩ := P'
          have D := Lib.hid C
          have hk0 : (0 : Int) ≤ k := by omega
          have hkn : (k : Int) < len1 := by omega
          have hO2 := Lib.hid (Els.Own.alloc hO.out (Obj.cells #[.int .i64 u] 3))
          have hB2 := Lib.hid (Below.alloc0 hB.out (Obj.cells #[.int .i64 u] 3))
          clear hcell hx C hP hu
          go_wp2_with fail
          refine (D.out _).mono ?_
          rintro e w1 ⟨rfl, rfl⟩
          go_wp2_with (at_builtin; refine wpList_appI rfl _ (.tmp 37) (.tmp 39) rfl w.heap.size u8 _ L [u] rfl hO2.out rfl (Els.Rd.new (E := eI) _ rfl 3 [u] #[.int .i64 u] 1 rfl rfl 1) (by have := LN.out; simp; omega) (by have := hB2.out.size; simpa using this) ?_; intro v' w2 hown hbel hgr hwh)
          have HO3 := Lib.hid hown
          have HB3 := Lib.hid (hB2.out.trans hbel)
          clear hown hbel hgr hwh
          go_wp2
          go_roundw
          case rel => exact ⟨k + 1, by omega, by go_num, by rw [NX.out.1], by rw [NX.out.1], by rw [NX.out.2]; exact HO3, HB3⟩
          case measure => simp [intOf]; omega
        · have hE : Hid (z1.take k = z1) := Lib.hid (List.take_of_length_le (by rw [HL.out]; omega))
          rw [hE.out] at hO
          have hR2 := Lib.hid (Els.Rd.below HR.out (hB.out.mono (Nat.le_refl _)))
          go_wp2_with fail
          refine (CP.out _ hR2.out).mono ?_
          rintro e w1 ⟨v1, rfl, hr, hb⟩
          have H1 := Lib.hid hr
          have O1 := Lib.hid (Els.Own.below hO.out hb)
          have B1 := Lib.hid (Below.trans0 hB.out hb)
          have LE := Lib.hid (show (arL true z1).length ≤ 1000 by rw [arL_len, HL.out]; omega)
          clear hr hb
          go_wp2_with fail
          refine (eqI_b _ _ _ _ _ H1.out (Els.Own.rd O1.out) (by have := LE.out; omega) (by have := LE.out; omega)).mono ?_
          rintro e w2 ⟨rfl, hb⟩
          have B2 := Lib.hid (Below.trans0 B1.out hb)
          have hee : (arL true z1 == arL true z1) = true := by simp
          clear hb
          go_wp2_with fail
          refine (alive30 _).mono ?_
          rintro e w3 ⟨rfl, hb⟩
          have B3 := Lib.hid (Below.trans0 B2.out hb)
          clear hb
          go_wp2
          go_ret
          exact ⟨rfl, B3.out⟩
  · go_enter Try.func8, Try.ntmps8
    go_wp2
    go_ret
    exact ⟨rfl, Below.refl _ _⟩

set_option maxRecDepth 100000 in
theorem lifted (os : Os) (started : os.Started) (H : Type) (enc : TypeId × Value → H) :
    ReturnsInHanded {} Try.checked os 8 .any (Rows.arbiterPlansSpec.pre6 enc Try.prog Try.f8 Rows.arbiterPlansRow.domain false) (Rows.arbiterPlansSpec.post enc Try.prog Try.f8 false true false false) := by
  refine returnsInHanded_of_change (C := Try.checked) own started (by kernel_rfl) Try.func8
    (ChangeSpec.witness6 (enc := enc) (C := Try.checked) false ⟨#[], #[.bool false, .slice none 0 0], []⟩ 8 (by kernel_rfl) (by kernel_rfl) (by kernel_rfl) (by kernel_rfl)) ?_
  intro W base args ds gs before hval0 hW hcnd _
  have hval : ∀ (j : Nat) t v, Try.f8.params[j]? = some t → args[j]? = some v → Value.okWide Try.prog W .any base t v := hval0
  have hW' := hW
  obtain ⟨p, q, hA0, hV, rfl, hfz, hnd⟩ := hW
  have hA : DataW.TrodAll enc Try.prog W 0 (fun _ => true) true Try.f8.params.toList args.toList ds p := hA0
  rw [Try.params8] at hA hval
  obtain ⟨v0, vs0, d0, ds0, p0, q0, hargs, rfl, rfl, h0, r0⟩ := trodAll_cons hA
  obtain ⟨v1, vs1, d1, ds1, p1, q1, rfl, rfl, rfl, h1, r1⟩ := trodAll_cons r0
  obtain ⟨rfl, rfl, rfl⟩ := trodAll_nil r1
  obtain rfl : args = #[v0, v1] := by cases args; simp_all
  obtain ⟨rfl, rfl⟩ := trodVars_none hV
  obtain ⟨a0, rfl, rfl, rfl⟩ := open_bool Try.underlying4 (hval 0 4 v0 rfl rfl) h0
  obtain ⟨a1, len1, cap1, rfl⟩ := okWide_slice Try.underlying28 (hval 1 28 v1 rfl rfl)
  have k1 := h1
  have lt1 : ∀ x ∈ p1, x.block < W.heap.size := by obtain ⟨m, hm⟩ := k1; exact DataW.trod_lt m _ _ _ hm
  obtain ⟨z1, w1⟩ : ∃ zs, eB.In (fun _ => True) W a1 len1 cap1 zs := by
    obtain ⟨fuel, hf⟩ := h1
    exact open_bools hf
  clear hA0 hval0
  refine (walk a0 a1 len1 cap1 z1 W w1).mono fun e W' ⟨he, bel⟩ => ?_
  subst he
  exact ⟨_, rfl, _, _, _, [], _, [], hW', trodAll_mk1 (shut_bool Try.underlying4 _), (trodAll_cons_mk (shut_bool Try.underlying4 _) (trodAll_cons_mk (Below.trod laidOut (by kernel_rfl) (of_decide_eq_true (by kernel_rfl)) k1 bel lt1) trodAll_mk0)), rfl, bel.frame _, fun h => by cases h⟩

theorem over : Rows.arbiterPlansRow.holds Try.pinned (OpenSpec.ofChange Rows.arbiterPlansSpec) :=
  OpenClaim.holds_of_wide 8 Try.f8 rfl rfl rfl rfl rfl rfl rfl ⟨rfl, rfl, rfl, rfl, rfl⟩ rfl rfl rfl rfl rfl (by kernel_rfl) Try.func8 (by kernel_rfl)
    (of_decide_eq_true (by kernel_rfl)) (by unfold Func.isWrapper; first | (rw [if_pos (by decide +kernel)]; kernel_rfl) | (rw [if_neg (by decide +kernel)]; exact ⟨rfl, rfl⟩))
    (fun os started H enc _ => lifted os started H enc)

theorem proved : Rows.ArbiterPlansSaid := over
#print axioms proved
end Go.Proofs.Ytoogaenknjdpcaa.arbiterPlans
