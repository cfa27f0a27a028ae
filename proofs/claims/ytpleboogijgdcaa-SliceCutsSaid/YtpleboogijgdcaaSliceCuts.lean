/- The law SliceCuts answers true for every input, and each argument reads afterwards as it read before. Conditions: none. -/
import Derived.Test.YtpleboogijgdcaaRows
import Derived.WalkKit
import Derived.ProofKit
import Derived.OpenShut
import Derived.ShutString
import Derived.ChangeOld
import Derived.Below
import Derived.Test.YtpleboogijgdcaaSla
import Derived.Deep.CutBlock
namespace Go.Proofs.Ytpleboogijgdcaa.sliceCuts
open Go.ChangeShapes Go.WideShapes Go.ChangeAt Go.RowKit
open Go.ChangeMaps (open_string shut_string)
set_option linter.unusedVariables false

theorem own : ownKnob Try.prog.godebug = none := by kernel_rfl
theorem laidOut : laidOutB Try.prog = true := by kernel_rfl

set_option maxRecDepth 100000 in
set_option maxHeartbeats 8000000 in
theorem walk (a0 : Option Addr) (len0 cap0 : Nat) (z0 : List Rc) (w : World) (w0 : RIn w a0 len0 cap0 z0) :
    Calls Try.prog 5 #[.slice a0 len0 cap0] w fun e w' => e = .returned (.bool true) ∧ Below w.heap.size w w' := by
  -- open 0 : List Rc | RIn | open_recsC
  -- heartbeats 8000000
  obtain ⟨l, hL⟩ : ∃ l, RIn w a0 len0 cap0 l := ⟨_, w0⟩
  clear w0
  obtain ⟨⟨hR, hln, hlm, hok⟩, hcap⟩ := hL
  by_cases h1 : len0 ≤ 200
  case neg =>
    go_enter Try.func5, Try.ntmps5
    go_wp2
    go_ret
    exact ⟨rfl, Below.refl _ _⟩
  have CC : Hid (Calls Try.prog 17 #[.slice a0 len0 cap0] w fun e w' => ∃ v ps xs, e = .returned v ∧ CutOf l xs ∧ eC.Own 39 w' w.heap.size v ps ∧ PsIn w' w.heap.size v.ownBlock ps xs ∧ Below w.heap.size w w') := Lib.hid (by
    have := slCut_any a0 cap0 l w (by rw [hln]; exact hR) (by omega) (by omega)
    rwa [hln] at this)
  have HRL := Lib.hid hR
  have HOK := Lib.hid hok
  have HLN := Lib.hid hln
  have CA := Lib.hid (fun u => alive48 u)
  clear hR hok hln hcap hlm
  go_enter Try.func5, Try.ntmps5
  go_wp2_with fail
  refine CC.out.mono ?_
  rintro e w1 ⟨v, ps, xs, rfl, hc, ho, hp, hb⟩
  obtain ⟨hp1, hp2⟩ := hp
  obtain ⟨A, c, hv, hcell⟩ := ho.rd.open_
  obtain ⟨N, hN⟩ : ∃ N, ps.length = N := ⟨_, rfl⟩
  rw [hN] at hv hcell hp1
  subst hv
  have hN2 : N ≤ 200 := by have := hc.len; rw [HLN.out] at this; omega
  have HB1 := Lib.hid hb
  have HCO := Lib.hid hc
  have HCE := Lib.hid hcell
  have HPS := Lib.hid hp2
  have HNP := Lib.hid hN
  have HNX := Lib.hid hp1
  clear CC hc ho hp1 hp2 hcell hb hN
  go_wp2
  go_loopw [4, 5] (fun al i wr => ∃ k : Nat, k ≤ N ∧ i = .int .i64 k ∧ Hid (eR.Own 26 wr w1.heap.size al ((xs.take k).flatMap (·.1))) ∧ Hid (Below w1.heap.size w1 wr)) (fun _ i _ => N - (intOf i).toNat)
  case atStart => exact ⟨0, Nat.zero_le _, rfl, Lib.hid (Els.Own.nil_ _ _), Lib.hid (Below.refl _ _)⟩
  case round =>
    obtain ⟨k, hk, rfl, hO, hB⟩ := hrel
    by_cases hlt : k < N
    · obtain ⟨g, off, rfl, hg, hce⟩ := HCE.out (by omega)
      obtain ⟨p, hpk⟩ : ∃ p, ps[k]? = some p := ⟨_, List.getElem?_eq_getElem (by rw [HNP.out]; exact hlt)⟩
      obtain ⟨x, hxk⟩ : ∃ x, xs[k]? = some x := ⟨_, List.getElem?_eq_getElem (by rw [← HNX.out]; exact hlt)⟩
      obtain ⟨q1, q2, q3, _⟩ := HPS.out k p x hpk hxk
      obtain ⟨r1, r2, r3⟩ := HCO.out.each k x hxk
      have hmem := List.mem_of_getElem? hxk
      have ml := flat_one hmem
      have mk := fun r (hr : r ∈ x.1) => HOK.out r (by have := flat_mem hmem r hr; rwa [HCO.out.all] at this)
      rw [HCO.out.all, HLN.out] at ml
      have d0 := (hB.out.cell (p := ⟨g, off + k * 2, none⟩) hg).trans (hce k p hpk 0 _ rfl)
      have d1 := (hB.out.cell (p := ⟨g, off + k * 2 + 1, none⟩) hg).trans (hce k p hpk 1 _ rfl)
      have NX := Lib.hid (flat_next xs k x hxk)
      have LQ := flat_len xs k
      rw [HCO.out.all, HLN.out] at LQ
      have hm0 : 0 < x.1.length := List.length_pos_iff.2 r1
      obtain ⟨pA, pn, pc, pe⟩ := p
      obtain ⟨M, e⟩ := x
      simp only at q1 q2 q3 r1 r2 r3 ml mk d0 d1 NX hm0
      subst q1
      obtain ⟨m, hM⟩ : ∃ m, M.length = m := ⟨_, rfl⟩
      rw [hM] at q2 ml hm0 r3
      subst q2
      obtain ⟨L, hL⟩ : ∃ L, (xs.take k).flatMap (·.1) = L := ⟨_, rfl⟩
      rw [hL] at hO NX LQ
      rw [← HNX.out] at r2
      have k0 : (0 : Int) ≤ k := by omega
      have k1 : (k : Int) < N := by omega
      have m0 : ¬ ((pn : Int) = 0) := by omega
      have HM := Lib.hid hM
      have R3 := Lib.hid r3
      have Q3 := Lib.hid (q3.below hB.out)
      have MK := Lib.hid mk
      obtain ⟨A2, c2, hv2, hc2⟩ := Q3.out.rd.open_
      injection hv2 with v1 v2 v3
      subst v1 v3
      clear v2
      obtain ⟨g2, off2, rfl, hg2, hce2⟩ := hc2 (by rw [hM]; exact hm0)
      have HC2 := Lib.hid hce2
      clear hc2 hce2 r3 q3 mk hM hL hpk hxk hmem
      cases pe
      case false =>
        have k2 : ¬ ((k : Int) + 1 < N) := by have := r2 rfl; omega
        clear r2
        have BX := Lib.hid (Below.alloc0 (Below.refl wr.heap.size wr) (.cells #[.slice (some ⟨g2, off2, none⟩) pn pc, .bool false] 39))
        have KX := Lib.hid (Blk.new wr 39 #[.slice (some ⟨g2, off2, none⟩) pn pc, .bool false] (0, 0))
        have CT := Lib.hid (slTold_any (.slice (some ⟨g2, off2, none⟩) pn pc) false M _ (Q3.out.rd.below BX.out) MK.out (by rw [HM.out]; omega))
        go_wp2_with fail
        refine CT.out.mono ?_
        rintro e w2 ⟨rfl, hb⟩
        have B2 := Lib.hid (Below.trans0 BX.out hb)
        have K2 := Lib.hid (KX.out.below hb KX.out.lt)
        have b0 : w2.cell? ⟨wr.heap.size, 0, none⟩ = some (.slice (some ⟨g2, off2, none⟩) pn pc) := by rw [K2.out.cell]; rfl
        have b1 : w2.cell? ⟨wr.heap.size, 1, none⟩ = some (.bool false) := by rw [K2.out.cell]; rfl
        have O2 := Lib.hid (hO.out.below B2.out)
        have P2 := Lib.hid (Q3.out.rd.below B2.out)
        have BB := Lib.hid (Below.trans0 hB.out B2.out)
        clear hb CT d0 d1
        go_wp2
        go_loopw [7] (fun s7 w3 => ∃ j : Nat, j ≤ pn ∧ s7 = .int .i64 j ∧ w3 = w2) (fun s7 _ => pn - (intOf s7).toNat)
        case atStart => exact ⟨0, Nat.zero_le _, rfl, by trivial⟩
        case round =>
          obtain ⟨j, hj, rfl, hw⟩ := hrel
          subst hw
          by_cases hjl : j < pn
          · obtain ⟨y, hy⟩ : ∃ y, M[j]? = some y := ⟨_, List.getElem?_eq_getElem (by rw [HM.out]; exact hjl)⟩
            have hE := R3.out j y hy
            obtain ⟨c0, c1, c2, c3, c4, c5, c6, c7, c8⟩ := rc9_at B2.out hg2 (fun jj u hu => HC2.out j y hy jj u hu)
            have j0 : (0 : Int) ≤ j := by omega
            have j1 : (j : Int) < pn := by omega
            clear hy
            obtain ⟨a, d, r, f1, f2, f3, f4, f5, mm⟩ := y
            unfold endP at hE
            simp only at c0 c1 c2 c3 c4 c5 c6 c7 c8 hE
            cases mm
            case false =>
              go_wp2
              go_roundw
              case rel => exact ⟨j + 1, by omega, by go_num, by trivial⟩
              case measure => simp [intOf]; omega
            case true =>
              cases f3
              case false =>
                go_wp2
                go_roundw
                case rel => exact ⟨j + 1, by omega, by go_num, by trivial⟩
                case measure => simp [intOf]; omega
              case true => simp at hE
          · obtain rfl : j = pn := by omega
            have CW := Lib.hid BB.out.size
            go_wp2_with (at_builtin; refine wpList_appRc rfl _ (.tmp 78) (.tmp 80) rfl w1.heap.size u4 _ L M rfl O2.out rfl P2.out (by rw [HM.out]; omega) CW.out ?_; intro v' w4 hown hbel hgr hwh; have HO5 := Lib.hid hown; have HB5 := Lib.hid (Below.trans BB.out hbel); clear hown hbel hgr hwh)
            go_roundw
            case rel => exact ⟨k + 1, by omega, by go_num, by rw [NX.out]; exact HO5, HB5⟩
            case measure => simp [intOf]; omega
      case true =>
        clear r2
        have BX := Lib.hid (Below.alloc0 (Below.refl wr.heap.size wr) (.cells #[.slice (some ⟨g2, off2, none⟩) pn pc, .bool true] 39))
        have KX := Lib.hid (Blk.new wr 39 #[.slice (some ⟨g2, off2, none⟩) pn pc, .bool true] (0, 0))
        have CT := Lib.hid (slTold_any (.slice (some ⟨g2, off2, none⟩) pn pc) true M _ (Q3.out.rd.below BX.out) MK.out (by rw [HM.out]; omega))
        go_wp2_with fail
        refine CT.out.mono ?_
        rintro e w2 ⟨rfl, hb⟩
        have B2 := Lib.hid (Below.trans0 BX.out hb)
        have K2 := Lib.hid (KX.out.below hb KX.out.lt)
        have b0 : w2.cell? ⟨wr.heap.size, 0, none⟩ = some (.slice (some ⟨g2, off2, none⟩) pn pc) := by rw [K2.out.cell]; rfl
        have b1 : w2.cell? ⟨wr.heap.size, 1, none⟩ = some (.bool true) := by rw [K2.out.cell]; rfl
        have O2 := Lib.hid (hO.out.below B2.out)
        have P2 := Lib.hid (Q3.out.rd.below B2.out)
        have BB := Lib.hid (Below.trans0 hB.out B2.out)
        clear hb CT d0 d1
        go_wp2
        go_loopw [7] (fun s7 w3 => ∃ j : Nat, j ≤ pn ∧ s7 = .int .i64 j ∧ w3 = w2) (fun s7 _ => pn - (intOf s7).toNat)
        case atStart => exact ⟨0, Nat.zero_le _, rfl, by trivial⟩
        case round =>
          obtain ⟨j, hj, rfl, hw⟩ := hrel
          subst hw
          by_cases hjl : j < pn
          · obtain ⟨y, hy⟩ : ∃ y, M[j]? = some y := ⟨_, List.getElem?_eq_getElem (by rw [HM.out]; exact hjl)⟩
            have hE := R3.out j y hy
            obtain ⟨c0, c1, c2, c3, c4, c5, c6, c7, c8⟩ := rc9_at B2.out hg2 (fun jj u hu => HC2.out j y hy jj u hu)
            have j0 : (0 : Int) ≤ j := by omega
            have j1 : (j : Int) < pn := by omega
            clear hy
            obtain ⟨a, d, r, f1, f2, f3, f4, f5, mm⟩ := y
            unfold endP at hE
            simp only at c0 c1 c2 c3 c4 c5 c6 c7 c8 hE
            by_cases hjm : j + 1 = pn
            · have j2 : (j : Int) + 1 = pn := by omega
              have j3 : ((j : Int) + 1 == (pn : Int)) = true := by simp [j2]
              cases mm
              case false => simp [hjm] at hE
              case true =>
                cases f3
                case false => simp [hjm] at hE
                case true =>
                  go_wp2
                  go_roundw
                  case rel => exact ⟨j + 1, by omega, by go_num, by trivial⟩
                  case measure => simp [intOf]; omega
            · have j2 : ¬ (j : Int) + 1 = pn := by omega
              have j3 : ((j : Int) + 1 == (pn : Int)) = false := by simp [j2]
              cases mm
              case false =>
                go_wp2
                go_roundw
                case rel => exact ⟨j + 1, by omega, by go_num, by trivial⟩
                case measure => simp [intOf]; omega
              case true =>
                cases f3
                case false =>
                  go_wp2
                  go_roundw
                  case rel => exact ⟨j + 1, by omega, by go_num, by trivial⟩
                  case measure => simp [intOf]; omega
                case true => simp [hjm] at hE
          · obtain rfl : j = pn := by omega
            have CW := Lib.hid BB.out.size
            go_wp2_with (at_builtin; refine wpList_appRc rfl _ (.tmp 78) (.tmp 80) rfl w1.heap.size u4 _ L M rfl O2.out rfl P2.out (by rw [HM.out]; omega) CW.out ?_; intro v' w4 hown hbel hgr hwh; have HO5 := Lib.hid hown; have HB5 := Lib.hid (Below.trans BB.out hbel); clear hown hbel hgr hwh)
            go_roundw
            case rel => exact ⟨k + 1, by omega, by go_num, by rw [NX.out]; exact HO5, HB5⟩
            case measure => simp [intOf]; omega
    · obtain rfl : k = N := by omega
      have HO2 : Hid (eR.Own 26 wr w1.heap.size u4 l) := Lib.hid (by
        have := hO.out
        rwa [List.take_of_length_le (by rw [HNX.out]; exact Nat.le_refl _), HCO.out.all] at this)
      have CQ := Lib.hid (rcEq_any u4 (.slice a0 len0 cap0) l l wr HO2.out.rd ((HRL.out.below HB1.out).below hB.out) (by have := HLN.out; omega))
      rw [eqB_self] at CQ
      go_wp2_with fail
      refine CQ.out.mono ?_
      rintro e w3 ⟨rfl, j, hw⟩
      have HB3 : Hid (Below w.heap.size w w3) := Lib.hid (by rw [hw]; exact Below.drewN0 (Below.trans0 HB1.out hB.out) _)
      clear hw
      go_wp2_with fail
      refine (CA.out _).mono ?_
      rintro e w4 ⟨rfl, hb⟩
      go_wp2
      go_ret
      exact ⟨rfl, Below.trans0 HB3.out hb⟩

set_option maxRecDepth 100000 in
theorem lifted (os : Os) (started : os.Started) (H : Type) (enc : TypeId × Value → H) :
    ReturnsInHanded {} Try.checked os 5 .any (Rows.sliceCutsSpec.pre6 enc Try.prog Try.f5 Rows.sliceCutsRow.domain false) (Rows.sliceCutsSpec.post enc Try.prog Try.f5 false true false false) := by
  refine returnsInHanded_of_change (C := Try.checked) own started (by kernel_rfl) Try.func5
    (ChangeSpec.witness6 (enc := enc) (C := Try.checked) false ⟨#[], #[.slice none 0 0], []⟩ 8 (by kernel_rfl) (by kernel_rfl) (by kernel_rfl) (by kernel_rfl)) ?_
  intro W base args ds gs before hval0 hW hcnd _
  have hval : ∀ (j : Nat) t v, Try.f5.params[j]? = some t → args[j]? = some v → Value.okWide Try.prog W .any base t v := hval0
  have hW' := hW
  obtain ⟨p, q, hA0, hV, rfl, hfz, hnd⟩ := hW
  have hA : DataW.TrodAll enc Try.prog W 0 (fun _ => true) true Try.f5.params.toList args.toList ds p := hA0
  rw [Try.params5] at hA hval
  obtain ⟨v0, vs0, d0, ds0, p0, q0, hargs, rfl, rfl, h0, r0⟩ := trodAll_cons hA
  obtain ⟨rfl, rfl, rfl⟩ := trodAll_nil r0
  obtain rfl : args = #[v0] := by cases args; simp_all
  obtain ⟨rfl, rfl⟩ := trodVars_none hV
  obtain ⟨a0, len0, cap0, rfl⟩ := okWide_slice Try.underlying22 (hval 0 22 v0 rfl rfl)
  have k0 := h0
  have lt0 : ∀ x ∈ p0, x.block < W.heap.size := by obtain ⟨m, hm⟩ := k0; exact DataW.trod_lt m _ _ _ hm
  obtain ⟨z0, w0⟩ : ∃ zs, RIn W a0 len0 cap0 zs := by
    obtain ⟨fuel, hf⟩ := h0
    exact open_recsC hf
  clear hA0 hval0
  refine (walk a0 len0 cap0 z0 W w0).mono fun e W' ⟨he, bel⟩ => ?_
  subst he
  exact ⟨_, rfl, _, _, _, [], _, [], hW', trodAll_mk1 (shut_bool Try.underlying4 _), (trodAll_cons_mk (Below.trod laidOut (by kernel_rfl) (of_decide_eq_true (by kernel_rfl)) k0 bel lt0) trodAll_mk0), rfl, bel.frame _, fun h => by cases h⟩

theorem over : Rows.sliceCutsRow.holds Try.pinned (OpenSpec.ofChange Rows.sliceCutsSpec) :=
  OpenClaim.holds_of_wide 5 Try.f5 rfl rfl rfl rfl rfl rfl rfl ⟨rfl, rfl, rfl, rfl, rfl⟩ rfl rfl rfl rfl rfl (by kernel_rfl) Try.func5 (by kernel_rfl)
    (of_decide_eq_true (by kernel_rfl)) (by unfold Func.isWrapper; first | (rw [if_pos (by decide +kernel)]; kernel_rfl) | (rw [if_neg (by decide +kernel)]; exact ⟨rfl, rfl⟩))
    (fun os started H enc _ => lifted os started H enc)

theorem proved : Rows.SliceCutsSaid := over
#print axioms proved
end Go.Proofs.Ytpleboogijgdcaa.sliceCuts
