/- The law CrcSeals answers true for every input, and each argument reads afterwards as it read before. Conditions: none. -/
import Derived.Test.YtnhafficnomlbaaRows
import Derived.WalkKit
import Derived.ProofKit
import Derived.OpenShut
import Derived.ShutString
import Derived.ChangeOld
import Derived.Below
import Derived.Test.YtnhafficnomlbaaCrcR
import Derived.IntWalk
import Derived.Deep.QuietTactic
import Derived.BigQuiet
namespace Go.Proofs.Ytnhafficnomlbaa.crcSeals
open Go.ChangeShapes Go.WideShapes Go.ChangeAt Go.RowKit
open Go.ChangeMaps (open_string shut_string)
set_option linter.unusedVariables false

theorem own : ownKnob Try.prog.godebug = none := by kernel_rfl
theorem laidOut : laidOutB Try.prog = true := by kernel_rfl


set_option maxRecDepth 100000 in
set_option maxHeartbeats 1000000 in
theorem walk (a0 : Option Addr) (len0 cap0 : Nat) (z0 : List Int) (a1 : Option Addr) (len1 cap1 : Nat) (z1 : List Int) (w : World) (w0 : IsRow .u8 w a0 len0 cap0 z0) (w1 : IsRow .u8 w a1 len1 cap1 z1) :
    Calls Try.prog 4 #[.slice a0 len0 cap0, .slice a1 len1 cap1] w fun e w' => e = .returned (.bool true) ∧ Below w.heap.size w w' := by
  obtain ⟨xs, hx, hl, hm, hz⟩ := rdY_of_row w0
  obtain ⟨ys, hy, hl', hm', hz'⟩ := rdY_of_row w1
  have hcap : len1 ≤ cap1 := by
    rcases w1 with ⟨_, rfl, _⟩ | ⟨_, _, h, _⟩
    · exact Nat.zero_le _
    · exact h
  unfold maxLen at hm hm'
  clear w0 w1
  by_cases h1 : len0 ≤ 300
  · by_cases h2 : len1 ≤ 300
    · have RX := Lib.hid hx
      have RY := Lib.hid hy
      have HX := Lib.hid hl
      have HY := Lib.hid hl'
      have ZX := Lib.hid hz
      have ZY := Lib.hid hz'
      have hs := onN_lt 65535 xs (by decide) hz
      have CR := Lib.hid (refOn_any 65535 (by decide) _ xs w hx hz (by rw [hl]; omega))
      have CS := Lib.hid (fun (u : World) (hb : Below w.heap.size w u) => crcSeal_any _ xs u (Els.Rd.below hx hb) hz (by omega))
      have HE : Hid (sealL xs = xs ++ sumL (onN 65535 xs)) := Lib.hid rfl
      have HB := Lib.hid (sealL_byt xs hz)
      have HT := Lib.hid (seal_take xs)
      have HO := Lib.hid (open_seal xs)
      have HN := Lib.hid (seal_len xs)
      generalize onN 65535 xs = s at hs CR HE
      clear hx hy hl hl' hz hz'
      go_enter Try.func4, Try.ntmps4
      go_wp2_with fail
      refine CR.out.mono ?_
      rintro e w1 ⟨rfl, hb⟩
      have B1 := Lib.hid hb
      clear hb CR
      go_wp2_with (first
        | (at_builtin; refine wpList_appY rfl _ (.tmp 24) (.tmp 25) rfl w.heap.size _ _ [] xs rfl (ownY_lit0 _ _ _ (by have := B1.out.size; omega)) rfl (Els.Rd.below RX.out (B1.out.alloc B1.out.size _)) (by have := HX.out; simp; omega) (by have := B1.out.size; simp; omega) ?_; intro v1 w2 ho1 hb1 hg1 _; have O1 := Lib.hid ho1; have B2 := Lib.hid ((B1.out.alloc B1.out.size _).trans hb1); clear ho1 hb1 hg1)
        | (at_builtin; refine wpList_appY rfl _ (.tmp 26) (.tmp 33) rfl w.heap.size _ _ xs [(s : Int) / 256, (s : Int) % 256] rfl (O1.out.alloc _) rfl (rdY_lit2 _ _ _ _) (by have := HX.out; simp; omega) (by have := B2.out.size; simp; omega) ?_; intro v2 w3 ho2 hb2 hg2 _; have O2 := Lib.hid ho2; have B3 := Lib.hid ((B2.out.alloc B2.out.size _).trans hb2); clear ho2 hb2 hg2)
        | fail)
      refine (CS.out _ B3.out).mono ?_
      rintro e w4 ⟨v4, rfl, ho, hb⟩
      have O3 : Hid (eY.Rd w3 v2 (sealL xs)) := Lib.hid (by rw [HE.out]; exact O2.out.rd)
      have B4 := Lib.hid (Below.trans0 B3.out hb)
      have W4 := Lib.hid (Els.Rd.below O3.out hb)
      obtain ⟨A4, c4, rfl, hc4⟩ := ownY_cap ho
      have CO := Lib.hid (crcOpen_any A4 _ c4 _ w4 ho.rd hc4 HB.out (by have := HN.out; have := HX.out; omega))
      clear ho hb hc4
      go_wp2_with fail
      refine CO.out.mono ?_
      rintro e w5 ⟨v5, rfl, hr, hb⟩
      rw [HO.out, if_pos rfl, HT.out] at hr
      rw [HO.out]
      have R5 := Lib.hid hr
      have B5 := Lib.hid (Below.trans0 B4.out hb)
      have W5 := Lib.hid (Els.Rd.below W4.out hb)
      clear hr hb CO
      have CO2 := Lib.hid (fun (u : World) (hb : Below w.heap.size w u) => crcOpen_any a1 len1 cap1 ys u (Els.Rd.below RY.out hb) hcap ZY.out (by have := HY.out; omega))
      go_wp2_with fail
      refine (CO2.out _ B5.out).mono ?_
      rintro e w6 ⟨v6, rfl, hr, hb⟩
      have R6 := Lib.hid hr
      have B6 := Lib.hid (Below.trans0 B5.out hb)
      have W6 := Lib.hid (Els.Rd.below W5.out hb)
      have Q6 := Lib.hid (Els.Rd.below R5.out hb)
      clear hr hb CO2
      go_wp2_with fail
      refine (CS.out _ B6.out).mono ?_
      rintro e w7 ⟨v7, rfl, ho, hb⟩
      have B7 := Lib.hid (Below.trans0 B6.out hb)
      have CE := Lib.hid (eqY_any v7 v2 _ _ w7 ho.rd (Els.Rd.below W6.out hb) HB.out HB.out)
      rw [beq_self_eq_true] at CE
      have CF := Lib.hid (eqY_any v5 (.slice a0 len0 cap0) xs xs w7 (Els.Rd.below Q6.out hb) (Els.Rd.below RX.out B7.out) ZX.out ZX.out)
      rw [beq_self_eq_true] at CF
      have R7 := Lib.hid (Els.Rd.below R6.out hb)
      clear ho hb
      go_wp2_with fail
      refine CE.out.mono ?_
      rintro e w8 ⟨rfl, rfl⟩
      go_wp2_with fail
      refine CF.out.mono ?_
      rintro e w8 ⟨rfl, rfl⟩
      clear CE CF R6 Q6 W6 W5 R5 W4 CS
      by_cases hlt : len1 < 2
      · have HK : openOk ys = false := by unfold openOk; rw [show decide (2 ≤ ys.length) = false by have := HY.out; simp; omega]; rfl
        rw [HK] at R7 ⊢
        obtain ⟨A7, c7, rfl, _⟩ := rdY_open R7.out
        rw [if_neg (by decide)]
        clear R7 HK
        go_wp2_with fail
        refine (alive36 _).mono ?_
        rintro e w9 ⟨rfl, hb⟩
        have B9 := Lib.hid (Below.trans0 B7.out hb)
        clear hb
        go_wp2
        go_ret
        exact ⟨rfl, B9.out⟩
      · obtain ⟨m, hm2⟩ : ∃ m : Nat, len1 = m + 2 := ⟨len1 - 2, by omega⟩
        obtain ⟨A1, c1, hv, hcl⟩ := rdY_open RY.out
        obtain ⟨rfl, hl1, rfl⟩ := Value.slice.inj hv
        obtain ⟨g, off, rfl, hg, hcell⟩ := hcl (by omega)
        have hT : (ys.take m).length = m := by rw [List.length_take]; omega
        have RT := rdY_take (m := m) (c' := cap1) RY.out (by omega)
        have CR2 := Lib.hid (fun (u : World) (hb : Below w.heap.size w u) => refOn_any 65535 (by decide) _ _ u (Els.Rd.below RT hb) (ZY.out.take m) (by rw [hT]; omega))
        have hI : openOk ys = (((onN 65535 (ys.take m) : Nat) : Int) == 256 * iat ys m + iat ys (m + 1)) := open_iff ys m (by omega) ZY.out
        have hq := onN_lt 65535 (ys.take m) (by decide) (ZY.out.take m)
        obtain ⟨T, hTT⟩ : ∃ T, onN 65535 (ys.take m) = T := ⟨_, rfl⟩
        rw [hTT] at hI hq CR2
        have j1 := hcell m (by omega)
        have j2 := hcell (m + 1) (by omega)
        obtain ⟨x0, x1⟩ := ZY.out.at_ m
        obtain ⟨y0, y1⟩ := ZY.out.at_ (m + 1)
        obtain ⟨X, hX⟩ : ∃ X, iat ys m = X := ⟨_, rfl⟩
        obtain ⟨Y, hY⟩ : ∃ Y, iat ys (m + 1) = Y := ⟨_, rfl⟩
        rw [hX] at hI j1 x0 x1
        rw [hY] at hI j2 y0 y1
        have e1 : (len1 : Int) - 2 = (m : Int) := by omega
        have m0 : (0 : Int) ≤ (m : Int) := by omega
        have m1 : (m : Int) < len1 := by omega
        have m2 : (m : Int) + 1 < len1 := by omega
        have m3 : (0 : Int) ≤ (m : Int) + 1 := by omega
        have m4 : ((m : Int) + 1).toNat = m + 1 := by omega
        have m5 : m ≤ cap1 := by omega
        have m6 : ¬ ((len1 : Int) < 2) := by omega
        have k1 : IntKind.i64.wrap ((m : Int) + 1) = (m : Int) + 1 := IntWalk.i64_in _ (by omega)
        have k2 : IntKind.i64.wrap (256 * X) = 256 * X := IntWalk.i64_in _ (by omega)
        have k3 : IntKind.i64.wrap (256 * X + Y) = 256 * X + Y := IntWalk.i64_in _ (by omega)
        have J1 := Lib.hid j1
        have J2 := Lib.hid j2
        have HG := Lib.hid hg
        have HI := Lib.hid hI
        have HTT := Lib.hid hT
        have RTT := Lib.hid RT
        clear j1 j2 hX hY hI hTT hcell hcl hv hl1 hT hlt hg hm2 RT
        have HL2 : Hid (ys.length - 2 = m) := Lib.hid (by have := HY.out; omega)
        cases hK : ((T : Int) == 256 * X + Y)
        · rw [hK] at HI
          rw [HI.out, if_neg (by decide)] at R7
          rw [HI.out]
          obtain ⟨A7, c7, rfl, _⟩ := rdY_open R7.out
          go_wp2_with fail
          refine (CR2.out _ B7.out).mono ?_
          rintro e w8 ⟨rfl, hb⟩
          have B8 := Lib.hid (Below.trans0 B7.out hb)
          have j1 := (B8.out.cell (p := ⟨g, off + m, none⟩) HG.out).trans J1.out
          have j2 := (B8.out.cell (p := ⟨g, off + (m + 1), none⟩) HG.out).trans J2.out
          clear hb R7 CR2
          go_wp2
          go_quiet (fail)
          go_wp2_with fail
          refine (alive36 _).mono ?_
          rintro e w9 ⟨rfl, hb⟩
          have B9 := Lib.hid (Below.trans0 (Below.drewN0 B8.out _) hb)
          clear hb
          go_wp2
          go_ret
          exact ⟨rfl, B9.out⟩
        · rw [hK] at HI
          rw [HI.out, if_pos rfl, HL2.out] at R7
          rw [HI.out]
          have CG := Lib.hid (fun (u : World) (hb : Below w7.heap.size w7 u) => eqY_any v6 (.slice (some ⟨g, off, none⟩) m cap1) _ _ u (Els.Rd.below R7.out hb) (Els.Rd.below (Els.Rd.below RTT.out B7.out) hb) (ZY.out.take m) (ZY.out.take m))
          rw [beq_self_eq_true] at CG
          go_wp2_with fail
          refine (CR2.out _ B7.out).mono ?_
          rintro e w8 ⟨rfl, hb⟩
          have B8 := Lib.hid (Below.trans0 B7.out hb)
          have B78 := Lib.hid hb
          have j1 := (B8.out.cell (p := ⟨g, off + m, none⟩) HG.out).trans J1.out
          have j2 := (B8.out.cell (p := ⟨g, off + (m + 1), none⟩) HG.out).trans J2.out
          clear hb R7 CR2
          go_wp2
          go_quiet (fail)
          go_wp2_with fail
          refine (CG.out _ (Below.drewN0 B78.out _)).mono ?_
          rintro e w9 ⟨rfl, rfl⟩
          go_wp2_with fail
          refine (alive36 _).mono ?_
          rintro e w9 ⟨rfl, hb⟩
          have B9 := Lib.hid (Below.trans0 (Below.drewN0 B8.out _) hb)
          clear hb
          go_wp2
          go_ret
          exact ⟨rfl, B9.out⟩
    · go_enter Try.func4, Try.ntmps4
      go_wp2
      go_ret
      exact ⟨rfl, Below.refl _ _⟩
  · go_enter Try.func4, Try.ntmps4
    go_wp2
    go_ret
    exact ⟨rfl, Below.refl _ _⟩

set_option maxRecDepth 100000 in
theorem lifted (os : Os) (started : os.Started) (H : Type) (enc : TypeId × Value → H) :
    ReturnsInHanded {} Try.checked os 4 .any (Rows.crcSealsSpec.pre6 enc Try.prog Try.f4 Rows.crcSealsRow.domain false) (Rows.crcSealsSpec.post enc Try.prog Try.f4 false true false false) := by
  refine returnsInHanded_of_change (C := Try.checked) own started (by kernel_rfl) Try.func4
    (ChangeSpec.witness6 (enc := enc) (C := Try.checked) false ⟨#[], #[.slice none 0 0, .slice none 0 0], []⟩ 8 (by kernel_rfl) (by kernel_rfl) (by kernel_rfl) (by kernel_rfl)) ?_
  intro W base args ds gs before hval0 hW hcnd _
  have hval : ∀ (j : Nat) t v, Try.f4.params[j]? = some t → args[j]? = some v → Value.okWide Try.prog W .any base t v := hval0
  have hW' := hW
  obtain ⟨p, q, hA0, hV, rfl, hfz, hnd⟩ := hW
  have hA : DataW.TrodAll enc Try.prog W 0 (fun _ => true) true Try.f4.params.toList args.toList ds p := hA0
  rw [Try.params4] at hA hval
  obtain ⟨v0, vs0, d0, ds0, p0, q0, hargs, rfl, rfl, h0, r0⟩ := trodAll_cons hA
  obtain ⟨v1, vs1, d1, ds1, p1, q1, rfl, rfl, rfl, h1, r1⟩ := trodAll_cons r0
  obtain ⟨rfl, rfl, rfl⟩ := trodAll_nil r1
  obtain rfl : args = #[v0, v1] := by cases args; simp_all
  obtain ⟨rfl, rfl⟩ := trodVars_none hV
  obtain ⟨a0, len0, cap0, rfl⟩ := okWide_slice Try.underlying22 (hval 0 22 v0 rfl rfl)
  have k0 := h0
  have lt0 : ∀ x ∈ p0, x.block < W.heap.size := by obtain ⟨m, hm⟩ := k0; exact DataW.trod_lt m _ _ _ hm
  obtain ⟨z0, w0⟩ : ∃ zs, IsRow .u8 W a0 len0 cap0 zs := by
    obtain ⟨fuel, hf⟩ := h0
    rcases open_ints Try.underlying22 Try.underlying5 (by kernel_rfl) hf with ⟨hcs, _⟩ | ⟨x, l, c, zs, hcs, _, hl, hm, hz, _, hcell, hwz⟩
    · simp [Value.cells] at hcs
      obtain ⟨rfl, rfl, rfl⟩ := hcs
      exact ⟨[], .inl ⟨rfl, rfl, rfl, rfl⟩⟩
    · simp [Value.cells] at hcs
      obtain ⟨rfl, rfl, rfl⟩ := hcs
      exact ⟨zs, .inr ⟨_, rfl, hl, hm, by simpa using hz, hcell, hwz⟩⟩
  obtain ⟨a1, len1, cap1, rfl⟩ := okWide_slice Try.underlying22 (hval 1 22 v1 rfl rfl)
  have k1 := h1
  have lt1 : ∀ x ∈ p1, x.block < W.heap.size := by obtain ⟨m, hm⟩ := k1; exact DataW.trod_lt m _ _ _ hm
  obtain ⟨z1, w1⟩ : ∃ zs, IsRow .u8 W a1 len1 cap1 zs := by
    obtain ⟨fuel, hf⟩ := h1
    rcases open_ints Try.underlying22 Try.underlying5 (by kernel_rfl) hf with ⟨hcs, _⟩ | ⟨x, l, c, zs, hcs, _, hl, hm, hz, _, hcell, hwz⟩
    · simp [Value.cells] at hcs
      obtain ⟨rfl, rfl, rfl⟩ := hcs
      exact ⟨[], .inl ⟨rfl, rfl, rfl, rfl⟩⟩
    · simp [Value.cells] at hcs
      obtain ⟨rfl, rfl, rfl⟩ := hcs
      exact ⟨zs, .inr ⟨_, rfl, hl, hm, by simpa using hz, hcell, hwz⟩⟩
  clear hA0 hval0
  refine (walk a0 len0 cap0 z0 a1 len1 cap1 z1 W w0 w1).mono fun e W' ⟨he, bel⟩ => ?_
  subst he
  exact ⟨_, rfl, _, _, _, [], _, [], hW', trodAll_mk1 (shut_bool Try.underlying4 _), (trodAll_cons_mk (Below.trod laidOut (by kernel_rfl) (of_decide_eq_true (by kernel_rfl)) k0 bel lt0) (trodAll_cons_mk (Below.trod laidOut (by kernel_rfl) (of_decide_eq_true (by kernel_rfl)) k1 bel lt1) trodAll_mk0)), rfl, bel.frame _, fun h => by cases h⟩

theorem over : Rows.crcSealsRow.holds Try.pinned (OpenSpec.ofChange Rows.crcSealsSpec) :=
  OpenClaim.holds_of_wide 4 Try.f4 rfl rfl rfl rfl rfl rfl rfl ⟨rfl, rfl, rfl, rfl, rfl⟩ rfl rfl rfl rfl rfl (by kernel_rfl) Try.func4 (by kernel_rfl)
    (of_decide_eq_true (by kernel_rfl)) (by unfold Func.isWrapper; first | (rw [if_pos (by decide +kernel)]; kernel_rfl) | (rw [if_neg (by decide +kernel)]; exact ⟨rfl, rfl⟩))
    (fun os started H enc _ => lifted os started H enc)

theorem proved : Rows.CrcSealsSaid := over
#print axioms proved
end Go.Proofs.Ytnhafficnomlbaa.crcSeals
