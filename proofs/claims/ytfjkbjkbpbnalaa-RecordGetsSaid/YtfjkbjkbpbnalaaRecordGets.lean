/- The law RecordGets answers true for every input, and each argument reads afterwards as it read before. Conditions: none. -/
import Derived.Test.YtfjkbjkbpbnalaaRows
import Derived.WalkKit
import Derived.ProofKit
import Derived.OpenShut
import Derived.ShutString
import Derived.ChangeOld
import Derived.Below
import Derived.Test.YtfjkbjkbpbnalaaRcZ
import Derived.Test.YtfjkbjkbpbnalaaRcU
import Derived.Test.YtfjkbjkbpbnalaaRcR
namespace Go.Proofs.Ytfjkbjkbpbnalaa.recordGets
open Go.ChangeShapes Go.WideShapes Go.ChangeAt Go.RowKit
open Go.ChangeMaps (open_string shut_string)
set_option linter.unusedVariables false

theorem own : ownKnob Try.prog.godebug = none := by kernel_rfl
theorem laidOut : laidOutB Try.prog = true := by kernel_rfl


set_option maxRecDepth 100000 in
set_option maxHeartbeats 1000000 in
theorem walk (a0 : Option Addr) (len0 cap0 : Nat) (z0 : List Int) (a1 : ByteArray) (w : World) (w0 : IsRow .u8 w a0 len0 cap0 z0) (w1 : a1.size ≤ maxLen) :
    Calls Try.prog 6 #[.slice a0 len0 cap0, .string a1] w fun e w' => e = .returned (.bool true) ∧ Below w.heap.size w w' := by
  obtain ⟨xs, hx, hm⟩ := Ints.of_row w0
  have hnc : len0 ≤ cap0 := by rcases w0 with ⟨-, rfl, rfl, -⟩ | ⟨_, -, h, -⟩ <;> omega
  clear w0 hm
  by_cases h1 : len0 ≤ 200
  · by_cases h2 : a1.size ≤ 60
    · have CG := Lib.hid (fun u (h : Ints .u8 u u.heap.size a0 len0 xs) => rcGet_any a0 len0 cap0 hnc (by omega) xs u h)
      have HX := Lib.hid hx
      clear hx hnc
      go_enter Try.func6, Try.ntmps6
      go_wp2_with fail
      refine (CG.out _ HX.out).mono ?_
      rintro e wg ⟨he, hbg⟩
      have HB := Lib.hid hbg
      have HX1 := Lib.hid (Ints.below HX.out hbg.size hbg)
      clear hbg
      have L1 := Lib.hid HX.out.1
      obtain ⟨r, c, rfl, hrc⟩ : ∃ r c, e = .returned (.tuple #[r, .int .i64 c]) ∧ ((r = .slice none 0 0 ∧ c = 12 ∧ len0 % 4 ≠ 0) ∨ (r = .slice none 0 0 ∧ c = 21 ∧ len0 % 4 = 0 ∧ anyG xs (len0 / 4) = true) ∨ (c = 0 ∧ len0 % 4 = 0 ∧ anyG xs (len0 / 4) = false ∧ (∀ k, 4 * k + 3 < len0 → iat xs (4 * k + 3) < 128) ∧ eR.Rd wg r (gtL xs (len0 / 4)))) := by
        rcases he with ⟨rfl, h4⟩ | ⟨rfl, h4, k0, hk0, hk1⟩ | ⟨v, rfl, h4, hall, hrd⟩
        · exact ⟨_, _, rfl, .inl ⟨rfl, rfl, h4⟩⟩
        · exact ⟨_, _, rfl, .inr (.inl ⟨rfl, rfl, h4, anyG_yes xs _ k0 (by omega) hk1⟩)⟩
        · exact ⟨_, _, rfl, .inr (.inr ⟨rfl, h4, anyG_no xs _ (fun j hj => hall j (by omega)), hall, hrd⟩)⟩
      have RC := Lib.hid hrc
      clear hrc he
      go_wp2
      go_loop [7, 8] (fun b i => ∃ k : Nat, k ≤ len0 / 4 ∧ i = .int .i64 (4 * k + 3) ∧ b = .bool (anyG xs k)) (fun _ i => len0 + 4 - (intOf i).toNat)
      case atStart => exact ⟨0, Nat.zero_le _, rfl, rfl⟩
      case round =>
        obtain ⟨k, hk, rfl, rfl⟩ := hrel
        by_cases hlt : 4 * k + 3 < len0
        · obtain ⟨g, off, rfl, hg, hcell⟩ := HX1.out.2.2 (by omega)
          have c3 := hcell (4 * k + 3) hlt
          have NX := Lib.hid (anyG_next xs k)
          have r3 := bounds_u8 (iat_wf HX.out.2.1 (4 * k + 3) (by rw [L1.out]; exact hlt))
          generalize iat xs (4 * k + 3) = b3 at c3 NX r3
          generalize anyG xs k = ab at NX ⊢
          have t0 : (0 : Int) ≤ 4 * (k : Int) + 3 := by omega
          have t1 : 4 * (k : Int) + 3 < (len0 : Int) := by omega
          have t2 : (4 * (k : Int) + 3).toNat = 4 * k + 3 := by omega
          clear hcell
          cases ab
          · go_wp2
            go_round
            case rel => exact ⟨k + 1, by omega, by go_num, by rw [NX.out]; simp⟩
            case measure => simp [intOf]; omega
          · go_wp2
            go_round
            case rel => exact ⟨k + 1, by omega, by go_num, by rw [NX.out]; simp⟩
            case measure => simp [intOf]; omega
        · obtain rfl : k = len0 / 4 := by omega
          obtain ⟨B, hBB⟩ : ∃ B, anyG xs (len0 / 4) = B := ⟨_, rfl⟩
          rw [hBB] at RC ⊢
          have hge : (len0 : Int) ≤ 4 * ((len0 / 4 : Nat) : Int) + 3 := by omega
          obtain ⟨i9, hi9⟩ : ∃ i9 : Int, 4 * ((len0 / 4 : Nat) : Int) + 3 = i9 := ⟨_, rfl⟩
          rw [hi9] at hge ⊢
          clear hi9 hBB hlt hk
          have CR := Lib.hid (fun u => rcRead_any a1 u)
          have CT := Lib.hid (fun u => rcRef_any (rdX a1) (rdX_ok a1) u)
          obtain ⟨X, hX⟩ : ∃ X, rdX a1 = X := ⟨_, rfl⟩
          rw [hX] at CR CT
          clear hX
          go_wp2_with fail
          refine (CR.out _).mono ?_
          rintro e w1 ⟨he, hb⟩
          have HB1 := Lib.hid (Below.trans0 HB.out hb)
          have HG1 := Lib.hid hb
          clear hb
          rcases he with ⟨rfl, ht⟩ | ⟨rfl, ht⟩
          case' inl =>
            have P1 : Hid (Blk (w1.alloc (Obj.cells X.cells 37)) w1.heap.size 37 X.cells) := Lib.hid (Blk.new _ _ _ (0, 0))
            rw [ht] at CT
            obtain ⟨p0, p1, p2, p3, p4, p5, p6, p7, p8⟩ := Blk.c9 P1.out
            have hne : (a1.toList != a1.toList) = false := by simp
            clear ht
            go_wp2_with fail
            refine (CT.out _).mono ?_
            rintro e W ⟨rfl, hb⟩
            have HBW := Lib.hid (Below.trans0 (Below.alloc0 HB1.out _) hb)
            have HGW := Lib.hid (Below.trans0 (Below.alloc0 HG1.out _) hb)
            clear hb p0 p1 p2 p3 p4 p5 p6 p7 p8 P1 HB1 HG1 CT CR
            go_upto_region 12 with (fail)
            clear hne
          case' inr =>
            have P1 : Hid (Blk (w1.alloc (Obj.cells zR 37)) w1.heap.size 37 zR) := Lib.hid (Blk.new _ _ _ (0, 0))
            have HBW := Lib.hid (Below.alloc0 HB1.out (Obj.cells zR 37))
            have HGW := Lib.hid (Below.alloc0 HG1.out (Obj.cells zR 37))
            obtain ⟨p0, p1, p2, p3, p4, p5, p6, p7, p8⟩ := Blk.c9 P1.out
            have hne := neq_rc0
            clear ht HB1 HG1 CT CR
            go_upto_region 12 with (fail)
            clear hne p0 p1 p2 p3 p4 p5 p6 p7 p8 P1
            generalize w1.alloc (Obj.cells zR 37) = W at HBW HGW ⊢
          all_goals
            rcases RC.out with ⟨rfl, rfl, h4⟩ | ⟨rfl, rfl, h4, rfl⟩ | ⟨rfl, h4, rfl, hall, hrd⟩
            · have e4 : (0 : Int) < (len0 : Int) % 4 := by omega
              clear RC
              go_wp2_with fail
              refine (alive26 _).mono ?_
              rintro e w9 ⟨rfl, hb⟩
              have HB9 := Lib.hid (Below.trans0 HBW.out hb)
              clear hb
              go_wp2
              go_ret
              exact ⟨rfl, HB9.out⟩
            · have e4 : ¬ (0 : Int) < (len0 : Int) % 4 := by omega
              clear RC
              go_wp2_with fail
              refine (alive26 _).mono ?_
              rintro e w9 ⟨rfl, hb⟩
              have HB9 := Lib.hid (Below.trans0 HBW.out hb)
              clear hb
              go_wp2
              go_ret
              exact ⟨rfl, HB9.out⟩
            · have e4 : ¬ (0 : Int) < (len0 : Int) % 4 := by omega
              obtain ⟨A, cc, rfl, hc⟩ := (Els.Rd.below hrd HGW.out).open_
              rw [gtL_len] at hc ⊢
              have HC := Lib.hid hc
              have HA := Lib.hid hall
              have H4 := Lib.hid h4
              have WFX := Lib.hid HX.out.2.1
              clear hc hrd hall h4 RC CG
              go_wp2
              go_loopw [11, 12] (fun o i wr => ∃ k : Nat, k ≤ len0 / 4 ∧ i = .int .i64 k ∧ Hid (eU.Own 5 wr W.heap.size o (xs.take (4 * k))) ∧ Hid (Below W.heap.size W wr)) (fun _ i _ => len0 / 4 - (intOf i).toNat)
              case atStart => exact ⟨0, Nat.zero_le _, rfl, Lib.hid (Els.Own.nil_ _ _), Lib.hid (Below.refl _ _)⟩
              case round =>
                obtain ⟨k, hk, rfl, hO, hB⟩ := hrel
                by_cases hlt : k < len0 / 4
                · obtain ⟨g, off, rfl, hg, hcell⟩ := HC.out (by omega)
                  have hkl : 4 * k + 3 < xs.length := by rw [L1.out]; omega
                  have hgk : (gtL xs (len0 / 4))[k]? = some (gtR xs k) := by simp [gtL, hlt]
                  have CE := hcell k _ hgk
                  have PU := Lib.hid (pu_gt xs WFX.out k hkl (HA.out k (by rw [← L1.out]; exact hkl)))
                  have T4 := Lib.hid (take4 xs k hkl)
                  have CP := Lib.hid (fun u => rcPut_any (gtR xs k) (gt_ok xs WFX.out k hkl) u)
                  obtain ⟨x, hx⟩ : ∃ x, gtR xs k = x := ⟨_, rfl⟩
                  rw [hx] at CE PU CP
                  rw [PU.out] at CP
                  obtain ⟨L4, hL4⟩ : ∃ l, [iat xs (4 * k), iat xs (4 * k + 1), iat xs (4 * k + 2), iat xs (4 * k + 3)] = l := ⟨_, rfl⟩
                  rw [hL4] at CP T4
                  have LL : Hid (L4.length = 4) := Lib.hid (by rw [← hL4]; rfl)
                  have LK : Hid ((xs.take (4 * k)).length ≤ 1000) := Lib.hid (by rw [List.length_take]; omega)
                  have q0 := (hB.out.cell (p := ⟨g, off + (k * 9 + 0), none⟩) hg).trans (CE 0 _ rfl)
                  have q1 := (hB.out.cell (p := ⟨g, off + (k * 9 + 1), none⟩) hg).trans (CE 1 _ rfl)
                  have q2 := (hB.out.cell (p := ⟨g, off + (k * 9 + 2), none⟩) hg).trans (CE 2 _ rfl)
                  have q3 := (hB.out.cell (p := ⟨g, off + (k * 9 + 3), none⟩) hg).trans (CE 3 _ rfl)
                  have q4 := (hB.out.cell (p := ⟨g, off + (k * 9 + 4), none⟩) hg).trans (CE 4 _ rfl)
                  have q5 := (hB.out.cell (p := ⟨g, off + (k * 9 + 5), none⟩) hg).trans (CE 5 _ rfl)
                  have q6 := (hB.out.cell (p := ⟨g, off + (k * 9 + 6), none⟩) hg).trans (CE 6 _ rfl)
                  have q7 := (hB.out.cell (p := ⟨g, off + (k * 9 + 7), none⟩) hg).trans (CE 7 _ rfl)
                  have q8 := (hB.out.cell (p := ⟨g, off + (k * 9 + 8), none⟩) hg).trans (CE 8 _ rfl)
                  simp only [← Nat.add_assoc, Nat.add_zero] at q0 q1 q2 q3 q4 q5 q6 q7 q8
                  have k0 : (0 : Int) ≤ (k : Int) := by omega
                  have k1 : (k : Int) < ((len0 / 4 : Nat) : Int) := by omega
                  clear CE hcell hgk hx hL4 PU hkl
                  go_wp2_with fail
                  clear q0 q1 q2 q3 q4 q5 q6 q7 q8
                  refine (CP.out _).mono ?_
                  rintro e w2 ⟨vp, rfl, hr, hb⟩
                  have HR := Lib.hid hr
                  have HO2 := Lib.hid (Els.Own.below hO.out hb)
                  have HB2 := Lib.hid (Below.trans0 hB.out hb)
                  clear hr hb CP
                  go_wp2_with (at_builtin; refine wpList_appU rfl _ (.tmp 97) (.tmp 102) rfl W.heap.size u11 vp (xs.take (4 * k)) L4 rfl HO2.out rfl HR.out (by have := LK.out; have := LL.out; omega) (by have := HB2.out.size; omega) ?_; intro v' w4 hown hbel hgr hwh)
                  have HO4 : Hid (eU.Own 5 w4 W.heap.size v' (xs.take (4 * (k + 1)))) := Lib.hid (by rw [T4.out]; exact hown)
                  have HB4 := Lib.hid (HB2.out.trans hbel)
                  clear hown hbel hgr hwh
                  go_wp2
                  go_roundw
                  case rel => exact ⟨k + 1, by omega, by go_num, HO4, HB4⟩
                  case measure => simp [intOf]; omega
                · obtain rfl : k = len0 / 4 := by omega
                  have hE : xs.take (4 * (len0 / 4)) = xs := List.take_of_length_le (by rw [L1.out]; have := H4.out; omega)
                  rw [hE] at hO
                  obtain ⟨A2, c2, rfl, hI⟩ := (eU_own hO.out).ints WFX.out
                  have HI := Lib.hid hI
                  have HX3 := Lib.hid (Ints.below HX1.out (Nat.le_trans HGW.out.size hB.out.size) (Below.trans0 HGW.out hB.out))
                  have HB5 := Lib.hid (Below.trans0 HBW.out hB.out)
                  have k1 : ¬ ((len0 / 4 : Nat) : Int) < ((len0 / 4 : Nat) : Int) := by omega
                  have hEq : (xs == xs) = true := by simp
                  clear hI hE hO hB
                  go_wp2_with (go_at_call 21; refine (bytesEqual_any _ _ _ _ _ _ _ _ _ _ _ HI.out HX3.out).mono ?_; rintro e w' ⟨rfl, rfl⟩)
                  refine (alive26 _).mono ?_
                  rintro e w9 ⟨rfl, hb⟩
                  have HB9 := Lib.hid (Below.trans0 HB5.out hb)
                  clear hb
                  go_wp2
                  go_ret
                  exact ⟨rfl, HB9.out⟩
    · have h2' : ¬ a1.size ≤ 60 := h2
      go_enter Try.func6, Try.ntmps6
      go_wp2
      go_ret
      exact ⟨rfl, Below.refl _ _⟩
  · go_enter Try.func6, Try.ntmps6
    go_wp2
    go_ret
    exact ⟨rfl, Below.refl _ _⟩

set_option maxRecDepth 100000 in
theorem lifted (os : Os) (started : os.Started) (H : Type) (enc : TypeId × Value → H) :
    ReturnsInHanded {} Try.checked os 6 .any (Rows.recordGetsSpec.pre6 enc Try.prog Try.f6 Rows.recordGetsRow.domain false) (Rows.recordGetsSpec.post enc Try.prog Try.f6 false true false false) := by
  refine returnsInHanded_of_change (C := Try.checked) own started (by kernel_rfl) Try.func6
    (ChangeSpec.witness6 (enc := enc) (C := Try.checked) false ⟨#[], #[.slice none 0 0, .string ByteArray.empty], []⟩ 8 (by kernel_rfl) (by kernel_rfl) (by kernel_rfl) (by kernel_rfl)) ?_
  intro W base args ds gs before hval0 hW hcnd _
  have hval : ∀ (j : Nat) t v, Try.f6.params[j]? = some t → args[j]? = some v → Value.okWide Try.prog W .any base t v := hval0
  have hW' := hW
  obtain ⟨p, q, hA0, hV, rfl, hfz, hnd⟩ := hW
  have hA : DataW.TrodAll enc Try.prog W 0 (fun _ => true) true Try.f6.params.toList args.toList ds p := hA0
  rw [Try.params6] at hA hval
  obtain ⟨v0, vs0, d0, ds0, p0, q0, hargs, rfl, rfl, h0, r0⟩ := trodAll_cons hA
  obtain ⟨v1, vs1, d1, ds1, p1, q1, rfl, rfl, rfl, h1, r1⟩ := trodAll_cons r0
  obtain ⟨rfl, rfl, rfl⟩ := trodAll_nil r1
  obtain rfl : args = #[v0, v1] := by cases args; simp_all
  obtain ⟨rfl, rfl⟩ := trodVars_none hV
  obtain ⟨a0, len0, cap0, rfl⟩ := okWide_slice Try.underlying33 (hval 0 33 v0 rfl rfl)
  have k0 := h0
  have lt0 : ∀ x ∈ p0, x.block < W.heap.size := by obtain ⟨m, hm⟩ := k0; exact DataW.trod_lt m _ _ _ hm
  obtain ⟨z0, w0⟩ : ∃ zs, IsRow .u8 W a0 len0 cap0 zs := by
    obtain ⟨fuel, hf⟩ := h0
    rcases open_ints Try.underlying33 Try.underlying5 (by kernel_rfl) hf with ⟨hcs, _⟩ | ⟨x, l, c, zs, hcs, _, hl, hm, hz, _, hcell, hwz⟩
    · simp [Value.cells] at hcs
      obtain ⟨rfl, rfl, rfl⟩ := hcs
      exact ⟨[], .inl ⟨rfl, rfl, rfl, rfl⟩⟩
    · simp [Value.cells] at hcs
      obtain ⟨rfl, rfl, rfl⟩ := hcs
      exact ⟨zs, .inr ⟨_, rfl, hl, hm, by simpa using hz, hcell, hwz⟩⟩
  obtain ⟨a1, rfl, rfl, rfl, w1⟩ := open_string Try.underlying9 (hval 1 9 v1 rfl rfl) h1
  clear hA0 hval0
  refine (walk a0 len0 cap0 z0 a1 W w0 w1).mono fun e W' ⟨he, bel⟩ => ?_
  subst he
  exact ⟨_, rfl, _, _, _, [], _, [], hW', trodAll_mk1 (shut_bool Try.underlying4 _), (trodAll_cons_mk (Below.trod laidOut (by kernel_rfl) (of_decide_eq_true (by kernel_rfl)) k0 bel lt0) (trodAll_cons_mk (shut_string Try.underlying9 w1) trodAll_mk0)), rfl, bel.frame _, fun h => by cases h⟩

theorem over : Rows.recordGetsRow.holds Try.pinned (OpenSpec.ofChange Rows.recordGetsSpec) :=
  OpenClaim.holds_of_wide 6 Try.f6 rfl rfl rfl rfl rfl rfl rfl ⟨rfl, rfl, rfl, rfl, rfl⟩ rfl rfl rfl rfl rfl (by kernel_rfl) Try.func6 (by kernel_rfl)
    (of_decide_eq_true (by kernel_rfl)) (by unfold Func.isWrapper; first | (rw [if_pos (by decide +kernel)]; kernel_rfl) | (rw [if_neg (by decide +kernel)]; exact ⟨rfl, rfl⟩))
    (fun os started H enc _ => lifted os started H enc)

theorem proved : Rows.RecordGetsSaid := over
#print axioms proved
end Go.Proofs.Ytfjkbjkbpbnalaa.recordGets
