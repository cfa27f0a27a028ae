/- The law FlagsBits answers true for every input, and each argument reads afterwards as it read before. Conditions: none. -/
import Derived.Test.YtgmacigoihiobaaRows
import Derived.WalkKit
import Derived.ProofKit
import Derived.OpenShut
import Derived.ShutString
import Derived.ChangeOld
import Derived.Below
import Derived.Test.YtgmacigoihiobaaFlgBits
import Derived.Outline
namespace Go.Proofs.Ytgmacigoihiobaa.flagsBits
open Go.ChangeShapes Go.WideShapes Go.ChangeAt Go.RowKit
open Go.ChangeMaps (open_string shut_string)
set_option linter.unusedVariables false

theorem own : ownKnob Try.prog.godebug = none := by kernel_rfl
theorem laidOut : laidOutB Try.prog = true := by kernel_rfl


set_option maxRecDepth 100000 in
set_option maxHeartbeats 1000000 in
theorem walk (a0 : Int) (a1 : Option Addr) (len1 cap1 : Nat) (z1 : List Int) (a2 : Bool) (w : World) (w0 : (Lit.int .u8 a0).wf = true) (w1 : IsRow .u8 w a1 len1 cap1 z1) :
    Calls Try.prog 9 #[.int .u8 a0, .slice a1 len1 cap1, .bool a2] w fun e w' => e = .returned (.bool true) ∧ Below w.heap.size w w' := by
  obtain ⟨ha, ha'⟩ := bounds_u8 w0
  obtain ⟨xs, hx, hm⟩ := Ints.of_row w1
  unfold maxLen at hm
  clear w1
  by_cases h20 : len1 ≤ 20
  · have hr : ∀ z ∈ xs, 0 ≤ z ∧ z < 256 := fun z hz => by have := bounds_u8 (hx.2.1 z hz); omega
    have q1 := hasAll_eq a0 xs ha (by omega) hr
    have q2 := wantAll_eq a0 a2 xs ha (by omega) hr
    have e1 : ((bits .and .u8 a0 (orAll xs) == orAll xs) == hasAll a0 xs) = true := by rw [q1]; simp
    have e2 : (withOf a0 a2 (orAll xs) == wantAll a0 a2 xs) = true := by rw [q2]; simp
    have E1 := Lib.hid e1
    have E2 := Lib.hid e2
    have HR := Lib.hid hr
    have H := Lib.hid hx
    have hlen := hx.1
    have HL := Lib.hid hlen
    clear q1 q2 e1 e2 hr hx hlen
    go_enter Try.func9, Try.ntmps9
    go_wp2
    go_loop [7, 8, 9] (fun h v i => ∃ k : Nat, k ≤ len1 ∧ i = .int .i64 k ∧ h = .bool (hasAll a0 (xs.take k)) ∧ v = .int .u8 (wantAll a0 a2 (xs.take k))) (fun _ _ i => len1 - (intOf i).toNat)
    case atStart => exact ⟨0, Nat.zero_le _, rfl, rfl, rfl⟩
    case round =>
      obtain ⟨k, hk, rfl, rfl, rfl⟩ := hrel
      by_cases hlt : k < len1
      · obtain ⟨b, off, rfl, hb, hcell⟩ := H.out.2.2 (by omega)
        have hck := hcell k hlt
        have hwx := bounds_u8 (iat_wf H.out.2.1 k (by rw [HL.out]; exact hlt))
        obtain ⟨hx0, hx1⟩ := hwx
        have hwr := wantAll_range a2 (xs.take k) a0 ha (by omega)
        clear hcell
        go_wp2
        go_loop [7, 8, 10] (fun h v b => ∃ j : Nat, j ≤ 8 ∧ b = .int .i64 (pw j) ∧ h = .bool (hasIn a0 (iat xs k) (hasAll a0 (xs.take k)) j) ∧ v = .int .u8 (wantIn a2 (iat xs k) (wantAll a0 a2 (xs.take k)) j)) (fun _ _ b => 256 - (intOf b).toNat)
        case atStart => exact ⟨0, Nat.zero_le _, rfl, rfl, rfl⟩
        case round =>
          obtain ⟨j, hj, rfl, rfl, rfl⟩ := hrel
          have p0 := pw_pos j
          by_cases hjl : j < 8
          · have p1 := pw_lt j hjl
            have PN := Lib.hid (pw_next j)
            have x0 : (pw j == 0) = false := by rw [beq_eq_false_iff_ne]; omega
            have t0 : 0 ≤ iat xs k / pw j := Int.ediv_nonneg hx0 (by omega)
            have t1 : iat xs k / pw j ≤ iat xs k := Int.ediv_le_self _ hx0
            have t2 : (iat xs k).tdiv (pw j) = iat xs k / pw j := Int.tdiv_eq_ediv_of_nonneg hx0
            have hv := wantIn_range a2 (iat xs k) _ hwr.1 hwr.2 j
            obtain ⟨v0, v1⟩ := hv
            cases hb : hasRef (iat xs k) (pw j)
            · have hb' : (iat xs k / pw j % 2 == 1) = false := hb
              have n1 : Hid (hasIn a0 (iat xs k) (hasAll a0 (xs.take k)) (j + 1) = hasIn a0 (iat xs k) (hasAll a0 (xs.take k)) j) := Lib.hid (by simp only [hasIn, hb]; rfl)
              have n2 : Hid (wantIn a2 (iat xs k) (wantAll a0 a2 (xs.take k)) (j + 1) = wantIn a2 (iat xs k) (wantAll a0 a2 (xs.take k)) j) := Lib.hid (by simp only [wantIn, hb]; rfl)
              go_wp2
              go_round
              case rel => exact ⟨j + 1, by omega, by rw [PN.out], by rw [n1.out], by rw [n2.out]⟩
              case measure => simp [intOf]; omega
            · have hb' : (iat xs k / pw j % 2 == 1) = true := hb
              have n2 : Hid (wantIn a2 (iat xs k) (wantAll a0 a2 (xs.take k)) (j + 1) = putRef (wantIn a2 (iat xs k) (wantAll a0 a2 (xs.take k)) j) (pw j) a2) := Lib.hid (by simp only [wantIn, hb]; rfl)
              cases hh : hasIn a0 (iat xs k) (hasAll a0 (xs.take k)) j
              · have n1 : Hid (hasIn a0 (iat xs k) (hasAll a0 (xs.take k)) (j + 1) = false) := Lib.hid (by simp only [hasIn, hb, hh]; rfl)
                go_wp2_with (first
                  | (go_at_call 36; refine (putRef_any _ _ _ _ v0 v1 p0 p1).mono ?_; rintro e w' ⟨rfl, rfl⟩))
                go_round
                case rel => exact ⟨j + 1, by omega, by rw [PN.out], by rw [n1.out], by rw [n2.out]⟩
                case measure => simp [intOf]; omega
              · have n1 : Hid (hasIn a0 (iat xs k) (hasAll a0 (xs.take k)) (j + 1) = hasRef a0 (pw j)) := Lib.hid (by simp only [hasIn, hb, hh]; simp)
                go_wp2_with (first
                  | (go_at_call 35; refine (hasRef_any _ _ _ ha (by omega) p0 p1).mono ?_; rintro e w' ⟨rfl, rfl⟩)
                  | (go_at_call 36; refine (putRef_any _ _ _ _ v0 v1 p0 p1).mono ?_; rintro e w' ⟨rfl, rfl⟩))
                go_round
                case rel => exact ⟨j + 1, by omega, by rw [PN.out], by rw [n1.out], by rw [n2.out]⟩
                case measure => simp [intOf]; omega
          · obtain rfl : j = 8 := by omega
            have p8 : ¬ pw 8 < 256 := by decide
            have HS1 : Hid (hasAll a0 (xs.take (k + 1)) = hasIn a0 (iat xs k) (hasAll a0 (xs.take k)) 8) := Lib.hid (foldl_take (fun h x => hasIn a0 x h 8) xs true k (by rw [HL.out]; exact hlt))
            have HS2 : Hid (wantAll a0 a2 (xs.take (k + 1)) = wantIn a2 (iat xs k) (wantAll a0 a2 (xs.take k)) 8) := Lib.hid (foldl_take (fun w x => wantIn a2 x w 8) xs a0 k (by rw [HL.out]; exact hlt))
            go_wp2
            go_round
            case rel => exact ⟨k + 1, by omega, by go_num, by rw [HS1.out], by rw [HS2.out]⟩
            case measure => simp [intOf]; omega
      · have HE : Hid (xs.take k = xs) := Lib.hid (List.take_of_length_le (by rw [HL.out]; omega))
        rw [HE.out]
        have e1 := E1.out
        have e2 := E2.out
        go_wp2_with (first
          | (go_at_call 37; refine (has_any _ _ _ _ _ _ _ H.out (by omega)).mono ?_; rintro e w' ⟨rfl, rfl⟩)
          | (go_at_call 38; refine (with_any _ _ _ _ _ _ _ _ H.out (by omega)).mono ?_; rintro e w' ⟨rfl, rfl⟩)
          | (go_at_call 39; refine (alive03 _).mono ?_; rintro e W5 ⟨rfl, hb5⟩))
        go_ret
        exact ⟨rfl, hb5⟩
  · go_enter Try.func9, Try.ntmps9
    go_wp2
    go_ret
    exact ⟨rfl, Below.refl _ _⟩

set_option maxRecDepth 100000 in
theorem lifted (os : Os) (started : os.Started) (H : Type) (enc : TypeId × Value → H) :
    ReturnsInHanded {} Try.checked os 9 .any (Rows.flagsBitsSpec.pre6 enc Try.prog Try.f9 Rows.flagsBitsRow.domain false) (Rows.flagsBitsSpec.post enc Try.prog Try.f9 false true false false) := by
  refine returnsInHanded_of_change (C := Try.checked) own started (by kernel_rfl) Try.func9
    (ChangeSpec.witness6 (enc := enc) (C := Try.checked) false ⟨#[], #[.int .u8 0, .slice none 0 0, .bool false], []⟩ 8 (by kernel_rfl) (by kernel_rfl) (by kernel_rfl) (by kernel_rfl)) ?_
  intro W base args ds gs before hval0 hW hcnd _
  have hval : ∀ (j : Nat) t v, Try.f9.params[j]? = some t → args[j]? = some v → Value.okWide Try.prog W .any base t v := hval0
  have hW' := hW
  obtain ⟨p, q, hA0, hV, rfl, hfz, hnd⟩ := hW
  have hA : DataW.TrodAll enc Try.prog W 0 (fun _ => true) true Try.f9.params.toList args.toList ds p := hA0
  rw [Try.params9] at hA hval
  obtain ⟨v0, vs0, d0, ds0, p0, q0, hargs, rfl, rfl, h0, r0⟩ := trodAll_cons hA
  obtain ⟨v1, vs1, d1, ds1, p1, q1, rfl, rfl, rfl, h1, r1⟩ := trodAll_cons r0
  obtain ⟨v2, vs2, d2, ds2, p2, q2, rfl, rfl, rfl, h2, r2⟩ := trodAll_cons r1
  obtain ⟨rfl, rfl, rfl⟩ := trodAll_nil r2
  obtain rfl : args = #[v0, v1, v2] := by cases args; simp_all
  obtain ⟨rfl, rfl⟩ := trodVars_none hV
  obtain ⟨a0, rfl, rfl, rfl, w0⟩ := open_int Try.underlying5 (hval 0 5 v0 rfl rfl) h0
  obtain ⟨a1, len1, cap1, rfl⟩ := okWide_slice Try.underlying29 (hval 1 29 v1 rfl rfl)
  have k1 := h1
  have lt1 : ∀ x ∈ p1, x.block < W.heap.size := by obtain ⟨m, hm⟩ := k1; exact DataW.trod_lt m _ _ _ hm
  obtain ⟨z1, w1⟩ : ∃ zs, IsRow .u8 W a1 len1 cap1 zs := by
    obtain ⟨fuel, hf⟩ := h1
    rcases open_ints Try.underlying29 Try.underlying5 (by kernel_rfl) hf with ⟨hcs, _⟩ | ⟨x, l, c, zs, hcs, _, hl, hm, hz, _, hcell, hwz⟩
    · simp [Value.cells] at hcs
      obtain ⟨rfl, rfl, rfl⟩ := hcs
      exact ⟨[], .inl ⟨rfl, rfl, rfl, rfl⟩⟩
    · simp [Value.cells] at hcs
      obtain ⟨rfl, rfl, rfl⟩ := hcs
      exact ⟨zs, .inr ⟨_, rfl, hl, hm, by simpa using hz, hcell, hwz⟩⟩
  obtain ⟨a2, rfl, rfl, rfl⟩ := open_bool Try.underlying4 (hval 2 4 v2 rfl rfl) h2
  clear hA0 hval0
  refine (walk a0 a1 len1 cap1 z1 a2 W w0 w1).mono fun e W' ⟨he, bel⟩ => ?_
  subst he
  exact ⟨_, rfl, _, _, _, [], _, [], hW', trodAll_mk1 (shut_bool Try.underlying4 _), (trodAll_cons_mk (shut_int Try.underlying5 w0) (trodAll_cons_mk (Below.trod laidOut (by kernel_rfl) (of_decide_eq_true (by kernel_rfl)) k1 bel lt1) (trodAll_cons_mk (shut_bool Try.underlying4 _) trodAll_mk0))), rfl, bel.frame _, fun h => by cases h⟩

theorem over : Rows.flagsBitsRow.holds Try.pinned (OpenSpec.ofChange Rows.flagsBitsSpec) :=
  OpenClaim.holds_of_wide 9 Try.f9 rfl rfl rfl rfl rfl rfl rfl ⟨rfl, rfl, rfl, rfl, rfl⟩ rfl rfl rfl rfl rfl (by kernel_rfl) Try.func9 (by kernel_rfl)
    (of_decide_eq_true (by kernel_rfl)) (by unfold Func.isWrapper; first | (rw [if_pos (by decide +kernel)]; kernel_rfl) | (rw [if_neg (by decide +kernel)]; exact ⟨rfl, rfl⟩))
    (fun os started H enc _ => lifted os started H enc)

theorem proved : Rows.FlagsBitsSaid := over
#print axioms proved
end Go.Proofs.Ytgmacigoihiobaa.flagsBits
