/- The law WaveReads answers true for every input, and each argument reads afterwards as it read before. Conditions: none. -/
import Derived.Test.YtpleboogijgdcaaDoorRows
import Derived.WalkKit
import Derived.ProofKit
import Derived.OpenShut
import Derived.ShutString
import Derived.ChangeOld
import Derived.Below
import Derived.Test.YtpleboogijgdcaaDoorWvA
import Derived.Deep.CutBlock
import Derived.LaidMore
import Derived.Lay
import Derived.Test.YtpleboogijgdcaaDoorCards
import Derived.Test.YtpleboogijgdcaaDoorTie
import Derived.LaidMore
import Derived.Stop.Joined
import Derived.SevenTiedAt
namespace Go.Proofs.YtpleboogijgdcaaDoor.waveReads
open Go.ChangeShapes Go.WideShapes Go.ChangeAt Go.RowKit
open Go.ChangeMaps (open_string shut_string)
set_option linter.unusedVariables false      -- a walk need not use every 'w<i>' (that an integer argument fits its kind)

theorem own : ownKnob Tryd.prog.godebug = none := by kernel_rfl

set_option maxRecDepth 100000 in
set_option maxHeartbeats 8000000 in
theorem walk (a0 : ByteArray) (w0 : a0.size ≤ maxLen) (w : World) (hL : laidMetH Tryd.prog Rows.waveReadsRow.laid w) :
    Calls Tryd.prog 3 #[.string a0] w fun e w' => e = .returned (.bool true) ∧ Below w.heap.size w w' := by
  -- heartbeats 8000000
  by_cases h1 : a0.size ≤ 400
  case neg =>
    go_enter Tryd.func3, Tryd.ntmps3
    go_wp2
    go_ret
    exact ⟨rfl, Below.refl _ _⟩
  have CR := Lib.hid (wvRead_any a0 w (by omega))
  have CA := Lib.hid (fun u => alive50 u)
  have CT := Lib.hid (fun v (F : List Rc) u (q : eR.Rd u v F) (q2 : F.length ≤ 100000) => wvText_any v F u q q2)
  have NO := Lib.hid (wv_none a0)
  have HS := Lib.hid h1
  go_enter Tryd.func3, Tryd.ntmps3
  go_wp2_with fail
  refine CR.out.mono ?_
  rintro e w1 ⟨hb, (⟨rfl, hno⟩ | ⟨hL, hT, v, rfl, hr⟩)⟩
  · have HB := Lib.hid hb
    have NE := Lib.hid (NO.out hno)
    have CT0 := Lib.hid (CT.out (.slice none 0 0) [] w1 (Els.Rd.nil_ _) (by simp))
    obtain ⟨T, hTT⟩ : ∃ T, wvT [] 7 = T := ⟨_, rfl⟩
    rw [hTT] at CT0 NE
    have e1 : (a0.toList == T.toList) = false := by
      rw [beq_eq_false_iff_ne]
      intro q
      rw [ByteArray.toList_eq, ByteArray.toList_eq] at q
      exact NE.out (ByteArray.ext (Array.toList_inj.1 q))
    have e2 : (a0.toList != T.toList) = true := by rw [bne, e1]; rfl
    clear hb hno hTT
    go_wp2_with fail
    refine CT0.out.mono ?_
    rintro e w2 ⟨rfl, hb⟩
    have HB2 := Lib.hid (Below.trans0 HB.out hb)
    clear hb
    go_wp2_with fail
    refine (CA.out _).mono ?_
    rintro e w3 ⟨rfl, hb⟩
    have HB3 := Lib.hid (Below.trans0 HB2.out hb)
    clear hb
    go_wp2
    go_ret
    exact ⟨rfl, HB3.out⟩
  · have HB := Lib.hid hb
    have HR := Lib.hid hr
    have hlen := rdF_len a0 (a0.size / 7) (a0.size / 7 - 6)
    have hz : ∀ x ∈ rdF a0 (a0.size / 7) (a0.size / 7 - 6), x.a = 0 ∧ x.d = 0 := by
      intro x hx
      simp only [rdF, List.mem_map] at hx
      obtain ⟨i, _, rfl⟩ := hx
      exact ⟨rfl, rfl⟩
    have hn4 : a0.size / 7 - 6 ≤ 400 := by omega
    obtain ⟨F, hF⟩ : ∃ F, rdF a0 (a0.size / 7) (a0.size / 7 - 6) = F := ⟨_, rfl⟩
    rw [hF] at hT hz hlen HR
    obtain ⟨n, hn⟩ : ∃ n, a0.size / 7 - 6 = n := ⟨_, rfl⟩
    rw [hn] at hlen hn4
    have HZ := Lib.hid hz
    have HT := Lib.hid hT
    have HLn := Lib.hid hlen
    obtain ⟨A, c, rfl, hc⟩ := hr.open_
    rw [hF, hlen] at hc HR ⊢
    have HC := Lib.hid hc
    clear hb hr hL hT hz hF hn hc hlen
    go_wp2
    go_loopw [5] (fun i wr => ∃ k : Nat, k ≤ n ∧ i = .int .i64 k ∧ wr = w1) (fun i _ => n - (intOf i).toNat)
    case atStart => exact ⟨0, Nat.zero_le _, rfl, rfl⟩
    case round =>
      obtain ⟨k, hk, rfl, rfl⟩ := hrel
      by_cases hlt : k < n
      · obtain ⟨g, off, rfl, hg, hcell⟩ := HC.out (by omega)
        obtain ⟨x, hx⟩ : ∃ x, F[k]? = some x := ⟨_, List.getElem?_eq_getElem (by rw [HLn.out]; exact hlt)⟩
        obtain ⟨xa, xd⟩ := HZ.out x (List.mem_of_getElem? hx)
        obtain ⟨d0, d1, d2, d3, d4, d5, d6, d7, d8⟩ := rc9_at (Below.refl _ _) hg (fun jj u hu => hcell k x hx jj u hu)
        rw [xa] at d0
        rw [xd] at d1
        have k0 : (0 : Int) ≤ k := by omega
        have k1 : (k : Int) < n := by omega
        clear hcell hx xa xd d2 d3 d4 d5 d6 d7 d8
        go_wp2
        go_roundw
        case rel => exact ⟨k + 1, by omega, by go_num, by trivial⟩
        case measure => simp [intOf]; omega
      · obtain rfl : k = n := by omega
        have CTF := Lib.hid (CT.out _ F _ HR.out (by rw [HLn.out]; omega))
        rw [HT.out] at CTF
        have e1 : (a0.toList == a0.toList) = true := by simp
        go_wp2_with fail
        refine CTF.out.mono ?_
        rintro e w2 ⟨rfl, hb⟩
        have HB2 := Lib.hid (Below.trans0 HB.out hb)
        clear hb
        go_wp2_with fail
        refine (CA.out _).mono ?_
        rintro e w3 ⟨rfl, hb⟩
        have HB3 := Lib.hid (Below.trans0 HB2.out hb)
        clear hb
        go_wp2
        go_ret
        exact ⟨rfl, HB3.out⟩

set_option maxRecDepth 100000 in
theorem lifted (os : Os) (started : os.Started) (H : Type) (enc : TypeId × Value → H) :
    ReturnsInHanded {} Tryd.checked os 3 .any (fun w args => (Rows.waveReadsSpec.pre enc Tryd.prog Tryd.f3 Rows.waveReadsRow.domain false w args ∧ laidMetH Tryd.prog Rows.waveReadsRow.laid w) ∧ sizedMet enc Tryd.prog Tryd.f3 (OpenSpec.ofChange Rows.waveReadsSpec) false w args) (Rows.waveReadsSpec.post enc Tryd.prog Tryd.f3 false true false false) := by
  refine returnsInHanded_of_change_and (C := Tryd.checked) (X := fun w _ => laidMetH Tryd.prog Rows.waveReadsRow.laid w) (fun _ _ _ hh h => h.of_heap hh) own started (by kernel_rfl) Tryd.func3
    (ChangeSpec.witness_shaped (enc := enc) (C := Tryd.checked) (os := os) (X := fun w _ => laidMetH Tryd.prog Rows.waveReadsRow.laid w) false (World.laidAll Tryd.prog os Rows.waveReadsRow.laid) #[.string ByteArray.empty] 8 (World.laidAll_os _ _ _) (World.shaped_of_ZipB (by kernel_rfl) (by kernel_rfl)) (by kernel_rfl) (by kernel_rfl) (by kernel_rfl) (by rw [MakeChecks.laidMetH_plain _ _ _ (by kernel_rfl)]; exact laidMet_laidAll _ (by kernel_rfl) (by kernel_rfl))) ?_
  intro W base args ds gs before hval0 hW _ hZ hL _
  have hval : ∀ (j : Nat) t v, Tryd.f3.params[j]? = some t → args[j]? = some v → Value.okWide Tryd.prog W .any base t v := hval0
  have hW' := hW
  obtain ⟨p, q, hA0, hV, rfl, hfz, hnd⟩ := hW
  have hA : DataW.TrodAll enc Tryd.prog W 0 (fun _ => true) true Tryd.f3.params.toList args.toList ds p := hA0
  rw [Tryd.params3] at hA hval
  obtain ⟨v0, vs0, d0, ds0, p0, q0, hargs, rfl, rfl, h0, r0⟩ := trodAll_cons hA
  obtain ⟨rfl, rfl, rfl⟩ := trodAll_nil r0
  obtain rfl : args = #[v0] := by cases args; simp_all
  obtain ⟨rfl, rfl⟩ := trodVars_none hV
  obtain ⟨a0, rfl, rfl, rfl, w0⟩ := open_string Tryd.underlying9 (hval 0 9 v0 rfl rfl) h0
  clear hA0 hval0
  refine (walk a0 w0 W hL).mono fun e W' ⟨he, bel⟩ => ?_
  subst he
  exact ⟨_, rfl, _, _, _, [], _, [], hW', trodAll_mk1 (shut_bool Tryd.underlying4 _), (trodAll_cons_mk (shut_string Tryd.underlying9 w0) trodAll_mk0), rfl, bel.frame _, fun h => by cases h⟩

theorem over : Rows.waveReadsRow.holds Tryd.pinned (OpenSpec.ofChange Rows.waveReadsSpec) :=
  OpenClaim.holds_of_wide 3 Tryd.f3 rfl rfl rfl rfl rfl rfl rfl ⟨rfl, rfl, rfl, rfl, rfl⟩ rfl rfl rfl rfl rfl (by kernel_rfl) Tryd.func3 (by kernel_rfl)
    (of_decide_eq_true (by kernel_rfl)) (by unfold Func.isWrapper; first | (rw [if_pos (by decide +kernel)]; kernel_rfl) | (rw [if_neg (by decide +kernel)]; exact ⟨rfl, rfl⟩))
    (fun os started H enc _ => lifted os started H enc)

theorem proved : Rows.WaveReadsCardSaid :=
  Claim7.holds_tied_plain_at .later [] [.data, .pinned] true (true, "1119c0596124d8fc52523c80dcf893b996e4e019c20ae2c4690bdeabedf2d936") false
    over (fun _ h => by cases h) (by kernel_rfl) (fun _ h => by cases h) waveReads_row_tie rfl ⟨rfl, rfl⟩ (by kernel_rfl) rfl
    (fun f fn hf hfn => by
      obtain rfl : f = 3 := Option.some.inj ((show Tryd.prog.funcNamed "spinet/spinetlaw50.WaveReads" = some 3 by kernel_rfl).symm.trans hf) |>.symm
      obtain rfl : fn = Tryd.f3 := (Option.some.inj (Tryd.func3.symm.trans hfn)).symm
      exact ⟨by kernel_rfl, fun j t ht => by
        rw [Tryd.params3] at ht
        have hm : t ∈ [9] := by have := Array.mem_of_getElem? ht; simp at this ⊢; omega
        have hall : ([9].all fun u => !Tryd.prog.wantsStandIn u) = true := by kernel_rfl
        exact (show Tryd.prog.wantsStandIn t = false by simpa using List.all_eq_true.1 hall t hm)⟩)
    (by kernel_rfl)
#print axioms proved
end Go.Proofs.YtpleboogijgdcaaDoor.waveReads
