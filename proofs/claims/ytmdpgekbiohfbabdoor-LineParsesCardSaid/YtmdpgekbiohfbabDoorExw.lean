/- Contracts of the document's own answer for layer 44: term. -/
import Derived.Test.YtmdpgekbiohfbabDoorExv
namespace Go.Proofs.YtmdpgekbiohfbabDoor
open Go.ChangeShapes Go.WideShapes Go.ChangeAt Go.RowKit
set_option linter.unusedVariables false

set_option maxRecDepth 100000 in
set_option maxHeartbeats 2000000 in
theorem rfTerm_any (w : World) (S : ByteArray) (i : Nat) (hi : i ≤ S.size) (a : Int) (ha : 0 ≤ a ∧ a < 65536) (v : Value) (nl : List NmV) (hR : eN.Rd w v nl) (hw : ∀ x ∈ nl, 0 ≤ x.2 ∧ x.2 < 65536) (hn : nl.length ≤ 1000) (hs : S.size ≤ 1099511627776) :
    Calls Tryd.prog 91 #[.string S, .int .i64 (i : Int), .int .u16 a, v] w (RfTerm w i (termL a (lookL (lookB nl)) ((nums S).drop i))) := by
  have hb := get_nums S
  have HL := Lib.hid (nums_len S)
  have HD : Hid (((nums S).drop i).length = S.size - i) := Lib.hid (by rw [List.length_drop, HL.out])
  obtain ⟨A, c, rfl, hcell⟩ := hR.open_
  by_cases he : i = S.size
  · have HE := Lib.hid (term_nil a (lookL (lookB nl)) ((nums S).drop i) (by rw [HD.out]; omega))
    rw [HE.out]
    have h1 : (S.size : Int) ≤ (i : Int) := by omega
    clear hb he hcell hR hw
    go_enter Tryd.func91, Tryd.ntmps91
    go_wp2
    ((try simp only [Exit.inBlock, Exit.then]); refine bodyPost_ret (results_tmp4 rfl _ _ _) rfl ?_)
    exact ⟨⟨0, rfl⟩, _, rfl, fun h => absurd h (by decide)⟩
  have hlt : i < S.size := by omega
  have hlt' : ¬ (S.size : Int) ≤ (i : Int) := by omega
  have hnz : ((nums S).drop i).length ≠ 0 := by rw [HD.out]; omega
  have HTN := Lib.hid (rfTermName_any w S i hlt a ha A c nl hcell hw hn hs)
  have h1len : (((nums S).drop i).length = 1) = (i + 1 = S.size) := by rw [HD.out]; apply propext; omega
  have HX0 := Lib.hid (iat_drop (nums S) i 0)
  have HX1 := Lib.hid (iat_drop (nums S) i 1)
  rw [Nat.add_zero] at HX0
  obtain ⟨r0, r1⟩ := iat_nums_range S i
  obtain ⟨y0, y1⟩ := iat_nums_range S (i + 1)
  have HDD : Hid (((nums S).drop i).drop 1 = (nums S).drop (i + 1)) := Lib.hid (by rw [List.drop_drop])
  have HRN := Lib.hid (fun u (j : Nat) (hj : j ≤ S.size) => rfDigits10_any u S j hj hs)
  have HRH := Lib.hid (fun u (j : Nat) (hj : j ≤ S.size) => rfDigits16_any u S j hj hs)
  have HRB := Lib.hid (fun u (j : Nat) (hj : j ≤ S.size) => rfDigits2_any u S j hj hs)
  obtain ⟨x, hx⟩ : ∃ x, iat (nums S) i = x := ⟨_, rfl⟩
  obtain ⟨y, hy⟩ : ∃ y, iat (nums S) (i + 1) = y := ⟨_, rfl⟩
  rw [hx] at HX0 r0 r1 HTN
  rw [hy] at HX1 y0 y1
  have hbx : ∀ h : i < S.size, ((S[i]'h).toNat : Int) = x := fun h => by rw [hb i h, hx]
  have hby : ∀ h : i + 1 < S.size, ((S[i + 1]'h).toNat : Int) = y := fun h => by rw [hb (i + 1) h, hy]
  have HXX := Lib.hid hx
  obtain ⟨D, hD⟩ : ∃ D, (nums S).drop i = D := ⟨_, rfl⟩
  have HDE := Lib.hid hD
  rw [hD] at HD hnz h1len HX0 HX1 HDD HTN ⊢
  clear hb he hx hy hD
  by_cases q42 : x = 42
  · have HE := Lib.hid (term_star a (lookL (lookB nl)) D hnz (HX0.out.trans q42))
    rw [HE.out]
    subst q42
    clear hcell hR hby h1len hnz
    go_enter Tryd.func91, Tryd.ntmps91
    go_wp2
    ((try simp only [Exit.inBlock, Exit.then]); refine bodyPost_ret (results_tmp4 rfl _ _ _) rfl ?_)
    exact ⟨⟨0, rfl⟩, _, rfl, fun _ => by simp⟩
  by_cases q39 : x = 39
  · have HE := Lib.hid (term_char a (lookL (lookB nl)) D hnz (HX0.out.trans q39))
    obtain ⟨T, hT0⟩ : ∃ T, termL a (lookL (lookB nl)) D = T := ⟨_, rfl⟩
    rw [hT0] at HE ⊢
    clear hT0
    subst q39
    by_cases h1 : i + 1 = S.size
    · have hE := HE.out
      rw [if_pos (by rw [h1len]; exact h1)] at hE
      subst hE
      have hz : ((i : Int) + 1 == (S.size : Int)) = true := by simp; omega
      clear hcell hR hby h1len hnz h1
      go_enter Tryd.func91, Tryd.ntmps91
      go_wp2
      ((try simp only [Exit.inBlock, Exit.then]); refine bodyPost_ret (results_tmp4 rfl _ _ _) rfl ?_)
      exact ⟨⟨0, rfl⟩, _, rfl, fun h => absurd h (by decide)⟩
    · have hE := HE.out
      rw [if_neg (by rw [h1len]; exact h1), HX1.out] at hE
      subst hE
      have hz : ((i : Int) + 1 == (S.size : Int)) = false := by simp; omega
      have hi1 : (i : Int) + 1 < (S.size : Int) := by omega
      have hi2 : i + 1 < S.size := by omega
      have hix : ∀ u : World, (Instr.index 9 (.string S) (.int .i64 ((i : Int) + 1))).run Tryd.prog u = .ok (.int .u8 y) u := fun u => by
        rw [run_index_string u 9 S .i64 ((i : Int) + 1) Tryd.underlying9, dif_pos ⟨by omega, hi1⟩]
        congr 3
        rw [← hby hi2]; rfl
      clear hcell hR hby h1len hnz h1
      go_enter Tryd.func91, Tryd.ntmps91
      go_wp2
      ((try simp only [Exit.inBlock, Exit.then]); refine bodyPost_ret (results_tmp4 rfl _ _ _) rfl ?_)
      exact ⟨⟨0, rfl⟩, _, rfl, fun _ => by simp⟩
  have b42 : (x == 42) = false := by simpa using q42
  have b39 : (x == 39) = false := by simpa using q39
  have CL := Lib.hid (fun u => refLetter_any x u r0 r1)
  cases hlc : letC x
  · have HLC := Lib.hid hlc
    rw [hlc] at CL
    clear hlc
    by_cases q36 : x = 36
    · have HE := Lib.hid (term_hex a (lookL (lookB nl)) D hnz (HX0.out.trans q36))
      subst q36
      rw [HDD.out] at HE
      obtain ⟨T, hT0⟩ : ∃ T, termL a (lookL (lookB nl)) D = T := ⟨_, rfl⟩
      rw [hT0] at HE ⊢
      clear hT0
      have CN := Lib.hid (fun u => HRH.out u (i + 1) (by omega))
      rw [show ((i + 1 : Nat) : Int) = (i : Int) + 1 by omega] at CN
      unfold numT at HE
      obtain ⟨r, hr⟩ : ∃ r, run (good 16) ((nums S).drop (i + 1)) = r := ⟨_, rfl⟩
      have hV := satV_range 16 (by omega) (((nums S).drop (i + 1)).take r)
      rw [hr] at CN HE
      obtain ⟨V, hVe⟩ : ∃ V, satV 16 (((nums S).drop (i + 1)).take r) = V := ⟨_, rfl⟩
      rw [hVe] at CN HE hV
      obtain ⟨v0, v1⟩ := hV
      obtain ⟨K, hK⟩ : ∃ K : Int, ((i + 1 + r : Nat) : Int) = K := ⟨_, rfl⟩
      rw [hK] at CN
      have HK := Lib.hid hK
      clear hr hVe hcell hR hby h1len hnz HRN HRH HRB
      by_cases hr0 : r = 0
      · have hE := HE.out
        rw [if_pos hr0] at hE
        subst hE
        have hz : (K == ((i : Int) + 1)) = true := by simp; omega
        clear hr0 hK HE
        go_enter Tryd.func91, Tryd.ntmps91
        go_wp2_with (first
          | (go_at_call 106; refine (CL.out _).mono ?_; rintro e w' ⟨rfl, rfl⟩)
          | (go_at_call 107; refine (CN.out _).mono ?_; rintro e w' ⟨rfl, rfl⟩))
        ((try simp only [Exit.inBlock, Exit.then]); refine bodyPost_ret (results_tmp4 rfl _ _ _) rfl ?_)
        exact ⟨⟨0, rfl⟩, _, rfl, fun h => absurd h (by decide)⟩
      have hz : (K == ((i : Int) + 1)) = false := by simp; omega
      by_cases hb : 65535 < V
      · have hE := HE.out
        rw [if_neg hr0, if_pos hb] at hE
        subst hE
        clear hr0 hK HE
        go_enter Tryd.func91, Tryd.ntmps91
        go_wp2_with (first
          | (go_at_call 106; refine (CL.out _).mono ?_; rintro e w' ⟨rfl, rfl⟩)
          | (go_at_call 107; refine (CN.out _).mono ?_; rintro e w' ⟨rfl, rfl⟩))
        ((try simp only [Exit.inBlock, Exit.then]); refine bodyPost_ret (results_tmp4 rfl _ _ _) rfl ?_)
        exact ⟨⟨0, rfl⟩, _, rfl, fun h => absurd h (by decide)⟩
      · have hE := HE.out
        rw [if_neg hr0, if_neg hb] at hE
        subst hE
        clear hr0 hK HE
        go_enter Tryd.func91, Tryd.ntmps91
        go_wp2_with (first
          | (go_at_call 106; refine (CL.out _).mono ?_; rintro e w' ⟨rfl, rfl⟩)
          | (go_at_call 107; refine (CN.out _).mono ?_; rintro e w' ⟨rfl, rfl⟩))
        ((try simp only [Exit.inBlock, Exit.then]); refine bodyPost_ret (results_tmp4 rfl _ _ _) rfl ?_)
        exact ⟨⟨0, rfl⟩, _, rfl, fun _ => by rw [← HK.out]; show ((i + 1 + r : Nat) : Int) = ((i + (1 + r) : Nat) : Int); omega⟩
    have b36 : (x == 36) = false := by simpa using q36
    by_cases q37 : x = 37
    · have HE := Lib.hid (term_bin a (lookL (lookB nl)) D hnz (HX0.out.trans q37))
      subst q37
      rw [HDD.out] at HE
      obtain ⟨T, hT0⟩ : ∃ T, termL a (lookL (lookB nl)) D = T := ⟨_, rfl⟩
      rw [hT0] at HE ⊢
      clear hT0
      have CN := Lib.hid (fun u => HRB.out u (i + 1) (by omega))
      rw [show ((i + 1 : Nat) : Int) = (i : Int) + 1 by omega] at CN
      unfold numT at HE
      obtain ⟨r, hr⟩ : ∃ r, run (good 2) ((nums S).drop (i + 1)) = r := ⟨_, rfl⟩
      have hV := satV_range 2 (by omega) (((nums S).drop (i + 1)).take r)
      rw [hr] at CN HE
      obtain ⟨V, hVe⟩ : ∃ V, satV 2 (((nums S).drop (i + 1)).take r) = V := ⟨_, rfl⟩
      rw [hVe] at CN HE hV
      obtain ⟨v0, v1⟩ := hV
      obtain ⟨K, hK⟩ : ∃ K : Int, ((i + 1 + r : Nat) : Int) = K := ⟨_, rfl⟩
      rw [hK] at CN
      have HK := Lib.hid hK
      clear hr hVe hcell hR hby h1len hnz HRN HRH HRB
      by_cases hr0 : r = 0
      · have hE := HE.out
        rw [if_pos hr0] at hE
        subst hE
        have hz : (K == ((i : Int) + 1)) = true := by simp; omega
        clear hr0 hK HE
        go_enter Tryd.func91, Tryd.ntmps91
        go_wp2_with (first
          | (go_at_call 106; refine (CL.out _).mono ?_; rintro e w' ⟨rfl, rfl⟩)
          | (go_at_call 107; refine (CN.out _).mono ?_; rintro e w' ⟨rfl, rfl⟩))
        ((try simp only [Exit.inBlock, Exit.then]); refine bodyPost_ret (results_tmp4 rfl _ _ _) rfl ?_)
        exact ⟨⟨0, rfl⟩, _, rfl, fun h => absurd h (by decide)⟩
      have hz : (K == ((i : Int) + 1)) = false := by simp; omega
      by_cases hb : 65535 < V
      · have hE := HE.out
        rw [if_neg hr0, if_pos hb] at hE
        subst hE
        clear hr0 hK HE
        go_enter Tryd.func91, Tryd.ntmps91
        go_wp2_with (first
          | (go_at_call 106; refine (CL.out _).mono ?_; rintro e w' ⟨rfl, rfl⟩)
          | (go_at_call 107; refine (CN.out _).mono ?_; rintro e w' ⟨rfl, rfl⟩))
        ((try simp only [Exit.inBlock, Exit.then]); refine bodyPost_ret (results_tmp4 rfl _ _ _) rfl ?_)
        exact ⟨⟨0, rfl⟩, _, rfl, fun h => absurd h (by decide)⟩
      · have hE := HE.out
        rw [if_neg hr0, if_neg hb] at hE
        subst hE
        clear hr0 hK HE
        go_enter Tryd.func91, Tryd.ntmps91
        go_wp2_with (first
          | (go_at_call 106; refine (CL.out _).mono ?_; rintro e w' ⟨rfl, rfl⟩)
          | (go_at_call 107; refine (CN.out _).mono ?_; rintro e w' ⟨rfl, rfl⟩))
        ((try simp only [Exit.inBlock, Exit.then]); refine bodyPost_ret (results_tmp4 rfl _ _ _) rfl ?_)
        exact ⟨⟨0, rfl⟩, _, rfl, fun _ => by rw [← HK.out]; show ((i + 1 + r : Nat) : Int) = ((i + (1 + r) : Nat) : Int); omega⟩
    have b37 : (x == 37) = false := by simpa using q37
    cases hfg : figC x
    · have HE := Lib.hid (term_dec a (lookL (lookB nl)) D hnz (by rw [HX0.out]; exact HLC.out) (by rw [HX0.out]; exact q42) (by rw [HX0.out]; exact q39) (by rw [HX0.out]; exact q36) (by rw [HX0.out]; exact q37))
      have hr0 : run (good 10) D = 0 := by
        rcases Nat.eq_zero_or_pos (run (good 10) D) with h1 | h1
        · exact h1
        · have h2 := run_at (good 10) D 0 h1
          rw [HX0.out] at h2
          exact absurd (by simpa [good] using h2) (notdig x hfg HLC.out ⟨r0, r1⟩)
      have hE := HE.out
      unfold numT at hE
      rw [if_pos hr0] at hE
      rw [hE]
      have hd : 48 ≤ x → ¬ x ≤ 57 := fun h1 h2 => by
        rw [show figC x = true by simp [figC, h1, h2]] at hfg; cases hfg
      clear hcell hR hby h1len hnz HRN HRH HRB hE HE hr0 hfg
      by_cases h48 : 48 ≤ x
      · have h57 := hd h48
        clear hd
        go_enter Tryd.func91, Tryd.ntmps91
        go_wp2_with (go_at_call 106; refine (CL.out _).mono ?_; rintro e w' ⟨rfl, rfl⟩)
        ((try simp only [Exit.inBlock, Exit.then]); refine bodyPost_ret (results_tmp4 rfl _ _ _) rfl ?_)
        exact ⟨⟨0, rfl⟩, _, rfl, fun h => absurd h (by decide)⟩
      · clear hd
        go_enter Tryd.func91, Tryd.ntmps91
        go_wp2_with (go_at_call 106; refine (CL.out _).mono ?_; rintro e w' ⟨rfl, rfl⟩)
        ((try simp only [Exit.inBlock, Exit.then]); refine bodyPost_ret (results_tmp4 rfl _ _ _) rfl ?_)
        exact ⟨⟨0, rfl⟩, _, rfl, fun h => absurd h (by decide)⟩
    · have hd : 48 ≤ x ∧ x ≤ 57 := by simpa [figC] using hfg
      obtain ⟨d0, d1⟩ := hd
      clear hfg
      have HE := Lib.hid (term_dec a (lookL (lookB nl)) D hnz (by rw [HX0.out]; exact HLC.out) (by rw [HX0.out]; exact q42) (by rw [HX0.out]; exact q39) (by rw [HX0.out]; exact q36) (by rw [HX0.out]; exact q37))
      obtain ⟨T, hT0⟩ : ∃ T, termL a (lookL (lookB nl)) D = T := ⟨_, rfl⟩
      rw [hT0] at HE ⊢
      clear hT0
      have CN := Lib.hid (fun u => HRN.out u (i) (by omega))
      rw [HDE.out] at CN
      unfold numT at HE
      obtain ⟨r, hr⟩ : ∃ r, run (good 10) D = r := ⟨_, rfl⟩
      have hV := satV_range 10 (by omega) (D.take r)
      rw [hr] at CN HE
      obtain ⟨V, hVe⟩ : ∃ V, satV 10 (D.take r) = V := ⟨_, rfl⟩
      rw [hVe] at CN HE hV
      obtain ⟨v0, v1⟩ := hV
      obtain ⟨K, hK⟩ : ∃ K : Int, ((i + r : Nat) : Int) = K := ⟨_, rfl⟩
      rw [hK] at CN
      have HK := Lib.hid hK
      clear hr hVe hcell hR hby h1len hnz HRN HRH HRB
      by_cases hr0 : r = 0
      · have hE := HE.out
        rw [if_pos hr0] at hE
        subst hE
        have hz : (K == (i : Int)) = true := by simp; omega
        clear hr0 hK HE
        go_enter Tryd.func91, Tryd.ntmps91
        go_wp2_with (first
          | (go_at_call 106; refine (CL.out _).mono ?_; rintro e w' ⟨rfl, rfl⟩)
          | (go_at_call 107; refine (CN.out _).mono ?_; rintro e w' ⟨rfl, rfl⟩))
        ((try simp only [Exit.inBlock, Exit.then]); refine bodyPost_ret (results_tmp4 rfl _ _ _) rfl ?_)
        exact ⟨⟨0, rfl⟩, _, rfl, fun h => absurd h (by decide)⟩
      have hz : (K == (i : Int)) = false := by simp; omega
      by_cases hb : 65535 < V
      · have hE := HE.out
        rw [if_neg hr0, if_pos hb] at hE
        subst hE
        clear hr0 hK HE
        go_enter Tryd.func91, Tryd.ntmps91
        go_wp2_with (first
          | (go_at_call 106; refine (CL.out _).mono ?_; rintro e w' ⟨rfl, rfl⟩)
          | (go_at_call 107; refine (CN.out _).mono ?_; rintro e w' ⟨rfl, rfl⟩))
        ((try simp only [Exit.inBlock, Exit.then]); refine bodyPost_ret (results_tmp4 rfl _ _ _) rfl ?_)
        exact ⟨⟨0, rfl⟩, _, rfl, fun h => absurd h (by decide)⟩
      · have hE := HE.out
        rw [if_neg hr0, if_neg hb] at hE
        subst hE
        clear hr0 hK HE
        go_enter Tryd.func91, Tryd.ntmps91
        go_wp2_with (first
          | (go_at_call 106; refine (CL.out _).mono ?_; rintro e w' ⟨rfl, rfl⟩)
          | (go_at_call 107; refine (CN.out _).mono ?_; rintro e w' ⟨rfl, rfl⟩))
        ((try simp only [Exit.inBlock, Exit.then]); refine bodyPost_ret (results_tmp4 rfl _ _ _) rfl ?_)
        exact ⟨⟨0, rfl⟩, _, rfl, fun _ => by rw [← HK.out]; show ((i + r : Nat) : Int) = ((i + (0 + r) : Nat) : Int); omega⟩
  · exact HTN.out hlc
end Go.Proofs.YtmdpgekbiohfbabDoor
