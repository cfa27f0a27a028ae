/- Contracts of package expr's reader: term. -/
import Derived.Test.YtmdpgekbiohfbabDoorExq
namespace Go.Proofs.YtmdpgekbiohfbabDoor
open Go.ChangeShapes Go.WideShapes Go.ChangeAt Go.RowKit
set_option linter.unusedVariables false

theorem term_nil (a : Int) (lk : List Int → Option Int) (l : List Int) (h : l.length = 0) : termL a lk l = ⟨0, 21, 0, false, false⟩ := by unfold termL; rw [if_pos h]
theorem term_star (a : Int) (lk : List Int → Option Int) (l : List Int) (h : l.length ≠ 0) (h1 : iat l 0 = 42) : termL a lk l = ⟨a, 0, 1, true, false⟩ := by unfold termL; rw [if_neg h, if_pos h1]
theorem term_char (a : Int) (lk : List Int → Option Int) (l : List Int) (h : l.length ≠ 0) (h1 : iat l 0 = 39) : termL a lk l = if l.length = 1 then ⟨0, 21, 0, false, false⟩ else ⟨iat l 1, 0, 2, false, false⟩ := by
  unfold termL; rw [if_neg h, if_neg (by omega), if_pos h1]
theorem term_hex (a : Int) (lk : List Int → Option Int) (l : List Int) (h : l.length ≠ 0) (h1 : iat l 0 = 36) : termL a lk l = numT 16 1 (l.drop 1) := by
  have e : letC (iat l 0) = false := by rw [h1]; decide
  unfold termL; rw [if_neg h, if_neg (by omega), if_neg (by omega), if_neg (by rw [e]; decide), if_pos h1]
theorem term_bin (a : Int) (lk : List Int → Option Int) (l : List Int) (h : l.length ≠ 0) (h1 : iat l 0 = 37) : termL a lk l = numT 2 1 (l.drop 1) := by
  have e : letC (iat l 0) = false := by rw [h1]; decide
  unfold termL; rw [if_neg h, if_neg (by omega), if_neg (by omega), if_neg (by rw [e]; decide), if_neg (by omega), if_pos h1]
theorem letC_not {x : Int} (h : letC x = true) : x ≠ 42 ∧ x ≠ 39 ∧ x ≠ 36 ∧ x ≠ 37 ∧ x ≠ 43 ∧ x ≠ 45 := by
  refine ⟨?_, ?_, ?_, ?_, ?_, ?_⟩ <;> (rintro rfl; revert h; decide)
theorem term_name (a : Int) (lk : List Int → Option Int) (l : List Int) (h : l.length ≠ 0) (h1 : letC (iat l 0) = true) :
    termL a lk l = (match lk (l.take (run worC l)) with | some v => ⟨v, 0, run worC l, false, true⟩ | none => ⟨0, 40, 0, false, true⟩) := by
  obtain ⟨h2, h3, -⟩ := letC_not h1
  unfold termL; rw [if_neg h, if_neg h2, if_neg h3, if_pos h1]; rfl
theorem term_dec (a : Int) (lk : List Int → Option Int) (l : List Int) (h : l.length ≠ 0) (h1 : letC (iat l 0) = false) (h2 : iat l 0 ≠ 42) (h3 : iat l 0 ≠ 39) (h4 : iat l 0 ≠ 36) (h5 : iat l 0 ≠ 37) : termL a lk l = numT 10 0 l := by
  unfold termL; rw [if_neg h, if_neg h2, if_neg h3, if_neg (by rw [h1]; decide), if_neg h4, if_neg h5]
/-- Behind a term. -/
def ExTerm (g : Nat) (w : World) (l : List Int) (a : Int) (tp : Option Addr) (p : Bool) (T : TR) (e : Ending) (w' : World) : Prop :=
  e = .returned (.tuple #[.int .u16 T.v, .int .i64 T.e]) ∧ OnB g w w' ∧ ∃ S', RdX w' g S' a tp (p || T.st) ∧ (T.e = 0 → S' = strOfNums (l.drop T.k))
theorem ExTerm.of_num {b : Int} {g : Nat} {w w1 : World} {l : List Int} {a : Int} {tp : Option Addr} {p : Bool} {f : Nat} {e : Ending} {w' : World} (ho : OnB g w w1)
    (h : ExPost g w1 (l.drop f) a tp p (numT b 0 (l.drop f)).v (numT b 0 (l.drop f)).e (numT b 0 (l.drop f)).k e w') : ExTerm g w l a tp p (numT b f (l.drop f)) e w' := by
  obtain ⟨h1, h2, S', h3, h4⟩ := h
  obtain ⟨f1, f2, f3⟩ := numT_far b f (l.drop f)
  refine ⟨by rw [f1, f2]; exact h1, ho.trans h2, S', by rw [(numT_nm b f _).1, Bool.or_false]; exact h3, fun h0 => ?_⟩
  rw [f2] at h0
  rw [h4 h0, f3 h0, List.drop_drop]
set_option maxRecDepth 100000 in
set_option maxHeartbeats 2000000 in
theorem exTerm_any (w : World) (g B gt n : Nat) (look : ByteArray → Option Int) (hT : ∀ u, OnB g w u → Tab u B gt n look) (S : ByteArray) (a : Int) (p : Bool) (h : RdX w g S a (some ⟨gt, 0, none⟩) p) (hs : S.size ≤ 1099511627776) :
    Calls Tryd.prog 121 #[.pointer (some ⟨g, 0, none⟩)] w (ExTerm g w (nums S) a (some ⟨gt, 0, none⟩) p (termL a (lookL look) (nums S))) := by
  have H := Lib.hid h
  obtain ⟨c0, -, -, -⟩ := h.c
  have hb := get_nums S
  have HL := Lib.hid (nums_len S)
  by_cases he : S.size = 0
  · have HE := Lib.hid (term_nil a (lookL look) (nums S) (by rw [HL.out]; exact he))
    rw [HE.out]
    obtain rfl : S = ByteArray.empty := ByteArray.size_eq_zero_iff.1 he
    clear hb he h hT
    unfold ExTerm
    go_enter Tryd.func121, Tryd.ntmps121
    go_wp2
    go_ret2
    exact ⟨rfl, OnB.refl _ _, _, by rw [Bool.or_false]; exact H.out, fun h => absurd h (by decide)⟩
  have hne := empty_beqS S (by omega)
  have hgt : 0 < S.size := by omega
  have hnz : (nums S).length ≠ 0 := by rw [HL.out]; exact he
  obtain ⟨r0, r1⟩ := iat_nums_range S 0
  have HTK := Lib.hid (exTake_any w g S a (some ⟨gt, 0, none⟩) p h 1 (by omega) hs)
  have H1S : (strOfNums ((nums S).drop 1)).size ≤ 1099511627776 := by rw [size_drop]; omega
  obtain ⟨x, hx⟩ : ∃ x, iat (nums S) 0 = x := ⟨_, rfl⟩
  rw [hx] at r0 r1
  have hb0 : ∀ h : 0 < S.size, ((S[0]'h).toNat : Int) = x := fun h => by rw [hb 0 h, hx]
  clear hb he
  by_cases q36 : x = 36
  · have HE := Lib.hid (term_hex a (lookL look) (nums S) hnz (hx.trans q36))
    rw [HE.out]
    obtain ⟨V, hV⟩ : ∃ V, (numT 16 0 ((nums S).drop 1)).v = V := ⟨_, rfl⟩
    obtain ⟨E, hE⟩ : ∃ E, (numT 16 0 ((nums S).drop 1)).e = E := ⟨_, rfl⟩
    have HV := Lib.hid (And.intro hV hE)
    have CN := Lib.hid (fun u (hu : RdX u g (strOfNums ((nums S).drop 1)) a (some ⟨gt, 0, none⟩) p) => exNumber16_any u g _ a _ p hu H1S)
    rw [nums_drop] at CN
    subst q36
    clear hx h hT hnz H1S hV hE
    go_enter Tryd.func121, Tryd.ntmps121
    go_wp2_with fail
    refine HTK.out.mono ?_
    rintro e w1 ⟨rfl, h1, h2⟩
    have H1 := Lib.hid h1
    have H2 := Lib.hid h2
    clear h1 h2
    go_wp2_with fail
    refine (CN.out _ H1.out).mono ?_
    intro e w2 hp
    have HP := Lib.hid (ExTerm.of_num (l := nums S) (f := 1) H2.out hp)
    obtain ⟨hp, -⟩ := hp
    rw [HV.out.1, HV.out.2] at hp
    subst hp
    go_wp2
    go_ret2
    obtain ⟨-, p2⟩ := HP.out
    exact ⟨by rw [(numT_far 16 1 _).1, (numT_far 16 1 _).2.1, HV.out.1, HV.out.2]; rfl, p2⟩
  by_cases q37 : x = 37
  · have HE := Lib.hid (term_bin a (lookL look) (nums S) hnz (hx.trans q37))
    rw [HE.out]
    obtain ⟨V, hV⟩ : ∃ V, (numT 2 0 ((nums S).drop 1)).v = V := ⟨_, rfl⟩
    obtain ⟨E, hE⟩ : ∃ E, (numT 2 0 ((nums S).drop 1)).e = E := ⟨_, rfl⟩
    have HV := Lib.hid (And.intro hV hE)
    have CN := Lib.hid (fun u (hu : RdX u g (strOfNums ((nums S).drop 1)) a (some ⟨gt, 0, none⟩) p) => exNumber2_any u g _ a _ p hu H1S)
    rw [nums_drop] at CN
    subst q37
    clear hx h hT hnz H1S hV hE
    go_enter Tryd.func121, Tryd.ntmps121
    go_wp2_with fail
    refine HTK.out.mono ?_
    rintro e w1 ⟨rfl, h1, h2⟩
    have H1 := Lib.hid h1
    have H2 := Lib.hid h2
    clear h1 h2
    go_wp2_with fail
    refine (CN.out _ H1.out).mono ?_
    intro e w2 hp
    have HP := Lib.hid (ExTerm.of_num (l := nums S) (f := 1) H2.out hp)
    obtain ⟨hp, -⟩ := hp
    rw [HV.out.1, HV.out.2] at hp
    subst hp
    go_wp2
    go_ret2
    obtain ⟨-, p2⟩ := HP.out
    exact ⟨by rw [(numT_far 2 1 _).1, (numT_far 2 1 _).2.1, HV.out.1, HV.out.2]; rfl, p2⟩
  by_cases q39 : x = 39
  · have CC := Lib.hid (fun u (hu : RdX u g (strOfNums ((nums S).drop 1)) a (some ⟨gt, 0, none⟩) p) => exChar_any u g _ a _ p hu H1S)
    rw [nums_drop, size_drop] at CC
    have HE := Lib.hid (term_char a (lookL look) (nums S) hnz (hx.trans q39))
    have HD : Hid ((nums S).length - 1 = ((nums S).drop 1).length) := Lib.hid (by rw [List.length_drop])
    have HX1 : Hid (iat ((nums S).drop 1) 0 = iat (nums S) 1) := Lib.hid (iat_drop _ 1 0)
    have HX2 : Hid (((nums S).drop 1).drop 1 = (nums S).drop 2) := Lib.hid (by rw [List.drop_drop])
    obtain ⟨T, hT0⟩ : ∃ T, termL a (lookL look) (nums S) = T := ⟨_, rfl⟩
    rw [hT0] at HE ⊢
    clear hT0
    subst q39
    clear hx h hT hnz H1S
    unfold ExTerm
    go_enter Tryd.func121, Tryd.ntmps121
    go_wp2_with fail
    refine HTK.out.mono ?_
    rintro e w1 ⟨rfl, h1, h2⟩
    have H1 := Lib.hid h1
    have H2 := Lib.hid h2
    clear h1 h2
    go_wp2_with fail
    refine (CC.out _ H1.out).mono ?_
    rintro e w2 ⟨ho, ⟨hz, rfl, hr⟩ | ⟨hz, rfl, hr⟩⟩
    · have HO := Lib.hid (H2.out.trans ho)
      have HRR := Lib.hid hr
      have hq : (nums S).length = 1 := by rw [HL.out]; omega
      have HQ := Lib.hid hq
      clear ho hr hz hq
      go_wp2
      go_ret2
      have hE := HE.out
      rw [if_pos HQ.out] at hE
      subst hE
      exact ⟨rfl, HO.out, _, by rw [Bool.or_false]; exact HRR.out, fun h => absurd h (by decide)⟩
    · have HO := Lib.hid (H2.out.trans ho)
      rw [HX2.out] at hr
      rw [HX1.out]
      have HRR := Lib.hid hr
      have hq : ¬ (nums S).length = 1 := by rw [HL.out]; omega
      have HQ := Lib.hid hq
      clear ho hr hz hq
      go_wp2
      go_ret2
      have hE := HE.out
      rw [if_neg HQ.out] at hE
      subst hE
      exact ⟨rfl, HO.out, _, by rw [Bool.or_false]; exact HRR.out, fun _ => rfl⟩
  by_cases q42 : x = 42
  · have HE := Lib.hid (term_star a (lookL look) (nums S) hnz (hx.trans q42))
    rw [HE.out]
    subst q42
    clear hx h hT hnz H1S
    unfold ExTerm
    go_enter Tryd.func121, Tryd.ntmps121
    go_wp2_with fail
    refine HTK.out.mono ?_
    rintro e w1 ⟨rfl, h1, h2⟩
    have d1 := h1.c.2.1
    have d3 := h1.c.2.2.2
    have f3 := h1.f 3
    have HW1 := Lib.hid (show RdX (w1.setCell ⟨g, 3, none⟩ (.bool true)) g (strOfNums ((nums S).drop 1)) a (some ⟨gt, 0, none⟩) true from Blk.set_ h1 3 _)
    have HO := Lib.hid (h2.trans (OnB.set w1 g 3 (.bool true)))
    have d1' := HW1.out.c.2.1
    clear h1 h2
    go_wp2
    go_ret2
    exact ⟨rfl, HO.out, _, by rw [Bool.or_true]; exact HW1.out, fun _ => rfl⟩
  have b36 : (x == 36) = false := by simpa using q36
  have b37 : (x == 37) = false := by simpa using q37
  have b39 : (x == 39) = false := by simpa using q39
  have b42 : (x == 42) = false := by simpa using q42
  have CM := Lib.hid (exName_any w g S a (some ⟨gt, 0, none⟩) p h hs hgt)
  rw [hx] at CM
  cases hlt : letC x
  · have HE := Lib.hid (term_dec a (lookL look) (nums S) hnz (by rw [hx]; exact hlt) (by omega) (by omega) (by omega) (by omega))
    rw [HE.out]
    rw [hlt] at CM
    obtain ⟨V, hV⟩ : ∃ V, (numT 10 0 (nums S)).v = V := ⟨_, rfl⟩
    obtain ⟨E, hE⟩ : ∃ E, (numT 10 0 (nums S)).e = E := ⟨_, rfl⟩
    have HV := Lib.hid (And.intro hV hE)
    have CN := Lib.hid (fun u (hu : RdX u g S a (some ⟨gt, 0, none⟩) p) => exNumber10_any u g _ a _ p hu hs)
    clear hx h hT hnz H1S hV hE q36 q37 q39 q42 hlt
    go_enter Tryd.func121, Tryd.ntmps121
    go_wp2_with fail
    refine CM.out.mono ?_
    rintro e w1 ⟨h2, ⟨-, rfl, h1⟩ | ⟨hf, -⟩⟩
    rotate_left 1
    · cases hf
    have H1 := Lib.hid h1
    have H2 := Lib.hid h2
    clear h1 h2
    go_wp2_with fail
    refine (CN.out _ H1.out).mono ?_
    intro e w2 hp
    have HP := Lib.hid (ExTerm.of_num (l := nums S) (f := 0) H2.out hp)
    obtain ⟨hp, -⟩ := hp
    rw [HV.out.1, HV.out.2] at hp
    subst hp
    go_wp2
    go_ret2
    obtain ⟨-, p2⟩ := HP.out
    exact ⟨by rw [HV.out.1, HV.out.2]; rfl, p2⟩
  · have HE := Lib.hid (term_name a (lookL look) (nums S) hnz (by rw [hx]; exact hlt))
    obtain ⟨T, hT0⟩ : ∃ T, termL a (lookL look) (nums S) = T := ⟨_, rfl⟩
    rw [hT0] at HE ⊢
    clear hT0
    rw [hlt] at CM
    obtain ⟨N, hN⟩ : ∃ N, strOfNums ((nums S).take (run worC (nums S))) = N := ⟨_, rfl⟩
    have HNL : Hid (lookL look ((nums S).take (run worC (nums S))) = look N) := Lib.hid (by rw [← hN]; rfl)
    have hNs : N.size = run worC (nums S) := by rw [← hN, strOfNums_size, List.length_take]; have := run_le worC (nums S); omega
    have hpos : 0 < run worC (nums S) := by
      rcases Nat.eq_zero_or_pos (run worC (nums S)) with hz | hz
      · have h3 := run_stop worC (nums S) (by omega)
        rw [hz, hx] at h3
        simp [worC, hlt] at h3
      · exact hz
    have hle := run_le worC (nums S)
    have hNm : N.size ≤ maxLen := by rw [hNs]; rw [HL.out] at hle; unfold maxLen; omega
    have hNe := empty_beqS N (by omega)
    rw [hN] at CM
    rw [HNL.out] at HE
    have CD := Lib.hid (fun u S' (ho : OnB g w u) (hu : RdX u g S' a (some ⟨gt, 0, none⟩) p) => exNamed_any u g B gt n look (hT u ho) S' N a p hu hNm)
    have HK : Hid (∃ k, run worC (nums S) = k) := Lib.hid ⟨_, rfl⟩
    obtain ⟨k, hk⟩ := HK.out
    rw [hk] at CM
    rw [hk] at HE
    clear hx h hT hnz H1S q36 q37 q39 q42 hlt hN hNs hpos hle hNm hk HK HNL
    unfold ExTerm
    go_enter Tryd.func121, Tryd.ntmps121
    go_wp2_with fail
    refine CM.out.mono ?_
    rintro e w1 ⟨h2, ⟨hf, -⟩ | ⟨-, rfl, h1⟩⟩
    · cases hf
    have H1 := Lib.hid h1
    have H2 := Lib.hid h2
    clear h1 h2
    go_wp2_with fail
    refine (CD.out _ _ H2.out H1.out).mono ?_
    rintro e w2 ⟨rfl, ⟨hn, rfl⟩ | ⟨v, hn, rfl⟩⟩
    · have HN := Lib.hid hn
      clear hn
      go_wp2
      go_ret2
      have hE := HE.out
      rw [HN.out] at hE
      dsimp only at hE
      subst hE
      exact ⟨rfl, H2.out, _, by rw [Bool.or_false]; exact H1.out, fun h => absurd h (by decide)⟩
    · have HN := Lib.hid hn
      clear hn
      go_wp2
      go_ret2
      have hE := HE.out
      rw [HN.out] at hE
      dsimp only at hE
      subst hE
      exact ⟨rfl, H2.out, _, by rw [Bool.or_false]; exact H1.out, fun _ => rfl⟩
end Go.Proofs.YtmdpgekbiohfbabDoor
