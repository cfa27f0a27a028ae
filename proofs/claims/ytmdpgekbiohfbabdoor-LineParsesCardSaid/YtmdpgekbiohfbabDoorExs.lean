/- Contracts of package expr: the reader's sum; Eval, Const. -/
import Derived.Test.YtmdpgekbiohfbabDoorExt
namespace Go.Proofs.YtmdpgekbiohfbabDoor
open Go.ChangeShapes Go.WideShapes Go.ChangeAt Go.RowKit
set_option linter.unusedVariables false

theorem evalE_plain (a : Int) (lk : List Int → Option Int) (l : List Int) (h : sgn l = false) : evalE a lk l = evalF a lk (l.length + 1) false 0 false false l := by
  unfold evalE
  by_cases h0 : l.length = 0
  · rw [if_pos h0]
    unfold evalF
    rw [term_nil a lk l h0]; simp
  · rw [if_neg h0]
    have h1 : ¬ iat l 0 = 43 := fun e => by simp [sgn, e] at h; exact h0 (by rw [h]; rfl)
    have h2 : ¬ iat l 0 = 45 := fun e => by simp [sgn, e] at h; exact h0 (by rw [h]; rfl)
    rw [if_neg h1, if_neg h2]
theorem evalE_sign (a : Int) (lk : List Int → Option Int) (l : List Int) (h : sgn l = true) : evalE a lk l = evalF a lk (l.length + 1) (decide (iat l 0 = 45)) 0 false false (l.drop 1) := by
  simp only [sgn, Bool.and_eq_true, Bool.or_eq_true, decide_eq_true_eq] at h
  unfold evalE
  rw [if_neg (by omega)]
  rcases h.2 with h1 | h1
  · rw [if_pos h1, h1]; rfl
  · rw [if_neg (by omega), if_pos h1, h1]; rfl
/-- How much is left for the reader in block g. -/
def szAt (w : World) (g : Nat) : Nat := match w.cell? ⟨g, 0, none⟩ with | some (.string s) => s.size | _ => 0
theorem szAt_eq {w : World} {g : Nat} {S : ByteArray} {a : Int} {tp : Option Addr} {p : Bool} (h : RdX w g S a tp p) : szAt w g = S.size := by unfold szAt; rw [h.c.1]
/-- Behind a sum. -/
def ExSum (g : Nat) (w : World) (a : Int) (tp : Option Addr) (p : Bool) (R : Int × Int × Bool × Bool) (e : Ending) (w' : World) : Prop :=
  e = .returned (.tuple #[.int .u16 R.1, .int .i64 R.2.1]) ∧ OnB g w w' ∧ ∃ S', RdX w' g S' a tp (p || R.2.2.1)
set_option maxRecDepth 100000 in
set_option maxHeartbeats 4000000 in
theorem exSum_any (w : World) (g B gt n : Nat) (look : ByteArray → Option Int) (hT : ∀ u, OnB g w u → Tab u B gt n look) (S : ByteArray) (a : Int) (ha : 0 ≤ a ∧ a < 65536) (p : Bool) (h : RdX w g S a (some ⟨gt, 0, none⟩) p) (hs : S.size ≤ 1099511627776) :
    Calls Tryd.prog 115 #[.pointer (some ⟨g, 0, none⟩)] w (ExSum g w a (some ⟨gt, 0, none⟩) p (evalE a (lookL look) (nums S))) := by
  have HTB := Lib.hid hT
  have HLK : Hid (∀ n v, lookL look n = some v → 0 ≤ v ∧ v < 65536) := Lib.hid (fun n v hv => (hT w (OnB.refl _ _)).2.1 _ v hv)
  have HA := Lib.hid ha
  have CS := Lib.hid (fun u S' q (ho : S'.size ≤ 1099511627776) (hu : RdX u g S' a (some ⟨gt, 0, none⟩) q) => exSign_any u g S' a _ q hu ho)
  have CT := Lib.hid (fun u S' q (ho : OnB g w u) (hz : S'.size ≤ 1099511627776) (hu : RdX u g S' a (some ⟨gt, 0, none⟩) q) => exTerm_any u g B gt n look (fun u2 h2 => hT u2 (ho.trans h2)) S' a q hu hz)
  have H := Lib.hid h
  have HSZ := Lib.hid hs
  obtain ⟨R, hR⟩ : ∃ R, evalE a (lookL look) (nums S) = R := ⟨_, rfl⟩
  have HP := Lib.hid (fun hq => (evalE_plain a (lookL look) (nums S) hq).symm.trans hR)
  have HG := Lib.hid (fun hq => (evalE_sign a (lookL look) (nums S) hq).symm.trans hR)
  rw [hR]
  have HL := Lib.hid (nums_len S)
  clear hR h hs hT ha
  go_enter Tryd.func115, Tryd.ntmps115
  go_wp2_with fail
  refine (CS.out w S p HSZ.out H.out).mono ?_
  intro e w1 hp
  obtain ⟨neg, ok, S1, he, hr1, ho1, hz1, hev⟩ : ∃ (neg ok : Bool) (S1 : ByteArray), e = .returned (.tuple #[.bool neg, .bool ok]) ∧ RdX w1 g S1 a (some ⟨gt, 0, none⟩) p ∧ OnB g w w1 ∧ S1.size ≤ S.size ∧ evalF a (lookL look) ((nums S).length + 1) neg 0 false false (nums S1) = R := by
    obtain ⟨ho, ⟨h1, h2, h3⟩ | ⟨h1, h2, h3⟩⟩ := hp
    · exact ⟨_, _, S, h2, h3, ho, Nat.le_refl _, HP.out h1⟩
    · exact ⟨_, _, _, h2, h3, ho, by rw [size_drop]; omega, by rw [nums_drop]; exact HG.out h1⟩
  subst he
  have HR1 := Lib.hid hr1
  have HO1 := Lib.hid ho1
  have HE1 := Lib.hid hev
  have HZ1 := Lib.hid hz1
  clear hr1 ho1 hp hev hz1 HP HG CS
  have CS := Lib.hid (fun u S' q (ho : S'.size ≤ 1099511627776) (hu : RdX u g S' a (some ⟨gt, 0, none⟩) q) => exSign_any u g S' a _ q hu ho)
  go_wp2
  go_loopw [4, 5] (fun v4 v5 wr => ∃ (t : Int) (neg st nm : Bool) (f : Nat) (S1 : ByteArray), v4 = .int .u16 t ∧ v5 = .bool neg ∧ 0 ≤ t ∧ t < 65536 ∧ Hid (OnB g w wr) ∧ Hid (RdX wr g S1 a (some ⟨gt, 0, none⟩) (p || st)) ∧ Hid (S1.size < f ∧ S1.size ≤ 1099511627776) ∧
    Hid (evalF a (lookL look) f neg t st nm (nums S1) = R)) (fun _ _ wr => szAt wr g)
  case atStart => exact ⟨0, neg, false, false, _, S1, rfl, rfl, by omega, by omega, HO1, by rw [Bool.or_false]; exact HR1, Lib.hid ⟨by have := HZ1.out; rw [HL.out]; omega, Nat.le_trans HZ1.out HSZ.out⟩, HE1⟩
  case round =>
    obtain ⟨t, neg, st, nm, f, S1, rfl, rfl, t0, t1, HO, HR, HZ, HE⟩ := hrel
    clear HR1 HO1 HE1 HZ1
    obtain ⟨f, rfl⟩ : ∃ f', f = f' + 1 := ⟨f - 1, by have := HZ.out.1; omega⟩
    obtain ⟨T, hT0⟩ : ∃ T, termL a (lookL look) (nums S1) = T := ⟨_, rfl⟩
    have hv := termL_v a HA.out (lookL look) HLK.out (nums S1) (BytL.nums S1)
    have HKK := Lib.hid (termL_k a (lookL look) (nums S1))
    have CT1 := Lib.hid (CT.out wr S1 (p || st) HO.out HZ.out.2 HR.out)
    have hE := HE.out
    unfold evalF at hE
    have HSQ := Lib.hid (szAt_eq HR.out)
    rw [hT0] at hv HKK CT1 hE
    clear hT0 HE
    obtain ⟨v, e0, k, st2, nm2⟩ := T
    dsimp only at hv HKK hE
    rw [nums_len] at HKK
    obtain ⟨v0, v1⟩ := hv
    have HE := Lib.hid hE
    clear hE
    go_wp2_with fail
    refine CT1.out.mono ?_
    rintro e w2 ⟨rfl, ho, S2, hr, hS2⟩
    dsimp only at hr hS2
    rw [Bool.or_assoc] at hr
    have HO2 := Lib.hid (HO.out.trans ho)
    have HR2 := Lib.hid hr
    have HS2 := Lib.hid hS2
    have c0 := hr.c.1
    clear ho hr hS2 CT1
    by_cases h0 : e0 = 0
    · subst h0
      obtain rfl := HS2.out rfl
      have HEE := HE.out
      rw [if_neg (by simp)] at HEE
      have HE2 := Lib.hid HEE
      clear HEE HE HS2
      obtain ⟨hk0, hk1⟩ := HKK.out rfl
      obtain ⟨S2, hS2⟩ : ∃ S2, strOfNums ((nums S1).drop k) = S2 := ⟨_, rfl⟩
      have hz2 : S2.size = S1.size - k := by rw [← hS2, size_drop]
      have hn2 : nums S2 = (nums S1).drop k := by rw [← hS2, nums_drop]
      have hlen : ((nums S1).drop k).length = S2.size := by rw [← hn2, nums_len]
      have hat : iat (nums S1) k = iat (nums S2) 0 := by rw [hn2, iat_drop, Nat.add_zero]
      have hdr : (nums S1).drop (k + 1) = (nums S2).drop 1 := by rw [hn2, List.drop_drop]
      have hE := HE2.out
      rw [hlen, hat, hdr] at hE
      rw [hS2] at HR2 c0
      have HN : Hid (S2.size < S1.size) := Lib.hid (by omega)
      clear hS2 hz2 hn2 hlen hat hdr HE2 hk0 hk1 HKK
      by_cases hend : S2.size = 0
      · rw [if_pos hend] at hE
        have HE2 := Lib.hid hE
        obtain rfl : S2 = ByteArray.empty := ByteArray.size_eq_zero_iff.1 hend
        clear hE hend
        cases neg
        · have HW : Hid (IntKind.u16.wrap (t + v) = (t + v) % 65536) := Lib.hid (IntKind.wrap_u16 _)
          go_wp2
          go_ret2
          rw [← HE2.out]
          exact ⟨by simp [HW.out], HO2.out, _, HR2.out⟩
        · have HW : Hid (IntKind.u16.wrap (t - v) = (t - v) % 65536) := Lib.hid (IntKind.wrap_u16 _)
          go_wp2
          go_ret2
          rw [← HE2.out]
          exact ⟨by simp [HW.out], HO2.out, _, HR2.out⟩
      · have hne := empty_beqS S2 (by omega)
        rw [if_neg hend] at hE
        have HE2 := Lib.hid hE
        have HPS : Hid (0 < S2.size) := Lib.hid (by omega)
        have CS2 := Lib.hid (CS.out w2 S2 (p || (st || st2)) (by have := HN.out; have := HZ.out; omega) HR2.out)
        have HL2 := Lib.hid (nums_len S2)
        clear hE hend
        cases neg
        · go_wp2_with fail
          refine CS2.out.mono ?_
          rintro e w3 ⟨ho3, ⟨hs3, rfl, hr3⟩ | ⟨hs3, rfl, hr3⟩⟩
          · have HO3 := Lib.hid (HO2.out.trans ho3)
            have HR3 := Lib.hid hr3
            have HS3 := Lib.hid hs3
            clear ho3 hr3 hs3
            go_wp2
            go_ret2
            have h1 : ¬ iat (nums S2) 0 = 43 := fun e => by have h := HS3.out; unfold sgn at h; rw [e, HL2.out, decide_eq_true HPS.out] at h; cases h
            have h2 : ¬ iat (nums S2) 0 = 45 := fun e => by have h := HS3.out; unfold sgn at h; rw [e, HL2.out, decide_eq_true HPS.out] at h; cases h
            have hE := HE2.out
            rw [if_neg h1, if_neg h2] at hE
            rw [← hE]
            exact ⟨rfl, HO3.out, _, HR3.out⟩
          · have HO3 := Lib.hid (HO2.out.trans ho3)
            have HR3 := Lib.hid hr3
            have hq : iat (nums S2) 0 = 43 ∨ iat (nums S2) 0 = 45 := by
              have h := hs3
              simp only [sgn, Bool.and_eq_true, Bool.or_eq_true, decide_eq_true_eq] at h
              exact h.2
            have hx0 := BytL.at_ (BytL.nums S2) 0
            have HE3 : Hid (evalF a (lookL look) f (decide (iat (nums S2) 0 = 45)) ((t + v) % 65536) (st || st2) (nm || nm2) (nums (strOfNums ((nums S2).drop 1))) = R) := Lib.hid (by
              have hE := HE2.out
              rw [nums_drop]
              rcases hq with h1 | h1
              · rw [if_pos h1] at hE; rw [h1]; exact hE
              · rw [if_neg (by omega), if_pos h1] at hE; rw [h1]; exact hE)
            have HS3 : Hid ((strOfNums ((nums S2).drop 1)).size + 1 ≤ S2.size) := Lib.hid (by rw [size_drop]; have := HPS.out; omega)
            generalize decide (iat (nums S2) 0 = 45) = neg3 at HE3 ⊢
            generalize strOfNums ((nums S2).drop 1) = S3 at HE3 HS3 HR3
            clear ho3 hr3 hs3 hq hx0
            go_wp2
            go_roundw
            case rel => exact ⟨(t + v) % 65536, neg3, st || st2, nm || nm2, f, S3, by simp [IntKind.wrap_u16], rfl, by omega, by omega, HO3, HR3, Lib.hid (by have := HS3.out; have := HN.out; have := HZ.out; omega), HE3⟩
            case measure => rw [szAt_eq HR3.out, HSQ.out]; have := HS3.out; have := HN.out; omega
        · go_wp2_with fail
          refine CS2.out.mono ?_
          rintro e w3 ⟨ho3, ⟨hs3, rfl, hr3⟩ | ⟨hs3, rfl, hr3⟩⟩
          · have HO3 := Lib.hid (HO2.out.trans ho3)
            have HR3 := Lib.hid hr3
            have HS3 := Lib.hid hs3
            clear ho3 hr3 hs3
            go_wp2
            go_ret2
            have h1 : ¬ iat (nums S2) 0 = 43 := fun e => by have h := HS3.out; unfold sgn at h; rw [e, HL2.out, decide_eq_true HPS.out] at h; cases h
            have h2 : ¬ iat (nums S2) 0 = 45 := fun e => by have h := HS3.out; unfold sgn at h; rw [e, HL2.out, decide_eq_true HPS.out] at h; cases h
            have hE := HE2.out
            rw [if_neg h1, if_neg h2] at hE
            rw [← hE]
            exact ⟨rfl, HO3.out, _, HR3.out⟩
          · have HO3 := Lib.hid (HO2.out.trans ho3)
            have HR3 := Lib.hid hr3
            have hq : iat (nums S2) 0 = 43 ∨ iat (nums S2) 0 = 45 := by
              have h := hs3
              simp only [sgn, Bool.and_eq_true, Bool.or_eq_true, decide_eq_true_eq] at h
              exact h.2
            have hx0 := BytL.at_ (BytL.nums S2) 0
            have HE3 : Hid (evalF a (lookL look) f (decide (iat (nums S2) 0 = 45)) ((t - v) % 65536) (st || st2) (nm || nm2) (nums (strOfNums ((nums S2).drop 1))) = R) := Lib.hid (by
              have hE := HE2.out
              rw [nums_drop]
              rcases hq with h1 | h1
              · rw [if_pos h1] at hE; rw [h1]; exact hE
              · rw [if_neg (by omega), if_pos h1] at hE; rw [h1]; exact hE)
            have HS3 : Hid ((strOfNums ((nums S2).drop 1)).size + 1 ≤ S2.size) := Lib.hid (by rw [size_drop]; have := HPS.out; omega)
            generalize decide (iat (nums S2) 0 = 45) = neg3 at HE3 ⊢
            generalize strOfNums ((nums S2).drop 1) = S3 at HE3 HS3 HR3
            clear ho3 hr3 hs3 hq hx0
            go_wp2
            go_roundw
            case rel => exact ⟨(t - v) % 65536, neg3, st || st2, nm || nm2, f, S3, by simp [IntKind.wrap_u16], rfl, by omega, by omega, HO3, HR3, Lib.hid (by have := HS3.out; have := HN.out; have := HZ.out; omega), HE3⟩
            case measure => rw [szAt_eq HR3.out, HSQ.out]; have := HS3.out; have := HN.out; omega
    · have h0' : (e0 != 0) = true := by simpa using h0
      have HEE := HE.out
      rw [if_pos h0] at HEE
      have HE2 := Lib.hid HEE
      clear HEE HE h0
      go_wp2
      go_ret2
      rw [← HE2.out]
      exact ⟨rfl, HO2.out, _, HR2.out⟩
end Go.Proofs.YtmdpgekbiohfbabDoor
