/- Contracts of package pack: Unpack, whole. -/
import Derived.Test.YtnhafficnomlbaaPckU
namespace Go.Proofs.Ytnhafficnomlbaa
open Go.ChangeShapes Go.WideShapes Go.ChangeAt Go.RowKit
set_option linter.unusedVariables false
theorem ownP_cap {t : TypeId} {w : World} {base : Nat} {v : Value} {l : List Int} (h : eY.Own t w base v l) : ∃ A c, v = .slice A l.length c ∧ l.length ≤ c := by
  obtain ⟨hl, h2⟩ := h
  rcases h2 with ⟨rfl, hn⟩ | ⟨g, cap, cur, rfl, h3, h4, h5, _⟩
  · exact ⟨none, 0, by rw [hn], by omega⟩
  · exact ⟨_, cap, rfl, h5⟩
theorem pc_le (l : List Int) (h : 0 < l.length) (hb : Byt l) : pcS l ≤ l.length ∧ (pcB l).length ≤ 64 * pcS l ∧ pcS l ≤ 256 := by
  have h0 := hb.at_ 0
  unfold pcS pcB
  by_cases h1 : 128 ≤ iat l 0
  · rw [if_pos h1, if_pos h1]
    by_cases h2 : 1 < l.length
    · rw [if_pos h2, if_pos h2, List.length_replicate]; omega
    · rw [if_neg h2, if_neg h2]; simp
  · rw [if_neg h1, if_neg h1]
    by_cases h2 : 0 < iat l 0 ∧ iat l 0 < l.length
    · rw [if_pos h2, if_pos h2, List.length_take, List.length_drop]; omega
    · rw [if_neg h2, if_neg h2]; simp
theorem pcB_byt (l : List Int) (hb : Byt l) : Byt (pcB l) := by
  unfold pcB
  split
  · split
    · intro x hx
      rw [List.eq_of_mem_replicate hx]
      exact hb.at_ 1
    · exact Byt.nil_
  · split
    · exact (hb.drop 1).take _
    · exact Byt.nil_
theorem packL_byt : ∀ (f : Nat) (l : List Int), l.length ≤ f → Byt l → Byt (packL l)
  | f, l, hf, hb => by
    by_cases h0 : l.length = 0
    · rw [packL_nil l h0]; exact Byt.nil_
    · have h : 0 < l.length := by omega
      cases ht : three l
      · rw [packL_lit l h ht]
        have hu := uN_range l h
        have ih := packL_byt (f - 1) (l.drop (uN l)) (by rw [List.length_drop]; omega) (hb.drop _)
        intro x hx
        rcases List.mem_cons.1 hx with rfl | hx
        · omega
        · exact ((hb.take _).app ih) x hx
      · rw [packL_run l h ht]
        have ha := aN_range l h
        have h4 : 3 ≤ aN l := by have := three_iff l h; rw [ht] at this; simpa using this
        have ih := packL_byt (f - 1) (l.drop (aN l)) (by rw [List.length_drop]; omega) (hb.drop _)
        intro x hx
        rcases List.mem_cons.1 hx with rfl | hx
        · omega
        · rcases List.mem_cons.1 hx with rfl | hx
          · exact hb.at_ 0
          · exact ih x hx
termination_by f => f
decreasing_by all_goals omega
def UnpPost (most : Int) (zs : List Int) (w : World) (e : Ending) (w' : World) : Prop :=
  ∃ v, e = .returned (.tuple #[v, .int .i64 (unpL most zs).2]) ∧ eY.Rd w' v (unpL most zs).1 ∧ Below w.heap.size w w'
theorem UnpPost.mk {most : Int} {zs l : List Int} {f : Int} {w w' : World} {v : Value} (he : unpL most zs = (l, f)) (hr : eY.Rd w' v l) (hb : Below w.heap.size w w') : UnpPost most zs w (.returned (.tuple #[v, .int .i64 f])) w' := by
  unfold UnpPost
  rw [he]
  exact ⟨v, rfl, hr, hb⟩
theorem unpF_byt (most : Int) : ∀ (f : Nat) (out l : List Int), Byt out → Byt l → Byt (unpF most f out l).1
  | 0, out, l, h, _ => h
  | f + 1, out, l, h, hl => by
    show Byt (if _ then _ else _ : List Int × Int).1
    by_cases h0 : l.length = 0
    · rw [if_pos h0]; exact h
    · rw [if_neg h0]
      by_cases h1 : pcS l = 0
      · rw [if_pos h1]; exact Byt.nil_
      · rw [if_neg h1]
        by_cases h2 : most < out.length + (pcB l).length
        · rw [if_pos h2]; exact Byt.nil_
        · rw [if_neg h2]
          exact unpF_byt most f _ _ (h.app (pcB_byt l hl)) (hl.drop _)
theorem unpL_byt (most : Int) (zs : List Int) (hz : Byt zs) : Byt (unpL most zs).1 := by
  have h : Byt (unpR most [] zs).1 := unpF_byt most zs.length [] zs Byt.nil_ hz
  unfold unpL
  split
  · split
    · exact h
    · exact Byt.nil_
  · exact Byt.nil_
theorem unpL_err (most : Int) (zs : List Int) (f : Int) (hf : f ≠ 0) (h : unpR most [] zs = ([], f)) : unpL most zs = ([], f) := by
  unfold unpL
  rw [h, if_neg hf]
theorem unpL_ok (most : Int) (zs P : List Int) (h : unpR most [] zs = (P, 0)) : unpL most zs = if packL P == zs then (P, 0) else ([], 21) := by
  unfold unpL
  rw [h]; rfl
set_option maxRecDepth 100000 in
set_option maxHeartbeats 1000000 in
theorem unpack_any (A : Option Addr) (n c : Nat) (zs : List Int) (most : Int) (hmost : (Lit.int .i64 most).wf = true) (w : World) (h : eY.Rd w (.slice A n c) zs) (hc : n ≤ c) (hz : Byt zs) (hn : n ≤ 2000) :
    Calls Try.prog 17 #[.slice A n c, .int .i64 most] w (UnpPost most zs w) := by
  have HL := Lib.hid (rd_len h)
  have H := Lib.hid h
  have HZ := Lib.hid hz
  have O0 : Hid (eY.Own 5 w w.heap.size (.slice none 0 0) []) := Lib.hid (Els.Own.nil_ _ _)
  have B0 := Lib.hid (Below.refl w.heap.size w)
  have Z0 : Hid (Byt []) := Lib.hid Byt.nil_
  clear h hz
  go_enter Try.func17, Try.ntmps17
  go_wp2
  go_loopw [6, 7] (fun o b wr => ∃ (k : Nat) (A' : Option Addr) (n' c' : Nat) (P : List Int), k ≤ n ∧ b = .slice A' n' c' ∧ Hid (n' = n - k ∧ n' ≤ c') ∧ Hid (eY.Rd w (.slice A' n' c') (zs.drop k)) ∧ Hid (eY.Own 5 wr w.heap.size o P) ∧ Hid (Byt P ∧ P.length ≤ 64 * k) ∧ Hid (unpR most [] zs = unpR most P (zs.drop k)) ∧ Hid (Below w.heap.size w wr)) (fun _ b _ => lenV b)
  case atStart => exact ⟨0, A, n, c, [], Nat.zero_le _, rfl, Lib.hid ⟨rfl, hc⟩, H, O0, Lib.hid ⟨Byt.nil_, Nat.zero_le _⟩, Lib.hid rfl, B0⟩
  case round =>
    obtain ⟨k, A', n', c', P, hk, rfl, hnn, hR, hO, hP, hU, hB⟩ := hrel
    obtain ⟨hn1, hn2⟩ := hnn.out
    have hn3 : n' ≤ n := by omega
    have HN4 := Lib.hid (show k + n' = n by omega)
    clear hn1
    by_cases hlt : 0 < n'
    · obtain ⟨g, off, rfl, hS⟩ := Sl.of_rd hR.out (HZ.out.drop k) hn2 hlt
      have CF := Lib.hid (first_any g off n' c' (zs.drop k) wr (hS.below hB.out) hlt (by omega))
      have hST := unpR_step most P (zs.drop k) (by rw [hS.1]; exact hlt)
      obtain ⟨p1, p2, p3⟩ := pc_le (zs.drop k) (by rw [hS.1]; exact hlt) (HZ.out.drop k)
      rw [hS.1] at p1
      have HBB := Lib.hid (pcB_byt (zs.drop k) (HZ.out.drop k))
      have HS := Lib.hid hS
      rw [← hU.out] at hST
      obtain ⟨S, hSe⟩ : ∃ S, pcS (zs.drop k) = S := ⟨_, rfl⟩
      obtain ⟨B, hBe⟩ : ∃ B, pcB (zs.drop k) = B := ⟨_, rfl⟩
      rw [hSe, hBe] at hST CF
      rw [hSe] at p1 p2 p3
      rw [hBe] at p2 HBB
      have HST := Lib.hid hST
      have n0 : (0 : Int) < n' := by omega
      clear hS hST hSe hBe
      go_wp2_with fail
      refine CF.out.mono ?_
      rintro e w1 ⟨v1, rfl, hr, hb⟩
      have O1 := Lib.hid (Els.Own.below hO.out hb)
      have B1 := Lib.hid (Below.trans0 hB.out hb)
      have R1 := Lib.hid hr
      obtain ⟨A1, c1, rfl, _⟩ := rdY_open hr
      obtain ⟨A2, c2, hv2, _⟩ := ownP_cap hO.out
      subst hv2
      have hPl := hP.out.2
      clear hb hr CF
      by_cases hs0 : S = 0
      · subst hs0
        have HE : Hid (unpL most zs = ([], 21)) := Lib.hid (unpL_err most zs 21 (by decide) (by rw [HST.out, if_pos rfl]))
        go_wp2
        go_ret2
        exact UnpPost.mk HE.out (.inl ⟨rfl, rfl⟩) B1.out
      · have s1 : ((S : Int) == 0) = false := by simp; omega
        have w1 : IntKind.i64.wrap ((P.length : Int) + (B.length : Int)) = (P.length : Int) + (B.length : Int) := IntWalk.i64_in _ (by omega)
        by_cases hs1 : most < (P.length : Int) + (B.length : Int)
        · have HE : Hid (unpL most zs = ([], 12)) := Lib.hid (unpL_err most zs 12 (by decide) (by rw [HST.out, if_neg hs0, if_pos hs1]))
          clear hs0
          go_wp2
          go_ret2
          exact UnpPost.mk HE.out (.inl ⟨rfl, rfl⟩) B1.out
        · have HE : Hid (unpR most [] zs = unpR most (P ++ B) ((zs.drop k).drop S)) := Lib.hid (by rw [HST.out, if_neg hs0, if_neg hs1])
          have s2 : S ≤ c' := by omega
          have s3 : (S : Int) ≤ n' := by omega
          have s4 : (0 : Int) ≤ S := by omega
          have HS0 := Lib.hid (show 0 < S by omega)
          clear hs0
          go_wp2_with (at_builtin; refine wpList_appY rfl _ (.tmp 30) (.tmp 31) rfl w.heap.size _ _ P B rfl O1.out rfl R1.out (by omega) (by have := B1.out.size; omega) ?_; intro v2 w2 ho2 hb2 hg2 _; have O2 := Lib.hid ho2; have B2 := Lib.hid (B1.out.trans hb2); clear ho2 hb2 hg2)
          go_roundw
          case rel => exact ⟨k + S, _, n' - S, c' - S, _, by have := HN4.out; omega, rfl, Lib.hid ⟨by have := HN4.out; omega, by omega⟩, Lib.hid (by rw [← List.drop_drop]; exact HS.out.cut S (by omega)), O2, Lib.hid ⟨hP.out.1.app HBB.out, by rw [List.length_append]; omega⟩, Lib.hid (by rw [HE.out, List.drop_drop]), B2⟩
          case measure => have := HS0.out; simp [lenV]; omega
    · obtain rfl : n' = 0 := by omega
      have HE := Lib.hid (unpL_ok most zs P (by rw [hU.out, unpR_nil _ _ _ (rd_len hR.out)]))
      obtain ⟨A2, c2, hv2, hc2⟩ := ownP_cap hO.out
      subst hv2
      have hPl := hP.out.2
      have CP := Lib.hid (pack_any A2 P.length c2 P wr hO.out.rd hc2 hP.out.1 (by omega))
      have CE := Lib.hid (fun v1 (w1 : World) (hb : Below wr.heap.size wr w1) (ho : eY.Rd w1 v1 (packL P)) (hbb : Byt (packL P)) => eqY_any v1 (.slice A n c) (packL P) zs w1 ho (Els.Rd.below H.out (hB.out.trans (hb.mono hB.out.size))) hbb HZ.out)
      have HPB := Lib.hid (packL_byt P.length P (Nat.le_refl _) hP.out.1)
      cases hk : packL P == zs
      · rw [hk] at HE
        have HK := Lib.hid hk
        clear hk
        go_wp2_with fail
        refine CP.out.mono ?_
        rintro e w1 ⟨v1, rfl, ho, hb⟩
        have B1 := Lib.hid (hB.out.trans (hb.mono hB.out.size))
        go_wp2_with fail
        refine (CE.out v1 _ hb ho.rd HPB.out).mono ?_
        rintro e w2 ⟨rfl, rfl⟩
        rw [HK.out]
        go_wp2
        go_ret2
        exact UnpPost.mk HE.out (.inl ⟨rfl, rfl⟩) B1.out
      · rw [hk] at HE
        have HK := Lib.hid hk
        clear hk
        go_wp2_with fail
        refine CP.out.mono ?_
        rintro e w1 ⟨v1, rfl, ho, hb⟩
        have B1 := Lib.hid (hB.out.trans (hb.mono hB.out.size))
        have O1 := Lib.hid (Els.Own.below hO.out hb)
        go_wp2_with fail
        refine (CE.out v1 _ hb ho.rd HPB.out).mono ?_
        rintro e w2 ⟨rfl, rfl⟩
        rw [HK.out]
        go_wp2
        go_ret2
        exact UnpPost.mk HE.out O1.out.rd B1.out
end Go.Proofs.Ytnhafficnomlbaa
