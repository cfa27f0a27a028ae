/- Contracts: steps of Parse, plainly. -/
import Derived.Test.YtnmgjgeniaheoaaDoorPnG
import Derived.Test.YtnmgjgeniaheoaaDoorPnK
namespace Go.Proofs.YtnmgjgeniaheoaaDoor
open Go.ChangeShapes Go.WideShapes Go.ChangeAt Go.RowKit
set_option linter.unusedVariables false

def paE (s : ByteArray) : Int := match prs s with | .inl e => e | .inr _ => 0
def paL (s : ByteArray) : List Pn := match prs s with | .inl _ => [] | .inr o => o
theorem pa_bad {s : ByteArray} {e : Int} (h : prs s = .inl e) : paE s = e ∧ paL s = [] := by unfold paE paL; rw [h]; exact ⟨rfl, rfl⟩
theorem pa_good {s : ByteArray} {o : List Pn} (h : prs s = .inr o) : paE s = 0 ∧ paL s = o := by unfold paE paL; rw [h]; exact ⟨rfl, rfl⟩
theorem idx_first (c : UInt8) : ∀ (l : List UInt8) (j : Nat), (∀ m, m < j → l[m]? ≠ some c) → l[j]? = some c → Lib.indexByte l c = (j : Int)
  | [], j, _, h => by simp at h
  | x :: l, 0, _, h => by
    have : x = c := by simpa using h
    rw [idx_cons, if_pos this]; rfl
  | x :: l, j + 1, h, h2 => by
    have h0 : x ≠ c := fun e => h 0 (by omega) (by simp [e])
    have ih := idx_first c l j (fun m hm => by have := h (m + 1) (by omega); simpa using this) (by simpa using h2)
    rw [idx_cons, if_neg h0, ih, if_neg (by omega)]; omega
theorem idx_absent (c : UInt8) : ∀ (l : List UInt8), (∀ m, m < l.length → l[m]? ≠ some c) → Lib.indexByte l c = -1
  | [], _ => rfl
  | x :: l, h => by
    have h0 : x ≠ c := fun e => h 0 (by simp) (by simp [e])
    have ih := idx_absent c l (fun m hm => by have := h (m + 1) (by simp; omega); simpa using this)
    rw [idx_cons, if_neg h0, ih, if_pos rfl]
theorem dlen (s : ByteArray) : s.data.toList.length = s.size := by rw [Array.length_toList]; rfl
theorem byte_iff (s : ByteArray) (j : Nat) (c : UInt8) (hj : j < s.size) : iat (nums s) j = (c.toNat : Int) ↔ s.data.toList[j]? = some c := by
  have hl : j < s.data.toList.length := by rw [dlen]; exact hj
  rw [iat_eq _ _ (by rw [nums_len]; exact hj), List.getElem?_eq_getElem hl]
  simp only [nums, List.getElem_map]
  constructor
  · intro h
    congr 1
    exact UInt8.toNat_inj.1 (by omega)
  · intro h
    injection h with h
    rw [h]
theorem runs_next (out : List Pn) (w l : List UInt8) (k : Nat) (hk : k < l.length) (h : l[k] ≠ 32) : run out w (l.drop k) = run out (w ++ [l[k]]) (l.drop (k + 1)) := by
  conv => lhs; rw [List.drop_eq_getElem_cons hk, run, if_neg h]
theorem runs_blank (out : List Pn) (w l : List UInt8) (k : Nat) (hk : k < l.length) (h : l[k] = 32) : run out w (l.drop k) = match stp out ⟨w.toArray⟩ with | .inl e => .inl e | .inr o => run o [] (l.drop (k + 1)) := by
  conv => lhs; rw [List.drop_eq_getElem_cons hk, run, if_pos h]
  cases stp out ⟨w.toArray⟩ <;> rfl
theorem mk_toList (s : ByteArray) : (⟨s.data.toList.toArray⟩ : ByteArray) = s := by cases s; simp
/-- A step, as the document takes it. -/
def dst (out : List Pn) (b : Bool) (N : Int) (p : Pn) : Sum Int (List Pn) := if b = false then .inl 21 else if N = 0 then .inl 10 else if 4096 - (out.length : Int) < N then .inl 12 else .inr (out ++ List.replicate N.toNat p)
theorem grp_none {w : ByteArray} (h : grpP w = none) : grp w = .bad 21 := by unfold grp; rw [h]
theorem grp_one {w : ByteArray} {p : Pn} (h : grpP w = some p) (hi : Lib.indexByte w.data.toList 42 < 0) : grp w = .good p 1 := by unfold grp; rw [h]; simp only [if_pos hi]
theorem grp_bad {w : ByteArray} {p : Pn} (h : grpP w = some p) (hi : ¬ Lib.indexByte w.data.toList 42 < 0) (ht : timE (grpL w) ≠ 0) : grp w = .bad (timE (grpL w)) := by unfold grp; rw [h]; simp only [if_neg hi, if_neg ht]
theorem grp_many {w : ByteArray} {p : Pn} (h : grpP w = some p) (hi : ¬ Lib.indexByte w.data.toList 42 < 0) (ht : timE (grpL w) = 0) : grp w = .good p (timV (grpL w)).toNat := by unfold grp; rw [h]; simp only [if_neg hi, if_pos ht]
theorem stp_bad {out : List Pn} {w : ByteArray} {e : Int} (h0 : w.size ≠ 0) (h : grp w = .bad e) : stp out w = .inl e := by unfold stp; rw [if_neg h0, h]
theorem stp_good {out : List Pn} {w : ByteArray} {p : Pn} {n : Nat} (h0 : w.size ≠ 0) (h : grp w = .good p n) : stp out w = if 4096 < out.length + n then .inl 12 else .inr (out ++ List.replicate n p) := by unfold stp; rw [if_neg h0, h]
theorem stp_empty {out : List Pn} {w : ByteArray} (h0 : w.size = 0) : stp out w = .inr out := by unfold stp; rw [if_pos h0]
theorem dst_no (out : List Pn) (N : Int) (p : Pn) : dst out false N p = .inl 21 := by unfold dst; rw [if_pos rfl]
theorem dst_zero (out : List Pn) (p : Pn) : dst out true 0 p = .inl 10 := by unfold dst; rw [if_neg (by simp), if_pos rfl]
theorem dst_over (out : List Pn) (N : Int) (p : Pn) (h0 : ¬ N = 0) (h : 4096 - (out.length : Int) < N) : dst out true N p = .inl 12 := by unfold dst; rw [if_neg (by simp), if_neg h0, if_pos h]
theorem dst_ok (out : List Pn) (N : Int) (p : Pn) (h0 : ¬ N = 0) (h : ¬ 4096 - (out.length : Int) < N) : dst out true N p = .inr (out ++ List.replicate N.toNat p) := by unfold dst; rw [if_neg (by simp), if_neg h0, if_neg h]
theorem stp_no (out : List Pn) (w : ByteArray) (h0 : w.size ≠ 0) (hi : Lib.indexByte w.data.toList 42 < 0) : stp out w = dst out (onB w) 1 (onP w) := by
  have EP : grpP w = oneP w := by unfold grpP; rw [if_pos hi]
  cases hb : onB w with
  | false => rw [dst_no, stp_bad h0 (grp_none (EP.trans (on_none hb)))]
  | true =>
    rw [stp_good h0 (grp_one (EP.trans (on_some hb)) hi)]
    by_cases q : 4096 < out.length + 1
    · rw [if_pos q, dst_over _ _ _ (by omega) (by omega)]
    · rw [if_neg q, dst_ok _ _ _ (by omega) (by omega)]; rfl
theorem cn_cases (l : List Int) : (cnB l = false ∧ timE l = 21) ∨ (cnB l = true ∧ cntD l = some (cnV l)) := by
  unfold cnB cnV timE
  cases h : cntD l with
  | none => left; exact ⟨rfl, rfl⟩
  | some v =>
    right
    refine ⟨rfl, ?_⟩
    have : l ≠ [] := fun e => by rw [e] at h; cases h
    rw [if_neg this]; rfl
theorem stp_at (out : List Pn) (w : ByteArray) (j : Nat) (h0 : w.size ≠ 0) (hi : Lib.indexByte w.data.toList 42 = (j : Int)) : stp out w = dst out (onB (w.extract 0 j) && cnB (nums (w.extract (j + 1) w.size))) (cnV (nums (w.extract (j + 1) w.size))) (onP (w.extract 0 j)) := by
  have hn : ¬ Lib.indexByte w.data.toList 42 < 0 := by omega
  have EL : grpL w = nums (w.extract (j + 1) w.size) := by unfold grpL; rw [hi, Int.toNat_natCast]
  have EP : grpP w = oneP (w.extract 0 j) := by unfold grpP; rw [if_neg hn, hi, Int.toNat_natCast]
  rw [← EL]
  have hcn := tim_nonneg (grpL w) (nums_range _)
  cases hb : onB (w.extract 0 j) with
  | false => rw [Bool.false_and, dst_no, stp_bad h0 (grp_none (EP.trans (on_none hb)))]
  | true =>
    rw [Bool.true_and]
    have E1 := EP.trans (on_some hb)
    rcases cn_cases (grpL w) with ⟨h1, h2⟩ | ⟨h1, h2⟩
    · rw [h1, dst_no, stp_bad h0 (grp_bad E1 hn (by rw [h2]; decide)), h2]
    · rw [h1]
      have hE : timE (grpL w) = if cnV (grpL w) = 0 then 10 else if 4096 < cnV (grpL w) then 12 else 0 := by unfold timE; rw [h2]
      have hV : timV (grpL w) = if cnV (grpL w) = 0 then 0 else if 4096 < cnV (grpL w) then 0 else cnV (grpL w) := by unfold timV; rw [h2]
      generalize cnV (grpL w) = V at *
      by_cases q0 : V = 0
      · rw [if_pos q0] at hE
        rw [stp_bad h0 (grp_bad E1 hn (by rw [hE]; decide)), hE, q0, dst_zero]
      · rw [if_neg q0] at hE hV
        by_cases q1 : 4096 < V
        · rw [if_pos q1] at hE
          rw [stp_bad h0 (grp_bad E1 hn (by rw [hE]; decide)), hE, dst_over _ _ _ q0 (by omega)]
        · rw [if_neg q1] at hE hV
          rw [stp_good h0 (grp_many E1 hn hE), hV]
          rw [hV] at hcn
          by_cases q2 : 4096 < out.length + V.toNat
          · rw [if_pos q2, dst_over _ _ _ q0 (by omega)]
          · rw [if_neg q2, dst_ok _ _ _ q0 (by omega)]
theorem cnV_range (l : List Int) (hr : ∀ x ∈ l, 0 ≤ x ∧ x < 256) : 0 ≤ cnV l ∧ cnV l ≤ 4097 := by
  unfold cnV
  split
  · omega
  · unfold cntD
    rw [if_neg (by assumption)]
    by_cases h : ∃ c ∈ l, c < 48 ∨ 57 < c
    · rw [cntV_bad l 0 h]; exact ⟨by decide, by decide⟩
    · have hd : ∀ c ∈ l, 48 ≤ c ∧ c ≤ 57 := fun c hc => by
        apply Classical.byContradiction
        intro q
        exact h ⟨c, hc, by omega⟩
      rw [cntV_digits l 0 (by omega) (by omega) hd 0 (.inl rfl)]
      have := dval_le l 0 (by omega) (fun c hc => (hd c hc).1)
      show 0 ≤ (if 4097 < dval l 0 then 4097 else dval l 0) ∧ (if 4097 < dval l 0 then 4097 else dval l 0) ≤ 4097
      split <;> omega
end Go.Proofs.YtnmgjgeniaheoaaDoor
