/- The law of package symbols, plainly: what a name's place says, the names at an address, the nearest. -/
import Derived.Test.YtopkjniegncokaaTbp
import Derived.Sort.Walk0
namespace Go.Proofs.Ytopkjniegncokaa
open Go.ChangeShapes Go.WideShapes Go.ChangeAt Go.RowKit
set_option linter.unusedVariables false
def encM (M : PrL) : List PrV := M.map fun p => (p.1, p.2, false)
theorem encM_len (M : PrL) : (encM M).length = M.length := by simp [encM]
theorem encM_at (M : PrL) (k : Nat) : (encM M)[k]? = M[k]?.map fun p => (p.1, p.2, false) := by simp [encM]
theorem find_look {M : PrL} (hd : (nmsP M).Nodup) {s : ByteArray} {r : Int} (h : FindIs (encM M) s r) : (r = -1 ∧ lookP M s = none) ∨ ∃ (k : Nat) (v : Int), r = (k : Int) ∧ k < M.length ∧ M[k]? = some (s, v) ∧ lookP M s = some v := by
  rcases h with ⟨rfl, h⟩ | ⟨k, rfl, hk, p, hp, rfl⟩
  · refine .inl ⟨rfl, lookP_none.2 fun hm => ?_⟩
    obtain ⟨q, hq, e⟩ := List.mem_map.1 hm
    exact h (q.1, q.2, false) (List.mem_map.2 ⟨q, hq, rfl⟩) e
  · rw [encM_at] at hp
    rw [encM_len] at hk
    refine .inr ⟨k, M[k].2, rfl, hk, ?_, ?_⟩
    · rw [List.getElem?_eq_getElem hk] at hp ⊢
      simp only [Option.map_some, Option.some.injEq] at hp
      rw [← hp]
    · refine lookP_of hd ?_
      rw [List.getElem?_eq_getElem hk] at hp
      simp only [Option.map_some, Option.some.injEq] at hp
      rw [← hp]
      exact List.getElem_mem hk
theorem drop_at {s : ByteArray} {v : Int} : ∀ {M : PrL} {k : Nat}, (nmsP M).Nodup → M[k]? = some (s, v) → dropP M s = M.take k ++ M.drop (k + 1)
  | p :: t, 0, hd, h => by
    simp only [List.getElem?_cons_zero, Option.some.injEq] at h
    subst h
    have hn : s ∉ nmsP t := (List.nodup_cons.1 hd).1
    unfold dropP
    rw [List.filter_cons_of_neg (by simp)]
    show t.filter _ = t
    rw [List.filter_eq_self]
    intro q hq
    have : q.1 ≠ s := fun e => hn (by rw [← e]; exact List.mem_map.2 ⟨q, hq, rfl⟩)
    simpa using this
  | p :: t, k + 1, hd, h => by
    simp only [List.getElem?_cons_succ] at h
    have hp : p.1 ≠ s := fun e => by
      have hn : p.1 ∉ nmsP t := (List.nodup_cons.1 hd).1
      exact hn (by rw [e]; exact List.mem_map.2 ⟨(s, v), List.mem_of_getElem? h, rfl⟩)
    have ih := drop_at (List.nodup_cons.1 hd).2 h
    unfold dropP at ih ⊢
    rw [List.filter_cons_of_pos (by simpa using hp), ih]
    rfl
theorem drop_none {M : PrL} {s : ByteArray} (h : lookP M s = none) : dropP M s = M := by
  unfold dropP
  rw [List.filter_eq_self]
  intro q hq
  have : q.1 ≠ s := fun e => lookP_none.1 h (by rw [← e]; exact List.mem_map.2 ⟨q, hq, rfl⟩)
  simpa using this
theorem encM_drop {M : PrL} {s : ByteArray} {v : Int} {k : Nat} (hd : (nmsP M).Nodup) (h : M[k]? = some (s, v)) : (encM M).take k ++ (encM M).drop (k + 1) = encM (dropP M s) := by
  rw [drop_at hd h]
  unfold encM
  rw [List.map_append, List.map_take, List.map_drop]
theorem drop_length (M : PrL) (s : ByteArray) : (dropP M s).length ≤ M.length := List.length_filter_le _ _
theorem set_length (M : PrL) (s : ByteArray) (v : Int) : (setM M s v).length ≤ M.length + 1 := by
  unfold setM
  split
  · split
    · omega
    · simp
  · omega
/-- The names at an address. -/
def hereL (a : Int) (M : PrL) : List ByteArray := (M.filter fun p => decide (p.2 = a)).map (·.1)
theorem lkP_of {M : PrL} (hd : (nmsP M).Nodup) {p : ByteArray × Int} (h : p ∈ M) : lkP M p.1 = p.2 := by
  unfold lkP
  rw [lookP_of hd (show (p.1, p.2) ∈ M from h)]; rfl
theorem here_eq {M : PrL} (hd : (nmsP M).Nodup) (a : Int) : (srtS (nmsP M)).filter (atP M a) = srtS (hereL a M) := by
  refine srt_uniq ?_ ((srt_le _).filter _) (srt_le _)
  refine ((srt_perm (nmsP M)).filter _).trans (List.Perm.trans ?_ (srt_perm (hereL a M)).symm)
  have e : (nmsP M).filter (atP M a) = hereL a M := by
    unfold nmsP hereL
    rw [List.filter_map]
    congr 1
    apply List.filter_congr
    intro p hp
    show decide (lkP M p.1 = a) = _
    rw [lkP_of hd hp]
  rw [e]
/-- The nearest, one pair behind the other, as the law has it. -/
def nearStepL (a : Int) (st : ByteArray × Int × Bool) (p : ByteArray × Int) : ByteArray × Int × Bool :=
  if decide (0 ≤ a - p.2) && (!st.2.2 || decide (a - p.2 < st.2.1) || (decide (a - p.2 = st.2.1) && Op.bytesLess p.1.toList st.1.toList)) then (p.1, a - p.2, true) else st
def nearL (a : Int) (M : PrL) : ByteArray × Int × Bool := M.foldl (nearStepL a) (⟨#[]⟩, 0, false)
theorem nearL_snoc (a : Int) (l : PrL) (p : ByteArray × Int) : nearL a (l ++ [p]) = nearStepL a (nearL a l) p := by unfold nearL; rw [List.foldl_append]; rfl
def NearOk (a : Int) (l : PrL) (st : ByteArray × Int × Bool) : Prop :=
  (st = (⟨#[]⟩, 0, false) ∧ ∀ p ∈ l, a < p.2) ∨ ∃ s v, st = (s, a - v, true) ∧ (s, v) ∈ l ∧ v ≤ a ∧ ∀ p ∈ l, p.2 ≤ a → p.2 < v ∨ (p.2 = v ∧ bts s ≤ bts p.1)
theorem near_uniq {a : Int} {l l' : PrL} {st st' : ByteArray × Int × Bool} (hm : ∀ p, p ∈ l ↔ p ∈ l') (h : NearOk a l st) (h' : NearOk a l' st') : st = st' := by
  rcases h with ⟨rfl, h⟩ | ⟨s, v, rfl, h1, h2, h3⟩ <;> rcases h' with ⟨rfl, h'⟩ | ⟨s', v', rfl, g1, g2, g3⟩
  · rfl
  · have := h _ ((hm _).2 g1); simp only at this; omega
  · have := h' _ ((hm _).1 h1); simp only at this; omega
  · have x := h3 _ ((hm _).2 g1) g2
    have y := g3 _ ((hm _).1 h1) h2
    simp only at x y
    rcases x with x | ⟨x1, x2⟩ <;> rcases y with y | ⟨y1, y2⟩
    · omega
    · omega
    · omega
    · subst x1
      rw [bts_inj (List.le_antisymm x2 y2)]
theorem less_bts (s t : ByteArray) : Op.bytesLess s.toList t.toList = decide (bts s < bts t) := by
  rw [Go.Proofs.bytesLess_eq, ByteArray.toList_eq, ByteArray.toList_eq]; rfl
theorem nearL_ok (a : Int) : ∀ (l : PrL) (l0 : PrL) (st : ByteArray × Int × Bool), NearOk a l0 st → NearOk a (l0 ++ l) (l.foldl (nearStepL a) st)
  | [], l0, st, h => by rw [List.append_nil]; exact h
  | p :: l, l0, st, h => by
    have := nearL_ok a l (l0 ++ [p]) (nearStepL a st p) (by
      unfold nearStepL
      rw [less_bts]
      by_cases hp : p.2 ≤ a
      · rw [decide_eq_true (show 0 ≤ a - p.2 by omega), Bool.true_and]
        rcases h with ⟨rfl, h⟩ | ⟨s, v, rfl, h1, h2, h3⟩
        · rw [if_pos (by rfl)]
          refine .inr ⟨p.1, p.2, rfl, by simp, hp, fun q hq hqa => ?_⟩
          rcases List.mem_append.1 hq with hq | hq
          · have := h q hq; omega
          · simp only [List.mem_singleton] at hq
            subst hq
            exact .inr ⟨rfl, List.le_refl _⟩
        · simp only [Bool.not_true, Bool.false_or]
          by_cases hv : v < p.2
          · rw [if_pos (by rw [decide_eq_true (show a - p.2 < a - v by omega)]; rfl)]
            refine .inr ⟨p.1, p.2, rfl, by simp, hp, fun q hq hqa => ?_⟩
            rcases List.mem_append.1 hq with hq | hq
            · rcases h3 q hq hqa with x | ⟨x, _⟩ <;> (left; omega)
            · simp only [List.mem_singleton] at hq
              subst hq
              exact .inr ⟨rfl, List.le_refl _⟩
          · rw [decide_eq_false (show ¬ a - p.2 < a - v by omega), Bool.false_or]
            by_cases he : p.2 = v
            · rw [decide_eq_true (show a - p.2 = a - v by omega), Bool.true_and]
              by_cases hs : bts p.1 < bts s
              · rw [if_pos (by exact decide_eq_true hs)]
                refine .inr ⟨p.1, p.2, rfl, by simp, hp, fun q hq hqa => ?_⟩
                rcases List.mem_append.1 hq with hq | hq
                · rcases h3 q hq hqa with x | ⟨x, y⟩
                  · left; omega
                  · exact .inr ⟨by omega, List.le_trans (List.le_of_lt hs) y⟩
                · simp only [List.mem_singleton] at hq
                  subst hq
                  exact .inr ⟨rfl, List.le_refl _⟩
              · rw [if_neg (by simpa using hs)]
                refine .inr ⟨s, v, rfl, List.mem_append_left _ h1, h2, fun q hq hqa => ?_⟩
                rcases List.mem_append.1 hq with hq | hq
                · exact h3 q hq hqa
                · simp only [List.mem_singleton] at hq
                  subst hq
                  exact .inr ⟨he, List.not_lt.1 hs⟩
            · rw [decide_eq_false (show ¬ a - p.2 = a - v by omega), Bool.false_and, if_neg (by simp)]
              refine .inr ⟨s, v, rfl, List.mem_append_left _ h1, h2, fun q hq hqa => ?_⟩
              rcases List.mem_append.1 hq with hq | hq
              · exact h3 q hq hqa
              · simp only [List.mem_singleton] at hq
                subst hq
                left; omega
      · rw [decide_eq_false (show ¬ 0 ≤ a - p.2 by omega), Bool.false_and, if_neg (by simp)]
        rcases h with ⟨rfl, h⟩ | ⟨s, v, rfl, h1, h2, h3⟩
        · refine .inl ⟨rfl, fun q hq => ?_⟩
          rcases List.mem_append.1 hq with hq | hq
          · exact h q hq
          · simp only [List.mem_singleton] at hq
            subst hq; omega
        · refine .inr ⟨s, v, rfl, List.mem_append_left _ h1, h2, fun q hq hqa => ?_⟩
          rcases List.mem_append.1 hq with hq | hq
          · exact h3 q hq hqa
          · simp only [List.mem_singleton] at hq
            subst hq
            exact absurd hqa hp)
    rw [List.append_assoc] at this
    exact this
theorem nearF_ok (M : PrL) (a : Int) : ∀ (l : List ByteArray) (l0 : PrL) (st : ByteArray × Int × Bool), NearOk a l0 st → (∀ x ∈ l0, ∀ s ∈ l, bts x.1 ≤ bts s) → l.Pairwise (fun a b => bts a ≤ bts b) →
    NearOk a (l0 ++ l.map fun s => (s, lkP M s)) (l.foldl (nearStep M a) st)
  | [], l0, st, h, _, _ => by rw [List.map_nil, List.append_nil]; exact h
  | p :: l, l0, st, h, ho, hpw => by
    have := nearF_ok M a l (l0 ++ [(p, lkP M p)]) (nearStep M a st p) (by
      unfold nearStep
      generalize lkP M p = x
      by_cases hp : a < x
      · rw [if_pos hp]
        rcases h with ⟨rfl, h⟩ | ⟨s, v, rfl, h1, h2, h3⟩
        · refine .inl ⟨rfl, fun q hq => ?_⟩
          rcases List.mem_append.1 hq with hq | hq
          · exact h q hq
          · simp only [List.mem_singleton] at hq
            subst hq; exact hp
        · refine .inr ⟨s, v, rfl, List.mem_append_left _ h1, h2, fun q hq hqa => ?_⟩
          rcases List.mem_append.1 hq with hq | hq
          · exact h3 q hq hqa
          · simp only [List.mem_singleton] at hq
            subst hq
            simp only at hqa
            omega
      · rw [if_neg hp]
        rcases h with ⟨rfl, h⟩ | ⟨s, v, rfl, h1, h2, h3⟩
        · rw [if_pos (by rfl)]
          refine .inr ⟨p, x, rfl, by simp, by omega, fun q hq hqa => ?_⟩
          rcases List.mem_append.1 hq with hq | hq
          · have := h q hq; omega
          · simp only [List.mem_singleton] at hq
            subst hq
            exact .inr ⟨rfl, List.le_refl _⟩
        · by_cases hv : v < x
          · rw [if_pos (by simp; omega)]
            refine .inr ⟨p, x, rfl, by simp, by omega, fun q hq hqa => ?_⟩
            rcases List.mem_append.1 hq with hq | hq
            · rcases h3 q hq hqa with y | ⟨y, _⟩ <;> (left; omega)
            · simp only [List.mem_singleton] at hq
              subst hq
              exact .inr ⟨rfl, List.le_refl _⟩
          · rw [if_neg (by simp; omega)]
            refine .inr ⟨s, v, rfl, List.mem_append_left _ h1, h2, fun q hq hqa => ?_⟩
            rcases List.mem_append.1 hq with hq | hq
            · exact h3 q hq hqa
            · simp only [List.mem_singleton] at hq
              subst hq
              by_cases he : x = v
              · exact .inr ⟨he, ho _ h1 _ (by simp)⟩
              · left; show x < v; omega) (fun x hx s hs => by
        rcases List.mem_append.1 hx with hx | hx
        · exact ho x hx s (by simp [hs])
        · simp only [List.mem_singleton] at hx
          subst hx
          exact (List.pairwise_cons.1 hpw).1 s hs) (List.pairwise_cons.1 hpw).2
    rw [List.append_assoc] at this
    exact this
theorem near_eq {M : PrL} (hd : (nmsP M).Nodup) (a : Int) : nearF M a (srtS (nmsP M)) = nearL a M := by
  have h1 := nearF_ok M a (srtS (nmsP M)) [] (⟨#[]⟩, 0, false) (.inl ⟨rfl, by simp⟩) (by simp) (srt_le _)
  have h2 := nearL_ok a M [] (⟨#[]⟩, 0, false) (.inl ⟨rfl, by simp⟩)
  rw [List.nil_append] at h1 h2
  refine near_uniq (fun p => ?_) h1 h2
  rw [List.mem_map]
  constructor
  · rintro ⟨s, hs, rfl⟩
    have := (srt_perm (nmsP M)).mem_iff.1 hs
    obtain ⟨q, hq, rfl⟩ := List.mem_map.1 this
    rw [lkP_of hd hq]
    exact hq
  · intro hp
    exact ⟨p.1, (srt_perm (nmsP M)).mem_iff.2 (List.mem_map.2 ⟨p, hp, rfl⟩), by rw [lkP_of hd hp]⟩
theorem nms_snoc (M : PrL) (j : Nat) (p : ByteArray × Int) (h : M[j]? = some p) : nmsP (M.take (j + 1)) = nmsP (M.take j) ++ [p.1] := by
  have hj : j < M.length := (List.getElem?_eq_some_iff.1 h).1
  have e : M[j] = p := by rw [List.getElem?_eq_getElem hj] at h; injection h
  rw [take_get M j hj, e]; simp [nmsP]
theorem here_snoc (a : Int) (M : PrL) (j : Nat) (p : ByteArray × Int) (h : M[j]? = some p) : hereL a (M.take (j + 1)) = hereL a (M.take j) ++ (if p.2 = a then [p.1] else []) := by
  have hj : j < M.length := (List.getElem?_eq_some_iff.1 h).1
  have e : M[j] = p := by rw [List.getElem?_eq_getElem hj] at h; injection h
  rw [take_get M j hj, e]
  unfold hereL
  rw [List.filter_append, List.map_append]
  by_cases hp : p.2 = a
  · rw [if_pos hp, List.filter_cons_of_pos (by simpa using hp)]; rfl
  · rw [if_neg hp, List.filter_cons_of_neg (by simpa using hp)]; rfl
theorem near_snoc (a : Int) (M : PrL) (j : Nat) (p : ByteArray × Int) (h : M[j]? = some p) : nearL a (M.take (j + 1)) = nearStepL a (nearL a (M.take j)) p := by
  have hj : j < M.length := (List.getElem?_eq_some_iff.1 h).1
  have e : M[j] = p := by rw [List.getElem?_eq_getElem hj] at h; injection h
  rw [take_get M j hj, nearL_snoc, e]
/-- What a call on the table leaves. -/
theorem own_turned {α : Type} {E : Els α} {t : TypeId} {w w' : World} {B g : Nat} {ob ob' : Option Nat} {v : Value} {l : List α} (h : E.Own t w B v l) (ht : Turned w w' g ob ob') (h1 : v.ownBlock ≠ some g) (h2 : ∀ b, ob = some b → v.ownBlock ≠ some b) :
    E.Own t w' B v l ∧ ∀ b, ob' = some b → v.ownBlock ≠ some b := by
  have hlt := h.lt
  obtain ⟨row, hg, hr, hb⟩ := ht
  refine ⟨h.grown hg ?_, fun b e e2 => ?_⟩
  · by_cases hn : v.ownBlock = none
    · exact .inl hn
    · refine .inr fun e => ?_
      cases row with
      | none => exact hn e
      | some j =>
        rcases hr j rfl with rfl | h3
        · exact h1 e
        · exact h2 j h3 e
  · rcases hb b e with h3 | h3
    · exact h2 b h3 e2
    · have := (hlt b e2).2; omega
theorem below_turned {w0 w w' : World} {g : Nat} {ob ob' : Option Nat} (h : Below w0.heap.size w0 w) (ht : Turned w w' g ob ob') (hg : w0.heap.size ≤ g) (ho : ∀ b, ob = some b → w0.heap.size ≤ b) :
    Below w0.heap.size w0 w' ∧ ∀ b, ob' = some b → w0.heap.size ≤ b := by
  obtain ⟨row, hgr, hr, hb⟩ := ht
  refine ⟨h.grown hgr h.size (fun j e => ?_), fun b e => ?_⟩
  · rcases hr j e with rfl | h3
    · exact hg
    · exact ho j h3
  · rcases hb b e with h3 | h3
    · exact ho b h3
    · exact Nat.le_trans h.size h3
end Go.Proofs.Ytopkjniegncokaa
