/- Expressions in plain words: what a term says, what terms one behind the other say. -/
import Derived.Test.YtmdpgekbiohfbabDoorSymN
import Derived.Test.YtmdpgekbiohfbabDoorDigRead
namespace Go.Proofs.YtmdpgekbiohfbabDoor
open Go.ChangeShapes Go.WideShapes Go.ChangeAt Go.RowKit
set_option linter.unusedVariables false

/-- Every element is a byte's number. -/
def BytL (l : List Int) : Prop := ∀ x ∈ l, 0 ≤ x ∧ x < 256
theorem BytL.drop {l : List Int} (h : BytL l) (k : Nat) : BytL (l.drop k) := fun x hx => h x (List.mem_of_mem_drop hx)
theorem BytL.take {l : List Int} (h : BytL l) (k : Nat) : BytL (l.take k) := fun x hx => h x (List.mem_of_mem_take hx)
theorem BytL.at_ {l : List Int} (h : BytL l) (k : Nat) : 0 ≤ iat l k ∧ iat l k < 256 := by
  by_cases hk : k < l.length
  · rw [iat_eq _ _ hk]; exact h _ (List.getElem_mem hk)
  · simp [iat, List.getD_eq_getElem?_getD, List.getElem?_eq_none (show l.length ≤ k by omega)]
theorem BytL.nums (s : ByteArray) : BytL (nums s) := nums_range s
theorem BytL.str {l : List Int} (h : BytL l) : Go.Proofs.YtmdpgekbiohfbabDoor.nums (strOfNums l) = l := str_nums l h
theorem iat_drop (l : List Int) (k j : Nat) : iat (l.drop k) j = iat l (k + j) := by simp [iat, List.getD_eq_getElem?_getD, List.getElem?_drop]
theorem iat_take (l : List Int) (k j : Nat) (h : j < k) : iat (l.take k) j = iat l j := by simp [iat, List.getD_eq_getElem?_getD, h]

/-- How many at the front are such. -/
def run (f : Int → Bool) (l : List Int) : Nat := (l.takeWhile f).length
theorem run_le (f : Int → Bool) (l : List Int) : run f l ≤ l.length := by
  unfold run
  exact (List.takeWhile_prefix f).length_le
theorem takeWhile_all (f : Int → Bool) (l : List Int) : (l.takeWhile f).all f = true := by
  induction l with
  | nil => rfl
  | cons c l ih =>
    by_cases h : f c = true
    · rw [List.takeWhile_cons, if_pos h, List.all_cons, h, ih]; rfl
    · rw [List.takeWhile_cons, if_neg h]; rfl
theorem run_at (f : Int → Bool) (l : List Int) (k : Nat) (h : k < run f l) : f (iat l k) = true := by
  unfold run at h
  have hk : (l.takeWhile f)[k] ∈ l.takeWhile f := List.getElem_mem h
  have h2 := List.all_eq_true.1 (takeWhile_all f l) _ hk
  have hp : l.takeWhile f <+: l := List.takeWhile_prefix f
  have hl : k < l.length := Nat.lt_of_lt_of_le h hp.length_le
  rw [iat_eq _ _ hl]
  rw [List.IsPrefix.getElem hp h] at h2
  exact h2
theorem run_stop (f : Int → Bool) (l : List Int) (h : run f l < l.length) : f (iat l (run f l)) = false := by
  unfold run at h ⊢
  induction l with
  | nil => simp at h
  | cons c l ih =>
    by_cases hc : f c = true
    · simp only [List.takeWhile_cons, hc, if_true, List.length_cons] at h ⊢
      have := ih (by omega)
      simpa [iat, List.getD_eq_getElem?_getD] using this
    · simp only [List.takeWhile_cons, hc]
      simpa [iat, List.getD_eq_getElem?_getD] using hc
theorem run_take (f : Int → Bool) (l : List Int) : l.take (run f l) = l.takeWhile f := (List.prefix_iff_eq_take.1 (List.takeWhile_prefix f)).symm
/-- The first k are such, and the one behind is not, or there is none: then k is the number. -/
theorem run_is (f : Int → Bool) (l : List Int) (k : Nat) (hk : k ≤ l.length) (h : ∀ j, j < k → f (iat l j) = true) (hs : k < l.length → f (iat l k) = false) : run f l = k := by
  rcases Nat.lt_trichotomy (run f l) k with h1 | h1 | h1
  · have := run_stop f l (by omega)
    rw [h _ h1] at this; cases this
  · exact h1
  · have := run_at f l k h1
    have h3 := run_le f l
    rw [hs (by omega)] at this; cases this

/-- The number of digits, 65536 once it is above 65535. -/
def satV (b : Int) (l : List Int) : Int := l.foldl (fun n c => min (b * n + valOf c) 65536) 0
theorem satV_take (b : Int) (l : List Int) (k : Nat) (h : k < l.length) : satV b (l.take (k + 1)) = min (b * satV b (l.take k) + valOf (iat l k)) 65536 := by
  unfold satV
  rw [List.take_succ_eq_append_getElem h, List.foldl_append, iat_eq _ _ h]; rfl
theorem satV_stay (b : Int) (hb : 1 ≤ b) (l : List Int) (n : Int) (h : n = 65536) : l.foldl (fun n c => min (b * n + valOf c) 65536) n = 65536 := by
  subst h
  induction l with
  | nil => rfl
  | cons c l ih =>
    have hv := (valOf_range c).1
    have : min (b * 65536 + valOf c) 65536 = 65536 := by omega
    rw [List.foldl_cons, this, ih]
theorem satV_over (b : Int) (hb : 1 ≤ b) (l : List Int) (k : Nat) (h : satV b (l.take k) = 65536) : satV b l = 65536 := by
  have e : satV b l = (l.drop k).foldl (fun n c => min (b * n + valOf c) 65536) (satV b (l.take k)) := by
    unfold satV
    rw [← List.foldl_append, List.take_append_drop]
  rw [e, h]
  exact satV_stay b hb _ _ rfl
theorem satV_range (b : Int) (hb : 1 ≤ b) (l : List Int) : 0 ≤ satV b l ∧ satV b l ≤ 65536 := by
  unfold satV
  suffices ∀ (l : List Int) (n : Int), 0 ≤ n ∧ n ≤ 65536 → 0 ≤ l.foldl (fun n c => min (b * n + valOf c) 65536) n ∧ l.foldl (fun n c => min (b * n + valOf c) 65536) n ≤ 65536 from this l 0 (by omega)
  intro l
  induction l with
  | nil => intro n h; exact h
  | cons c l ih =>
    intro n h
    have hv := (valOf_range c).1
    have h2 : 0 ≤ b * n := Int.mul_nonneg (by omega) h.1
    rw [List.foldl_cons]
    exact ih _ (by omega)

/-- What a term says: its value, an error (else 0), how many bytes it has; does it ask for the address, for a name? -/
structure TR where
  v : Int
  e : Int
  k : Nat
  st : Bool
  nm : Bool
def numT (b : Int) (from_ : Nat) (l : List Int) : TR :=
  if run (good b) l = 0 then ⟨0, 21, 0, false, false⟩
  else if 65535 < satV b (l.take (run (good b) l)) then ⟨0, 50, 0, false, false⟩
  else ⟨satV b (l.take (run (good b) l)), 0, from_ + run (good b) l, false, false⟩
def termL (at_ : Int) (look : List Int → Option Int) (l : List Int) : TR :=
  if l.length = 0 then ⟨0, 21, 0, false, false⟩
  else if iat l 0 = 42 then ⟨at_, 0, 1, true, false⟩
  else if iat l 0 = 39 then (if l.length = 1 then ⟨0, 21, 0, false, false⟩ else ⟨iat l 1, 0, 2, false, false⟩)
  else if letC (iat l 0) then (match look (l.take (run worC l)) with | some v => ⟨v, 0, run worC l, false, true⟩ | none => ⟨0, 40, 0, false, true⟩)
  else if iat l 0 = 36 then numT 16 1 (l.drop 1)
  else if iat l 0 = 37 then numT 2 1 (l.drop 1)
  else numT 10 0 l
theorem numT_k (b : Int) (f : Nat) (l : List Int) (h : (numT b f l).e = 0) : f < (numT b f l).k ∧ (numT b f l).k ≤ f + l.length := by
  have := run_le (good b) l
  unfold numT at h ⊢
  split at h
  · simp at h
  · split at h
    · simp at h
    · rw [if_neg (by assumption), if_neg (by assumption)]
      simp; omega
theorem termL_k (a : Int) (lk : List Int → Option Int) (l : List Int) (h : (termL a lk l).e = 0) : 0 < (termL a lk l).k ∧ (termL a lk l).k ≤ l.length := by
  unfold termL at h ⊢
  by_cases h0 : l.length = 0
  · rw [if_pos h0] at h; simp at h
  rw [if_neg h0] at h ⊢
  by_cases h1 : iat l 0 = 42
  · rw [if_pos h1]; simp; omega
  rw [if_neg h1] at h ⊢
  by_cases h2 : iat l 0 = 39
  · rw [if_pos h2] at h ⊢
    by_cases h3 : l.length = 1
    · rw [if_pos h3] at h; simp at h
    · rw [if_neg h3]; simp; omega
  rw [if_neg h2] at h ⊢
  by_cases h4 : letC (iat l 0) = true
  · rw [if_pos h4] at h ⊢
    have hw : 0 < run worC l := by
      rcases Nat.eq_zero_or_pos (run worC l) with hz | hz
      · have := run_stop worC l (by omega)
        rw [hz] at this
        simp [worC, h4] at this
      · exact hz
    have := run_le worC l
    split at h
    · simp; omega
    · simp at h
  rw [if_neg h4] at h ⊢
  by_cases h5 : iat l 0 = 36
  · rw [if_pos h5] at h ⊢
    have := numT_k 16 1 _ h
    rw [List.length_drop] at this; omega
  rw [if_neg h5] at h ⊢
  by_cases h6 : iat l 0 = 37
  · rw [if_pos h6] at h ⊢
    have := numT_k 2 1 _ h
    rw [List.length_drop] at this; omega
  rw [if_neg h6] at h ⊢
  have := numT_k 10 0 _ h
  omega
theorem numT_v (b : Int) (hb : 1 ≤ b) (f : Nat) (l : List Int) : 0 ≤ (numT b f l).v ∧ (numT b f l).v < 65536 := by
  have := satV_range b hb (l.take (run (good b) l))
  unfold numT
  split
  · simp
  · split
    · simp
    · simp; omega
theorem numT_nm (b : Int) (f : Nat) (l : List Int) : (numT b f l).st = false ∧ (numT b f l).nm = false := by
  unfold numT
  split
  · simp
  · split <;> simp
theorem termL_v (a : Int) (ha : 0 ≤ a ∧ a < 65536) (lk : List Int → Option Int) (hk : ∀ n v, lk n = some v → 0 ≤ v ∧ v < 65536) (l : List Int) (hl : BytL l) : 0 ≤ (termL a lk l).v ∧ (termL a lk l).v < 65536 := by
  have hb := hl.at_ 1
  unfold termL
  split
  · simp
  split
  · exact ha
  split
  · split
    · simp
    · simp; omega
  split
  · split
    · exact hk _ _ (by assumption)
    · simp
  split
  · exact numT_v 16 (by omega) _ _
  split
  · exact numT_v 2 (by omega) _ _
  · exact numT_v 10 (by omega) _ _
/-- Terms one behind the other: the value, an error (else 0); was the address asked for, a name? -/
def evalF (at_ : Int) (look : List Int → Option Int) : Nat → Bool → Int → Bool → Bool → List Int → Int × Int × Bool × Bool
  | 0, _, _, st, nm, _ => (0, 21, st, nm)
  | f + 1, neg, t, st, nm, l =>
    if (termL at_ look l).e ≠ 0 then (0, (termL at_ look l).e, st || (termL at_ look l).st, nm || (termL at_ look l).nm)
    else if (l.drop (termL at_ look l).k).length = 0 then ((if neg then t - (termL at_ look l).v else t + (termL at_ look l).v) % 65536, 0, st || (termL at_ look l).st, nm || (termL at_ look l).nm)
    else if iat l (termL at_ look l).k = 43 then evalF at_ look f false ((if neg then t - (termL at_ look l).v else t + (termL at_ look l).v) % 65536) (st || (termL at_ look l).st) (nm || (termL at_ look l).nm) (l.drop ((termL at_ look l).k + 1))
    else if iat l (termL at_ look l).k = 45 then evalF at_ look f true ((if neg then t - (termL at_ look l).v else t + (termL at_ look l).v) % 65536) (st || (termL at_ look l).st) (nm || (termL at_ look l).nm) (l.drop ((termL at_ look l).k + 1))
    else (0, 21, st || (termL at_ look l).st, nm || (termL at_ look l).nm)
def evalE (at_ : Int) (look : List Int → Option Int) (l : List Int) : Int × Int × Bool × Bool :=
  if l.length = 0 then (0, 21, false, false)
  else if iat l 0 = 43 then evalF at_ look (l.length + 1) false 0 false false (l.drop 1)
  else if iat l 0 = 45 then evalF at_ look (l.length + 1) true 0 false false (l.drop 1)
  else evalF at_ look (l.length + 1) false 0 false false l
theorem evalF_none (a : Int) : ∀ (f : Nat) (neg : Bool) (t : Int) (st nm : Bool) (l : List Int), (evalF a (fun _ => none) f neg t st nm l).2.1 = 0 → (evalF a (fun _ => none) f neg t st nm l).2.2.2 = nm
  | 0, _, _, _, _, _, h => by simp [evalF] at h
  | f + 1, neg, t, st, nm, l, h => by
    have key : (termL a (fun _ => none) l).e = 0 → (termL a (fun _ => none) l).nm = false := by
      intro he
      unfold termL at he ⊢
      repeat' split
      all_goals first | rfl | exact (numT_nm _ _ _).2 | skip
      all_goals simp_all
    unfold evalF at h ⊢
    by_cases h1 : (termL a (fun _ => none) l).e ≠ 0
    · rw [if_pos h1] at h; simp at h; exact absurd h h1
    · rw [if_neg h1] at h ⊢
      have h1' : (termL a (fun _ => none) l).e = 0 := by simpa using h1
      have hn := key h1'
      split
      · simp [hn]
      · rename_i h2
        rw [if_neg h2] at h
        split
        · rename_i h3
          rw [if_pos h3] at h
          rw [evalF_none a f _ _ _ _ _ h]; simp [hn]
        · rename_i h3
          rw [if_neg h3] at h
          split
          · rename_i h4
            rw [if_pos h4] at h
            rw [evalF_none a f _ _ _ _ _ h]; simp [hn]
          · rename_i h4
            rw [if_neg h4] at h; simp at h
theorem evalE_none (a : Int) (l : List Int) (h : (evalE a (fun _ => none) l).2.1 = 0) : (evalE a (fun _ => none) l).2.2.2 = false := by
  unfold evalE at h ⊢
  split at h
  · simp at h
  split at h
  · rename_i h0 h1; rw [if_neg h0, if_pos h1]; exact evalF_none a _ _ _ _ _ _ h
  split at h
  · rename_i h0 h1 h2; rw [if_neg h0, if_neg h1, if_pos h2]; exact evalF_none a _ _ _ _ _ _ h
  · rename_i h0 h1 h2; rw [if_neg h0, if_neg h1, if_neg h2]; exact evalF_none a _ _ _ _ _ _ h
end Go.Proofs.YtmdpgekbiohfbabDoor
