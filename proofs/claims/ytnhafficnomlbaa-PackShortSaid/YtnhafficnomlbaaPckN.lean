/- Plain laws of layer 38: packed bytes. -/
import Derived.Test.YtnhafficnomlbaaMem
namespace Go.Proofs.Ytnhafficnomlbaa
set_option linter.unusedVariables false
/-- From n on, as long as p, and below m. -/
def scanF (p : Nat → Bool) (m : Nat) : Nat → Nat → Nat
  | 0, n => n
  | f + 1, n => if n < m ∧ p n = true then scanF p m f (n + 1) else n
def scan (p : Nat → Bool) (m n : Nat) : Nat := scanF p m (m - n) n
theorem scan_stop (p : Nat → Bool) (m n : Nat) (h : ¬ (n < m ∧ p n = true)) : scan p m n = n := by
  unfold scan
  cases e : m - n with
  | zero => rfl
  | succ f => show (if _ then _ else _) = _; rw [if_neg h]
theorem scan_go (p : Nat → Bool) (m n : Nat) (h : n < m) (hp : p n = true) : scan p m n = scan p m (n + 1) := by
  unfold scan
  rw [show m - n = (m - (n + 1)) + 1 by omega]
  show (if _ then _ else _) = _
  rw [if_pos ⟨h, hp⟩]
theorem scan_spec (p : Nat → Bool) (m : Nat) : ∀ (d n : Nat), m - n = d → n ≤ scan p m n ∧ scan p m n ≤ max n m ∧ (∀ i, n ≤ i → i < scan p m n → p i = true) ∧ (scan p m n < m → p (scan p m n) = false)
  | d, n, hd => by
    by_cases h : n < m ∧ p n = true
    · rw [scan_go p m n h.1 h.2]
      obtain ⟨a, b, c, e⟩ := scan_spec p m (m - (n + 1)) (n + 1) rfl
      refine ⟨by omega, by omega, fun i hi hl => ?_, e⟩
      rcases Nat.eq_or_lt_of_le hi with rfl | h2
      · exact h.2
      · exact c i h2 hl
    · rw [scan_stop p m n h]
      refine ⟨Nat.le_refl _, by omega, fun i h1 h2 => by omega, fun h1 => ?_⟩
      cases hp : p n
      · rfl
      · exact absurd ⟨h1, hp⟩ h
termination_by d => d
decreasing_by omega
theorem scan_same (p : Nat → Bool) (m n k : Nat) (hk : n ≤ k) (hm : k ≤ m) (h : ∀ i, n ≤ i → i < k → p i = true) : scan p m n = scan p m k := by
  induction k with
  | zero => obtain rfl : n = 0 := by omega
            rfl
  | succ k ih =>
    rcases Nat.eq_or_lt_of_le hk with rfl | h2
    · rfl
    · rw [ih (by omega) (by omega) (fun i a b => h i a (by omega)), scan_go p m k (by omega) (h k (by omega) (by omega))]
/-- How many at the front are alike, at most 128. -/
def aN (l : List Int) : Nat := scan (fun k => iat l k == iat l 0) (min l.length 128) 1
def three (l : List Int) : Bool := decide (2 < l.length) && (iat l 0 == iat l 1 && iat l 0 == iat l 2)
def uN (l : List Int) : Nat := scan (fun k => !three (l.drop k)) (min l.length 127) 1
theorem iat_drop (l : List Int) (a k : Nat) : iat (l.drop a) k = iat l (a + k) := by
  unfold iat; rw [List.getD_eq_getElem?_getD, List.getD_eq_getElem?_getD, List.getElem?_drop]
theorem aN_range (l : List Int) (h : 0 < l.length) : 1 ≤ aN l ∧ aN l ≤ l.length ∧ aN l ≤ 128 := by
  have := scan_spec (fun k => iat l k == iat l 0) (min l.length 128) _ 1 rfl
  unfold aN; omega
theorem uN_range (l : List Int) (h : 0 < l.length) : 1 ≤ uN l ∧ uN l ≤ l.length ∧ uN l ≤ 127 := by
  have := scan_spec (fun k => !three (l.drop k)) (min l.length 127) _ 1 rfl
  unfold uN; omega
theorem aN_alike (l : List Int) (i : Nat) (h : i < aN l) : iat l i = iat l 0 := by
  have := (scan_spec (fun k => iat l k == iat l 0) (min l.length 128) _ 1 rfl).2.2.1
  cases i with
  | zero => rfl
  | succ i => exact eq_of_beq (this (i + 1) (by omega) h)
theorem three_iff (l : List Int) (h : 0 < l.length) : decide (3 ≤ aN l) = three l := by
  unfold three
  have hs := scan_spec (fun k => iat l k == iat l 0) (min l.length 128) _ 1 rfl
  have ha : aN l = scan (fun k => iat l k == iat l 0) (min l.length 128) 1 := rfl
  rw [← ha] at hs
  obtain ⟨h1, h2, h3, h4⟩ := hs
  rw [Bool.eq_iff_iff]
  simp only [decide_eq_true_eq, Bool.and_eq_true, beq_iff_eq]
  constructor
  · intro h5
    exact ⟨by omega, (aN_alike l 1 (by omega)).symm, (aN_alike l 2 (by omega)).symm⟩
  · rintro ⟨h5, h6, h7⟩
    rcases Nat.lt_or_ge (aN l) 3 with h8 | h8
    · exfalso
      have h9 := h4 (by omega)
      rcases (show aN l = 1 ∨ aN l = 2 by omega) with e | e <;> rw [e] at h9 <;> simp [← h6, ← h7] at h9
    · exact h8
def packF : Nat → List Int → List Int
  | 0, _ => []
  | f + 1, l => if l.length = 0 then [] else if three l then (256 - (aN l : Int)) :: iat l 0 :: packF f (l.drop (aN l)) else (uN l : Int) :: (l.take (uN l) ++ packF f (l.drop (uN l)))
theorem packF_fuel : ∀ (f g : Nat) (l : List Int), l.length ≤ f → l.length ≤ g → packF f l = packF g l
  | 0, 0, l, _, _ => rfl
  | 0, g + 1, l, h, _ => by show [] = (if _ then _ else _); rw [if_pos (by omega)]
  | f + 1, 0, l, _, h => by show (if _ then _ else _) = []; rw [if_pos (by omega)]
  | f + 1, g + 1, l, h1, h2 => by
    show (if _ then _ else _) = (if _ then _ else _)
    by_cases h0 : l.length = 0
    · rw [if_pos h0, if_pos h0]
    · have ha := aN_range l (by omega)
      have hu := uN_range l (by omega)
      rw [if_neg h0, if_neg h0, packF_fuel f g (l.drop (aN l)) (by rw [List.length_drop]; omega) (by rw [List.length_drop]; omega), packF_fuel f g (l.drop (uN l)) (by rw [List.length_drop]; omega) (by rw [List.length_drop]; omega)]
def packL (l : List Int) : List Int := packF l.length l
theorem packL_nil (l : List Int) (h : l.length = 0) : packL l = [] := by unfold packL; rw [h]; rfl
theorem packL_run (l : List Int) (h : 0 < l.length) (ht : three l = true) : packL l = (256 - (aN l : Int)) :: iat l 0 :: packL (l.drop (aN l)) := by
  have ha := aN_range l h
  unfold packL
  obtain ⟨n, hn⟩ : ∃ n, l.length = n + 1 := ⟨l.length - 1, by omega⟩
  rw [hn]
  show (if _ then _ else _) = _
  rw [if_neg (by omega), if_pos ht, packF_fuel n _ (l.drop (aN l)) (by rw [List.length_drop]; omega) (Nat.le_refl _)]
theorem packL_lit (l : List Int) (h : 0 < l.length) (ht : three l = false) : packL l = (uN l : Int) :: (l.take (uN l) ++ packL (l.drop (uN l))) := by
  have ha := uN_range l h
  unfold packL
  obtain ⟨n, hn⟩ : ∃ n, l.length = n + 1 := ⟨l.length - 1, by omega⟩
  rw [hn]
  show (if _ then _ else _) = _
  rw [if_neg (by omega), if_neg (by simp [ht]), packF_fuel n _ (l.drop (uN l)) (by rw [List.length_drop]; omega) (Nat.le_refl _)]
/-- How long it is. -/
theorem pack_long : ∀ (f : Nat) (l : List Int), l.length ≤ f → (packL l).length ≤ l.length + (l.length + 126) / 127
  | f, l, hf => by
    by_cases h0 : l.length = 0
    · rw [packL_nil l h0]; simp
    · have h : 0 < l.length := by omega
      cases ht : three l
      · rw [packL_lit l h ht]
        have hu := uN_range l h
        have hs := (scan_spec (fun k => !three (l.drop k)) (min l.length 127) _ 1 rfl).2.2.2
        rw [show scan (fun k => !three (l.drop k)) (min l.length 127) 1 = uN l from rfl] at hs
        rw [List.length_cons, List.length_append, List.length_take]
        by_cases hm : uN l < min l.length 127
        · have h3 : three (l.drop (uN l)) = true := by have := hs hm; simpa using this
          have hl : (l.drop (uN l)).length = l.length - uN l := List.length_drop
          rw [packL_run _ (by omega) h3]
          have ha := aN_range (l.drop (uN l)) (by omega)
          have h4 : 3 ≤ aN (l.drop (uN l)) := by have := three_iff (l.drop (uN l)) (by omega); rw [h3] at this; simpa using this
          have ih := pack_long (f - 1) ((l.drop (uN l)).drop (aN (l.drop (uN l)))) (by rw [List.length_drop]; omega)
          rw [List.length_drop, hl] at ih
          rw [List.length_cons, List.length_cons]
          omega
        · have ih := pack_long (f - 1) (l.drop (uN l)) (by rw [List.length_drop]; omega)
          rw [List.length_drop] at ih
          omega
      · rw [packL_run l h ht]
        have ha := aN_range l h
        have h4 : 3 ≤ aN l := by have := three_iff l h; rw [ht] at this; simpa using this
        have ih := pack_long (f - 1) (l.drop (aN l)) (by rw [List.length_drop]; omega)
        rw [List.length_drop] at ih
        rw [List.length_cons, List.length_cons]
        omega
termination_by f => f
decreasing_by all_goals omega
theorem iat_rep (n : Nat) (c : Int) (k : Nat) (h : k < n) : iat (List.replicate n c) k = c := by
  rw [iat_eq _ _ (by simpa using h)]; simp
theorem three_rep (n : Nat) (c : Int) : three (List.replicate n c) = decide (3 ≤ n) := by
  unfold three
  rw [List.length_replicate]
  by_cases h : 3 ≤ n
  · rw [iat_rep _ _ _ (by omega), iat_rep _ _ _ (by omega), iat_rep _ _ _ (by omega)]; simp; omega
  · rw [show decide (2 < n) = false by simp; omega, show decide (3 ≤ n) = false by simp; omega]; rfl
theorem aN_rep (n : Nat) (c : Int) (h : 0 < n) : aN (List.replicate n c) = min n 128 := by
  have hs := scan_spec (fun k => iat (List.replicate n c) k == iat (List.replicate n c) 0) (min (List.replicate n c).length 128) _ 1 rfl
  rw [show scan (fun k => iat (List.replicate n c) k == iat (List.replicate n c) 0) (min (List.replicate n c).length 128) 1 = aN (List.replicate n c) from rfl, List.length_replicate] at hs
  obtain ⟨h1, h2, h3, h4⟩ := hs
  rcases Nat.lt_or_ge (aN (List.replicate n c)) (min n 128) with h5 | h5
  · exfalso
    have := h4 h5
    rw [iat_rep _ _ _ (by omega), iat_rep _ _ _ (by omega)] at this
    simp at this
  · omega
theorem uN_rep (n : Nat) (c : Int) (h : 0 < n) (h2 : n < 3) : uN (List.replicate n c) = n := by
  have hs := scan_spec (fun k => !three ((List.replicate n c).drop k)) (min (List.replicate n c).length 127) _ 1 rfl
  rw [show scan (fun k => !three ((List.replicate n c).drop k)) (min (List.replicate n c).length 127) 1 = uN (List.replicate n c) from rfl, List.length_replicate] at hs
  obtain ⟨h1, h3, h4, h5⟩ := hs
  rcases Nat.lt_or_ge (uN (List.replicate n c)) (min n 127) with h6 | h6
  · exfalso
    have := h5 h6
    rw [List.drop_replicate, three_rep] at this
    simp at this
    omega
  · omega
theorem pack_rep : ∀ (f n : Nat) (c : Int), n ≤ f → (packL (List.replicate n c)).length = 2 * (n / 128) + (if n % 128 = 0 then 0 else if n % 128 = 2 then 3 else 2)
  | f, n, c, hf => by
    by_cases h0 : n = 0
    · subst h0; rfl
    · have hl : 0 < (List.replicate n c).length := by simp; omega
      by_cases h3 : 3 ≤ n
      · rw [packL_run _ hl (by rw [three_rep]; simpa using h3), aN_rep n c (by omega), List.drop_replicate, List.length_cons, List.length_cons, pack_rep (f - 1) (n - min n 128) c (by omega)]
        by_cases h4 : n ≤ 128
        · rw [show n - min n 128 = 0 by omega]
          simp
          split
          · omega
          · split <;> omega
        · rw [show min n 128 = 128 by omega, show (n - 128) % 128 = n % 128 by omega]
          split
          · omega
          · split <;> omega
      · rw [packL_lit _ hl (by rw [three_rep]; simpa using h3), uN_rep n c (by omega) (by omega), List.drop_replicate, Nat.sub_self, List.length_cons, List.length_append, List.length_take, packL_nil _ rfl]
        rcases (show n = 1 ∨ n = 2 by omega) with rfl | rfl <;> simp
termination_by f => f
decreasing_by omega
/-- The first piece: the bytes for which it stands, and how many it has. -/
def pcS (l : List Int) : Nat := if 128 ≤ iat l 0 then (if 1 < l.length then 2 else 0) else if 0 < iat l 0 ∧ iat l 0 < l.length then 1 + (iat l 0).toNat else 0
def pcB (l : List Int) : List Int := if 128 ≤ iat l 0 then (if 1 < l.length then List.replicate (256 - iat l 0).toNat (iat l 1) else []) else if 0 < iat l 0 ∧ iat l 0 < l.length then (l.drop 1).take (iat l 0).toNat else []
def unpF (most : Int) : Nat → List Int → List Int → List Int × Int
  | 0, out, _ => (out, 0)
  | f + 1, out, l => if l.length = 0 then (out, 0) else if pcS l = 0 then ([], 21) else if most < out.length + (pcB l).length then ([], 12) else unpF most f (out ++ pcB l) (l.drop (pcS l))
theorem unpF_fuel (most : Int) : ∀ (f g : Nat) (out l : List Int), l.length ≤ f → l.length ≤ g → unpF most f out l = unpF most g out l
  | 0, 0, out, l, _, _ => rfl
  | 0, g + 1, out, l, h, _ => by show _ = (if _ then _ else _); rw [if_pos (by omega)]; rfl
  | f + 1, 0, out, l, _, h => by show (if _ then _ else _) = _; rw [if_pos (by omega)]; rfl
  | f + 1, g + 1, out, l, h1, h2 => by
    show (if _ then _ else _) = (if _ then _ else _)
    by_cases h0 : l.length = 0
    · rw [if_pos h0, if_pos h0]
    · rw [if_neg h0, if_neg h0]
      by_cases hs : pcS l = 0
      · rw [if_pos hs, if_pos hs]
      · rw [if_neg hs, if_neg hs, unpF_fuel most f g _ (l.drop (pcS l)) (by rw [List.length_drop]; omega) (by rw [List.length_drop]; omega)]
def unpR (most : Int) (out l : List Int) : List Int × Int := unpF most l.length out l
theorem unpR_nil (most : Int) (out l : List Int) (h : l.length = 0) : unpR most out l = (out, 0) := by unfold unpR; rw [h]; rfl
theorem unpR_step (most : Int) (out l : List Int) (h : 0 < l.length) : unpR most out l = if pcS l = 0 then ([], 21) else if most < out.length + (pcB l).length then ([], 12) else unpR most (out ++ pcB l) (l.drop (pcS l)) := by
  unfold unpR
  obtain ⟨n, hn⟩ : ∃ n, l.length = n + 1 := ⟨l.length - 1, by omega⟩
  rw [hn]
  show (if _ then _ else _) = _
  rw [if_neg (by omega)]
  by_cases hs : pcS l = 0
  · rw [if_pos hs, if_pos hs]
  · rw [if_neg hs, if_neg hs, unpF_fuel most n _ _ (l.drop (pcS l)) (by rw [List.length_drop]; omega) (Nat.le_refl _)]
def unpL (most : Int) (b : List Int) : List Int × Int :=
  if (unpR most [] b).2 = 0 then (if packL (unpR most [] b).1 == b then ((unpR most [] b).1, 0) else ([], 21)) else ([], (unpR most [] b).2)
theorem ext_iat (xs ys : List Int) (hl : xs.length = ys.length) (h : ∀ i, i < xs.length → iat xs i = iat ys i) : xs = ys := by
  apply List.ext_getElem hl
  intro i h1 h2
  rw [← iat_eq xs i h1, ← iat_eq ys i h2]
  exact h i h1
/-- What is packed is read as it was. -/
theorem unp_pack (most : Int) : ∀ (f : Nat) (l out : List Int), l.length ≤ f → (∀ x ∈ l, 0 ≤ x ∧ x < 256) → (out.length : Int) + l.length ≤ most → unpR most out (packL l) = (out ++ l, 0)
  | f, l, out, hf, hr, hm => by
    by_cases h0 : l.length = 0
    · rw [packL_nil l h0, unpR_nil _ _ _ rfl, List.eq_nil_of_length_eq_zero h0, List.append_nil]
    · have h : 0 < l.length := by omega
      cases ht : three l
      · have hu := uN_range l h
        rw [packL_lit l h ht]
        generalize hk : uN l = k at *
        have hT : (l.take k).length = k := by rw [List.length_take]; omega
        have e0 : iat ((k : Int) :: (l.take k ++ packL (l.drop k))) 0 = k := rfl
        have eS : pcS ((k : Int) :: (l.take k ++ packL (l.drop k))) = 1 + k := by
          unfold pcS
          rw [e0, if_neg (by omega), if_pos ⟨by omega, by rw [List.length_cons, List.length_append, hT]; omega⟩]; rfl
        have eB : pcB ((k : Int) :: (l.take k ++ packL (l.drop k))) = l.take k := by
          unfold pcB
          rw [e0, if_neg (by omega), if_pos ⟨by omega, by rw [List.length_cons, List.length_append, hT]; omega⟩]
          show List.take (k : Int).toNat (l.take k ++ packL (l.drop k)) = _
          rw [Int.toNat_natCast, List.take_append_of_le_length (by omega), List.take_of_length_le (by omega)]
        have eD : ((k : Int) :: (l.take k ++ packL (l.drop k))).drop (1 + k) = packL (l.drop k) := by
          rw [Nat.add_comm, List.drop_succ_cons, List.drop_append, hT, Nat.sub_self, List.drop_of_length_le (by omega)]; rfl
        rw [unpR_step _ _ _ (by simp), eS, eB, eD, if_neg (by omega), if_neg (by rw [hT]; omega), unp_pack most (f - 1) (l.drop k) (out ++ l.take k) (by rw [List.length_drop]; omega) (fun x hx => hr x (List.mem_of_mem_drop hx)) (by rw [List.length_append, hT, List.length_drop]; omega), List.append_assoc, List.take_append_drop]
      · have ha := aN_range l h
        have h4 : 3 ≤ aN l := by have := three_iff l h; rw [ht] at this; simpa using this
        have hal := aN_alike l
        rw [packL_run l h ht]
        generalize hk : aN l = k at *
        have hT : (l.take k).length = k := by rw [List.length_take]; omega
        have eR : List.replicate k (iat l 0) = l.take k := ext_iat _ _ (by rw [hT]; simp) (fun i hi => by
          rw [List.length_replicate] at hi
          rw [iat_rep _ _ _ hi, ← hal i hi]
          unfold iat
          rw [List.getD_eq_getElem?_getD, List.getD_eq_getElem?_getD, List.getElem?_take_of_lt hi])
        have e0 : iat ((256 - (k : Int)) :: iat l 0 :: packL (l.drop k)) 0 = 256 - (k : Int) := rfl
        have eS : pcS ((256 - (k : Int)) :: iat l 0 :: packL (l.drop k)) = 2 := by
          unfold pcS
          rw [e0, if_pos (by omega), if_pos (by simp)]
        have eB : pcB ((256 - (k : Int)) :: iat l 0 :: packL (l.drop k)) = l.take k := by
          unfold pcB
          rw [e0, if_pos (by omega), if_pos (by simp), ← eR]
          show List.replicate (256 - (256 - (k : Int))).toNat (iat l 0) = _
          rw [show (256 - (256 - (k : Int))).toNat = k by omega]
        rw [unpR_step _ _ _ (by simp), eS, eB, if_neg (by omega), if_neg (by rw [hT]; omega)]
        show unpR most (out ++ l.take k) (packL (l.drop k)) = _
        rw [unp_pack most (f - 1) (l.drop k) (out ++ l.take k) (by rw [List.length_drop]; omega) (fun x hx => hr x (List.mem_of_mem_drop hx)) (by rw [List.length_append, hT, List.length_drop]; omega), List.append_assoc, List.take_append_drop]
termination_by f => f
decreasing_by all_goals omega
theorem unpL_pack (l : List Int) (hr : ∀ x ∈ l, 0 ≤ x ∧ x < 256) : unpL l.length (packL l) = (l, 0) := by
  have := unp_pack l.length l.length l [] (Nat.le_refl _) hr (by simp)
  unfold unpL
  rw [this]
  simp
end Go.Proofs.Ytnhafficnomlbaa
