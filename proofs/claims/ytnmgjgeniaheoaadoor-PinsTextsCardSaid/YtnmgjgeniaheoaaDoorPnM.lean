/- Pins as words, plainly: the word of pins, the pins of a word, how often, the pins of a text's cycles. -/
import Derived.Test.YtnmgjgeniaheoaaDoorPnE
import Derived.Test.YtnmgjgeniaheoaaDoorDigRead
import Derived.Lib.Bytealg
namespace Go.Proofs.YtnmgjgeniaheoaaDoor
open Go.ChangeShapes Go.WideShapes Go.ChangeAt Go.RowKit
set_option linter.unusedVariables false

def pnAt (x : Pn) (k : Nat) : Bool := match k with | 0 => x.p0 | 1 => x.p1 | 2 => x.p2 | 3 => x.p3 | 4 => x.p4 | _ => x.p5
def ltr (k : Nat) : Int := match k with | 0 => 82 | 1 => 78 | 2 => 70 | 3 => 73 | 4 => 72 | _ => 81
def pnL (x : Pn) : Nat → List Int
  | 0 => []
  | k + 1 => if pnAt x k = true then pnL x k ++ [ltr k] else pnL x k
def pnW (x : Pn) : ByteArray := if pnL x 6 = [] then ⟨#[46]⟩ else strOfNums (pnL x 6)
def hasB (s : ByteArray) (c : UInt8) : Bool := decide (0 ≤ Lib.indexByte s.data.toList c)
def hasP (s : ByteArray) : Pn := ⟨hasB s 82, hasB s 78, hasB s 70, hasB s 73, hasB s 72, hasB s 81⟩
theorem has_word (x : Pn) : hasP (pnW x) = x := by
  obtain ⟨p0, p1, p2, p3, p4, p5⟩ := x
  cases p0 <;> cases p1 <;> cases p2 <;> cases p3 <;> cases p4 <;> cases p5 <;> decide +kernel
theorem pnW_size (x : Pn) : (pnW x).size ≤ 6 := by
  obtain ⟨p0, p1, p2, p3, p4, p5⟩ := x
  cases p0 <;> cases p1 <;> cases p2 <;> cases p3 <;> cases p4 <;> cases p5 <;> decide +kernel
theorem pnL_len (x : Pn) : ∀ k, (pnL x k).length ≤ k
  | 0 => Nat.le_refl _
  | k + 1 => by
    have := pnL_len x k
    unfold pnL
    split
    · rw [List.length_append, List.length_singleton]; omega
    · omega
theorem pnL_wf (x : Pn) : ∀ k, ∀ z ∈ pnL x k, (Lit.int .u8 z).wf = true
  | 0 => fun z h => by cases h
  | k + 1 => fun z h => by
    unfold pnL at h
    split at h
    · rcases List.mem_append.1 h with h | h
      · exact pnL_wf x k z h
      · rw [List.mem_singleton.1 h]
        unfold ltr; split <;> decide
    · exact pnL_wf x k z h
/-- The pins of a word, where it is one. -/
def oneP (s : ByteArray) : Option Pn := if pnW (hasP s) = s then some (hasP s) else none
theorem one_word (x : Pn) : oneP (pnW x) = some x := by unfold oneP; rw [has_word]; simp
theorem one_of {s : ByteArray} {x : Pn} (h : pnW x = s) : oneP s = some x := by rw [← h]; exact one_word x
theorem one_no {s : ByteArray} (h : ∀ x, pnW x ≠ s) : oneP s = none := by unfold oneP; rw [if_neg (h _)]
theorem one_yes {s : ByteArray} (h : pnW (hasP s) = s) : oneP s = some (hasP s) := by unfold oneP; rw [if_pos h]
theorem one_not {s : ByteArray} (h : pnW (hasP s) ≠ s) : oneP s = none := by unfold oneP; rw [if_neg h]
/-- All pins there are, in the document's order. -/
def pnN (n : Nat) : Pn := ⟨n % 2 == 1, n / 2 % 2 == 1, n / 4 % 2 == 1, n / 8 % 2 == 1, n / 16 % 2 == 1, n / 32 % 2 == 1⟩
theorem pnN_all (x : Pn) : ∃ n, n < 64 ∧ pnN n = x := by
  obtain ⟨p0, p1, p2, p3, p4, p5⟩ := x
  refine ⟨p0.toNat + 2 * p1.toNat + 4 * p2.toNat + 8 * p3.toNat + 16 * p4.toNat + 32 * p5.toNat, ?_⟩
  cases p0 <;> cases p1 <;> cases p2 <;> cases p3 <;> cases p4 <;> cases p5 <;> decide
theorem one_none {s : ByteArray} (h : ∀ m, m < 64 → pnW (pnN m) ≠ s) : oneP s = none := one_no fun x => by
  obtain ⟨n, hn, rfl⟩ := pnN_all x
  exact h n hn
/-- A number of digits, as far as it counts. -/
def cntV : List Int → Int → Option Int
  | [], n => some n
  | c :: cs, n => if c < 48 ∨ 57 < c then none else cntV cs (if 4097 < 10 * n + c - 48 then 4097 else 10 * n + c - 48)
def cntD (l : List Int) : Option Int := if l = [] then none else cntV l 0
def dval : List Int → Int → Int
  | [], n => n
  | c :: cs, n => dval cs (10 * n + (c - 48))
theorem dval_ge : ∀ (l : List Int) (n : Int), 0 ≤ n → (∀ c ∈ l, 48 ≤ c) → n * 10 ^ l.length ≤ dval l n
  | [], n, _, _ => by simp [dval]
  | c :: l, n, h0, h => by
    have hc := h c (by simp)
    have := dval_ge l (10 * n + (c - 48)) (by omega) (fun d hd => h d (by simp [hd]))
    rw [dval, List.length_cons, Int.pow_succ]
    have p : (0 : Int) ≤ 10 ^ l.length := Int.le_of_lt (Int.pow_pos (by decide))
    have : n * 10 * 10 ^ l.length ≤ (10 * n + (c - 48)) * 10 ^ l.length := Int.mul_le_mul_of_nonneg_right (by omega) p
    rw [Int.mul_comm (10 ^ l.length) 10, ← Int.mul_assoc]
    omega
theorem dval_mono : ∀ (l : List Int) (n m : Int), n ≤ m → dval l n ≤ dval l m
  | [], n, m, h => h
  | c :: l, n, m, h => dval_mono l _ _ (by omega)
theorem dval_le : ∀ (l : List Int) (n : Int), 0 ≤ n → (∀ c ∈ l, 48 ≤ c) → n ≤ dval l n
  | [], n, _, _ => Int.le_refl _
  | c :: l, n, h0, h => by
    have hc := h c (by simp)
    have := dval_le l (10 * n + (c - 48)) (by omega) (fun d hd => h d (by simp [hd]))
    rw [dval]; omega
theorem pow10 (n : Nat) (h : 4 ≤ n) : (10 : Int) ^ 4 ≤ 10 ^ n := by
  obtain ⟨k, rfl⟩ : ∃ k, n = 4 + k := ⟨n - 4, by omega⟩
  rw [Int.pow_add]
  have p : (0 : Int) < 10 ^ k := Int.pow_pos (by decide)
  have e : (10 : Int) ^ 4 = 10000 := by decide
  rw [e]
  omega
theorem cntV_digits : ∀ (l : List Int) (n : Int), 0 ≤ n → n ≤ 4097 → (∀ c ∈ l, 48 ≤ c ∧ c ≤ 57) → ∀ m, (n = m ∨ (n = 4097 ∧ 4097 ≤ m)) → cntV l n = some (if 4097 < dval l m then 4097 else dval l m)
  | [], n, h0, h1, _, m, hm => by
    rw [cntV, dval]
    rcases hm with rfl | ⟨rfl, h⟩
    · rw [if_neg (by omega)]
    · split
      · rfl
      · congr 1; omega
  | c :: l, n, h0, h1, h, m, hm => by
    have hc := h c (by simp)
    rw [cntV, dval, if_neg (by omega)]
    refine cntV_digits l _ (by split <;> omega) (by split <;> omega) (fun d hd => h d (by simp [hd])) _ ?_
    split <;> omega
theorem cntV_bad : ∀ (l : List Int) (n : Int), (∃ c ∈ l, c < 48 ∨ 57 < c) → cntV l n = none
  | [], n, h => by obtain ⟨c, hc, _⟩ := h; cases hc
  | c :: l, n, h => by
    rw [cntV]
    split
    · rfl
    · rename_i h2
      refine cntV_bad l _ ?_
      obtain ⟨d, hd, he⟩ := h
      rcases List.mem_cons.1 hd with rfl | hd
      · exact absurd he h2
      · exact ⟨d, hd, he⟩
theorem good_dig (c : Int) (h0 : 0 ≤ c) (h1 : c < 256) : good 10 c = true ↔ 48 ≤ c ∧ c ≤ 57 := by
  unfold good valOf
  rw [decide_eq_true_iff]
  split <;> (try split) <;> (try split) <;> omega
theorem valOf_dig (c : Int) (h0 : 48 ≤ c) (h1 : c ≤ 57) : valOf c = c - 48 := by unfold valOf; rw [if_pos ⟨h0, h1⟩]
theorem scan_dval : ∀ (l : List Int) (n : Int), 0 ≤ n → (∀ c ∈ l, 48 ≤ c ∧ c ≤ 57) → (∀ m, scan 10 l n = some m → m = dval l n) ∧ (scan 10 l n = none → 4097 < dval l n)
  | [], n, _, _ => ⟨fun m h => by rw [scan] at h; injection h with h; exact h.symm, fun h => by rw [scan] at h; cases h⟩
  | c :: l, n, h0, h => by
    have hc := h c (by simp)
    have hl : ∀ d ∈ l, 48 ≤ d ∧ d ≤ 57 := fun d hd => h d (by simp [hd])
    rw [scan, dval, valOf_dig c hc.1 hc.2]
    by_cases q : (18446744073709551615 - (c - 48)) / 10 < n
    · rw [if_pos q]
      refine ⟨fun m e => (by cases e), fun _ => ?_⟩
      have := dval_le l (10 * n + (c - 48)) (by omega) (fun d hd => (hl d hd).1)
      omega
    · rw [if_neg q]
      exact scan_dval l _ (by omega) hl
theorem allGood_iff (l : List Int) (h : ∀ x ∈ l, 0 ≤ x ∧ x < 256) : allGood 10 l = true ↔ ∀ c ∈ l, 48 ≤ c ∧ c ≤ 57 := by
  unfold allGood
  rw [List.all_eq_true]
  exact ⟨fun q c hc => (good_dig c (h c hc).1 (h c hc).2).1 (q c hc), fun q c hc => (good_dig c (h c hc).1 (h c hc).2).2 (q c hc)⟩
/-- Without the noughts ahead. -/
def short (l : List Int) : List Int := l.dropWhile fun c => c == 48
theorem short_cnt : ∀ l : List Int, cntV (short l) 0 = cntV l 0
  | [] => rfl
  | c :: l => by
    unfold short
    by_cases h : c = 48
    · subst h
      rw [List.dropWhile_cons_of_pos (by decide)]
      rw [show cntV (48 :: l) 0 = cntV l 0 from by rw [cntV]; rfl]
      exact short_cnt l
    · rw [List.dropWhile_cons_of_neg (by simpa using h)]
theorem short_head : ∀ (l : List Int) (c : Int) (m : List Int), short l = c :: m → c ≠ 48
  | [], c, m, h => by cases h
  | x :: l, c, m, h => by
    unfold short at h
    by_cases q : x = 48
    · subst q
      rw [List.dropWhile_cons_of_pos (by decide)] at h
      exact short_head l c m h
    · rw [List.dropWhile_cons_of_neg (by simpa using q)] at h
      injection h with h1 h2
      rw [← h1]; exact q
theorem short_mem (l : List Int) : ∀ x ∈ short l, x ∈ l := fun x h => (List.dropWhile_suffix _).subset h
/-- What times answers: the number, and the error. -/
def timE (l : List Int) : Int := match cntD l with | none => 21 | some n => if n = 0 then 10 else if 4096 < n then 12 else 0
def timV (l : List Int) : Int := match cntD l with | none => 0 | some n => if n = 0 then 0 else if 4096 < n then 0 else n
theorem tim_zero (l : List Int) (h : short l = []) (hl : l ≠ []) : timE l = 10 ∧ timV l = 0 := by
  have e : cntD l = some 0 := by unfold cntD; rw [if_neg hl, ← short_cnt, h]; rfl
  unfold timE timV
  rw [e]
  exact ⟨rfl, rfl⟩
theorem cntD_short (l : List Int) (h : ¬ (short l = [] ∧ l ≠ [])) : cntD l = cntD (short l) := by
  unfold cntD
  by_cases hl : l = []
  · subst hl; rfl
  · rw [if_neg hl, if_neg (fun q => h ⟨q, hl⟩), short_cnt]
theorem tim_num (l : List Int) (hr : ∀ x ∈ l, 0 ≤ x ∧ x < 256) (h : ¬ (short l = [] ∧ l ≠ [])) :
    (numE 10 20 (short l) = 21 ∧ timE l = 21 ∧ timV l = 0) ∨ (numE 10 20 (short l) ≠ 21 ∧ (numE 10 20 (short l) ≠ 0 ∨ 4096 < numV 10 20 (short l)) ∧ timE l = 12 ∧ timV l = 0) ∨
    (numE 10 20 (short l) = 0 ∧ ¬ 4096 < numV 10 20 (short l) ∧ timE l = 0 ∧ timV l = numV 10 20 (short l) ∧ 1 ≤ timV l ∧ timV l ≤ 4096) := by
  have hs : ∀ x ∈ short l, 0 ≤ x ∧ x < 256 := fun x hx => hr x (short_mem l x hx)
  have hd := short_head l
  unfold timE timV
  rw [cntD_short l h]
  generalize short l = m at hs hd ⊢
  cases m with
  | nil =>
    have : chk 10 20 [] = 21 := rfl
    left
    refine ⟨?_, rfl, rfl⟩
    rw [(num_bad (show chk 10 20 [] ≠ 0 by decide)).2, this]
  | cons c m =>
    have hc := hd c m rfl
    by_cases hg : allGood 10 (c :: m) = true
    · have hdg := (allGood_iff _ hs).1 hg
      have c0 := hdg c (by simp)
      have dv : 1 ≤ dval (c :: m) 0 := by
        have := dval_le m (10 * 0 + (c - 48)) (by omega) (fun d hd => (hdg d (by simp [hd])).1)
        rw [dval]; omega
      have cv := cntV_digits (c :: m) 0 (by omega) (by omega) hdg 0 (.inl rfl)
      have cd : cntD (c :: m) = some (if 4097 < dval (c :: m) 0 then 4097 else dval (c :: m) 0) := by unfold cntD; rw [if_neg (by simp), cv]
      rw [cd]
      simp only
      by_cases hl : 20 < (c :: m).length
      · have ck : chk 10 20 (c :: m) = 12 := by unfold chk; rw [if_neg (by simp), if_neg (by rw [hg]; simp), if_pos hl]
        have big : 4097 < dval (c :: m) 0 := by
          have g := dval_ge m (10 * 0 + (c - 48)) (by omega) (fun d hd => (hdg d (by simp [hd])).1)
          rw [List.length_cons] at hl
          have p : (10 : Int) ^ 4 ≤ 10 ^ m.length := pow10 _ (by omega)
          have : (1 : Int) * 10 ^ m.length ≤ (10 * 0 + (c - 48)) * 10 ^ m.length := Int.mul_le_mul_of_nonneg_right (by omega) (by omega)
          rw [dval]
          have e : (10 : Int) ^ 4 = 10000 := by decide
          omega
        right; left
        have := (num_bad (show chk 10 20 (c :: m) ≠ 0 by rw [ck]; decide)).2
        rw [this, ck, if_pos big]
        exact ⟨by decide, .inl (by decide), rfl, rfl⟩
      · have ck : chk 10 20 (c :: m) = 0 := by unfold chk; rw [if_neg (by simp), if_neg (by rw [hg]; simp), if_neg hl]
        have sd := scan_dval (c :: m) 0 (by omega) hdg
        cases hsc : scan 10 (c :: m) 0 with
        | none =>
          have big := sd.2 hsc
          right; left
          rw [(num_none ck hsc).2, if_pos big]
          exact ⟨by decide, .inl (by decide), rfl, rfl⟩
        | some v =>
          have hv := sd.1 v hsc
          rw [(num_some ck hsc).2, (num_some ck hsc).1, ← hv]
          rw [← hv] at dv
          by_cases q : 4096 < v
          · right; left
            refine ⟨by decide, .inr q, ?_, ?_⟩
            · rw [if_neg (by split <;> omega), if_pos (by split <;> omega)]
            · rw [if_neg (by split <;> omega), if_pos (by split <;> omega)]
          · right; right
            rw [if_neg (show ¬ 4097 < v by omega)]
            simp only [if_neg (show ¬ v = 0 by omega), if_neg q]
            exact ⟨trivial, q, trivial, trivial, dv, by omega⟩
    · have hg' : allGood 10 (c :: m) = false := by simpa using hg
      have ck : chk 10 20 (c :: m) = 21 := by unfold chk; rw [if_neg (by simp), if_pos hg']
      have cd : cntD (c :: m) = none := by
        unfold cntD
        rw [if_neg (by simp)]
        refine cntV_bad _ _ ?_
        apply Classical.byContradiction
        intro q
        refine hg ((allGood_iff _ hs).2 fun d hd => ?_)
        apply Classical.byContradiction
        intro q2
        exact q ⟨d, hd, by omega⟩
      left
      rw [(num_bad (show chk 10 20 (c :: m) ≠ 0 by rw [ck]; decide)).2, ck, cd]
      exact ⟨rfl, rfl, rfl⟩
/-- A word with how often: its pins, how often, the error. -/
def grpP (w : ByteArray) : Option Pn := if Lib.indexByte w.data.toList 42 < 0 then oneP w else oneP (w.extract 0 (Lib.indexByte w.data.toList 42).toNat)
def grpL (w : ByteArray) : List Int := nums (w.extract ((Lib.indexByte w.data.toList 42).toNat + 1) w.size)
inductive Grp where
  | bad (e : Int)
  | good (p : Pn) (n : Nat)
def grp (w : ByteArray) : Grp := match grpP w with
  | none => .bad 21
  | some p => if Lib.indexByte w.data.toList 42 < 0 then .good p 1 else if timE (grpL w) = 0 then .good p (timV (grpL w)).toNat else .bad (timE (grpL w))
/-- A step, and all steps. -/
def stp (out : List Pn) (w : ByteArray) : Sum Int (List Pn) := if w.size = 0 then .inr out else match grp w with
  | .bad e => .inl e
  | .good p n => if 4096 < out.length + n then .inl 12 else .inr (out ++ List.replicate n p)
def fld : List Pn → List ByteArray → Sum Int (List Pn)
  | out, [] => .inr out
  | out, w :: ws => match stp out w with | .inl e => .inl e | .inr o => fld o ws
theorem fld_app : ∀ (pre : List ByteArray) (out : List Pn) (rest : List ByteArray), fld out (pre ++ rest) = match fld out pre with | .inl e => .inl e | .inr o => fld o rest
  | [], out, rest => rfl
  | w :: pre, out, rest => by
    rw [List.cons_append, fld, fld]
    cases stp out w with
    | inl e => rfl
    | inr o => exact fld_app pre o rest
theorem stp_len {out o : List Pn} {w : ByteArray} (h : stp out w = .inr o) (hl : out.length ≤ 4096) : o.length ≤ 4096 := by
  unfold stp at h
  split at h
  · injection h with h; rw [← h]; exact hl
  · split at h
    · cases h
    · split at h
      · cases h
      · rename_i q
        injection h with h
        rw [← h, List.length_append, List.length_replicate]; omega
theorem fld_len : ∀ (l : List ByteArray) (out o : List Pn), fld out l = .inr o → out.length ≤ 4096 → o.length ≤ 4096
  | [], out, o, h, hl => by rw [fld] at h; injection h with h; rw [← h]; exact hl
  | w :: l, out, o, h, hl => by
    rw [fld] at h
    cases q : stp out w with
    | inl e => rw [q] at h; cases h
    | inr o2 => rw [q] at h; exact fld_len l o2 o h (stp_len q hl)
end Go.Proofs.YtnmgjgeniaheoaaDoor
