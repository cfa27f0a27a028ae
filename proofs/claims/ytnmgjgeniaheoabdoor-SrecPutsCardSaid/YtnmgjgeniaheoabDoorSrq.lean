/- Pieces as lines, plainly: cut by 32 bytes; what is put is read; memory is the same. -/
import Derived.Test.YtnmgjgeniaheoabDoorSrp
import Derived.Test.YtnmgjgeniaheoabDoorSpl
namespace Go.Proofs.YtnmgjgeniaheoabDoor
open Go.ChangeShapes Go.WideShapes Go.ChangeAt Go.RowKit
set_option linter.unusedVariables false

/-- The part of a piece from its byte 32 j on. -/
def ckP (p : Pc) (j : Nat) : Pc := (p.1 + 32 * j, (p.2.drop (32 * j)).take 32)
def ckN (p : Pc) : Nat := (p.2.length + 31) / 32
def ckL (p : Pc) : List Pc := (List.range (ckN p)).map (ckP p)
def ckAll (l : List Pc) : List Pc := l.flatMap ckL
/-- A line of such a part; the last line. -/
noncomputable def lnT (p : Pc) : ByteArray := strOfNums (lnX 1 p.1 p.2)
noncomputable def lnE (start : Int) : ByteArray := strOfNums (lnX 9 start [])
/-- Lines, each with its end. -/
def catN (L : List ByteArray) : ByteArray := ⟨(L.flatMap fun x => x.data.toList ++ [10]).toArray⟩
theorem catN_nil : catN [] = ⟨#[]⟩ := rfl
theorem catN_app (L : List ByteArray) (x : ByteArray) : catN (L ++ [x]) = catN L ++ (x ++ ⟨#[10]⟩) := by
  unfold catN
  rw [List.flatMap_append, List.flatMap_singleton]
  apply ByteArray.ext
  simp
theorem ckL_take (p : Pc) (j : Nat) : (List.range (j + 1)).map (ckP p) = (List.range j).map (ckP p) ++ [ckP p j] := by rw [List.range_succ, List.map_append, List.map_singleton]
theorem ckP_ok (p : Pc) (hp : fitP p = true) (h0 : 0 ≤ p.1) (hb : Byt p.2) (j : Nat) (hj : 32 * j < p.2.length) : 0 ≤ (ckP p j).1 ∧ (ckP p j).1 < 65536 ∧ Byt (ckP p j).2 ∧ 0 < (ckP p j).2.length ∧ (ckP p j).2.length ≤ 32 ∧ (ckP p j).1 + (ckP p j).2.length ≤ 65536 ∧ fitP (ckP p j) = true := by
  have hf := (fitP_iff p).1 hp
  have hl : (ckP p j).2.length = Nat.min 32 (p.2.length - 32 * j) := by unfold ckP; rw [List.length_take, List.length_drop]
  have hm : Nat.min 32 (p.2.length - 32 * j) = if 32 ≤ p.2.length - 32 * j then 32 else p.2.length - 32 * j := Nat.min_def
  have h1 : (ckP p j).1 = p.1 + 32 * j := rfl
  refine ⟨by omega, by omega, (hb.drop _).take _, ?_, ?_, ?_, ?_⟩
  · rw [hl, hm]; split <;> omega
  · rw [hl, hm]; split <;> omega
  · rw [hl, hm, h1]; split <;> omega
  · rw [fitP_iff, hl, hm, h1]; split <;> omega
theorem ckN_lt (p : Pc) (j : Nat) : j < ckN p ↔ 32 * j < p.2.length := by unfold ckN; omega
theorem lnX_no10 (k a : Int) (b : List Int) (hk : k = 1 ∨ k = 9) : ∀ x ∈ lnX k a b, x ≠ 10 := by
  intro x hx
  unfold lnX at hx
  rcases List.mem_append.1 hx with hx | hx
  · simp only [List.mem_cons, List.not_mem_nil, or_false] at hx
    omega
  · unfold pairsOf at hx
    rw [List.mem_flatMap] at hx
    obtain ⟨y, _, hy⟩ := hx
    have key : ∀ v : Int, sg v ≠ 10 := fun v => by
      unfold sg signNums iat
      rcases Nat.lt_or_ge v.toNat 16 with h | h
      · have : ∀ i : Fin 16, ([48, 49, 50, 51, 52, 53, 54, 55, 56, 57, 65, 66, 67, 68, 69, 70] : List Int).getD i.val 0 ≠ 10 := by decide
        exact this ⟨_, h⟩
      · rw [List.getD_eq_getElem?_getD, List.getElem?_eq_none (by simpa using h)]
        decide
    simp only [List.mem_cons, List.not_mem_nil, or_false] at hy
    rcases hy with rfl | rfl <;> exact key _
theorem str_no10 (xs : List Int) (hr : ∀ x ∈ xs, 0 ≤ x ∧ x < 256) (h : ∀ x ∈ xs, x ≠ 10) : ∀ c ∈ (strOfNums xs).data.toList, c ≠ 10 := by
  intro c hc e
  have h1 : (c.toNat : Int) ∈ nums (strOfNums xs) := by unfold nums; exact List.mem_map.2 ⟨c, hc, rfl⟩
  rw [str_nums xs hr] at h1
  exact h _ h1 (by rw [e]; rfl)
theorem idx_at10 : ∀ (l r : List UInt8), (∀ b ∈ l, b ≠ 10) → Lib.indexByte (l ++ 10 :: r) 10 = (l.length : Int)
  | [], r, _ => by rw [List.nil_append, idx_cons, if_pos rfl]; rfl
  | x :: l, r, h => by
    rw [List.cons_append, idx_cons, if_neg (h x (by simp)), idx_at10 l r (fun b hb => h b (by simp [hb])), if_neg (by omega), List.length_cons]; omega
theorem pcs_lines : ∀ (L : List (List UInt8)), (∀ x ∈ L, ∀ b ∈ x, b ≠ 10) → pcs 10 (L.flatMap fun x => x ++ [10]) = L ++ [[]]
  | [], _ => rfl
  | x :: L, h => by
    have hx := h x (by simp)
    have hi := idx_at10 x (L.flatMap fun x => x ++ [10]) hx
    have e : (List.flatMap (fun x => x ++ [10]) (x :: L) : List UInt8) = x ++ 10 :: L.flatMap fun x => x ++ [10] := by simp
    rw [e, pcs_some 10 _ (by omega), hi, Int.toNat_natCast, List.take_left, show x ++ 10 :: (L.flatMap fun x => x ++ [10]) = (x ++ [10]) ++ L.flatMap fun x => x ++ [10] by simp, show x.length + 1 = (x ++ [10]).length by simp, List.drop_left, pcs_lines L (fun y hy => h y (by simp [hy]))]
    rfl
theorem pcsB_lines (L : List ByteArray) (h : ∀ x ∈ L, ∀ b ∈ x.data.toList, b ≠ 10) : pcsB 10 (catN L) = L ++ [⟨#[]⟩] := by
  unfold pcsB catN
  have key := pcs_lines (L.map (·.data.toList)) (fun x hx => by
    obtain ⟨y, hy, rfl⟩ := List.mem_map.1 hx
    exact h y hy)
  rw [List.flatMap_map] at key
  rw [show (⟨(L.flatMap fun x => x.data.toList ++ [10]).toArray⟩ : ByteArray).data.toList = L.flatMap fun x => x.data.toList ++ [10] from rfl, key, List.map_append, List.map_map]
  congr 1
  conv => rhs; rw [← List.map_id L]
  apply List.map_congr_left
  intro w _
  show (⟨w.data.toList.toArray⟩ : ByteArray) = w
  cases w; simp
/-- Memory with pieces one over the other. -/
def ldP (f : Nat → Int) (l : List Pc) : Nat → Int := l.foldl (fun f p => cpR f p.1.toNat p.2) f
theorem ldP_app (f : Nat → Int) (l m : List Pc) : ldP f (l ++ m) = ldP (ldP f l) m := by unfold ldP; rw [List.foldl_append]
theorem cpR_two (f : Nat → Int) (a : Nat) (xs ys : List Int) : cpR (cpR f a xs) (a + xs.length) ys = cpR f a (xs ++ ys) := by
  funext i
  unfold cpR
  rw [List.length_append]
  by_cases h1 : a + xs.length ≤ i ∧ i < a + xs.length + ys.length
  · rw [if_pos h1, if_pos (by omega)]
    have e : i - a = xs.length + (i - (a + xs.length)) := by omega
    rw [e]
    unfold iat
    rw [List.getD_eq_getElem?_getD, List.getD_eq_getElem?_getD, List.getElem?_append_right (by omega)]
    congr 2
    omega
  · rw [if_neg h1]
    by_cases h2 : a ≤ i ∧ i < a + xs.length
    · rw [if_pos h2, if_pos (by omega)]
      unfold iat
      rw [List.getD_eq_getElem?_getD, List.getD_eq_getElem?_getD, List.getElem?_append_left (by omega)]
    · rw [if_neg h2, if_neg (by omega)]
theorem ld_some (f : Nat → Int) (p : Pc) (h0 : 0 ≤ p.1) : ∀ j, 32 * j < p.2.length + 32 → ldP f ((List.range j).map (ckP p)) = cpR f p.1.toNat (p.2.take (32 * j))
  | 0, _ => by rw [List.range_zero, List.map_nil, Nat.mul_zero, List.take_zero, cpR_nil]; rfl
  | j + 1, h => by
    rw [ckL_take, ldP_app, ld_some f p h0 j (by omega)]
    show cpR (cpR f p.1.toNat (p.2.take (32 * j))) (p.1 + 32 * j).toNat ((p.2.drop (32 * j)).take 32) = _
    have hl : (p.2.take (32 * j)).length = 32 * j := by rw [List.length_take]; omega
    rw [show (p.1 + 32 * (j : Int)).toNat = p.1.toNat + (p.2.take (32 * j)).length by rw [hl]; omega, cpR_two]
    congr 1
    rw [show 32 * (j + 1) = 32 * j + 32 by omega, List.take_add]
theorem ld_ckL (f : Nat → Int) (p : Pc) (h0 : 0 ≤ p.1) : ldP f (ckL p) = cpR f p.1.toNat p.2 := by
  unfold ckL
  by_cases h : p.2.length = 0
  · have e : p.2 = [] := List.eq_nil_of_length_eq_zero h
    unfold ckN
    rw [h, e, cpR_nil]; rfl
  · rw [ld_some f p h0 (ckN p) (by unfold ckN; omega), List.take_of_length_le (by unfold ckN; omega)]
theorem ld_ckAll : ∀ (l : List Pc) (f : Nat → Int), (∀ p ∈ l, 0 ≤ p.1) → ldP f (ckAll l) = ldP f l
  | [], f, _ => rfl
  | p :: l, f, h => by
    show ldP f (ckL p ++ ckAll l) = ldP (cpR f p.1.toNat p.2) l
    rw [ldP_app, ld_ckL f p (h p (by simp)), ld_ckAll l _ (fun q hq => h q (by simp [hq]))]
end Go.Proofs.YtnmgjgeniaheoabDoor
