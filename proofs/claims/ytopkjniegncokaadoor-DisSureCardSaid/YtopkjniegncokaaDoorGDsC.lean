/- DsI, DsJ, DsK, DsM, DsN in one text. -/
import Derived.Test.YtopkjniegncokaaDoorGDsA
import Derived.Test.YtopkjniegncokaaDoorGDsB
namespace Go.Proofs.YtopkjniegncokaaDoor
set_option linter.unusedVariables false
theorem numsJ (a b : ByteArray) : nums (a ++ b) = nums a ++ nums b := by simp [nums]
theorem nums_inj {a b : ByteArray} (h : nums a = nums b) : a = b := by rw [← nums_str a, ← nums_str b, h]
theorem cut_eq (c : Int) : ∀ (a x b y : List Int), c ∉ a → c ∉ x → (b = [] ∨ ∃ t, b = c :: t) → (y = [] ∨ ∃ t, y = c :: t) → a ++ b = x ++ y → a = x ∧ b = y
  | [], [], b, y, _, _, _, _, h => ⟨rfl, h⟩
  | [], x0 :: xs, b, y, _, hx, hb, _, h => by
    exfalso
    rcases hb with rfl | ⟨t, rfl⟩
    · simp at h
    · simp only [List.nil_append, List.cons_append, List.cons.injEq] at h
      exact hx (by rw [h.1]; simp)
  | a0 :: u, [], b, y, ha, _, _, hy, h => by
    exfalso
    rcases hy with rfl | ⟨t, rfl⟩
    · simp at h
    · simp only [List.nil_append, List.cons_append, List.cons.injEq] at h
      exact ha (by rw [h.1]; simp)
  | a0 :: u, x0 :: xs, b, y, ha, hx, hb, hy, h => by
    simp only [List.cons_append, List.cons.injEq] at h
    obtain ⟨r1, r2⟩ := cut_eq c u xs b y (fun m => ha (List.mem_cons_of_mem _ m)) (fun m => hx (List.mem_cons_of_mem _ m)) hb hy h.2
    exact ⟨by rw [h.1, r1], r2⟩
theorem hexD_back (n : Int) (k : Nat) (h0 : 0 ≤ n) (h1 : n < 65536) (hk1 : 1 ≤ k) (hk : k ≤ 16) : numV 16 16 (nums (hexD n k)) = n := by
  obtain ⟨q, hq, hl⟩ := need_ex 16 n 16 k (by decide) hk (qv_small 16 n 16 h0 (by omega))
  unfold hexD
  rw [written_eq (by decide) hq]
  exact (read_back 16 n 16 k q (by decide) (by decide) h0 (by omega) hq hk1 hl).1
theorem hexD_inj (n m : Int) (k : Nat) (h0 : 0 ≤ n) (h1 : n < 65536) (g0 : 0 ≤ m) (g1 : m < 65536) (hk1 : 1 ≤ k) (hk : k ≤ 16) (h : nums (hexD n k) = nums (hexD m k)) : n = m := by
  rw [← hexD_back n k h0 h1 hk1 hk, h, hexD_back m k g0 g1 hk1 hk]
theorem hexD_len (n : Int) (k : Nat) (h0 : 0 ≤ n) (h : n < 16 ^ k) : (nums (hexD n k)).length = k := by
  unfold hexD
  rw [written_eq (by decide) (m := k) ⟨Nat.le_refl _, qv_small 16 n k h0 h, .inl rfl⟩, nums_len, strOfNums_size, digitsTo_len]
theorem decD_nums (n : Int) (h0 : 0 ≤ n) (h1 : n ≤ 65536) : ∃ m, 1 ≤ m ∧ nums (decD n) = digitsTo 10 n m := by
  obtain ⟨q, hq, hl⟩ := need_ex 10 n 20 1 (by decide) (by decide) (qv_small 10 n 20 h0 (by omega))
  refine ⟨q, hq.1, ?_⟩
  unfold decD
  rw [written_eq (by decide) hq]
  exact nums_written 10 n q (by decide) (by decide)
theorem decD_back (n : Int) (h0 : 0 ≤ n) (h1 : n ≤ 65536) : numV 10 20 (nums (decD n)) = n := (read_dec n h0 (by omega)).1
theorem decD_inj (n m : Int) (h0 : 0 ≤ n) (h1 : n ≤ 65536) (g0 : 0 ≤ m) (g1 : m ≤ 65536) (h : nums (decD n) = nums (decD m)) : n = m := by
  rw [← decD_back n h0 h1, h, decD_back m g0 g1]
theorem decD_dig (n : Int) (h0 : 0 ≤ n) (h1 : n ≤ 65536) : ∀ x ∈ nums (decD n), 48 ≤ x ∧ x ≤ 57 := by
  obtain ⟨m, _, hm⟩ := decD_nums n h0 h1
  rw [hm]
  intro x hx
  have := (digitsTo_mem 10 n m (by decide) (by decide) x hx).2.2
  unfold valOf at this
  split at this
  · assumption
  · exfalso; revert this; split <;> (try split) <;> omega
theorem decD_ne (n : Int) (h0 : 0 ≤ n) (h1 : n ≤ 65536) : nums (decD n) ≠ [] := by
  obtain ⟨m, hm1, hm⟩ := decD_nums n h0 h1
  rw [hm]
  intro h
  have := congrArg List.length h
  rw [digitsTo_len] at this
  simp at this; omega
theorem sign_all (v : Int) (h0 : 0 ≤ v) (h1 : v < 65536) : ∀ x ∈ nums (signT v), x = 45 ∨ 48 ≤ x ∧ x ≤ 57 := by
  unfold signT
  split
  · intro x hx; exact .inr (decD_dig v h0 (by omega) x hx)
  · rw [numsJ]
    intro x hx
    rcases List.mem_append.1 hx with hx | hx
    · left; simpa [nums] using hx
    · exact .inr (decD_dig _ (by omega) (by omega) x hx)
theorem sign_44 (v : Int) (h0 : 0 ≤ v) (h1 : v < 65536) : (44 : Int) ∉ nums (signT v) := fun h => by
  rcases sign_all v h0 h1 44 h with h | h <;> omega
theorem sign_head (v : Int) (h0 : 0 ≤ v) (h1 : v < 65536) : ∃ x t, nums (signT v) = x :: t ∧ (x = 45 ∨ 48 ≤ x ∧ x ≤ 57) := by
  have hne : nums (signT v) ≠ [] := by
    unfold signT
    split
    · exact decD_ne v h0 (by omega)
    · rw [numsJ]; intro h; rw [List.append_eq_nil_iff] at h; exact decD_ne _ (by omega) (by omega) h.2
  cases h : nums (signT v) with
  | nil => exact absurd h hne
  | cons x t => exact ⟨x, t, rfl, sign_all v h0 h1 x (by rw [h]; simp)⟩
theorem sign_inj (v u : Int) (h0 : 0 ≤ v) (h1 : v < 65536) (g0 : 0 ≤ u) (g1 : u < 65536) (h : nums (signT v) = nums (signT u)) : v = u := by
  have key : ∀ n m : Int, 0 ≤ n → n ≤ 65536 → 0 ≤ m → m ≤ 65536 → nums (decD n) ≠ [45] ++ nums (decD m) := fun n m a b c d e => by
    have := decD_dig n a b 45 (by rw [e]; simp)
    omega
  have e45 : nums (⟨#[45]⟩ : ByteArray) = [45] := by decide
  unfold signT at h
  split at h <;> split at h
  · exact decD_inj v u h0 (by omega) g0 (by omega) h
  · rw [numsJ, e45] at h; exact absurd h (key v (65536 - u) h0 (by omega) (by omega) (by omega))
  · rw [numsJ, e45] at h; exact absurd h.symm (key u (65536 - v) g0 (by omega) (by omega) (by omega))
  · rw [numsJ, numsJ] at h
    have := decD_inj (65536 - v) (65536 - u) (by omega) (by omega) (by omega) (by omega) (List.append_cancel_left h)
    omega
/-- What stands ahead of the first comma, and behind it. -/
def bef : List Int → List Int
  | [] => []
  | x :: t => if x = 44 then [] else x :: bef t
def aft : List Int → List Int
  | [] => []
  | x :: t => if x = 44 then t else aft t
theorem bef_cut : ∀ (a t : List Int), (44 : Int) ∉ a → bef (a ++ 44 :: t) = a ∧ aft (a ++ 44 :: t) = t
  | [], t, _ => ⟨rfl, rfl⟩
  | x :: a, t, h => by
    have hx : x ≠ 44 := fun e => h (by rw [e]; simp)
    obtain ⟨r1, r2⟩ := bef_cut a t (fun m => h (List.mem_cons_of_mem _ m))
    exact ⟨by show (if x = 44 then [] else x :: bef (a ++ 44 :: t)) = _; rw [if_neg hx, r1], by show (if x = 44 then _ else aft (a ++ 44 :: t)) = _; rw [if_neg hx, r2]⟩
/-- An indexed operand behind its comma. -/
def dec0 (l : List Int) : Nat × List Int × List Int :=
  if l.head? = some 45 then (if l.tail.head? = some 45 then (10, l.tail.tail, []) else (9, l.tail, []))
  else if l.tail = [43, 43] then (8, l.take 1, []) else if l.tail = [43] then (7, l.take 1, []) else (0, l, [])
/-- What an indexed operand's text tells: its kind, its register's name, its number. -/
def dec : List Int → Nat × List Int × List Int
  | [] => (0, [], [])
  | x :: t => if x = 44 then dec0 t else if x = 60 then (2, aft t, bef t) else if x = 62 then (3, aft t, bef t) else if x = 36 then (13, [], x :: t)
    else if x = 65 then (4, aft t, []) else if x = 66 then (5, aft t, []) else if x = 68 then (6, aft t, []) else (1, aft (x :: t), bef (x :: t))
noncomputable def numT (k : Nat) (o v : Int) : List Int := if k = 1 then nums (signT o) else if k = 2 ∨ k = 11 then nums (signT v) else if k = 3 ∨ k = 12 ∨ k = 13 then nums (hexT v 4) else []
def clk (k : Nat) : Nat := if k = 11 then 2 else if k = 12 then 3 else k
def rN (r : Nat) : List Int := nums (byteStr (regI (r : Int)))
def okR (k r : Nat) : Prop := if k = 11 ∨ k = 12 then r = 5 else if k = 13 then r = 0 else 1 ≤ r ∧ r ≤ 4
theorem hexT_nums (v : Int) (k : Nat) : nums (hexT v k) = 36 :: nums (hexD v k) := by unfold hexT; rw [numsJ]; rfl
theorem hexD_44 (v : Int) (k : Nat) (h0 : 0 ≤ v) (h1 : v < 65536) (hk1 : 1 ≤ k) (hk : k ≤ 16) : (44 : Int) ∉ nums (hexD v k) := by
  obtain ⟨q, hq, hl⟩ := need_ex 16 v 16 k (by decide) hk (qv_small 16 v 16 h0 (by omega))
  unfold hexD
  rw [written_eq (by decide) hq, nums_written 16 v q (by decide) (by decide)]
  intro hx
  have := (digitsTo_mem 16 v q (by decide) (by decide) 44 hx).2.2
  revert this; decide
theorem hexT_44 (v : Int) (h0 : 0 ≤ v) (h1 : v < 65536) : (44 : Int) ∉ nums (hexT v 4) := by
  rw [hexT_nums]
  intro h
  rcases List.mem_cons.1 h with h | h
  · omega
  · exact hexD_44 v 4 h0 h1 (by omega) (by omega) h
theorem dec_pnt (k : Nat) (hk : k < 14) (r : Nat) (hr : okR k r) (o v : Int) (o0 : 0 ≤ o) (o1 : o < 65536) (v0 : 0 ≤ v) (v1 : v < 65536) :
    dec (nums (pntT k (byteStr (regI (r : Int))) o v)) = (clk k, if k = 13 then [] else rN r, numT k o v) := by
  have sO := sign_44 o o0 o1
  have sV := sign_44 v v0 v1
  have hV := hexT_44 v v0 v1
  obtain ⟨x, t, hx, hx2⟩ := sign_head o o0 o1
  have c44 : nums (⟨#[44]⟩ : ByteArray) = [44] := by decide
  have c60 : nums (⟨#[60]⟩ : ByteArray) = [60] := by decide
  have c62 : nums (⟨#[62]⟩ : ByteArray) = [62] := by decide
  have c65 : nums (⟨#[65]⟩ : ByteArray) = [65] := by decide
  have c66 : nums (⟨#[66]⟩ : ByteArray) = [66] := by decide
  have c68 : nums (⟨#[68]⟩ : ByteArray) = [68] := by decide
  rcases (show k = 0 ∨ k = 1 ∨ k = 2 ∨ k = 3 ∨ k = 4 ∨ k = 5 ∨ k = 6 ∨ k = 7 ∨ k = 8 ∨ k = 9 ∨ k = 10 ∨ k = 11 ∨ k = 12 ∨ k = 13 by omega) with rfl | rfl | rfl | rfl | rfl | rfl | rfl | rfl | rfl | rfl | rfl | rfl | rfl | rfl
  all_goals
    simp (decide := true) only [okR, ↓reduceIte] at hr
    unfold pntT numT clk
    simp (decide := true) only [↓reduceIte]
  · rcases (show r = 1 ∨ r = 2 ∨ r = 3 ∨ r = 4 by omega) with rfl | rfl | rfl | rfl <;> decide +kernel
  · rw [numsJ, numsJ, c44]
    have e : dec (nums (signT o) ++ ([44] ++ nums (byteStr (regI (r : Int))))) = (1, aft (nums (signT o) ++ 44 :: rN r), bef (nums (signT o) ++ 44 :: rN r)) := by
      rw [hx]
      show dec (x :: (t ++ 44 :: rN r)) = _
      show (if x = 44 then dec0 (t ++ 44 :: rN r) else if x = 60 then (2, aft (t ++ 44 :: rN r), bef (t ++ 44 :: rN r)) else if x = 62 then (3, aft (t ++ 44 :: rN r), bef (t ++ 44 :: rN r)) else if x = 36 then (13, [], x :: (t ++ 44 :: rN r))
        else if x = 65 then (4, aft (t ++ 44 :: rN r), []) else if x = 66 then (5, aft (t ++ 44 :: rN r), []) else if x = 68 then (6, aft (t ++ 44 :: rN r), []) else (1, aft (x :: (t ++ 44 :: rN r)), bef (x :: (t ++ 44 :: rN r)))) = _
      rw [if_neg (by omega), if_neg (by omega), if_neg (by omega), if_neg (by omega), if_neg (by omega), if_neg (by omega), if_neg (by omega)]
      rfl
    rw [e, (bef_cut _ _ sO).1, (bef_cut _ _ sO).2]
  · rw [numsJ, numsJ, numsJ, c44, c60]
    show (2, aft (nums (signT v) ++ 44 :: rN r), bef (nums (signT v) ++ 44 :: rN r)) = _
    rw [(bef_cut _ _ sV).1, (bef_cut _ _ sV).2]
  · rw [numsJ, numsJ, numsJ, c44, c62]
    show (3, aft (nums (hexT v 4) ++ 44 :: rN r), bef (nums (hexT v 4) ++ 44 :: rN r)) = _
    rw [(bef_cut _ _ hV).1, (bef_cut _ _ hV).2]
  · rw [numsJ, numsJ, c44, c65]; rfl
  · rw [numsJ, numsJ, c44, c66]; rfl
  · rw [numsJ, numsJ, c44, c68]; rfl
  · rcases (show r = 1 ∨ r = 2 ∨ r = 3 ∨ r = 4 by omega) with rfl | rfl | rfl | rfl <;> decide +kernel
  · rcases (show r = 1 ∨ r = 2 ∨ r = 3 ∨ r = 4 by omega) with rfl | rfl | rfl | rfl <;> decide +kernel
  · rcases (show r = 1 ∨ r = 2 ∨ r = 3 ∨ r = 4 by omega) with rfl | rfl | rfl | rfl <;> decide +kernel
  · rcases (show r = 1 ∨ r = 2 ∨ r = 3 ∨ r = 4 by omega) with rfl | rfl | rfl | rfl <;> decide +kernel
  · rw [numsJ, numsJ, numsJ, c44, c60]
    show (2, aft (nums (signT v) ++ 44 :: rN r), bef (nums (signT v) ++ 44 :: rN r)) = _
    rw [(bef_cut _ _ sV).1, (bef_cut _ _ sV).2]
  · rw [numsJ, numsJ, numsJ, c44, c62]
    show (3, aft (nums (hexT v 4) ++ 44 :: rN r), bef (nums (hexT v 4) ++ 44 :: rN r)) = _
    rw [(bef_cut _ _ hV).1, (bef_cut _ _ hV).2]
  · rw [hexT_nums]; rfl
/-- An operand's first number, without brackets. -/
theorem pnt_head (k : Nat) (hk : k < 14) (r : Nat) (o v : Int) (o0 : 0 ≤ o) (o1 : o < 65536) :
    ∃ x t, nums (pntT k (byteStr (regI (r : Int))) o v) = x :: t ∧ x ≠ 91 ∧ x ≠ 35 ∧ (x = 60 → k = 2 ∨ k = 11) ∧ (x = 62 → k = 3 ∨ k = 12) := by
  obtain ⟨x, t, hx, hx2⟩ := sign_head o o0 o1
  rcases (show k = 0 ∨ k = 1 ∨ k = 2 ∨ k = 3 ∨ k = 4 ∨ k = 5 ∨ k = 6 ∨ k = 7 ∨ k = 8 ∨ k = 9 ∨ k = 10 ∨ k = 11 ∨ k = 12 ∨ k = 13 by omega) with rfl | rfl | rfl | rfl | rfl | rfl | rfl | rfl | rfl | rfl | rfl | rfl | rfl | rfl
  all_goals
    unfold pntT
    simp (decide := true) only [↓reduceIte]
  · exact ⟨44, _, by rw [numsJ]; rfl, by decide, by decide, by decide, by decide⟩
  · exact ⟨x, _, by rw [numsJ, hx]; rfl, by omega, by omega, by omega, by omega⟩
  · exact ⟨60, _, by rw [numsJ, numsJ]; rfl, by decide, by decide, by simp, by decide⟩
  · exact ⟨62, _, by rw [numsJ, numsJ]; rfl, by decide, by decide, by decide, by simp⟩
  · exact ⟨65, _, by rw [numsJ]; rfl, by decide, by decide, by decide, by decide⟩
  · exact ⟨66, _, by rw [numsJ]; rfl, by decide, by decide, by decide, by decide⟩
  · exact ⟨68, _, by rw [numsJ]; rfl, by decide, by decide, by decide, by decide⟩
  · exact ⟨44, _, by rw [numsJ, numsJ]; rfl, by decide, by decide, by decide, by decide⟩
  · exact ⟨44, _, by rw [numsJ, numsJ]; rfl, by decide, by decide, by decide, by decide⟩
  · exact ⟨44, _, by rw [numsJ]; rfl, by decide, by decide, by decide, by decide⟩
  · exact ⟨44, _, by rw [numsJ]; rfl, by decide, by decide, by decide, by decide⟩
  · exact ⟨60, _, by rw [numsJ, numsJ]; rfl, by decide, by decide, by simp, by decide⟩
  · exact ⟨62, _, by rw [numsJ, numsJ]; rfl, by decide, by decide, by decide, by simp⟩
  · exact ⟨36, _, by rw [hexT_nums], by decide, by decide, by decide, by decide⟩
end Go.Proofs.YtopkjniegncokaaDoor
namespace Go.Proofs.YtopkjniegncokaaDoor
set_option linter.unusedVariables false
theorem kr_fin : ((List.range 256).all fun b => Nat.blt (poK b) 14 && (if Nat.beq (poK b) 11 || Nat.beq (poK b) 12 then Nat.beq (poR b) 5 else if Nat.beq (poK b) 13 then Nat.beq (poR b) 0 else Nat.ble 1 (poR b) && Nat.ble (poR b) 4) && (Nat.beq (poK b) 1 || Nat.beq (poO b) 0) && (!Nat.beq (poK b) 13 || poI b)) = true := by decide +kernel
theorem kr_at (b : Nat) (hb : b < 256) : poK b < 14 ∧ okR (poK b) (poR b) ∧ (poK b ≠ 1 → poO b = 0) := by
  have h := allB 256 _ kr_fin b hb
  simp only [Bool.and_eq_true] at h
  obtain ⟨⟨⟨h1, h2⟩, h3⟩, h4⟩ := h
  refine ⟨Nat.le_of_ble_eq_true h1, ?_, fun hk => ?_⟩
  · unfold okR
    by_cases e1 : poK b = 11 ∨ poK b = 12
    · rw [if_pos e1]
      rw [if_pos (by rcases e1 with e | e <;> rw [e] <;> decide)] at h2
      exact Nat.eq_of_beq_eq_true h2
    · rw [if_neg e1]
      have n1 : (Nat.beq (poK b) 11 || Nat.beq (poK b) 12) = false := by
        rw [Bool.eq_false_iff]; intro h; rw [Bool.or_eq_true, Nat.beq_eq, Nat.beq_eq] at h; exact e1 h
      rw [n1] at h2
      simp only [Bool.false_eq_true, if_false] at h2
      by_cases e2 : poK b = 13
      · rw [if_pos e2]
        rw [if_pos (by rw [e2]; decide)] at h2
        exact Nat.eq_of_beq_eq_true h2
      · rw [if_neg e2]
        rw [if_neg (by rw [Nat.beq_eq]; exact e2), Bool.and_eq_true] at h2
        exact ⟨Nat.le_of_ble_eq_true h2.1, Nat.le_of_ble_eq_true h2.2⟩
  · rw [Bool.or_eq_true, Nat.beq_eq, Nat.beq_eq] at h3
    rcases h3 with h3 | h3
    · exact absurd h3 hk
    · exact h3
theorem sur_key (b c : Nat) (hb : b < 256) (hc : c < 256) (sb : surB b = true) (sc : surB c = true) (h1 : poK b = poK c) (h2 : poR b = poR c) (h3 : poO b = poO c) (h4 : poI b = poI c) : b = c := by
  have ht : poT b = poT c := by
    rw [poI_iff] at h4
    unfold poK at h1
    unfold poR at h2
    unfold poO at h3
    omega
  have hcode : codeB b = codeB c := by unfold codeB; rw [ht]
  unfold surB at sb sc
  rw [beq_iff_eq] at sb sc
  omega
theorem rN_inj (r q : Nat) (hr : 1 ≤ r ∧ r ≤ 5) (hq : 1 ≤ q ∧ q ≤ 5) (h : rN r = rN q) : r = q := by
  rcases (show r = 1 ∨ r = 2 ∨ r = 3 ∨ r = 4 ∨ r = 5 by omega) with rfl | rfl | rfl | rfl | rfl <;> rcases (show q = 1 ∨ q = 2 ∨ q = 3 ∨ q = 4 ∨ q = 5 by omega) with rfl | rfl | rfl | rfl | rfl <;> first | rfl | (exfalso; revert h; decide +kernel)
theorem numT_inj (k : Nat) (o v o' v' : Int) (o0 : 0 ≤ o) (o1 : o < 65536) (v0 : 0 ≤ v) (v1 : v < 65536) (p0 : 0 ≤ o') (p1 : o' < 65536) (u0 : 0 ≤ v') (u1 : v' < 65536) (h : numT k o v = numT k o' v') :
    (k = 1 → o = o') ∧ (k = 2 ∨ k = 3 ∨ k = 11 ∨ k = 12 ∨ k = 13 → v = v') := by
  unfold numT at h
  by_cases h1 : k = 1
  · rw [if_pos h1, if_pos h1] at h
    exact ⟨fun _ => sign_inj o o' o0 o1 p0 p1 h, fun h2 => by omega⟩
  · rw [if_neg h1, if_neg h1] at h
    refine ⟨fun h2 => absurd h2 h1, fun h2 => ?_⟩
    by_cases h3 : k = 2 ∨ k = 11
    · rw [if_pos h3, if_pos h3] at h
      exact sign_inj v v' v0 v1 u0 u1 h
    · rw [if_neg h3, if_neg h3, if_pos (by omega), if_pos (by omega), hexT_nums, hexT_nums] at h
      exact hexD_inj v v' 4 v0 v1 u0 u1 (by omega) (by omega) (List.cons.inj h).2
theorem clk_inj (k j : Nat) (hk : k < 14) (hj : j < 14) (h : clk k = clk j) : k = j ∨ (k = 2 ∧ j = 11) ∨ (k = 11 ∧ j = 2) ∨ (k = 3 ∧ j = 12) ∨ (k = 12 ∧ j = 3) := by
  have key : ∀ k j : Fin 14, clk k.val = clk j.val → k.val = j.val ∨ (k.val = 2 ∧ j.val = 11) ∨ (k.val = 11 ∧ j.val = 2) ∨ (k.val = 3 ∧ j.val = 12) ∨ (k.val = 12 ∧ j.val = 3) := by decide +kernel
  exact key ⟨k, hk⟩ ⟨j, hj⟩ h
theorem okR_cases (k r : Nat) (h : okR k r) : ((k = 11 ∨ k = 12) ∧ r = 5) ∨ (k = 13 ∧ r = 0) ∨ (k ≠ 11 ∧ k ≠ 12 ∧ k ≠ 13 ∧ 1 ≤ r ∧ r ≤ 4) := by
  unfold okR at h
  split at h
  · exact .inl ⟨by assumption, h⟩
  · split at h
    · exact .inr (.inl ⟨by assumption, h⟩)
    · exact .inr (.inr ⟨by omega, by omega, by omega, h⟩)
/-- Two indexed operands that are sure and have one text are one. -/
theorem idx_inj (b c : Nat) (hb : b < 256) (hc : c < 256) (sb : surB b = true) (sc : surB c = true) (v u : Int) (v0 : 0 ≤ v) (v1 : v < 65536) (u0 : 0 ≤ u) (u1 : u < 65536)
    (zb : poBytes (poK b) = 0 → v = 0) (zc : poBytes (poK c) = 0 → u = 0)
    (h : nums (idxT (poK b) (byteStr (regI (poR b : Int))) (poO b : Int) v (poI b)) = nums (idxT (poK c) (byteStr (regI (poR c : Int))) (poO c : Int) u (poI c))) : b = c ∧ v = u := by
  obtain ⟨k1, r1, z1⟩ := kr_at b hb
  obtain ⟨k2, r2, z2⟩ := kr_at c hc
  have ob : poO b < 65536 := by unfold poO; omega
  have oc : poO c < 65536 := by unfold poO; omega
  have d1 := dec_pnt (poK b) k1 (poR b) r1 (poO b : Int) v (by omega) (by omega) v0 v1
  have d2 := dec_pnt (poK c) k2 (poR c) r2 (poO c : Int) u (by omega) (by omega) u0 u1
  obtain ⟨x1, t1, e1, n1, _⟩ := pnt_head (poK b) k1 (poR b) (poO b : Int) v (by omega) (by omega)
  obtain ⟨x2, t2, e2, n2, _⟩ := pnt_head (poK c) k2 (poR c) (poO c : Int) u (by omega) (by omega)
  have key : poI b = poI c ∧ nums (pntT (poK b) (byteStr (regI (poR b : Int))) (poO b : Int) v) = nums (pntT (poK c) (byteStr (regI (poR c : Int))) (poO c : Int) u) := by
    unfold idxT at h
    cases hi : poI b <;> cases hj : poI c <;> rw [hi, hj] at h
    · exact ⟨rfl, h⟩
    · exfalso
      simp only [Bool.false_eq_true, if_false, if_true] at h
      rw [numsJ, numsJ, e1] at h
      exact n1 (List.cons.inj h).1
    · exfalso
      simp only [Bool.false_eq_true, if_false, if_true] at h
      rw [numsJ, numsJ, e2] at h
      exact n2 (List.cons.inj h).1.symm
    · simp only [if_true] at h
      rw [numsJ, numsJ, numsJ, numsJ, List.append_assoc, List.append_assoc] at h
      exact ⟨rfl, List.append_cancel_right (List.append_cancel_left h)⟩
  obtain ⟨ki, kt⟩ := key
  rw [kt, d2] at d1
  have hA := (Prod.mk.inj d1).1
  have hB := (Prod.mk.inj (Prod.mk.inj d1).2).1
  have hC := (Prod.mk.inj (Prod.mk.inj d1).2).2
  clear d1 d2 e1 e2 n1 n2 kt h
  have hk : poK b = poK c ∧ poR b = poR c := by
    have hx := clk_inj _ _ k2 k1 hA
    have y1 := okR_cases _ _ r1
    have y2 := okR_cases _ _ r2
    by_cases w1 : poK b = 13
    · omega
    · rw [if_neg w1, if_neg (by omega)] at hB
      have hr := rN_inj _ _ (by omega) (by omega) hB
      omega
  rw [hk.1] at hC zb z1
  obtain ⟨g1, g2⟩ := numT_inj _ _ _ _ _ (by omega) (by omega) u0 u1 (by omega) (by omega) v0 v1 hC
  refine ⟨sur_key b c hb hc sb sc hk.1 hk.2 ?_ ki, ?_⟩
  · by_cases hq : poK c = 1
    · have := g1 hq; omega
    · rw [z1 hq, z2 hq]
  · by_cases hq : poK c = 2 ∨ poK c = 3 ∨ poK c = 11 ∨ poK c = 12 ∨ poK c = 13
    · exact (g2 hq).symm
    · have hz : poBytes (poK c) = 0 := by
        have : ∀ k : Fin 14, ¬ (k.val = 2 ∨ k.val = 3 ∨ k.val = 11 ∨ k.val = 12 ∨ k.val = 13) → poBytes k.val = 0 := by decide +kernel
        exact this ⟨poK c, k2⟩ hq
      rw [zb hz, zc hz]
end Go.Proofs.YtopkjniegncokaaDoor
namespace Go.Proofs.YtopkjniegncokaaDoor
set_option linter.unusedVariables false
/-- Which of the modes 1 to 5 an operand has. -/
def decM : List Int → Nat
  | [] => 0
  | x :: t => if x = 35 then (if t.length = 3 then 1 else 2) else if x = 60 then (if t.head? = some 36 then 3 else 4) else if x = 62 then (if t.length = 5 then 5 else 4) else 4
/-- What is known of an instruction that was read. -/
def Rdd (m b : Nat) (v : Int) : Prop := (pstd m = false → b = 0) ∧ (m = 0 ∨ m = 8 ∨ m = 9 → v = 0) ∧ (m = 1 ∨ m = 3 → v < 256) ∧ (m = 4 → poBytes (poK b) = 0 → v = 0) ∧ 0 ≤ v ∧ v < 65536 ∧ b < 256
theorem num35 : nums (⟨#[35]⟩ : ByteArray) = [35] := by decide
theorem num60 : nums (⟨#[60]⟩ : ByteArray) = [60] := by decide
theorem num62 : nums (⟨#[62]⟩ : ByteArray) = [62] := by decide
theorem num44 : nums (⟨#[44]⟩ : ByteArray) = [44] := by decide
theorem opr1 (r : Int) (b : Nat) (v l a : Int) (hv : 0 ≤ v) (hv1 : v < 256) : nums (oprT 1 r b v l a) = 35 :: 36 :: nums (hexD v 2) := by
  unfold oprT; simp (decide := true) only [↓reduceIte]; rw [numsJ, hexT_nums, num35, show v % 256 = v by omega]; rfl
theorem opr2 (r : Int) (b : Nat) (v l a : Int) : nums (oprT 2 r b v l a) = 35 :: 36 :: nums (hexD v 4) := by
  unfold oprT; simp (decide := true) only [↓reduceIte]; rw [numsJ, hexT_nums, num35]; rfl
theorem opr3 (r : Int) (b : Nat) (v l a : Int) (hv : 0 ≤ v) (hv1 : v < 256) : nums (oprT 3 r b v l a) = 60 :: 36 :: nums (hexD v 2) := by
  unfold oprT; simp (decide := true) only [↓reduceIte]; rw [numsJ, hexT_nums, num60, show v % 256 = v by omega]; rfl
theorem opr4 (r : Int) (b : Nat) (v l a : Int) : oprT 4 r b v l a = idxT (poK b) (byteStr (regI (poR b : Int))) (poO b : Int) v (poI b) := by
  unfold oprT; simp (decide := true) only [↓reduceIte]
theorem opr5 (r : Int) (b : Nat) (v l a : Int) : nums (oprT 5 r b v l a) = 62 :: 36 :: nums (hexD v 4) := by
  unfold oprT; simp (decide := true) only [↓reduceIte]; rw [numsJ, hexT_nums, num62]; rfl
theorem opr67 (m r : Int) (b : Nat) (v l a : Int) (hm : m = 6 ∨ m = 7) : nums (oprT m r b v l a) = 36 :: nums (hexD ((a + l + v) % 65536) 4) := by
  rcases hm with rfl | rfl <;> (unfold oprT tgtI; simp (decide := true) only [↓reduceIte]; rw [hexT_nums])
theorem opr8 (r : Int) (b : Nat) (v l a : Int) : nums (oprT 8 r b v l a) = nums (regT ((b / 16 : Nat) : Int)) ++ 44 :: nums (regT ((b % 16 : Nat) : Int)) := by
  unfold oprT; simp (decide := true) only [↓reduceIte]; rw [numsJ, numsJ, num44, List.append_assoc]; rfl
theorem opr9 (r : Int) (b : Nat) (v l a : Int) : oprT 9 r b v l a = byteStr (txtL b (r == 3) 8) := by
  unfold oprT; simp (decide := true) only [↓reduceIte]
theorem mode_dec (m : Nat) (hm : 1 ≤ m ∧ m ≤ 5) (r : Int) (b : Nat) (v l a : Int) (h : Rdd m b v) : decM (nums (oprT (m : Int) r b v l a)) = m := by
  obtain ⟨h1, h2, h3, h4, v0, v1, hb⟩ := h
  rcases (show m = 1 ∨ m = 2 ∨ m = 3 ∨ m = 4 ∨ m = 5 by omega) with rfl | rfl | rfl | rfl | rfl
  · have hl := hexD_len v 2 v0 (by have := h3 (.inl rfl); omega)
    show decM (nums (oprT 1 r b v l a)) = 1
    rw [opr1 r b v l a v0 (h3 (.inl rfl))]
    show (if (35 : Int) = 35 then (if (36 :: nums (hexD v 2)).length = 3 then 1 else 2) else (if (35 : Int) = 60 then (if (36 :: nums (hexD v 2)).head? = some 36 then 3 else 4) else if (35 : Int) = 62 then (if (36 :: nums (hexD v 2)).length = 5 then 5 else 4) else 4)) = 1
    rw [if_pos rfl, List.length_cons, hl, if_pos rfl]
  · have hl := hexD_len v 4 v0 (by omega)
    show decM (nums (oprT 2 r b v l a)) = 2
    rw [opr2]
    show (if (35 : Int) = 35 then (if (36 :: nums (hexD v 4)).length = 3 then 1 else 2) else (if (35 : Int) = 60 then (if (36 :: nums (hexD v 4)).head? = some 36 then 3 else 4) else if (35 : Int) = 62 then (if (36 :: nums (hexD v 4)).length = 5 then 5 else 4) else 4)) = 2
    rw [if_pos rfl, List.length_cons, hl, if_neg (by decide)]
  · show decM (nums (oprT 3 r b v l a)) = 3
    rw [opr3 r b v l a v0 (h3 (.inr rfl))]
    rfl
  · obtain ⟨k1, r1, z1⟩ := kr_at b hb
    have ob : poO b < 65536 := by unfold poO; omega
    show decM (nums (oprT 4 r b v l a)) = 4
    rw [opr4]
    unfold idxT
    split
    · rw [numsJ, numsJ]; rfl
    · obtain ⟨x, t, e, n1, n2, n3, n4⟩ := pnt_head (poK b) k1 (poR b) (poO b : Int) v (by omega) (by omega)
      rw [e]
      show (if x = 35 then (if t.length = 3 then 1 else 2) else if x = 60 then (if t.head? = some 36 then 3 else 4) else if x = 62 then (if t.length = 5 then 5 else 4) else 4) = 4
      rw [if_neg n2]
      split
      · rename_i hx
        obtain ⟨y, s, hy, hy2⟩ := sign_head v v0 v1
        have ht : t.head? = some y := by
          have e2 : nums (pntT (poK b) (byteStr (regI (poR b : Int))) (poO b : Int) v) = 60 :: (nums (signT v) ++ nums (⟨#[44]⟩ ++ byteStr (regI (poR b : Int)))) := by
            unfold pntT
            rcases n3 hx with hk | hk <;> (rw [hk]; simp (decide := true) only [↓reduceIte]; rw [numsJ, numsJ, num60]; rfl)
          rw [e, hy] at e2
          rw [(List.cons.inj e2).2]; rfl
        rw [ht, if_neg]
        intro h; injection h with h; omega
      · split
        · rename_i hx
          have hl := hexD_len v 4 v0 (by omega)
          have ht : 6 < t.length + 1 := by
            have e2 : nums (pntT (poK b) (byteStr (regI (poR b : Int))) (poO b : Int) v) = 62 :: 36 :: (nums (hexD v 4) ++ (44 :: rN (poR b))) := by
              unfold pntT
              rcases n4 hx with hk | hk <;> (rw [hk]; simp (decide := true) only [↓reduceIte]; rw [numsJ, numsJ, numsJ, num62, num44, hexT_nums]; rfl)
            rw [e] at e2
            have := congrArg List.length e2
            simp only [List.length_cons, List.length_append, hl] at this
            omega
          rw [if_neg (by omega)]
        · rfl
  · have hl := hexD_len v 4 v0 (by omega)
    show decM (nums (oprT 5 r b v l a)) = 5
    rw [opr5]
    show (if (62 : Int) = 35 then (if (36 :: nums (hexD v 4)).length = 3 then 1 else 2) else (if (62 : Int) = 60 then (if (36 :: nums (hexD v 4)).head? = some 36 then 3 else 4) else if (62 : Int) = 62 then (if (36 :: nums (hexD v 4)).length = 5 then 5 else 4) else 4)) = 5
    rw [if_neg (by decide), if_neg (by decide), if_pos rfl, List.length_cons, hl, if_pos rfl]
def regC (r : Nat) : List Int := if (regI (r : Int)).isEmpty then 82 :: (if r < 10 then digitsTo 10 (r : Int) 1 else digitsTo 10 (r : Int) 2) else nums (byteStr (regI (r : Int)))
theorem need_fin : ∀ r : Fin 16, (r.val < 10 → Need 10 (r.val : Int) 1 1) ∧ (¬ r.val < 10 → Need 10 (r.val : Int) 1 2) := by unfold Need; decide +kernel
theorem regT_C (r : Nat) (hr : r < 16) : nums (regT (r : Int)) = regC r := by
  have hn := need_fin ⟨r, hr⟩
  unfold regT regC
  split
  · rw [numsJ]
    unfold decD
    by_cases h : r < 10
    · rw [if_pos h, written_eq (by decide) (hn.1 h), nums_written 10 _ _ (by decide) (by decide)]; rfl
    · rw [if_neg h, written_eq (by decide) (hn.2 h), nums_written 10 _ _ (by decide) (by decide)]; rfl
  · rfl
theorem regC_fin : ∀ r : Fin 16, (44 : Int) ∉ regC r.val := by decide +kernel
theorem regC_inj : ∀ r q : Fin 16, regC r.val = regC q.val → r.val = q.val := by decide +kernel
theorem byteStr_inj {s t : List UInt8} (h : nums (byteStr s) = nums (byteStr t)) : s = t := by
  have := nums_inj h
  unfold byteStr at this
  have h2 := congrArg (fun b : ByteArray => b.data.toList) this
  simpa using h2
/-- Operands of one mode. -/
theorem opr_inj (m : Nat) (hm : m ≤ 9) (r : Int) (b c : Nat) (v u l a : Int) (hB : Rdd m b v) (hC : Rdd m c u) (sb : m = 4 → surB b = true) (sc : m = 4 → surB c = true) (a0 : 0 ≤ a) (l0 : 0 ≤ l)
    (h : nums (oprT (m : Int) r b v l a) = nums (oprT (m : Int) r c u l a)) : b = c ∧ v = u := by
  obtain ⟨p1, p2, p3, p4, v0, v1, hb⟩ := hB
  obtain ⟨q1, q2, q3, q4, u0, u1, hc⟩ := hC
  have hps : ∀ m : Fin 10, pstd m.val = false ∨ m.val = 4 ∨ m.val = 8 ∨ m.val = 9 := by decide
  have hz : m = 4 ∨ m = 8 ∨ m = 9 ∨ (b = 0 ∧ c = 0) := by
    rcases hps ⟨m, by omega⟩ with e | e
    · exact .inr (.inr (.inr ⟨p1 e, q1 e⟩))
    · simp only at e; omega
  rcases (show m = 0 ∨ m = 1 ∨ m = 2 ∨ m = 3 ∨ m = 4 ∨ m = 5 ∨ m = 6 ∨ m = 7 ∨ m = 8 ∨ m = 9 by omega) with rfl | rfl | rfl | rfl | rfl | rfl | rfl | rfl | rfl | rfl
  · refine ⟨by omega, ?_⟩
    rw [p2 (by omega), q2 (by omega)]
  · refine ⟨by omega, ?_⟩
    have h' : nums (oprT 1 r b v l a) = nums (oprT 1 r c u l a) := h
    rw [opr1 r b v l a v0 (p3 (by omega)), opr1 r c u l a u0 (q3 (by omega))] at h'
    exact hexD_inj v u 2 v0 v1 u0 u1 (by omega) (by omega) (List.cons.inj (List.cons.inj h').2).2
  · refine ⟨by omega, ?_⟩
    have h' : nums (oprT 2 r b v l a) = nums (oprT 2 r c u l a) := h
    rw [opr2, opr2] at h'
    exact hexD_inj v u 4 v0 v1 u0 u1 (by omega) (by omega) (List.cons.inj (List.cons.inj h').2).2
  · refine ⟨by omega, ?_⟩
    have h' : nums (oprT 3 r b v l a) = nums (oprT 3 r c u l a) := h
    rw [opr3 r b v l a v0 (p3 (by omega)), opr3 r c u l a u0 (q3 (by omega))] at h'
    exact hexD_inj v u 2 v0 v1 u0 u1 (by omega) (by omega) (List.cons.inj (List.cons.inj h').2).2
  · have h' : nums (oprT 4 r b v l a) = nums (oprT 4 r c u l a) := h
    rw [opr4, opr4] at h'
    exact idx_inj b c hb hc (sb rfl) (sc rfl) v u v0 v1 u0 u1 (p4 rfl) (q4 rfl) h'
  · refine ⟨by omega, ?_⟩
    have h' : nums (oprT 5 r b v l a) = nums (oprT 5 r c u l a) := h
    rw [opr5, opr5] at h'
    exact hexD_inj v u 4 v0 v1 u0 u1 (by omega) (by omega) (List.cons.inj (List.cons.inj h').2).2
  · refine ⟨by omega, ?_⟩
    have h' : nums (oprT 6 r b v l a) = nums (oprT 6 r c u l a) := h
    rw [opr67 _ _ _ _ _ _ (by omega), opr67 _ _ _ _ _ _ (by omega)] at h'
    have := hexD_inj _ _ 4 (by omega) (by omega) (by omega) (by omega) (by omega) (by omega) (List.cons.inj h').2
    omega
  · refine ⟨by omega, ?_⟩
    have h' : nums (oprT 7 r b v l a) = nums (oprT 7 r c u l a) := h
    rw [opr67 _ _ _ _ _ _ (by omega), opr67 _ _ _ _ _ _ (by omega)] at h'
    have := hexD_inj _ _ 4 (by omega) (by omega) (by omega) (by omega) (by omega) (by omega) (List.cons.inj h').2
    omega
  · have h' : nums (oprT 8 r b v l a) = nums (oprT 8 r c u l a) := h
    rw [opr8, opr8, regT_C _ (by omega), regT_C _ (by omega), regT_C _ (by omega), regT_C _ (by omega)] at h'
    obtain ⟨e1, e2⟩ := cut_eq 44 _ _ _ _ (regC_fin ⟨b / 16, by omega⟩) (regC_fin ⟨c / 16, by omega⟩) (.inr ⟨_, rfl⟩) (.inr ⟨_, rfl⟩) h'
    have f1 := regC_inj ⟨b / 16, by omega⟩ ⟨c / 16, by omega⟩ e1
    have f2 := regC_inj ⟨b % 16, by omega⟩ ⟨c % 16, by omega⟩ (List.cons.inj e2).2
    simp only at f1 f2
    refine ⟨by omega, ?_⟩
    rw [p2 (by omega), q2 (by omega)]
  · have h' : nums (oprT 9 r b v l a) = nums (oprT 9 r c u l a) := h
    rw [opr9, opr9] at h'
    have hl := byteStr_inj h'
    obtain ⟨_, x1, x2⟩ := back_txt b hb (r == 3)
    obtain ⟨_, y1, y2⟩ := back_txt c hc (r == 3)
    refine ⟨?_, by rw [p2 (by omega), q2 (by omega)]⟩
    by_cases hb0 : b = 0
    · by_cases hc0 : c = 0
      · omega
      · exact absurd (hl.symm.trans (x1 hb0)) (y2 hc0).1
    · by_cases hc0 : c = 0
      · exact absurd (hl.trans (y1 hc0)) (x2 hb0).1
      · have e1 := (x2 hb0).2
        have e2 := (y2 hc0).2
        rw [hl, e2] at e1
        have := (Prod.mk.inj e1).1
        omega
end Go.Proofs.YtopkjniegncokaaDoor
namespace Go.Proofs.YtopkjniegncokaaDoor
set_option linter.unusedVariables false
theorem nm_fin : ((List.range 768).all fun j => Nat.beq (pgT j) 0 || (Nat.blt (eOp (pgT j)) 52 && !(nameI (eOp (pgT j) : Int) (eReg (pgT j) : Int)).isEmpty && (nameI (eOp (pgT j) : Int) (eReg (pgT j) : Int)).all (fun x => x != 32))) = true := by decide +kernel
theorem nm_at (j : Nat) (hj : j < 768) (h : pgT j ≠ 0) : eOp (pgT j) < 52 ∧ (nameI (eOp (pgT j) : Int) (eReg (pgT j) : Int)).isEmpty = false ∧ (32 : Int) ∉ nums (nmT (eOp (pgT j) : Int) (eReg (pgT j) : Int)) := by
  have h0 := allB 768 _ nm_fin j hj
  rw [Bool.or_eq_true, Nat.beq_eq] at h0
  rcases h0 with h0 | h0
  · exact absurd h0 h
  · simp only [Bool.and_eq_true, Bool.not_eq_true'] at h0
    obtain ⟨⟨h1, h2⟩, h3⟩ := h0
    refine ⟨Nat.le_of_ble_eq_true h1, h2, fun hm => ?_⟩
    unfold nmT nums byteStr at hm
    simp only [List.mem_map] at hm
    obtain ⟨x, hx, e⟩ := hm
    have := List.all_eq_true.1 h3 x (by simpa using hx)
    have hx2 : x = 32 := by
      have : x.toNat = 32 := by omega
      exact UInt8.toNat_inj.1 this
    rw [hx2] at this
    exact absurd this (by decide)
theorem name_inj (o r o' r' : Nat) (h1 : o < 52) (h2 : r < 16) (h3 : o' < 52) (h4 : r' < 16) (e1 : (nameI (o : Int) (r : Int)).isEmpty = false) (e2 : (nameI (o' : Int) (r' : Int)).isEmpty = false)
    (h : nameI (o : Int) (r : Int) = nameI (o' : Int) (r' : Int)) : o = o' ∧ r = r' := by
  have m1 := code_mem o r h1 h2 e1
  have m2 := code_mem o' r' h3 h4 e2
  have hq := List.all_eq_true.1 (List.all_eq_true.1 rows_one _ m1) _ m2
  simp only [h, beq_self_eq_true, beq_iff_eq, Bool.true_eq, Bool.and_eq_true, Nat.beq_eq] at hq
  exact hq
def cm (m : Nat) : Nat := if 1 ≤ m ∧ m ≤ 5 then 1 else m + 10
theorem cm_fin : ((List.range 268).all fun i => (List.range 268).all fun j => !(Nat.beq (aE i / 256) (aE j / 256) && Nat.beq (aE i % 16) (aE j % 16)) || Nat.beq (cm (eMode (aE i))) (cm (eMode (aE j)))) = true := by decide +kernel
theorem cm_at (i j : Nat) (hi : i < 768) (hj : j < 768) (h1 : pgT i ≠ 0) (h2 : pgT j ≠ 0) (ho : eOp (pgT i) = eOp (pgT j)) (hr : eReg (pgT i) = eReg (pgT j)) : cm (eMode (pgT i)) = cm (eMode (pgT j)) := by
  obtain ⟨_, a2, a3, _⟩ := tab_inv i hi h1
  obtain ⟨_, b2, b3, _⟩ := tab_inv j hj h2
  have h := allB 268 _ (allB 268 _ cm_fin _ a3) _ b3
  rw [a2, b2] at h
  unfold eOp at ho
  unfold eReg at hr
  rw [ho, hr] at h
  simpa using h
theorem rd_of {xs : List Int} (h : ∀ z ∈ xs, (Lit.int .u8 z).wf = true) : Rdd (inMd xs) (inPo xs).toNat (inVa xs) := by
  have hpo := inPo_range h
  have hq : (((inPo xs).toNat : Nat) : Int) = inPo xs := by omega
  have r1 := iat_range8' h (inL2 xs)
  have r2 := iat_range8' h (inL2 xs + 1)
  have hN : inN xs = shN (inMd xs) (inPo xs) := rfl
  have hV : inVa xs = if inN xs = 1 then (if shS (inMd xs) then signOf (iat xs (inL2 xs)) else iat xs (inL2 xs)) else if inN xs = 2 then 256 * iat xs (inL2 xs) + iat xs (inL2 xs + 1) else 0 := rfl
  have hz : inN xs = 0 → inVa xs = 0 := fun e => by rw [hV, e]; rfl
  refine ⟨fun hp => ?_, fun hm => hz ?_, fun hm => ?_, fun hm hk => hz ?_, ?_, ?_, by omega⟩
  · unfold inPo; rw [hp]; rfl
  · rw [hN]; rcases hm with hm | hm | hm <;> rw [hm] <;> rfl
  · have e1 : inN xs = 1 := by rw [hN]; rcases hm with hm | hm <;> rw [hm] <;> rfl
    have e2 : shS (inMd xs) = false := by rcases hm with hm | hm <;> rw [hm] <;> rfl
    rw [hV, if_pos e1, e2]
    exact r1.2
  · rw [hN, hm]; exact hk
  · rw [hV]; unfold signOf; split
    · split
      · split <;> omega
      · omega
    · split <;> omega
  · rw [hV]; unfold signOf; split
    · split
      · split <;> omega
      · omega
    · split <;> omega
theorem ent_of {xs : List Int} (h : ∀ z ∈ xs, (Lit.int .u8 z).wf = true) : ∃ j, j < 768 ∧ inE xs = pgT j ∧ j = 256 * (inPg xs - 1) + (inCo xs).toNat := by
  have hco := inCo_range h
  have hp : 1 ≤ inPg xs ∧ inPg xs ≤ 3 := by unfold inPg; split <;> (try split) <;> omega
  refine ⟨_, ?_, ?_, rfl⟩
  · omega
  · show ofN (inPg xs : Int) (inCo xs).toNat = _
    unfold ofN
    rw [if_pos (by omega), Int.toNat_natCast]
theorem lineT_nums (N O : ByteArray) : nums (lineT N O) = nums N ++ (if O.toList.isEmpty then [] else 32 :: nums O) := by
  unfold lineT
  split
  · simp
  · rw [numsJ, numsJ, List.append_assoc]; rfl
theorem empty_nums (O : ByteArray) (h : O.toList.isEmpty = true) : nums O = [] := by
  rw [ByteArray.toList_eq] at h
  unfold nums
  rw [List.isEmpty_iff.1 h]; rfl
/-- What was read, is sure, and has one text. -/
theorem text_inj {xs ys : List Int} (hx : ∀ z ∈ xs, (Lit.int .u8 z).wf = true) (hy : ∀ z ∈ ys, (Lit.int .u8 z).wf = true) (a : Int) (a0 : 0 ≤ a)
    (sx : surI (eOp (inE xs) : Int) (eMode (inE xs) : Int) (inPo xs).toNat = true) (sy : surI (eOp (inE ys) : Int) (eMode (inE ys) : Int) (inPo ys).toNat = true) (X Y : List Int)
    (h : textT (eOp (inE xs) : Int) (eMode (inE xs) : Int) (eReg (inE xs) : Int) (inPo xs).toNat (inVa xs) (inLn xs : Int) a X = textT (eOp (inE ys) : Int) (eMode (inE ys) : Int) (eReg (inE ys) : Int) (inPo ys).toNat (inVa ys) (inLn ys : Int) a Y) :
    inPg xs = inPg ys ∧ inCo xs = inCo ys ∧ inE xs = inE ys ∧ inPo xs = inPo ys ∧ inVa xs = inVa ys ∧ inLn xs = inLn ys := by
  unfold textT at h
  rw [if_pos sx, if_pos sy] at h
  obtain ⟨i, hi, ei, ii⟩ := ent_of hx
  obtain ⟨j, hj, ej, jj⟩ := ent_of hy
  have px := inPo_range hx
  have py := inPo_range hy
  have cx := inCo_range hx
  have cy := inCo_range hy
  have gx : 1 ≤ inPg xs ∧ inPg xs ≤ 3 := by unfold inPg; split <;> (try split) <;> omega
  have gy : 1 ≤ inPg ys ∧ inPg ys ≤ 3 := by unfold inPg; split <;> (try split) <;> omega
  have surO : ∀ (E : Nat) (m : Int) (b : Nat), surI (eOp E : Int) m b = true → E ≠ 0 := fun E m b hs e => by
    subst e
    unfold surI at hs
    simp [eOp] at hs
  have surM : ∀ (o : Int) (m : Nat) (b : Nat), surI o (m : Int) b = true → m = 4 → surB b = true := fun o m b hs e => by
    subst e
    unfold surI at hs
    simpa using (Bool.and_eq_true_iff.1 hs).2
  have nx := surO _ _ _ sx
  have ny := surO _ _ _ sy
  rw [ei] at nx
  rw [ej] at ny
  obtain ⟨ox, ex, s32x⟩ := nm_at i hi nx
  obtain ⟨oy, ey, s32y⟩ := nm_at j hj ny
  have hn := congrArg nums h
  rw [lineT_nums, lineT_nums] at hn
  have tl : ∀ O : ByteArray, (if O.toList.isEmpty then ([] : List Int) else 32 :: nums O) = [] ∨ ∃ t, (if O.toList.isEmpty then ([] : List Int) else 32 :: nums O) = 32 :: t := fun O => by
    cases O.toList.isEmpty
    · exact .inr ⟨_, rfl⟩
    · exact .inl rfl
  rw [ei, ej] at hn
  obtain ⟨hN, hO⟩ := cut_eq 32 _ _ _ _ s32x s32y (tl _) (tl _) hn
  have hNm := byteStr_inj hN
  obtain ⟨qo, qr⟩ := name_inj _ _ _ _ ox (by unfold eReg; omega) oy (by unfold eReg; omega) ex ey hNm
  have hOp : nums (oprT (eMode (pgT i) : Int) (eReg (pgT i) : Int) (inPo xs).toNat (inVa xs) (inLn xs : Int) a) = nums (oprT (eMode (pgT j) : Int) (eReg (pgT j) : Int) (inPo ys).toNat (inVa ys) (inLn ys : Int) a) := by
    revert hO
    generalize oprT (eMode (pgT i) : Int) (eReg (pgT i) : Int) (inPo xs).toNat (inVa xs) (inLn xs : Int) a = P
    generalize oprT (eMode (pgT j) : Int) (eReg (pgT j) : Int) (inPo ys).toNat (inVa ys) (inLn ys : Int) a = Q
    intro hO
    cases hP : P.toList.isEmpty <;> cases hQ : Q.toList.isEmpty <;> rw [hP, hQ] at hO
    · exact (List.cons.inj hO).2
    · cases hO
    · cases hO
    · rw [empty_nums P hP, empty_nums Q hQ]
  have rx := rd_of hx
  have ry := rd_of hy
  have mx : inMd xs = eMode (pgT i) := by unfold inMd; rw [ei]
  have my : inMd ys = eMode (pgT j) := by unfold inMd; rw [ej]
  rw [mx] at rx
  rw [my] at ry
  have hcm := cm_at i j hi hj nx ny qo qr
  have hmd : eMode (pgT i) = eMode (pgT j) := by
    unfold cm at hcm
    by_cases h1 : 1 ≤ eMode (pgT i) ∧ eMode (pgT i) ≤ 5
    · by_cases h2 : 1 ≤ eMode (pgT j) ∧ eMode (pgT j) ≤ 5
      · have d1 := mode_dec _ h1 (eReg (pgT i) : Int) _ _ (inLn xs : Int) a rx
        have d2 := mode_dec _ h2 (eReg (pgT j) : Int) _ _ (inLn ys : Int) a ry
        rw [hOp] at d1
        omega
      · rw [if_pos h1, if_neg h2] at hcm; omega
    · by_cases h2 : 1 ≤ eMode (pgT j) ∧ eMode (pgT j) ≤ 5
      · rw [if_neg h1, if_pos h2] at hcm; omega
      · rw [if_neg h1, if_neg h2] at hcm; omega
  have hE : pgT i = pgT j := enc_inj _ _ qo hmd qr
  have hij := tab_once i j hi hj hE nx
  have hpc : inPg xs = inPg ys ∧ inCo xs = inCo ys := by omega
  have hL1 : inL1 xs = inL1 ys := by unfold inL1; rw [hpc.1]
  have m9 : eMode (pgT i) ≤ 9 := by rw [← mx]; exact inMd_le hx
  have hsx := surM _ _ _ sx
  have hsy := surM _ _ _ sy
  rw [ei] at hsx
  rw [ej] at hsy
  -- how long they are counts only for the target of a branch: there it is by the page and the mode alone
  have hlen : ∀ m, m = eMode (pgT i) → (m = 6 ∨ m = 7) → inLn xs = inLn ys := fun m hm h67 => by
    unfold inLn inL2 inN
    rw [mx, my, ← hmd, ← hm, hL1]
    rcases h67 with rfl | rfl <;> rfl
  have hop2 : nums (oprT (eMode (pgT i) : Int) (eReg (pgT i) : Int) (inPo xs).toNat (inVa xs) (inLn xs : Int) a) = nums (oprT (eMode (pgT i) : Int) (eReg (pgT i) : Int) (inPo ys).toNat (inVa ys) (inLn xs : Int) a) := by
    rw [hOp, ← hmd, ← qr]
    by_cases h67 : eMode (pgT i) = 6 ∨ eMode (pgT i) = 7
    · rw [hlen _ rfl h67]
    · unfold oprT
      have n67 : ¬ ((eMode (pgT i) : Int) = 6 ∨ (eMode (pgT i) : Int) = 7) := by omega
      rw [if_neg n67, if_neg n67]
  rw [← hmd] at ry hsy
  obtain ⟨f1, f2⟩ := opr_inj _ m9 _ _ _ _ _ _ a rx ry hsx hsy a0 (by omega) hop2
  have hP : inPo xs = inPo ys := by omega
  refine ⟨hpc.1, hpc.2, by rw [ei, ej, hE], hP, f2, ?_⟩
  unfold inLn inL2 inN
  rw [mx, my, hmd, hL1, hP]
end Go.Proofs.YtopkjniegncokaaDoor
namespace Go.Proofs.YtopkjniegncokaaDoor
open Go.ChangeShapes Go.WideShapes Go.ChangeAt Go.RowKit
set_option linter.unusedVariables false
/-- What an instruction that was read has to say in this law: its cells, and what the contracts answer. -/
structure ReadI (w : World) (A : Option Addr) (n cap : Nat) (xs : List Int) (a : Int) (p co o m r : Int) (b : Nat) (va ln : Int) (F : Bool) (T : ByteArray) : Prop where
  of : ∀ wx, Below w.heap.size w wx → Calls Tryd.prog 5 #[.slice A n cap] wx fun e w' => e = .returned (.tuple #[.agg (iC p co o m r (b : Int) va ln), .bool true]) ∧ Below wx.heap.size wx w'
  sure : ∀ u, DisAt u → Calls Tryd.prog 6 #[.agg (iC p co o m r (b : Int) va ln)] u fun e w' => e = .returned (.bool F) ∧ Below u.heap.size u w'
  text : ∀ u, DisAt u → Calls Tryd.prog 8 #[.agg (iC p co o m r (b : Int) va ln), .int .u16 a] u fun e w' => e = .returned (.string T) ∧ Below u.heap.size u w'
  is : p = (inPg xs : Int) ∧ co = inCo xs ∧ o = (eOp (inE xs) : Int) ∧ m = (eMode (inE xs) : Int) ∧ r = (eReg (inE xs) : Int) ∧ (b : Int) = inPo xs ∧ b = (inPo xs).toNat ∧ va = inVa xs ∧ ln = (inLn xs : Int)
  fis : F = surI (eOp (inE xs) : Int) (eMode (inE xs) : Int) (inPo xs).toNat
  tis : T = textT (eOp (inE xs) : Int) (eMode (inE xs) : Int) (eReg (inE xs) : Int) (inPo xs).toNat (inVa xs) (inLn xs : Int) a (xs.take (inLn xs))
  wf : ∀ z ∈ xs, (Lit.int .u8 z).wf = true
theorem read_some (A : Option Addr) (n cap : Nat) (xs : List Int) (a : Int) (a0 : 0 ≤ a) (a1 : a < 65536) (w : World) (hI : Ints .u8 w w.heap.size A n xs) (hA : A = none → n = 0 ∧ cap = 0) (hq : n ≤ 140737488351232) (hok : inOk xs = true) :
    ∃ p co o m r b va ln F T, ReadI w A n cap xs a p co o m r b va ln F T := by
  have hag : inAgg xs = iC (inPg xs : Int) (inCo xs) (eOp (inE xs)) (eMode (inE xs)) (eReg (inE xs)) (inPo xs) (inVa xs) (inLn xs : Int) := by unfold inAgg insC; rw [if_pos hok]
  have hpo := inPo_range hI.2.1
  have hpt := put_take hI.2.1 hok
  have hpk := putOk_self hI.2.1 hok
  have hco := inCo_range hI.2.1
  have hva := va_range hI.2.1
  have hle : inLn xs ≤ n := by have := of_decide_eq_true hok; rw [hI.1] at this; exact this
  have hbi : inPo xs = (((inPo xs).toNat : Nat) : Int) := by omega
  have hl1 := inL1_le xs
  have hXl : (xs.take (inLn xs)).length = inLn xs := by rw [List.length_take, hI.1]; omega
  have hX5 : inLn xs ≤ 5 := by rw [← hXl, ← hpt]; have := putX_len (inPg xs : Int) (inCo xs) (eMode (inE xs)) (inPo xs).toNat (inVa xs); omega
  have hwT : ∀ z ∈ xs.take (inLn xs), (Lit.int .u8 z).wf = true := fun z hz => hI.2.1 z (List.mem_of_mem_take hz)
  refine ⟨(inPg xs : Int), inCo xs, (eOp (inE xs) : Int), (eMode (inE xs) : Int), (eReg (inE xs) : Int), (inPo xs).toNat, inVa xs, (inLn xs : Int), _, _, ?_, fun u hu => ?_, fun u hu => ?_, ⟨rfl, rfl, rfl, rfl, rfl, hbi.symm, rfl, rfl, rfl⟩, rfl, rfl, hI.2.1⟩
  · intro wx hb
    have := of18_any A n cap xs wx (hI.below hb.size hb) hA hq
    rw [hag, hok, hbi] at this
    exact this
  · exact disSure_any _ _ _ _ _ _ _ (inPo xs).toNat (by omega) u hu.2.2.2
  · have := disText_any (inPg xs : Int) (inCo xs) (eOp (inE xs)) (eMode (inE xs)) (eReg (inE xs)) (inVa xs) (inLn xs : Int) a (inPo xs).toNat (by omega) hco.1 hco.2 u (by omega) (by omega) hva.1 hva.2 a0 a1 hu (by rw [hpt]; exact hpk) (by rw [hpt]; exact iat_range8' hwT)
    rw [hpt] at this
    exact this
theorem sure_eq {w w2 : World} {A B : Option Addr} {n cap n2 cap2 : Nat} {xs ys : List Int} {a p co o m r va ln p' co' o' m' r' va' ln' : Int} {b b' : Nat} {T T' : ByteArray} (a0 : 0 ≤ a)
    (h : ReadI w A n cap xs a p co o m r b va ln true T) (h' : ReadI w2 B n2 cap2 ys a p' co' o' m' r' b' va' ln' true T') : (T.toList == T'.toList) = insEq p co o m r (b : Int) va ln p' co' o' m' r' (b' : Int) va' ln' := by
  obtain ⟨e1, e2, e3, e4, e5, e6, e6', e7, e8⟩ := h.is
  obtain ⟨f1, f2, f3, f4, f5, f6, f6', f7, f8⟩ := h'.is
  rw [Bool.eq_iff_iff]
  have hi : insEq p co o m r (b : Int) va ln p' co' o' m' r' (b' : Int) va' ln' = true ↔ p = p' ∧ co = co' ∧ (o = o' ∧ m = m' ∧ r = r') ∧ (b : Int) = b' ∧ va = va' ∧ ln = ln' := by unfold insEq; simp [and_assoc]
  rw [hi, beq_iff_eq]
  constructor
  · intro ht
    have hT : T = T' := by
      rw [ByteArray.toList_eq, ByteArray.toList_eq] at ht
      exact ByteArray.ext (Array.toList_inj.1 ht)
    have := text_inj h.wf h'.wf a a0 h.fis.symm h'.fis.symm (xs.take (inLn xs)) (ys.take (inLn ys)) (by rw [← h.tis, ← h'.tis]; exact hT)
    obtain ⟨g1, g2, g3, g4, g5, g6⟩ := this
    rw [e1, e2, e3, e4, e5, e6, e7, e8, f1, f2, f3, f4, f5, f6, f7, f8, g1, g2, g3, g4, g5, g6]
    exact ⟨rfl, rfl, ⟨rfl, rfl, rfl⟩, rfl, rfl, rfl⟩
  · rintro ⟨g1, g2, ⟨g3, g4, g5⟩, g6, g7, g8⟩
    have hs : T = T' := by
      have hX : putX p co m b va = putX p' co' m' b' va' := by rw [g1, g2, g4, show b = b' by omega, g7]
      rw [h.tis, h'.tis]
      unfold textT
      rw [← h.fis, ← h'.fis, ← e3, ← e4, ← e5, ← e6', ← e7, ← e8, ← f3, ← f4, ← f5, ← f6', ← f7, ← f8, g3, g4, g5, show b = b' by omega, g7, g8]
      rfl
    rw [hs]
theorem read_any (A : Option Addr) (n cap : Nat) (xs : List Int) (a : Int) (a0 : 0 ≤ a) (a1 : a < 65536) (w : World) (hI : Ints .u8 w w.heap.size A n xs) (hA : A = none → n = 0 ∧ cap = 0) (hq : n ≤ 140737488351232) :
    ∃ p co o m r b va ln ok, (∀ wx, Below w.heap.size w wx → Calls Tryd.prog 5 #[.slice A n cap] wx fun e w' => e = .returned (.tuple #[.agg (iC p co o m r ((b : Nat) : Int) va ln), .bool ok]) ∧ Below wx.heap.size wx w') ∧
      (ok = true → ∃ F T, ReadI w A n cap xs a p co o m r b va ln F T) := by
  cases hok : inOk xs
  · have hag : inAgg xs = iC 0 0 0 0 0 ((0 : Nat) : Int) 0 0 := by unfold inAgg; rw [hok]; rfl
    refine ⟨0, 0, 0, 0, 0, 0, 0, 0, false, fun wx hb => ?_, fun h => by cases h⟩
    have := of18_any A n cap xs wx (hI.below hb.size hb) hA hq
    rw [hag, hok] at this
    exact this
  · obtain ⟨p, co, o, m, r, b, va, ln, F, T, h⟩ := read_some A n cap xs a a0 a1 w hI hA hq hok
    exact ⟨p, co, o, m, r, b, va, ln, true, h.of, fun _ => ⟨F, T, h⟩⟩
set_option maxRecDepth 100000 in
set_option maxHeartbeats 8000000 in
theorem law_disSure (A B : Option Addr) (n cap n2 cap2 : Nat) (xs ys : List Int) (a : Int) (a0 : 0 ≤ a) (a1 : a < 65536) (w : World) (hI : Ints .u8 w w.heap.size A n xs) (hA : A = none → n = 0 ∧ cap = 0) (hq : n ≤ 140737488351232)
    (hI2 : Ints .u8 w w.heap.size B n2 ys) (hA2 : B = none → n2 = 0 ∧ cap2 = 0) (hq2 : n2 ≤ 140737488351232) (hD : DisAt w) :
    Calls Tryd.prog 4 #[.slice A n cap, .slice B n2 cap2, .int .u16 a] w fun e w' => e = .returned (.bool true) ∧ Below w.heap.size w w' := by
  obtain ⟨p, co, o, m, r, b, va, ln, ok, C1, D1⟩ := read_any A n cap xs a a0 a1 w hI hA hq
  obtain ⟨p', co', o', m', r', b', va', ln', ok', C2, D2⟩ := read_any B n2 cap2 ys a a0 a1 w hI2 hA2 hq2
  have CA := Lib.hid (fun u (h : DisAt u) => alive42 u h)
  have HDx := Lib.hid (fun wx (hb : Below w.heap.size w wx) => hD.below hb)
  have H1 := Lib.hid C1
  have H2 := Lib.hid C2
  have E1 := Lib.hid D1
  have E2 := Lib.hid D2
  have HA0 := Lib.hid a0
  clear C1 C2 D1 D2 hI hI2 hA hA2 hq hq2 hD a0 a1
  go_enter Tryd.func4, Tryd.ntmps4
  go_wp2_with fail
  refine (H1.out _ (Below.refl _ _)).mono ?_
  rintro e w1 ⟨rfl, hb1⟩
  have HB1 := Lib.hid (Below.alloc0 hb1 (Obj.cells (iC p co o m r (b : Int) va ln) 27))
  have HS1 := Lib.hid (Blk.new w1 27 (iC p co o m r (b : Int) va ln) (0, 0))
  clear hb1
  go_wp2_with fail
  refine (H2.out _ HB1.out).mono ?_
  rintro e w2 ⟨rfl, hb2⟩
  have HB2 := Lib.hid (Below.alloc0 (Below.trans0 HB1.out hb2) (Obj.cells (iC p' co' o' m' r' (b' : Int) va' ln') 27))
  have HS2 := Lib.hid (Blk.alloc (Blk.below HS1.out hb2 HS1.out.lt) (Obj.cells (iC p' co' o' m' r' (b' : Int) va' ln') 27))
  have HK2 := Lib.hid (Blk.new w2 27 (iC p' co' o' m' r' (b' : Int) va' ln') (0, 0))
  clear hb2
  go_upto_region 3 with (fail)
  obtain ⟨g, hg⟩ : ∃ g, w1.heap.size = g := ⟨_, rfl⟩
  obtain ⟨g2, hg2⟩ : ∃ g, w2.heap.size = g := ⟨_, rfl⟩
  rw [hg] at HS2 ⊢
  rw [hg2] at HK2 ⊢
  generalize w2.alloc (Obj.cells (iC p' co' o' m' r' (b' : Int) va' ln') 27) = W2 at HB2 HS2 HK2 ⊢
  clear HB1 HS1 hg hg2 H1 H2
  obtain ⟨c0, c1, c2, c3, c4, c5, c6, c7⟩ := HS2.out.s8
  obtain ⟨e0, e1, e2, e3, e4, e5, e6, e7⟩ := HK2.out.s8
  by_cases hl1 : 20 < n
  · have d1 : decide ((20 : Int) < (n : Int)) = true := decide_eq_true (by omega)
    have d2 : decide (20 < n) = true := decide_eq_true hl1
    clear hl1
    go_wp2
    go_ret
    exact ⟨rfl, HB2.out⟩
  have d1 : decide ((20 : Int) < (n : Int)) = false := decide_eq_false (by omega)
  have d2 : decide (20 < n) = false := decide_eq_false hl1
  clear hl1
  by_cases hl2 : 20 < n2
  · have d3 : decide ((20 : Int) < (n2 : Int)) = true := decide_eq_true (by omega)
    have d4 : decide (20 < n2) = true := decide_eq_true hl2
    clear hl2
    go_wp2
    go_ret
    exact ⟨rfl, HB2.out⟩
  have d3 : decide ((20 : Int) < (n2 : Int)) = false := decide_eq_false (by omega)
  have d4 : decide (20 < n2) = false := decide_eq_false hl2
  clear hl2
  cases ok
  · clear E1 E2
    go_wp2_with fail
    refine (CA.out _ (HDx.out _ HB2.out)).mono ?_
    rintro e w3 ⟨rfl, hb3⟩
    have HB3 := Lib.hid (Below.trans0 HB2.out hb3)
    clear hb3
    go_wp2
    go_ret
    exact ⟨rfl, HB3.out⟩
  cases ok'
  · clear E1 E2
    go_wp2_with fail
    refine (CA.out _ (HDx.out _ HB2.out)).mono ?_
    rintro e w3 ⟨rfl, hb3⟩
    have HB3 := Lib.hid (Below.trans0 HB2.out hb3)
    clear hb3
    go_wp2
    go_ret
    exact ⟨rfl, HB3.out⟩
  obtain ⟨F, T, hr1⟩ := E1.out rfl
  obtain ⟨F', T', hr2⟩ := E2.out rfl
  have R1 := Lib.hid hr1
  have R2 := Lib.hid hr2
  clear E1 E2 hr1 hr2
  go_wp2_with fail
  refine (R1.out.sure _ (HDx.out _ HB2.out)).mono ?_
  rintro e w3 ⟨rfl, hb3⟩
  have HB3 := Lib.hid (Below.trans0 HB2.out hb3)
  have HS3 := Lib.hid (Blk.below HS2.out hb3 HS2.out.lt)
  have HK3 := Lib.hid (Blk.below HK2.out hb3 HK2.out.lt)
  clear hb3 c0 c1 c2 c3 c4 c5 c6 c7 e0 e1 e2 e3 e4 e5 e6 e7
  obtain ⟨c0, c1, c2, c3, c4, c5, c6, c7⟩ := HS3.out.s8
  obtain ⟨e0, e1, e2, e3, e4, e5, e6, e7⟩ := HK3.out.s8
  cases F
  · go_wp2_with fail
    refine (CA.out _ (HDx.out _ HB3.out)).mono ?_
    rintro e w4 ⟨rfl, hb4⟩
    have HB4 := Lib.hid (Below.trans0 HB3.out hb4)
    clear hb4
    go_wp2
    go_ret
    exact ⟨rfl, HB4.out⟩
  go_wp2_with fail
  refine (R2.out.sure _ (HDx.out _ HB3.out)).mono ?_
  rintro e w4 ⟨rfl, hb4⟩
  have HB4 := Lib.hid (Below.trans0 HB3.out hb4)
  have HS4 := Lib.hid (Blk.below HS3.out hb4 HS3.out.lt)
  have HK4 := Lib.hid (Blk.below HK3.out hb4 HK3.out.lt)
  clear hb4 c0 c1 c2 c3 c4 c5 c6 c7 e0 e1 e2 e3 e4 e5 e6 e7
  cases F'
  · go_wp2_with fail
    refine (CA.out _ (HDx.out _ HB4.out)).mono ?_
    rintro e w5 ⟨rfl, hb5⟩
    have HB5 := Lib.hid (Below.trans0 HB4.out hb5)
    clear hb5
    go_wp2
    go_ret
    exact ⟨rfl, HB5.out⟩
  have hTQ := sure_eq HA0.out R1.out R2.out
  have he := fun w => eql_ins w p co o m r (b : Int) va ln p' co' o' m' r' (b' : Int) va' ln'
  generalize insEq p co o m r (b : Int) va ln p' co' o' m' r' (b' : Int) va' ln' = Q at hTQ he
  have hQQ : (Q == Q) = true := by simp
  have HTQ := Lib.hid hTQ
  have HBd := Lib.hid (Below.drew0 HB4.out)
  have HSd := Lib.hid (Blk.drew HS4.out)
  have HKd := Lib.hid (Blk.drew HK4.out)
  have CT1 := Lib.hid R1.out.text
  have CT2 := Lib.hid R2.out.text
  clear R1 R2 HS2 HS3 HK2 HK3
  go_upto_region 5 with (fail)
  go_region_held3 (fun w' => (w'.cell? ⟨g, 0, none⟩ = some (.int .i64 p) ∧ w'.cell? ⟨g, 1, none⟩ = some (.int .u8 co) ∧ w'.cell? ⟨g, 2, none⟩ = some (.int .i64 o) ∧ w'.cell? ⟨g, 3, none⟩ = some (.int .i64 m) ∧ w'.cell? ⟨g, 4, none⟩ = some (.int .i64 r) ∧ w'.cell? ⟨g, 5, none⟩ = some (.int .u8 (b : Int)) ∧ w'.cell? ⟨g, 6, none⟩ = some (.int .u16 va) ∧ w'.cell? ⟨g, 7, none⟩ = some (.int .i64 ln)) ∧ (w'.cell? ⟨g2, 0, none⟩ = some (.int .i64 p') ∧ w'.cell? ⟨g2, 1, none⟩ = some (.int .u8 co') ∧ w'.cell? ⟨g2, 2, none⟩ = some (.int .i64 o') ∧ w'.cell? ⟨g2, 3, none⟩ = some (.int .i64 m') ∧ w'.cell? ⟨g2, 4, none⟩ = some (.int .i64 r') ∧ w'.cell? ⟨g2, 5, none⟩ = some (.int .u8 (b' : Int)) ∧ w'.cell? ⟨g2, 6, none⟩ = some (.int .u16 va') ∧ w'.cell? ⟨g2, 7, none⟩ = some (.int .i64 ln')))
    (first
      | (with_reducible exact ⟨HSd.out.s8, HKd.out.s8⟩)
      | (with_reducible exact ⟨HS5.out.s8, HK5.out.s8⟩)
      | (with_reducible exact ⟨HS6.out.s8, HK6.out.s8⟩))
    ((go_at_call 8; first
      | ((with_reducible refine (CT2.out _ (HDx.out _ HB5.out)).mono ?_); rintro e w6 ⟨rfl, hb6⟩; have HS6 := Lib.hid (Blk.below HS5.out hb6 HS5.out.lt); have HK6 := Lib.hid (Blk.below HK5.out hb6 HK5.out.lt); have HB6 := Lib.hid (Below.trans0 HB5.out hb6); clear hb6)
      | ((with_reducible refine (CT1.out _ (HDx.out _ HBd.out)).mono ?_); rintro e w5 ⟨rfl, hb5⟩; have HS5 := Lib.hid (Blk.below HSd.out hb5 HSd.out.lt); have HK5 := Lib.hid (Blk.below HKd.out hb5 HKd.out.lt); have HB5 := Lib.hid (Below.trans0 HBd.out hb5); clear hb5)))
  all_goals
    obtain ⟨c0, c1, c2, c3, c4, c5, c6, c7⟩ := HS6.out.s8
    obtain ⟨e0, e1, e2, e3, e4, e5, e6, e7⟩ := HK6.out.s8
    go_wp2_with fail
    refine (CA.out _ (HDx.out _ HB6.out)).mono ?_
    rintro e w7 ⟨rfl, hb7⟩
    have HB7 := Lib.hid (Below.trans0 HB6.out hb7)
    clear hb7
    go_wp2
    go_ret
    exact ⟨rfl, HB7.out⟩
end Go.Proofs.YtopkjniegncokaaDoor
