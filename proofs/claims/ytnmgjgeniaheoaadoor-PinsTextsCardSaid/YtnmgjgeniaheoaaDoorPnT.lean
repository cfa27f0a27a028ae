/- Pins as a text, plainly: words, joined by blanks, are read as they were. -/
import Derived.Test.YtnmgjgeniaheoaaDoorPnS
import Derived.Test.YtnmgjgeniaheoaaDoorDigLaw
import Derived.Test.YtnmgjgeniaheoaaDoorStE
namespace Go.Proofs.YtnmgjgeniaheoaaDoor
open Go.ChangeShapes Go.WideShapes Go.ChangeAt Go.RowKit
set_option linter.unusedVariables false

/-- How many at the front are as one. -/
def alk (x : Pn) : List Pn → Nat
  | [] => 0
  | y :: l => if y = x then alk x l + 1 else 0
theorem alk_le (x : Pn) : ∀ l, alk x l ≤ l.length
  | [] => Nat.le_refl _
  | y :: l => by
    have := alk_le x l
    unfold alk
    rw [List.length_cons]
    split <;> omega
theorem alk_split (x : Pn) : ∀ l, l = List.replicate (alk x l) x ++ l.drop (alk x l)
  | [] => rfl
  | y :: l => by
    unfold alk
    split
    · next h =>
      rw [h, List.replicate_succ, List.cons_append, List.drop_succ_cons, ← alk_split x l]
    · rfl
theorem alk_eq (x : Pn) : ∀ (l : List Pn) (j : Nat), (∀ q, q < j → l[q]? = some x) → l[j]? ≠ some x → alk x l = j
  | [], 0, _, _ => rfl
  | [], j + 1, h, _ => by have := h 0 (by omega); simp at this
  | y :: l, 0, _, h => by
    unfold alk
    rw [if_neg (fun e => h (by rw [e]; rfl))]
  | y :: l, j + 1, h, h2 => by
    have h0 : y = x := by simpa using h 0 (by omega)
    unfold alk
    rw [if_pos h0, alk_eq x l j (fun q hq => by have := h (q + 1) (by omega); simpa using this) (by simpa using h2)]
/-- A word with how often. -/
noncomputable def dgt (n : Nat) : ByteArray := strOfNums (written 10 (n : Int) 1)
noncomputable def grpT (x : Pn) (n : Nat) : ByteArray := if 1 < n then pnW x ++ (⟨#[42]⟩ ++ dgt n) else pnW x
noncomputable def wds : Nat → List Pn → List ByteArray
  | 0, _ => []
  | f + 1, [] => []
  | f + 1, x :: l => grpT x (alk x l + 1) :: wds f (l.drop (alk x l))
theorem wds_nil (f : Nat) : wds f [] = [] := by cases f <;> rfl
theorem wds_fuel : ∀ (f g : Nat) (l : List Pn), l.length ≤ f → l.length ≤ g → wds f l = wds g l
  | 0, g, l, h, _ => by rw [show l = [] from List.eq_nil_of_length_eq_zero (by omega), wds_nil, wds_nil]
  | f + 1, 0, l, _, h => by rw [show l = [] from List.eq_nil_of_length_eq_zero (by omega), wds_nil, wds_nil]
  | f + 1, g + 1, [], _, _ => rfl
  | f + 1, g + 1, x :: l, h, h2 => by
    rw [List.length_cons] at h h2
    rw [wds, wds, wds_fuel f g _ (by rw [List.length_drop]; omega) (by rw [List.length_drop]; omega)]
noncomputable def wdL (l : List Pn) : List ByteArray := wds l.length l
theorem wdL_nil : wdL [] = [] := rfl
theorem wdL_cons (x : Pn) (l : List Pn) : wdL (x :: l) = grpT x (alk x l + 1) :: wdL (l.drop (alk x l)) := by
  unfold wdL
  rw [List.length_cons, wds, wds_fuel l.length _ _ (by rw [List.length_drop]; omega) (Nat.le_refl _)]
theorem wds_len : ∀ (f : Nat) (l : List Pn), (wds f l).length ≤ l.length
  | 0, l => Nat.zero_le _
  | f + 1, [] => Nat.le_refl _
  | f + 1, x :: l => by
    have := wds_len f (l.drop (alk x l))
    rw [List.length_drop] at this
    rw [wds, List.length_cons, List.length_cons]; omega
theorem wdL_len (l : List Pn) : (wdL l).length ≤ l.length := wds_len _ _
theorem dgt_size (n : Nat) (h : n ≤ 100000) : (dgt n).size ≤ 20 := size_written 10 n 20 1 (by decide) (by decide) (by decide) (by omega) (by omega)
theorem grpT_size (x : Pn) (n : Nat) (h : n ≤ 100000) : (grpT x n).size ≤ 27 := by
  have := pnW_size x
  have := dgt_size n h
  unfold grpT
  split
  · rw [ByteArray.size_append, ByteArray.size_append]
    show _ + (1 + _) ≤ _
    omega
  · omega
theorem wds_size : ∀ (f : Nat) (l : List Pn), l.length ≤ 100000 → ∀ w ∈ wds f l, w.size ≤ 27
  | 0, l, _, w, h => by cases h
  | f + 1, [], _, w, h => by cases h
  | f + 1, x :: l, hl, w, h => by
    rw [List.length_cons] at hl
    rw [wds] at h
    rcases List.mem_cons.1 h with rfl | h
    · exact grpT_size _ _ (by have := alk_le x l; omega)
    · exact wds_size f _ (by rw [List.length_drop]; omega) w h
theorem word_signs (x : Pn) : (pnW x).data.toList.all (fun c => c != 42 && c != 32) = true := by
  obtain ⟨p0, p1, p2, p3, p4, p5⟩ := x
  cases p0 <;> cases p1 <;> cases p2 <;> cases p3 <;> cases p4 <;> cases p5 <;> decide +kernel
theorem word_pos (x : Pn) : (pnW x).size ≠ 0 := by
  obtain ⟨p0, p1, p2, p3, p4, p5⟩ := x
  cases p0 <;> cases p1 <;> cases p2 <;> cases p3 <;> cases p4 <;> cases p5 <;> decide +kernel
theorem word_no (x : Pn) (c : UInt8) (h : c ∈ (pnW x).data.toList) : c ≠ 42 ∧ c ≠ 32 := by
  have := List.all_eq_true.1 (word_signs x) c h
  simpa using this
theorem idx_none (c : UInt8) : ∀ l : List UInt8, (∀ b ∈ l, b ≠ c) → Lib.indexByte l c = -1
  | [], _ => rfl
  | x :: l, h => by rw [idx_cons, if_neg (h x (by simp)), idx_none c l (fun b hb => h b (by simp [hb])), if_pos rfl]
theorem idx_at (c : UInt8) : ∀ (l r : List UInt8), (∀ b ∈ l, b ≠ c) → Lib.indexByte (l ++ c :: r) c = (l.length : Int)
  | [], r, _ => by rw [List.nil_append, idx_cons, if_pos rfl]; rfl
  | x :: l, r, h => by
    rw [List.cons_append, idx_cons, if_neg (h x (by simp)), idx_at c l r (fun b hb => h b (by simp [hb])), if_neg (by omega), List.length_cons]; omega
theorem dgt_wf (n : Nat) (h : n ≤ 100000) : ∃ L : List Int, dgt n = strOfNums L ∧ nums (dgt n) = L ∧ (∀ c ∈ L, 48 ≤ c ∧ c ≤ 57) ∧ cntD L = some (if 4097 < (n : Int) then 4097 else (n : Int)) ∧ L ≠ [] := by
  obtain ⟨m, hm, hl⟩ := need_ex 10 n 20 1 (by decide) (by decide) (qv_small 10 n 20 (by omega) (by omega))
  obtain ⟨r1, r2⟩ := read_back 10 n 20 1 m (by decide) (by decide) (by omega) (by omega) hm (by decide) hl
  have en := nums_written 10 n m (by decide) (by decide)
  have ew : dgt n = strOfNums (digitsTo 10 n m) := by unfold dgt; rw [written_eq (by decide) hm]
  rw [en] at r1 r2
  refine ⟨digitsTo 10 n m, ew, by rw [ew]; exact en, ?_⟩
  have hr : ∀ x ∈ digitsTo 10 (n : Int) m, 0 ≤ x ∧ x < 256 := fun x hx => by have := digitsTo_mem 10 n m (by decide) (by decide) x hx; omega
  generalize digitsTo 10 (n : Int) m = L at *
  have ck : chk 10 20 L = 0 := by
    apply Classical.byContradiction
    intro q
    rw [(num_bad q).2] at r2
    exact q r2
  have hg := (allGood_iff L hr).1 (chk_good ck).1
  have hne : L ≠ [] := fun e => by rw [e] at ck; exact absurd ck (by decide)
  refine ⟨hg, ?_, hne⟩
  unfold cntD
  rw [if_neg hne]
  cases hs : scan 10 L 0 with
  | none => rw [(num_none ck hs).2] at r2; omega
  | some v =>
    rw [(num_some ck hs).1] at r1
    have := (scan_dval L 0 (by omega) hg).1 v hs
    rw [cntV_digits L 0 (by omega) (by omega) hg 0 (.inl rfl), ← this, r1]
theorem dgt_noblank (n : Nat) (h : n ≤ 100000) (c : UInt8) (hc : c ∈ (dgt n).data.toList) : c ≠ 32 := by
  obtain ⟨L, e1, e2, e3, _⟩ := dgt_wf n h
  have : (c.toNat : Int) ∈ nums (dgt n) := by
    unfold nums
    exact List.mem_map.2 ⟨c, hc, rfl⟩
  rw [e2] at this
  have := e3 _ this
  intro e
  rw [e] at this
  exact absurd this.1 (by decide)
theorem grpT_noblank (x : Pn) (n : Nat) (h : n ≤ 100000) (c : UInt8) (hc : c ∈ (grpT x n).data.toList) : c ≠ 32 := by
  unfold grpT at hc
  split at hc
  · rw [app_list, app_list] at hc
    rcases List.mem_append.1 hc with hc | hc
    · exact (word_no x c hc).2
    · rcases List.mem_append.1 hc with hc | hc
      · have : c = 42 := by simpa using hc
        rw [this]; decide
      · exact dgt_noblank n h c hc
  · exact (word_no x c hc).2
where app_list (a b : ByteArray) : (a ++ b).data.toList = a.data.toList ++ b.data.toList := by simp
theorem app_list (a b : ByteArray) : (a ++ b).data.toList = a.data.toList ++ b.data.toList := by simp
theorem grp_grpT (x : Pn) (n : Nat) (h1 : 1 ≤ n) (h2 : n ≤ 4096) : grp (grpT x n) = .good x n := by
  by_cases hn : 1 < n
  · obtain ⟨L, e1, e2, e3, e4, e5⟩ := dgt_wf n (by omega)
    have ew : (grpT x n).data.toList = (pnW x).data.toList ++ 42 :: (dgt n).data.toList := by
      unfold grpT
      rw [if_pos hn, app_list, app_list]; rfl
    have hi : Lib.indexByte (grpT x n).data.toList 42 = ((pnW x).size : Int) := by rw [ew, idx_at 42 _ _ (fun b hb => (word_no x b hb).1), dlen]
    have hz : (grpT x n).size = (pnW x).size + 1 + (dgt n).size := by
      rw [← dlen, ew, List.length_append, List.length_cons, dlen, dlen]; omega
    have ep : (grpT x n).extract 0 (pnW x).size = pnW x := by
      rw [extract_take, ew, List.take_left' (dlen _)]
    have el : (grpT x n).extract ((pnW x).size + 1) (grpT x n).size = dgt n := by
      rw [extract_drop, ew, show (pnW x).size + 1 = ((pnW x).data.toList ++ [42]).length by rw [List.length_append, dlen]; rfl, show (pnW x).data.toList ++ 42 :: (dgt n).data.toList = ((pnW x).data.toList ++ [42]) ++ (dgt n).data.toList by simp, List.drop_left]
    have EP : grpP (grpT x n) = some x := by
      unfold grpP
      rw [if_neg (by omega), hi, Int.toNat_natCast, ep, one_word]
    have EL : grpL (grpT x n) = L := by
      unfold grpL
      rw [hi, Int.toNat_natCast, el, e2]
    have hE : timE L = 0 := by unfold timE; rw [e4, if_neg (by omega)]; simp only; rw [if_neg (by omega), if_neg (by omega)]
    have hV : timV L = (n : Int) := by unfold timV; rw [e4, if_neg (by omega)]; simp only; rw [if_neg (by omega), if_neg (by omega)]
    rw [grp_many EP (by omega) (by rw [EL]; exact hE), EL, hV, Int.toNat_natCast]
  · obtain rfl : n = 1 := by omega
    have ew : grpT x 1 = pnW x := by unfold grpT; rw [if_neg (by omega)]
    have hi : Lib.indexByte (pnW x).data.toList 42 < 0 := by rw [idx_none 42 _ (fun b hb => (word_no x b hb).1)]; decide
    rw [ew]
    exact grp_one (by unfold grpP; rw [if_pos hi, one_word]) hi
theorem grpT_pos (x : Pn) (n : Nat) : (grpT x n).size ≠ 0 := by
  have := word_pos x
  unfold grpT
  split
  · rw [ByteArray.size_append]; omega
  · exact this
theorem fld_wds : ∀ (f : Nat) (l out : List Pn), l.length ≤ f → out.length + l.length ≤ 4096 → fld out (wds f l) = .inr (out ++ l)
  | 0, l, out, h, _ => by rw [List.eq_nil_of_length_eq_zero (Nat.le_zero.1 h), wds_nil, fld, List.append_nil]
  | f + 1, [], out, _, _ => by rw [wds, fld, List.append_nil]
  | f + 1, x :: l, out, h, h2 => by
    rw [List.length_cons] at h h2
    have ha := alk_le x l
    rw [wds, fld, stp_good (grpT_pos _ _) (grp_grpT x _ (by omega) (by omega)), if_neg (by omega)]
    simp only
    rw [fld_wds f (l.drop (alk x l)) _ (by rw [List.length_drop]; omega) (by rw [List.length_append, List.length_replicate, List.length_drop]; omega)]
    congr 1
    rw [List.append_assoc, List.replicate_succ, List.cons_append, ← alk_split x l]
/-- Words with blanks between. -/
def jn (ws : List ByteArray) : ByteArray := ⟨(Lib.join (ws.map (·.data.toList)) [32]).toArray⟩
theorem join_more (x y : List UInt8) (r : List (List UInt8)) : Lib.join (x :: y :: r) [32] = x ++ 32 :: Lib.join (y :: r) [32] := by
  rw [Lib.join_cons, Lib.join_cons]
  rfl
theorem pcs_free (c : UInt8) : ∀ l : List UInt8, (∀ b ∈ l, b ≠ c) → pcs c l = [l] := fun l h => pcs_none c l (by rw [idx_none c l h]; decide)
theorem pcs_cut (c : UInt8) (l r : List UInt8) (h : ∀ b ∈ l, b ≠ c) : pcs c (l ++ c :: r) = l :: pcs c r := by
  have hi := idx_at c l r h
  rw [pcs_some c _ (by omega), hi, Int.toNat_natCast, List.take_left, show l ++ c :: r = (l ++ [c]) ++ r by simp, show l.length + 1 = (l ++ [c]).length by simp, List.drop_left]
theorem pcs_join : ∀ (ws : List (List UInt8)), ws ≠ [] → (∀ w ∈ ws, ∀ b ∈ w, b ≠ 32) → pcs 32 (Lib.join ws [32]) = ws
  | [], h, _ => absurd rfl h
  | [x], _, h => by rw [Lib.join_one]; exact pcs_free 32 x (h x (by simp))
  | x :: y :: r, _, h => by rw [join_more, pcs_cut 32 x _ (h x (by simp)), pcs_join (y :: r) (by simp) (fun w hw => h w (by simp at hw ⊢; exact .inr hw))]
theorem jn_len : ∀ (ws : List (List UInt8)), (∀ w ∈ ws, w.length ≤ 27) → (Lib.join ws [32]).length ≤ 28 * ws.length
  | [], _ => by simp [Lib.join_nil]
  | [x], h => by
    have := h x (by simp)
    rw [Lib.join_one, List.length_singleton]; omega
  | x :: y :: r, h => by
    have := h x (by simp)
    have ih := jn_len (y :: r) (fun w hw => h w (by simp at hw ⊢; exact .inr hw))
    rw [join_more, List.length_append, List.length_cons, List.length_cons]
    omega
theorem jn_snoc : ∀ (ws : List (List UInt8)) (w : List UInt8), ws ≠ [] → Lib.join (ws ++ [w]) [32] = Lib.join ws [32] ++ 32 :: w
  | [], _, h => absurd rfl h
  | [x], w, _ => by rw [List.singleton_append, join_more, Lib.join_one, Lib.join_one]
  | x :: y :: r, w, _ => by rw [List.cons_append, List.cons_append, join_more, ← List.cons_append, jn_snoc (y :: r) w (by simp), join_more, List.append_assoc, List.cons_append]
theorem jnB_snoc (ws : List ByteArray) (w : ByteArray) (h : ws ≠ []) : jn (ws ++ [w]) = (jn ws ++ ⟨#[32]⟩) ++ w := by
  unfold jn
  rw [List.map_append, List.map_singleton, jn_snoc _ _ (by simpa using h)]
  apply ByteArray.ext
  simp
theorem jnB_one (w : ByteArray) : jn [w] = w := by unfold jn; rw [List.map_singleton, Lib.join_one]
theorem jnB_nil : jn [] = ⟨#[]⟩ := rfl
theorem wds_noblank : ∀ (f : Nat) (l : List Pn), l.length ≤ 100000 → ∀ w ∈ wds f l, ∀ b ∈ w.data.toList, b ≠ 32
  | 0, l, _, w, h => by cases h
  | f + 1, [], _, w, h => by cases h
  | f + 1, x :: l, hl, w, h => by
    rw [List.length_cons] at hl
    rw [wds] at h
    rcases List.mem_cons.1 h with rfl | h
    · exact fun b hb => grpT_noblank _ _ (by have := alk_le x l; omega) b hb
    · exact wds_noblank f _ (by rw [List.length_drop]; omega) w h
theorem jn_size (l : List Pn) (h : l.length ≤ 300) : (jn (wdL l)).size ≤ 28 * l.length ∧ (Lib.join ((wdL l).map (·.data.toList)) [32]).length ≤ 28 * l.length := by
  have key := jn_len ((wdL l).map (·.data.toList)) (fun w hw => by
    obtain ⟨b, hb, rfl⟩ := List.mem_map.1 hw
    rw [dlen]
    exact wds_size _ _ (by omega) b hb)
  rw [List.length_map] at key
  have := wdL_len l
  refine ⟨?_, by omega⟩
  show (Lib.join _ _).toArray.size ≤ _
  rw [List.size_toArray]; omega
theorem jn_pos (ws : List ByteArray) (w : ByteArray) (hw : w.size ≠ 0) : (jn (ws ++ [w])).size ≠ 0 := by
  by_cases h : ws = []
  · subst h; rw [List.nil_append, jnB_one]; exact hw
  · rw [jnB_snoc _ _ h, ByteArray.size_append]; omega
/-- What is written is read. -/
theorem prs_jn (l : List Pn) (h : l.length ≤ 300) : prs (jn (wdL l)) = .inr l := by
  by_cases h0 : l = []
  · subst h0; rfl
  · have hne : wdL l ≠ [] := by
      cases l with
      | nil => exact absurd rfl h0
      | cons x l => rw [wdL_cons]; simp
    have hp : pcsB 32 (jn (wdL l)) = wdL l := by
      unfold pcsB jn
      rw [show (⟨(Lib.join ((wdL l).map (·.data.toList)) [32]).toArray⟩ : ByteArray).data.toList = Lib.join ((wdL l).map (·.data.toList)) [32] from rfl]
      rw [pcs_join _ (by simpa using hne) (fun w hw b hb => by
        obtain ⟨x, hx, rfl⟩ := List.mem_map.1 hw
        exact wds_noblank _ _ (by omega) x hx b hb)]
      rw [List.map_map]
      conv => rhs; rw [← List.map_id (wdL l)]
      apply List.map_congr_left
      intro w _
      exact mk_toList w
    unfold prs
    rw [hp]
    unfold wdL
    rw [fld_wds _ l [] (Nat.le_refl _) (by simp; omega), List.nil_append]
end Go.Proofs.YtnmgjgeniaheoaaDoor
