/- Operations by their numbers, as numbers: what a byte, a word is then, the codes, and whether it is written; which codes no operation turns. -/
import Derived.Test.YtkdekhcnamkcgabWid
import Derived.Test.YtkdekhcnamkcgabLog
import Derived.Test.YtkdekhcnamkcgabShiRef
import Derived.Test.YtkdekhcnamkcgabCnt
namespace Go.Proofs.Ytkdekhcnamkcgab
set_option linter.unusedVariables false

def e8 (op a b cc : Int) : Int × Int × Bool :=
  if op = 2 then ((a + b + cc % 2) % 256, addC cc a b (cc % 2), true) else
  if op = 3 then ((a + b) % 256, addC cc a b 0, true) else
  if op = 4 then (bits .and .u8 a b, tstC cc (bits .and .u8 a b), true) else
  if op = 5 then (a, tstC cc (bits .and .u8 a b), false) else
  if op = 6 then (a, subC cc a b 0, false) else
  if op = 7 then (bits .xor .u8 a b, tstC cc (bits .xor .u8 a b), true) else
  if op = 8 then (bits .or .u8 a b, tstC cc (bits .or .u8 a b), true) else
  if op = 9 then ((a - b - cc % 2) % 256, subC cc a b (cc % 2), true) else
  if op = 10 then ((a - b) % 256, subC cc a b 0, true) else
  if op = 11 then (b, tstC cc b, true) else (a, cc, false)
def c8 (op a cc : Int) : Int × Int × Bool :=
  if op = 13 then ((0 - a) % 256, subC cc 0 a 0, true) else
  if op = 14 then (255 - a, putRef (tstC cc (255 - a)) 1 true, true) else
  if op = 15 then (rightR a (inLsr a cc), rightC cc a (inLsr a cc), true) else
  if op = 16 then (rightR a (inRor a cc), rightC cc a (inRor a cc), true) else
  if op = 17 then (rightR a (inAsr a cc), rightC cc a (inAsr a cc), true) else
  if op = 18 then (leftR a 0, leftC cc a 0, true) else
  if op = 19 then (leftR a (cc % 2), leftC cc a (cc % 2), true) else
  if op = 20 then ((a - 1) % 256, decC cc a, true) else
  if op = 21 then ((a + 1) % 256, incC cc a, true) else
  if op = 22 then (a, tstC cc a, false) else
  if op = 23 then (0, putRef (tstC cc 0) 1 false, true) else (a, cc, false)
def w16 (op a b cc : Int) : Int × Int × Bool :=
  if op = 24 then (b, tstW cc b, true) else
  if op = 26 then ((a + b) % 65536, wordC cc (a + b) (sgW a + sgW b), true) else
  if op = 27 then ((a - b) % 65536, wordC cc (a - b) (sgW a - sgW b), true) else
  if op = 28 then (a, wordC cc (a - b) (sgW a - sgW b), false) else (a, cc, false)
/-- The codes f, g are the same in the bits E, F, I; and H. -/
def SameFI (f g : Int) : Prop := hasRef f 128 = hasRef g 128 ∧ hasRef f 64 = hasRef g 64 ∧ hasRef f 16 = hasRef g 16
def SameH (f g : Int) : Prop := hasRef f 32 = hasRef g 32
theorem bit16 : IsBit 16 := by unfold IsBit; omega
theorem bit64 : IsBit 64 := by unfold IsBit; omega
theorem bit128 : IsBit 128 := by unfold IsBit; omega
theorem put_keeps (cc m : Int) (on : Bool) (h : CC cc) (hm : IsBit m) (k : Int) (hk : IsBit k) (hne : m ≠ k) : hasRef (putRef cc m on) k = hasRef cc k := hasRef_putN cc m k on h.1 h.2 hm hk hne
theorem nz_keeps (cc r half : Int) (h : CC cc) (k : Int) (hk : IsBit k) (h8 : k ≠ 8) (h4 : k ≠ 4) : hasRef (nzRef cc r half) k = hasRef cc k := hasRef_nz cc r half k h.1 h.2 hk h8 h4
theorem add_keeps (cc a b c : Int) (h : CC cc) (k : Int) (hk : IsBit k) (h1 : k ≠ 1) (h2 : k ≠ 2) (h4 : k ≠ 4) (h8 : k ≠ 8) (h32 : k ≠ 32) : hasRef (addC cc a b c) k = hasRef cc k := by
  unfold addC
  have q0 := h.nz ((a + b + c) % 256) 128
  have q1 := q0.put 32 (decide (15 < a % 16 + b % 16 + c))
  have q2 := q1.put 2 (outOf (-128) 127 (sg a + sg b + c))
  rw [put_keeps _ 1 _ q2 bit1 k hk (Ne.symm h1), put_keeps _ 2 _ q1 bit2 k hk (Ne.symm h2), put_keeps _ 32 _ q0 bit32 k hk (Ne.symm h32), nz_keeps _ _ _ h k hk h8 h4]
theorem sub_keeps (cc a b c : Int) (h : CC cc) (k : Int) (hk : IsBit k) (h1 : k ≠ 1) (h2 : k ≠ 2) (h4 : k ≠ 4) (h8 : k ≠ 8) : hasRef (subC cc a b c) k = hasRef cc k := by
  unfold subC
  have q0 := h.nz ((a - b - c) % 256) 128
  have q2 := q0.put 2 (outOf (-128) 127 (sg a - sg b - c))
  rw [put_keeps _ 1 _ q2 bit1 k hk (Ne.symm h1), put_keeps _ 2 _ q0 bit2 k hk (Ne.symm h2), nz_keeps _ _ _ h k hk h8 h4]
theorem tst_keeps (cc r : Int) (h : CC cc) (k : Int) (hk : IsBit k) (h2 : k ≠ 2) (h4 : k ≠ 4) (h8 : k ≠ 8) : hasRef (tstC cc r) k = hasRef cc k := by
  unfold tstC
  rw [put_keeps _ 2 _ (h.nz r 128) bit2 k hk (Ne.symm h2), nz_keeps _ _ _ h k hk h8 h4]
theorem tst1_keeps (cc r : Int) (on : Bool) (h : CC cc) (k : Int) (hk : IsBit k) (h1 : k ≠ 1) (h2 : k ≠ 2) (h4 : k ≠ 4) (h8 : k ≠ 8) : hasRef (putRef (tstC cc r) 1 on) k = hasRef cc k := by
  rw [put_keeps _ 1 _ (h.tst r) bit1 k hk (Ne.symm h1), tst_keeps _ _ h k hk h2 h4 h8]
theorem right_keeps (cc a : Int) (i : Bool) (h : CC cc) (k : Int) (hk : IsBit k) (h1 : k ≠ 1) (h4 : k ≠ 4) (h8 : k ≠ 8) : hasRef (rightC cc a i) k = hasRef cc k := by
  unfold rightC
  rw [put_keeps _ 1 _ (h.nz _ _) bit1 k hk (Ne.symm h1), nz_keeps _ _ _ h k hk h8 h4]
theorem left_keeps (cc a i : Int) (h : CC cc) (k : Int) (hk : IsBit k) (h1 : k ≠ 1) (h2 : k ≠ 2) (h4 : k ≠ 4) (h8 : k ≠ 8) : hasRef (leftC cc a i) k = hasRef cc k := by
  unfold leftC
  rw [put_keeps _ 1 _ ((h.nz _ _).put _ _) bit1 k hk (Ne.symm h1), put_keeps _ 2 _ (h.nz _ _) bit2 k hk (Ne.symm h2), nz_keeps _ _ _ h k hk h8 h4]
theorem inc_keeps (cc a : Int) (h : CC cc) (k : Int) (hk : IsBit k) (h2 : k ≠ 2) (h4 : k ≠ 4) (h8 : k ≠ 8) : hasRef (incC cc a) k = hasRef cc k := by
  unfold incC
  rw [put_keeps _ 2 _ (h.nz _ _) bit2 k hk (Ne.symm h2), nz_keeps _ _ _ h k hk h8 h4]
theorem dec_keeps (cc a : Int) (h : CC cc) (k : Int) (hk : IsBit k) (h2 : k ≠ 2) (h4 : k ≠ 4) (h8 : k ≠ 8) : hasRef (decC cc a) k = hasRef cc k := by
  unfold decC
  rw [put_keeps _ 2 _ (h.nz _ _) bit2 k hk (Ne.symm h2), nz_keeps _ _ _ h k hk h8 h4]
theorem word_keeps (cc p s : Int) (h : CC cc) (k : Int) (hk : IsBit k) (h1 : k ≠ 1) (h2 : k ≠ 2) (h4 : k ≠ 4) (h8 : k ≠ 8) : hasRef (wordC cc p s) k = hasRef cc k := by
  unfold wordC
  rw [put_keeps _ 1 _ ((h.nz _ _).put _ _) bit1 k hk (Ne.symm h1), put_keeps _ 2 _ (h.nz _ _) bit2 k hk (Ne.symm h2), nz_keeps _ _ _ h k hk h8 h4]
theorem tstW_keeps (cc r : Int) (h : CC cc) (k : Int) (hk : IsBit k) (h2 : k ≠ 2) (h4 : k ≠ 4) (h8 : k ≠ 8) : hasRef (tstW cc r) k = hasRef cc k := by
  unfold tstW
  rw [put_keeps _ 2 _ (h.nz _ _) bit2 k hk (Ne.symm h2), nz_keeps _ _ _ h k hk h8 h4]
theorem e8_cases (op : Int) : op = 2 ∨ op = 3 ∨ op = 4 ∨ op = 5 ∨ op = 6 ∨ op = 7 ∨ op = 8 ∨ op = 9 ∨ op = 10 ∨ op = 11 ∨ (op < 2 ∨ 11 < op) := by omega
theorem c8_cases (op : Int) : op = 13 ∨ op = 14 ∨ op = 15 ∨ op = 16 ∨ op = 17 ∨ op = 18 ∨ op = 19 ∨ op = 20 ∨ op = 21 ∨ op = 22 ∨ op = 23 ∨ (op < 13 ∨ 23 < op) := by omega
theorem w16_cases (op : Int) : op = 24 ∨ op = 26 ∨ op = 27 ∨ op = 28 ∨ (op < 24 ∨ 28 < op ∨ op = 25) := by omega
theorem e8_else {op : Int} (h : op < 2 ∨ 11 < op) (a b cc : Int) : e8 op a b cc = (a, cc, false) := by unfold e8; repeat (rw [if_neg (by omega)])
theorem c8_else {op : Int} (h : op < 13 ∨ 23 < op) (a cc : Int) : c8 op a cc = (a, cc, false) := by unfold c8; repeat (rw [if_neg (by omega)])
theorem w16_else {op : Int} (h : op < 24 ∨ 28 < op ∨ op = 25) (a b cc : Int) : w16 op a b cc = (a, cc, false) := by unfold w16; repeat (rw [if_neg (by omega)])
theorem e8_cc (op a b cc : Int) (h : CC cc) : CC (e8 op a b cc).2.1 := by
  rcases e8_cases op with rfl | rfl | rfl | rfl | rfl | rfl | rfl | rfl | rfl | rfl | hop
  · exact h.add _ _ _
  · exact h.add _ _ _
  · exact h.tst _
  · exact h.tst _
  · exact h.sub _ _ _
  · exact h.tst _
  · exact h.tst _
  · exact h.sub _ _ _
  · exact h.sub _ _ _
  · exact h.tst _
  · rw [e8_else hop]; exact h
theorem c8_cc (op a cc : Int) (h : CC cc) : CC (c8 op a cc).2.1 := by
  rcases c8_cases op with rfl | rfl | rfl | rfl | rfl | rfl | rfl | rfl | rfl | rfl | rfl | hop
  · exact h.sub _ _ _
  · exact (h.tst _).put _ _
  · exact h.right _ _
  · exact h.right _ _
  · exact h.right _ _
  · exact h.left _ _
  · exact h.left _ _
  · exact h.dec _
  · exact h.inc _
  · exact h.tst _
  · show CC (putRef (tstC cc 0) 1 false); exact CC.put (h.tst 0) 1 false
  · rw [c8_else hop]; exact h
theorem w16_cc (op a b cc : Int) (h : CC cc) : CC (w16 op a b cc).2.1 := by
  rcases w16_cases op with rfl | rfl | rfl | rfl | hop
  · exact h.tstW _
  · exact h.word _ _
  · exact h.word _ _
  · exact h.word _ _
  · rw [w16_else hop]; exact h
theorem e8_keeps (op a b cc : Int) (h : CC cc) (k : Int) (hk : IsBit k) (h1 : k ≠ 1) (h2 : k ≠ 2) (h4 : k ≠ 4) (h8 : k ≠ 8) (h32 : k ≠ 32 ∨ (op ≠ 2 ∧ op ≠ 3)) : hasRef (e8 op a b cc).2.1 k = hasRef cc k := by
  rcases e8_cases op with rfl | rfl | rfl | rfl | rfl | rfl | rfl | rfl | rfl | rfl | hop
  · exact add_keeps _ _ _ _ h k hk h1 h2 h4 h8 (by omega)
  · exact add_keeps _ _ _ _ h k hk h1 h2 h4 h8 (by omega)
  · exact tst_keeps _ _ h k hk h2 h4 h8
  · exact tst_keeps _ _ h k hk h2 h4 h8
  · exact sub_keeps _ _ _ _ h k hk h1 h2 h4 h8
  · exact tst_keeps _ _ h k hk h2 h4 h8
  · exact tst_keeps _ _ h k hk h2 h4 h8
  · exact sub_keeps _ _ _ _ h k hk h1 h2 h4 h8
  · exact sub_keeps _ _ _ _ h k hk h1 h2 h4 h8
  · exact tst_keeps _ _ h k hk h2 h4 h8
  · rw [e8_else hop]
theorem c8_keeps (op a cc : Int) (h : CC cc) (k : Int) (hk : IsBit k) (h1 : k ≠ 1) (h2 : k ≠ 2) (h4 : k ≠ 4) (h8 : k ≠ 8) : hasRef (c8 op a cc).2.1 k = hasRef cc k := by
  rcases c8_cases op with rfl | rfl | rfl | rfl | rfl | rfl | rfl | rfl | rfl | rfl | rfl | hop
  · exact sub_keeps _ _ _ _ h k hk h1 h2 h4 h8
  · exact tst1_keeps _ _ _ h k hk h1 h2 h4 h8
  · exact right_keeps _ _ _ h k hk h1 h4 h8
  · exact right_keeps _ _ _ h k hk h1 h4 h8
  · exact right_keeps _ _ _ h k hk h1 h4 h8
  · exact left_keeps _ _ _ h k hk h1 h2 h4 h8
  · exact left_keeps _ _ _ h k hk h1 h2 h4 h8
  · exact dec_keeps _ _ h k hk h2 h4 h8
  · exact inc_keeps _ _ h k hk h2 h4 h8
  · exact tst_keeps _ _ h k hk h2 h4 h8
  · show hasRef (putRef (tstC cc 0) 1 false) k = hasRef cc k; exact tst1_keeps cc 0 false h k hk h1 h2 h4 h8
  · rw [c8_else hop]
theorem w16_keeps (op a b cc : Int) (h : CC cc) (k : Int) (hk : IsBit k) (h1 : k ≠ 1) (h2 : k ≠ 2) (h4 : k ≠ 4) (h8 : k ≠ 8) : hasRef (w16 op a b cc).2.1 k = hasRef cc k := by
  rcases w16_cases op with rfl | rfl | rfl | rfl | hop
  · exact tstW_keeps _ _ h k hk h2 h4 h8
  · exact word_keeps _ _ _ h k hk h1 h2 h4 h8
  · exact word_keeps _ _ _ h k hk h1 h2 h4 h8
  · exact word_keeps _ _ _ h k hk h1 h2 h4 h8
  · rw [w16_else hop]
/-- In the codes' own bits: those that are another one. -/
theorem has_test7 (n : Nat) : hasRef (n : Int) 128 = n.testBit 7 := by unfold hasRef; rw [Nat.testBit_eq_decide_div_mod_eq, Bool.eq_iff_iff]; simp; omega
theorem has_test6 (n : Nat) : hasRef (n : Int) 64 = n.testBit 6 := by unfold hasRef; rw [Nat.testBit_eq_decide_div_mod_eq, Bool.eq_iff_iff]; simp; omega
theorem has_test5 (n : Nat) : hasRef (n : Int) 32 = n.testBit 5 := by unfold hasRef; rw [Nat.testBit_eq_decide_div_mod_eq, Bool.eq_iff_iff]; simp; omega
theorem has_test4 (n : Nat) : hasRef (n : Int) 16 = n.testBit 4 := by unfold hasRef; rw [Nat.testBit_eq_decide_div_mod_eq, Bool.eq_iff_iff]; simp; omega
theorem xor_mask (n m M : Nat) (hM : ∀ i, M.testBit i = true → n.testBit i = m.testBit i) : (n ^^^ m) &&& M = 0 := by
  apply Nat.eq_of_testBit_eq
  intro i
  rw [Nat.testBit_and, Nat.testBit_xor, Nat.zero_testBit]
  cases h : M.testBit i
  · simp
  · rw [hM i h]; simp
theorem test_lt (M i : Nat) (hM : M < 256) (h : M.testBit i = true) : i < 8 := by
  rcases Nat.lt_or_ge i 8 with a | a
  · exact a
  · rw [Nat.testBit_lt_two_pow (Nat.lt_of_lt_of_le hM (Nat.pow_le_pow_right (n := 2) (by decide) a))] at h; cases h
theorem mask208 : ∀ i : Fin 8, (208 : Nat).testBit i.val = true → i.val = 7 ∨ i.val = 6 ∨ i.val = 4 := by decide
theorem mask240 : ∀ i : Fin 8, (240 : Nat).testBit i.val = true → i.val = 7 ∨ i.val = 6 ∨ i.val = 4 ∨ i.val = 5 := by decide
theorem mask32 : ∀ i : Fin 8, (32 : Nat).testBit i.val = true → i.val = 5 := by decide
theorem u8_xor_nat (a b : Nat) (ha : a < 256) (hb : b < 256) : bits .xor .u8 (a : Int) (b : Int) = ((a ^^^ b : Nat) : Int) := by
  rw [bv_xor]
  have e1 : bv (a : Int) = BitVec.ofNat 8 a := by unfold bv; rw [BitVec.ofInt_natCast]
  have e2 : bv (b : Int) = BitVec.ofNat 8 b := by unfold bv; rw [BitVec.ofInt_natCast]
  rw [e1, e2, BitVec.toNat_xor, BitVec.toNat_ofNat, BitVec.toNat_ofNat, Nat.mod_eq_of_lt (by omega), Nat.mod_eq_of_lt (by omega)]
theorem xor_lt (a b : Nat) (ha : a < 256) (hb : b < 256) : a ^^^ b < 256 := Nat.xor_lt_two_pow (n := 8) ha hb
theorem keeps208 (f g : Int) (hf : CC f) (hg : CC g) (h : ∀ k, k = 128 ∨ k = 64 ∨ k = 16 → hasRef f k = hasRef g k) : bits .and .u8 (bits .xor .u8 f g) 208 = 0 := by
  obtain ⟨n, rfl⟩ := Int.eq_ofNat_of_zero_le hf.1
  obtain ⟨m, rfl⟩ := Int.eq_ofNat_of_zero_le hg.1
  have hn : n < 256 := by have := hf.2; omega
  have hm : m < 256 := by have := hg.2; omega
  have key : (n ^^^ m) &&& 208 = 0 := xor_mask n m 208 fun i hi => by
    have hlt := test_lt 208 i (by decide) hi
    rcases mask208 ⟨i, hlt⟩ hi with e | e | e
    · simp only at e; subst e; rw [← has_test7, ← has_test7]; exact h _ (by omega)
    · simp only at e; subst e; rw [← has_test6, ← has_test6]; exact h _ (by omega)
    · simp only at e; subst e; rw [← has_test4, ← has_test4]; exact h _ (by omega)
  rw [u8_xor_nat n m hn hm, u8_and _ 208 (by omega) (by have := xor_lt n m hn hm; omega) (by decide) (by decide)]
  rw [Int.toNat_natCast, show (208 : Int).toNat = 208 from rfl, key]; rfl
theorem keeps240 (f g : Int) (hf : CC f) (hg : CC g) (h : ∀ k, k = 128 ∨ k = 64 ∨ k = 16 ∨ k = 32 → hasRef f k = hasRef g k) : bits .and .u8 (bits .xor .u8 f g) 240 = 0 := by
  obtain ⟨n, rfl⟩ := Int.eq_ofNat_of_zero_le hf.1
  obtain ⟨m, rfl⟩ := Int.eq_ofNat_of_zero_le hg.1
  have hn : n < 256 := by have := hf.2; omega
  have hm : m < 256 := by have := hg.2; omega
  have key : (n ^^^ m) &&& 240 = 0 := xor_mask n m 240 fun i hi => by
    have hlt := test_lt 240 i (by decide) hi
    rcases mask240 ⟨i, hlt⟩ hi with e | e | e | e
    · simp only at e; subst e; rw [← has_test7, ← has_test7]; exact h _ (by omega)
    · simp only at e; subst e; rw [← has_test6, ← has_test6]; exact h _ (by omega)
    · simp only at e; subst e; rw [← has_test4, ← has_test4]; exact h _ (by omega)
    · simp only at e; subst e; rw [← has_test5, ← has_test5]; exact h _ (by omega)
  rw [u8_xor_nat n m hn hm, u8_and _ 240 (by omega) (by have := xor_lt n m hn hm; omega) (by decide) (by decide)]
  rw [Int.toNat_natCast, show (240 : Int).toNat = 240 from rfl, key]; rfl
theorem keeps32 (f g : Int) (hf : CC f) (hg : CC g) (h : ∀ k, k = 32 → hasRef f k = hasRef g k) : bits .and .u8 (bits .xor .u8 f g) 32 = 0 := by
  obtain ⟨n, rfl⟩ := Int.eq_ofNat_of_zero_le hf.1
  obtain ⟨m, rfl⟩ := Int.eq_ofNat_of_zero_le hg.1
  have hn : n < 256 := by have := hf.2; omega
  have hm : m < 256 := by have := hg.2; omega
  have key : (n ^^^ m) &&& 32 = 0 := xor_mask n m 32 fun i hi => by
    have hlt := test_lt 32 i (by decide) hi
    rcases mask32 ⟨i, hlt⟩ hi with e
    · simp only at e; subst e; rw [← has_test5, ← has_test5]; exact h _ (by omega)
  rw [u8_xor_nat n m hn hm, u8_and _ 32 (by omega) (by have := xor_lt n m hn hm; omega) (by decide) (by decide)]
  rw [Int.toNat_natCast, show (32 : Int).toNat = 32 from rfl, key]; rfl
theorem e8_stays (op a b cc : Int) : ((e8 op a b cc).2.2 || ((e8 op a b cc).1 == a)) = true := by
  rcases e8_cases op with rfl | rfl | rfl | rfl | rfl | rfl | rfl | rfl | rfl | rfl | hop
  iterate 3 · rfl
  iterate 2 · show (false || (a == a)) = true; simp
  iterate 5 · rfl
  · rw [e8_else hop]; simp
theorem c8_stays (op a cc : Int) : ((c8 op a cc).2.2 || ((c8 op a cc).1 == a)) = true := by
  rcases c8_cases op with rfl | rfl | rfl | rfl | rfl | rfl | rfl | rfl | rfl | rfl | rfl | hop
  iterate 9 · rfl
  · show (false || (a == a)) = true; simp
  · rfl
  · rw [c8_else hop]; simp
theorem w16_stays (op a b cc : Int) : ((w16 op a b cc).2.2 || ((w16 op a b cc).1 == a)) = true := by
  rcases w16_cases op with rfl | rfl | rfl | rfl | hop
  iterate 3 · rfl
  · show (false || (a == a)) = true; simp
  · rw [w16_else hop]; simp
end Go.Proofs.Ytkdekhcnamkcgab
