/- Instructions as bytes say them, there and back: plain lemmas; the law InstReads over numbers. -/
import Derived.Test.YtljhfalgplihhaaGreatDoorInsX
namespace Go.Proofs.YtljhfalgplihhaaGreatDoor
open Go.ChangeShapes Go.WideShapes Go.ChangeAt Go.RowKit
set_option linter.unusedVariables false

theorem take_range (xs : List Int) (k : Nat) (h : k ≤ xs.length) : xs.take k = (List.range k).map (iat xs) := by
  apply List.ext_getElem
  · simp; omega
  · intro i h1 h2
    simp at h1 h2
    rw [List.getElem_take, List.getElem_map, List.getElem_range, iat_eq _ _ (by omega)]
theorem iat_take (xs : List Int) (k i : Nat) (h : i < k) : iat (xs.take k) i = iat xs i := by
  unfold iat
  rw [List.getD_eq_getElem?_getD, List.getD_eq_getElem?_getD, List.getElem?_take, if_pos h]
theorem inL1_le (xs : List Int) : 1 ≤ inL1 xs ∧ inL1 xs ≤ inL2 xs ∧ inL2 xs ≤ inLn xs := by
  unfold inLn inL2
  refine ⟨?_, by omega, by omega⟩
  unfold inL1; split <;> omega
theorem in_agree {xs zs : List Int} (h : ∀ i, i < inLn xs → iat zs i = iat xs i) :
    inPg zs = inPg xs ∧ inCo zs = inCo xs ∧ inE zs = inE xs ∧ inPo zs = inPo xs ∧ inVa zs = inVa xs ∧ inLn zs = inLn xs := by
  obtain ⟨l1, l2, l3⟩ := inL1_le xs
  have h0 := h 0 (by omega)
  have hPg : inPg zs = inPg xs := by unfold inPg; rw [h0]
  have hL1 : inL1 zs = inL1 xs := by unfold inL1; rw [hPg]
  have hCo : inCo zs = inCo xs := by
    unfold inCo
    rw [hPg]
    by_cases hp : inPg xs = 1
    · rw [if_pos hp, if_pos hp, h0]
    · rw [if_neg hp, if_neg hp, h 1 (by
        have : inL1 xs = 2 := by unfold inL1; rw [if_neg hp]
        omega)]
  have hE : inE zs = inE xs := by unfold inE; rw [hPg, hCo]
  have hMd : inMd zs = inMd xs := by unfold inMd; rw [hE]
  have hL2 : inL2 zs = inL2 xs := by unfold inL2; rw [hL1, hMd]
  have hPo : inPo zs = inPo xs := by
    unfold inPo
    rw [hMd, hL1]
    cases hp : pstd (inMd xs)
    · rfl
    · rw [if_pos rfl, if_pos rfl, h _ (by
        have : inL2 xs = inL1 xs + 1 := by unfold inL2; rw [hp]; rfl
        omega)]
  have hN : inN zs = inN xs := by unfold inN; rw [hMd, hPo]
  have hLn : inLn zs = inLn xs := by unfold inLn; rw [hL2, hN]
  refine ⟨hPg, hCo, hE, hPo, ?_, hLn⟩
  unfold inVa
  rw [hN, hMd, hL2]
  by_cases n1 : inN xs = 1
  · rw [if_pos n1, if_pos n1, h _ (by unfold inLn; omega)]
  · rw [if_neg n1, if_neg n1]
    by_cases n2 : inN xs = 2
    · rw [if_pos n2, if_pos n2, h _ (by unfold inLn; omega), h _ (by unfold inLn; omega)]
    · rw [if_neg n2, if_neg n2]
theorem inN_le {xs : List Int} (h : ∀ z ∈ xs, (Lit.int .u8 z).wf = true) : inN xs ≤ 2 := by
  have hp := inPo_range h
  exact shN_le _ _ (inMd_le h) ⟨hp.1, hp.2⟩
theorem signOf_mod (x : Int) (h0 : 0 ≤ x) (h1 : x < 256) : signOf x % 256 = x := by unfold signOf; split <;> omega
/-- What bytes say is written as these bytes. -/
theorem put_take {xs : List Int} (h : ∀ z ∈ xs, (Lit.int .u8 z).wf = true) (hok : inOk xs = true) :
    putX (inPg xs : Int) (inCo xs) (eMode (inE xs)) (inPo xs).toNat (inVa xs) = xs.take (inLn xs) := by
  have hle : inLn xs ≤ xs.length := of_decide_eq_true hok
  rw [take_range _ _ hle]
  have hpo := inPo_range h
  have hpo' : (((inPo xs).toNat : Nat) : Int) = inPo xs := by omega
  have hr := fun k => iat_range8' h k
  have hA : (inL1 xs = 1 ∧ putA (inPg xs : Int) ++ [inCo xs] = [iat xs 0]) ∨ (inL1 xs = 2 ∧ putA (inPg xs : Int) ++ [inCo xs] = [iat xs 0, iat xs 1]) := by
    unfold inL1 inCo inPg putA
    by_cases h16 : iat xs 0 = 16
    · right; rw [if_pos h16]; simp [h16]
    · by_cases h17 : iat xs 0 = 17
      · right; rw [if_neg h16, if_pos h17]; simp [h17]
      · left; rw [if_neg h16, if_neg h17]; simp
  have hB : (inL2 xs = inL1 xs ∧ putB (eMode (inE xs)) (inPo xs) = []) ∨ (inL2 xs = inL1 xs + 1 ∧ putB (eMode (inE xs)) (inPo xs) = [iat xs (inL1 xs)]) := by
    unfold inL2 putB inPo inMd
    rw [pstdI_nat]
    cases pstd (eMode (inE xs))
    · left; simp
    · right; simp
  have hw : widI (eMode (inE xs) : Int) (inPo xs).toNat = inN xs := by
    have h2 := widI_nat (eMode (inE xs)) (inPo xs).toNat (inMd_le h)
    rw [h2, hpo']; rfl
  have hC : (inN xs = 0 ∧ putC (eMode (inE xs)) (inPo xs).toNat (inVa xs) = []) ∨ (inN xs = 1 ∧ putC (eMode (inE xs)) (inPo xs).toNat (inVa xs) = [iat xs (inL2 xs)]) ∨ (inN xs = 2 ∧ putC (eMode (inE xs)) (inPo xs).toNat (inVa xs) = [iat xs (inL2 xs), iat xs (inL2 xs + 1)]) := by
    have hn := inN_le h
    unfold putC
    rw [hw]
    have r1 := hr (inL2 xs)
    have r2 := hr (inL2 xs + 1)
    rcases (show inN xs = 0 ∨ inN xs = 1 ∨ inN xs = 2 by omega) with hn | hn | hn
    · left; rw [hn]; simp
    · right; left
      refine ⟨hn, ?_⟩
      unfold inVa
      rw [if_pos hn, if_pos hn]
      congr 1
      split
      · exact signOf_mod _ r1.1 r1.2
      · omega
    · right; right
      refine ⟨hn, ?_⟩
      unfold inVa
      rw [hn, if_neg (by decide), if_pos rfl, if_neg (by decide), if_pos rfl]
      congr 1
      · omega
      · congr 1; omega
  unfold putX
  rw [hpo', show inLn xs = inL2 xs + inN xs from rfl]
  rcases hA with ⟨a1, a2⟩ | ⟨a1, a2⟩ <;> rcases hB with ⟨b1, b2⟩ | ⟨b1, b2⟩ <;> rcases hC with ⟨c1, c2⟩ | ⟨c1, c2⟩ | ⟨c1, c2⟩
  all_goals
    rw [a2, b2, c2, b1, c1, a1]
    rfl
theorem insEq_self (p c o m r b v l : Int) : insEq p c o m r b v l p c o m r b v l = true := by unfold insEq; simp
theorem putOk_self {xs : List Int} (h : ∀ z ∈ xs, (Lit.int .u8 z).wf = true) (hok : inOk xs = true) :
    putOk (inPg xs : Int) (inCo xs) (eOp (inE xs)) (eMode (inE xs)) (eReg (inE xs)) (inPo xs).toNat (inVa xs) (inLn xs : Int) (xs.take (inLn xs)) = true := by
  have hle : inLn xs ≤ xs.length := of_decide_eq_true hok
  obtain ⟨h1, h2, h3, h4, h5, h6⟩ := in_agree (xs := xs) (zs := xs.take (inLn xs)) (fun i hi => iat_take _ _ _ hi)
  have hpo := inPo_range h
  have hpo' : (((inPo xs).toNat : Nat) : Int) = inPo xs := by omega
  unfold putOk
  rw [h1, h2, h3, h4, h5, h6, hpo', insEq_self, Bool.and_true]
  unfold inOk
  rw [h6, List.length_take]
  exact decide_eq_true (by omega)
theorem hasPre_take (xs : List Int) (k : Nat) (h : k ≤ xs.length) : hasPre xs (xs.take k) = true := by
  unfold hasPre
  rw [List.length_take, Nat.min_eq_left h, beq_self_eq_true, Bool.and_true]
  exact decide_eq_true h
set_option maxRecDepth 100000 in
set_option maxHeartbeats 1000000 in
theorem eql_ins (w : World) (p c o m r b v l p' c' o' m' r' b' v' l' : Int) :
    (binOp .eql 37 (.agg #[.int .i64 p, .int .u8 c, .int .i64 o, .int .i64 m, .int .i64 r, .int .u8 b, .int .u16 v, .int .i64 l]) (.agg #[.int .i64 p', .int .u8 c', .int .i64 o', .int .i64 m', .int .i64 r', .int .u8 b', .int .u16 v', .int .i64 l'])).run Tryz.prog w = .ok (.bool (insEq p c o m r b v l p' c' o' m' r' b' v' l')) w := by
  unfold insEq
  by_cases h1 : p = p'
  · subst h1
    by_cases h2 : c = c'
    · subst h2
      by_cases h3 : o = o'
      · subst h3
        by_cases h4 : m = m'
        · subst h4
          by_cases h5 : r = r'
          · subst h5
            by_cases h6 : b = b'
            · subst h6
              by_cases h7 : v = v'
              · subst h7
                by_cases h8 : l = l'
                · subst h8
                  go_simp
                · have e : (l == l') = false := by simpa using h8
                  go_simp
              · have e : (v == v') = false := by simpa using h7
                go_simp
            · have e : (b == b') = false := by simpa using h6
              go_simp
          · have e : (r == r') = false := by simpa using h5
            go_simp
        · have e : (m == m') = false := by simpa using h4
          go_simp
      · have e : (o == o') = false := by simpa using h3
        go_simp
    · have e : (c == c') = false := by simpa using h2
      go_simp
  · have e : (p == p') = false := by simpa using h1
    go_simp
end Go.Proofs.YtljhfalgplihhaaGreatDoor
