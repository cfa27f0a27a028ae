/- Wave: how often a line rises, how long it is high; what is read is what was drawn. -/
import Derived.Test.YtpleboogijgdcaaDoorWvA
import Derived.Test.YtpleboogijgdcaaDoorCv8
namespace Go.Proofs.YtpleboogijgdcaaDoor
open Go.ChangeShapes Go.WideShapes Go.ChangeAt Go.RowKit
set_option linter.unusedVariables false

/-- Is a line on in a record? -/
def wvO (x : Rc) (k : Int) : Bool := decide (0 ≤ k ∧ k ≤ 6) && wvB x k.toNat
def wvOn (l : List Rc) (k : Int) : List Bool := l.map fun x => wvO x k
/-- Of so many levels: how often they rise, how many are high. -/
def riN (b : List Bool) : Nat → Nat
  | 0 => 0
  | i + 1 => riN b i + (if b.getD i false && (i == 0 || !b.getD (i - 1) false) then 1 else 0)
def hiN (b : List Bool) : Nat → Nat
  | 0 => 0
  | i + 1 => hiN b i + (if b.getD i false then 1 else 0)
theorem riN_le (b : List Bool) (i : Nat) : riN b i ≤ i := by
  induction i with
  | zero => simp [riN]
  | succ i ih => rw [riN]; split <;> omega
theorem hiN_le (b : List Bool) (i : Nat) : hiN b i ≤ i := by
  induction i with
  | zero => simp [hiN]
  | succ i ih => rw [hiN]; split <;> omega
theorem riN_none (b : List Bool) (h : ∀ j, b.getD j false = false) (i : Nat) : riN b i = 0 := by
  induction i with
  | zero => rfl
  | succ i ih => rw [riN, ih, h i]; simp
theorem hiN_none (b : List Bool) (h : ∀ j, b.getD j false = false) (i : Nat) : hiN b i = 0 := by
  induction i with
  | zero => rfl
  | succ i ih => rw [hiN, ih, h i]; simp
theorem wvOn_out (l : List Rc) (k : Int) (hk : k < 0 ∨ 6 < k) (j : Nat) : (wvOn l k).getD j false = false := by
  have e : decide (0 ≤ k ∧ k ≤ 6) = false := by rw [decide_eq_false_iff_not]; omega
  unfold wvOn wvO
  rw [e]
  simp only [Bool.false_and, List.getD_eq_getElem?_getD, List.getElem?_map]
  cases l[j]? <;> rfl
theorem wvOn_at (l : List Rc) (K j : Nat) (hK : K < 7) (x : Rc) (h : l[j]? = some x) : (wvOn l (K : Int)).getD j false = wvB x K := by
  have e : decide (0 ≤ (K : Int) ∧ (K : Int) ≤ 6) = true := by rw [decide_eq_true_iff]; omega
  unfold wvOn wvO
  rw [List.getD_eq_getElem?_getD, List.getElem?_map, h, e]
  simp
theorem wvOn_get (l : List Rc) (k : Int) (j : Nat) (x : Rc) (h : l[j]? = some x) : (wvOn l k).getD j false = wvO x k := by
  unfold wvOn
  rw [List.getD_eq_getElem?_getD, List.getElem?_map, h]; rfl
theorem wvC_35 (x : Rc) (K : Nat) : (wvC x K == 35) = wvB x K := by
  unfold wvC
  cases wvB x K <;> rfl
theorem wvC_rng (x : Rc) (K : Nat) : 0 ≤ wvC x K ∧ wvC x K < 256 := by unfold wvC; split <;> omega
set_option maxRecDepth 100000 in
set_option maxHeartbeats 4000000 in
theorem wvOn_any (x : Rc) (k : Int) (w : World) : Calls Tryd.prog 8 #[.agg x.cells, .int .i64 k] w fun e w' => e = .returned (.bool (wvO x k)) ∧ Below w.heap.size w w' := by
  by_cases hk : 0 ≤ k ∧ k ≤ 6
  · obtain ⟨K, rfl⟩ : ∃ K : Nat, k = (K : Int) := ⟨k.toNat, by omega⟩
    have hK : K < 7 := by omega
    have E : wvO x (K : Int) = wvB x K := by unfold wvO; rw [decide_eq_true hk]; simp
    rw [E]
    have t1 : (0 : Int) ≤ K := hk.1
    have t2 : (K : Int) < 7 := by omega
    have q : ((w.alloc (.cells x.cells 30)).alloc (.cells x.lv 38)).cell? ⟨w.heap.size + 1, K, none⟩ = some (.bool (wvB x K)) := by
      rw [(Blk.at1 (w := w) (cs := x.lv) (t := 38) (.cells x.cells 30)).cell]
      rcases (show K = 0 ∨ K = 1 ∨ K = 2 ∨ K = 3 ∨ K = 4 ∨ K = 5 ∨ K = 6 by omega) with rfl | rfl | rfl | rfl | rfl | rfl | rfl <;> rfl
    have HB := Lib.hid (Below.alloc0 (Below.alloc0 (Below.refl w.heap.size w) (.cells x.cells 30)) (.cells x.lv 38))
    generalize wvB x K = z at q ⊢
    clear hk E
    go_enter Tryd.func8, Tryd.ntmps8
    go_wp2
    go_ret
    exact ⟨rfl, HB.out⟩
  · have E : wvO x k = false := by unfold wvO; rw [decide_eq_false hk]; rfl
    rw [E]
    have HB := Lib.hid (Below.alloc0 (Below.alloc0 (Below.refl w.heap.size w) (.cells x.cells 30)) (.cells x.lv 38))
    by_cases h0 : 0 ≤ k
    · have h7 : ¬ k < 7 := by omega
      clear hk E
      go_enter Tryd.func8, Tryd.ntmps8
      go_wp2
      go_ret
      exact ⟨rfl, HB.out⟩
    · clear hk E
      go_enter Tryd.func8, Tryd.ntmps8
      go_wp2
      go_ret
      exact ⟨rfl, HB.out⟩
theorem count_hi (l : List Rc) (K : Nat) (hK : K < 7) : Lib.countByte (strOfNums (l.map fun x => wvC x K)).data.toList 35 = hiN (wvOn l (K : Int)) l.length := by
  have key : ∀ (m : List Rc) (pre : List Rc), l = pre ++ m → ((strOfNums (m.map fun x => wvC x K)).data.toList.count 35) + hiN (wvOn l (K : Int)) pre.length = hiN (wvOn l (K : Int)) l.length := by
    intro m
    induction m with
    | nil => intro pre h; rw [h]; simp [strOfNums]
    | cons x m ih =>
      intro pre h
      have := ih (pre ++ [x]) (by rw [h]; simp)
      rw [List.length_append, List.length_singleton, hiN, wvOn_at l K pre.length hK x (by rw [h]; simp)] at this
      rw [← this]
      have e : (strOfNums ((x :: m).map fun x => wvC x K)).data.toList = UInt8.ofNat (wvC x K).toNat :: (strOfNums (m.map fun x => wvC x K)).data.toList := by simp [strOfNums]
      rw [e, List.count_cons]
      have e2 : (UInt8.ofNat (wvC x K).toNat == 35) = wvB x K := by unfold wvC; cases wvB x K <;> rfl
      rw [e2]
      omega
  have := key l [] rfl
  simpa [Lib.countByte, hiN] using this
set_option maxRecDepth 100000 in
theorem wvHigh_any (k : Int) (hk0 : -9223372036854775808 ≤ k) (hk1 : k ≤ 9223372036854775807) (v : Value) (l : List Rc) (w : World) (h : eR.Rd w v l) (hn : l.length ≤ 1000000) :
    Calls Tryd.prog 11 #[.int .i64 k, v] w fun e w' => e = .returned (.int .i64 (hiN (wvOn l k) l.length : Nat)) ∧ Below w.heap.size w w' := by
  have CL := Lib.hid (wvLine_any k hk0 hk1 v l w h hn)
  have CC := Lib.hid (fun s u => Tryd.strings_Count_one s 35 u)
  have E : (Lib.countByte (strOfNums (wvL k l)).data.toList 35 : Nat) = hiN (wvOn l k) l.length := by
    by_cases hk : k < 0 ∨ 6 < k
    · rw [hiN_none _ (wvOn_out l k hk)]
      unfold wvL
      rw [if_pos hk]; rfl
    · obtain ⟨K, rfl⟩ : ∃ K : Nat, k = (K : Int) := ⟨k.toNat, by omega⟩
      rw [wvL_at K (by omega), count_hi l K (by omega)]
  obtain ⟨A, c, rfl, -⟩ := h.open_
  obtain ⟨n, hl⟩ : ∃ n, l.length = n := ⟨_, rfl⟩
  rw [hl] at CL E ⊢
  obtain ⟨S, hS⟩ : ∃ S, strOfNums (wvL k l) = S := ⟨_, rfl⟩
  rw [hS] at CL E
  have EH := Lib.hid E
  clear h hl hS E
  go_enter Tryd.func11, Tryd.ntmps11
  go_wp2_with fail
  refine CL.out.mono ?_
  rintro e w1 ⟨rfl, hb⟩
  have HB := Lib.hid hb
  clear hb
  go_wp2_with fail
  refine (CC.out _ _).mono ?_
  rintro e w2 ⟨rfl, hw⟩
  subst hw
  go_wp2
  go_ret
  exact ⟨by rw [← EH.out]; rfl, HB.out⟩
/-- The signs of a line, and its levels. -/
theorem wvL_len (k : Int) (l : List Rc) : (wvL k l).length = if k < 0 ∨ 6 < k then 0 else l.length := by
  unfold wvL
  split
  · rfl
  · rw [List.length_map]
theorem wvL_rng (k : Int) (l : List Rc) : ∀ x ∈ wvL k l, 0 ≤ x ∧ x < 256 := by
  intro x hx
  unfold wvL at hx
  split at hx
  · cases hx
  · obtain ⟨y, _, rfl⟩ := List.mem_map.1 hx
    exact wvC_rng _ _
theorem wvL_on (k : Int) (l : List Rc) (i : Nat) (hi : i < (wvL k l).length) : (iat (wvL k l) i == 35) = (wvOn l k).getD i false := by
  rw [wvL_len] at hi
  by_cases hk : k < 0 ∨ 6 < k
  · rw [if_pos hk] at hi; omega
  · rw [if_neg hk] at hi
    obtain ⟨K, rfl⟩ : ∃ K : Nat, k = (K : Int) := ⟨k.toNat, by omega⟩
    rw [wvL_at K (by omega), wvOn_at l K i (by omega) l[i] (List.getElem?_eq_getElem hi), iat_eq _ _ (by rw [List.length_map]; exact hi), List.getElem_map, wvC_35]
set_option maxRecDepth 100000 in
set_option maxHeartbeats 4000000 in
theorem wvRises_any (k : Int) (hk0 : -9223372036854775808 ≤ k) (hk1 : k ≤ 9223372036854775807) (v : Value) (l : List Rc) (w : World) (h : eR.Rd w v l) (hn : l.length ≤ 1000000) :
    Calls Tryd.prog 10 #[.int .i64 k, v] w fun e w' => e = .returned (.int .i64 (riN (wvOn l k) l.length : Nat)) ∧ Below w.heap.size w w' := by
  have CL := Lib.hid (wvLine_any k hk0 hk1 v l w h hn)
  have FIN : Hid (riN (wvOn l k) (wvL k l).length = riN (wvOn l k) l.length) := Lib.hid (by
    rw [wvL_len]
    split
    · rename_i hk; rw [riN_none _ (wvOn_out l k hk), riN_none _ (wvOn_out l k hk)]
    · rfl)
  have ON := Lib.hid (wvL_on k l)
  have RG := Lib.hid (wvL_rng k l)
  have LN : (wvL k l).length ≤ 1000000 := by rw [wvL_len]; split <;> omega
  obtain ⟨A, c, rfl, -⟩ := h.open_
  obtain ⟨n, hl⟩ : ∃ n, l.length = n := ⟨_, rfl⟩
  rw [hl] at CL FIN ⊢
  obtain ⟨S, hS⟩ : ∃ S, wvL k l = S := ⟨_, rfl⟩
  rw [hS] at CL FIN ON RG LN
  obtain ⟨m, hm⟩ : ∃ m, S.length = m := ⟨_, rfl⟩
  generalize wvOn l k = b at FIN ON ⊢
  clear h hl hS hn
  go_enter Tryd.func10, Tryd.ntmps10
  go_wp2_with fail
  refine CL.out.mono ?_
  rintro e w1 ⟨rfl, hb⟩
  have HB := Lib.hid hb
  clear hb
  obtain ⟨c2, w2, hconv, hb2, hs2, hcell⟩ := conv8 w1 S RG.out
  rw [hm] at hconv hcell FIN ON LN
  have HB2 := Lib.hid (Below.trans0 HB.out hb2)
  have HCc := Lib.hid hcell
  clear hb2 hs2 hcell hm
  go_wp2
  go_loopw [5, 6, 15] (fun u5 u6 i wr => ∃ j : Nat, j ≤ m ∧ i = .int .i64 j ∧ u5 = .int .i64 (riN b j : Nat) ∧ u6 = .bool (decide (0 < j) && b.getD (j - 1) false) ∧ wr = w2) (fun _ _ i _ => m - (intOf i).toNat)
  case atStart => exact ⟨0, Nat.zero_le _, rfl, rfl, rfl, rfl⟩
  case round =>
    obtain ⟨j, hj, rfl, rfl, rfl, rfl⟩ := hrel
    by_cases hlt : j < m
    · have q := HCc.out j hlt
      have j0 : (0 : Int) ≤ j := by omega
      have j1 : (j : Int) < m := by omega
      have RN := Lib.hid (show riN b (j + 1) = riN b j + (if b.getD j false && (j == 0 || !b.getD (j - 1) false) then 1 else 0) from rfl)
      have RL := riN_le b j
      have E := ON.out j hlt
      obtain ⟨cur, hcur⟩ : ∃ z, b.getD j false = z := ⟨_, rfl⟩
      obtain ⟨bef, hbef⟩ : ∃ z, (decide (0 < j) && b.getD (j - 1) false) = z := ⟨_, rfl⟩
      have E2 : (j == 0 || !b.getD (j - 1) false) = !bef := by
        rw [← hbef]
        cases j with
        | zero => rfl
        | succ j => simp
      rw [E2, hcur] at RN
      rw [hcur] at E
      rw [hbef]
      have NB : Hid ((decide (0 < j + 1) && b.getD (j + 1 - 1) false) = cur) := Lib.hid (by rw [Nat.add_sub_cancel, hcur]; simp)
      generalize riN b j = r at *
      generalize iat S j = z at q E
      clear hcur hbef E2
      cases cur
      case false =>
        go_wp2
        go_roundw
        case rel => exact ⟨j + 1, by omega, by go_num, by rw [RN.out]; simp, by rw [NB.out], by trivial⟩
        case measure => simp [intOf]; omega
      case true =>
        cases bef
        case false =>
          go_wp2
          go_roundw
          case rel => exact ⟨j + 1, by omega, by go_num, by rw [RN.out]; simp, by rw [NB.out], by trivial⟩
          case measure => simp [intOf]; omega
        case true =>
          go_wp2
          go_roundw
          case rel => exact ⟨j + 1, by omega, by go_num, by rw [RN.out]; simp, by rw [NB.out], by trivial⟩
          case measure => simp [intOf]; omega
    · obtain rfl : j = m := by omega
      go_wp2
      go_ret
      exact ⟨by rw [← FIN.out]; rfl, HB2.out⟩
/-- A record without its address and byte. -/
def bareR (x : Rc) : Rc := ⟨0, 0, x.r, x.b1, x.b2, x.b3, x.b4, x.b5, x.m⟩
theorem wvB_bare (x : Rc) (k : Nat) : wvB (bareR x) k = wvB x k := by
  unfold bareR wvB
  split <;> rfl
theorem wvL_bare (k : Int) (l : List Rc) : wvL k (l.map bareR) = wvL k l := by
  unfold wvL
  split
  · rfl
  · rw [List.map_map]
    apply List.map_congr_left
    intro x _
    simp only [Function.comp_apply, wvC, wvB_bare]
theorem wvT_bare (l : List Rc) (k : Nat) : wvT (l.map bareR) k = wvT l k := by
  induction k with
  | zero => rfl
  | succ k ih => rw [wvT, wvT, ih, wvR, wvR, wvL_bare]
theorem nums_app (a b : ByteArray) : nums (a ++ b) = nums a ++ nums b := by simp [nums]
theorem iat_left (xs ys : List Int) (k : Nat) (h : k < xs.length) : iat (xs ++ ys) k = iat xs k := by simp [iat, List.getD_eq_getElem?_getD, List.getElem?_append_left h]
theorem iat_right (xs ys : List Int) (k : Nat) : iat (xs ++ ys) (xs.length + k) = iat ys k := by simp [iat, List.getD_eq_getElem?_getD, List.getElem?_append_right]
theorem wvPre_size (k : Nat) (hk : k < 7) : (wvNm k ++ wvPd k).size = 5 := by
  rw [ByteArray.size_append]
  rcases (show k = 0 ∨ k = 1 ∨ k = 2 ∨ k = 3 ∨ k = 4 ∨ k = 5 ∨ k = 6 by omega) with rfl | rfl | rfl | rfl | rfl | rfl | rfl <;> rfl
/-- The sign of a record in a row. -/
theorem wvR_sign (l : List Rc) (k : Nat) (hk : k < 7) (i : Nat) (hi : i < l.length) : iat (nums (wvR l k)) (5 + i) = wvC l[i] k := by
  unfold wvR
  rw [nums_app, nums_app]
  have h5 : (nums (wvNm k ++ wvPd k)).length = 5 := by rw [nums_len, wvPre_size k hk]
  have hL : nums (strOfNums (wvL (k : Int) l)) = l.map fun x => wvC x k := by
    rw [str_nums _ (wvL_rng _ _), wvL_at k hk]
  rw [hL, iat_left _ _ _ (by rw [List.length_append, h5, List.length_map]; omega)]
  have := iat_right (nums (wvNm k ++ wvPd k)) (l.map fun x => wvC x k) i
  rw [h5] at this
  rw [this, iat_eq _ _ (by rw [List.length_map]; exact hi), List.getElem_map]
theorem wvT_sign (l : List Rc) (j i : Nat) (hi : i < l.length) : ∀ k, k ≤ 7 → j < k → iat (nums (wvT l k)) (j * (l.length + 6) + 5 + i) = wvC l[i] j := by
  intro k
  induction k with
  | zero => intro _ h; omega
  | succ k ih =>
    intro hk hj
    rw [wvT, nums_app]
    have hlen : (nums (wvT l k)).length = k * (l.length + 6) := by rw [nums_len, wvT_size l k (by omega)]
    by_cases e : j < k
    · have hm : (j + 1) * (l.length + 6) ≤ k * (l.length + 6) := Nat.mul_le_mul_right _ (by omega)
      rw [Nat.succ_mul] at hm
      rw [iat_left _ _ _ (by rw [hlen]; omega)]
      exact ih (by omega) e
    · obtain rfl : j = k := by omega
      rw [Nat.add_assoc, ← hlen, iat_right]
      exact wvR_sign l j (by omega) i hi
/-- What is read of what was drawn. -/
theorem rdF_back (l : List Rc) (hn : l.length ≤ 10000) : (wvT l 7).size / 7 = l.length + 6 ∧ rdF (wvT l 7) (l.length + 6) l.length = l.map bareR := by
  constructor
  · rw [wvT_size l 7 (by omega)]; omega
  · apply List.ext_getElem (by rw [rdF_len, List.length_map])
    intro i h1 h2
    rw [rdF_len] at h1
    simp only [rdF, List.getElem_map, List.getElem_range]
    have key : ∀ j, j < 7 → rdB (wvT l 7) (l.length + 6) i j = wvB l[i] j := fun j hj => by
      unfold rdB
      rw [wvT_sign l j i h1 7 (by omega) hj, wvC_35]
    unfold rdW bareR
    rw [key 0 (by omega), key 1 (by omega), key 2 (by omega), key 3 (by omega), key 4 (by omega), key 5 (by omega), key 6 (by omega)]
    rfl
end Go.Proofs.YtpleboogijgdcaaDoor
