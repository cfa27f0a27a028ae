/- Lines of programs, plainly: labels, operations, operands; what stands between commas; lines of a text. -/
import Derived.Test.YtmdpgekbiohfbaaDoorSymN
import Derived.Lib.IndexAny
import Derived.Lib.Replace
namespace Go.Proofs.YtmdpgekbiohfbaaDoor
open Go.ChangeShapes Go.WideShapes Go.ChangeAt Go.RowKit
set_option linter.unusedVariables false

/-- A text by its bytes. -/
def mkS (l : List UInt8) : ByteArray := ⟨l.toArray⟩
theorem mkS_list (s : ByteArray) : mkS s.data.toList = s := rfl
theorem mkS_data (l : List UInt8) : (mkS l).data.toList = l := rfl
theorem mkS_size (l : List UInt8) : (mkS l).size = l.length := by unfold mkS; show l.toArray.size = _; simp
theorem mkS_app (a b : List UInt8) : mkS a ++ mkS b = mkS (a ++ b) := by
  unfold mkS
  apply ByteArray.ext
  simp
theorem mkS_inj {a b : List UInt8} (h : mkS a = mkS b) : a = b := congrArg (fun s : ByteArray => s.data.toList) h
theorem mkS_get (l : List UInt8) (k : Nat) (h : k < (mkS l).size) (h2 : k < l.length) : (mkS l)[k]'h = l[k]'h2 := rfl
theorem mkS_take (l : List UInt8) (k : Nat) : (mkS l).extract 0 k = mkS (l.take k) := by
  apply ByteArray.ext
  apply Array.toList_inj.1
  simp [mkS, ByteArray.data_extract]
theorem mkS_drop (l : List UInt8) (k : Nat) : (mkS l).extract k (mkS l).size = mkS (l.drop k) := by
  apply ByteArray.ext
  apply Array.toList_inj.1
  rw [mkS_size]
  simp [mkS, ByteArray.data_extract]
  exact List.take_of_length_le (by rw [List.length_drop]; omega)
theorem mkS_one (l : List UInt8) (k : Nat) (h : k < l.length) : (mkS l).extract k (k + 1) = mkS [l[k]'h] := by
  have e : [l[k]'h] = (l.drop k).take 1 := by rw [List.drop_eq_getElem_cons h]; rfl
  rw [e]
  apply ByteArray.ext
  apply Array.toList_inj.1
  simp [mkS, ByteArray.data_extract]
theorem mkS_empty (l : List UInt8) : (mkS l).toList.isEmpty = l.isEmpty := by rw [ByteArray.toList_eq]; rfl
/-- Bytes as numbers. -/
def nmL (l : List UInt8) : List Int := l.map fun b => (b.toNat : Int)
theorem nums_mkS (l : List UInt8) : nums (mkS l) = nmL l := rfl
theorem str_nmL (l : List UInt8) : strOfNums (nmL l) = mkS l := nums_str (mkS l)

def isBl (c : UInt8) : Bool := c == 32 || c == 9
def isBc (c : UInt8) : Bool := c == 32 || c == 9 || c == 58
def nBl (c : UInt8) : Bool := !isBl c
def nBc (c : UInt8) : Bool := !isBc c
def neB (c x : UInt8) : Bool := x != c
def up8 (c : UInt8) : UInt8 := if 97 ≤ c.toNat ∧ c.toNat ≤ 122 then c - 32 else c
/-- Behind a colon that stands first. -/
def unCo (l : List UInt8) : List UInt8 := if l.head? = some 58 then l.drop 1 else l
/-- Has it a label; which; what stands behind it; the operation; the operand. -/
def lxHas (l : List UInt8) : Bool := match l with | [] => false | c :: _ => nBl c
def lxLab (l : List UInt8) : List UInt8 := l.takeWhile nBc
def lxBeh (l : List UInt8) : List UInt8 := unCo (l.dropWhile nBc)
def lxOp (l : List UInt8) : List UInt8 := ((l.dropWhile isBl).takeWhile nBl).map up8
def lxArg (l : List UInt8) : List UInt8 := ((l.dropWhile isBl).dropWhile nBl).filter nBl
structure Lx where
  lab : List UInt8
  op : List UInt8
  arg : List UInt8
  ok : Bool
def lxNo : Lx := ⟨[], [], [], false⟩
def lxCut (s : List UInt8) : Lx :=
  if lxHas (s.takeWhile (neB 59)) then
    if rightL (nmL (lxLab (s.takeWhile (neB 59)))) then ⟨lxLab (s.takeWhile (neB 59)), lxOp (lxBeh (s.takeWhile (neB 59))), lxArg (lxBeh (s.takeWhile (neB 59))), true⟩ else lxNo
  else ⟨[], lxOp (s.takeWhile (neB 59)), lxArg (s.takeWhile (neB 59)), true⟩

theorem tw_split (p : UInt8 → Bool) : ∀ l : List UInt8, l.take (l.takeWhile p).length = l.takeWhile p ∧ l.drop (l.takeWhile p).length = l.dropWhile p
  | [] => ⟨rfl, rfl⟩
  | c :: l => by
    cases h : p c
    · rw [List.takeWhile_cons_of_neg (by simp [h]), List.dropWhile_cons_of_neg (by simp [h])]; exact ⟨rfl, rfl⟩
    · have ih := tw_split p l
      rw [List.takeWhile_cons_of_pos h, List.dropWhile_cons_of_pos h, List.length_cons, List.take_succ_cons, List.drop_succ_cons, ih.1, ih.2]; exact ⟨rfl, rfl⟩
theorem tw_le (p : UInt8 → Bool) (l : List UInt8) : (l.takeWhile p).length ≤ l.length := by
  have := congrArg List.length (tw_split p l).1
  rw [List.length_take] at this; omega
/-- The place of the first byte that is one of some: where those before it end. -/
theorem idx_step (n m : Nat) : (if ((if n = m then -1 else (n : Int)) == -1) = true then -1 else (if n = m then -1 else (n : Int)) + 1) = if n + 1 = m + 1 then -1 else ((n + 1 : Nat) : Int) := by
  by_cases e : n = m
  · rw [if_pos e, if_pos (show n + 1 = m + 1 by omega)]; rfl
  · rw [if_neg e, if_neg (show ¬ n + 1 = m + 1 by omega)]
    have hn : ¬ ((n : Int) == -1) = true := by simp
    rw [if_neg hn]; omega
theorem idxAny_tw (cs : List UInt8) (p : UInt8 → Bool) (hp : ∀ c, p c = !cs.contains c) : ∀ l : List UInt8, Lib.indexAny l cs = if (l.takeWhile p).length = l.length then -1 else ((l.takeWhile p).length : Int)
  | [] => rfl
  | c :: l => by
    have ih := idxAny_tw cs p hp l
    unfold Lib.indexAny
    rw [ih]
    cases h : cs.contains c
    · have hc : p c = true := by rw [hp, h]; rfl
      rw [List.takeWhile_cons_of_pos hc, List.length_cons, List.length_cons, ← idx_step]; rfl
    · have hc : p c = false := by rw [hp, h]; rfl
      rw [List.takeWhile_cons_of_neg (by simp [hc])]
      simp
/-- Up to the first byte c, as strings.Cut and the like say it. -/
theorem idxB_tw (c : UInt8) : ∀ l : List UInt8, Lib.indexByte l c = if (l.takeWhile (neB c)).length = l.length then -1 else ((l.takeWhile (neB c)).length : Int)
  | [] => rfl
  | x :: l => by
    have ih := idxB_tw c l
    unfold Lib.indexByte
    rw [ih]
    cases h : x == c
    · have hc : neB c x = true := by simpa [neB] using h
      rw [List.takeWhile_cons_of_pos hc, List.length_cons, List.length_cons, ← idx_step]; rfl
    · have hc : ¬ neB c x = true := by simpa [neB] using h
      rw [List.takeWhile_cons_of_neg hc]
      simp
theorem idx_sub1 (c : UInt8) : ∀ l : List UInt8, Lib.index l [c] = Lib.indexByte l c
  | [] => rfl
  | x :: l => by
    have ih := idx_sub1 c l
    unfold Lib.index Lib.indexByte
    rw [ih]
    have e : ([c] : List UInt8).isPrefixOf (x :: l) = (x == c) := by
      simp only [List.isPrefixOf, Bool.and_true]
      rw [Bool.eq_iff_iff, beq_iff_eq, beq_iff_eq]
      exact ⟨fun h => h.symm, fun h => h.symm⟩
    rw [e]
/-- Replacing all bytes c by nothing. -/
theorem repK_hit (c : UInt8) (k : Nat) (l : List UInt8) : Lib.replaceK [c] [] (k + 1) (c :: l) = Lib.replaceK [c] [] k l := by
  have hi : Lib.index (c :: l) [c] = ((0 : Nat) : Int) := by rw [idx_sub1]; unfold Lib.indexByte; simp
  rw [Lib.replaceK_hit _ _ _ _ 0 hi]
  simp
theorem repK_on (c x : UInt8) (h : x ≠ c) (k : Nat) (l : List UInt8) : Lib.replaceK [c] [] k (x :: l) = x :: Lib.replaceK [c] [] k l := by
  cases k with
  | zero => rfl
  | succ k =>
    have hb : (x == c) = false := by simpa using h
    have hge := Lib.indexByte_ge l c
    by_cases hm : Lib.indexByte l c = -1
    · have h1 : Lib.index l [c] = -1 := by rw [idx_sub1, hm]
      have h2 : Lib.index (x :: l) [c] = -1 := by rw [idx_sub1]; unfold Lib.indexByte; rw [hb, hm]; rfl
      unfold Lib.replaceK
      rw [h1, h2]; rfl
    · obtain ⟨i, hi⟩ : ∃ i : Nat, Lib.indexByte l c = i := ⟨(Lib.indexByte l c).toNat, by omega⟩
      have h1 : Lib.index l [c] = (i : Int) := by rw [idx_sub1, hi]
      have h2 : Lib.index (x :: l) [c] = ((i + 1 : Nat) : Int) := by
        rw [idx_sub1]; unfold Lib.indexByte
        rw [hb, if_neg (by simp), if_neg (fun e => hm (beq_iff_eq.1 e)), hi]; push_cast; rfl
      rw [Lib.replaceK_hit _ _ _ _ i h1, Lib.replaceK_hit _ _ _ _ (i + 1) h2]
      simp
theorem rep_filter (c : UInt8) : ∀ l : List UInt8, Lib.replaceK [c] [] (l.count c) l = l.filter (neB c)
  | [] => rfl
  | x :: l => by
    have ih := rep_filter c l
    by_cases h : x = c
    · subst h
      rw [List.count_cons_self, repK_hit, ih, List.filter_cons_of_neg (by simp [neB])]
    · rw [List.count_cons_of_ne (by simpa using h), repK_on c x h, ih, List.filter_cons_of_pos (by simpa [neB] using h)]
theorem replaceAll_one (c : UInt8) (l : List UInt8) : Lib.replaceAll l [c] [] = l.filter (neB c) := by
  unfold Lib.replaceAll Lib.replace
  rw [if_neg (by simp)]
  have e : Lib.replaceNum l [c] (-1) = l.count c := by
    unfold Lib.replaceNum
    rw [if_pos (.inl (by decide)), Lib.count_one]
  rw [e, rep_filter]
theorem dense_filter (l : List UInt8) : Lib.replaceAll (Lib.replaceAll l [32] []) [9] [] = l.filter nBl := by
  rw [replaceAll_one, replaceAll_one, List.filter_filter]
  congr 1
  funext c
  unfold nBl isBl neB bne
  cases (c == 32) <;> cases (c == 9) <;> rfl
/-- The pieces of a text between bytes c, of which p is read since the last one. -/
def pcz (c : UInt8) : List UInt8 → List UInt8 → List (List UInt8)
  | p, [] => [p]
  | p, x :: l => if x = c then p :: pcz c [] l else pcz c (p ++ [x]) l
end Go.Proofs.YtmdpgekbiohfbaaDoor
