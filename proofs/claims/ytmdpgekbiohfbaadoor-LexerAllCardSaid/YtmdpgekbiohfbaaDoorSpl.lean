/- strings.SplitSeq at a separator of one byte: the pieces, and the iterator's contract. -/
import Derived.Test.YtmdpgekbiohfbaaDoorRgs
import Derived.Test.YtmdpgekbiohfbaaDoorStc
import Derived.Test.YtmdpgekbiohfbaaDoorShelf
namespace Go.Proofs.YtmdpgekbiohfbaaDoor
open Go.ChangeShapes Go.WideShapes Go.ChangeAt Go.RowKit
set_option linter.unusedVariables false

/-- The pieces of a text between bytes c. -/
def pcs (c : UInt8) : List UInt8 → List (List UInt8)
  | [] => [[]]
  | x :: l => if x = c then [] :: pcs c l else match pcs c l with | [] => [[x]] | p :: r => (x :: p) :: r
theorem pcs_ne (c : UInt8) (l : List UInt8) : pcs c l ≠ [] := by
  cases l with
  | nil => simp [pcs]
  | cons x l =>
    unfold pcs
    split
    · simp
    · split <;> simp
theorem idx_cons (x c : UInt8) (l : List UInt8) : Lib.indexByte (x :: l) c = if x = c then 0 else if Lib.indexByte l c = -1 then -1 else Lib.indexByte l c + 1 := by
  show (if (x == c) = true then (0 : Int) else if (Lib.indexByte l c == -1) = true then -1 else Lib.indexByte l c + 1) = _
  simp only [beq_iff_eq]
theorem idx_lt (c : UInt8) : ∀ l : List UInt8, Lib.indexByte l c < l.length
  | [] => by show (-1 : Int) < 0; decide
  | x :: l => by
    have := idx_lt c l
    rw [idx_cons, List.length_cons]
    split
    · omega
    · split <;> omega
theorem pcs_none (c : UInt8) : ∀ l : List UInt8, Lib.indexByte l c < 0 → pcs c l = [l]
  | [], _ => rfl
  | x :: l, h => by
    rw [idx_cons] at h
    unfold pcs
    have hg := Lib.indexByte_ge l c
    by_cases e : x = c
    · rw [if_pos e] at h; omega
    · rw [if_neg e] at h ⊢
      have h2 : Lib.indexByte l c < 0 := by split at h <;> omega
      rw [pcs_none c l h2]
theorem pcs_some (c : UInt8) : ∀ l : List UInt8, 0 ≤ Lib.indexByte l c → pcs c l = l.take (Lib.indexByte l c).toNat :: pcs c (l.drop ((Lib.indexByte l c).toNat + 1))
  | [], h => by exfalso; revert h; show ¬ (0 : Int) ≤ -1; decide
  | x :: l, h => by
    rw [idx_cons] at h ⊢
    conv => lhs; unfold pcs
    have hg := Lib.indexByte_ge l c
    by_cases e : x = c
    · rw [if_pos e, if_pos e]; rfl
    · rw [if_neg e] at h ⊢
      rw [if_neg e]
      by_cases q : Lib.indexByte l c = -1
      · rw [if_pos q] at h; omega
      · rw [if_neg q]
        have h0 : 0 ≤ Lib.indexByte l c := by omega
        rw [pcs_some c l h0]
        have et : (Lib.indexByte l c + 1).toNat = (Lib.indexByte l c).toNat + 1 := by omega
        rw [et]; rfl
def pcsB (c : UInt8) (s : ByteArray) : List ByteArray := (pcs c s.data.toList).map fun l => ⟨l.toArray⟩
theorem extract_take (s : ByteArray) (n : Nat) : s.extract 0 n = ⟨(s.data.toList.take n).toArray⟩ := by
  apply ByteArray.ext
  apply Array.toList_inj.1
  simp
theorem extract_drop (s : ByteArray) (n : Nat) : s.extract n s.size = ⟨(s.data.toList.drop n).toArray⟩ := by
  apply ByteArray.ext
  apply Array.toList_inj.1
  have e : s.size = s.data.toList.length := by rw [Array.length_toList]; rfl
  simp
  exact List.take_of_length_le (by rw [List.length_drop, e]; exact Nat.le_refl _)
theorem pcsB_none (c : UInt8) (s : ByteArray) (h : Lib.indexByte s.data.toList c < 0) : pcsB c s = [s] := by
  unfold pcsB
  rw [pcs_none c _ h]
  simp
theorem pcsB_some (c : UInt8) (s : ByteArray) (i : Nat) (h : Lib.indexByte s.data.toList c = (i : Int)) : pcsB c s = s.extract 0 i :: pcsB c (s.extract (i + 1) s.size) := by
  unfold pcsB
  rw [pcs_some c _ (by omega), h, extract_take, extract_drop]
  simp
theorem idxB_lt (c : UInt8) (s : ByteArray) (i : Nat) (h : Lib.indexByte s.data.toList c = (i : Int)) : i < s.size := by
  have := idx_lt c s.data.toList
  rw [h] at this
  have e : s.data.toList.length = s.size := by rw [Array.length_toList]; rfl
  omega
/-- How long the text in a cell is. -/
def strAt (w : World) (b : Nat) : Nat := match w.cell? ⟨b, 0, none⟩ with | some (.string s) => s.size | _ => 0
theorem strAt_eq {w : World} {b : Nat} {s : ByteArray} (h : w.cell? ⟨b, 0, none⟩ = some (.string s)) : strAt w b = s.size := by unfold strAt; rw [h]
attribute [local go_sem] Oper.semAt_some
set_option maxRecDepth 100000 in
set_option maxHeartbeats 4000000 in
theorem splitSeq_seq (s : ByteArray) (c : UInt8) (b : Nat) (o : Nat → Option Obj) (h0 : o b = some (.cells #[.string s] 9 (0, 0))) (h1 : o (b + 1) = some (.cells #[.string ⟨#[c]⟩] 9 (0, 0))) (h2 : o (b + 2) = some (.cells #[.int .i64 0] 3 (0, 0))) (hs : s.size ≤ 1000000000) :
    SeqB Tryd.prog 49 #[.pointer (some ⟨b + 1, 0, none⟩), .pointer (some ⟨b, 0, none⟩), .pointer (some ⟨b + 2, 0, none⟩)] b o (pcsB c s) := by
  intro l J Jx W hW hJ hJx hY hj0
  have B0 : Blk W b 9 #[.string s] := (hW b (Nat.le_refl _) (by omega)).trans h0
  have B1 : Blk W (b + 1) 9 #[.string ⟨#[c]⟩] := (hW (b + 1) (by omega) (by omega)).trans h1
  have B2 : Blk W (b + 2) 3 #[.int .i64 0] := (hW (b + 2) (by omega) (by omega)).trans h2
  have HJ := Lib.hid hJ
  have HY := Lib.hid hY
  have HJ0 := Lib.hid hj0
  have c1 : W.cell? ⟨b + 1, 0, none⟩ = some (.string ⟨#[c]⟩) := (B1.cell 0).trans rfl
  have K0 := Lib.hid B0
  have K1 := Lib.hid B1
  have K2 := Lib.hid B2
  clear hW h0 h1 h2 hJ hJx hY hj0 B0 B1 B2
  refine (callsIn_wide (n := 0)).1 (callsIn_of_wp Tryd.func49 rfl trivial ?_ rfl)
  simp only [Tryd.ntmps49, List.size_toArray, List.length_cons, List.length_nil, Nat.reduceAdd, Nat.reduceSub, Array.replicate_succ, Array.replicate_zero, List.push_toArray, List.append_toArray, List.nil_append, List.cons_append]
  gi_wp2
  gi_loopw [8] (fun p wr => ∃ (pre : List ByteArray) (S : ByteArray), pcsB c s = pre ++ pcsB c S ∧ S.size ≤ s.size ∧ Hid (Blk wr b 9 #[.string S]) ∧ Hid (Blk wr (b + 1) 9 #[.string ⟨#[c]⟩]) ∧ Hid (Blk wr (b + 2) 3 #[.int .i64 0]) ∧ Hid (J pre wr)) (fun p wr => strAt wr b)
  case atStart => exact ⟨[], s, rfl, Nat.le_refl _, K0, K1, K2, HJ0⟩
  case round =>
    obtain ⟨pre, S, hx, hS, k0, k1, k2, hj⟩ := hrel
    have q0 : wr.cell? ⟨b, 0, none⟩ = some (.string S) := (k0.out.cell 0).trans rfl
    have f0 := k0.out.frozen 0
    have q1 : wr.cell? ⟨b + 1, 0, none⟩ = some (.string ⟨#[c]⟩) := (k1.out.cell 0).trans rfl
    have q2 : wr.cell? ⟨b + 2, 0, none⟩ = some (.int .i64 0) := (k2.out.cell 0).trans rfl
    have MW := Lib.hid (strAt_eq q0)
    have CI := Lib.hid (Tryd.strings_Index_one S c wr)
    by_cases hi : Lib.indexByte S.data.toList c < 0
    · have E := pcsB_none c S hi
      rw [E] at hx
      obtain ⟨fn, tmps, assign, body, hy, hR⟩ := HY.out pre S [] wr hx hj.out
      have HX := Lib.hid hx
      have HR := Lib.hid hR
      generalize Lib.indexByte S.data.toList c = I at CI hi
      clear hx E hR
      gi_wp2_with fail
      refine ⟨trivial, rfl, (callsIn_wide.2 CI.out).mono ?_⟩
      rintro e w' ⟨rfl, hw⟩
      subst hw
      gi_wp2
      refine ⟨rfl, HR.out.mono ?_⟩
      rintro e W' (⟨rfl, hJ', hk⟩ | ⟨rfl, hJx'⟩)
      · gi_wp2
        go_end0
        exact ⟨⟨_, rfl⟩, .inl (by rw [HX.out]; exact hJ')⟩
      · gi_wp2
        go_end0
        exact ⟨⟨_, rfl⟩, .inr ⟨pre ++ [S], [], by rw [HX.out, List.append_nil], hJx'⟩⟩
    · obtain ⟨i, hI⟩ : ∃ i : Nat, Lib.indexByte S.data.toList c = (i : Int) := ⟨_, (Int.toNat_of_nonneg (by omega)).symm⟩
      have E := pcsB_some c S i hI
      have L := idxB_lt c S i hI
      rw [E] at hx
      obtain ⟨fn, tmps, assign, body, hy, hR⟩ := HY.out pre _ _ wr hx hj.out
      have HX := Lib.hid hx
      have HR := Lib.hid hR
      rw [hI] at CI
      have i0 : (0 : Int) ≤ (i : Int) := by omega
      have i1 : (i : Int) ≤ S.size := by omega
      have i2 : (i : Int) + 1 ≤ S.size := by omega
      clear hx E hR hi hI
      gi_wp2_with fail
      refine ⟨trivial, rfl, (callsIn_wide.2 CI.out).mono ?_⟩
      rintro e w' ⟨rfl, hw⟩
      subst hw
      gi_wp2
      refine ⟨rfl, HR.out.mono ?_⟩
      rintro e W' (⟨rfl, hJ', hk⟩ | ⟨rfl, hJx'⟩)
      · have k0' := Lib.hid (show Blk W' b 9 #[.string S] from (hk b (Nat.le_refl _) (by omega)).trans k0.out)
        have k1' := Lib.hid (show Blk W' (b + 1) 9 #[.string ⟨#[c]⟩] from (hk (b + 1) (by omega) (by omega)).trans k1.out)
        have k2' := Lib.hid (show Blk W' (b + 2) 3 #[.int .i64 0] from (hk (b + 2) (by omega) (by omega)).trans k2.out)
        have p0 : W'.cell? ⟨b, 0, none⟩ = some (.string S) := (k0'.out.cell 0).trans rfl
        have g0 := k0'.out.frozen 0
        have p1 : W'.cell? ⟨b + 1, 0, none⟩ = some (.string ⟨#[c]⟩) := (k1'.out.cell 0).trans rfl
        have HJ' := Lib.hid hJ'
        clear q0 q1 q2 f0 k0 k1 k2 hk hJ' CI HR hj hy
        gi_wp2
        have kb := Lib.hid (Blk.set_ k0'.out 0 (.string (S.extract (i + 1) S.size)))
        have sz : (S.extract (i + 1) S.size).size = S.size - (i + 1) := by rw [ByteArray.size_extract]; omega
        refine ⟨⟨pre ++ [S.extract 0 i], S.extract (i + 1) S.size, by rw [HX.out, List.append_assoc]; rfl, by omega, kb, Lib.hid (Blk.far k1'.out (by show b + 1 ≠ b; omega) _), Lib.hid (Blk.far k2'.out (by show b + 2 ≠ b; omega) _), Lib.hid (HJ.out _ _ _ HJ'.out (grown_cell _ _ _ _))⟩, ?_⟩
        rw [strAt_eq (s := S.extract (i + 1) S.size) ((kb.out.cell 0).trans rfl), MW.out, sz]
        omega
      · gi_wp2
        refine bodyPost_ret (results_none rfl _ _ _) rfl ?_
        exact ⟨⟨_, rfl⟩, .inr ⟨_, pcsB c (S.extract (i + 1) S.size), by rw [HX.out, List.append_assoc]; rfl, hJx'⟩⟩
end Go.Proofs.YtmdpgekbiohfbaaDoor
