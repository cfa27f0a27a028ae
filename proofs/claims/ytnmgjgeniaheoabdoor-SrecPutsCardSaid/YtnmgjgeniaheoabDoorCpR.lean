/- The copy of bytes into a row of bytes of the call's own, told as a function. -/
import Derived.Test.YtnmgjgeniaheoabDoorRwF
import Derived.Test.YtnmgjgeniaheoabDoorByt
import Derived.Test.YtnmgjgeniaheoabDoorStc
import Derived.Laws.CopyOwn
namespace Go.Proofs.YtnmgjgeniaheoabDoor
open Go.ChangeShapes Go.WideShapes Go.ChangeAt Go.RowKit
set_option linter.unusedVariables false

/-- The row f with the bytes xs from a on. -/
def cpR (f : Nat → Int) (a : Nat) (xs : List Int) : Nat → Int := fun i => if a ≤ i ∧ i < a + xs.length then iat xs (i - a) else f i
theorem cpR_nil (f : Nat → Int) (a : Nat) : cpR f a [] = f := by funext i; unfold cpR; rw [if_neg (fun h => by have := h.2; simp at this; omega)]
theorem rwF_list (q : Nat → Int) (n : Nat) : (rwF q n).toList = (rwL q n).map (Value.int .u8) := by
  unfold rwF rwL
  rw [List.toList_toArray, List.map_map]; rfl
theorem rwF_size (q : Nat → Int) (n : Nat) : (rwF q n).size = n := by unfold rwF; rw [List.size_toArray, List.length_map, List.length_range]
theorem rwL_splice (f : Nat → Int) (a : Nat) (xs : List Int) (N : Nat) (h : a + xs.length ≤ N) : (rwL f N).take a ++ (xs ++ (rwL f N).drop (a + xs.length)) = rwL (cpR f a xs) N := by
  apply List.ext_getElem (by simp [rwL_len]; omega)
  intro i h1 h2
  have hN : i < N := by rw [rwL_len] at h2; exact h2
  rw [show (rwL (cpR f a xs) N)[i] = cpR f a xs i by simp only [rwL, List.getElem_map, List.getElem_range]]
  unfold cpR
  rcases Nat.lt_or_ge i a with h3 | h3
  · rw [List.getElem_append_left (by rw [List.length_take, rwL_len]; omega), if_neg (by omega)]
    simp only [rwL, List.getElem_take, List.getElem_map, List.getElem_range]
  · have hlt : ((rwL f N).take a).length = a := by rw [List.length_take, rwL_len]; omega
    rw [List.getElem_append_right (by omega)]
    rcases Nat.lt_or_ge i (a + xs.length) with h4 | h4
    · rw [List.getElem_append_left (by omega), if_pos ⟨h3, h4⟩, iat_eq _ _ (by omega)]
      simp only [hlt]
    · rw [List.getElem_append_right (by omega), if_neg (by omega)]
      simp only [rwL, List.getElem_drop, List.getElem_map, List.getElem_range, List.length_take, List.length_map, List.length_range]
      congr 1
      omega
theorem rwF_splice (f : Nat → Int) (a : Nat) (xs : List Int) (N : Nat) (h : a + xs.length ≤ N) : ((rwF f N).toList.take a ++ (xs.map (Value.int .u8) ++ (rwF f N).toList.drop (a + (xs.map (Value.int .u8)).length))).toArray = rwF (cpR f a xs) N := by
  have e : rwF (cpR f a xs) N = ((rwL (cpR f a xs) N).map (Value.int .u8)).toArray := by
    unfold rwF rwL; rw [List.map_map]; rfl
  rw [e, ← rwL_splice f a xs N h, rwF_list, List.map_append, List.map_append, List.map_take, List.map_drop, List.length_map]
theorem srcR_at {w : World} {A : Option Addr} {n c : Nat} {xs : List Int} (h : eY.Rd w (.slice A n c) xs) (h0 : 0 < xs.length) : ∃ ad, A = some ad ∧ ∀ j v, (xs.map (Value.int .u8))[j]? = some v → w.cell? (ad.add j) = some v := by
  obtain ⟨A', c', e, h2⟩ := rdY_open h
  obtain ⟨rfl, rfl, rfl⟩ := Value.slice.inj e
  obtain ⟨g, off, rfl, hlt, h3⟩ := h2 h0
  refine ⟨_, rfl, fun j v hj => ?_⟩
  have hjl : j < xs.length := by
    rcases Nat.lt_or_ge j xs.length with a | a
    · exact a
    · rw [List.getElem?_eq_none (by simpa using a)] at hj; cases hj
  rw [Els.add_pl, h3 j hjl]
  rw [List.getElem?_map, List.getElem?_eq_getElem hjl] at hj
  rw [iat_eq _ _ hjl]
  exact hj
theorem wpList_copyR {ops : Array Oper} {rest : List Oper} {o : Oper} {a : Act} {w : World} {Q : Exit → Act → World → Prop} (hgd : o.guard = none) (d s : Operand)
    (ho : o.op = .call { callee := .builtin .copy, args := #[d, s], argTypes := #[25, 25] })
    (g off dLen dCap : Nat) (A : Option Addr) (sLen sCap : Nat) (hd : a.eval d = .slice (some ⟨g, off, none⟩) dLen dCap) (hs : a.eval s = .slice A sLen sCap)
    (f : Nat → Int) (N : Nat) (hg : Blk w g 5 (rwF f N)) (xs : List Int) (hr : eY.Rd w (.slice A sLen sCap) xs) (hn : xs.length = Nat.min sLen dLen) (hfit : off + xs.length ≤ N)
    (h : ∀ w', Blk w' g 5 (rwF (cpR f off xs) N) → w.grownBy w' (some g) → wpList Tryd.prog ops Q rest (a.put o.dst (goInt xs.length)) w') : wpList Tryd.prog ops Q (o :: rest) a w := by
  have hsz : (Tryd.prog.info? 5).map (·.size) = some 1 := by kernel_rfl
  rcases Nat.eq_zero_or_pos xs.length with h0 | h0
  · obtain rfl : xs = [] := List.eq_nil_of_length_eq_zero h0
    refine wpList_copy_nothing hgd d s _ _ ho _ Tryd.underlying25 hsz _ A dLen dCap sLen sCap hd hs (by simpa using hn.symm) ?_
    exact h w (by rw [cpR_nil]; exact hg) (World.grownBy.refl _ _)
  · obtain ⟨ad, rfl, hsrc⟩ := srcR_at hr h0
    refine wpList_copy_own hgd d s _ _ ho _ Tryd.underlying25 hsz g off dLen dCap ad sLen sCap hd hs (rwF f N) _ hg (xs.map (Value.int .u8)) (by rw [List.length_map]; exact hn) hsrc (by rw [rwF_size, List.length_map]; exact hfit) (fun v hv => by obtain ⟨z, _, rfl⟩ := List.mem_map.1 hv; rfl) ?_
    rw [rwF_splice f off xs N hfit, List.length_map]
    exact h _ (Blk.row hg _) ⟨rfl, rfl, rfl, by simp, fun k hk hne => setRow_other w g k _ (fun e => hne (by rw [e]))⟩
theorem step_copyR {ops : Array Oper} {o : Oper} {a : Act} {w : World} {K : Act → World → Prop} {Q : Exit → Act → World → Prop} {E : Prop} (hgd : o.guard = none) (d s : Operand)
    (ho : o.op = .call { callee := .builtin .copy, args := #[d, s], argTypes := #[25, 25] })
    (g off dLen dCap : Nat) (A : Option Addr) (sLen sCap : Nat) (hd : a.eval d = .slice (some ⟨g, off, none⟩) dLen dCap) (hs : a.eval s = .slice A sLen sCap)
    (f : Nat → Int) (N : Nat) (hg : Blk w g 5 (rwF f N)) (xs : List Int) (hr : eY.Rd w (.slice A sLen sCap) xs) (hn : xs.length = Nat.min sLen dLen) (hfit : off + xs.length ≤ N)
    (h : ∀ w', Blk w' g 5 (rwF (cpR f off xs) N) → w.grownBy w' (some g) → K (a.put o.dst (goInt xs.length)) w') : if Region.wanted o (yielded ops a.tmps) = true then Oper.wp Tryd.prog o a w K Q else E := by
  have hsz : (Tryd.prog.info? 5).map (·.size) = some 1 := by kernel_rfl
  rw [if_pos (by simp [Region.wanted, hgd])]
  rcases Nat.eq_zero_or_pos xs.length with h0 | h0
  · obtain rfl : xs = [] := List.eq_nil_of_length_eq_zero h0
    have hrun := run_copy_none (P := Tryd.prog) w 25 25 o.type 5 (some ⟨g, off, none⟩) A dLen dCap sLen sCap Tryd.underlying25 hsz (by simpa using hn.symm)
    unfold Oper.wp
    simp [execOp, ho, resolve, invoke, builtin, hd, hs, hrun, Result.andThen]
    exact h w (by rw [cpR_nil]; exact hg) (World.grownBy.refl _ _)
  · obtain ⟨ad, rfl, hsrc⟩ := srcR_at hr h0
    have hrun := run_copy_row (P := Tryd.prog) w 25 25 o.type 5 g off dLen dCap ad sLen sCap (rwF f N) 5 (xs.map (Value.int .u8)) Tryd.underlying25 hsz hg (by rw [List.length_map]; exact hn) hsrc (by rw [rwF_size, List.length_map]; exact hfit) (fun v hv => by obtain ⟨z, _, rfl⟩ := List.mem_map.1 hv; rfl)
    rw [List.append_assoc, rwF_splice f off xs N hfit, List.length_map] at hrun
    unfold Oper.wp
    simp [execOp, ho, resolve, invoke, builtin, hd, hs, hrun, Result.andThen]
    exact h _ (Blk.row hg _) ⟨rfl, rfl, rfl, by simp, fun k hk hne => setRow_other w g k _ (fun e => hne (by rw [e]))⟩
end Go.Proofs.YtnmgjgeniaheoabDoor
