/- The copy of bytes into a row of bytes told as a function. -/
import Derived.Test.YtnhafficnomlbaaRamO
import Derived.Laws.CopyOwn
namespace Go.Proofs.Ytnhafficnomlbaa
open Go.ChangeShapes Go.WideShapes Go.ChangeAt Go.RowKit
set_option linter.unusedVariables false

theorem rowF_list (q : Nat → Int) (n : Nat) : (rowF q n).toList = (lstF q n).map (Value.int .u8) := by
  unfold rowF lstF
  rw [List.toList_toArray, List.map_map]; rfl
theorem lstF_splice (f : Nat → Int) (a : Nat) (xs : List Int) (N : Nat) (h : a + xs.length ≤ N) : (lstF f N).take a ++ (xs ++ (lstF f N).drop (a + xs.length)) = lstF (ldF f a xs xs.length) N := by
  apply List.ext_getElem (by simp [lstF_len]; omega)
  intro i h1 h2
  have hN : i < N := by rw [lstF_len] at h2; exact h2
  rw [show (lstF (ldF f a xs xs.length) N)[i] = ldF f a xs xs.length i by simp only [lstF, List.getElem_map, List.getElem_range]]
  unfold ldF
  rcases Nat.lt_or_ge i a with h3 | h3
  · rw [List.getElem_append_left (by rw [List.length_take, lstF_len]; omega), if_neg (by omega)]
    simp only [lstF, List.getElem_take, List.getElem_map, List.getElem_range]
  · have hlt : ((lstF f N).take a).length = a := by rw [List.length_take, lstF_len]; omega
    rw [List.getElem_append_right (by omega)]
    rcases Nat.lt_or_ge i (a + xs.length) with h4 | h4
    · rw [List.getElem_append_left (by omega), if_pos ⟨h3, h4⟩, iat_eq _ _ (by omega)]
      simp only [hlt]
    · rw [List.getElem_append_right (by omega), if_neg (by omega)]
      simp only [lstF, List.getElem_drop, List.getElem_map, List.getElem_range, List.length_take, List.length_map, List.length_range]
      congr 1
      omega
theorem rowF_splice (f : Nat → Int) (a : Nat) (xs : List Int) (N : Nat) (h : a + xs.length ≤ N) : ((rowF f N).toList.take a ++ (xs.map (Value.int .u8) ++ (rowF f N).toList.drop (a + (xs.map (Value.int .u8)).length))).toArray = rowF (ldF f a xs xs.length) N := by
  have e : rowF (ldF f a xs xs.length) N = ((lstF (ldF f a xs xs.length) N).map (Value.int .u8)).toArray := by
    unfold rowF lstF; rw [List.map_map]; rfl
  rw [e, ← lstF_splice f a xs N h, rowF_list, List.map_append, List.map_append, List.map_take, List.map_drop, List.length_map]
theorem rowF_len (q : Nat → Int) (n : Nat) : (rowF q n).size = n := by unfold rowF; rw [List.size_toArray, List.length_map, List.length_range]
theorem step_copy_row {P : Program} {ops : Array Oper} {o : Oper} {a : Act} {w : World} {K : Act → World → Prop} {Q : Exit → Act → World → Prop} {E : Prop} (hgd : o.guard = none) (d s : Operand) (dT sT : TypeId)
    (ho : o.op = .call { callee := .builtin .copy, args := #[d, s], argTypes := #[dT, sT] }) (elem : TypeId) (hu : P.underlying dT = some (.slice elem)) (hsz : (P.info? elem).map (·.size) = some 1)
    (g off dLen dCap : Nat) (ad : Addr) (sLen sCap : Nat) (hd : a.eval d = .slice (some ⟨g, off, none⟩) dLen dCap) (hs : a.eval s = .slice (some ad) sLen sCap)
    (cur : Array Value) (t : TypeId) (hg : w.heap[g]? = some (.cells cur t (0, 0))) (cs : List Value) (hn : cs.length = Nat.min sLen dLen)
    (hsrc : ∀ j v, cs[j]? = some v → w.cell? (ad.add j) = some v) (hfit : off + cs.length ≤ cur.size) (h1 : ∀ v ∈ cs, v.oneCell' = true)
    (h : K (a.put o.dst (goInt cs.length)) (w.setRow g (cur.toList.take off ++ (cs ++ cur.toList.drop (off + cs.length))).toArray)) : if Region.wanted o (yielded ops a.tmps) = true then Oper.wp P o a w K Q else E := by
  have hw : Region.wanted o (yielded ops a.tmps) = true := by simp [Region.wanted, hgd]
  rw [if_pos hw]
  have hrun := run_copy_row (P := P) w dT sT o.type elem g off dLen dCap ad sLen sCap cur t cs hu hsz hg hn hsrc hfit h1
  unfold Oper.wp
  simp [execOp, ho, resolve, invoke, builtin, hd, hs, hrun, Result.andThen]
  exact h
theorem src_at {w : World} {A : Option Addr} {n c : Nat} {xs : List Int} (h : eY.Rd w (.slice A n c) xs) (h0 : 0 < xs.length) : ∃ ad, A = some ad ∧ ∀ j v, (xs.map (Value.int .u8))[j]? = some v → w.cell? (ad.add j) = some v := by
  obtain ⟨A', c', e, h2⟩ := rdY_open h
  obtain ⟨rfl, rfl, rfl⟩ := Value.slice.inj e
  obtain ⟨g, off, rfl, hlt, h3⟩ := h2 h0
  refine ⟨_, rfl, fun j v hj => ?_⟩
  have hjl : j < xs.length := by
    rcases Nat.lt_or_ge j xs.length with a | a
    · exact a
    · rw [List.getElem?_eq_none (by simpa using a)] at hj; cases hj
  rw [Els.add_pl, h3 j hjl]
  rw [List.getElem?_map, List.getElem?_eq_getElem hjl] at hj
  rw [iat_eq _ _ hjl]
  exact hj
theorem wpList_copy_F {ops : Array Oper} {rest : List Oper} {o : Oper} {a : Act} {w : World} {Q : Exit → Act → World → Prop} (hgd : o.guard = none) (d s : Operand)
    (ho : o.op = .call { callee := .builtin .copy, args := #[d, s], argTypes := #[22, 22] })
    (g off dLen dCap : Nat) (A : Option Addr) (sLen sCap : Nat) (hd : a.eval d = .slice (some ⟨g, off, none⟩) dLen dCap) (hs : a.eval s = .slice A sLen sCap)
    (f : Nat → Int) (N : Nat) (hg : Blk w g 5 (rowF f N)) (xs : List Int) (hr : eY.Rd w (.slice A sLen sCap) xs) (hn : xs.length = Nat.min sLen dLen) (hfit : off + xs.length ≤ N)
    (h : ∀ w', Blk w' g 5 (rowF (ldF f off xs xs.length) N) → w.grownBy w' (some g) → wpList Try.prog ops Q rest (a.put o.dst (goInt xs.length)) w') : wpList Try.prog ops Q (o :: rest) a w := by
  have hsz : (Try.prog.info? 5).map (·.size) = some 1 := by kernel_rfl
  rcases Nat.eq_zero_or_pos xs.length with h0 | h0
  · obtain rfl : xs = [] := List.eq_nil_of_length_eq_zero h0
    refine wpList_copy_nothing hgd d s _ _ ho _ Try.underlying22 hsz _ A dLen dCap sLen sCap hd hs (by simpa using hn.symm) ?_
    exact h w (by rw [show ldF f off [] ([] : List Int).length = f from ldF_zero f off []]; exact hg) (World.grownBy.refl _ _)
  · obtain ⟨ad, rfl, hsrc⟩ := src_at hr h0
    refine wpList_copy_own hgd d s _ _ ho _ Try.underlying22 hsz g off dLen dCap ad sLen sCap hd hs (rowF f N) _ hg (xs.map (Value.int .u8)) (by rw [List.length_map]; exact hn) hsrc (by rw [rowF_len, List.length_map]; exact hfit) (fun v hv => by obtain ⟨z, _, rfl⟩ := List.mem_map.1 hv; rfl) ?_
    rw [rowF_splice f off xs N hfit, List.length_map]
    exact h _ (Blk.row hg _) ⟨rfl, rfl, rfl, by simp, fun k hk hne => setRow_other w g k _ (fun e => hne (by rw [e]))⟩
theorem step_copy_F {ops : Array Oper} {o : Oper} {a : Act} {w : World} {K : Act → World → Prop} {Q : Exit → Act → World → Prop} {E : Prop} (hgd : o.guard = none) (d s : Operand)
    (ho : o.op = .call { callee := .builtin .copy, args := #[d, s], argTypes := #[22, 22] })
    (g off dLen dCap : Nat) (A : Option Addr) (sLen sCap : Nat) (hd : a.eval d = .slice (some ⟨g, off, none⟩) dLen dCap) (hs : a.eval s = .slice A sLen sCap)
    (f : Nat → Int) (N : Nat) (hg : Blk w g 5 (rowF f N)) (xs : List Int) (hr : eY.Rd w (.slice A sLen sCap) xs) (h0 : 0 < xs.length) (hn : xs.length = Nat.min sLen dLen) (hfit : off + xs.length ≤ N)
    (h : ∀ w', Blk w' g 5 (rowF (ldF f off xs xs.length) N) → w.grownBy w' (some g) → K (a.put o.dst (goInt xs.length)) w') : if Region.wanted o (yielded ops a.tmps) = true then Oper.wp Try.prog o a w K Q else E := by
  have hsz : (Try.prog.info? 5).map (·.size) = some 1 := by kernel_rfl
  obtain ⟨ad, rfl, hsrc⟩ := src_at hr h0
  refine step_copy_row hgd d s _ _ ho _ Try.underlying22 hsz g off dLen dCap ad sLen sCap hd hs (rowF f N) _ hg (xs.map (Value.int .u8)) (by rw [List.length_map]; exact hn) hsrc (by rw [rowF_len, List.length_map]; exact hfit) (fun v hv => by obtain ⟨z, _, rfl⟩ := List.mem_map.1 hv; rfl) ?_
  rw [rowF_splice f off xs N hfit, List.length_map]
  exact h _ (Blk.row hg _) ⟨rfl, rfl, rfl, by simp, fun k hk hne => setRow_other w g k _ (fun e => hne (by rw [e]))⟩
/-- The law's row and its memory. -/
def RP (w : World) (B lb : Nat) (u : Value) (rom : Int) (f : Nat → Int) : Prop :=
  ∃ m p, u = .pointer (some ⟨m, 0, none⟩) ∧ Ra w m p rom f ∧ Blk w lb 5 (rowF f 65536) ∧ ¬ RS m p lb ∧ ∀ b, RS m p b → B ≤ b
theorem Rst.blk {W0 W : World} {m : Nat} {p p' : Nat → Option Nat} {g : Nat} {t : TypeId} {cs : Array Value} (h : Rst W0 W m p p') (hb : Blk W0 g t cs) (hn : ¬ RS m p g) : Blk W g t cs := (h.block g hb.lt hn).trans hb
theorem Rst.off {W0 W : World} {m : Nat} {p p' : Nat → Option Nat} {g : Nat} (h : Rst W0 W m p p') (hg : g < W0.heap.size) (hn : ¬ RS m p g) : ¬ RS m p' g := fun e => by
  rcases h.own g e with e | e
  · exact hn e
  · omega
theorem Rst.above {W0 W : World} {m : Nat} {p p' : Nat → Option Nat} {B : Nat} (h : Rst W0 W m p p') (hB : B ≤ W0.heap.size) (hn : ∀ b, RS m p b → B ≤ b) : ∀ b, RS m p' b → B ≤ b := fun b e => by
  rcases h.own b e with e | e
  · exact hn b e
  · omega
/-- Behind a byte that memory has taken: the row takes it too. -/
theorem RP.poke {W0 W : World} {m B lb a : Nat} {p p' : Nat → Option Nat} {rom x : Int} {f : Nat → Int} (h : Ra W m p' rom (upd f a x)) (hs : Rst W0 W m p p') (hb : Blk W0 lb 5 (rowF f 65536)) (hn : ¬ RS m p lb) (ho : ∀ b, RS m p b → B ≤ b) (hB : B ≤ W0.heap.size) (ha : a < 65536) :
    RP (W.setCell ⟨lb, a, none⟩ (.int .u8 x)) B lb (.pointer (some ⟨m, 0, none⟩)) rom (upd f a x) := by
  have hn' := hs.off hb.lt hn
  refine ⟨m, p', rfl, h.keep fun b hb' => heap_setCell_other W _ b _ (fun e => hn' (by have e2 : b = lb := e; rw [← e2]; exact hb')), ?_, hn', hs.above hB ho⟩
  rw [← rowF_set f 65536 a x ha]
  exact (hs.blk hb hn).set_ a _
end Go.Proofs.Ytnhafficnomlbaa
