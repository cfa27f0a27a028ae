/- Contracts: a register's name (package ops, spinetref13). A slice of strings of the call's own. -/
import Derived.Test.YtfkcogccbeolfabDoorLstO
import Derived.Test.YtfkcogccbeolfabDoorLstL
import Derived.Laws.OwnMore
import Derived.Maps.AppendAt
namespace Go.Proofs.YtfkcogccbeolfabDoor
open Go.ChangeShapes Go.WideShapes Go.ChangeAt Go.RowKit
set_option linter.unusedVariables false

set_option maxRecDepth 100000 in
theorem refReg_any (k : Nat) (hk : k < 12) (w : World) :
    Calls Tryd.prog 10 #[.int .i64 (k : Int)] w fun e w' => e = .returned (.string (regS k)) ∧ Below w.heap.size w w' := by
  have k0 : (0 : Int) ≤ (k : Int) := by omega
  have k1 : (k : Int) < 12 := by omega
  go_enter Tryd.func10, Tryd.ntmps10
  go_wp2
  go_ret
  refine ⟨?_, Below.alloc0 (Below.refl _ _) _⟩
  rcases (show k = 0 ∨ k = 1 ∨ k = 2 ∨ k = 3 ∨ k = 4 ∨ k = 5 ∨ k = 6 ∨ k = 7 ∨ k = 8 ∨ k = 9 ∨ k = 10 ∨ k = 11 by omega) with rfl | rfl | rfl | rfl | rfl | rfl | rfl | rfl | rfl | rfl | rfl | rfl
  all_goals rfl
theorem regN_lt (k : Nat) (hk : k < 8) (u : Bool) : regN k u < 12 := by
  rcases (show k = 0 ∨ k = 1 ∨ k = 2 ∨ k = 3 ∨ k = 4 ∨ k = 5 ∨ k = 6 ∨ k = 7 by omega) with rfl | rfl | rfl | rfl | rfl | rfl | rfl | rfl <;> cases u <;> decide
theorem infoStr : (Tryd.prog.info? 9).map (fun i => (i.zero, i.size, i.bytes)) = some (some (.string ⟨#[]⟩), 1, 16) := by kernel_rfl
def Strs (w : World) (base : Nat) (v : Value) (l : List ByteArray) : Prop := w.ownsRow base 9 1 v l.length (l.map Value.string)
theorem Strs.alloc {w : World} {base : Nat} {v : Value} {l : List ByteArray} (h : Strs w base v l) (o : Obj) : Strs (w.alloc o) base v l := World.ownsRow.alloc h o
theorem wpList_appStr {ops : Array Oper} {rest : List Oper} {o : Oper} {a : Act} {Q : Exit → Act → World → Prop} (hgd : o.guard = none) (w : World) (s x : Operand)
    (ho : o.op = .call { callee := .builtin .append, args := #[s, x], argTypes := #[25, 25] })
    (base : Nat) (v : Value) (l : List ByteArray) (hs : a.eval s = v) (hown : Strs w base v l) (ad : Addr) (c : Nat) (r : ByteArray) (hx : a.eval x = .slice (some ad) 1 c)
    (hnews : ∀ j u, [Value.string r][j]? = some u → w.cell? (ad.add j) = some u) (hn : l.length ≤ 1000) (hbase : base ≤ w.heap.size)
    (h : ∀ v' w', Strs w' base v' (l ++ [r]) → Below base w w' → wpList Tryd.prog ops Q rest (a.put o.dst v') w') : wpList Tryd.prog ops Q (o :: rest) a w := by
  obtain ⟨i0, hi, hz0, hz1, hz2⟩ := info_parts infoStr
  refine wpList_append_own_at w hgd s x 25 ho base 9 i0 (.string ⟨#[]⟩) 1 16 Tryd.underlying25 hi hz0 hz1 hz2 rfl (by decide) v l.length (l.map Value.string) hs hown ad 1 c [Value.string r] hx rfl hnews (by simp [Value.oneCell']) (by unfold maxLen; omega) (by omega) hbase ?_
  intro v' w' h1 h2 h3 h4
  refine h v' w' ?_ (Below.grown (Below.refl _ _) h2 hbase (fun k hk => (hown.lt k hk).1))
  unfold Strs
  rw [List.length_append, List.map_append]
  exact h1
theorem Strs.read {w : World} {base : Nat} {v : Value} {l : List ByteArray} (h : Strs w base v l) : ∃ A c, v = .slice A l.length c ∧ (0 < l.length → ∃ g, A = some ⟨g, 0, none⟩ ∧ g < w.heap.size ∧ l.length ≤ c ∧ ∀ (j : Nat) x, l[j]? = some x → w.cell? ⟨g, 0 + j, none⟩ = some (.string x)) := by
  obtain ⟨hl, h2⟩ := h
  rcases h2 with ⟨rfl, hn⟩ | ⟨g, cap, cur, rfl, h3, h4, h5, h6, h7, h8⟩
  · rw [hn]; exact ⟨none, 0, rfl, fun h => absurd h (by decide)⟩
  · refine ⟨_, cap, rfl, fun _ => ⟨g, rfl, Blk.lt (t := _) (cs := cur) (fr := (0, 0)) h4, h5, fun j x hj => ?_⟩⟩
    have hlt : j < l.length := by
      rcases Nat.lt_or_ge j l.length with a | a
      · exact a
      · rw [List.getElem?_eq_none a] at hj; cases hj
    have e : (cur.toList.take (l.length * 1))[j]? = (l.map Value.string)[j]? := by rw [h8]
    rw [List.getElem?_take_of_lt (by omega), Array.getElem?_toList, List.getElem?_map, hj] at e
    rw [Nat.zero_add, Blk.cell (t := _) (cs := cur) (fr := (0, 0)) h4, e]; rfl
theorem Strs.setLast {w : World} {base : Nat} {v : Value} {l : List ByteArray} {r : ByteArray} (h : Strs w base v (l ++ [r])) (x : ByteArray) :
    ∃ g c, v = .slice (some ⟨g, 0, none⟩) (l.length + 1) c ∧ base ≤ g ∧ g < w.heap.size ∧ l.length + 1 ≤ c ∧ w.cell? ⟨g, l.length, none⟩ = some (.string r) ∧ w.frozen? ⟨g, l.length, none⟩ = false ∧
      Strs (w.setCell ⟨g, l.length, none⟩ (.string x)) base v (l ++ [x]) := by
  obtain ⟨hl, h2⟩ := h
  rcases h2 with ⟨rfl, hn⟩ | ⟨g, cap, cur, rfl, h3, h4, h5, h6, h7, h8⟩
  · simp at hn
  · have hlen : (l ++ [r]).length = l.length + 1 := by simp
    rw [hlen] at h5 h8 ⊢
    have hb : Blk w g 9 cur (0, 0) := h4
    have hc : cur[l.length]? = some (.string r) := by
      have e : (cur.toList.take ((l.length + 1) * 1))[l.length]? = ((l ++ [r]).map Value.string)[l.length]? := by rw [h8]
      rw [List.getElem?_take_of_lt (by omega), Array.getElem?_toList] at e
      rw [e]; simp
    refine ⟨g, cap, rfl, h3, Blk.lt hb, h5, (Blk.cell hb _).trans hc, Blk.frozen hb _, by simp, Or.inr ⟨g, cap, cur.setIfInBounds l.length (.string x), by simp, h3, Blk.set_ hb _ _, by simpa using h5, h6, by simpa using h7, ?_⟩⟩
    have e1 : ((l ++ [x]).length * 1) = l.length + 1 := by simp
    rw [e1, Array.toList_setIfInBounds]
    have h9 : cur.toList.take (l.length + 1) = l.map Value.string ++ [.string r] := by
      have := h8
      rw [Nat.mul_one] at this
      simpa using this
    rw [List.take_set, h9]
    simp
end Go.Proofs.YtfkcogccbeolfabDoor
