/- Contracts: the bytes that a postbyte pulls, in order (package lists; the document's own); how many they are. -/
import Derived.Test.YtopkjniegncokaaDoorLstR
import Derived.Test.YtopkjniegncokaaDoorPagA
import Derived.Test.YtopkjniegncokaaDoorOctRow
namespace Go.Proofs.YtopkjniegncokaaDoor
open Go.ChangeShapes Go.WideShapes Go.ChangeAt Go.RowKit
set_option linter.unusedVariables false

theorem grown_apart {w w' : World} {v v' : Value} (h2 : w.grownBy w' v.ownBlock) (h4 : v'.ownBlock = v.ownBlock ∨ v'.ownBlock = some w.heap.size) : Apart w w' v v' := fun g hg hne =>
  ⟨h2.block g hg (fun e => hne e.symm), by
    rcases h4 with e | e
    · rw [e]; exact hne
    · rw [e]; intro e2; simp at e2; omega⟩
/-- The slice v is a row of parts of the call's own, and reads as l. -/
def Pts (e : TypeId) (w : World) (base : Nat) (v : Value) (l : List Pt) : Prop := w.ownsRow base e 2 v l.length (pC l)
theorem Pts.alloc {e : TypeId} {w : World} {base : Nat} {v : Value} {l : List Pt} (h : Pts e w base v l) (o : Obj) : Pts e (w.alloc o) base v l := World.ownsRow.alloc h o
theorem Pts.belowAll {e : TypeId} {w w' : World} {base : Nat} {v : Value} {l : List Pt} (h : Pts e w base v l) (hb : Below w.heap.size w w') : Pts e w' base v l := by
  obtain ⟨hl, h2⟩ := h
  refine ⟨hl, ?_⟩
  rcases h2 with h2 | ⟨g, cap, cur, rfl, h3, h4, h5⟩
  · exact .inl h2
  · refine .inr ⟨g, cap, cur, rfl, h3, (hb.block g ?_).trans h4, h5⟩
    exact Blk.lt (t := _) (cs := cur) (fr := (0, 0)) h4
/-- Read: a slice with its cells, or none. -/
theorem Pts.read {e : TypeId} {w : World} {base : Nat} {v : Value} {l : List Pt} (h : Pts e w base v l) :
    ∃ A cap, v = .slice A l.length cap ∧ (0 < l.length → ∃ g cur, A = some ⟨g, 0, none⟩ ∧ base ≤ g ∧ Blk w g e cur ∧ l.length ≤ cap ∧ ∀ k, k < l.length → cur[k * 2]? = some (.int .i64 ((l.getD k (0, false)).1 : Int)) ∧ cur[k * 2 + 1]? = some (.bool (l.getD k (0, false)).2)) := by
  obtain ⟨hl, h2⟩ := h
  rcases h2 with ⟨rfl, hn⟩ | ⟨g, cap, cur, rfl, h3, h4, h5, h6, h7, h8⟩
  · rw [hn]; exact ⟨none, 0, rfl, fun h => absurd h (by decide)⟩
  · refine ⟨_, cap, rfl, fun _ => ⟨g, cur, rfl, h3, h4, h5, fun k hk => ?_⟩⟩
    have key : ∀ j, j < 2 → cur[2 * k + j]? = (ptC (l.getD k (0, false)))[j]? := fun j hj => by
      have e : (cur.toList.take (l.length * 2))[2 * k + j]? = (pC l)[2 * k + j]? := by rw [h8]
      rw [List.getElem?_take_of_lt (by omega), Array.getElem?_toList, pC_at _ _ _ hk hj] at e
      exact e
    have a := key 0 (by decide)
    have b := key 1 (by decide)
    rw [show k * 2 = 2 * k + 0 by omega, show 2 * k + 0 + 1 = 2 * k + 1 by omega, a, b]
    exact ⟨rfl, rfl⟩
theorem wpList_appPt {P : Program} {ops : Array Oper} {rest : List Oper} {o : Oper} {a : Act} {Q : Exit → Act → World → Prop} (hgd : o.guard = none) (w : World) (s x : Operand) (t e : TypeId)
    (ho : o.op = .call { callee := .builtin .append, args := #[s, x], argTypes := #[t, t] })
    (hinfo : (P.info? e).map (fun i => (i.zero, i.size, i.bytes)) = some (some (.agg #[.int .i64 0, .bool false]), 2, 16)) (ht : P.underlying t = some (.slice e))
    (base : Nat) (v : Value) (l : List Pt) (hs : a.eval s = v) (hown : Pts e w base v l) (ad : Addr) (c : Nat) (r : Nat) (b : Bool) (hx : a.eval x = .slice (some ad) 1 c)
    (hnews : ∀ j u, (ptC (r, b))[j]? = some u → w.cell? (ad.add j) = some u) (hn : l.length ≤ 1000) (hbase : base ≤ w.heap.size)
    (h : ∀ v' w', Pts e w' base v' (l ++ [(r, b)]) → Below base w w' → wpList P ops Q rest (a.put o.dst v') w') : wpList P ops Q (o :: rest) a w := by
  obtain ⟨i0, hi, hz0, hz1, hz2⟩ := info_parts hinfo
  refine wpList_append_own_at w hgd s x t ho base e i0 (.agg #[.int .i64 0, .bool false]) 2 16 ht hi hz0 hz1 hz2 rfl (by decide) v l.length (pC l) hs hown ad 1 c (ptC (r, b)) hx rfl hnews (by simp [ptC, Value.oneCell']) (by unfold maxLen; omega) (by omega) hbase ?_
  intro v' w' h1 h2 h3 h4
  refine h v' w' ?_ (Below.grown (Below.refl _ _) h2 hbase (fun k hk => (hown.lt k hk).1))
  unfold Pts
  rw [List.length_append, pC_snoc]
  exact h1
theorem upP_on4 (p : Nat) (u : Bool) (k r : Nat) (hr : regN k u = r) (h : bitN p k = true) (h4 : 4 ≤ k) : upP p u (k + 1) = (upP p u k ++ [(r, true)]) ++ [(r, false)] := by
  rw [show upP p u (k + 1) = upP p u k ++ ptK p u k from rfl]
  unfold ptK
  rw [if_pos h, if_pos h4, hr, List.append_assoc]; rfl
theorem upP_on (p : Nat) (u : Bool) (k r : Nat) (hr : regN k u = r) (h : bitN p k = true) (h4 : ¬ 4 ≤ k) : upP p u (k + 1) = upP p u k ++ [(r, false)] := by
  rw [show upP p u (k + 1) = upP p u k ++ ptK p u k from rfl]
  unfold ptK
  rw [if_pos h, if_neg h4, hr]
theorem upP_off (p : Nat) (u : Bool) (k : Nat) (h : bitN p k = false) : upP p u (k + 1) = upP p u k := by
  rw [show upP p u (k + 1) = upP p u k ++ ptK p u k from rfl]
  unfold ptK
  rw [h]; simp
theorem cntN_le (p : Nat) : cntN p ≤ 16 := upP_len p false 8
end Go.Proofs.YtopkjniegncokaaDoor
