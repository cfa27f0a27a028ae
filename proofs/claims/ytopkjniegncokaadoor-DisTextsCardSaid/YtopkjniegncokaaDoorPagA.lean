/- The contract of the document's add (spinetref14): one more listed thing, on a slice of the caller's own. -/
import Derived.Test.YtopkjniegncokaaDoorPagL
import Derived.Maps.AppendAt
namespace Go.Proofs.YtopkjniegncokaaDoor
open Go.ChangeShapes Go.WideShapes Go.ChangeAt Go.RowKit
set_option linter.unusedVariables false

/-- Every block but the row's own stands as it stood, and is not the new row's. -/
def Apart (w w' : World) (v v' : Value) : Prop := ∀ g, g < w.heap.size → v.ownBlock ≠ some g → w'.heap[g]? = w.heap[g]? ∧ v'.ownBlock ≠ some g
theorem Apart.blk {w w' : World} {v v' : Value} {g : Nat} {t : TypeId} {cs : Array Value} {fr : Nat × Nat} (h : Apart w w' v v') (hb : Blk w g t cs fr) (hn : v.ownBlock ≠ some g) : Blk w' g t cs fr :=
  (h g hb.lt hn).1.trans hb
theorem Apart.ne {w w' : World} {v v' : Value} {g : Nat} (h : Apart w w' v v') (hg : g < w.heap.size) (hn : v.ownBlock ≠ some g) : v'.ownBlock ≠ some g := (h g hg hn).2
theorem Apart.of {w w' : World} {o : Obj} {v v' : Value} (h2 : (w.alloc o).grownBy w' v.ownBlock) (h4 : v'.ownBlock = v.ownBlock ∨ v'.ownBlock = some (w.heap.size + 1)) : Apart w w' v v' := fun g hg hne =>
  ⟨(h2.block g (by simp; omega) (fun e => hne e.symm)).trans (Below.heap_alloc w _ g hg), by
    rcases h4 with e | e
    · rw [e]; exact hne
    · rw [e]; intro e2; simp at e2; omega⟩
theorem ownsRow_new {w : World} {base : Nat} {e : TypeId} {size n : Nat} {v : Value} {xs : List Value} (h : w.ownsRow base e size v n xs) : v.ownBlock ≠ some w.heap.size := fun e => by
  have := (h.lt _ e).2; omega
theorem cells_of_blk {w : World} {g : Nat} {t : TypeId} {cs : Array Value} (h : Blk w g t cs) : ∀ j u, cs.toList[j]? = some u → w.cell? ((⟨g, 0, none⟩ : Addr).add j) = some u := by
  intro j u hj
  have hp : (⟨g, 0, none⟩ : Addr).add j = ⟨g, j, none⟩ := by unfold Addr.add; split <;> simp_all
  rw [hp, h.cell, ← Array.getElem?_toList]
  exact hj
theorem infoKnown : (Tryd.prog.info? 59).map (fun i => (i.zero, i.size, i.bytes)) = some (some (.agg #[.int .i64 0, .int .i64 0, .int .i64 0, .int .i64 0, .int .i64 0]), 5, 40) := by kernel_rfl
abbrev knC (p c o m r : Int) : Array Value := #[.int .i64 p, .int .i64 c, .int .i64 o, .int .i64 m, .int .i64 r]
/-- What add leaves: the slice, one longer. -/
def Added (w : World) (base : Nat) (v : Value) (n : Nat) (xs : List Value) (e : Ending) (w' : World) : Prop :=
  ∃ v', e = .returned v' ∧ w'.ownsRow base 59 5 v' n xs ∧ Below base w w' ∧ Apart w w' v v'
set_option maxRecDepth 100000 in
theorem add_any (w : World) (base : Nat) (v : Value) (n : Nat) (xs : List Value) (hown : w.ownsRow base 59 5 v n xs) (hb : base ≤ w.heap.size) (hn : n ≤ 1000) (p c o m r : Int) :
    Calls Tryd.prog 46 #[v, .int .i64 p, .int .i64 c, .int .i64 o, .int .i64 m, .int .i64 r] w (Added w base v (n + 1) (xs ++ (knC p c o m r).toList)) := by
  obtain ⟨i0, hi, hz0, hz1, hz2⟩ := info_parts infoKnown
  have HO := Lib.hid hown
  have HN := Lib.hid hn
  have HBs := Lib.hid hb
  clear hown hn hb
  go_enter Tryd.func46, Tryd.ntmps46
  go_wp2_with (at_builtin; refine wpList_append_own_at _ rfl _ _ 56 rfl base 59 i0 (.agg #[.int .i64 0, .int .i64 0, .int .i64 0, .int .i64 0, .int .i64 0]) 5 40 Tryd.underlying56 hi hz0 hz1 hz2 rfl (by decide) v n xs rfl (HO.out.alloc _) ⟨w.heap.size, 0, none⟩ 1 1 (knC p c o m r).toList rfl rfl (cells_of_blk (Blk.new w _ _ _)) ?c1 ?c2 ?c3 ?c4 ?_)
  case c1 => simp [Value.oneCell']
  case c2 => have := HN.out; unfold maxLen; omega
  case c3 => have := HN.out; omega
  case c4 => have := HBs.out; simp; omega
  intro v' w' h1 h2 h3 h4
  have H1 := Lib.hid h1
  have H4 := Lib.hid (Apart.of h2 h4)
  have H2 := Lib.hid (show Below base w w' from Below.grown ((Below.refl _ _).alloc HBs.out _) h2 (by have := HBs.out; simp; omega) (fun k hk => (HO.out.lt k hk).1))
  clear h1 h2 h3 h4
  go_wp2
  go_ret
  exact ⟨v', rfl, H1.out, H2.out, H4.out⟩
end Go.Proofs.YtopkjniegncokaaDoor
