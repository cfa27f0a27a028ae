/- Slices of integers of a call's own: made, appended to, read. -/
import Derived.Test.YtljhfalgplihhaaGreatDoorMem
import Derived.Maps.AppendAt
import Derived.Laws.MakeOwn
import Derived.Laws.OwnMore
import Derived.StillTailTactics
namespace Go.Proofs.YtljhfalgplihhaaGreatDoor
open Go.ChangeShapes Go.WideShapes Go.ChangeAt Go.RowKit
set_option linter.unusedVariables false

/-- v is a slice of the call's own (its block is base or above), and reads as the integers zs. -/
def Own (k : IntKind) (e : TypeId) (w : World) (base : Nat) (v : Value) (zs : List Int) : Prop := w.ownsRow base e 1 v zs.length (zs.map (Value.int k))
section
variable {k : IntKind} {e : TypeId} {w w' : World} {base : Nat} {v : Value} {zs : List Int}
theorem Own.nil_ (k : IntKind) (e : TypeId) (w : World) (base : Nat) : Own k e w base (.slice none 0 0) [] := World.ownsRow_nil w base e 1
theorem Own.alloc (h : Own k e w base v zs) (o : Obj) : Own k e (w.alloc o) base v zs := World.ownsRow.alloc h o
theorem Own.grown {row : Option Nat} (h : Own k e w base v zs) (hg : w.grownBy w' row) (hne : v.ownBlock = none ∨ v.ownBlock ≠ row) : Own k e w' base v zs := World.ownsRow.kept h hg hne
theorem Own.below (h : Own k e w base v zs) {B : Nat} (hb : Below B w w') (hv : ∀ g, v.ownBlock = some g → g < B) : Own k e w' base v zs := by
  obtain ⟨hl, h2⟩ := h
  refine ⟨hl, ?_⟩
  rcases h2 with h2 | ⟨g, cap, cur, rfl, h3, h4, h5⟩
  · exact .inl h2
  · exact .inr ⟨g, cap, cur, rfl, h3, (hb.block g (hv g rfl)).trans h4, h5⟩
theorem Own.more {base' : Nat} (h : Own k e w base v zs) (hb : base' ≤ base) : Own k e w base' v zs := by
  obtain ⟨hl, h2⟩ := h
  refine ⟨hl, ?_⟩
  rcases h2 with h2 | ⟨g, cap, cur, rfl, h3, h4⟩
  · exact .inl h2
  · exact .inr ⟨g, cap, cur, rfl, Nat.le_trans hb h3, h4⟩
theorem Own.drew (h : Own k e w base v zs) : Own k e w.drew base v zs := h
theorem Own.drewN (h : Own k e w base v zs) (n : Nat) : Own k e (w.drewN n) base v zs := h
theorem Own.lt (h : Own k e w base v zs) : ∀ g, v.ownBlock = some g → base ≤ g ∧ g < w.heap.size := World.ownsRow.lt h
/-- Read as any slice is. -/
theorem Own.ints (h : Own k e w base v zs) (hwf : ∀ z ∈ zs, (Lit.int k z).wf = true) : ∃ A c, v = .slice A zs.length c ∧ Ints k w w.heap.size A zs.length zs := by
  have hlt := h.lt
  have hcs := fun g => World.ownsRow.cells (g := g) h
  obtain ⟨hl, h2⟩ := h
  rcases h2 with ⟨rfl, hn⟩ | ⟨g, cap, cur, rfl, h3, h4, h5, h6, h7, h8⟩
  · have : zs = [] := List.eq_nil_of_length_eq_zero hn
    subst this
    exact ⟨none, 0, rfl, Ints.nil_ _ _ _ _⟩
  · refine ⟨_, cap, rfl, rfl, hwf, fun hn => ⟨g, 0, rfl, (hlt g rfl).2, fun i hi => ?_⟩⟩
    have := hcs g rfl i (.int k (iat zs i)) (by rw [List.getElem?_map, List.getElem?_eq_getElem hi, iat_eq _ _ hi]; rfl)
    rw [← this]
    unfold Addr.add; split <;> simp_all
theorem below_own {row : Option Nat} (hg : w.grownBy w' row) (h : ∀ g, row = some g → base ≤ g) (hb : base ≤ w.heap.size) : Below base w w' :=
  (Below.refl _ _).grown hg hb h
end
theorem cells_new (w' : World) (xs : List Int) (k : IntKind) (t : TypeId) (g : Nat) (cs : Array Value) (hcs : cs = (xs.map (Value.int k)).toArray) (hb : w'.heap[g]? = some (.cells cs t (0, 0))) :
    ∀ j u, (xs.map (Value.int k))[j]? = some u → w'.cell? ((⟨g, 0, none⟩ : Addr).add j) = some u := by
  intro j u hj
  subst hcs
  have hp : (⟨g, 0, none⟩ : Addr).add j = ⟨g, j, none⟩ := by unfold Addr.add; split <;> simp_all
  rw [hp, cell_of_row w' g j _ t (0, 0) hb, List.getElem?_toArray]
  exact hj
theorem cells_lit (w : World) (xs : List Int) (k : IntKind) (t : TypeId) (g : Nat) (hg : g = w.heap.size) (cs : Array Value) (hcs : cs = (xs.map (Value.int k)).toArray) :
    ∀ j u, (xs.map (Value.int k))[j]? = some u → (w.alloc (.cells cs t)).cell? ((⟨g, 0, none⟩ : Addr).add j) = some u := by
  intro j u hj
  subst hg hcs
  have hp : (⟨w.heap.size, 0, none⟩ : Addr).add j = ⟨w.heap.size, j, none⟩ := by unfold Addr.add; split <;> simp_all
  rw [hp, (Blk.new w t _ (0, 0)).cell, List.getElem?_toArray]
  exact hj
theorem info8 : (Tryz.prog.info? 5).map (fun i => (i.zero, i.size, i.bytes)) = some (some (.int .u8 0), 1, 8 / 8) := by kernel_rfl
theorem make_own8 (w : World) (base c : Nat) (hc : c ≤ 1099511627776) (hb : base ≤ w.heap.size) :
    ∃ w' v', (Instr.makeSlice 22 (.int .i64 0) (.int .i64 (c : Int))).run Tryz.prog w = .ok v' w' ∧ Own .u8 5 w' base v' [] ∧ w.grownBy w' none ∧ w.heap.size < w'.heap.size := by
  obtain ⟨i0, hi, hz0, hz1, hz2⟩ := info_parts info8
  have hr := run_make (P := Tryz.prog) w 22 5 i0 (.int .u8 0) Tryz.underlying22 hi hz0 .i64 .i64 0 c (Int.le_refl _) (by omega) (by rw [hz2]; omega) (by omega)
  simp only [Int.toNat_zero, Int.toNat_natCast] at hr
  exact ⟨_, _, hr, World.ownsRow_made w _ c hb (by unfold maxLen; omega) (by rw [size_madeCells, hz1]), World.grownBy_alloc w _ none, by simp⟩
theorem app_own8 {o : Oper} {a : Act} {K : Act → World → Prop} {Q : Exit → Act → World → Prop} (w : World) (s x : Operand)
    (ho : o.op = .call { callee := .builtin .append, args := #[s, x], argTypes := #[22, 22] })
    (base : Nat) (v : Value) (zs : List Int) (hs : a.eval s = v) (hown : Own .u8 5 w base v zs)
    (ad : Addr) (m c : Nat) (news : List Int) (hx : a.eval x = .slice (some ad) m c) (hm : m = news.length)
    (hnews : ∀ j u, (news.map (Value.int .u8))[j]? = some u → w.cell? (ad.add j) = some u)
    (hlen : zs.length + news.length ≤ 1099511627776) (hbase : base ≤ w.heap.size)
    (h : ∀ v' w', Own .u8 5 w' base v' (zs ++ news) → Below base w w' → w.grownBy w' v.ownBlock → K (a.put o.dst v') w') : o.wp Tryz.prog a w K Q := by
  subst hm
  obtain ⟨i0, hi, hz0, hz1, hz2⟩ := info_parts info8
  obtain ⟨v', w', hr, h2, h3, _, _⟩ := run_append_own_at (P := Tryz.prog) w base 22 o.type 5 i0 (.int .u8 0) 1 (8 / 8) Tryz.underlying22 hi hz0 hz1 hz2 rfl (by decide) v zs.length _ hown ad news.length c
    (news.map (Value.int .u8)) (by simp) hnews (by intro u hu; obtain ⟨z, _, rfl⟩ := List.mem_map.1 hu; rfl) (by unfold maxLen; omega) (by omega) hbase
  unfold Oper.wp execOp
  simp only [ho, resolve, invoke, builtin, Sem.run_bind, Sem.run_pure, Result.andThen_ok, List.map_toArray, List.map_cons, List.map_nil, hs, hx, hr]
  refine h v' w' ?_ (below_own h3 (fun g hg => (hown.lt g hg).1) hbase) h3
  unfold Own
  rw [List.length_append, List.map_append]
  exact h2
theorem step_app8 {ops : Array Oper} {o : Oper} {a : Act} {K : Act → World → Prop} {Q : Exit → Act → World → Prop} {E : Prop} (hgd : o.guard = none) (w : World) (s x : Operand)
    (ho : o.op = .call { callee := .builtin .append, args := #[s, x], argTypes := #[22, 22] })
    (base : Nat) (v : Value) (zs : List Int) (hs : a.eval s = v) (hown : Own .u8 5 w base v zs)
    (ad : Addr) (m c : Nat) (news : List Int) (hx : a.eval x = .slice (some ad) m c) (hm : m = news.length)
    (hnews : ∀ j u, (news.map (Value.int .u8))[j]? = some u → w.cell? (ad.add j) = some u)
    (hlen : zs.length + news.length ≤ 1099511627776) (hbase : base ≤ w.heap.size)
    (h : ∀ v' w', Own .u8 5 w' base v' (zs ++ news) → Below base w w' → w.grownBy w' v.ownBlock → K (a.put o.dst v') w') : if Region.wanted o (yielded ops a.tmps) = true then Oper.wp Tryz.prog o a w K Q else E := by
  rw [if_pos (by simp [Region.wanted, hgd])]
  exact app_own8 w s x ho base v zs hs hown ad m c news hx hm hnews hlen hbase h
theorem wpList_app8 {ops : Array Oper} {rest : List Oper} {o : Oper} {a : Act} {Q : Exit → Act → World → Prop} (hgd : o.guard = none) (w : World) (s x : Operand)
    (ho : o.op = .call { callee := .builtin .append, args := #[s, x], argTypes := #[22, 22] })
    (base : Nat) (v : Value) (zs : List Int) (hs : a.eval s = v) (hown : Own .u8 5 w base v zs)
    (ad : Addr) (m c : Nat) (news : List Int) (hx : a.eval x = .slice (some ad) m c) (hm : m = news.length)
    (hnews : ∀ j u, (news.map (Value.int .u8))[j]? = some u → w.cell? (ad.add j) = some u)
    (hlen : zs.length + news.length ≤ 1099511627776) (hbase : base ≤ w.heap.size)
    (h : ∀ v' w', Own .u8 5 w' base v' (zs ++ news) → Below base w w' → w.grownBy w' v.ownBlock → wpList Tryz.prog ops Q rest (a.put o.dst v') w') : wpList Tryz.prog ops Q (o :: rest) a w :=
  wpList_plain hgd fun _ hK => app_own8 w s x ho base v zs hs hown ad m c news hx hm hnews hlen hbase fun v' w' h2 h3 h4 => hK _ _ (h v' w' h2 h3 h4)
theorem bytes_at' (w : World) (g off n c : Nat) (xs : List Int) (hn : xs.length = n) (h : ∀ i, i < n → w.cell? ⟨g, off + i, none⟩ = some (.int .u8 (iat xs i))) :
    (convert 22 9 (.slice (some ⟨g, off, none⟩) n c)).run Tryz.prog w = .ok (.string (strOfNums xs)) w :=
  run_convert_bytes_arg w 22 5 Tryz.underlying22 Tryz.underlying5 g off n c xs hn h 9 Tryz.underlying9
end Go.Proofs.YtljhfalgplihhaaGreatDoor
