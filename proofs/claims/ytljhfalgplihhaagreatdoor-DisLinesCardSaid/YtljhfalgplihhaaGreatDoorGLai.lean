/- Laid, LaidS, PagL, PagA, StepA in one text. -/
import Derived.Test.YtljhfalgplihhaaGreatDoorMem
import Derived.Lib.LaidTab
import Derived.LaidMore
import Derived.MakeChecks
import Derived.ChangeArms
import Derived.OpenShut
import Derived.Test.YtljhfalgplihhaaGreatDoorGPag
import Derived.Deep.RegionHeld3
import Derived.Maps.AppendAt
import Derived.Laws.OwnMore
namespace Go.Proofs.YtljhfalgplihhaaGreatDoor
open Go.ChangeShapes Go.WideShapes Go.ChangeAt Go.RowKit
set_option linter.unusedVariables false
/-- The table stands first on the list. -/
theorem intTab_of_laid {P : Program} {W : World} {name : String} {k : IntKind} {zs : List Int} {g : Nat} {t e : TypeId} {n : Nat}
    (hg : P.globalNamed name = some g) (hty : (P.globals[g]?).map (·.type) = some t) (ht : P.underlying t = some (.array n e)) (he : P.underlying e = some (.int k)) (hce : P.cellsOf e = 1) (hct : P.cellsOf t = n)
    (h : laidMetH P [(name, Lib.tabData k zs)] W) (i : Nat) (hi : i < zs.length) : W.cell? ⟨g, i, none⟩ = some (.int k (zs.getD i 0)) := by
  rw [MakeChecks.laidMetH_plain _ _ _ (by rfl)] at h
  exact (Lib.tabIs_of_head hg hty ht he hce hct h).cell hg i hi
end Go.Proofs.YtljhfalgplihhaaGreatDoor
namespace Go.Proofs.YtljhfalgplihhaaGreatDoor
open Go.ChangeShapes Go.WideShapes Go.ChangeAt Go.RowKit
set_option linter.unusedVariables false
/-- One variable reads as listed: its cells, and their reading. -/
def OneLaid (P : Program) (W : World) (name : String) (d : DataW Unit) : Prop :=
  ∃ g t cs fuel p, P.globalNamed name = some g ∧ (P.globals[g]?).map (·.type) = some t ∧ W.var? P name = some cs ∧ DataW.trod (fun _ => ()) P W 0 (fun _ => true) false fuel t cs.toList = some (d, p)
theorem laidVars_cons {P : Program} {W : World} {name : String} {d : DataW Unit} {rest : List (String × DataW Unit)} {ps : List MemPlace} (h : DataW.LaidVars P W ((name, d) :: rest) ps) :
    OneLaid P W name d ∧ ∃ qs, DataW.LaidVars P W rest qs := by
  obtain ⟨g, t, cs, fuel, p, q, hg, ht, hvar, hd, hr, _⟩ := h
  exact ⟨⟨g, t, cs, fuel, p, hg, ht, hvar, hd⟩, q, hr⟩
theorem OneLaid.ints {P : Program} {W : World} {name : String} {k : IntKind} {zs : List Int} {g : Nat} {t e : TypeId} {n : Nat}
    (h : OneLaid P W name (Lib.tabData k zs)) (hg : P.globalNamed name = some g) (hty : (P.globals[g]?).map (·.type) = some t) (ht : P.underlying t = some (.array n e)) (he : P.underlying e = some (.int k)) (hce : P.cellsOf e = 1) (hct : P.cellsOf t = n)
    (i : Nat) (hi : i < zs.length) : W.cell? ⟨g, i, none⟩ = some (.int k (zs.getD i 0)) := by
  obtain ⟨g', t', cs, fuel, p, hg', ht', hvar, hd⟩ := h
  obtain rfl := Option.some.inj (hg.symm.trans hg')
  obtain rfl := Option.some.inj (hty.symm.trans ht')
  have hc := Lib.cells_of_tab ht he hce hct hd
  rw [World.var?_cell hg hvar i, ← Array.getElem?_toList, hc, List.getElem?_map, List.getElem?_eq_getElem hi]
  simp [List.getD, hi]
def tab3 (zs : List (Int × Int × Int)) : DataW Unit := .agg (zs.map fun z => .agg [.lit (.int .i64 z.1), .lit (.int .i64 z.2.1), .lit (.int .i64 z.2.2)])
theorem OneLaid.tri {P : Program} {W : World} {name : String} {zs : List (Int × Int × Int)} {g : Nat} {t e f : TypeId} {n : Nat} {f0 f1 f2 : Field}
    (h : OneLaid P W name (tab3 zs)) (hg : P.globalNamed name = some g) (hty : (P.globals[g]?).map (·.type) = some t) (ht : P.underlying t = some (.array n e)) (he : P.underlying e = some (.struct #[f0, f1, f2])) (hce : P.cellsOf e = 3)
    (o0 : f0.offset = 0) (o1 : f1.offset = 1) (o2 : f2.offset = 2) (y0 : f0.type = f) (y1 : f1.type = f) (y2 : f2.type = f) (hf : P.underlying f = some (.int .i64)) (hcf : P.cellsOf f = 1)
    (i : Nat) (hi : i < zs.length) : W.cell? ⟨g, i * 3, none⟩ = some (.int .i64 zs[i].1) ∧ W.cell? ⟨g, i * 3 + 1, none⟩ = some (.int .i64 zs[i].2.1) ∧ W.cell? ⟨g, i * 3 + 2, none⟩ = some (.int .i64 zs[i].2.2) := by
  obtain ⟨g', t', cs, fuel, p, hg', ht', hvar, hd⟩ := h
  obtain rfl := Option.some.inj (hg.symm.trans hg')
  obtain rfl := Option.some.inj (hty.symm.trans ht')
  obtain ⟨xs, m, _, hx, _, hn, hel⟩ := DataW.trod_array ht hd
  have hxs : xs.map (·.1) = zs.map fun z => (DataW.agg [.lit (.int .i64 z.1), .lit (.int .i64 z.2.1), .lit (.int .i64 z.2.2)] : DataW Unit) := by
    have := congrArg Prod.fst hx
    simpa [tab3] using this.symm
  have hl : zs.length = xs.length := by have := congrArg List.length hxs; simpa using this.symm
  have h1 := hel i (by omega)
  rw [List.getElem?_eq_getElem (show i < xs.length by omega), hce] at h1
  obtain ⟨ys, m2, _, hy, _, hly, hfl⟩ := DataW.trod_struct he h1
  have h2 : xs[i].1 = DataW.agg [.lit (.int .i64 zs[i].1), .lit (.int .i64 zs[i].2.1), .lit (.int .i64 zs[i].2.2)] := by
    have := congrArg (fun l => l[i]?) hxs
    simp only [List.getElem?_map, List.getElem?_eq_getElem (show i < xs.length by omega), List.getElem?_eq_getElem hi, Option.map_some, Option.some.injEq] at this
    exact this
  have h3 : ys.map (·.1) = [.lit (.int .i64 zs[i].1), .lit (.int .i64 zs[i].2.1), .lit (.int .i64 zs[i].2.2)] := by
    have := congrArg Prod.fst hy
    rw [h2] at this
    simpa using this.symm
  have hly3 : ys.length = 3 := hly
  have cellj : ∀ (j : Nat) (fj : Field) (z : Int), (#[f0, f1, f2] : Array Field)[j]? = some fj → fj.offset = j → fj.type = f → (ys.map (·.1))[j]? = some (.lit (.int .i64 z)) → W.cell? ⟨g, i * 3 + j, none⟩ = some (.int .i64 z) := by
    intro j fj z hj ho hy2 hz
    have hj3 : j < 3 := by
      rcases Nat.lt_or_ge j 3 with a | a
      · exact a
      · rw [Array.getElem?_eq_none (by simpa using a)] at hj; cases hj
    have a := hfl j fj hj
    rw [List.getElem?_eq_getElem (show j < ys.length by omega), ho, hy2, hcf] at a
    obtain ⟨z', hc, hd2, _⟩ := DataW.trod_int hf a
    have hz2 : z' = z := by
      rw [List.getElem?_map, List.getElem?_eq_getElem (show j < ys.length by omega), hd2] at hz
      simpa using hz
    subst hz2
    rw [World.var?_cell hg hvar, ← Array.getElem?_toList]
    have := congrArg (fun l => l[0]?) hc
    simp only [List.getElem?_take, List.getElem?_drop] at this
    simpa [hj3] using this
  exact ⟨cellj 0 f0 _ rfl o0 y0 (by rw [h3]; rfl), cellj 1 f1 _ rfl o1 y1 (by rw [h3]; rfl), cellj 2 f2 _ rfl o2 y2 (by rw [h3]; rfl)⟩
end Go.Proofs.YtljhfalgplihhaaGreatDoor
namespace Go.Proofs.YtljhfalgplihhaaGreatDoor
open Go.ChangeShapes Go.WideShapes Go.ChangeAt Go.RowKit
set_option linter.unusedVariables false

theorem eightsL_at : ∀ k : Fin 16, eightsL.getD k.val 0 = (eiN k.val : Int) := by decide +kernel
theorem changesL_at : ∀ k : Fin 16, changesL.getD k.val 0 = (chN k.val : Int) := by decide +kernel
theorem tensL_at : ∀ k : Fin 16, tensL.getD k.val (0, 0, 0) = ((eOp (tenN k.val) : Int), (eMode (tenN k.val) : Int), (eReg (tenN k.val) : Int)) := by decide +kernel
theorem thirtiesL_at : ∀ k : Fin 16, thirtiesL.getD k.val (0, 0, 0) = ((eOp (thiN k.val) : Int), (eMode (thiN k.val) : Int), (eReg (thiN k.val) : Int)) := by decide +kernel
theorem getD_get {α : Type} (l : List α) (i : Nat) (d : α) (h : i < l.length) : l[i] = l.getD i d := by simp [List.getD, h]
theorem PagAt.of_laid {W : World} (h : laidMetH Tryz.prog [("spinet/page.eights", Lib.tabData .i64 eightsL), ("spinet/page.changes", Lib.tabData .i64 changesL), ("spinet/page.tens", tab3 tensL), ("spinet/page.thirties", tab3 thirtiesL)] W) : PagAt W := by
  rw [MakeChecks.laidMetH_plain _ _ _ (by rfl)] at h
  obtain ⟨ps, h, _⟩ := h
  obtain ⟨h1, p1, h⟩ := laidVars_cons h
  obtain ⟨h2, p2, h⟩ := laidVars_cons h
  obtain ⟨h3, p3, h⟩ := laidVars_cons h
  obtain ⟨h4, p4, h⟩ := laidVars_cons h
  refine ⟨fun k hk => ?_, fun k hk => ?_, fun k hk => ?_, fun k hk => ?_⟩
  · have := h1.ints (g := 7) (t := 155) (e := 3) (n := 16) (by kernel_rfl) (by kernel_rfl) Tryz.underlying155 Tryz.underlying3 (by kernel_rfl) (by kernel_rfl) k hk
    rw [this, eightsL_at ⟨k, hk⟩]
  · have := h2.ints (g := 8) (t := 155) (e := 3) (n := 16) (by kernel_rfl) (by kernel_rfl) Tryz.underlying155 Tryz.underlying3 (by kernel_rfl) (by kernel_rfl) k hk
    rw [this, changesL_at ⟨k, hk⟩]
  · have := h3.tri (g := 2) (t := 166) (e := 35) (f := 3) (n := 16) (by kernel_rfl) (by kernel_rfl) Tryz.underlying166 Tryz.underlying35 (by kernel_rfl) rfl rfl rfl rfl rfl rfl Tryz.underlying3 (by kernel_rfl) k hk
    rw [getD_get tensL k (0, 0, 0) hk, tensL_at ⟨k, hk⟩] at this
    exact this
  · have := h4.tri (g := 3) (t := 166) (e := 35) (f := 3) (n := 16) (by kernel_rfl) (by kernel_rfl) Tryz.underlying166 Tryz.underlying35 (by kernel_rfl) rfl rfl rfl rfl rfl rfl Tryz.underlying3 (by kernel_rfl) k hk
    rw [getD_get thirtiesL k (0, 0, 0) hk, thirtiesL_at ⟨k, hk⟩] at this
    exact this
end Go.Proofs.YtljhfalgplihhaaGreatDoor
namespace Go.Proofs.YtljhfalgplihhaaGreatDoor
open Go.ChangeShapes Go.WideShapes Go.ChangeAt Go.RowKit
set_option linter.unusedVariables false

/-- Every block but the row's own stands as it stood, and is not the new row's. -/
def Apart (w w' : World) (v v' : Value) : Prop := ∀ g, g < w.heap.size → v.ownBlock ≠ some g → w'.heap[g]? = w.heap[g]? ∧ v'.ownBlock ≠ some g
theorem Apart.blk {w w' : World} {v v' : Value} {g : Nat} {t : TypeId} {cs : Array Value} {fr : Nat × Nat} (h : Apart w w' v v') (hb : Blk w g t cs fr) (hn : v.ownBlock ≠ some g) : Blk w' g t cs fr :=
  (h g hb.lt hn).1.trans hb
theorem Apart.ne {w w' : World} {v v' : Value} {g : Nat} (h : Apart w w' v v') (hg : g < w.heap.size) (hn : v.ownBlock ≠ some g) : v'.ownBlock ≠ some g := (h g hg hn).2
theorem Apart.of {w w' : World} {o : Obj} {v v' : Value} (h2 : (w.alloc o).grownBy w' v.ownBlock) (h4 : v'.ownBlock = v.ownBlock ∨ v'.ownBlock = some (w.heap.size + 1)) : Apart w w' v v' := fun g hg hne =>
  ⟨(h2.block g (by simp; omega) (fun e => hne e.symm)).trans (Below.heap_alloc w _ g hg), by
    rcases h4 with e | e
    · rw [e]; exact hne
    · rw [e]; intro e2; simp at e2; omega⟩
theorem ownsRow_new {w : World} {base : Nat} {e : TypeId} {size n : Nat} {v : Value} {xs : List Value} (h : w.ownsRow base e size v n xs) : v.ownBlock ≠ some w.heap.size := fun e => by
  have := (h.lt _ e).2; omega
theorem cells_of_blk {w : World} {g : Nat} {t : TypeId} {cs : Array Value} (h : Blk w g t cs) : ∀ j u, cs.toList[j]? = some u → w.cell? ((⟨g, 0, none⟩ : Addr).add j) = some u := by
  intro j u hj
  have hp : (⟨g, 0, none⟩ : Addr).add j = ⟨g, j, none⟩ := by unfold Addr.add; split <;> simp_all
  rw [hp, h.cell, ← Array.getElem?_toList]
  exact hj
theorem infoKnown : (Tryz.prog.info? 76).map (fun i => (i.zero, i.size, i.bytes)) = some (some (.agg #[.int .i64 0, .int .i64 0, .int .i64 0, .int .i64 0, .int .i64 0]), 5, 40) := by kernel_rfl
abbrev knC (p c o m r : Int) : Array Value := #[.int .i64 p, .int .i64 c, .int .i64 o, .int .i64 m, .int .i64 r]
/-- What add leaves: the slice, one longer. -/
def Added (w : World) (base : Nat) (v : Value) (n : Nat) (xs : List Value) (e : Ending) (w' : World) : Prop :=
  ∃ v', e = .returned v' ∧ w'.ownsRow base 76 5 v' n xs ∧ Below base w w' ∧ Apart w w' v v'
set_option maxRecDepth 100000 in
theorem add_any (w : World) (base : Nat) (v : Value) (n : Nat) (xs : List Value) (hown : w.ownsRow base 76 5 v n xs) (hb : base ≤ w.heap.size) (hn : n ≤ 1000) (p c o m r : Int) :
    Calls Tryz.prog 54 #[v, .int .i64 p, .int .i64 c, .int .i64 o, .int .i64 m, .int .i64 r] w (Added w base v (n + 1) (xs ++ (knC p c o m r).toList)) := by
  obtain ⟨i0, hi, hz0, hz1, hz2⟩ := info_parts infoKnown
  have HO := Lib.hid hown
  have HN := Lib.hid hn
  have HBs := Lib.hid hb
  clear hown hn hb
  go_enter Tryz.func54, Tryz.ntmps54
  go_wp2_with (at_builtin; refine wpList_append_own_at _ rfl _ _ 73 rfl base 76 i0 (.agg #[.int .i64 0, .int .i64 0, .int .i64 0, .int .i64 0, .int .i64 0]) 5 40 Tryz.underlying73 hi hz0 hz1 hz2 rfl (by decide) v n xs rfl (HO.out.alloc _) ⟨w.heap.size, 0, none⟩ 1 1 (knC p c o m r).toList rfl rfl (cells_of_blk (Blk.new w _ _ _)) ?c1 ?c2 ?c3 ?c4 ?_)
  case c1 => simp [Value.oneCell']
  case c2 => have := HN.out; unfold maxLen; omega
  case c3 => have := HN.out; omega
  case c4 => have := HBs.out; simp; omega
  intro v' w' h1 h2 h3 h4
  have H1 := Lib.hid h1
  have H4 := Lib.hid (Apart.of h2 h4)
  have H2 := Lib.hid (show Below base w w' from Below.grown ((Below.refl _ _).alloc HBs.out _) h2 (by have := HBs.out; simp; omega) (fun k hk => (HO.out.lt k hk).1))
  clear h1 h2 h3 h4
  go_wp2
  go_ret
  exact ⟨v', rfl, H1.out, H2.out, H4.out⟩
end Go.Proofs.YtljhfalgplihhaaGreatDoor
namespace Go.Proofs.YtljhfalgplihhaaGreatDoor
open Go.ChangeShapes Go.WideShapes Go.ChangeAt Go.RowKit
set_option linter.unusedVariables false
theorem step_append_cells {P : Program} {ops : Array Oper} {o : Oper} {a : Act} {K : Act → World → Prop} {Q : Exit → Act → World → Prop} {E : Prop} (hgd : o.guard = none) (w : World) (s x : Operand) (t e : TypeId)
    (ho : o.op = .call { callee := .builtin .append, args := #[s, x], argTypes := #[t, t] })
    (z : Value) (size bytes : Nat) (hinfo : (P.info? e).map (fun i => (i.zero, i.size, i.bytes)) = some (some z, size, bytes)) (ht : P.underlying t = some (.slice e)) (hzs : z.cells.size = size) (hsz : 0 < size)
    (base : Nat) (v : Value) (n : Nat) (xs : List Value) (hs : a.eval s = v) (hown : w.ownsRow base e size v n xs)
    (ad : Addr) (m c : Nat) (news : List Value) (hx : a.eval x = .slice (some ad) m c) (hl : news.length = m * size) (hnews : ∀ j u, news[j]? = some u → w.cell? (ad.add j) = some u) (h1 : ∀ u ∈ news, u.oneCell' = true)
    (h63 : n + m ≤ maxLen) (hbytes : (n + m) * bytes ≤ 140737488355328) (hbase : base ≤ w.heap.size)
    (h : ∀ v' w', w'.ownsRow base e size v' (n + m) (xs ++ news) → Below base w w' → w.grownBy w' v.ownBlock → (v'.ownBlock = v.ownBlock ∨ v'.ownBlock = some w.heap.size) → K (a.put o.dst v') w') : if Region.wanted o (yielded ops a.tmps) = true then Oper.wp P o a w K Q else E := by
  rw [if_pos (by simp [Region.wanted, hgd])]
  obtain ⟨i0, hi, hz0, hz1, hz2⟩ := info_parts hinfo
  obtain ⟨v', w', hr, h2, h3, _, h5⟩ := run_append_own_at (P := P) w base t o.type e i0 z size bytes ht hi hz0 hz1 hz2 hzs hsz v n xs hown ad m c news hl hnews h1 h63 hbytes hbase
  unfold Oper.wp execOp
  simp only [ho, resolve, invoke, builtin, Sem.run_bind, Sem.run_pure, Result.andThen_ok, List.map_toArray, List.map_cons, List.map_nil, hs, hx, hr]
  exact h v' w' h2 ((Below.refl _ _).grown h3 hbase (fun g hg => (hown.lt g hg).1)) h3 h5
end Go.Proofs.YtljhfalgplihhaaGreatDoor
