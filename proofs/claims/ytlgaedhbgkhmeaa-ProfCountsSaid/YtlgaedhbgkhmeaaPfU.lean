/- Package prof: Of, Clear, Sum. -/
import Derived.Test.YtlgaedhbgkhmeaaPfT
import Derived.Test.YtlgaedhbgkhmeaaPfA
import Derived.Great.Walk
import Derived.Deep.CutBlock
namespace Go.Proofs.Ytlgaedhbgkhmeaa
open Go.ChangeShapes Go.WideShapes Go.ChangeAt Go.RowKit
set_option linter.unusedVariables false
theorem results_cell_tmp {P : Program} {fn : Func} {p q : Tmp} {ty : TypeId} (h : fn.results = #[.cell p ty, .tmp q]) (tmps : Array Value) (w : World) (g : Nat) (t : TypeId) (cs : Array Value) (fr : Nat × Nat) (d : TypeDesc) (v : Value)
    (hp : tmps.getD p undef = .pointer (some ⟨g, 0, none⟩)) (hq : tmps.getD q undef = v) (hg : w.heap[g]? = some (.cells cs t fr))
    (hu : P.underlying ty = some d) (hd : (match d with | .struct _ | .array _ _ => true | _ => false) = true) (hi : (P.info? ty).map (·.size) = some cs.size) :
    (results fn tmps).run P w = .ok (.tuple #[.agg cs, v]) w := by
  have hp' : tmps[p]?.getD undef = .pointer (some ⟨g, 0, none⟩) := by simpa using hp
  have hq' : tmps[q]?.getD undef = v := by simpa using hq
  simp [results, h, hp', hq', asAddr, run_loadVar_row w g t ty cs fr d hg hu hd hi]
/-- A call on the counts in block g: no other block but their own is written. -/
def Turned (w w' : World) (g : Nat) (ob ob' : Option Nat) : Prop := ∃ row, w.grownBy w' row ∧ (∀ j, row = some j → j = g ∨ ob = some j) ∧ (∀ j, ob' = some j → ob = some j ∨ w.heap.size ≤ j)
theorem Turned.refl (w : World) (g : Nat) (ob : Option Nat) : Turned w w g ob ob := ⟨none, ⟨rfl, rfl, rfl, Nat.le_refl _, fun _ _ _ => rfl⟩, by simp, fun j h => .inl h⟩
set_option maxRecDepth 100000 in
set_option maxHeartbeats 2000000 in
theorem proOf_any (w : World) (g n : Nat) (ob : Option Nat) (L : List SpN) (h : ProP w g ob n L) (a : Int) (ha : 0 ≤ a ∧ a < 65536) :
    Calls Try.prog 8 #[.pointer (some ⟨g, 0, none⟩), .int .u16 a] w fun e w' => e = .returned (.tuple #[.agg #[.int .u16 (ofN L a).a, .int .i64 (ofN L a).t, .int .i64 (ofN L a).c, .int .i64 (ofN L a).l], .bool (lkS L a).isSome]) ∧ Below w.heap.size w w' := by
  have h1 := h.below (Below.alloc0 (Below.refl w.heap.size w) (Obj.cells #[.int .u16 0, .int .i64 0, .int .i64 0, .int .i64 0] 35))
  obtain ⟨hl, _⟩ := h1.look ha
  have c0 := h1.blk.cell 0
  have c0 : (w.alloc (Obj.cells #[.int .u16 0, .int .i64 0, .int .i64 0, .int .i64 0] 35)).cell? ⟨g, 0, none⟩ = some (.map ob) := c0
  clear h1 h
  generalize ofN L a = x at *
  generalize (lkS L a).isSome = F at *
  obtain ⟨xa, xt, xc, xl⟩ := x
  simp only [spV] at hl ⊢
  go_enter Try.func8, Try.ntmps8
  go_wp2
  have HG := Blk.alloc (Blk.new w 35 #[.int .u16 xa, .int .i64 xt, .int .i64 xc, .int .i64 xl] (0, 0)) (Obj.cells #[.int .u16 xa, .int .i64 xt, .int .i64 xc, .int .i64 xl] 35)
  refine bodyPost_ret (v := .tuple #[.agg #[.int .u16 xa, .int .i64 xt, .int .i64 xc, .int .i64 xl], .bool F]) (results_cell_tmp Try.results8 _ _ w.heap.size 35 _ (0, 0) _ _ rfl rfl HG Try.underlying35 rfl (by kernel_rfl)) rfl ⟨rfl, Below.alloc0 (Below.alloc0 (Below.refl _ w) _) _⟩
theorem run_clear_map {P : Program} {w : World} {b : Nat} {t k e : TypeId} {es : Array MapEntry} {clock : Nat} (ht : P.underlying t = some (.map k e)) (hb : w.heap[b]? = some (.map es clock)) (ty : TypeId) :
    (Builtin.clear_ #[t] ty #[.map (some b)]).run P w = .ok (.tuple #[]) (ChangeMaps.setBlock w b (.map #[] clock)) := by
  simp [Builtin.clear_, run_underlying ht, MapKept.run_getObj_map hb, MapKept.run_setObj_map _ hb, Result.andThen, ChangeMaps.setBlock]
theorem run_clear_nil {P : Program} {w : World} {t k e : TypeId} (ht : P.underlying t = some (.map k e)) (ty : TypeId) : (Builtin.clear_ #[t] ty #[.map none]).run P w = .ok (.tuple #[]) w := by
  simp [Builtin.clear_, run_underlying ht, Result.andThen]
set_option maxRecDepth 100000 in
set_option maxHeartbeats 1000000 in
theorem proClear_any (w : World) (g n : Nat) (ob : Option Nat) (L : List SpN) (h : ProP w g ob n L) :
    Calls Try.prog 12 #[.pointer (some ⟨g, 0, none⟩)] w fun e w' => e = .returned (.tuple #[]) ∧ ProP w' g ob n [] ∧ Turned w w' g ob ob := by
  have c0 : w.cell? ⟨g, 0, none⟩ = some (.map ob) := by rw [h.blk.cell]; rfl
  rcases h.2.2 with ⟨h1, rfl, rfl⟩ | ⟨b, D, rfl, h1, h2, h3, h4, h5⟩
  · have H := Lib.hid h
    have hcl := fun ty => run_clear_nil (w := w) Try.underlying25 ty
    clear h h1
    go_enter Try.func12, Try.ntmps12
    go_wp2
    go_end0
    exact ⟨rfl, H.out, Turned.refl _ _ _⟩
  · obtain ⟨es, clock, hb, F, hs, hD⟩ := h3
    have hcl := fun ty => run_clear_map Try.underlying25 hb ty
    have hT : w.mapTurned (ChangeMaps.setBlock w b (.map #[] clock)) b := ⟨es, clock, #[], clock, hb, rfl⟩
    have HT : Hid (Turned w (ChangeMaps.setBlock w b (.map #[] clock)) g (some b) (some b)) := Lib.hid ⟨some b, hT.grown, fun j e => .inr e, fun j e => .inl e⟩
    have HP : Hid (ProP (ChangeMaps.setBlock w b (.map #[] clock)) g (some b) n []) := Lib.hid ⟨fun x hx => by simp at hx, List.Pairwise.nil, .inr ⟨b, .map [], rfl, h1.grown hT.grown (by intro e; injection e with e; exact h2 e.symm), h2,
      ⟨#[], clock, ChangeMaps.heap_setBlock_same hb _, ⟨by simp, MapKept.stamped_empty clock, by simp⟩, Nat.zero_le _, rfl⟩, LooksS.empty, rfl⟩⟩
    generalize ChangeMaps.setBlock w b (.map #[] clock) = W at hcl HT HP
    clear hb F hs hD hT h h1 h2 h4 h5
    go_enter Try.func12, Try.ntmps12
    go_wp2
    go_end0
    exact ⟨rfl, HP.out, HT.out⟩
/-- What a loop over the counts has met. -/
def CollS (L : List SpN) (left : Lit → Bool) (met : List SpN) : Prop := DisN met ∧ ∀ x, x ∈ met ↔ (x ∈ L ∧ left (.int .u16 x.a) = false)
theorem DisN.nodup {L : List SpN} (h : DisN L) : L.Nodup := h.imp (fun {x y} hxy e => hxy (by rw [e]))
theorem CollS.done {L : List SpN} {left : Lit → Bool} {met : List SpN} (h : CollS L left met) (hd : DisN L) (h0 : ∀ kl, left kl = false) : met.Perm L := by
  rw [List.perm_ext_iff_of_nodup h.1.nodup hd.nodup]
  intro x
  rw [h.2, h0]; simp
theorem CollS.sub {L : List SpN} {left : Lit → Bool} {met : List SpN} (h : CollS L left met) : ∀ x ∈ met, x ∈ L := fun x hx => ((h.2 x).1 hx).1
theorem sumN_le : ∀ {L : List SpN}, (∀ x ∈ L, (0 ≤ x.t ∧ x.t ≤ 1800) ∧ (0 ≤ x.c ∧ x.c ≤ 1800) ∧ (0 ≤ x.l ∧ x.l ≤ 1800)) → (0 ≤ (sumN L).1 ∧ (sumN L).1 ≤ 1800 * L.length) ∧ (0 ≤ (sumN L).2.1 ∧ (sumN L).2.1 ≤ 1800 * L.length) ∧ (0 ≤ (sumN L).2.2 ∧ (sumN L).2.2 ≤ 1800 * L.length)
  | [], _ => by simp [sumN]
  | x :: L, h => by
    have ih := sumN_le (L := L) (fun y hy => h y (List.mem_cons_of_mem _ hy))
    have hx := h x (List.mem_cons_self ..)
    rw [sumN_cons, List.length_cons]
    simp only
    refine ⟨⟨by omega, by push_cast; omega⟩, ⟨by omega, by push_cast; omega⟩, by omega, by push_cast; omega⟩
theorem sumN_snoc (L : List SpN) (x : SpN) : sumN (L ++ [x]) = ((sumN L).1 + x.t, (sumN L).2.1 + x.c, (sumN L).2.2 + x.l) := by
  unfold sumN; rw [List.foldl_append]; rfl
theorem CollS.start {D : DataW Unit} {L : List SpN} (h : LooksS D L) (hd : DisN L) : CollS L (Maps.has D) [] := by
  refine ⟨List.Pairwise.nil, fun x => ⟨fun h => by simp at h, fun ⟨h1, h2⟩ => ?_⟩⟩
  have := ((h.2 x.a).1 x (lkS_mem hd h1)).1
  unfold keyU at this
  rw [this] at h2; cases h2
theorem CollS.step {D : DataW Unit} {L : List SpN} {left : Lit → Bool} {met : List SpN} (h : CollS L left met) (hl : LooksS D L) (hd : DisN L) {a : Int} {c : SpN} (hk : left (.int .u16 a) = true) (hat : ∀ zd, D.atKey (.int .u16 a) zd = spD c) :
    c ∈ L ∧ CollS L (fun z => left z && !z.sameKey (.int .u16 a)) (met ++ [c]) := by
  have hh : Maps.has D (keyU a) = true := Maps.has_true_of_atKey hat
  obtain ⟨e1, e2⟩ := hl.at_ a
  rw [hh] at e2
  cases hlk : lkS L a with
  | none => rw [hlk] at e2; cases e2
  | some y =>
    obtain ⟨y1, y2⟩ := lkS_at hlk
    have e3 : ofN L a = y := by unfold ofN; rw [hlk]; rfl
    rw [e3] at e1
    have e4 : y = c := spD_inj (e1.symm.trans (hat _))
    subst e4
    subst y2
    have hnm : y ∉ met := fun hm => by
      have := ((h.2 y).1 hm).2
      rw [hk] at this; cases this
    refine ⟨y1, ?_, fun x => ?_⟩
    · unfold DisN
      rw [List.pairwise_append]
      refine ⟨h.1, List.pairwise_singleton _ _, fun x hx z hz => ?_⟩
      obtain rfl := List.mem_singleton.1 hz
      intro e
      have := ((h.2 x).1 hx).2
      rw [e, hk] at this; cases this
    · rw [List.mem_append, List.mem_singleton, h.2]
      have hs : (Lit.int .u16 x.a).sameKey (.int .u16 y.a) = decide (x.a = y.a) := by
        by_cases e : x.a = y.a
        · rw [e, WideAt.sameKey_self (by trivial)]; simp
        · rw [Maps.sameKey_ne (by intro q; injection q with _ q; exact e q)]; simp [e]
      simp only [hs, Bool.and_eq_false_iff, Bool.not_eq_false', decide_eq_true_eq]
      constructor
      · rintro (⟨p, q⟩ | rfl)
        · exact ⟨p, .inl q⟩
        · exact ⟨y1, .inr rfl⟩
      · rintro ⟨p, q | q⟩
        · exact .inl ⟨p, q⟩
        · refine .inr ?_
          have l1 := lkS_mem hd p
          have l2 := lkS_mem hd y1
          rw [q, l2] at l1
          exact (Option.some.inj l1).symm
end Go.Proofs.Ytlgaedhbgkhmeaa
