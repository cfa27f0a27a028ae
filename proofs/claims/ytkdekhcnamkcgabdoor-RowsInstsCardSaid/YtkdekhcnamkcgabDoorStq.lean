/- Slices of cycles: read, of the call's own, appended to; the library's Equal on them. -/
import Derived.Test.YtkdekhcnamkcgabDoorStp
import Derived.Test.YtkdekhcnamkcgabDoorOwn
import Derived.Deep.QuietTactic
import Derived.BigQuiet
import Derived.Outline
import Derived.IntWalk
namespace Go.Proofs.YtkdekhcnamkcgabDoor
open Go.ChangeShapes Go.WideShapes Go.ChangeAt Go.RowKit
set_option linter.unusedVariables false

theorem infoStep : (Tryd.prog.info? 33).map (fun i => (i.zero, i.size, i.bytes)) = some (some (.agg #[.int .i64 0, .bool false]), 2, 16) := by kernel_rfl
/-- A slice of cycles of the call's own. -/
def Sts (w : World) (base : Nat) (v : Value) (l : List Stp) : Prop := w.ownsRow base 33 2 v l.length (sC l)
/-- A slice that reads as these cycles. -/
def Rd (w : World) (v : Value) (l : List Stp) : Prop :=
  (v = .slice none 0 0 ∧ l = []) ∨ ∃ ad c, v = .slice (some ad) l.length c ∧ (0 < l.length → ∃ g off, ad = ⟨g, off, none⟩ ∧ g < w.heap.size) ∧ ∀ j u, (sC l)[j]? = some u → w.cell? (ad.add j) = some u
theorem add_plain' (g off j : Nat) : (⟨g, off, none⟩ : Addr).add j = ⟨g, off + j, none⟩ := by unfold Addr.add; split <;> simp_all
theorem sC_some {l : List Stp} {j : Nat} {u : Value} (h : (sC l)[j]? = some u) : 0 < l.length := by
  cases l with
  | nil => simp [sC] at h
  | cons x l => simp
section
variable {w w' : World} {base : Nat} {v : Value} {l : List Stp}
theorem Sts.nil_ (w : World) (base : Nat) : Sts w base (.slice none 0 0) [] := World.ownsRow_nil w base _ 2
theorem Sts.alloc (h : Sts w base v l) (o : Obj) : Sts (w.alloc o) base v l := World.ownsRow.alloc h o
theorem Sts.drew (h : Sts w base v l) : Sts w.drew base v l := h
theorem Sts.drewN (h : Sts w base v l) (n : Nat) : Sts (w.drewN n) base v l := h
theorem Sts.lt (h : Sts w base v l) : ∀ g, v.ownBlock = some g → base ≤ g ∧ g < w.heap.size := World.ownsRow.lt h
theorem Sts.below (h : Sts w base v l) (hb : Below w.heap.size w w') : Sts w' base v l := by
  have hlt := h.lt
  obtain ⟨hl, h2⟩ := h
  refine ⟨hl, ?_⟩
  rcases h2 with h2 | ⟨g, cap, cur, rfl, h3, h4, h5⟩
  · exact .inl h2
  · exact .inr ⟨g, cap, cur, rfl, h3, (hb.block g (hlt g rfl).2).trans h4, h5⟩
theorem Rd.below (h : Rd w v l) (hb : Below w.heap.size w w') : Rd w' v l := by
  rcases h with h | ⟨ad, c, rfl, hg, hc⟩
  · exact .inl h
  · refine .inr ⟨ad, c, rfl, fun h0 => ?_, fun j u hj => ?_⟩
    · obtain ⟨g, off, e, hlt⟩ := hg h0
      exact ⟨g, off, e, Nat.lt_of_lt_of_le hlt hb.size⟩
    · obtain ⟨g, off, rfl, hlt⟩ := hg (sC_some hj)
      have := hc j u hj
      rw [add_plain'] at this ⊢
      exact (hb.cell (p := ⟨g, off + j, none⟩) hlt).trans this
theorem Rd.alloc (h : Rd w v l) (o : Obj) : Rd (w.alloc o) v l := h.below (Below.alloc0 (Below.refl _ _) o)
theorem Rd.drew (h : Rd w v l) : Rd w.drew v l := h
theorem Rd.drewN (h : Rd w v l) (n : Nat) : Rd (w.drewN n) v l := h
theorem Sts.rd (h : Sts w base v l) : Rd w v l := by
  have hlt := h.lt
  obtain ⟨hl, h2⟩ := h
  rcases h2 with ⟨rfl, hn⟩ | ⟨g, cap, cur, rfl, h3, h4, h5, h6, h7, h8⟩
  · exact .inl ⟨rfl, List.eq_nil_of_length_eq_zero hn⟩
  · refine .inr ⟨⟨g, 0, none⟩, cap, rfl, fun _ => ⟨g, 0, rfl, (hlt g rfl).2⟩, fun j u hj => ?_⟩
    rw [add_plain']
    have hb : Blk w g 33 cur (0, 0) := h4
    have hjl : j < l.length * 2 := by
      rcases Nat.lt_or_ge j (l.length * 2) with a | a
      · exact a
      · rw [List.getElem?_eq_none (by rw [sC_len]; exact a)] at hj; cases hj
    rw [Nat.zero_add, hb.cell, ← Array.getElem?_toList, ← hj, ← h8, List.getElem?_take_of_lt hjl]
theorem Rd.lit (w : World) (l : List Stp) (cs : Array Value) (n : Nat) (hn : l.length = n) (hcs : cs.toList = sC l) (c : Nat) : Rd (w.alloc (.cells cs 33)) (.slice (some ⟨w.heap.size, 0, none⟩) n c) l := by
  subst hn
  refine .inr ⟨⟨w.heap.size, 0, none⟩, c, rfl, fun _ => ⟨w.heap.size, 0, rfl, by simp⟩, fun j u hj => ?_⟩
  rw [add_plain', Nat.zero_add, (Blk.new w _ cs (0, 0)).cell, ← Array.getElem?_toList, hcs]; exact hj
/-- What a walk reads. -/
theorem Rd.open_ (h : Rd w v l) : ∃ A c, v = .slice A l.length c ∧ (0 < l.length → ∃ g off, A = some ⟨g, off, none⟩ ∧ ∀ k, k < l.length → w.cell? ⟨g, off + k * 2, none⟩ = some (.int .i64 (l.getD k (0, false)).1) ∧ w.cell? ⟨g, off + k * 2 + 1, none⟩ = some (.bool (l.getD k (0, false)).2)) := by
  rcases h with ⟨rfl, rfl⟩ | ⟨ad, c, rfl, hg, hc⟩
  · exact ⟨none, 0, rfl, fun h => absurd h (by simp)⟩
  · refine ⟨_, c, rfl, fun h0 => ?_⟩
    obtain ⟨g, off, rfl, _⟩ := hg h0
    refine ⟨g, off, rfl, fun k hk => ?_⟩
    have a := hc (2 * k + 0) _ (sC_at l k 0 hk (by decide))
    have b := hc (2 * k + 1) _ (sC_at l k 1 hk (by decide))
    rw [add_plain', show off + (2 * k + 0) = off + k * 2 by omega] at a
    rw [add_plain', show off + (2 * k + 1) = off + k * 2 + 1 by omega] at b
    exact ⟨a, b⟩
end
theorem wpList_appSt {ops : Array Oper} {rest : List Oper} {o : Oper} {a : Act} {Q : Exit → Act → World → Prop} (hgd : o.guard = none) (w : World) (s x : Operand)
    (ho : o.op = .call { callee := .builtin .append, args := #[s, x], argTypes := #[31, 31] })
    (base : Nat) (v y : Value) (l m : List Stp) (hs : a.eval s = v) (hown : Sts w base v l) (hx : a.eval x = y) (hr : Rd w y m) (hn : l.length + m.length ≤ 1099511627776) (hbase : base ≤ w.heap.size)
    (h : ∀ v' w', Sts w' base v' (l ++ m) → Below base w w' → w.grownBy w' v.ownBlock → wpList Tryd.prog ops Q rest (a.put o.dst v') w') : wpList Tryd.prog ops Q (o :: rest) a w := by
  obtain ⟨i0, hi, hz0, hz1, hz2⟩ := info_parts infoStep
  rcases hr with ⟨rfl, rfl⟩ | ⟨ad, c, rfl, hg, hc⟩
  · refine wpList_plain hgd fun K hK => ?_
    have hr := run_append_owned_none (P := Tryd.prog) (w := w) base 31 o.type 33 i0 2 Tryd.underlying31 hi v l.length _ hown
    unfold Oper.wp execOp
    simp only [ho, resolve, invoke, builtin, Sem.run_bind, Sem.run_pure, Result.andThen_ok, List.map_toArray, List.map_cons, List.map_nil, hs, hx, hr]
    exact hK _ _ (h v w (by rw [List.append_nil]; exact hown) (Below.refl _ _) ⟨rfl, rfl, rfl, Nat.le_refl _, fun _ _ _ => rfl⟩)
  · refine wpList_append_own_at w hgd s x 31 ho base 33 i0 (.agg #[.int .i64 0, .bool false]) 2 16 Tryd.underlying31 hi hz0 hz1 hz2 rfl (by decide) v l.length (sC l) hs hown ad m.length c (sC m) hx (sC_len m) hc (sC_one m) (by unfold maxLen; omega) (by omega) hbase ?_
    · intro v' w' h1 h2 h3 h4
      refine h v' w' ?_ (Below.grown (Below.refl _ _) h2 hbase (fun k hk => (hown.lt k hk).1)) h2
      unfold Sts
      rw [List.length_append, sC_append]
      exact h1
theorem neq_step (w : World) (x y : Int) (b d : Bool) : (binOp .neq 33 (.agg #[.int .i64 x, .bool b]) (.agg #[.int .i64 y, .bool d])).run Tryd.prog w = .ok (.bool (!((x, b) == (y, d)))) w := by
  by_cases h1 : x = y
  · subst h1
    by_cases h2 : b = d
    · subst h2; go_simp
    · have e : (b == d) = false := by simpa using h2
      go_simp
  · have e : (x == y) = false := by simpa using h1
    go_simp
set_option maxRecDepth 100000 in
set_option maxHeartbeats 1000000 in
theorem eqSt_any (v v' : Value) (l m : List Stp) (w : World) (h : Rd w v l) (h' : Rd w v' m) (hn : l.length ≤ 1099511627776) (hn' : m.length ≤ 1099511627776) :
    Calls Tryd.prog 7 #[v, v'] w fun e w' => e = .returned (.bool (l == m)) ∧ ∃ k, w' = w.drewN k := by
  obtain ⟨A, c, rfl, hc⟩ := h.open_
  obtain ⟨A', c', rfl, hc'⟩ := h'.open_
  obtain ⟨n, hl⟩ : ∃ n, l.length = n := ⟨_, rfl⟩
  obtain ⟨n', hl'⟩ : ∃ n', m.length = n' := ⟨_, rfl⟩
  rw [hl] at hc hn ⊢
  rw [hl'] at hc' hn' ⊢
  have HL := Lib.hid hl
  have HL' := Lib.hid hl'
  have H := Lib.hid hc
  have H' := Lib.hid hc'
  clear h h' hc hc' hl hl'
  by_cases he : n = n'
  · subst he
    have hne : ((n : Int) != (n : Int)) = false := by simp
    go_enter Tryd.func7, Tryd.ntmps7
    go_wp2
    go_loopw [13] (fun i wr => ∃ k : Nat, k ≤ n ∧ i = .int .i64 k ∧ Hid (l.take k = m.take k) ∧ ∃ j, wr = w.drewN j) (fun i _ => n - (intOf i).toNat)
    case atStart => exact ⟨0, Nat.zero_le _, rfl, Lib.hid rfl, 0, rfl⟩
    case round =>
      obtain ⟨k, hk, rfl, heq, j, rfl⟩ := hrel
      by_cases hlt : k < n
      · obtain ⟨b, off, rfl, hcell⟩ := H.out (by omega)
        obtain ⟨b', off', rfl, hcell'⟩ := H'.out (by omega)
        obtain ⟨c1, c2⟩ := hcell k hlt
        obtain ⟨d1, d2⟩ := hcell' k hlt
        have hk0 : (0 : Int) ≤ k := by omega
        have hkn : (k : Int) < n := by omega
        clear hcell hcell'
        by_cases hq : l.getD k (0, false) = m.getD k (0, false)
        · have hnx := Lib.hid (take_eq_nextS l m k (by rw [HL.out]; exact hlt) (by rw [HL'.out]; exact hlt) heq.out hq)
          rw [← hq] at d1 d2
          generalize l.getD k (0, false) = x at c1 c2 d1 d2
          obtain ⟨x, xb⟩ := x
          have hN := neq_step
          have hq' : (!((x, xb) == (x, xb))) = false := by simp
          have NQ : ∀ w : World, (binOp .neq 33 (.agg #[.int .i64 x, .bool xb]) (.agg #[.int .i64 x, .bool xb])).run Tryd.prog w = .ok (.bool false) w := fun w => by rw [neq_step, hq']
          simp only at c1 c2 d1 d2
          clear hq hN hq'
          go_wp2
          go_quiet (fail)
          go_wp2
          go_roundw
          case rel => exact ⟨k + 1, by omega, by go_num, hnx, _, rfl⟩
          case measure => simp [intOf]; omega
        · have hfa := Lib.hid (ne_of_atS l m k hq)
          generalize l.getD k (0, false) = x at c1 c2 hq
          generalize m.getD k (0, false) = y at d1 d2 hq
          obtain ⟨x, xb⟩ := x
          obtain ⟨y, yb⟩ := y
          have hq' : (!((x, xb) == (y, yb))) = true := by simp only [Bool.not_eq_true', beq_eq_false_iff_ne]; exact hq
          have NQ : ∀ w : World, (binOp .neq 33 (.agg #[.int .i64 x, .bool xb]) (.agg #[.int .i64 y, .bool yb])).run Tryd.prog w = .ok (.bool true) w := fun w => by rw [neq_step, hq']
          simp only at c1 c2 d1 d2
          clear hq hq'
          go_wp2
          go_quiet (fail)
          go_wp2
          go_ret
          exact ⟨ret_bool hfa.out.symm, by first | exact ⟨_, rfl⟩ | exact ⟨_, World.drewN_drewN _ _ _⟩⟩
      · have hfin : Hid ((l == m) = true) := Lib.hid (by
          have := heq.out
          rw [List.take_of_length_le (by rw [HL.out]; omega), List.take_of_length_le (by rw [HL'.out]; omega)] at this
          rw [this]; simp)
        go_wp2
        go_ret
        exact ⟨ret_bool hfin.out.symm, j, rfl⟩
  · have hne : ((n : Int) != (n' : Int)) = true := by rw [bne_iff_ne]; omega
    have hfa : Hid ((l == m) = false) := Lib.hid (by rw [beq_eq_false_iff_ne]; rintro rfl; exact he (by rw [← HL.out, ← HL'.out]))
    clear he
    go_enter Tryd.func7, Tryd.ntmps7
    go_wp2
    go_ret
    exact ⟨ret_bool hfa.out.symm, 0, rfl⟩
theorem eqSt_b (v v' : Value) (l m : List Stp) (w : World) (h : Rd w v l) (h' : Rd w v' m) (hn : l.length ≤ 1099511627776) (hn' : m.length ≤ 1099511627776) :
    Calls Tryd.prog 7 #[v, v'] w fun e w' => e = .returned (.bool (l == m)) ∧ Below w.heap.size w w' := by
  refine (eqSt_any v v' l m w h h' hn hn').mono ?_
  rintro e w' ⟨rfl, k, rfl⟩
  exact ⟨rfl, Below.drewN0 (Below.refl _ _) k⟩
theorem eqSt_same (v v' : Value) (l m : List Stp) (w : World) (h : Rd w v l) (h' : Rd w v' m) (he : l = m) (hn : l.length ≤ 1099511627776) :
    Calls Tryd.prog 7 #[v, v'] w fun e w' => e = .returned (.bool true) ∧ Below w.heap.size w w' := by
  subst he
  refine (eqSt_b v v' l l w h h' hn hn).mono ?_
  rintro e w' ⟨rfl, hb⟩
  exact ⟨by simp, hb⟩
end Go.Proofs.YtkdekhcnamkcgabDoor
