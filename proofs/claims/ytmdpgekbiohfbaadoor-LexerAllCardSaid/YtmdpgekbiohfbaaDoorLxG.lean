/- Lines of a text, plainly: the first that is wrong; rows of lines' parts; what append leaves of one inside a range over a function. -/
import Derived.Test.YtmdpgekbiohfbaaDoorLxA
import Derived.Test.YtmdpgekbiohfbaaDoorWvS
namespace Go.Proofs.YtmdpgekbiohfbaaDoor
open Go.ChangeShapes Go.WideShapes Go.ChangeAt Go.RowKit
set_option linter.unusedVariables false

/-- The place of the first line that is wrong. -/
def badAt : List (List UInt8) → Option Nat
  | [] => none
  | p :: r => if (lxCut p).ok then (badAt r).map (· + 1) else some 0
theorem badAt_none : ∀ (P : List (List UInt8)), (∀ q ∈ P, (lxCut q).ok = true) → badAt P = none
  | [], _ => rfl
  | p :: r, h => by
    unfold badAt
    rw [h p (by simp), if_pos rfl, badAt_none r (fun q hq => h q (by simp [hq]))]; rfl
theorem badAt_some : ∀ (P : List (List UInt8)) (k : Nat) (p : List UInt8), (∀ q ∈ P.take k, (lxCut q).ok = true) → P[k]? = some p → (lxCut p).ok = false → badAt P = some k
  | [], k, p, _, h, _ => by simp at h
  | q :: r, 0, p, _, h, hb => by
    obtain rfl : q = p := by simpa using h
    unfold badAt
    rw [hb]; rfl
  | q :: r, k + 1, p, ha, h, hb => by
    unfold badAt
    rw [ha q (by simp), if_pos rfl, badAt_some r k p (fun z hz => ha z (by simp [hz])) (by simpa using h) hb]; rfl
theorem pcs_pcz (c : UInt8) : ∀ (l p : List UInt8), ∃ h t, pcs c l = h :: t ∧ pcz c p l = (p ++ h) :: t
  | [], p => ⟨[], [], rfl, by rw [List.append_nil]; rfl⟩
  | x :: l, p => by
    by_cases e : x = c
    · obtain ⟨h, t, h1, h2⟩ := pcs_pcz c l []
      refine ⟨[], pcs c l, ?_, ?_⟩
      · conv => lhs; unfold pcs
        rw [if_pos e]
      · unfold pcz; rw [if_pos e, h2, h1, List.append_nil, List.nil_append]
    · obtain ⟨h, t, h1, h2⟩ := pcs_pcz c l (p ++ [x])
      refine ⟨x :: h, t, ?_, ?_⟩
      · unfold pcs; rw [if_neg e, h1]
      · unfold pcz; rw [if_neg e, h2, List.append_assoc]; rfl
theorem pcsB_pcz (c : UInt8) (l : List UInt8) : pcsB c (mkS l) = (pcz c [] l).map mkS := by
  obtain ⟨h, t, h1, h2⟩ := pcs_pcz c l []
  unfold pcsB
  rw [mkS_data, h2, List.nil_append, ← h1]; rfl
theorem piece_at {P : List (List UInt8)} {pre : List ByteArray} {x : ByteArray} {rest : List ByteArray} (h : P.map mkS = pre ++ x :: rest) : ∃ p, P[pre.length]? = some p ∧ x = mkS p := by
  have hx : (P.map mkS)[pre.length]? = some x := by
    rw [h, List.getElem?_append_right (Nat.le_refl _), Nat.sub_self]; rfl
  rw [List.getElem?_map] at hx
  obtain ⟨p, hp, rfl⟩ := Option.map_eq_some_iff.1 hx
  exact ⟨p, hp, rfl⟩
abbrev eL3 : Els Lx := ⟨fun r => [.string (mkS r.lab), .string (mkS r.op), .string (mkS r.arg)], 3, fun _ => rfl, fun x u h => by simp only [List.mem_cons, List.not_mem_nil, or_false] at h; rcases h with rfl | rfl | rfl <;> rfl, by decide⟩
theorem blkAtH {w : World} {g : Nat} (h : w.heap.size = g) (t : TypeId) (cs : Array Value) : Blk (w.alloc (.cells cs t)) g t cs := by subst h; exact Blk.new _ _ _ _
theorem infoL3 : (Tryd.prog.info? 23).map (fun i => (i.zero, i.size, i.bytes)) = some (some (.agg #[.string ⟨#[]⟩, .string ⟨#[]⟩, .string ⟨#[]⟩]), 3, 48) := by kernel_rfl
theorem wpListIn_appL3 {F : Fence} {nn : Nat} {ops : Array Oper} {rest : List Oper} {o : Oper} {a : Act} {Q : Exit → Act → World → Prop} (hgd : o.guard = none) (w : World) (s x : Operand)
    (ho : o.op = .call { callee := .builtin .append, args := #[s, x], argTypes := #[35, 35] })
    (base : Nat) (v : Value) (l m : List Lx) (hs : a.eval s = v) (hown : eL3.Own 23 w base v l) (ad : Addr) (mm c : Nat) (hx : a.eval x = .slice (some ad) mm c) (hm : mm = m.length)
    (hc : ∀ j u, (eL3.cells m)[j]? = some u → w.cell? (ad.add j) = some u) (hn : l.length + m.length ≤ 1000000) (hbase : base ≤ w.heap.size)
    (h : ∀ v' w', eL3.Own 23 w' base v' (l ++ m) → Below base w w' → w.grownBy w' v.ownBlock → (v'.ownBlock = v.ownBlock ∨ v'.ownBlock = some w.heap.size) → wpListIn F nn Tryd.prog ops Q rest (a.put o.dst v') w') : wpListIn F nn Tryd.prog ops Q (o :: rest) a w := by
  subst hm
  obtain ⟨i0, hi, hz0, hz1, hz2⟩ := info_parts infoL3
  refine wpListIn_plain hgd fun K hK' => ?_
  obtain ⟨v', w', hr, h2, h3, _, h5⟩ := run_append_own_at (P := Tryd.prog) w base 35 o.type 23 i0 _ 3 48 Tryd.underlying35 hi hz0 hz1 hz2 (by decide) (by decide) v l.length _ hown ad m.length c
    (eL3.cells m) (by rw [Els.cells_len]) hc (eL3.cells_one m) (by unfold maxLen; omega) (by omega) hbase
  unfold Oper.wpIn
  refine ⟨?_, ?_⟩
  · simp [Oper.about, ho, resolve, Target.leads, Sem.run_pure]
  · rw [Oper.semAt_plain F _ _ (by rw [ho]; intro c hc'; cases hc')]
    simp [execOp, ho, resolve, invoke, builtin, hs, hx, hr, Result.andThen]
    refine hK' _ _ (h v' w' ?_ (Below.grown (Below.refl _ _) h3 hbase (fun k hk => (hown.lt k hk).1)) h3 h5)
    show World.ownsRow _ _ _ _ _ _ _
    rw [List.length_append, Els.cells_append]
    exact h2
theorem litL3 (w : World) (x : Lx) : ∀ j u, (eL3.cells [x])[j]? = some u → (w.alloc (.cells #[.string (mkS x.lab), .string (mkS x.op), .string (mkS x.arg)] 23)).cell? ((⟨w.heap.size, 0, none⟩ : Addr).add j) = some u := by
  intro j u hj
  rw [Els.add_pl, Nat.zero_add, (Blk.new w _ _ (0, 0)).cell, ← Array.getElem?_toList]
  exact hj
/-- Between two rounds; where it is left. -/
def LaI (P : List (List UInt8)) (n : Nat) (w : World) (pre : List ByteArray) (W : World) : Prop :=
  ∃ v, (∀ q ∈ P.take pre.length, (lxCut q).ok = true) ∧ Blk W n 35 #[.slice none 0 0] ∧ Blk W (n + 1) 3 #[.int .i64 0] ∧ Blk W (n + 2) 24 #[.int .i64 0] ∧ Blk W (n + 3) 35 #[v] ∧
    eL3.Own 23 W (n + 9) v ((P.take pre.length).map lxCut) ∧ Below n w W
def LaIx (P : List (List UInt8)) (n : Nat) (w : World) (c : Code) (pre : List ByteArray) (W : World) : Prop :=
  c = .ret ∧ ∃ i : Nat, badAt P = some i ∧ Blk W n 35 #[.slice none 0 0] ∧ Blk W (n + 1) 3 #[.int .i64 ((i : Int) + 1)] ∧ Blk W (n + 2) 24 #[.int .i64 40] ∧ Below n w W
theorem LaI.grown {P : List (List UInt8)} {n r : Nat} {w A B : World} {pre : List ByteArray} (h : LaI P n w pre A) (hg : A.grownBy B (some r)) (h1 : n + 4 ≤ r) (h2 : r < n + 9) : LaI P n w pre B := by
  obtain ⟨v, b0, a0, a1, a2, a3, a4, a5⟩ := h
  refine ⟨v, b0, a0.grown hg (by simp; omega), a1.grown hg (by simp; omega), a2.grown hg (by simp; omega), a3.grown hg (by simp; omega), a4.grown hg (.inr fun e => ?_), a5.grown hg (by have := a0.lt; omega) (fun k hk => by injection hk with hk; omega)⟩
  have := a4.lt r e
  omega
theorem LaIx.grown {P : List (List UInt8)} {n r : Nat} {w A B : World} {c : Code} {pre : List ByteArray} (h : LaIx P n w c pre A) (hg : A.grownBy B (some r)) (h1 : n + 4 ≤ r) (h2 : r < n + 9) : LaIx P n w c pre B := by
  obtain ⟨hc, i, b0, a0, a1, a2, a5⟩ := h
  exact ⟨hc, i, b0, a0.grown hg (by simp; omega), a1.grown hg (by simp; omega), a2.grown hg (by simp; omega), a5.grown hg (by have := a0.lt; omega) (fun k hk => by injection hk with hk; omega)⟩
theorem resAll (tmps : Array Value) (W : World) (g : Nat) (v : Value) (k e : Int) (h : Blk W g 35 #[v]) (h1 : Blk W (g + 1) 3 #[.int .i64 k]) (h2 : Blk W (g + 2) 24 #[.int .i64 e]) (hv : ∃ A n c, v = .slice A n c)
    (q2 : tmps.getD 2 undef = .pointer (some ⟨g, 0, none⟩)) (q3 : tmps.getD 3 undef = .pointer (some ⟨g + 1, 0, none⟩)) (q4 : tmps.getD 4 undef = .pointer (some ⟨g + 2, 0, none⟩)) :
    (results Tryd.f11 tmps).run Tryd.prog W = .ok (.tuple #[v, .int .i64 k, .int .i64 e]) W := by
  obtain ⟨A, n, c, rfl⟩ := hv
  have p0 : W.cell? ⟨g, 0, none⟩ = some (.slice A n c) := (h.cell 0).trans rfl
  have p1 : W.cell? ⟨g + 1, 0, none⟩ = some (.int .i64 k) := (h1.cell 0).trans rfl
  have p2 : W.cell? ⟨g + 2, 0, none⟩ = some (.int .i64 e) := (h2.cell 0).trans rfl
  have q2' : tmps[2]?.getD undef = .pointer (some ⟨g, 0, none⟩) := by simpa using q2
  have q3' : tmps[3]?.getD undef = .pointer (some ⟨g + 1, 0, none⟩) := by simpa using q3
  have q4' : tmps[4]?.getD undef = .pointer (some ⟨g + 2, 0, none⟩) := by simpa using q4
  simp [results, Tryd.results11, q2', q3', q4', go_sem, p0, p1, p2]
end Go.Proofs.YtmdpgekbiohfbaaDoor
