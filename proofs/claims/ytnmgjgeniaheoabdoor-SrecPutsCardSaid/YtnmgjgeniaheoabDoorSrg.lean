/- Contracts: srec.Get, of a text that Put wrote. -/
import Derived.Test.YtnmgjgeniaheoabDoorSru
import Derived.Test.YtnmgjgeniaheoabDoorSrdn
import Derived.Test.YtnmgjgeniaheoabDoorWvS
namespace Go.Proofs.YtnmgjgeniaheoabDoor
open Go.ChangeShapes Go.WideShapes Go.ChangeAt Go.RowKit
set_option linter.unusedVariables false

theorem blkAtG {w : World} {g : Nat} (h : w.heap.size = g) (t : TypeId) (cs : Array Value) : Blk (w.alloc (.cells cs t)) g t cs := by subst h; exact Blk.new _ _ _ _
/-- A piece that Get may tell. -/
def PcOk (p : Pc) : Prop := 0 ≤ p.1 ∧ p.1 < 65536 ∧ Byt p.2 ∧ 0 < p.2.length ∧ p.2.length ≤ 32 ∧ p.1 + p.2.length ≤ 65536
theorem lnT_read (p : Pc) (h : PcOk p) : rdLn (nums (lnT p)) = ⟨1, p.1, p.2, 0⟩ := by
  obtain ⟨h1, h2, h3, h4, h5, h6⟩ := h
  unfold lnT
  rw [str_nums _ (lnX_byt (.inr (.inl rfl)) ⟨h1, h2⟩ h3)]
  exact rd_back 1 p.1 p.2 (.inr (.inl rfl)) ⟨h1, h2⟩ h3 (by omega) (fun h => absurd h (by decide))
theorem lnE_read (start : Int) (h0 : 0 ≤ start) (h1 : start < 65536) : rdLn (nums (lnE start)) = ⟨9, start, [], 0⟩ := by
  unfold lnE
  rw [str_nums _ (lnX_byt (.inr (.inr rfl)) ⟨h0, h1⟩ Byt.nil_)]
  exact rd_back 9 start [] (.inr (.inr rfl)) ⟨h0, h1⟩ Byt.nil_ (by decide) (fun _ => rfl)
/-- Which line stands where. -/
theorem lines_at (L : List Pc) (start : Int) (pre : List ByteArray) (x : ByteArray) (rest : List ByteArray) (h : (L.map lnT ++ [lnE start]) ++ [⟨#[]⟩] = pre ++ x :: rest) :
    (∃ p, L[pre.length]? = some p ∧ x = lnT p) ∨ (pre.length = L.length ∧ x = lnE start) ∨ (pre.length = L.length + 1 ∧ x = ⟨#[]⟩) := by
  have hx : ((L.map lnT ++ [lnE start]) ++ [(⟨#[]⟩ : ByteArray)])[pre.length]? = some x := by
    rw [h, List.getElem?_append_right (Nat.le_refl _), Nat.sub_self]; rfl
  rcases Nat.lt_or_ge pre.length L.length with hl | hl
  · left
    obtain ⟨p, hp⟩ : ∃ p, L[pre.length]? = some p := ⟨_, List.getElem?_eq_getElem hl⟩
    refine ⟨p, hp, ?_⟩
    rw [List.append_assoc, List.getElem?_append_left (by simpa using hl), List.getElem?_map, hp] at hx
    exact (Option.some.inj hx).symm
  · rw [List.append_assoc, List.getElem?_append_right (by simpa using hl), List.length_map] at hx
    rcases Nat.eq_or_lt_of_le hl with e | e
    · right; left
      refine ⟨e.symm, ?_⟩
      rw [← e, Nat.sub_self] at hx
      exact (Option.some.inj hx).symm
    · right; right
      have e2 : pre.length = L.length + 1 := by
        rcases Nat.lt_or_ge (pre.length - L.length) 2 with q | q
        · omega
        · rw [List.getElem?_eq_none (by simpa using q)] at hx; cases hx
      refine ⟨e2, ?_⟩
      rw [e2, show L.length + 1 - L.length = 1 by omega] at hx
      exact (Option.some.inj hx).symm
theorem infoPc : (Tryd.prog.info? 27).map (fun i => (i.zero, i.size, i.bytes)) = some (some (.agg #[.int .u16 0, .slice none 0 0]), 2, 32) := by kernel_rfl
theorem wpListIn_appPc {F : Fence} {nn : Nat} {ops : Array Oper} {rest : List Oper} {o : Oper} {a : Act} {Q : Exit → Act → World → Prop} (hgd : o.guard = none) (w : World) (s x : Operand)
    (ho : o.op = .call { callee := .builtin .append, args := #[s, x], argTypes := #[23, 23] })
    (base : Nat) (v : Value) (l m : List PvV) (hs : a.eval s = v) (hown : eP4.Own 27 w base v l) (ad : Addr) (mm c : Nat) (hx : a.eval x = .slice (some ad) mm c) (hm : mm = m.length)
    (hc : ∀ j u, (eP4.cells m)[j]? = some u → w.cell? (ad.add j) = some u) (hn : l.length + m.length ≤ 1000000) (hbase : base ≤ w.heap.size)
    (h : ∀ v' w', eP4.Own 27 w' base v' (l ++ m) → Below base w w' → w.grownBy w' v.ownBlock → (v'.ownBlock = v.ownBlock ∨ v'.ownBlock = some w.heap.size) → wpListIn F nn Tryd.prog ops Q rest (a.put o.dst v') w') : wpListIn F nn Tryd.prog ops Q (o :: rest) a w := by
  subst hm
  obtain ⟨i0, hi, hz0, hz1, hz2⟩ := info_parts infoPc
  refine wpListIn_plain hgd fun K hK' => ?_
  obtain ⟨v', w', hr, h2, h3, _, h5⟩ := run_append_own_at (P := Tryd.prog) w base 23 o.type 27 i0 _ 2 32 Tryd.underlying23 hi hz0 hz1 hz2 (by decide) (by decide) v l.length _ hown ad m.length c
    (eP4.cells m) (by rw [Els.cells_len]) hc (eP4.cells_one m) (by unfold maxLen; omega) (by omega) hbase
  unfold Oper.wpIn
  refine ⟨?_, ?_⟩
  · simp [Oper.about, ho, resolve, Target.leads, Sem.run_pure]
  · rw [Oper.semAt_plain F _ _ (by rw [ho]; intro c hc'; cases hc')]
    simp [execOp, ho, resolve, invoke, builtin, hs, hx, hr, Result.andThen]
    refine hK' _ _ (h v' w' ?_ (Below.grown (Below.refl _ _) h3 hbase (fun k hk => (hown.lt k hk).1)) h3 h5)
    show World.ownsRow _ _ _ _ _ _ _
    rw [List.length_append, Els.cells_append]
    exact h2
theorem litPc (w : World) (x : PvV) : ∀ j u, (eP4.cells [x])[j]? = some u → (w.alloc (.cells #[.int .u16 x.1, .slice x.2.1 x.2.2.1 x.2.2.2] 27)).cell? ((⟨w.heap.size, 0, none⟩ : Addr).add j) = some u := by
  intro j u hj
  rw [Els.add_pl, Nat.zero_add, (Blk.new w _ _ (0, 0)).cell, ← Array.getElem?_toList]
  exact hj
/-- The bytes of a piece that was read lie from base on, in a block that isn't the row's. -/
def ByIn (W : World) (base : Nat) (v : Value) (x : PvV) (p : Pc) : Prop := x.1 = p.1 ∧ x.2.2.1 = p.2.length ∧ eY.Rd W (.slice x.2.1 x.2.2.1 x.2.2.2) p.2 ∧ ∀ a, x.2.1 = some a → base ≤ a.block ∧ a.block < W.heap.size ∧ v.ownBlock ≠ some a.block
/-- Between two rounds; where it is left. -/
def GtI (L : List Pc) (n : Nat) (w : World) (pre : List ByteArray) (W : World) : Prop :=
  ∃ (R : List PvV) (v : Value), pre.length ≤ L.length ∧ R.length = pre.length ∧ Blk W n 23 #[.slice none 0 0] ∧ Blk W (n + 1) 22 #[.int .u16 0] ∧ Blk W (n + 2) 3 #[.int .i64 0] ∧ Blk W (n + 3) 32 #[.int .i64 0] ∧ Blk W (n + 4) 23 #[v] ∧ Blk W (n + 5) 3 #[.int .i64 (pre.length : Int)] ∧
    eP4.Own 27 W (n + 11) v R ∧ (∀ (i : Nat) (x : PvV) (p : Pc), R[i]? = some x → L[i]? = some p → ByIn W (n + 11) v x p) ∧ Below n w W
def GtIx (L : List Pc) (start : Int) (n : Nat) (w : World) (c : Code) (pre : List ByteArray) (W : World) : Prop :=
  c = .ret ∧ ∃ (R : List PvV) (v : Value), R.length = L.length ∧ Blk W n 23 #[v] ∧ Blk W (n + 1) 22 #[.int .u16 start] ∧ Blk W (n + 2) 3 #[.int .i64 0] ∧ Blk W (n + 3) 32 #[.int .i64 0] ∧
    eP4.Own 27 W (n + 11) v R ∧ (∀ (i : Nat) (x : PvV) (p : Pc), R[i]? = some x → L[i]? = some p → ByIn W (n + 11) v x p) ∧ Below n w W
theorem rdY_grown {w w' : World} {A : Option Addr} {m c : Nat} {l : List Int} {r : Nat} (h : eY.Rd w (.slice A m c) l) (hg : w.grownBy w' (some r)) (hr : ∀ a, A = some a → a.block ≠ r) : eY.Rd w' (.slice A m c) l := by
  rcases h with h | ⟨ad, c', e, h2, h3⟩
  · exact .inl h
  · injection e with e1 e2 e3
    refine .inr ⟨ad, c', by rw [e1, e2, e3], fun h0 => ?_, fun j u hj => ?_⟩
    · obtain ⟨g, off, e, hlt⟩ := h2 h0
      exact ⟨g, off, e, Nat.lt_of_lt_of_le hlt hg.size⟩
    · obtain ⟨g, off, rfl, hlt⟩ := h2 (Els.cells_pos hj)
      have := h3 j u hj
      rw [Els.add_pl] at this ⊢
      exact hg.cell this (by have := hr _ e1; simp; exact this)
theorem ByIn.step {W W' : World} {base : Nat} {v v' : Value} {x : PvV} {p : Pc} (h : ByIn W base v x p) (hsz : W.heap.size ≤ W'.heap.size) (hk : ∀ k, base ≤ k → k < W.heap.size → v.ownBlock ≠ some k → W'.heap[k]? = W.heap[k]?) (hv : v'.ownBlock = v.ownBlock ∨ ∃ g, v'.ownBlock = some g ∧ W.heap.size ≤ g) : ByIn W' base v' x p := by
  obtain ⟨h1, h2, h3, h4⟩ := h
  refine ⟨h1, h2, ?_, fun a ha => ?_⟩
  · rcases h3 with h | ⟨ad, c', e, q2, q3⟩
    · exact .inl h
    · injection e with e1 e2 e3
      refine .inr ⟨ad, c', by rw [e1, e2, e3], fun h0 => ?_, fun j u hj => ?_⟩
      · obtain ⟨g, off, e, hlt⟩ := q2 h0
        exact ⟨g, off, e, Nat.lt_of_lt_of_le hlt hsz⟩
      · obtain ⟨g, off, rfl, hlt⟩ := q2 (Els.cells_pos hj)
        have := q3 j u hj
        obtain ⟨r1, r2, r3⟩ := h4 _ e1
        rw [Els.add_pl] at this ⊢
        rw [← this]
        unfold World.cell?
        rw [hk g r1 r2 r3]
  · obtain ⟨r1, r2, r3⟩ := h4 a ha
    refine ⟨r1, by omega, ?_⟩
    rcases hv with e | ⟨g, e, hg⟩
    · rw [e]; exact r3
    · rw [e]; intro q; injection q with q; omega
theorem ByIn.grown {W W' : World} {base r : Nat} {v : Value} {x : PvV} {p : Pc} (h : ByIn W base v x p) (hg : W.grownBy W' (some r)) (hr : r < base) : ByIn W' base v x p :=
  h.step hg.size (fun k h1 h2 _ => hg.block k h2 (by simp; omega)) (.inl rfl)
theorem GtI.grown {L : List Pc} {n r : Nat} {w A B : World} {pre : List ByteArray} (h : GtI L n w pre A) (hg : A.grownBy B (some r)) (h1 : n + 6 ≤ r) (h2 : r < n + 11) : GtI L n w pre B := by
  obtain ⟨R, v, b0, b1, a0, a1, a2, a3, a4, a5, a6, a7, a8⟩ := h
  refine ⟨R, v, b0, b1, a0.grown hg (by simp; omega), a1.grown hg (by simp; omega), a2.grown hg (by simp; omega), a3.grown hg (by simp; omega), a4.grown hg (by simp; omega), a5.grown hg (by simp; omega), a6.grown hg (.inr fun e => ?_), fun i x p q1 q2 => (a7 i x p q1 q2).grown hg h2, a8.grown hg (by have := a0.lt; omega) (fun k hk => by injection hk with hk; omega)⟩
  have := a6.lt r e
  omega
theorem GtIx.grown {L : List Pc} {start : Int} {n r : Nat} {w A B : World} {c : Code} {pre : List ByteArray} (h : GtIx L start n w c pre A) (hg : A.grownBy B (some r)) (h1 : n + 6 ≤ r) (h2 : r < n + 11) : GtIx L start n w c pre B := by
  obtain ⟨hc, R, v, b1, a0, a1, a2, a3, a6, a7, a8⟩ := h
  refine ⟨hc, R, v, b1, a0.grown hg (by simp; omega), a1.grown hg (by simp; omega), a2.grown hg (by simp; omega), a3.grown hg (by simp; omega), a6.grown hg (.inr fun e => ?_), fun i x p q1 q2 => (a7 i x p q1 q2).grown hg h2, a8.grown hg (by have := a0.lt; omega) (fun k hk => by injection hk with hk; omega)⟩
  have := a6.lt r e
  omega
end Go.Proofs.YtnmgjgeniaheoabDoor
