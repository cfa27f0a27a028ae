/- Contracts: pins.Parse. -/
import Derived.Test.YtnmgjgeniaheoaaDoorPnD
import Derived.Test.YtnmgjgeniaheoaaDoorWvS
namespace Go.Proofs.YtnmgjgeniaheoaaDoor
open Go.ChangeShapes Go.WideShapes Go.ChangeAt Go.RowKit
set_option linter.unusedVariables false

theorem blkAtP {w : World} {g : Nat} (h : w.heap.size = g) (t : TypeId) (cs : Array Value) : Blk (w.alloc (.cells cs t)) g t cs := by subst h; exact Blk.new _ _ _ _
theorem pcs_mem (c : UInt8) : ∀ (l : List UInt8) (p : List UInt8), p ∈ pcs c l → p.length ≤ l.length
  | [], p, h => by
    simp only [pcs, List.mem_singleton] at h
    rw [h]; exact Nat.le_refl _
  | x :: l, p, h => by
    unfold pcs at h
    rw [List.length_cons]
    split at h
    · rcases List.mem_cons.1 h with rfl | h
      · simp
      · have := pcs_mem c l p h; omega
    · split at h
      · next e => exact absurd e (pcs_ne c l)
      · next q r e =>
        rcases List.mem_cons.1 h with rfl | h
        · have := pcs_mem c l q (by rw [e]; simp)
          rw [List.length_cons]; omega
        · have := pcs_mem c l p (by rw [e]; simp [h]); omega
theorem pcsB_mem {c : UInt8} {s x : ByteArray} {pre rest : List ByteArray} (h : pcsB c s = pre ++ x :: rest) : x.size ≤ s.size := by
  have hx : x ∈ pcsB c s := by rw [h]; simp
  unfold pcsB at hx
  obtain ⟨p, hp, rfl⟩ := List.mem_map.1 hx
  have := pcs_mem c _ p hp
  rw [dlen] at this
  show p.toArray.size ≤ s.size
  simpa using this
theorem gp_cases (w : ByteArray) : (∃ e, grp w = .bad e ∧ e ≠ 0 ∧ gpV w = (zPn, 0, e)) ∨ (∃ p n, grp w = .good p n ∧ gpV w = (p, (n : Int), 0) ∧ n ≤ 4096) := by
  unfold gpV
  cases h : grp w with
  | bad e =>
    left
    refine ⟨e, rfl, ?_, rfl⟩
    unfold grp at h
    split at h
    · injection h with h; omega
    · split at h
      · cases h
      · split at h
        · cases h
        · injection h with h; omega
  | good p n =>
    right
    refine ⟨p, n, rfl, rfl, ?_⟩
    unfold grp at h
    split at h
    · cases h
    · split at h
      · injection h with _ h; omega
      · split at h
        · injection h with _ h
          have := (tim_nonneg (grpL w) (nums_range _)).2
          omega
        · cases h
theorem prs_pre {s : ByteArray} {pre rest : List ByteArray} {e : Int} (hs : pcsB 32 s = pre ++ rest) (h : fld [] pre = .inl e) : prs s = .inl e := by unfold prs; rw [hs, fld_app, h]
theorem fld_step {pre : List ByteArray} {x : ByteArray} {out : List Pn} (h : fld [] pre = .inr out) : fld [] (pre ++ [x]) = stp out x := by
  rw [fld_app, h]
  show fld out [x] = stp out x
  rw [fld]
  cases stp out x <;> rfl
theorem wpListIn_appN {F : Fence} {nn : Nat} {ops : Array Oper} {rest : List Oper} {o : Oper} {a : Act} {Q : Exit → Act → World → Prop} (hgd : o.guard = none) (w : World) (s x : Operand)
    (ho : o.op = .call { callee := .builtin .append, args := #[s, x], argTypes := #[22, 22] })
    (base : Nat) (v : Value) (l m : List Pn) (hs : a.eval s = v) (hown : eN.Own 24 w base v l) (ad : Addr) (mm c : Nat) (hx : a.eval x = .slice (some ad) mm c) (hm : mm = m.length)
    (hc : ∀ j u, (eN.cells m)[j]? = some u → w.cell? (ad.add j) = some u) (hn : l.length + m.length ≤ 1099511627776) (hbase : base ≤ w.heap.size)
    (h : ∀ v' w', eN.Own 24 w' base v' (l ++ m) → Below base w w' → w.grownBy w' v.ownBlock → (v'.ownBlock = v.ownBlock ∨ v'.ownBlock = some w.heap.size) → wpListIn F nn Tryd.prog ops Q rest (a.put o.dst v') w') : wpListIn F nn Tryd.prog ops Q (o :: rest) a w := by
  subst hm
  obtain ⟨i0, hi, hz0, hz1, hz2⟩ := info_parts infoN
  refine wpListIn_plain hgd fun K hK' => ?_
  obtain ⟨v', w', hr, h2, h3, _, h5⟩ := run_append_own_at (P := Tryd.prog) w base 22 o.type 24 i0 _ 6 6 Tryd.underlying22 hi hz0 hz1 hz2 (by decide) (by decide) v l.length _ hown ad m.length c
    (eN.cells m) (by rw [Els.cells_len]) hc (eN.cells_one m) (by unfold maxLen; omega) (by omega) hbase
  unfold Oper.wpIn
  refine ⟨?_, ?_⟩
  · simp [Oper.about, ho, resolve, Target.leads, Sem.run_pure]
  · rw [Oper.semAt_plain F _ _ (by rw [ho]; intro c hc'; cases hc')]
    simp [execOp, ho, resolve, invoke, builtin, hs, hx, hr, Result.andThen]
    refine hK' _ _ (h v' w' ?_ (Below.grown (Below.refl _ _) h3 hbase (fun k hk => (hown.lt k hk).1)) h3 h5)
    show World.ownsRow _ _ _ _ _ _ _
    rw [List.length_append, Els.cells_append]
    exact h2
theorem litN (w : World) (x : Pn) : ∀ j u, (eN.cells [x])[j]? = some u → (w.alloc (.cells x.cells 24)).cell? ((⟨w.heap.size, 0, none⟩ : Addr).add j) = some u := by
  intro j u hj
  rw [Els.add_pl, Nat.zero_add, (Blk.new w _ x.cells (0, 0)).cell, ← Array.getElem?_toList]
  exact hj
/-- Between two rounds; where it is left. -/
def PnI (n : Nat) (w : World) (pre : List ByteArray) (W : World) : Prop :=
  ∃ out v, fld [] pre = .inr out ∧ Blk W n 22 #[.slice none 0 0] ∧ Blk W (n + 1) 29 #[.int .i64 0] ∧ Blk W (n + 2) 22 #[v] ∧ eN.Own 24 W (n + 8) v out ∧ Below n w W
def PnIx (n : Nat) (w : World) (c : Code) (pre : List ByteArray) (W : World) : Prop :=
  c = .ret ∧ ∃ e, fld [] pre = .inl e ∧ Blk W n 22 #[.slice none 0 0] ∧ Blk W (n + 1) 29 #[.int .i64 e] ∧ Below n w W
theorem PnI.grown {n r : Nat} {w A B : World} {pre : List ByteArray} (h : PnI n w pre A) (hg : A.grownBy B (some r)) (h1 : n + 3 ≤ r) (h2 : r < n + 8) : PnI n w pre B := by
  obtain ⟨out, v, a0, a1, a2, a3, a4, a5⟩ := h
  refine ⟨out, v, a0, a1.grown hg (by simp; omega), a2.grown hg (by simp; omega), a3.grown hg (by simp; omega), a4.grown hg (.inr fun e => ?_), a5.grown hg (by have := a1.lt; omega) (fun k hk => by injection hk with hk; omega)⟩
  have := a4.lt r e
  omega
theorem PnIx.grown {n r : Nat} {w A B : World} {c : Code} {pre : List ByteArray} (h : PnIx n w c pre A) (hg : A.grownBy B (some r)) (h1 : n + 3 ≤ r) (h2 : r < n + 8) : PnIx n w c pre B := by
  obtain ⟨hc, e, a0, a1, a2, a5⟩ := h
  exact ⟨hc, e, a0, a1.grown hg (by simp; omega), a2.grown hg (by simp; omega), a5.grown hg (by have := a1.lt; omega) (fun k hk => by injection hk with hk; omega)⟩
theorem own_far {n r : Nat} {A B : World} {v : Value} {out : List Pn} (h : eN.Own 24 A (n + 8) v out) (hg : A.grownBy B (some r)) (h2 : r < n + 8) : eN.Own 24 B (n + 8) v out :=
  h.grown hg (.inr fun e => by have := h.lt r e; omega)
theorem resPar (tmps : Array Value) (W : World) (g : Nat) (v : Value) (e : Int) (h : Blk W g 22 #[v]) (h' : Blk W (g + 1) 29 #[.int .i64 e]) (hv : ∃ A n c, v = .slice A n c) (h2 : tmps.getD 2 undef = .pointer (some ⟨g, 0, none⟩)) (h3 : tmps.getD 3 undef = .pointer (some ⟨g + 1, 0, none⟩)) :
    (results Tryd.f9 tmps).run Tryd.prog W = .ok (.tuple #[v, .int .i64 e]) W := by
  obtain ⟨A, n, c, rfl⟩ := hv
  have q0 : W.cell? ⟨g, 0, none⟩ = some (.slice A n c) := (h.cell 0).trans rfl
  have q1 : W.cell? ⟨g + 1, 0, none⟩ = some (.int .i64 e) := (h'.cell 0).trans rfl
  have h2' : tmps[2]?.getD undef = .pointer (some ⟨g, 0, none⟩) := by simpa using h2
  have h3' : tmps[3]?.getD undef = .pointer (some ⟨g + 1, 0, none⟩) := by simpa using h3
  simp [results, Tryd.results9, h2', h3', go_sem, q0, q1]
attribute [local go_sem] Oper.semAt_some
set_option maxRecDepth 100000 in
set_option maxHeartbeats 8000000 in
theorem parse_any (s : ByteArray) (hs : s.size ≤ 100000) (w : World) : Calls Tryd.prog 9 #[.string s] w (PaPost s w.heap.size w) := by
  obtain ⟨n, hnn⟩ : ∃ n, w.heap.size = n := ⟨_, rfl⟩
  rw [hnn]
  obtain ⟨W0, hW0⟩ : ∃ W0, ((((((w.alloc (.cells #[.slice none 0 0] 22)).alloc (.cells #[.int .i64 0] 29)).alloc (.cells #[.slice none 0 0] 22)).alloc (.cells #[.string s] 9)).alloc (.cells #[.string ⟨#[32]⟩] 9)).alloc (.cells #[.int .i64 0] 3)) = W0 := ⟨_, rfl⟩
  have s0 : W0.heap.size = n + 6 := by rw [← hW0]; simp [hnn]
  have CS := Lib.hid (fun u => splitSeq_any s ⟨#[32]⟩ u)
  have CG := Lib.hid (fun x q u => group_any x q u)
  refine (callsIn_wide (n := 0)).1 (callsIn_of_wp_marks Tryd.func9 rfl trivial ?_ rfl)
  simp only [Tryd.ntmps9, List.size_toArray, List.length_cons, List.length_nil, Nat.reduceAdd, Nat.reduceSub, Array.replicate_succ, Array.replicate_zero, List.push_toArray, List.append_toArray, List.nil_append, List.cons_append]
  gi_wp2_with fail
  refine ⟨trivial, rfl, (callsIn_wide.2 (CS.out _)).mono ?_⟩
  rintro e w1 ⟨rfl, hw1⟩
  gi_wp2_with fail
  clear hw1
  have K0 : Hid (Blk W0 n 22 #[.slice none 0 0]) := Lib.hid (by rw [← hW0]; exact Blk.alloc (Blk.alloc (Blk.alloc (Blk.alloc (Blk.alloc (blkAtP hnn _ _) _) _) _) _) _)
  have K1 : Hid (Blk W0 (n + 1) 29 #[.int .i64 0]) := Lib.hid (by rw [← hW0]; exact Blk.alloc (Blk.alloc (Blk.alloc (Blk.alloc (blkAtP (by simp [hnn]) _ _) _) _) _) _)
  have K2 : Hid (Blk W0 (n + 2) 22 #[.slice none 0 0]) := Lib.hid (by rw [← hW0]; exact Blk.alloc (Blk.alloc (Blk.alloc (blkAtP (by simp [hnn]) _ _) _) _) _)
  have K3 : Hid (Blk W0 (n + 3) 9 #[.string s]) := Lib.hid (by rw [← hW0]; exact Blk.alloc (Blk.alloc (blkAtP (by simp [hnn]) _ _) _) _)
  have K4 : Hid (Blk W0 (n + 3 + 1) 9 #[.string ⟨#[32]⟩]) := Lib.hid (by rw [← hW0]; exact Blk.alloc (blkAtP (by simp [hnn]) _ _) _)
  have K5 : Hid (Blk W0 (n + 3 + 2) 3 #[.int .i64 0]) := Lib.hid (by rw [← hW0]; exact blkAtP (by simp [hnn]) _ _)
  have HB : Hid (Below n w W0) := Lib.hid (by rw [← hW0, ← hnn]; exact Below.alloc0 (Below.alloc0 (Below.alloc0 (Below.alloc0 (Below.alloc0 (Below.alloc0 (Below.refl _ _) _) _) _) _) _) _)
  clear hW0
  refine wp_rangeSeq (gf := 35) (b := n + 3) (xs := pcsB 32 s) rfl (enters_of Tryd.func35 (by kernel_rfl) rfl) (by omega) (splitSeq_seq s 32 (n + 3) (fun k => W0.heap[k]?) K3.out K4.out K5.out (by omega)) rfl
    (PnI n w) (PnIx n w) ?hI ?hIx ⟨[], _, rfl, K0.out, K1.out, K2.out, Els.Own.nil_ _ _, HB.out⟩
    (fun x => { tmps := #[.string s, undef, .pointer (some ⟨n, 0, none⟩), .pointer (some ⟨n + 1, 0, none⟩), .pointer (some ⟨n + 1 + 1, 0, none⟩), .string x, undef, undef, undef, .string s, .func (.func 35) #[] #[.pointer (some ⟨n + 1 + 1 + 1 + 1, 0, none⟩), .pointer (some ⟨n + 1 + 1 + 1, 0, none⟩), .pointer (some ⟨n + 1 + 1 + 1 + 2, 0, none⟩)], .string x, undef, undef, undef, undef, undef, undef, undef, undef, undef, undef, undef, undef, undef, undef, undef, undef, undef, undef, undef, undef, undef, undef, undef, undef, undef], defers := [] }) ?assign ?body ?done ?stop
  case hI =>
    rintro pre X Y r h hg hr
    exact h.grown hg (by omega) (by omega)
  case hIx =>
    rintro c pre X Y r h hg hr
    exact h.grown hg (by omega) (by omega)
  case assign =>
    intro l' x W K hK
    gi_wp2
    exact hK
  case body =>
    intro l' pre x rest W hxs hsz hI
    obtain ⟨out, v, a0, a1, a2, a3, a4, a5⟩ := hI
    have hxz : x.size ≤ 100000 := by have := pcsB_mem hxs; omega
    have FS := fld_step (x := x) a0
    have HOL := fld_len _ _ _ a0 (by simp)
    obtain ⟨A, c, hv, -⟩ := a4.rd.open_
    obtain ⟨L, hL⟩ : ∃ L, out.length = L := ⟨_, rfl⟩
    have HL := Lib.hid hL
    rw [hL] at hv HOL
    subst hv
    rw [s0] at hsz
    have q2 : W.cell? ⟨n + 1 + 1, 0, none⟩ = some (.slice A L c) := (a3.cell 0).trans rfl
    have A1 := Lib.hid a1
    have A2 := Lib.hid a2
    have A3 := Lib.hid a3
    have A4 := Lib.hid a4
    have A5 := Lib.hid a5
    clear hxs a1 a2 a3 a4 a5 hL a0
    by_cases he : x.size = 0
    · have FE := FS.trans (stp_empty (out := out) he)
      obtain rfl : x = ByteArray.empty := ByteArray.size_eq_zero_iff.1 he
      have FE := Lib.hid FE
      clear he FS
      gi_wp2
      exact ⟨fun j hj => rfl, out, _, FE.out, A1.out, A2.out, A3.out, A4.out, A5.out⟩
    · have e0 : x.toList.isEmpty = false := empty_beq x (by omega)
      have CGs := Lib.hid (CG.out x hxz W)
      rcases gp_cases x with ⟨er, g1, g2, g3⟩ | ⟨⟨p0, p1, p2, p3, p4, p5⟩, N, g1, g3, g4⟩
      · have FE := Lib.hid (FS.trans (stp_bad he g1))
        rw [g3] at CGs
        have t : (er == 0) = false := by simpa using g2
        clear he FS g1 g2 g3
        gi_wp2_with fail
        refine ⟨trivial, rfl, (CallsIn.inRound l' (callsIn_wide.2 CGs.out)).mono ?_⟩
        rintro e W1 ⟨rfl, hb1⟩
        have hz1 := hb1.size
        obtain ⟨g, hg⟩ : ∃ g, W1.heap.size = g := ⟨_, rfl⟩
        obtain ⟨V2, hV2⟩ : ∃ V2, W1.alloc (Obj.cells zPn.cells 24) = V2 := ⟨_, rfl⟩
        have PZ : Hid (Blk V2 g 24 zPn.cells) := Lib.hid (by rw [← hV2, ← hg]; exact Blk.new _ _ _ _)
        have XV : Hid (∀ j, j < W.heap.size → V2.heap[j]? = W.heap[j]?) := Lib.hid (fun j hj => by rw [← hV2]; exact (Below.heap_alloc _ _ j (by omega)).trans (hb1.block j hj))
        have BV : Hid (Below n w V2) := Lib.hid (by rw [← hV2]; exact (A5.out.trans (hb1.mono (by omega))).trans ((Below.alloc0 (Below.refl _ _) _).mono (by omega)))
        have OV : Hid (eN.Own 24 V2 (n + 8) (.slice A L c) out) := Lib.hid (by rw [← hV2]; exact (A4.out.below hb1).alloc _)
        have G4 : Hid ((Value.slice A L c).ownBlock ≠ some g) := Lib.hid (fun e => by have := A4.out.lt g e; omega)
        have L2 : Hid (n + 8 ≤ g) := Lib.hid (by omega)
        have z := PZ.out.c6
        have fz := PZ.out.fr6
        obtain ⟨W2, hW2⟩ : ∃ W2, (((((V2.setCell ⟨g, 0, none⟩ (.bool false)).setCell ⟨g, 1, none⟩ (.bool false)).setCell ⟨g, 2, none⟩ (.bool false)).setCell ⟨g, 3, none⟩ (.bool false)).setCell ⟨g, 4, none⟩ (.bool false)).setCell ⟨g, 5, none⟩ (.bool false) = W2 := ⟨_, rfl⟩
        have P2 : Hid (Blk W2 g 24 #[.bool false, .bool false, .bool false, .bool false, .bool false, .bool false]) := Lib.hid (by rw [← hW2]; exact Blk.set6 PZ.out)
        have X2 : Hid (∀ j, j < W.heap.size → W2.heap[j]? = W.heap[j]?) := Lib.hid (fun j hj => by rw [← hW2]; exact (Below.heap_setCell _ _ _ j (by show j ≠ g; omega)).trans ((Below.heap_setCell _ _ _ j (by show j ≠ g; omega)).trans ((Below.heap_setCell _ _ _ j (by show j ≠ g; omega)).trans ((Below.heap_setCell _ _ _ j (by show j ≠ g; omega)).trans ((Below.heap_setCell _ _ _ j (by show j ≠ g; omega)).trans ((Below.heap_setCell _ _ _ j (by show j ≠ g; omega)).trans (XV.out j hj)))))))
        have B2 : Hid (Below n w W2) := Lib.hid (by rw [← hW2]; exact Below.set6 BV.out (by omega) _ _ _ _ _ _)
        have K4 : Hid (eN.Own 24 W2 (n + 8) (.slice A L c) out) := Lib.hid (by rw [← hW2]; exact (((((OV.out.grown (grown_cell _ g 0 _) (.inr G4.out)).grown (grown_cell _ g 1 _) (.inr G4.out)).grown (grown_cell _ g 2 _) (.inr G4.out)).grown (grown_cell _ g 3 _) (.inr G4.out)).grown (grown_cell _ g 4 _) (.inr G4.out)).grown (grown_cell _ g 5 _) (.inr G4.out))
        have K1 : Hid (Blk W2 n 22 #[.slice none 0 0]) := Lib.hid ((X2.out n (by omega)).trans A1.out)
        have K2 : Hid (Blk W2 (n + 1) 29 #[.int .i64 0]) := Lib.hid ((X2.out (n + 1) (by omega)).trans A2.out)
        have K3 : Hid (Blk W2 (n + 2) 22 #[.slice A L c]) := Lib.hid ((X2.out (n + 2) (by omega)).trans A3.out)
        have q2 : W2.cell? ⟨n + 1 + 1, 0, none⟩ = some (.slice A L c) := (K3.out.cell 0).trans rfl
        have q0 : W2.cell? ⟨n, 0, none⟩ = some (.slice none 0 0) := (K1.out.cell 0).trans rfl
        have q1 : W2.cell? ⟨n + 1, 0, none⟩ = some (.int .i64 0) := (K2.out.cell 0).trans rfl
        have f0 := K1.out.frozen 0
        have f1 := K2.out.frozen 0
        clear hb1
        gi_wp2
        have Y1 : Hid (Blk ((W2.setCell ⟨n, 0, none⟩ (.slice none 0 0)).setCell ⟨n + 1, 0, none⟩ (.int .i64 er)) n 22 #[.slice none 0 0]) := Lib.hid (Blk.far (Blk.set_ K1.out 0 _) (by show n ≠ n + 1; omega) _)
        have Y2 : Hid (Blk ((W2.setCell ⟨n, 0, none⟩ (.slice none 0 0)).setCell ⟨n + 1, 0, none⟩ (.int .i64 er)) (n + 1) 29 #[.int .i64 er]) := Lib.hid (Blk.set_ (Blk.far K2.out (by show n + 1 ≠ n; omega) _) 0 _)
        exact ⟨fun j hj => (Below.heap_setCell _ _ _ j (by show j ≠ n + 1; omega)).trans ((Below.heap_setCell _ _ _ j (by show j ≠ n; omega)).trans (X2.out j (by omega))), rfl, er, FE.out, Y1.out, Y2.out, Below.set0 (Below.set0 B2.out (Nat.le_refl _) _) (by omega) _⟩
      · have FG := stp_good (out := out) he g1
        rw [← FS] at FG
        rw [g3] at CGs
        clear he FS g1 g3
        gi_wp2_with fail
        refine ⟨trivial, rfl, (CallsIn.inRound l' (callsIn_wide.2 CGs.out)).mono ?_⟩
        rintro e W1 ⟨rfl, hb1⟩
        have hz1 := hb1.size
        obtain ⟨g, hg⟩ : ∃ g, W1.heap.size = g := ⟨_, rfl⟩
        obtain ⟨V2, hV2⟩ : ∃ V2, W1.alloc (Obj.cells zPn.cells 24) = V2 := ⟨_, rfl⟩
        have PZ : Hid (Blk V2 g 24 zPn.cells) := Lib.hid (by rw [← hV2, ← hg]; exact Blk.new _ _ _ _)
        have XV : Hid (∀ j, j < W.heap.size → V2.heap[j]? = W.heap[j]?) := Lib.hid (fun j hj => by rw [← hV2]; exact (Below.heap_alloc _ _ j (by omega)).trans (hb1.block j hj))
        have BV : Hid (Below n w V2) := Lib.hid (by rw [← hV2]; exact (A5.out.trans (hb1.mono (by omega))).trans ((Below.alloc0 (Below.refl _ _) _).mono (by omega)))
        have OV : Hid (eN.Own 24 V2 (n + 8) (.slice A L c) out) := Lib.hid (by rw [← hV2]; exact (A4.out.below hb1).alloc _)
        have G4 : Hid ((Value.slice A L c).ownBlock ≠ some g) := Lib.hid (fun e => by have := A4.out.lt g e; omega)
        have L2 : Hid (n + 8 ≤ g) := Lib.hid (by omega)
        have z := PZ.out.c6
        have fz := PZ.out.fr6
        obtain ⟨W2, hW2⟩ : ∃ W2, (((((V2.setCell ⟨g, 0, none⟩ (.bool p0)).setCell ⟨g, 1, none⟩ (.bool p1)).setCell ⟨g, 2, none⟩ (.bool p2)).setCell ⟨g, 3, none⟩ (.bool p3)).setCell ⟨g, 4, none⟩ (.bool p4)).setCell ⟨g, 5, none⟩ (.bool p5) = W2 := ⟨_, rfl⟩
        have P2 : Hid (Blk W2 g 24 #[.bool p0, .bool p1, .bool p2, .bool p3, .bool p4, .bool p5]) := Lib.hid (by rw [← hW2]; exact Blk.set6 PZ.out)
        have X2 : Hid (∀ j, j < W.heap.size → W2.heap[j]? = W.heap[j]?) := Lib.hid (fun j hj => by rw [← hW2]; exact (Below.heap_setCell _ _ _ j (by show j ≠ g; omega)).trans ((Below.heap_setCell _ _ _ j (by show j ≠ g; omega)).trans ((Below.heap_setCell _ _ _ j (by show j ≠ g; omega)).trans ((Below.heap_setCell _ _ _ j (by show j ≠ g; omega)).trans ((Below.heap_setCell _ _ _ j (by show j ≠ g; omega)).trans ((Below.heap_setCell _ _ _ j (by show j ≠ g; omega)).trans (XV.out j hj)))))))
        have B2 : Hid (Below n w W2) := Lib.hid (by rw [← hW2]; exact Below.set6 BV.out (by omega) _ _ _ _ _ _)
        have K4 : Hid (eN.Own 24 W2 (n + 8) (.slice A L c) out) := Lib.hid (by rw [← hW2]; exact (((((OV.out.grown (grown_cell _ g 0 _) (.inr G4.out)).grown (grown_cell _ g 1 _) (.inr G4.out)).grown (grown_cell _ g 2 _) (.inr G4.out)).grown (grown_cell _ g 3 _) (.inr G4.out)).grown (grown_cell _ g 4 _) (.inr G4.out)).grown (grown_cell _ g 5 _) (.inr G4.out))
        have K1 : Hid (Blk W2 n 22 #[.slice none 0 0]) := Lib.hid ((X2.out n (by omega)).trans A1.out)
        have K2 : Hid (Blk W2 (n + 1) 29 #[.int .i64 0]) := Lib.hid ((X2.out (n + 1) (by omega)).trans A2.out)
        have K3 : Hid (Blk W2 (n + 2) 22 #[.slice A L c]) := Lib.hid ((X2.out (n + 2) (by omega)).trans A3.out)
        have q2 : W2.cell? ⟨n + 1 + 1, 0, none⟩ = some (.slice A L c) := (K3.out.cell 0).trans rfl
        have q0 : W2.cell? ⟨n, 0, none⟩ = some (.slice none 0 0) := (K1.out.cell 0).trans rfl
        have q1 : W2.cell? ⟨n + 1, 0, none⟩ = some (.int .i64 0) := (K2.out.cell 0).trans rfl
        have f0 := K1.out.frozen 0
        have f1 := K2.out.frozen 0
        clear hb1
        by_cases n1 : 4096 < L + N
        · have FE : Hid (fld [] (pre ++ [x]) = .inl 12) := Lib.hid (by rw [FG, if_pos (by rw [HL.out]; exact n1)])
          have n2 : 4096 - (L : Int) < N := by omega
          gi_wp2
          have Y1 : Hid (Blk ((W2.setCell ⟨n, 0, none⟩ (.slice none 0 0)).setCell ⟨n + 1, 0, none⟩ (.int .i64 12)) n 22 #[.slice none 0 0]) := Lib.hid (Blk.far (Blk.set_ K1.out 0 _) (by show n ≠ n + 1; omega) _)
          have Y2 : Hid (Blk ((W2.setCell ⟨n, 0, none⟩ (.slice none 0 0)).setCell ⟨n + 1, 0, none⟩ (.int .i64 12)) (n + 1) 29 #[.int .i64 12]) := Lib.hid (Blk.set_ (Blk.far K2.out (by show n + 1 ≠ n; omega) _) 0 _)
          exact ⟨fun j hj => (Below.heap_setCell _ _ _ j (by show j ≠ n + 1; omega)).trans ((Below.heap_setCell _ _ _ j (by show j ≠ n; omega)).trans (X2.out j (by omega))), rfl, 12, FE.out, Y1.out, Y2.out, Below.set0 (Below.set0 B2.out (Nat.le_refl _) _) (by omega) _⟩
        · have FE : Hid (fld [] (pre ++ [x]) = .inr (out ++ List.replicate N ⟨p0, p1, p2, p3, p4, p5⟩)) := Lib.hid (by rw [FG, if_neg (by rw [HL.out]; exact n1)])
          have n2 : ¬ 4096 - (L : Int) < N := by omega
          have XW : Hid (∀ j, n + 3 ≤ j → j < n + 8 → W2.heap[j]? = W.heap[j]?) := Lib.hid (fun j h1 h2 => X2.out j (by omega))
          clear CG CGs CS OV BV XV PZ
          gi_wp2
          clear hW2 hV2 hg z fz q0 q1 q2 f0 f1 n2
          gi_loopw [29] (fun i wr => ∃ (j : Nat) (v2 : Value), j ≤ N ∧ i = .int .i64 j ∧ Hid (Blk wr n 22 #[.slice none 0 0]) ∧ Hid (Blk wr (n + 1) 29 #[.int .i64 0]) ∧ Hid (Blk wr (n + 2) 22 #[v2]) ∧ Hid (eN.Own 24 wr (n + 8) v2 (out ++ List.replicate j (⟨p0, p1, p2, p3, p4, p5⟩ : Pn))) ∧ Hid (v2.ownBlock ≠ some g) ∧ Hid (Blk wr g 24 #[.bool p0, .bool p1, .bool p2, .bool p3, .bool p4, .bool p5]) ∧ Hid (Below n w wr) ∧ Hid (∀ k, n + 3 ≤ k → k < n + 8 → wr.heap[k]? = W.heap[k]?)) (fun i _ => N - (intOf i).toNat)
          case atStart => exact ⟨0, _, by omega, rfl, K1, K2, K3, Lib.hid (by rw [List.replicate_zero, List.append_nil]; exact K4.out), G4, P2, B2, XW⟩
          case round =>
            obtain ⟨j, v2, hj, rfl, J1, J2, J3, O2, G2, P3, B3, X3⟩ := hrel
            by_cases hjl : j < N
            · have j1 : (j : Int) < (N : Int) := by omega
              have j0 : (0 : Int) ≤ j := by omega
              obtain ⟨c0, c1, c2, c3, c4, c5⟩ := P3.out.c6
              obtain ⟨RR, hRR⟩ : ∃ R, out ++ List.replicate j (⟨p0, p1, p2, p3, p4, p5⟩ : Pn) = R := ⟨_, rfl⟩
              have LS : Hid (RR.length + 1 ≤ 100000) := Lib.hid (by rw [← hRR, List.length_append, List.length_replicate, HL.out]; omega)
              rw [hRR] at O2
              have HRR := Lib.hid hRR
              clear hRR
              obtain ⟨A2', c2', hv2, -⟩ := O2.out.rd.open_
              obtain ⟨M, hM⟩ : ∃ M, RR.length = M := ⟨_, rfl⟩
              rw [hM] at hv2
              subst hv2
              have q2 : wr.cell? ⟨n + 1 + 1, 0, none⟩ = some (.slice A2' M c2') := (J3.out.cell 0).trans rfl
              have PL := Lib.hid P3.out.lt
              clear hM
              gi_wp2_with (refine wpListIn_appN rfl _ (.tmp 31) (.tmp 33) rfl (n + 8) _ RR [(⟨p0, p1, p2, p3, p4, p5⟩ : Pn)] rfl (O2.out.alloc _) ⟨wr.heap.size, 0, none⟩ 1 1 rfl rfl (litN wr (⟨p0, p1, p2, p3, p4, p5⟩ : Pn)) (by have := LS.out; show _ + 1 ≤ _; omega) (by rw [World.size_alloc]; have := PL.out; have := L2.out; omega) ?_; intro v5 w6 ho hb6 hg6 hv6; obtain ⟨A5', c5', hv5, -⟩ := ho.rd.open_; obtain ⟨M5, hM5⟩ : ∃ M5, (RR ++ [(⟨p0, p1, p2, p3, p4, p5⟩ : Pn)]).length = M5 := ⟨_, rfl⟩; rw [hM5] at hv5; subst hv5; have KK := Lib.hid (Blk.below (Blk.alloc J3.out (Obj.cells #[.bool p0, .bool p1, .bool p2, .bool p3, .bool p4, .bool p5] 24)) hb6 (by omega)); have q5 : w6.cell? ⟨n + 1 + 1, 0, none⟩ = some (.slice A2' M c2') := (KK.out.cell 0).trans rfl; have f5 := KK.out.frozen 0; clear hM5)
              have O5 : Hid (eN.Own 24 w6 (n + 8) (.slice A5' M5 c5') (out ++ List.replicate (j + 1) (⟨p0, p1, p2, p3, p4, p5⟩ : Pn))) := Lib.hid (by rw [List.replicate_succ', ← List.append_assoc, HRR.out]; exact ho)
              have Y1 := Lib.hid (Blk.below (Blk.alloc J1.out (Obj.cells #[.bool p0, .bool p1, .bool p2, .bool p3, .bool p4, .bool p5] 24)) hb6 (by omega))
              have Y2 := Lib.hid (Blk.below (Blk.alloc J2.out (Obj.cells #[.bool p0, .bool p1, .bool p2, .bool p3, .bool p4, .bool p5] 24)) hb6 (by omega))
              have G5 : Hid ((Value.slice A5' M5 c5').ownBlock ≠ some g) := Lib.hid (own_ne G2.out hv6 (by rw [World.size_alloc]; have := PL.out; omega))
              have P5 : Hid (Blk w6 g 24 #[.bool p0, .bool p1, .bool p2, .bool p3, .bool p4, .bool p5]) := Lib.hid (Blk.grown (Blk.alloc P3.out _) hg6 (fun e => G2.out e.symm))
              have B5 : Hid (Below n w w6) := Lib.hid ((B3.out.trans ((Below.alloc0 (Below.refl _ _) _).mono (by have := PL.out; have := L2.out; omega))).trans (hb6.mono (by omega)))
              refine ⟨⟨j + 1, .slice A5' M5 c5', by omega, by go_num, Lib.hid (Blk.far Y1.out (by show n ≠ n + 1 + 1; omega) _), Lib.hid (Blk.far Y2.out (by show n + 1 ≠ n + 1 + 1; omega) _), Lib.hid (Blk.set_ KK.out 0 _), Lib.hid (own_far O5.out (grown_cell _ _ _ _) (by omega)), G5, Lib.hid (Blk.far P5.out (by show g ≠ n + 1 + 1; have := L2.out; omega) _), Lib.hid (Below.set0 B5.out (by omega) _), Lib.hid (fun k h1 h2 => (Below.heap_setCell _ _ _ k (by show k ≠ n + 1 + 1; omega)).trans ((hb6.block k (by omega)).trans ((Below.heap_alloc _ _ k (by have := PL.out; have := L2.out; omega)).trans (X3.out k h1 h2))))⟩, ?_⟩
              simp [intOf]; omega
            · have j1 : ¬ (j : Int) < (N : Int) := by omega
              have hjN : j = N := by omega
              have FE2 : Hid (fld [] (pre ++ [x]) = .inr (out ++ List.replicate j (⟨p0, p1, p2, p3, p4, p5⟩ : Pn))) := Lib.hid (by rw [hjN]; exact FE.out)
              clear hjN
              gi_wp2
              exact ⟨fun k hk => X3.out k (by omega) (by omega), _, v2, FE2.out, J1.out, J2.out, J3.out, O2.out, B3.out⟩
  case done =>
    intro W hI hK
    obtain ⟨out, v, a0, a1, a2, a3, a4, a5⟩ := hI
    obtain ⟨A, c, hv, -⟩ := a4.rd.open_
    obtain ⟨L, hL⟩ : ∃ L, out.length = L := ⟨_, rfl⟩
    rw [hL] at hv
    subst hv
    have q2 : W.cell? ⟨n + 1 + 1, 0, none⟩ = some (.slice A L c) := (a3.cell 0).trans rfl
    have q0 : W.cell? ⟨n, 0, none⟩ = some (.slice none 0 0) := (a1.cell 0).trans rfl
    have q1 : W.cell? ⟨n + 1, 0, none⟩ = some (.int .i64 0) := (a2.cell 0).trans rfl
    have f0 := a1.frozen 0
    have f1 := a2.frozen 0
    have A1 := Lib.hid a1
    have A2 := Lib.hid a2
    have A4 := Lib.hid a4
    have A5 := Lib.hid a5
    have HK := Lib.hid hK
    have E : Hid (prs s = .inr out) := Lib.hid a0
    clear a0 a1 a2 a3 a4 a5 hK hL
    gi_wp2
    have K1 : Hid (Blk ((W.setCell ⟨n, 0, none⟩ (.slice A L c)).setCell ⟨n + 1, 0, none⟩ (.int .i64 0)) n 22 #[.slice A L c]) := Lib.hid (Blk.far (Blk.set_ A1.out 0 _) (by show n ≠ n + 1; omega) _)
    have K2 : Hid (Blk ((W.setCell ⟨n, 0, none⟩ (.slice A L c)).setCell ⟨n + 1, 0, none⟩ (.int .i64 0)) (n + 1) 29 #[.int .i64 0]) := Lib.hid (Blk.set_ (Blk.far A2.out (by show n + 1 ≠ n; omega) _) 0 _)
    have K3 := Lib.hid (own_far (own_far A4.out (grown_cell W n 0 (.slice A L c)) (by omega)) (grown_cell _ (n + 1) 0 (.int .i64 0)) (by omega))
    have K4 : Hid (Below n w ((W.setCell ⟨n, 0, none⟩ (.slice A L c)).setCell ⟨n + 1, 0, none⟩ (.int .i64 0))) := Lib.hid (Below.set0 (Below.set0 A5.out (Nat.le_refl _) _) (by omega) _)
    have K5 : Hid (((W.setCell ⟨n, 0, none⟩ (.slice A L c)).setCell ⟨n + 1, 0, none⟩ (.int .i64 0)).heap[W0.heap.size]? = some (.deferred (some []))) := Lib.hid ((Below.heap_setCell _ _ _ _ (by show _ ≠ n + 1; omega)).trans ((Below.heap_setCell _ _ _ _ (by show _ ≠ n; omega)).trans HK.out))
    generalize (W.setCell ⟨n, 0, none⟩ (.slice A L c)).setCell ⟨n + 1, 0, none⟩ (.int .i64 0) = W2 at K1 K2 K3 K4 K5 ⊢
    refine ⟨by simp, .inl ⟨_, _, rfl, run_takeDeferred K5.out, ?_⟩⟩
    exact ⟨_, resPar _ _ n (.slice A L c) 0 (Blk.grown K1.out (grown_put _ _ _) (by simp; omega)) (Blk.grown K2.out (grown_put _ _ _) (by simp; omega)) ⟨_, _, _, rfl⟩ rfl rfl, PaPost.good E.out (own_far K3.out (grown_put _ _ _) (by omega)).rd (K4.out.grown (grown_put _ _ _) (by have := K1.out.lt; omega) (fun g hg => by injection hg with hg; omega))⟩
  case stop =>
    intro c' pre rest W hxs hIx hK
    obtain ⟨rfl, e, a0, a1, a2, a5⟩ := hIx
    have E := Lib.hid (prs_pre hxs a0)
    gi_wp2
    refine ⟨by simp, .inl ⟨_, _, rfl, run_takeDeferred hK, ?_⟩⟩
    exact ⟨_, resPar _ _ n (.slice none 0 0) e (Blk.grown a1 (grown_put _ _ _) (by simp; omega)) (Blk.grown a2 (grown_put _ _ _) (by simp; omega)) ⟨_, _, _, rfl⟩ rfl rfl, PaPost.bad E.out (a5.grown (grown_put _ _ _) (by have := a1.lt; omega) (fun g hg => by injection hg with hg; omega))⟩
end Go.Proofs.YtnmgjgeniaheoaaDoor
