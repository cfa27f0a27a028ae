/- Contracts: srec.Get walked, of a text that Put wrote. -/
import Derived.Test.YtnmgjgeniaheoabDoorSrg
namespace Go.Proofs.YtnmgjgeniaheoabDoor
open Go.ChangeShapes Go.WideShapes Go.ChangeAt Go.RowKit
set_option linter.unusedVariables false

theorem pcs_lenle (c : UInt8) : ∀ (l : List UInt8) (p : List UInt8), p ∈ pcs c l → p.length ≤ l.length
  | [], p, h => by
    simp only [pcs, List.mem_singleton] at h
    rw [h]; exact Nat.le_refl _
  | x :: l, p, h => by
    unfold pcs at h
    rw [List.length_cons]
    split at h
    · rcases List.mem_cons.1 h with rfl | h
      · simp
      · have := pcs_lenle c l p h; omega
    · split at h
      · next e => exact absurd e (pcs_ne c l)
      · next q r e =>
        rcases List.mem_cons.1 h with rfl | h
        · have := pcs_lenle c l q (by rw [e]; simp)
          rw [List.length_cons]; omega
        · have := pcs_lenle c l p (by rw [e]; simp [h]); omega
theorem pcsB_sz {c : UInt8} {s x : ByteArray} {pre rest : List ByteArray} (h : pcsB c s = pre ++ x :: rest) : x.size ≤ s.size := by
  have hx : x ∈ pcsB c s := by rw [h]; simp
  unfold pcsB at hx
  obtain ⟨p, hp, rfl⟩ := List.mem_map.1 hx
  have := pcs_lenle c _ p hp
  have e : s.data.toList.length = s.size := by simp
  rw [e] at this
  show p.toArray.size ≤ s.size
  simpa using this
theorem Blk.fr3 {w : World} {g : Nat} {t : TypeId} {cs : Array Value} (h : Blk w g t cs) : w.frozen? ⟨g, 0, none⟩ = false ∧ w.frozen? ⟨g, 1, none⟩ = false ∧ w.frozen? ⟨g, 2, none⟩ = false :=
  ⟨h.frozen _, h.frozen _, h.frozen _⟩
theorem resGet (tmps : Array Value) (W : World) (g : Nat) (v : Value) (a k e : Int) (h : Blk W g 23 #[v]) (h1 : Blk W (g + 1) 22 #[.int .u16 a]) (h2 : Blk W (g + 2) 3 #[.int .i64 k]) (h3 : Blk W (g + 3) 32 #[.int .i64 e]) (hv : ∃ A n c, v = .slice A n c)
    (q2 : tmps.getD 2 undef = .pointer (some ⟨g, 0, none⟩)) (q3 : tmps.getD 3 undef = .pointer (some ⟨g + 1, 0, none⟩)) (q4 : tmps.getD 4 undef = .pointer (some ⟨g + 2, 0, none⟩)) (q5 : tmps.getD 5 undef = .pointer (some ⟨g + 3, 0, none⟩)) :
    (results Tryd.f9 tmps).run Tryd.prog W = .ok (.tuple #[v, .int .u16 a, .int .i64 k, .int .i64 e]) W := by
  obtain ⟨A, n, c, rfl⟩ := hv
  have p0 : W.cell? ⟨g, 0, none⟩ = some (.slice A n c) := (h.cell 0).trans rfl
  have p1 : W.cell? ⟨g + 1, 0, none⟩ = some (.int .u16 a) := (h1.cell 0).trans rfl
  have p2 : W.cell? ⟨g + 2, 0, none⟩ = some (.int .i64 k) := (h2.cell 0).trans rfl
  have p3 : W.cell? ⟨g + 3, 0, none⟩ = some (.int .i64 e) := (h3.cell 0).trans rfl
  have q2' : tmps[2]?.getD undef = .pointer (some ⟨g, 0, none⟩) := by simpa using q2
  have q3' : tmps[3]?.getD undef = .pointer (some ⟨g + 1, 0, none⟩) := by simpa using q3
  have q4' : tmps[4]?.getD undef = .pointer (some ⟨g + 2, 0, none⟩) := by simpa using q4
  have q5' : tmps[5]?.getD undef = .pointer (some ⟨g + 3, 0, none⟩) := by simpa using q5
  simp [results, Tryd.results9, q2', q3', q4', q5', go_sem, p0, p1, p2, p3]
def GetPost (L : List Pc) (start : Int) (n : Nat) (w : World) (e : Ending) (w' : World) : Prop :=
  ∃ v, e = .returned (.tuple #[v, .int .u16 start, .int .i64 0, .int .i64 0]) ∧ PcR false w' v L ∧ Below n w w'
attribute [local go_sem] Oper.semAt_some
set_option maxRecDepth 100000 in
set_option maxHeartbeats 8000000 in
theorem get_any (L : List Pc) (start : Int) (s0 : 0 ≤ start) (s1 : start < 65536) (s : ByteArray) (hs : s.size ≤ 100000) (hL : ∀ p ∈ L, PcOk p) (hLn : L.length ≤ 1000) (hp : pcsB 10 s = (L.map lnT ++ [lnE start]) ++ [⟨#[]⟩]) (w : World) :
    Calls Tryd.prog 9 #[.string s] w (GetPost L start w.heap.size w) := by
  obtain ⟨n, hnn⟩ : ∃ n, w.heap.size = n := ⟨_, rfl⟩
  rw [hnn]
  have CS := Lib.hid (fun u => splitSeq_any s ⟨#[10]⟩ u)
  have CR := Lib.hid (fun x q u => srRead2_any x u q)
  have HLn := Lib.hid hLn
  have HL := Lib.hid hL
  have HP := Lib.hid hp
  clear hL hp hLn
  refine (callsIn_wide (n := 0)).1 (callsIn_of_wp_marks Tryd.func9 rfl trivial ?_ rfl)
  simp only [Tryd.ntmps9, List.size_toArray, List.length_cons, List.length_nil, Nat.reduceAdd, Nat.reduceSub, Array.replicate_succ, Array.replicate_zero, List.push_toArray, List.append_toArray, List.nil_append, List.cons_append]
  obtain ⟨W0, hW0⟩ : ∃ W0, ((((((((w.alloc (.cells #[.slice none 0 0] 23)).alloc (.cells #[.int .u16 0] 22)).alloc (.cells #[.int .i64 0] 3)).alloc (.cells #[.int .i64 0] 32)).alloc (.cells #[.slice none 0 0] 23)).alloc (.cells #[.int .i64 0] 3)).alloc (.cells #[.string s] 9)).alloc (.cells #[.string ⟨#[10]⟩] 9)).alloc (.cells #[.int .i64 0] 3) = W0 := ⟨_, rfl⟩
  have z0 : W0.heap.size = n + 9 := by rw [← hW0]; simp [hnn]
  gi_wp2_with fail
  refine ⟨trivial, rfl, (callsIn_wide.2 (CS.out _)).mono ?_⟩
  rintro e w1 ⟨rfl, hw1⟩
  gi_wp2_with fail
  clear hw1
  have K0 : Hid (Blk W0 (n) 23 #[.slice none 0 0]) := Lib.hid (by rw [← hW0]; exact Blk.alloc (Blk.alloc (Blk.alloc (Blk.alloc (Blk.alloc (Blk.alloc (Blk.alloc (Blk.alloc (blkAtG hnn _ _) _) _) _) _) _) _) _) _)
  have K1 : Hid (Blk W0 (n + 1) 22 #[.int .u16 0]) := Lib.hid (by rw [← hW0]; exact Blk.alloc (Blk.alloc (Blk.alloc (Blk.alloc (Blk.alloc (Blk.alloc (Blk.alloc (blkAtG (by simp [hnn]) _ _) _) _) _) _) _) _) _)
  have K2 : Hid (Blk W0 (n + 2) 3 #[.int .i64 0]) := Lib.hid (by rw [← hW0]; exact Blk.alloc (Blk.alloc (Blk.alloc (Blk.alloc (Blk.alloc (Blk.alloc (blkAtG (by simp [hnn]) _ _) _) _) _) _) _) _)
  have K3 : Hid (Blk W0 (n + 3) 32 #[.int .i64 0]) := Lib.hid (by rw [← hW0]; exact Blk.alloc (Blk.alloc (Blk.alloc (Blk.alloc (Blk.alloc (blkAtG (by simp [hnn]) _ _) _) _) _) _) _)
  have K4 : Hid (Blk W0 (n + 4) 23 #[.slice none 0 0]) := Lib.hid (by rw [← hW0]; exact Blk.alloc (Blk.alloc (Blk.alloc (Blk.alloc (blkAtG (by simp [hnn]) _ _) _) _) _) _)
  have K5 : Hid (Blk W0 (n + 5) 3 #[.int .i64 0]) := Lib.hid (by rw [← hW0]; exact Blk.alloc (Blk.alloc (Blk.alloc (blkAtG (by simp [hnn]) _ _) _) _) _)
  have K6 : Hid (Blk W0 (n + 6) 9 #[.string s]) := Lib.hid (by rw [← hW0]; exact Blk.alloc (Blk.alloc (blkAtG (by simp [hnn]) _ _) _) _)
  have K7 : Hid (Blk W0 (n + 6 + 1) 9 #[.string ⟨#[10]⟩]) := Lib.hid (by rw [← hW0]; exact Blk.alloc (blkAtG (by simp [hnn]) _ _) _)
  have K8 : Hid (Blk W0 (n + 6 + 2) 3 #[.int .i64 0]) := Lib.hid (by rw [← hW0]; exact blkAtG (by simp [hnn]) _ _)
  have HB : Hid (Below n w W0) := Lib.hid (by rw [← hW0, ← hnn]; exact Below.alloc0 (Below.alloc0 (Below.alloc0 (Below.alloc0 (Below.alloc0 (Below.alloc0 (Below.alloc0 (Below.alloc0 (Below.alloc0 (Below.refl _ _) _) _) _) _) _) _) _) _) _)
  clear hW0
  refine wp_rangeSeq (gf := 89) (b := n + 6) (xs := pcsB 10 s) rfl (enters_of Tryd.func89 (by kernel_rfl) rfl) (by omega) (splitSeq_seq s 10 (n + 6) (fun k => W0.heap[k]?) K6.out K7.out K8.out (by omega)) rfl
    (GtI L n w) (GtIx L start n w) ?hI ?hIx ⟨[], _, Nat.zero_le _, rfl, K0.out, K1.out, K2.out, K3.out, K4.out, K5.out, Els.Own.nil_ _ _, (fun i x p h => by simp at h), HB.out⟩
    (fun x => { tmps := #[.string s, undef, .pointer (some ⟨n, 0, none⟩), .pointer (some ⟨n + 1, 0, none⟩), .pointer (some ⟨n + 1 + 1, 0, none⟩), .pointer (some ⟨n + 1 + 1 + 1, 0, none⟩), .pointer (some ⟨n + 1 + 1 + 1 + 1, 0, none⟩), .pointer (some ⟨n + 1 + 1 + 1 + 1 + 1, 0, none⟩), .string x, undef, undef, .string s, .func (.func 89) #[] #[.pointer (some ⟨n + 1 + 1 + 1 + 1 + 1 + 1 + 1, 0, none⟩), .pointer (some ⟨n + 1 + 1 + 1 + 1 + 1 + 1, 0, none⟩), .pointer (some ⟨n + 1 + 1 + 1 + 1 + 1 + 1 + 2, 0, none⟩)], .string x, undef, undef, undef, undef, undef, undef, undef, undef, undef, undef, undef, undef, undef, undef, undef, undef, undef, undef, undef, undef, undef, undef, undef, undef, undef, undef, undef, undef, undef, undef, undef, undef, undef, undef, undef, undef, undef, undef, undef, undef, undef, undef, undef, undef, undef, undef, undef, undef, undef, undef], defers := [] }) ?assign ?body ?done ?stop
  case hI =>
    rintro pre X Y r h hg hr
    exact h.grown hg (by omega) (by omega)
  case hIx =>
    rintro c pre X Y r h hg hr
    exact h.grown hg (by omega) (by omega)
  case assign =>
    intro l' x W K hK
    gi_wp2
    exact hK
  case body =>
    intro l' pre x rest W hxs hsz hI
    have hxz : x.size ≤ 100000 := by have := pcsB_sz hxs; omega
    rw [HP.out] at hxs
    rw [z0] at hsz
    obtain ⟨R, v, b0, b1, a0, a1, a2, a3, a4, a5, a6, a7, a8⟩ := hI
    have hxe : (∃ p, L[pre.length]? = some p ∧ x = lnT p ∧ PcOk p) ∨ (pre.length = L.length ∧ x = lnE start) := by
      rcases lines_at L start pre x rest hxs with ⟨p, h1, h2⟩ | h | ⟨h, _⟩
      · exact .inl ⟨p, h1, h2, HL.out p (List.mem_of_getElem? h1)⟩
      · exact .inr h
      · omega
    have he : x.size ≠ 0 := by
      intro h0
      obtain rfl : x = ByteArray.empty := ByteArray.size_eq_zero_iff.1 h0
      have hne : (rdLn (nums ByteArray.empty)).e ≠ 0 := by decide
      apply hne
      rcases hxe with ⟨p, _, h2, h3⟩ | ⟨_, h2⟩
      · rw [h2, lnT_read p h3]
      · rw [h2, lnE_read start s0 s1]
    have e0 : x.toList.isEmpty = false := empty_beq x (by omega)
    have hk1 : pre.length ≤ 1000 := by have := HLn.out; omega
    obtain ⟨k, hk⟩ : ∃ k, pre.length = k := ⟨_, rfl⟩
    have HK := Lib.hid hk
    rw [hk] at hk1 a5
    have q5 : W.cell? ⟨n + 1 + 1 + 1 + 1 + 1, 0, none⟩ = some (.int .i64 (k : Int)) := (a5.cell 0).trans rfl
    have f5 := a5.frozen 0
    have hw : IntKind.i64.wrap ((k : Int) + 1) = (k : Int) + 1 := IntWalk.i64_in _ (by omega)
    obtain ⟨Wa, hWa⟩ : ∃ Wa, W.setCell ⟨n + 1 + 1 + 1 + 1 + 1, 0, none⟩ (.int .i64 ((k : Int) + 1)) = Wa := ⟨_, rfl⟩
    have sa : Wa.heap.size = W.heap.size := by rw [← hWa]; simp
    have A0 : Hid (Blk Wa n 23 #[.slice none 0 0]) := Lib.hid (by rw [← hWa]; exact Blk.far a0 (by show n ≠ n + 1 + 1 + 1 + 1 + 1; omega) _)
    have A1 : Hid (Blk Wa (n + 1) 22 #[.int .u16 0]) := Lib.hid (by rw [← hWa]; exact Blk.far a1 (by show n + 1 ≠ n + 1 + 1 + 1 + 1 + 1; omega) _)
    have A2 : Hid (Blk Wa (n + 2) 3 #[.int .i64 0]) := Lib.hid (by rw [← hWa]; exact Blk.far a2 (by show n + 2 ≠ n + 1 + 1 + 1 + 1 + 1; omega) _)
    have A3 : Hid (Blk Wa (n + 3) 32 #[.int .i64 0]) := Lib.hid (by rw [← hWa]; exact Blk.far a3 (by show n + 3 ≠ n + 1 + 1 + 1 + 1 + 1; omega) _)
    have A4 : Hid (Blk Wa (n + 4) 23 #[v]) := Lib.hid (by rw [← hWa]; exact Blk.far a4 (by show n + 4 ≠ n + 1 + 1 + 1 + 1 + 1; omega) _)
    have A5 : Hid (Blk Wa (n + 5) 3 #[.int .i64 ((k : Int) + 1)]) := Lib.hid (by rw [← hWa]; exact Blk.set_ a5 0 _)
    have A6 : Hid (eP4.Own 27 Wa (n + 11) v R) := Lib.hid (by rw [← hWa]; exact a6.grown (grown_cell W (n + 5) 0 _) (.inr fun e => by have := a6.lt _ e; omega))
    have A7 : Hid (∀ (i : Nat) (x : PvV) (p : Pc), R[i]? = some x → L[i]? = some p → ByIn Wa (n + 11) v x p) := Lib.hid (fun i x p q1 q2 => by rw [← hWa]; exact (a7 i x p q1 q2).grown (grown_cell W (n + 5) 0 _) (by omega))
    have A8 : Hid (Below n w Wa) := Lib.hid (by rw [← hWa]; exact Below.set0 a8 (by omega) _)
    have XA : Hid (∀ j, j ≠ n + 5 → Wa.heap[j]? = W.heap[j]?) := Lib.hid (fun j hj => by rw [← hWa]; exact Below.heap_setCell _ _ _ j (by show j ≠ n + 1 + 1 + 1 + 1 + 1; omega))
    obtain ⟨Av, cv, hv, -⟩ := A6.out.rd.open_
    obtain ⟨Mv, hMv⟩ : ∃ M, R.length = M := ⟨_, rfl⟩
    rw [hMv] at hv
    subst hv
    clear hMv
    have HXZ := Lib.hid hxz
    have HB1 := Lib.hid b1
    clear hxs a0 a1 a2 a3 a4 a5 a6 a7 a8 he hxz b1 b0
    rcases hxe with ⟨p, hp, hx, hpk⟩ | ⟨hpl, hx⟩
    · have hr : rdLn (nums x) = ⟨1, p.1, p.2, 0⟩ := by rw [hx]; exact lnT_read p hpk
      have CRx := CR.out x (by have := HXZ.out; omega) Wa
      rw [hr] at CRx
      rw [hk] at hp
      have HP2 := Lib.hid hp
      have HPK := Lib.hid hpk
      have CRy := Lib.hid CRx
      clear CR hr hx hp hpk CRx hk
      gi_wp2_with fail
      refine ⟨trivial, rfl, (CallsIn.inRound l' (callsIn_wide.2 CRy.out)).mono ?_⟩
      rintro e W1 ⟨v1, rfl, hnew, hrd, hb1⟩
      obtain ⟨p1, p2⟩ := p
      dsimp only at hrd ⊢
      obtain ⟨k1, k2, k3, k4, k5, k6⟩ := HPK.out
      dsimp only at k1 k2 k3 k4 k5 k6
      obtain ⟨Ab, cb, hvb, hab⟩ := rdY_open hrd
      obtain ⟨gb, ob, rfl, hgb, -⟩ := hab k4
      obtain ⟨m, hm⟩ : ∃ m, p2.length = m := ⟨_, rfl⟩
      rw [hm] at hvb k4 k5 k6
      subst hvb
      have HM := Lib.hid hm
      have HN : Hid (Wa.heap.size ≤ gb) := Lib.hid (hnew _ _ _ rfl)
      have hz1 := hb1.size
      obtain ⟨g, hg⟩ : ∃ g, W1.heap.size = g := ⟨_, rfl⟩
      obtain ⟨V2, hV2⟩ : ∃ V2, W1.alloc (Obj.cells #[.int .i64 0, .int .u16 0, .slice none 0 0] 83) = V2 := ⟨_, rfl⟩
      have PZ : Hid (Blk V2 g 83 #[.int .i64 0, .int .u16 0, .slice none 0 0]) := Lib.hid (by rw [← hV2, ← hg]; exact Blk.new _ _ _ _)
      have XV : Hid (∀ j, j < Wa.heap.size → V2.heap[j]? = Wa.heap[j]?) := Lib.hid (fun j hj => by rw [← hV2]; exact (Below.heap_alloc _ _ j (by omega)).trans (hb1.block j hj))
      have BV : Hid (Below n w V2) := Lib.hid (by rw [← hV2]; exact (A8.out.trans (hb1.mono (by omega))).trans ((Below.alloc0 (Below.refl _ _) _).mono (by omega)))
      have OV : Hid (eP4.Own 27 V2 (n + 11) (.slice Av Mv cv) R) := Lib.hid (by rw [← hV2]; exact (A6.out.below hb1).alloc _)
      have RV : Hid (eY.Rd V2 (.slice (some ⟨gb, ob, none⟩) m cb) p2) := Lib.hid (by rw [← hV2]; exact rdY_grown hrd (grown_alloc W1 _ (some g)) (fun a ha => by injection ha with ha; subst ha; show gb ≠ g; omega))
      have G4 : Hid (∀ r, (Value.slice Av Mv cv).ownBlock = some r → r < W.heap.size) := Lib.hid (fun r e => by have := A6.out.lt r e; omega)
      have L2 : Hid (n + 11 ≤ g ∧ gb < g ∧ Wa.heap.size ≤ g) := Lib.hid (by omega)
      have z := PZ.out.c3
      have fz := PZ.out.fr3
      obtain ⟨W2, hW2⟩ : ∃ W2, ((V2.setCell ⟨g, 0, none⟩ (.int .i64 1)).setCell ⟨g, 1, none⟩ (.int .u16 p1)).setCell ⟨g, 2, none⟩ (.slice (some ⟨gb, ob, none⟩) m cb) = W2 := ⟨_, rfl⟩
      have P2 : Hid (Blk W2 g 83 #[.int .i64 1, .int .u16 p1, .slice (some ⟨gb, ob, none⟩) m cb]) := Lib.hid (by rw [← hW2]; exact Blk.set3 PZ.out)
      have X2 : Hid (∀ j, j < Wa.heap.size → W2.heap[j]? = Wa.heap[j]?) := Lib.hid (fun j hj => by rw [← hW2]; exact (Below.heap_setCell _ _ _ j (by show j ≠ g; omega)).trans ((Below.heap_setCell _ _ _ j (by show j ≠ g; omega)).trans ((Below.heap_setCell _ _ _ j (by show j ≠ g; omega)).trans (XV.out j hj))))
      have B2 : Hid (Below n w W2) := Lib.hid (by rw [← hW2]; exact Below.set0 (Below.set0 (Below.set0 BV.out (by omega) _) (by omega) _) (by omega) _)
      have G4' : Hid ((Value.slice Av Mv cv).ownBlock ≠ some g) := Lib.hid (fun e => by have := G4.out g e; omega)
      have K4 : Hid (eP4.Own 27 W2 (n + 11) (.slice Av Mv cv) R) := Lib.hid (by rw [← hW2]; exact ((OV.out.grown (grown_cell _ g 0 _) (.inr G4'.out)).grown (grown_cell _ g 1 _) (.inr G4'.out)).grown (grown_cell _ g 2 _) (.inr G4'.out))
      have R2 : Hid (eY.Rd W2 (.slice (some ⟨gb, ob, none⟩) m cb) p2) := Lib.hid (by rw [← hW2]; exact rdY_grown (rdY_grown (rdY_grown RV.out (grown_cell _ g 0 _) (fun a ha => by injection ha with ha; subst ha; show gb ≠ g; omega)) (grown_cell _ g 1 _) (fun a ha => by injection ha with ha; subst ha; show gb ≠ g; omega)) (grown_cell _ g 2 _) (fun a ha => by injection ha with ha; subst ha; show gb ≠ g; omega))
      have K0' : Hid (Blk W2 n 23 #[.slice none 0 0]) := Lib.hid ((X2.out n (by omega)).trans A0.out)
      have K1' : Hid (Blk W2 (n + 1) 22 #[.int .u16 0]) := Lib.hid ((X2.out _ (by omega)).trans A1.out)
      have K2' : Hid (Blk W2 (n + 2) 3 #[.int .i64 0]) := Lib.hid ((X2.out _ (by omega)).trans A2.out)
      have K3' : Hid (Blk W2 (n + 3) 32 #[.int .i64 0]) := Lib.hid ((X2.out _ (by omega)).trans A3.out)
      have K4' : Hid (Blk W2 (n + 4) 23 #[.slice Av Mv cv]) := Lib.hid ((X2.out _ (by omega)).trans A4.out)
      have K5' : Hid (Blk W2 (n + 5) 3 #[.int .i64 ((k : Int) + 1)]) := Lib.hid ((X2.out _ (by omega)).trans A5.out)
      have q4 : W2.cell? ⟨n + 1 + 1 + 1 + 1, 0, none⟩ = some (.slice Av Mv cv) := (K4'.out.cell 0).trans rfl
      have u2 := P2.out.c3
      have LP := Lib.hid P2.out.lt
      clear hb1 hz1 hnew hrd
      have HR1 : Hid (R.length = k) := Lib.hid (by rw [HB1.out, HK.out])
      gi_wp2_with (refine wpListIn_appPc rfl _ (.tmp 55) (.tmp 61) rfl (n + 11) _ R [((p1, some ⟨gb, ob, none⟩, m, cb) : PvV)] rfl (K4.out.alloc _) ⟨W2.heap.size, 0, none⟩ 1 1 rfl rfl (litPc W2 (p1, some ⟨gb, ob, none⟩, m, cb)) (by have := HR1.out; show R.length + 1 ≤ 1000000; omega) (by rw [World.size_alloc]; have := LP.out; have := L2.out; omega) ?_; intro v5 w6 ho hb6 hg6 hv6; have KK := Lib.hid (Blk.below (Blk.alloc K4'.out (Obj.cells #[.int .u16 p1, .slice (some ⟨gb, ob, none⟩) m cb] 27)) hb6 (by omega)); have q5' : w6.cell? ⟨n + 1 + 1 + 1 + 1, 0, none⟩ = some (.slice Av Mv cv) := (KK.out.cell 0).trans rfl; have f5' : w6.frozen? ⟨n + 1 + 1 + 1 + 1, 0, none⟩ = false := KK.out.frozen 0; obtain ⟨A5', c5', hv5, -⟩ := ho.rd.open_; obtain ⟨M5, hM5⟩ : ∃ M5, (R ++ [((p1, some ⟨gb, ob, none⟩, m, cb) : PvV)]).length = M5 := ⟨_, rfl⟩; rw [hM5] at hv5; subst hv5; clear hM5)
      obtain ⟨W7, hW7⟩ : ∃ W7, w6.setCell ⟨n + 1 + 1 + 1 + 1, 0, none⟩ (.slice A5' M5 c5') = W7 := ⟨_, rfl⟩
      have hsz6 := hg6.size
      rw [World.size_alloc] at hsz6
      have s7 : W7.heap.size = w6.heap.size := by rw [← hW7]; simp
      have lp := LP.out
      have l2 := L2.out
      have hr1 := HR1.out
      have kl : k < L.length := by
        rcases Nat.lt_or_ge k L.length with h | h
        · exact h
        · have := HP2.out; rw [List.getElem?_eq_none h] at this; cases this
      have X7 : ∀ j, j ≠ n + 4 → j < W2.heap.size → (Value.slice Av Mv cv).ownBlock ≠ some j → W7.heap[j]? = W2.heap[j]? := fun j h1 h2 h3 => by
        rw [← hW7]
        exact (Below.heap_setCell _ _ _ j (by show j ≠ n + 1 + 1 + 1 + 1; omega)).trans ((hg6.block j (by rw [World.size_alloc]; omega) (fun e => h3 e.symm)).trans (Below.heap_alloc _ _ j h2))
      have nv : ∀ j, j < n + 11 → (Value.slice Av Mv cv).ownBlock ≠ some j := fun j hj e => by have := (A6.out.lt j e).1; omega
      have lp2 : (pre ++ [x]).length = k + 1 := by rw [List.length_append, HK.out]; rfl
      have hv5 : (Value.slice A5' M5 c5').ownBlock = (Value.slice Av Mv cv).ownBlock ∨ ∃ r, (Value.slice A5' M5 c5').ownBlock = some r ∧ W2.heap.size ≤ r := by
        rcases hv6 with h | h
        · exact .inl h
        · exact .inr ⟨_, h, by rw [World.size_alloc]; omega⟩
      have O7 : eP4.Own 27 W7 (n + 11) (.slice A5' M5 c5') (R ++ [((p1, some ⟨gb, ob, none⟩, m, cb) : PvV)]) := by rw [← hW7]; exact ho.grown (grown_cell _ _ _ _) (.inr fun e => by have := (ho.lt _ e).1; omega)
      have B7 : Below n w W7 := by
        rw [← hW7]
        exact Below.set0 (((B2.out.trans ((Below.alloc0 (Below.refl _ _) _).mono (by omega)))).trans (hb6.mono (by omega))) (by omega) _
      have N4 : Blk W7 (n + 4) 23 #[.slice A5' M5 c5'] := by rw [← hW7]; exact Blk.set_ KK.out 0 _
      rw [hW7]
      refine ⟨fun j hj => (X7 j (by omega) (by omega) (nv j (by omega))).trans ((X2.out j (by omega)).trans (XA.out j (by omega))), R ++ [((p1, some ⟨gb, ob, none⟩, m, cb) : PvV)], _, by rw [lp2]; omega, by rw [lp2, List.length_append, hr1]; rfl, (X7 n (by omega) (by omega) (nv _ (by omega))).trans K0'.out, (X7 _ (by omega) (by omega) (nv _ (by omega))).trans K1'.out, (X7 _ (by omega) (by omega) (nv _ (by omega))).trans K2'.out, (X7 _ (by omega) (by omega) (nv _ (by omega))).trans K3'.out, N4, by rw [lp2]; exact (X7 _ (by omega) (by omega) (nv _ (by omega))).trans K5'.out, O7, fun i xx pp q1 q2 => ?_, B7⟩
      rcases Nat.lt_or_ge i R.length with hi | hi
      · rw [List.getElem?_append_left hi] at q1
        refine (A7.out i xx pp q1 q2).step (by omega) (fun j h1 h2 h3 => (X7 j (by omega) (by omega) h3).trans (X2.out j h2)) ?_
        rcases hv5 with h | ⟨r, h, h'⟩
        · exact .inl h
        · exact .inr ⟨r, h, by omega⟩
      · have hlt : i < (R ++ [((p1, some ⟨gb, ob, none⟩, m, cb) : PvV)]).length := by
          rcases Nat.lt_or_ge i (R ++ [((p1, some ⟨gb, ob, none⟩, m, cb) : PvV)]).length with h | h
          · exact h
          · rw [List.getElem?_eq_none h] at q1; cases q1
        rw [List.length_append] at hlt
        have hi2 : i = k := by have : i < R.length + 1 := hlt; omega
        subst hi2
        rw [List.getElem?_append_right hi, hr1, Nat.sub_self] at q1
        obtain rfl : ((p1, some ⟨gb, ob, none⟩, m, cb) : PvV) = xx := Option.some.inj q1
        obtain rfl : (p1, p2) = pp := Option.some.inj (HP2.out.symm.trans q2)
        have HV : ByIn W2 (n + 11) (.slice Av Mv cv) ((p1, some ⟨gb, ob, none⟩, m, cb) : PvV) (p1, p2) := ⟨rfl, HM.out.symm, R2.out, fun a ha => by
          have ha : some (⟨gb, ob, none⟩ : Addr) = some a := ha
          injection ha with ha
          subst ha
          have := HN.out
          exact ⟨by show n + 11 ≤ gb; omega, by show gb < _; omega, fun e => by have := G4.out gb e; omega⟩⟩
        exact HV.step (by omega) (fun j h1 h2 h3 => X7 j (by omega) h2 h3) hv5
    · have hr : rdLn (nums x) = ⟨9, start, [], 0⟩ := by rw [hx]; exact lnE_read start s0 s1
      have CRx := CR.out x (by have := HXZ.out; omega) Wa
      rw [hr] at CRx
      have CRy := Lib.hid CRx
      have HPL := Lib.hid hpl
      clear CR hr hx CRx hk hpl
      gi_wp2_with fail
      refine ⟨trivial, rfl, (CallsIn.inRound l' (callsIn_wide.2 CRy.out)).mono ?_⟩
      rintro e W1 ⟨v1, rfl, hnew, hrd, hb1⟩
      dsimp only at hrd ⊢
      obtain ⟨Ab, cb, hvb, hab⟩ := rdY_open hrd
      rw [List.length_nil] at hvb
      subst hvb
      have hz1 := hb1.size
      obtain ⟨g, hg⟩ : ∃ g, W1.heap.size = g := ⟨_, rfl⟩
      obtain ⟨V2, hV2⟩ : ∃ V2, W1.alloc (Obj.cells #[.int .i64 0, .int .u16 0, .slice none 0 0] 83) = V2 := ⟨_, rfl⟩
      have PZ : Hid (Blk V2 g 83 #[.int .i64 0, .int .u16 0, .slice none 0 0]) := Lib.hid (by rw [← hV2, ← hg]; exact Blk.new _ _ _ _)
      have XV : Hid (∀ j, j < Wa.heap.size → V2.heap[j]? = Wa.heap[j]?) := Lib.hid (fun j hj => by rw [← hV2]; exact (Below.heap_alloc _ _ j (by omega)).trans (hb1.block j hj))
      have BV : Hid (Below n w V2) := Lib.hid (by rw [← hV2]; exact (A8.out.trans (hb1.mono (by omega))).trans ((Below.alloc0 (Below.refl _ _) _).mono (by omega)))
      have OV : Hid (eP4.Own 27 V2 (n + 11) (.slice Av Mv cv) R) := Lib.hid (by rw [← hV2]; exact (A6.out.below hb1).alloc _)
      have G4 : Hid (∀ r, (Value.slice Av Mv cv).ownBlock = some r → r < W.heap.size) := Lib.hid (fun r e => by have := A6.out.lt r e; omega)
      have L2 : Hid (n + 11 ≤ g ∧ Wa.heap.size ≤ g) := Lib.hid (by omega)
      have z := PZ.out.c3
      have fz := PZ.out.fr3
      obtain ⟨W2, hW2⟩ : ∃ W2, ((V2.setCell ⟨g, 0, none⟩ (.int .i64 9)).setCell ⟨g, 1, none⟩ (.int .u16 start)).setCell ⟨g, 2, none⟩ (.slice Ab 0 cb) = W2 := ⟨_, rfl⟩
      have P2 : Hid (Blk W2 g 83 #[.int .i64 9, .int .u16 start, .slice Ab 0 cb]) := Lib.hid (by rw [← hW2]; exact Blk.set3 PZ.out)
      have X2 : Hid (∀ j, j < Wa.heap.size → W2.heap[j]? = Wa.heap[j]?) := Lib.hid (fun j hj => by rw [← hW2]; exact (Below.heap_setCell _ _ _ j (by show j ≠ g; omega)).trans ((Below.heap_setCell _ _ _ j (by show j ≠ g; omega)).trans ((Below.heap_setCell _ _ _ j (by show j ≠ g; omega)).trans (XV.out j hj))))
      have B2 : Hid (Below n w W2) := Lib.hid (by rw [← hW2]; exact Below.set0 (Below.set0 (Below.set0 BV.out (by omega) _) (by omega) _) (by omega) _)
      have G4' : Hid ((Value.slice Av Mv cv).ownBlock ≠ some g) := Lib.hid (fun e => by have := G4.out g e; omega)
      have K4 : Hid (eP4.Own 27 W2 (n + 11) (.slice Av Mv cv) R) := Lib.hid (by rw [← hW2]; exact ((OV.out.grown (grown_cell _ g 0 _) (.inr G4'.out)).grown (grown_cell _ g 1 _) (.inr G4'.out)).grown (grown_cell _ g 2 _) (.inr G4'.out))
      have K0' : Hid (Blk W2 n 23 #[.slice none 0 0]) := Lib.hid ((X2.out n (by omega)).trans A0.out)
      have K1' : Hid (Blk W2 (n + 1) 22 #[.int .u16 0]) := Lib.hid ((X2.out _ (by omega)).trans A1.out)
      have K2' : Hid (Blk W2 (n + 2) 3 #[.int .i64 0]) := Lib.hid ((X2.out _ (by omega)).trans A2.out)
      have K3' : Hid (Blk W2 (n + 3) 32 #[.int .i64 0]) := Lib.hid ((X2.out _ (by omega)).trans A3.out)
      have K4' : Hid (Blk W2 (n + 4) 23 #[.slice Av Mv cv]) := Lib.hid ((X2.out _ (by omega)).trans A4.out)
      have K5' : Hid (Blk W2 (n + 5) 3 #[.int .i64 ((k : Int) + 1)]) := Lib.hid ((X2.out _ (by omega)).trans A5.out)
      have q4 : W2.cell? ⟨n + 1 + 1 + 1 + 1, 0, none⟩ = some (.slice Av Mv cv) := (K4'.out.cell 0).trans rfl
      have u2 := P2.out.c3
      have LP := Lib.hid P2.out.lt
      have q0 : W2.cell? ⟨n, 0, none⟩ = some (.slice none 0 0) := (K0'.out.cell 0).trans rfl
      have q1 : W2.cell? ⟨n + 1, 0, none⟩ = some (.int .u16 0) := (K1'.out.cell 0).trans rfl
      have q2 : W2.cell? ⟨n + 1 + 1, 0, none⟩ = some (.int .i64 0) := (K2'.out.cell 0).trans rfl
      have q3 : W2.cell? ⟨n + 1 + 1 + 1, 0, none⟩ = some (.int .i64 0) := (K3'.out.cell 0).trans rfl
      have f0 : W2.frozen? ⟨n, 0, none⟩ = false := K0'.out.frozen 0
      have f1 : W2.frozen? ⟨n + 1, 0, none⟩ = false := K1'.out.frozen 0
      have f2 : W2.frozen? ⟨n + 1 + 1, 0, none⟩ = false := K2'.out.frozen 0
      have f3 : W2.frozen? ⟨n + 1 + 1 + 1, 0, none⟩ = false := K3'.out.frozen 0
      clear hb1 hz1 hnew hrd
      have HR1 : Hid (R.length = L.length) := Lib.hid (by rw [HB1.out, HPL.out])
      obtain ⟨W8, hW8⟩ : ∃ W8, ((((W2.setCell ⟨n, 0, none⟩ (.slice Av Mv cv)).setCell ⟨n + 1, 0, none⟩ (.int .u16 start)).setCell ⟨n + 1 + 1, 0, none⟩ (.int .i64 0)).setCell ⟨n + 1 + 1 + 1, 0, none⟩ (.int .i64 0)).drew = W8 := ⟨_, rfl⟩
      have lp := P2.out.lt
      have l2 := L2.out
      have X8 : Hid (∀ j, n + 3 < j → W8.heap[j]? = W2.heap[j]?) := Lib.hid (fun j hj => by
        rw [← hW8]
        exact (Below.heap_setCell _ _ _ j (by show j ≠ n + 1 + 1 + 1; omega)).trans ((Below.heap_setCell _ _ _ j (by show j ≠ n + 1 + 1; omega)).trans ((Below.heap_setCell _ _ _ j (by show j ≠ n + 1; omega)).trans (Below.heap_setCell _ _ _ j (by show j ≠ n; omega)))))
      have S8 : W8.heap.size = W2.heap.size := by rw [← hW8]; simp
      have B8 : Hid (Below n w W8) := Lib.hid (by
        rw [← hW8]
        have b := Below.set0 (g := n + 1 + 1 + 1) (i := 0) (Below.set0 (g := n + 1 + 1) (i := 0) (Below.set0 (g := n + 1) (i := 0) (Below.set0 (g := n) (i := 0) B2.out (Nat.le_refl _) (.slice Av Mv cv)) (by omega) (.int .u16 start)) (by omega) (.int .i64 0)) (by omega) (.int .i64 0)
        exact ⟨b.os, b.tape, b.output, b.size, b.block⟩)
      have N0 : Hid (Blk W8 n 23 #[.slice Av Mv cv]) := Lib.hid (by rw [← hW8]; apply Blk.drew; exact Blk.far (Blk.far (Blk.far (Blk.set_ (show Blk W2 n _ _ from K0'.out) 0 _) (by show n ≠ n + 1; omega) _) (by show n ≠ n + 1 + 1; omega) _) (by show n ≠ n + 1 + 1 + 1; omega) _)
      have N1 : Hid (Blk W8 (n + 1) 22 #[.int .u16 start]) := Lib.hid (by rw [← hW8]; apply Blk.drew; exact Blk.far (Blk.far (Blk.set_ (Blk.far (show Blk W2 (n + 1) _ _ from K1'.out) (by show n + 1 ≠ n; omega) _) 0 _) (by show n + 1 ≠ n + 1 + 1; omega) _) (by show n + 1 ≠ n + 1 + 1 + 1; omega) _)
      have N2 : Hid (Blk W8 (n + 2) 3 #[.int .i64 0]) := Lib.hid (by rw [← hW8]; apply Blk.drew; exact Blk.far (Blk.set_ (Blk.far (Blk.far (show Blk W2 (n + 2) _ _ from K2'.out) (by show n + 2 ≠ n; omega) _) (by show n + 2 ≠ n + 1; omega) _) 0 _) (by show n + 2 ≠ n + 1 + 1 + 1; omega) _)
      have N3 : Hid (Blk W8 (n + 3) 32 #[.int .i64 0]) := Lib.hid (by rw [← hW8]; apply Blk.drew; exact Blk.set_ (Blk.far (Blk.far (Blk.far (show Blk W2 (n + 3) _ _ from K3'.out) (by show n + 3 ≠ n; omega) _) (by show n + 3 ≠ n + 1; omega) _) (by show n + 3 ≠ n + 1 + 1; omega) _) 0 _)
      have O8 : Hid (eP4.Own 27 W8 (n + 11) (.slice Av Mv cv) R) := Lib.hid (by
        have nv : ∀ j, j < n + 11 → (Value.slice Av Mv cv).ownBlock ≠ some j := fun j hj e => by have := (A6.out.lt j e).1; omega
        rw [← hW8]
        exact Els.Own.drew ((((K4.out.grown (grown_cell _ n 0 _) (.inr (nv _ (by omega)))).grown (grown_cell _ (n + 1) 0 _) (.inr (nv _ (by omega)))).grown (grown_cell _ (n + 1 + 1) 0 _) (.inr (nv _ (by omega)))).grown (grown_cell _ (n + 1 + 1 + 1) 0 _) (.inr (nv _ (by omega)))))
      have IX : Hid (GtIx L start n w .ret (pre ++ [x]) W8) := Lib.hid ⟨rfl, R, _, HR1.out, N0.out, N1.out, N2.out, N3.out, O8.out, fun i xx pp q1 q2 => (A7.out i xx pp q1 q2).step (by omega) (fun j h1 h2 h3 => (X8.out j (by omega)).trans (X2.out j h2)) (.inl rfl), B8.out⟩
      have SM : Hid (∀ j, n + 6 ≤ j → j < W.heap.size → W8.heap[j]? = W.heap[j]?) := Lib.hid (fun j h1 h2 => (X8.out j (by omega)).trans ((X2.out j (by omega)).trans (XA.out j (by omega))))
      clear N0 N1 N2 N3 O8 B8 lp S8
      gi_wp2_with fail
      gi_region
      all_goals gi_wp2
      all_goals (try rw [hW8])
      all_goals exact ⟨fun j h1 => SM.out j (by omega) (by omega), IX.out⟩
  case done =>
    intro W hI hK
    obtain ⟨R, v, b0, _⟩ := hI
    rw [HP.out] at b0
    simp at b0
    omega
  case stop =>
    intro c' pre rest W hxs hIx hK
    obtain ⟨rfl, R, v, r0, a0, a1, a2, a3, a6, a7, a8⟩ := hIx
    obtain ⟨A, c, hv, -⟩ := a6.rd.open_
    gi_wp2
    refine ⟨by simp, .inl ⟨_, _, rfl, run_takeDeferred hK, ?_⟩⟩
    have G6 : eP4.Own 27 (W.putObj W0.heap.size (.deferred none)) (n + 11) v R := a6.grown (grown_put _ _ _) (.inr fun e => by have := a6.lt _ e; omega)
    refine ⟨_, resGet _ _ n v start 0 0 (Blk.grown a0 (grown_put _ _ _) (by simp; omega)) (Blk.grown a1 (grown_put _ _ _) (by simp; omega)) (Blk.grown a2 (grown_put _ _ _) (by simp; omega)) (Blk.grown a3 (grown_put _ _ _) (by simp; omega)) ⟨_, _, _, hv⟩ rfl rfl rfl rfl, v, rfl, ⟨R, G6.rd, r0, fun i x p q1 q2 => ?_⟩, a8.grown (grown_put _ _ _) (by have := a0.lt; omega) (fun g hg => by injection hg with hg; omega)⟩
    have hpk := HL.out p (List.mem_of_getElem? q2)
    obtain ⟨r1, r2, r3, -⟩ := (a7 i x p q1 q2).grown (grown_put W W0.heap.size (.deferred none)) (by omega)
    exact ⟨r1, hpk.1, hpk.2.1, r3, r2, hpk.2.2.1, fun h => by cases h⟩
end Go.Proofs.YtnmgjgeniaheoabDoor
