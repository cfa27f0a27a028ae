/- Contracts: lexer.All, the parts of any text's lines. -/
import Derived.Test.YtmdpgekbiohfbaaDoorLxG
namespace Go.Proofs.YtmdpgekbiohfbaaDoor
open Go.ChangeShapes Go.WideShapes Go.ChangeAt Go.RowKit
set_option linter.unusedVariables false

/-- What All answers: the lines' parts; or which one is wrong. -/
def AllPost (P : List (List UInt8)) (n : Nat) (w : World) (e : Ending) (w' : World) : Prop :=
  Below n w w' ∧ ((badAt P = none ∧ ∃ v, e = .returned (.tuple #[v, .int .i64 0, .int .i64 0]) ∧ eL3.Rd w' v (P.map lxCut)) ∨
    ∃ i : Nat, badAt P = some i ∧ e = .returned (.tuple #[.slice none 0 0, .int .i64 ((i : Int) + 1), .int .i64 40]))
attribute [local go_sem] Oper.semAt_some
set_option maxRecDepth 100000 in
set_option maxHeartbeats 8000000 in
theorem lxAll_any (l : List UInt8) (hl : l.length ≤ 1000) (w : World) (hM : MxL w) : Calls Tryd.prog 11 #[.string (mkS l)] w (AllPost (pcz 10 [] l) w.heap.size w) := by
  obtain ⟨n, hnn⟩ : ∃ n, w.heap.size = n := ⟨_, rfl⟩
  rw [hnn]
  have CS := Lib.hid (fun u => splitSeq_any (mkS l) ⟨#[10]⟩ u)
  have MG : Hid (∀ u, Below n w u → MxL u) := Lib.hid (fun u hu => hM.below (by rw [hnn]; exact hu))
  have HPl := Lib.hid (fun q hq => pcz_piece 10 l [] q hq)
  have HPn := Lib.hid (pcz_len 10 l [])
  have HP := Lib.hid (pcsB_pcz 10 l)
  have hz : (mkS l).size ≤ 1000000000 := by rw [mkS_size]; omega
  obtain ⟨P, hPP⟩ : ∃ P, pcz 10 [] l = P := ⟨_, rfl⟩
  rw [hPP] at HPl HPn HP ⊢
  have HLl := Lib.hid hl
  obtain ⟨s, hs⟩ : ∃ s, mkS l = s := ⟨_, rfl⟩
  rw [hs] at CS HP hz ⊢
  clear hPP hs hM
  refine (callsIn_wide (n := 0)).1 (callsIn_of_wp_marks Tryd.func11 rfl trivial ?_ rfl)
  simp only [Tryd.ntmps11, List.size_toArray, List.length_cons, List.length_nil, Nat.reduceAdd, Nat.reduceSub, Array.replicate_succ, Array.replicate_zero, List.push_toArray, List.append_toArray, List.nil_append, List.cons_append]
  obtain ⟨W0, hW0⟩ : ∃ W0, ((((((w.alloc (.cells #[.slice none 0 0] 35)).alloc (.cells #[.int .i64 0] 3)).alloc (.cells #[.int .i64 0] 24)).alloc (.cells #[.slice none 0 0] 35)).alloc (.cells #[.string s] 9)).alloc (.cells #[.string ⟨#[10]⟩] 9)).alloc (.cells #[.int .i64 0] 3) = W0 := ⟨_, rfl⟩
  have z0 : W0.heap.size = n + 7 := by rw [← hW0]; simp [hnn]
  gi_wp2_with fail
  refine ⟨trivial, rfl, (callsIn_wide.2 (CS.out _)).mono ?_⟩
  rintro e w1 ⟨rfl, hw1⟩
  gi_wp2_with fail
  clear hw1
  have K0 : Hid (Blk W0 n 35 #[.slice none 0 0]) := Lib.hid (by rw [← hW0]; exact Blk.alloc (Blk.alloc (Blk.alloc (Blk.alloc (Blk.alloc (Blk.alloc (blkAtH hnn _ _) _) _) _) _) _) _)
  have K1 : Hid (Blk W0 (n + 1) 3 #[.int .i64 0]) := Lib.hid (by rw [← hW0]; exact Blk.alloc (Blk.alloc (Blk.alloc (Blk.alloc (Blk.alloc (blkAtH (by simp [hnn]) _ _) _) _) _) _) _)
  have K2 : Hid (Blk W0 (n + 2) 24 #[.int .i64 0]) := Lib.hid (by rw [← hW0]; exact Blk.alloc (Blk.alloc (Blk.alloc (Blk.alloc (blkAtH (by simp [hnn]) _ _) _) _) _) _)
  have K3 : Hid (Blk W0 (n + 3) 35 #[.slice none 0 0]) := Lib.hid (by rw [← hW0]; exact Blk.alloc (Blk.alloc (Blk.alloc (blkAtH (by simp [hnn]) _ _) _) _) _)
  have K6 : Hid (Blk W0 (n + 4) 9 #[.string s]) := Lib.hid (by rw [← hW0]; exact Blk.alloc (Blk.alloc (blkAtH (by simp [hnn]) _ _) _) _)
  have K7 : Hid (Blk W0 (n + 4 + 1) 9 #[.string ⟨#[10]⟩]) := Lib.hid (by rw [← hW0]; exact Blk.alloc (blkAtH (by simp [hnn]) _ _) _)
  have K8 : Hid (Blk W0 (n + 4 + 2) 3 #[.int .i64 0]) := Lib.hid (by rw [← hW0]; exact blkAtH (by simp [hnn]) _ _)
  have HB : Hid (Below n w W0) := Lib.hid (by rw [← hW0, ← hnn]; exact Below.alloc0 (Below.alloc0 (Below.alloc0 (Below.alloc0 (Below.alloc0 (Below.alloc0 (Below.alloc0 (Below.refl _ _) _) _) _) _) _) _) _)
  clear hW0
  refine wp_rangeSeq (gf := 49) (b := n + 4) (xs := pcsB 10 s) rfl (enters_of Tryd.func49 (by kernel_rfl) rfl) (by omega) (splitSeq_seq s 10 (n + 4) (fun k => W0.heap[k]?) K6.out K7.out K8.out hz) rfl
    (LaI P n w) (LaIx P n w) ?hI ?hIx ⟨_, fun q hq => by simp at hq, K0.out, K1.out, K2.out, K3.out, Els.Own.nil_ _ _, HB.out⟩
    (fun x => { tmps := #[.string s, undef, .pointer (some ⟨n, 0, none⟩), .pointer (some ⟨n + 1, 0, none⟩), .pointer (some ⟨n + 1 + 1, 0, none⟩), .pointer (some ⟨n + 1 + 1 + 1, 0, none⟩), .string x, undef, undef, .string s, .func (.func 49) #[] #[.pointer (some ⟨n + 1 + 1 + 1 + 1 + 1, 0, none⟩), .pointer (some ⟨n + 1 + 1 + 1 + 1, 0, none⟩), .pointer (some ⟨n + 1 + 1 + 1 + 1 + 2, 0, none⟩)], .string x, undef, undef, undef, undef, undef, undef, undef, undef, undef, undef, undef, undef, undef, undef, undef, undef], defers := [] }) ?assign ?body ?done ?stop
  case hI =>
    rintro pre X Y r h hg hr
    exact h.grown hg (by omega) (by omega)
  case hIx =>
    rintro c pre X Y r h hg hr
    exact h.grown hg (by omega) (by omega)
  case assign =>
    intro l' x W K hK
    gi_wp2
    exact hK
  case body =>
    intro l' pre x rest W hxs hsz hI
    rw [HP.out] at hxs
    rw [z0] at hsz
    obtain ⟨p, hp, rfl⟩ := piece_at hxs
    obtain ⟨v, b0, a0, a1, a2, a3, a4, a5⟩ := hI
    obtain ⟨k, hk⟩ : ∃ k, pre.length = k := ⟨_, rfl⟩
    have HK := Lib.hid hk
    rw [hk] at hp b0 a4
    have hkP : k < P.length := by
      rcases Nat.lt_or_ge k P.length with h | h
      · exact h
      · rw [List.getElem?_eq_none h] at hp; cases hp
    have hk1 : k ≤ 1001 := by have := HPn.out; have := HLl.out; omega
    have CRx := Lib.hid (lxCut_any p (by have := HPl.out p (List.mem_of_getElem? hp); have := HLl.out; rw [List.length_nil] at *; omega) W (MG.out W a5))
    have hR : ((P.take k).map lxCut).length = k := by rw [List.length_map, List.length_take]; omega
    obtain ⟨Av, cv, hv, -⟩ := a4.rd.open_
    rw [hR] at hv
    subst hv
    have A0 := Lib.hid a0
    have A1 := Lib.hid a1
    have A2 := Lib.hid a2
    have A3 := Lib.hid a3
    have A4 := Lib.hid a4
    have A5 := Lib.hid a5
    have B0 := Lib.hid b0
    have HP2 := Lib.hid hp
    have HR := Lib.hid hR
    have hw : IntKind.i64.wrap ((k : Int) + 1) = (k : Int) + 1 := IntWalk.i64_in _ (by omega)
    have HT : Hid (P.take (k + 1) = P.take k ++ [p]) := Lib.hid (by
      rw [List.take_succ_eq_append_getElem hkP]
      have := (List.getElem?_eq_some_iff.1 hp).2
      rw [this])
    have HNO := Lib.hid (lxCut_no p)
    obtain ⟨Rr, hRr⟩ : ∃ R, lxCut p = R := ⟨_, rfl⟩
    have HRr := Lib.hid hRr
    rw [hRr] at CRx HNO
    clear hxs a0 a1 a2 a3 a4 a5 b0 hp hR hk hRr
    obtain ⟨lab, op, arg, ok⟩ := Rr
    unfold lxV lxA lxE at CRx
    dsimp only at CRx HNO
    cases ok
    case true =>
      simp only [if_true] at CRx
      obtain ⟨SA, hSA⟩ : ∃ S, mkS lab = S := ⟨_, rfl⟩
      obtain ⟨SB, hSB⟩ : ∃ S, mkS op = S := ⟨_, rfl⟩
      obtain ⟨SC, hSC⟩ : ∃ S, mkS arg = S := ⟨_, rfl⟩
      have HSS := Lib.hid (And.intro hSA (And.intro hSB hSC))
      rw [hSA, hSB, hSC] at CRx
      clear hSA hSB hSC
      gi_wp2_with fail
      refine ⟨trivial, rfl, (CallsIn.inRound l' (callsIn_wide.2 CRx.out)).mono ?_⟩
      rintro e W1 ⟨rfl, hb1⟩
      have hz1 := hb1.size
      obtain ⟨g, hg⟩ : ∃ g, W1.heap.size = g := ⟨_, rfl⟩
      obtain ⟨V2, hV2⟩ : ∃ V2, W1.alloc (.cells #[.string SA, .string SB, .string SC] 23) = V2 := ⟨_, rfl⟩
      have P2 : Hid (Blk V2 g 23 #[.string SA, .string SB, .string SC]) := Lib.hid (by rw [← hV2, ← hg]; exact Blk.new _ _ _ _)
      have XV : Hid (∀ j, j < W.heap.size → V2.heap[j]? = W.heap[j]?) := Lib.hid (fun j hj => by rw [← hV2]; exact (Below.heap_alloc _ _ j (by omega)).trans (hb1.block j hj))
      have BV : Hid (Below n w V2) := Lib.hid (by rw [← hV2]; exact (A5.out.trans (hb1.mono (by omega))).trans ((Below.alloc0 (Below.refl _ _) _).mono (by omega)))
      have OV : Hid (eL3.Own 23 V2 (n + 9) (.slice Av k cv) ((P.take k).map lxCut)) := Lib.hid (by rw [← hV2]; exact (A4.out.below hb1).alloc _)
      have L2 : Hid (n + 9 ≤ g ∧ g < V2.heap.size ∧ W.heap.size ≤ V2.heap.size) := Lib.hid ⟨by omega, P2.out.lt, by have := P2.out.lt; omega⟩
      have LIT : Hid (∀ j u, (eL3.cells [(⟨lab, op, arg, true⟩ : Lx)])[j]? = some u → (V2.alloc (.cells #[.string SA, .string SB, .string SC] 23)).cell? ((⟨V2.heap.size, 0, none⟩ : Addr).add j) = some u) := Lib.hid (by
        have h := litL3 V2 ⟨lab, op, arg, true⟩
        dsimp only at h
        rw [HSS.out.1, HSS.out.2.1, HSS.out.2.2] at h
        exact h)
      have K0' : Hid (Blk V2 n 35 #[.slice none 0 0]) := Lib.hid ((XV.out n (by omega)).trans A0.out)
      have K1' : Hid (Blk V2 (n + 1) 3 #[.int .i64 0]) := Lib.hid ((XV.out _ (by omega)).trans A1.out)
      have K2' : Hid (Blk V2 (n + 2) 24 #[.int .i64 0]) := Lib.hid ((XV.out _ (by omega)).trans A2.out)
      have K3' : Hid (Blk V2 (n + 3) 35 #[.slice Av k cv]) := Lib.hid ((XV.out _ (by omega)).trans A3.out)
      have q3 : V2.cell? ⟨n + 1 + 1 + 1, 0, none⟩ = some (.slice Av k cv) := (K3'.out.cell 0).trans rfl
      obtain ⟨u0, u1, u2⟩ := P2.out.c3s
      clear hb1 hz1
      gi_wp2_with (refine wpListIn_appL3 rfl _ (.tmp 23) (.tmp 25) rfl (n + 9) _ ((P.take k).map lxCut) [(⟨lab, op, arg, true⟩ : Lx)] rfl (OV.out.alloc _) ⟨V2.heap.size, 0, none⟩ 1 1 rfl rfl LIT.out (by rw [HR.out]; show k + 1 ≤ 1000000; omega) (by rw [World.size_alloc]; have := L2.out; omega) ?_; intro v5 w6 ho hb6 hg6 hv6; have KK := Lib.hid (Blk.below (Blk.alloc K3'.out (.cells #[.string SA, .string SB, .string SC] 23)) hb6 (by omega)); have q5' : w6.cell? ⟨n + 1 + 1 + 1, 0, none⟩ = some (.slice Av k cv) := (KK.out.cell 0).trans rfl; have f5' : w6.frozen? ⟨n + 1 + 1 + 1, 0, none⟩ = false := KK.out.frozen 0; obtain ⟨A5', c5', hv5, -⟩ := ho.rd.open_; obtain ⟨M5, hM5⟩ : ∃ M5, ((P.take k).map lxCut ++ [(⟨lab, op, arg, true⟩ : Lx)]).length = M5 := ⟨_, rfl⟩; rw [hM5] at hv5; subst hv5; clear hM5)
      obtain ⟨W7, hW7⟩ : ∃ W7, w6.setCell ⟨n + 1 + 1 + 1, 0, none⟩ (.slice A5' M5 c5') = W7 := ⟨_, rfl⟩
      have hsz6 := hg6.size
      rw [World.size_alloc] at hsz6
      have l2 := L2.out
      have X7 : ∀ j, j ≠ n + 3 → j < V2.heap.size → (Value.slice Av k cv).ownBlock ≠ some j → W7.heap[j]? = V2.heap[j]? := fun j h1 h2 h3 => by
        rw [← hW7]
        exact (Below.heap_setCell _ _ _ j (by show j ≠ n + 1 + 1 + 1; omega)).trans ((hg6.block j (by rw [World.size_alloc]; omega) (fun e => h3 e.symm)).trans (Below.heap_alloc _ _ j h2))
      have nv : ∀ j, j < n + 9 → (Value.slice Av k cv).ownBlock ≠ some j := fun j hj e => by have := (A4.out.lt j e).1; omega
      have lp2 : (pre ++ [mkS p]).length = k + 1 := by rw [List.length_append, HK.out]; rfl
      have O7 : eL3.Own 23 W7 (n + 9) (.slice A5' M5 c5') ((P.take (k + 1)).map lxCut) := by
        rw [← hW7, HT.out, List.map_append, show [p].map lxCut = [(⟨lab, op, arg, true⟩ : Lx)] by rw [← HRr.out]; rfl]
        exact ho.grown (grown_cell _ _ _ _) (.inr fun e => by have := (ho.lt _ e).1; omega)
      have B7 : Below n w W7 := by
        rw [← hW7]
        exact Below.set0 (((BV.out.trans ((Below.alloc0 (Below.refl _ _) _).mono (by omega)))).trans (hb6.mono (by omega))) (by omega) _
      have N4 : Blk W7 (n + 3) 35 #[.slice A5' M5 c5'] := by rw [← hW7]; exact Blk.set_ KK.out 0 _
      rw [hW7]
      refine ⟨fun j hj => (X7 j (by omega) (by omega) (nv j (by omega))).trans (XV.out j (by omega)), _, ?_, (X7 n (by omega) (by omega) (nv _ (by omega))).trans K0'.out, (X7 _ (by omega) (by omega) (nv _ (by omega))).trans K1'.out, (X7 _ (by omega) (by omega) (nv _ (by omega))).trans K2'.out, N4, by rw [lp2]; exact O7, B7⟩
      intro q hq
      rw [lp2, HT.out] at hq
      rcases List.mem_append.1 hq with h | h
      · exact B0.out q h
      · have : q = p := by simpa using h
        rw [this, HRr.out]
    case false =>
      simp only [Bool.false_eq_true, if_false] at CRx
      have hn := HNO.out rfl
      unfold lxNo at hn
      injection hn with h1 h2 h3
      subst h1 h2 h3
      have hs0 : mkS [] = ⟨#[]⟩ := rfl
      simp only [hs0] at CRx
      clear hs0
      gi_wp2_with fail
      refine ⟨trivial, rfl, (CallsIn.inRound l' (callsIn_wide.2 CRx.out)).mono ?_⟩
      rintro e W1 ⟨rfl, hb1⟩
      have hz1 := hb1.size
      obtain ⟨g, hg⟩ : ∃ g, W1.heap.size = g := ⟨_, rfl⟩
      gi_wp2_with fail
      obtain ⟨V2, hV2⟩ : ∃ V2, W1.alloc (.cells #[.string ⟨#[]⟩, .string ⟨#[]⟩, .string ⟨#[]⟩] 23) = V2 := ⟨_, rfl⟩
      have P2 : Hid (Blk V2 g 23 #[.string ⟨#[]⟩, .string ⟨#[]⟩, .string ⟨#[]⟩]) := Lib.hid (by rw [← hV2, ← hg]; exact Blk.new _ _ _ _)
      have XV : Hid (∀ j, j < W.heap.size → V2.heap[j]? = W.heap[j]?) := Lib.hid (fun j hj => by rw [← hV2]; exact (Below.heap_alloc _ _ j (by omega)).trans (hb1.block j hj))
      have BV : Hid (Below n w V2) := Lib.hid (by rw [← hV2]; exact (A5.out.trans (hb1.mono (by omega))).trans ((Below.alloc0 (Below.refl _ _) _).mono (by omega)))
      have K0' : Hid (Blk V2 n 35 #[.slice none 0 0]) := Lib.hid ((XV.out n (by omega)).trans A0.out)
      have K1' : Hid (Blk V2 (n + 1) 3 #[.int .i64 0]) := Lib.hid ((XV.out _ (by omega)).trans A1.out)
      have K2' : Hid (Blk V2 (n + 2) 24 #[.int .i64 0]) := Lib.hid ((XV.out _ (by omega)).trans A2.out)
      have K3' : Hid (Blk V2 (n + 3) 35 #[.slice Av k cv]) := Lib.hid ((XV.out _ (by omega)).trans A3.out)
      have q3 : V2.cell? ⟨n + 1 + 1 + 1, 0, none⟩ = some (.slice Av k cv) := (K3'.out.cell 0).trans rfl
      have q0 : V2.cell? ⟨n, 0, none⟩ = some (.slice none 0 0) := (K0'.out.cell 0).trans rfl
      have q1 : V2.cell? ⟨n + 1, 0, none⟩ = some (.int .i64 0) := (K1'.out.cell 0).trans rfl
      have q2 : V2.cell? ⟨n + 1 + 1, 0, none⟩ = some (.int .i64 0) := (K2'.out.cell 0).trans rfl
      have f0 : V2.frozen? ⟨n, 0, none⟩ = false := K0'.out.frozen 0
      have f1 : V2.frozen? ⟨n + 1, 0, none⟩ = false := K1'.out.frozen 0
      have f2 : V2.frozen? ⟨n + 1 + 1, 0, none⟩ = false := K2'.out.frozen 0
      have l2 := P2.out.lt
      rw [hV2]
      clear hV2 hb1
      obtain ⟨W8, hW8⟩ : ∃ W8, (((V2.setCell ⟨n, 0, none⟩ (.slice none 0 0)).setCell ⟨n + 1, 0, none⟩ (.int .i64 ((k : Int) + 1))).setCell ⟨n + 1 + 1, 0, none⟩ (.int .i64 40)).drew = W8 := ⟨_, rfl⟩
      have X8 : Hid (∀ j, n + 2 < j → W8.heap[j]? = V2.heap[j]?) := Lib.hid (fun j hj => by
        rw [← hW8]
        exact (Below.heap_setCell _ _ _ j (by show j ≠ n + 1 + 1; omega)).trans ((Below.heap_setCell _ _ _ j (by show j ≠ n + 1; omega)).trans (Below.heap_setCell _ _ _ j (by show j ≠ n; omega))))
      have B8 : Hid (Below n w W8) := Lib.hid (by
        rw [← hW8]
        exact (Below.set0 (g := n + 1 + 1) (i := 0) (Below.set0 (g := n + 1) (i := 0) (Below.set0 (g := n) (i := 0) BV.out (Nat.le_refl _) (.slice none 0 0)) (by omega) (.int .i64 ((k : Int) + 1))) (by omega) (.int .i64 40)).drew)
      have N0 : Hid (Blk W8 n 35 #[.slice none 0 0]) := Lib.hid (by rw [← hW8]; apply Blk.drew; exact Blk.far (Blk.far (Blk.set_ (show Blk V2 n _ _ from K0'.out) 0 _) (by show n ≠ n + 1; omega) _) (by show n ≠ n + 1 + 1; omega) _)
      have N1 : Hid (Blk W8 (n + 1) 3 #[.int .i64 ((k : Int) + 1)]) := Lib.hid (by rw [← hW8]; apply Blk.drew; exact Blk.far (Blk.set_ (Blk.far (show Blk V2 (n + 1) _ _ from K1'.out) (by show n + 1 ≠ n; omega) _) 0 _) (by show n + 1 ≠ n + 1 + 1; omega) _)
      have N2 : Hid (Blk W8 (n + 2) 24 #[.int .i64 40]) := Lib.hid (by rw [← hW8]; apply Blk.drew; exact Blk.set_ (Blk.far (Blk.far (show Blk V2 (n + 2) _ _ from K2'.out) (by show n + 2 ≠ n; omega) _) (by show n + 2 ≠ n + 1; omega) _) 0 _)
      have IX : Hid (LaIx P n w .ret (pre ++ [mkS p]) W8) := Lib.hid ⟨rfl, k, badAt_some P k p B0.out HP2.out (by rw [HRr.out]), N0.out, N1.out, N2.out, B8.out⟩
      have SM : Hid (∀ j, n + 4 ≤ j → j < W.heap.size → W8.heap[j]? = W.heap[j]?) := Lib.hid (fun j h1 h2 => (X8.out j (by omega)).trans (XV.out j (by omega)))
      clear N0 N1 N2 B8 X8 l2
      gi_region
      all_goals gi_wp2
      all_goals (try rw [hW8])
      all_goals exact ⟨fun j h1 => SM.out j (by omega) (by omega), IX.out⟩
  case done =>
    intro W hI hK
    rw [HP.out] at hI
    obtain ⟨v, b0, a0, a1, a2, a3, a4, a5⟩ := hI
    rw [List.length_map, List.take_length] at b0 a4
    obtain ⟨A, c, hv, -⟩ := a4.rd.open_
    obtain ⟨L, hL⟩ : ∃ L, (P.map lxCut).length = L := ⟨_, rfl⟩
    rw [hL] at hv
    subst hv
    have q3 : W.cell? ⟨n + 1 + 1 + 1, 0, none⟩ = some (.slice A L c) := (a3.cell 0).trans rfl
    have q0 : W.cell? ⟨n, 0, none⟩ = some (.slice none 0 0) := (a0.cell 0).trans rfl
    have q1 : W.cell? ⟨n + 1, 0, none⟩ = some (.int .i64 0) := (a1.cell 0).trans rfl
    have q2 : W.cell? ⟨n + 1 + 1, 0, none⟩ = some (.int .i64 0) := (a2.cell 0).trans rfl
    have f0 : W.frozen? ⟨n, 0, none⟩ = false := a0.frozen 0
    have f1 : W.frozen? ⟨n + 1, 0, none⟩ = false := a1.frozen 0
    have f2 : W.frozen? ⟨n + 1 + 1, 0, none⟩ = false := a2.frozen 0
    have A0 := Lib.hid a0
    have A1 := Lib.hid a1
    have A2 := Lib.hid a2
    have A4 := Lib.hid a4
    have A5 := Lib.hid a5
    have HK := Lib.hid hK
    have E := Lib.hid (badAt_none P b0)
    clear a0 a1 a2 a3 a4 a5 b0 hK hL
    gi_wp2
    obtain ⟨W2, hW2⟩ : ∃ W2, (((W.setCell ⟨n, 0, none⟩ (.slice A L c)).setCell ⟨n + 1, 0, none⟩ (.int .i64 0)).setCell ⟨n + 1 + 1, 0, none⟩ (.int .i64 0)) = W2 := ⟨_, rfl⟩
    have K0 : Hid (Blk W2 n 35 #[.slice A L c]) := Lib.hid (by rw [← hW2]; exact Blk.far (Blk.far (Blk.set_ A0.out 0 _) (by show n ≠ n + 1; omega) _) (by show n ≠ n + 1 + 1; omega) _)
    have K1 : Hid (Blk W2 (n + 1) 3 #[.int .i64 0]) := Lib.hid (by rw [← hW2]; exact Blk.far (Blk.set_ (Blk.far A1.out (by show n + 1 ≠ n; omega) _) 0 _) (by show n + 1 ≠ n + 1 + 1; omega) _)
    have K2 : Hid (Blk W2 (n + 2) 24 #[.int .i64 0]) := Lib.hid (by rw [← hW2]; exact Blk.set_ (Blk.far (Blk.far A2.out (by show n + 2 ≠ n; omega) _) (by show n + 2 ≠ n + 1; omega) _) 0 _)
    have nv : ∀ j, j < n + 9 → (Value.slice A L c).ownBlock ≠ some j := fun j hj e => by have := (A4.out.lt j e).1; omega
    have K4 : Hid (eL3.Own 23 W2 (n + 9) (.slice A L c) (P.map lxCut)) := Lib.hid (by rw [← hW2]; exact ((A4.out.grown (grown_cell _ n 0 _) (.inr (nv _ (by omega)))).grown (grown_cell _ (n + 1) 0 _) (.inr (nv _ (by omega)))).grown (grown_cell _ (n + 1 + 1) 0 _) (.inr (nv _ (by omega))))
    have K5 : Hid (Below n w W2) := Lib.hid (by rw [← hW2]; exact Below.set0 (Below.set0 (Below.set0 A5.out (Nat.le_refl _) _) (by omega) _) (by omega) _)
    have K6 : Hid (W2.heap[W0.heap.size]? = some (.deferred (some []))) := Lib.hid (by rw [← hW2]; exact (Below.heap_setCell _ _ _ _ (by show _ ≠ n + 1 + 1; omega)).trans ((Below.heap_setCell _ _ _ _ (by show _ ≠ n + 1; omega)).trans ((Below.heap_setCell _ _ _ _ (by show _ ≠ n; omega)).trans HK.out)))
    rw [hW2]
    refine ⟨by simp, .inl ⟨_, _, rfl, run_takeDeferred K6.out, ?_⟩⟩
    have G6 : eL3.Own 23 (W2.putObj W0.heap.size (.deferred none)) (n + 9) (.slice A L c) (P.map lxCut) := K4.out.grown (grown_put _ _ _) (.inr fun e => by have := (K4.out.lt _ e).1; omega)
    exact ⟨_, resAll _ _ n (.slice A L c) 0 0 (Blk.grown K0.out (grown_put _ _ _) (by simp; omega)) (Blk.grown K1.out (grown_put _ _ _) (by simp; omega)) (Blk.grown K2.out (grown_put _ _ _) (by simp; omega)) ⟨_, _, _, rfl⟩ rfl rfl rfl, K5.out.grown (grown_put _ _ _) (by have := K0.out.lt; omega) (fun g hg => by injection hg with hg; omega), .inl ⟨E.out, _, rfl, G6.rd⟩⟩
  case stop =>
    intro c' pre rest W hxs hIx hK
    obtain ⟨rfl, i, b0, a0, a1, a2, a5⟩ := hIx
    gi_wp2
    refine ⟨by simp, .inl ⟨_, _, rfl, run_takeDeferred hK, ?_⟩⟩
    exact ⟨_, resAll _ _ n (.slice none 0 0) ((i : Int) + 1) 40 (Blk.grown a0 (grown_put _ _ _) (by simp; omega)) (Blk.grown a1 (grown_put _ _ _) (by simp; omega)) (Blk.grown a2 (grown_put _ _ _) (by simp; omega)) ⟨_, _, _, rfl⟩ rfl rfl rfl, a5.grown (grown_put _ _ _) (by have := a0.lt; omega) (fun g hg => by injection hg with hg; omega), .inr ⟨i, b0, rfl⟩⟩
end Go.Proofs.YtmdpgekbiohfbaaDoor
