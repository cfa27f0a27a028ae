/- Wave: the text of all lines: wave.Text. -/
import Derived.Test.YtpleboogijgdcaaDoorWvN
import Derived.Test.YtpleboogijgdcaaDoorWvS
import Derived.Test.YtpleboogijgdcaaDoorBlb
namespace Go.Proofs.YtpleboogijgdcaaDoor
open Go.ChangeShapes Go.WideShapes Go.ChangeAt Go.RowKit
set_option linter.unusedVariables false

/-- The names, padded to five signs; a row of the text; the text, up to row k. -/
def wvNm (k : Nat) : ByteArray := match k with | 0 => ⟨#[82, 69, 65, 68]⟩ | 1 => ⟨#[66, 65]⟩ | 2 => ⟨#[66, 83]⟩ | 3 => ⟨#[76, 73, 67]⟩ | 4 => ⟨#[65, 86, 77, 65]⟩ | 5 => ⟨#[66, 85, 83, 89]⟩ | _ => ⟨#[77, 73, 78, 69]⟩
def wvPd (k : Nat) : ByteArray := match k with | 0 => ⟨#[32]⟩ | 1 => ⟨#[32, 32, 32]⟩ | 2 => ⟨#[32, 32, 32]⟩ | 3 => ⟨#[32, 32]⟩ | 4 => ⟨#[32]⟩ | 5 => ⟨#[32]⟩ | _ => ⟨#[32]⟩
def wvR (l : List Rc) (k : Nat) : ByteArray := ((wvNm k ++ wvPd k) ++ strOfNums (wvL (k : Int) l)) ++ ⟨#[10]⟩
def wvT (l : List Rc) : Nat → ByteArray
  | 0 => ⟨#[]⟩
  | k + 1 => wvT l k ++ wvR l k
abbrev wvAll : ByteArray := ⟨#[82, 69, 65, 68, 32, 66, 65, 32, 66, 83, 32, 76, 73, 67, 32, 65, 86, 77, 65, 32, 66, 85, 83, 89, 32, 77, 73, 78, 69]⟩
theorem wvAll_pcs : pcsB 32 wvAll = (List.range 7).map wvNm := by
  unfold pcsB
  rw [show pcs 32 wvAll.data.toList = [[82, 69, 65, 68], [66, 65], [66, 83], [76, 73, 67], [65, 86, 77, 65], [66, 85, 83, 89], [77, 73, 78, 69]] from by decide +kernel]
  rfl
theorem wvAll_at (pre : List ByteArray) (x : ByteArray) (rest : List ByteArray) (h : pcsB 32 wvAll = pre ++ x :: rest) : pre.length < 7 ∧ x = wvNm pre.length := by
  rw [wvAll_pcs] at h
  have hl : pre.length < 7 := by
    have := congrArg List.length h
    simp at this
    omega
  refine ⟨hl, ?_⟩
  have := congrArg (fun z : List ByteArray => z[pre.length]?) h
  simp [hl] at this
  exact this.symm
theorem wvAll_len : (pcsB 32 wvAll).length = 7 := by rw [wvAll_pcs]; rfl
theorem strOf_size (l : List Int) : (strOfNums l).size = l.length := by
  unfold strOfNums
  show (List.map _ l).toArray.size = _
  simp
theorem wvR_size (l : List Rc) (k : Nat) (hk : k < 7) : (wvR l k).size = l.length + 6 := by
  unfold wvR
  simp only [ByteArray.size_append, strOf_size, wvL_at k hk, List.length_map]
  have : (⟨#[10]⟩ : ByteArray).size = 1 := rfl
  rcases (show k = 0 ∨ k = 1 ∨ k = 2 ∨ k = 3 ∨ k = 4 ∨ k = 5 ∨ k = 6 by omega) with rfl | rfl | rfl | rfl | rfl | rfl | rfl
  all_goals (simp only [wvNm, wvPd]; show _ + _ + l.length + 1 = _; simp only [show ∀ a : Array UInt8, (⟨a⟩ : ByteArray).size = a.size from fun _ => rfl]; simp; omega)
theorem wvT_size (l : List Rc) (k : Nat) (hk : k ≤ 7) : (wvT l k).size = k * (l.length + 6) := by
  induction k with
  | zero => simp [wvT, ByteArray.size]
  | succ k ih => rw [wvT, ByteArray.size_append, ih (by omega), wvR_size l k (by omega), Nat.succ_mul]
theorem strCells_app (s t : ByteArray) : Lib.strCells (s ++ t) = Lib.strCells s ++ Lib.strCells t := by
  simp [Lib.strCells]
/-- Between two rounds. -/
def WvI (v : Value) (l : List Rc) (n : Nat) (w : World) (pre : List ByteArray) (W : World) : Prop :=
  Blk W n 22 #[v] ∧ BO (n + 8) (n + 1) (Lib.strCells (wvT l pre.length)) W ∧ Blk W (n + 2) 3 #[.int .i64 (pre.length : Int)] ∧ Below n w W
theorem WvI.grown {v : Value} {l : List Rc} {n r : Nat} {w A B : World} {pre : List ByteArray} (h : WvI v l n w pre A) (hg : A.grownBy B (some r)) (h1 : n + 3 ≤ r) (h2 : r < n + 8) : WvI v l n w pre B := by
  obtain ⟨a1, a2, a3, a4⟩ := h
  exact ⟨a1.grown hg (by simp; omega), a2.grown hg h2 (by omega), a3.grown hg (by simp; omega), a4.grown hg (by have := a1.lt; omega) (fun k hk => by injection hk with hk; omega)⟩
theorem blkAt {w : World} {g : Nat} (h : w.heap.size = g) (t : TypeId) (cs : Array Value) : Blk (w.alloc (.cells cs t)) g t cs := by subst h; exact Blk.new _ _ _ _
theorem wvRep (k : Nat) (hk : k < 7) (w : World) : Calls Tryd.prog 16 #[.string ⟨#[32]⟩, .int .i64 (5 - ((wvNm k).size : Int))] w fun e w' => e = .returned (.string (wvPd k)) ∧ w' = w := by
  rcases (show k = 0 ∨ k = 1 ∨ k = 2 ∨ k = 3 ∨ k = 4 ∨ k = 5 ∨ k = 6 by omega) with rfl | rfl | rfl | rfl | rfl | rfl | rfl
  · exact rep_one w
  · exact rep_3 w
  · exact rep_3 w
  · exact rep_2 w
  · exact rep_one w
  · exact rep_one w
  · exact rep_one w
theorem wvNm_size : ∀ k : Fin 7, (wvNm k.val).size ≤ 4 ∧ (wvPd k.val).size ≤ 3 := by decide
attribute [local go_sem] Oper.semAt_some
set_option maxRecDepth 100000 in
set_option maxHeartbeats 8000000 in
theorem wvText_any (v : Value) (l : List Rc) (w : World) (h : eR.Rd w v l) (hn : l.length ≤ 100000) :
    Calls Tryd.prog 6 #[v] w fun e w' => e = .returned (.string (wvT l 7)) ∧ Below w.heap.size w w' := by
  obtain ⟨A, c, hv, -⟩ := h.open_
  have HR := Lib.hid h
  obtain ⟨N, hN⟩ : ∃ N, l.length = N := ⟨_, rfl⟩
  have HN := Lib.hid hN
  rw [hN] at hv hn
  subst hv
  clear h hN
  obtain ⟨n, hnn⟩ : ∃ n, w.heap.size = n := ⟨_, rfl⟩
  obtain ⟨W0, hW0⟩ : ∃ W0, ((((((w.alloc (.cells #[.slice A N c] 22)).alloc (.cells #[.pointer none, .slice none 0 0] 44)).alloc (.cells #[.int .i64 0] 3)).alloc (.cells #[.string wvAll] 9)).alloc (.cells #[.string ⟨#[32]⟩] 9)).alloc (.cells #[.int .i64 0] 3)) = W0 := ⟨_, rfl⟩
  have s0 : W0.heap.size = n + 6 := by rw [← hW0]; simp [hnn]
  have CS := Lib.hid (fun u => splitSeq_any wvAll ⟨#[32]⟩ u)
  refine (callsIn_wide (n := 0)).1 (callsIn_of_wp_marks Tryd.func6 rfl trivial ?_ rfl)
  simp only [Tryd.ntmps6, List.size_toArray, List.length_cons, List.length_nil, Nat.reduceAdd, Nat.reduceSub, Array.replicate_succ, Array.replicate_zero, List.push_toArray, List.append_toArray, List.nil_append, List.cons_append]
  gi_wp2_with fail
  refine ⟨trivial, rfl, (callsIn_wide.2 (CS.out _)).mono ?_⟩
  rintro e w1 ⟨rfl, hw1⟩
  gi_wp2_with fail
  clear hw1
  have K0 : Hid (Blk W0 n 22 #[.slice A N c]) := Lib.hid (by rw [← hW0]; exact Blk.alloc (Blk.alloc (Blk.alloc (Blk.alloc (Blk.alloc (blkAt hnn _ _) _) _) _) _) _)
  have K1 : Hid (Blk W0 (n + 1) 44 #[.pointer none, .slice none 0 0]) := Lib.hid (by rw [← hW0]; exact Blk.alloc (Blk.alloc (Blk.alloc (Blk.alloc (blkAt (by simp [hnn]) _ _) _) _) _) _)
  have K2 : Hid (Blk W0 (n + 2) 3 #[.int .i64 0]) := Lib.hid (by rw [← hW0]; exact Blk.alloc (Blk.alloc (Blk.alloc (blkAt (by simp [hnn]) _ _) _) _) _)
  have K3 : Hid (Blk W0 (n + 3) 9 #[.string wvAll]) := Lib.hid (by rw [← hW0]; exact Blk.alloc (Blk.alloc (blkAt (by simp [hnn]) _ _) _) _)
  have K4 : Hid (Blk W0 (n + 3 + 1) 9 #[.string ⟨#[32]⟩]) := Lib.hid (by rw [← hW0]; exact Blk.alloc (blkAt (by simp [hnn]) _ _) _)
  have K5 : Hid (Blk W0 (n + 3 + 2) 3 #[.int .i64 0]) := Lib.hid (by rw [← hW0]; exact blkAt (by simp [hnn]) _ _)
  have HB : Hid (Below n w W0) := Lib.hid (by rw [← hW0, ← hnn]; exact Below.alloc0 (Below.alloc0 (Below.alloc0 (Below.alloc0 (Below.alloc0 (Below.alloc0 (Below.refl _ _) _) _) _) _) _) _)
  clear hW0
  refine wp_rangeSeq (gf := 30) (b := n + 3) (xs := pcsB 32 wvAll) rfl (enters_of Tryd.func30 (by kernel_rfl) rfl) (by omega) (splitSeq_seq wvAll 32 (n + 3) (fun k => W0.heap[k]?) K3.out K4.out K5.out (by decide)) rfl
    (WvI (.slice A N c) l n w) (fun _ _ _ => False) ?hI (fun _ _ _ _ _ h => h.elim) ⟨K0.out, ⟨none, _, K1.out, World.ownsRow_nil _ _ _ 1, (by intro h; cases h), .inl ⟨rfl, rfl⟩⟩, K2.out, HB.out⟩
    (fun x => { tmps := #[.slice A N c, .pointer (some ⟨n, 0, none⟩), .string ⟨#[]⟩, .pointer (some ⟨n + 1, 0, none⟩), .pointer (some ⟨n + 1 + 1, 0, none⟩), .string x, .func (.func 30) #[] #[.pointer (some ⟨n + 1 + 1 + 1 + 1, 0, none⟩), .pointer (some ⟨n + 1 + 1 + 1, 0, none⟩), .pointer (some ⟨n + 1 + 1 + 1 + 2, 0, none⟩)], .string x, undef, undef, undef, undef, undef, undef, undef, undef, undef, undef, undef, undef, undef, undef, undef], defers := [] }) ?assign ?body ?done ?stop
  case hI =>
    rintro pre X Y r h hg hr
    exact h.grown hg (by omega) (by omega)
  case assign =>
    intro l' x W K hK
    gi_wp2
    exact hK
  case body =>
    intro l' pre x rest W hxs hsz hI
    obtain ⟨hk, rfl⟩ := wvAll_at pre x rest hxs
    obtain ⟨b0, bo, bl, hw⟩ := hI
    have hlen : (pre ++ [wvNm pre.length]).length = pre.length + 1 := by simp
    have HLN := Lib.hid hlen
    obtain ⟨k, hkk⟩ : ∃ k, pre.length = k := ⟨_, rfl⟩
    rw [hkk] at hk bo bl
    have CR := Lib.hid (fun u => wvRep k hk u)
    have CL := Lib.hid (fun u (q : Below n w u) => wvLine_any (k : Int) (by omega) (by omega) (.slice A N c) l u (HR.out.below (by rw [hnn]; exact q)) (by rw [HN.out]; omega))
    have z := wvNm_size ⟨k, hk⟩
    simp only at z
    have zT := wvT_size l k (by omega)
    have zL : (strOfNums (wvL (k : Int) l)).size = N := by rw [strOf_size, wvL_at k hk, List.length_map, HN.out]
    rw [HN.out] at zT
    have HT : Hid (Lib.strCells (wvT l (k + 1)) = (((Lib.strCells (wvT l k) ++ Lib.strCells (wvNm k)) ++ Lib.strCells (wvPd k)) ++ Lib.strCells (strOfNums (wvL (k : Int) l))) ++ [.int .u8 10]) := Lib.hid (by
      rw [wvT, wvR]
      simp only [strCells_app, List.append_assoc]
      rfl)
    have len0 : (Lib.strCells (wvT l k)).length ≤ 800000 := by rw [Lib.strCells_length, zT]; have : k * (N + 6) ≤ 7 * (N + 6) := Nat.mul_le_mul (by omega) (Nat.le_refl _); omega
    obtain ⟨nm, hnm⟩ : ∃ z, wvNm k = z := ⟨_, rfl⟩
    obtain ⟨pd, hpd⟩ : ∃ z, wvPd k = z := ⟨_, rfl⟩
    obtain ⟨ls, hls⟩ : ∃ z, strOfNums (wvL (k : Int) l) = z := ⟨_, rfl⟩
    obtain ⟨bs, hbs⟩ : ∃ z, Lib.strCells (wvT l k) = z := ⟨_, rfl⟩
    rw [hkk] at HLN ⊢
    rw [hnm] at HT z CR HLN ⊢
    rw [hpd] at HT z CR
    rw [hls] at HT zL CL
    rw [hbs] at HT bo len0
    have H0 := Lib.hid b0
    have H2 := Lib.hid bl
    have HW := Lib.hid hw
    have c1 : (strOfNums [10]).size = 1 := rfl
    clear hxs hnm hpd hls hbs b0 bl hw zT hlen
    have C1 := Lib.hid (boStr_any (n + 8) (n + 1) bs nm W bo (by omega) (by omega) (by omega))
    clear bo
    gi_wp2_with fail
    refine ⟨trivial, rfl, (CallsIn.inRound l' (callsIn_wide.2 C1.out)).mono ?_⟩
    rintro e W1 ⟨rfl, bo1, w1⟩
    have s1 := w1.size
    have X1 := Lib.hid w1
    have t1 : nm.size ≤ 4 := z.1
    have C2 := Lib.hid (boStr_any (n + 8) (n + 1) _ pd W1 bo1 (by omega) (by rw [List.length_append, Lib.strCells_length]; omega) (by omega))
    clear bo1 w1
    gi_wp2_with fail
    refine ⟨trivial, rfl, (CallsIn.inRound l' (callsIn_wide.2 (CR.out _))).mono ?_⟩
    rintro e W1' ⟨rfl, hw⟩
    subst hw
    gi_wp2_with fail
    refine ⟨trivial, rfl, (CallsIn.inRound l' (callsIn_wide.2 C2.out)).mono ?_⟩
    rintro e W2 ⟨rfl, bo2, w2⟩
    have s2 := w2.size
    have X2 := Lib.hid (Bw.trans X1.out w2)
    have BO2 := Lib.hid bo2
    clear bo2 w2 C2 C1
    have q0 : W2.cell? ⟨n, 0, none⟩ = some (.slice A N c) := ((X2.out.blk H0.out (by omega) (by omega)).cell 0).trans rfl
    have q2 : W2.cell? ⟨n + 1 + 1, 0, none⟩ = some (.int .i64 (k : Int)) := ((X2.out.blk H2.out (by omega) (by omega)).cell 0).trans rfl
    have C3 := Lib.hid (CL.out W2 (X2.out.below HW.out (by omega) (by omega)))
    gi_wp2_with fail
    refine ⟨trivial, rfl, (CallsIn.inRound l' (callsIn_wide.2 C3.out)).mono ?_⟩
    rintro e W3 ⟨rfl, hb3⟩
    have s3 := hb3.size
    have X3 := Lib.hid (Bw.of X2.out (by omega) hb3)
    have C4 := Lib.hid (boStr_any (n + 8) (n + 1) _ ls W3 (BO2.out.below hb3) (by omega) (by simp only [List.length_append, Lib.strCells_length]; omega) (by omega))
    clear hb3 C3 q0 q2
    gi_wp2_with fail
    refine ⟨trivial, rfl, (CallsIn.inRound l' (callsIn_wide.2 C4.out)).mono ?_⟩
    rintro e W4 ⟨rfl, bo4, w4⟩
    have s4 := w4.size
    have X4 := Lib.hid (Bw.trans X3.out w4)
    have C5 := Lib.hid (boByte_any (n + 8) (n + 1) _ 10 W4 bo4 (by omega) (by simp only [List.length_append, Lib.strCells_length]; omega) (by omega))
    clear bo4 w4 C4
    gi_wp2_with fail
    refine ⟨trivial, rfl, (CallsIn.inRound l' (callsIn_wide.2 C5.out)).mono ?_⟩
    rintro e W5 ⟨rfl, bo5, w5⟩
    have s5 := w5.size
    have X5 := Lib.hid (Bw.trans X4.out w5)
    have BO5 := Lib.hid bo5
    clear bo5 w5 C5
    have K2 := Lib.hid (X5.out.blk H2.out (by omega) (by omega))
    have q2 : W5.cell? ⟨n + 1 + 1, 0, none⟩ = some (.int .i64 (k : Int)) := (K2.out.cell 0).trans rfl
    have f2 : W5.frozen? ⟨n + 1 + 1, 0, none⟩ = false := K2.out.frozen 0
    have k0 : (0 : Int) ≤ (k : Int) := by omega
    have k7 : (k : Int) < 7 := by omega
    gi_wp2
    have Q2 : Hid (Blk (W5.setCell ⟨n + 1 + 1, 0, none⟩ (.int .i64 ((k : Int) + 1))) (n + 2) 3 #[.int .i64 ((k : Int) + 1)]) := Lib.hid (Blk.set_ K2.out 0 _)
    refine ⟨fun j hj => ?_, Blk.far (X5.out.blk H0.out (by omega) (by omega)) (by show n ≠ n + 1 + 1; omega) _, ?_, ?_, ?_⟩
    · refine (Below.heap_setCell W5 ⟨n + 1 + 1, 0, none⟩ _ j (by show j ≠ n + 1 + 1; omega)).trans (X5.out.block j (by omega) (by omega))
    · rw [HLN.out, HT.out]
      exact BO5.out.grown (grown_cell _ _ _ _) (by omega) (by omega)
    · rw [HLN.out]
      have := Q2.out
      rw [show ((k : Int) + 1) = ((k + 1 : Nat) : Int) by omega] at this
      exact this
    · exact Below.set0 (X5.out.below HW.out (by omega) (by omega)) (by omega) _
  case done =>
    intro W hI hK
    obtain ⟨b0, bo, bl, hw⟩ := hI
    rw [wvAll_len] at bo
    have CS2 := Lib.hid (boString_some (n + 8) (n + 1) (wvT l 7) W bo (by rw [wvT_size l 7 (by omega)]; omega))
    have HW := Lib.hid hw
    have HK := Lib.hid hK
    clear bo b0 bl hw hK
    gi_wp2_with fail
    refine ⟨trivial, rfl, (callsIn_wide.2 CS2.out).mono ?_⟩
    rintro e W1 ⟨rfl, hb1⟩
    have HB1 := Lib.hid hb1
    have HK1 : Hid (W1.heap[n + 6]? = some (.deferred (some []))) := Lib.hid (by rw [← s0]; exact (hb1.block _ (by omega)).trans HK.out)
    have L1 := (Array.getElem?_eq_some_iff.1 HK1.out).1
    have HB2 := Lib.hid (Below.grown (HB1.out.mono (by omega : n ≤ n + 8)) (grown_put W1 (n + 6) (.deferred none)) (by omega) (fun g hg => by (injection hg with hg; omega)))
    clear hb1
    gi_wp2
    refine ⟨by simp, .inl ⟨_, _, rfl, run_takeDeferred HK1.out, ?_⟩⟩
    exact ⟨_, results_tmp rfl _ _ _, rfl, by rw [hnn]; exact HW.out.trans HB2.out⟩
  case stop =>
    intro c' pre rest W _ h _
    exact h.elim
end Go.Proofs.YtpleboogijgdcaaDoor
