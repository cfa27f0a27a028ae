/- The document's operands (spinetref45): what inside does behind its register. -/
import Derived.Test.YtmdpgekbiohfbabDoorLdu
namespace Go.Proofs.YtmdpgekbiohfbabDoor
open Go.ChangeShapes Go.WideShapes Go.ChangeAt Go.RowKit
set_option linter.unusedVariables false

set_option maxRecDepth 100000 in
set_option maxHeartbeats 8000000 in
theorem inE (i : Bool) (w Wa : World) (r k : Int) (L : ByteArray) (left : List Int) (M : AgV × Bool) (r1 : 1 ≤ r) (r5 : r ≤ 5) (rk : r = 5 → k = 0) (hk0 : 0 ≤ k) (hL : strOfNums left = L) (hnl : nums L = left) (hLs : L.size = left.length) (hbl : BytL left) (hll : left.length ≤ 1000000)
    (hM : (if left = [] then ((⟨3, 0, [], k, r, 0, i⟩, decide (r ≠ 5)) : AgV × Bool) else if k ≠ 0 then (agZ, false) else if 0 < accL left ∧ r ≠ 5 then (⟨3, 0, [], accL left, r, 0, i⟩, true) else (⟨3, (sizL left).1, (sizL left).2, (offL (sizL left).1 r i (sizL left).2).1, r, (offL (sizL left).1 r i (sizL left).2).2, i⟩, true)) = M)
    (hT : Blk Wa (w.heap.size + 1) 47 #[.int .i64 3, .int .i64 0, .string ⟨#[]⟩, .int .i64 k, .int .i64 r, .int .i64 0, .bool i]) (hZ : Blk Wa w.heap.size 47 z7D) (hB : Below w.heap.size w Wa)
    (c0 c2 c3 c6 c7 c10 c11 c12 c13 c14 c15 c16 c17 c18 c19 c20 c21 c22 c23 c24 c25 c26 c27 c28 c29 c30 c31 c32 c33 c34 c35 c36 c37 c38 c39 c40 c41 c42 c43 c44 c45 c46 c47 c48 c49 c50 c51 c52 c53 c54 c55 c56 c57 c58 c59 c60 c61 c62 c63 c64 c65 c66 c67 c68 c69 c70 c71 c72 c73 c74 c75 c76 c77 c78 c79 c80 c81 c82 c83 c84 c85 c86 c87 c88 c89 c90 c91 c92 c93 c94 c95 c96 c97 c98 c99 c100 c101 c102 c103 c104 c105 c106 c107 c108 c109 c110 c111 c112 c113 c114 c115 c116 c117 c118 c119 c120 c121 c122 c123 c124 c125 c126 c127 c128 c129 c130 c131 c132 c133 c134 c135 c136 c137 c138 c139 c140 c141 c142 c143 c144 c145 c146 c147 c148 c149 c150 c151 c152 c153 c154 c155 c156 c157 c158 c159 c160 c161 c162 c163 c164 c165 c166 c167 c168 c169 c170 c171 c172 c173 c174 c175 c176 : Value) (Ka Kb : Act → World → Prop) (hKa : ∀ a u, Code.wp Tryd.prog (inCond 16) (Exit.then Kb (bodyPost Tryd.prog Tryd.f39 (InPost M w))) a u → Ka a u) (hKb : ∀ a u, Code.wp Tryd.prog (inRest2 16) (bodyPost Tryd.prog Tryd.f39 (InPost M w)) a u → Kb a u) :
    Code.wp Tryd.prog (inHead 16) (Exit.then Ka (Exit.then Kb (bodyPost Tryd.prog Tryd.f39 (InPost M w)))) ⟨List.toArray (c0 :: .bool i :: c2 :: c3 :: .pointer (some ⟨w.heap.size, 0, none⟩) :: .bool false :: c6 :: c7 :: .pointer (some ⟨w.heap.size + 1, 0, none⟩) :: .string L :: c10 :: c11 :: c12 :: c13 :: c14 :: c15 :: c16 :: c17 :: c18 :: c19 :: c20 :: c21 :: c22 :: c23 :: c24 :: c25 :: c26 :: c27 :: c28 :: c29 :: c30 :: c31 :: c32 :: c33 :: c34 :: c35 :: c36 :: c37 :: c38 :: c39 :: c40 :: c41 :: c42 :: c43 :: c44 :: c45 :: c46 :: c47 :: c48 :: c49 :: c50 :: c51 :: c52 :: c53 :: c54 :: c55 :: c56 :: c57 :: c58 :: c59 :: c60 :: c61 :: c62 :: c63 :: c64 :: c65 :: c66 :: c67 :: c68 :: c69 :: c70 :: c71 :: c72 :: c73 :: c74 :: c75 :: c76 :: c77 :: c78 :: c79 :: c80 :: c81 :: c82 :: c83 :: c84 :: c85 :: c86 :: c87 :: c88 :: c89 :: c90 :: c91 :: c92 :: c93 :: c94 :: c95 :: c96 :: c97 :: c98 :: c99 :: c100 :: c101 :: c102 :: c103 :: c104 :: c105 :: c106 :: c107 :: c108 :: c109 :: c110 :: c111 :: c112 :: c113 :: c114 :: c115 :: c116 :: c117 :: c118 :: c119 :: c120 :: c121 :: c122 :: c123 :: c124 :: c125 :: c126 :: c127 :: c128 :: c129 :: c130 :: c131 :: c132 :: c133 :: c134 :: c135 :: c136 :: c137 :: c138 :: c139 :: c140 :: c141 :: c142 :: c143 :: c144 :: c145 :: c146 :: c147 :: c148 :: c149 :: c150 :: c151 :: c152 :: c153 :: c154 :: c155 :: c156 :: c157 :: c158 :: c159 :: c160 :: c161 :: c162 :: c163 :: c164 :: c165 :: c166 :: c167 :: c168 :: c169 :: c170 :: c171 :: c172 :: c173 :: c174 :: c175 :: c176 :: []), []⟩ Wa := by
  conv => arg 2; whnf
  conv at hKa => enter [a, u, 1, 2]; whnf
  conv at hKb => enter [a, u, 1, 2]; whnf
  have Ta_1 := Lib.hid hT
  have Za_1 := Lib.hid hZ
  have Ba_1 := Lib.hid hB
  have HL0 := Lib.hid hL
  have HNL := Lib.hid hnl
  have HLS := Lib.hid hLs
  have HBL := Lib.hid hbl
  have HLL := Lib.hid hll
  clear hT hZ hB hL hnl hLs hbl hll
  obtain ⟨q0, q1, q2, q3, q4, q5, q6⟩ := Blk.c7 Ta_1.out
  obtain ⟨p0, p1, p2, p3, p4, p5, p6⟩ := Blk.c7 Za_1.out
  have g0 := Ta_1.out.frozen 0
  have g1 := Ta_1.out.frozen 1
  have g2 := Ta_1.out.frozen 2
  have g3 := Ta_1.out.frozen 3
  have g4 := Ta_1.out.frozen 4
  have g5 := Ta_1.out.frozen 5
  have f0 := Za_1.out.frozen 0
  have f1 := Za_1.out.frozen 1
  have f2 := Za_1.out.frozen 2
  have f3 := Za_1.out.frozen 3
  have f4 := Za_1.out.frozen 4
  have f5 := Za_1.out.frozen 5
  have f6 := Za_1.out.frozen 6
  have hr0 : ¬ r < 0 := by omega
  have hr0' : decide (r < 0) = false := decide_eq_false hr0
  by_cases hl : left = []
  · rw [if_pos hl] at hM
    obtain rfl : L = ⟨#[]⟩ := by rw [← HL0.out, hl]; rfl
    by_cases h5 : r = 5
    · obtain rfl := rk h5
      subst h5
      have hM2 : M.2 = false := by rw [← hM]; rfl
      clear hM
      obtain ⟨M1, M2⟩ := M
      simp only at hM2
      subst hM2
      go_wp2
      refine bodyPost_ret (v := .tuple #[.agg #[(.int .i64 0), (.int .i64 0), (.string ⟨#[]⟩), (.int .i64 0), (.int .i64 0), (.int .i64 0), (.bool false)], .bool false]) (resIn _ _ w.heap.size _ (Blk.set7 (by repeat (first | exact Za_1.out | refine Blk.far ?_ (by show w.heap.size ≠ w.heap.size + 1; omega) _))) rfl rfl false rfl) rfl ?_
      exact ⟨0, 0, ⟨#[]⟩, 0, 0, 0, false, rfl, fun h => absurd h Bool.false_ne_true, (Below.set7 (by repeat (first | exact Ba_1.out | refine Below.set0 ?_ (by omega) _)) (Nat.le_refl _) _ _ _ _ _ _ _)⟩
    · have h5' : (r == 5) = false := by simpa using h5
      rw [decide_eq_true h5] at hM
      subst hM
      clear hl rk h5
      by_cases hk : k = 0
      · subst hk
        go_wp2
        refine bodyPost_ret (v := .tuple #[.agg #[(.int .i64 3), (.int .i64 0), (.string ⟨#[]⟩), (.int .i64 0), (.int .i64 r), (.int .i64 0), (.bool i)], .bool true]) (resIn _ _ w.heap.size _ (Blk.set7 (by repeat (first | exact Za_1.out | refine Blk.far ?_ (by show w.heap.size ≠ w.heap.size + 1; omega) _))) rfl rfl true rfl) rfl ?_
        exact ⟨3, 0, ⟨#[]⟩, 0, r, 0, i, rfl, fun _ => ⟨rfl, rfl, rfl, rfl, rfl, rfl, rfl⟩, (Below.set7 (by repeat (first | exact Ba_1.out | refine Below.set0 ?_ (by omega) _)) (Nat.le_refl _) _ _ _ _ _ _ _)⟩
      · have hkp : (0 : Int) < k := by omega
        have hkd : decide (0 < k) = true := decide_eq_true hkp
        go_wp2
        refine bodyPost_ret (v := .tuple #[.agg #[(.int .i64 3), (.int .i64 0), (.string ⟨#[]⟩), (.int .i64 k), (.int .i64 r), (.int .i64 0), (.bool i)], .bool true]) (resIn _ _ w.heap.size _ (Blk.set7 (by repeat (first | exact Za_1.out | refine Blk.far ?_ (by show w.heap.size ≠ w.heap.size + 1; omega) _))) rfl rfl true rfl) rfl ?_
        exact ⟨3, 0, ⟨#[]⟩, k, r, 0, i, rfl, fun _ => ⟨rfl, rfl, rfl, rfl, rfl, rfl, rfl⟩, (Below.set7 (by repeat (first | exact Ba_1.out | refine Below.set0 ?_ (by omega) _)) (Nat.le_refl _) _ _ _ _ _ _ _)⟩
  · rw [if_neg hl] at hM
    have hne := empty_beqS L (by rw [HLS.out]; exact Nat.pos_of_ne_zero (fun h => hl (List.eq_nil_of_length_eq_zero h)))
    by_cases hk : k ≠ 0
    · rw [if_pos hk] at hM
      subst hM
      have hkp : (0 : Int) < k := by omega
      have hkd : decide (0 < k) = true := decide_eq_true hkp
      clear rk hk hl
      go_wp2
      refine bodyPost_ret (v := .tuple #[.agg #[(.int .i64 0), (.int .i64 0), (.string ⟨#[]⟩), (.int .i64 0), (.int .i64 0), (.int .i64 0), (.bool false)], .bool false]) (resIn _ _ w.heap.size _ (Blk.set7 (by repeat (first | exact Za_1.out | refine Blk.far ?_ (by show w.heap.size ≠ w.heap.size + 1; omega) _))) rfl rfl false rfl) rfl ?_
      exact ⟨0, 0, ⟨#[]⟩, 0, 0, 0, false, rfl, fun h => absurd h Bool.false_ne_true, (Below.set7 (by repeat (first | exact Ba_1.out | refine Below.set0 ?_ (by omega) _)) (Nat.le_refl _) _ _ _ _ _ _ _)⟩
    · rw [if_neg hk] at hM
      obtain rfl : k = 0 := by omega
      clear hk rk hk0
      by_cases h5 : r = 5
      · subst h5
        rw [if_neg (fun hh => hh.2 rfl)] at hM
        have CS := Lib.hid (fun u => rfSized L u (by rw [HLS.out]; have := HLL.out; omega))
        rw [HNL.out] at CS
        have hz012 := sizL_012 left
        have hxb := sizL_byt HBL.out
        have hxl := sizL_len left
        obtain ⟨S, hS⟩ : ∃ S, sizL left = S := ⟨_, rfl⟩
        rw [hS] at CS hM hz012 hxb hxl
        obtain ⟨z, x⟩ := S
        simp only at CS hM hz012 hxb hxl
        have CE := Lib.hid (fun u => rfEval_any u (strOfNums x) 0 (by decide) (.slice none 0 0) [] (Els.Rd.nil_ u) (fun y hy => by cases hy) (by simp) (by rw [strOfNums_size]; have := HLL.out; omega))
        rw [str_nums _ hxb, lookB0] at CE
        have HE4 := Lib.hid (evalE_none 0 x)
        change Hid ((evalE 0 (lookL look0) x).2.1 = 0 → (evalE 0 (lookL look0) x).2.2.2 = false) at HE4
        subst hM
        have hoff := offL_5 z i x hz012
        have hcv := constV_in x hxb
        obtain ⟨EV, hEV⟩ : ∃ EV, evalE 0 (lookL look0) x = EV := ⟨_, rfl⟩
        rw [hEV] at CE HE4
        obtain ⟨V, E, H, G⟩ := EV
        have HOF := Lib.hid (fun C D K2 K3 (a : (decide (E = 0) && !H) = C) b c d => hoff V E H G C D K2 K3 hEV a b c d)
        have HVB : Hid ((decide (E = 0) && !H) = true → 0 ≤ V ∧ V < 65536) := Lib.hid (fun h => by
          rw [Bool.and_eq_true, decide_eq_true_eq, Bool.not_eq_true'] at h
          have e : constV (V, E, H, G) = V := if_pos h
          rw [hEV, e] at hcv; exact hcv)
        clear hoff hEV hcv
        have HXX : Hid (strOfNums x = strOfNums x) := Lib.hid rfl
        obtain ⟨X, hX⟩ : ∃ X, strOfNums x = X := ⟨_, rfl⟩
        rw [hX] at CS CE
        have HX := Lib.hid hX.symm
        clear hX hxb hxl hS hl HXX
        go_wp2_with fail
        refine (CS.out _).mono ?_
        rintro e w4 ⟨rfl, hb⟩
        have T4 := Lib.hid (Blk.below Ta_1.out hb Ta_1.out.lt)
        have Z4 := Lib.hid (Blk.below Za_1.out hb Za_1.out.lt)
        have B4 := Lib.hid (Below.trans0 Ba_1.out hb)
        clear hb CS
        clear q0 q1 q2 q3 q4 q5 q6 p0 p1 p2 p3 p4 p5 p6 g0 g1 g2 g3 g4 g5 f0 f1 f2 f3 f4 f5 f6
        obtain ⟨q0, q1, q2, q3, q4, q5, q6⟩ := Blk.c7 T4.out
        obtain ⟨p0, p1, p2, p3, p4, p5, p6⟩ := Blk.c7 Z4.out
        have g0 := T4.out.frozen 0
        have g1 := T4.out.frozen 1
        have g2 := T4.out.frozen 2
        have g3 := T4.out.frozen 3
        have g4 := T4.out.frozen 4
        have g5 := T4.out.frozen 5
        have f0 := Z4.out.frozen 0
        have f1 := Z4.out.frozen 1
        have f2 := Z4.out.frozen 2
        have f3 := Z4.out.frozen 3
        have f4 := Z4.out.frozen 4
        have f5 := Z4.out.frozen 5
        have f6 := Z4.out.frozen 6
        go_upto_region 28 with (fail)
        have Tb_0 : Hid (Blk ((w4).setCell ⟨w.heap.size + 1, 1, none⟩ (.int .i64 z)) (w.heap.size + 1) 47 #[(.int .i64 3), (.int .i64 z), (.string ⟨#[]⟩), (.int .i64 0), (.int .i64 5), (.int .i64 0), (.bool i)]) := Lib.hid (Blk.set_ T4.out 1 (.int .i64 z))
        have Zb_0 : Hid (Blk ((w4).setCell ⟨w.heap.size + 1, 1, none⟩ (.int .i64 z)) w.heap.size 47 z7D) := Lib.hid (Blk.far Z4.out (by show w.heap.size ≠ w.heap.size + 1; omega) (.int .i64 z))
        have Bb_0 : Hid (Below w.heap.size w ((w4).setCell ⟨w.heap.size + 1, 1, none⟩ (.int .i64 z))) := Lib.hid (Below.set0 B4.out (by omega) (.int .i64 z))
        have Tb_1 : Hid (Blk (((w4).setCell ⟨w.heap.size + 1, 1, none⟩ (.int .i64 z)).setCell ⟨w.heap.size + 1, 2, none⟩ (.string X)) (w.heap.size + 1) 47 #[(.int .i64 3), (.int .i64 z), (.string X), (.int .i64 0), (.int .i64 5), (.int .i64 0), (.bool i)]) := Lib.hid (Blk.set_ Tb_0.out 2 (.string X))
        have Zb_1 : Hid (Blk (((w4).setCell ⟨w.heap.size + 1, 1, none⟩ (.int .i64 z)).setCell ⟨w.heap.size + 1, 2, none⟩ (.string X)) w.heap.size 47 z7D) := Lib.hid (Blk.far Zb_0.out (by show w.heap.size ≠ w.heap.size + 1; omega) (.string X))
        have Bb_1 : Hid (Below w.heap.size w (((w4).setCell ⟨w.heap.size + 1, 1, none⟩ (.int .i64 z)).setCell ⟨w.heap.size + 1, 2, none⟩ (.string X))) := Lib.hid (Below.set0 Bb_0.out (by omega) (.string X))
        generalize ((w4).setCell ⟨w.heap.size + 1, 1, none⟩ (.int .i64 z)).setCell ⟨w.heap.size + 1, 2, none⟩ (.string X) = Wb at Tb_1 Zb_1 Bb_1 ⊢
        clear q0 q1 q2 q3 q4 q5 q6 p0 p1 p2 p3 p4 p5 p6 g0 g1 g2 g3 g4 g5 f0 f1 f2 f3 f4 f5 f6
        obtain ⟨q0, q1, q2, q3, q4, q5, q6⟩ := Blk.c7 Tb_1.out
        obtain ⟨p0, p1, p2, p3, p4, p5, p6⟩ := Blk.c7 Zb_1.out
        have g0 := Tb_1.out.frozen 0
        have g1 := Tb_1.out.frozen 1
        have g2 := Tb_1.out.frozen 2
        have g3 := Tb_1.out.frozen 3
        have g4 := Tb_1.out.frozen 4
        have g5 := Tb_1.out.frozen 5
        have f0 := Zb_1.out.frozen 0
        have f1 := Zb_1.out.frozen 1
        have f2 := Zb_1.out.frozen 2
        have f3 := Zb_1.out.frozen 3
        have f4 := Zb_1.out.frozen 4
        have f5 := Zb_1.out.frozen 5
        have f6 := Zb_1.out.frozen 6
        go_wp2_with fail
        refine (CE.out _).mono ?_
        rintro e w6 ⟨⟨nq, rfl⟩, rfl⟩
        have T6 := Lib.hid (Blk.drewN Tb_1.out nq)
        have Z6 := Lib.hid (Blk.drewN Zb_1.out nq)
        have B6 := Lib.hid (Below.drewN0 Bb_1.out nq)
        clear CE
        dsimp only
        generalize Wb.drewN nq = W6 at T6 Z6 B6 ⊢
        clear q0 q1 q2 q3 q4 q5 q6 p0 p1 p2 p3 p4 p5 p6 g0 g1 g2 g3 g4 g5 f0 f1 f2 f3 f4 f5 f6
        obtain ⟨q0, q1, q2, q3, q4, q5, q6⟩ := Blk.c7 T6.out
        obtain ⟨p0, p1, p2, p3, p4, p5, p6⟩ := Blk.c7 Z6.out
        have g0 := T6.out.frozen 0
        have g1 := T6.out.frozen 1
        have g2 := T6.out.frozen 2
        have g3 := T6.out.frozen 3
        have g4 := T6.out.frozen 4
        have g5 := T6.out.frozen 5
        have f0 := Z6.out.frozen 0
        have f1 := Z6.out.frozen 1
        have f2 := Z6.out.frozen 2
        have f3 := Z6.out.frozen 3
        have f4 := Z6.out.frozen 4
        have f5 := Z6.out.frozen 5
        have f6 := Z6.out.frozen 6
        have HG : Hid (E = 0 → G = false) := HE4
        clear HE4
        go_upto_region 29 with (fail)
        exact inA5 i w W6 z V E X x (offL z 5 i x) H G hz012 HG.out HX.out HVB.out HOF.out T6.out Z6.out B6.out _ _ _ _ _ _ _ _ _ _ _ _ _ _ _ _ _ _ _ _ _ _ _ _ _ _ _ _ _ _ _ _ _ _ _ _ _ _ _ _ _ _ _ _ _ _ _ _ _ _ _ _ _ _ _ _ _ _ _ _ _ _ _ _ _ _ _ _ _ _ _ _ _ _ _ _ _ _ _ _ _ _ _ _ _ _ _ _ _ _ _ _ _ _ _ _ _ _ _ _ _ _ _ _ _ _ _ _ _ _ _ _ _ _ _ _ _ _ _ _ _ _ _ _ _ _ _ _ _ _ _ _ _ _ _ _ _ _ _ _ _ _ _ _ _ _ _ _ _ _ _ _ _ _ _ _ _ _ _ _ _ _ _ _ _ _ _ _ _ _ _ (by assumption)
      · have h5' : (r == 5) = false := by simpa using h5
        have hlt5 : r < 5 := by omega
        have hlt5' : decide (r < 5) = true := decide_eq_true hlt5
        by_cases ha65 : left = [65]
        · subst ha65
          obtain rfl : L = ⟨#[65]⟩ := by rw [← HL0.out]; rfl
          rw [if_pos ⟨by decide, h5⟩] at hM
          subst hM
          clear hl h5 hne
          go_wp2
          refine bodyPost_ret (v := .tuple #[.agg #[(.int .i64 3), (.int .i64 0), (.string ⟨#[]⟩), (.int .i64 4), (.int .i64 r), (.int .i64 0), (.bool i)], .bool true]) (resIn _ _ w.heap.size _ (Blk.set7 (by repeat (first | exact Za_1.out | refine Blk.far ?_ (by show w.heap.size ≠ w.heap.size + 1; omega) _))) rfl rfl true rfl) rfl ?_
          exact ⟨3, 0, ⟨#[]⟩, 4, r, 0, i, rfl, fun _ => ⟨rfl, rfl, rfl, rfl, rfl, rfl, rfl⟩, (Below.set7 (by repeat (first | exact Ba_1.out | refine Below.set0 ?_ (by omega) _)) (Nat.le_refl _) _ _ _ _ _ _ _)⟩
        by_cases ha66 : left = [66]
        · subst ha66
          obtain rfl : L = ⟨#[66]⟩ := by rw [← HL0.out]; rfl
          rw [if_pos ⟨by decide, h5⟩] at hM
          subst hM
          clear hl h5 hne
          go_wp2
          refine bodyPost_ret (v := .tuple #[.agg #[(.int .i64 3), (.int .i64 0), (.string ⟨#[]⟩), (.int .i64 5), (.int .i64 r), (.int .i64 0), (.bool i)], .bool true]) (resIn _ _ w.heap.size _ (Blk.set7 (by repeat (first | exact Za_1.out | refine Blk.far ?_ (by show w.heap.size ≠ w.heap.size + 1; omega) _))) rfl rfl true rfl) rfl ?_
          exact ⟨3, 0, ⟨#[]⟩, 5, r, 0, i, rfl, fun _ => ⟨rfl, rfl, rfl, rfl, rfl, rfl, rfl⟩, (Below.set7 (by repeat (first | exact Ba_1.out | refine Below.set0 ?_ (by omega) _)) (Nat.le_refl _) _ _ _ _ _ _ _)⟩
        by_cases ha68 : left = [68]
        · subst ha68
          obtain rfl : L = ⟨#[68]⟩ := by rw [← HL0.out]; rfl
          rw [if_pos ⟨by decide, h5⟩] at hM
          subst hM
          clear hl h5 hne
          go_wp2
          refine bodyPost_ret (v := .tuple #[.agg #[(.int .i64 3), (.int .i64 0), (.string ⟨#[]⟩), (.int .i64 6), (.int .i64 r), (.int .i64 0), (.bool i)], .bool true]) (resIn _ _ w.heap.size _ (Blk.set7 (by repeat (first | exact Za_1.out | refine Blk.far ?_ (by show w.heap.size ≠ w.heap.size + 1; omega) _))) rfl rfl true rfl) rfl ?_
          exact ⟨3, 0, ⟨#[]⟩, 6, r, 0, i, rfl, fun _ => ⟨rfl, rfl, rfl, rfl, rfl, rfl, rfl⟩, (Below.set7 (by repeat (first | exact Ba_1.out | refine Below.set0 ?_ (by omega) _)) (Nat.le_refl _) _ _ _ _ _ _ _)⟩
        rw [if_neg (fun hh => by have := hh.1; unfold accL at this; rw [if_neg ha65, if_neg ha66, if_neg ha68] at this; exact absurd this (by decide))] at hM
        have s0 := str_is L [65] ⟨#[65]⟩ rfl
        rw [ByteArray.toList_eq ⟨#[65]⟩, HNL.out, decide_eq_false ha65] at s0
        dsimp only at s0
        have s1 := str_is L [66] ⟨#[66]⟩ rfl
        rw [ByteArray.toList_eq ⟨#[66]⟩, HNL.out, decide_eq_false ha66] at s1
        dsimp only at s1
        have s2 := str_is L [68] ⟨#[68]⟩ rfl
        rw [ByteArray.toList_eq ⟨#[68]⟩, HNL.out, decide_eq_false ha68] at s2
        dsimp only at s2
        clear ha65 ha66 ha68
        have CS := Lib.hid (fun u => rfSized L u (by rw [HLS.out]; have := HLL.out; omega))
        rw [HNL.out] at CS
        have hz012 := sizL_012 left
        have hxb := sizL_byt HBL.out
        have hxl := sizL_len left
        obtain ⟨S, hS⟩ : ∃ S, sizL left = S := ⟨_, rfl⟩
        rw [hS] at CS hM hz012 hxb hxl
        obtain ⟨z, x⟩ := S
        simp only at CS hM hz012 hxb hxl
        have CE := Lib.hid (fun u => rfEval_any u (strOfNums x) 0 (by decide) (.slice none 0 0) [] (Els.Rd.nil_ u) (fun y hy => by cases hy) (by simp) (by rw [strOfNums_size]; have := HLL.out; omega))
        rw [str_nums _ hxb, lookB0] at CE
        have HE4 := Lib.hid (evalE_none 0 x)
        change Hid ((evalE 0 (lookL look0) x).2.1 = 0 → (evalE 0 (lookL look0) x).2.2.2 = false) at HE4
        subst hM
        have hoff := offL_K z r i x hz012 h5
        have hcv := constV_in x hxb
        obtain ⟨EV, hEV⟩ : ∃ EV, evalE 0 (lookL look0) x = EV := ⟨_, rfl⟩
        rw [hEV] at CE HE4
        obtain ⟨V, E, H, G⟩ := EV
        have HOF := Lib.hid (fun C D K2 K3 (a : (decide (E = 0) && !H) = C) b c d => hoff V E H G C D K2 K3 hEV a b c d)
        have HVB : Hid ((decide (E = 0) && !H) = true → 0 ≤ V ∧ V < 65536) := Lib.hid (fun h => by
          rw [Bool.and_eq_true, decide_eq_true_eq, Bool.not_eq_true'] at h
          have e : constV (V, E, H, G) = V := if_pos h
          rw [hEV, e] at hcv; exact hcv)
        clear hoff hEV hcv
        have HXX : Hid (strOfNums x = strOfNums x) := Lib.hid rfl
        obtain ⟨X, hX⟩ : ∃ X, strOfNums x = X := ⟨_, rfl⟩
        rw [hX] at CS CE
        have HX := Lib.hid hX.symm
        clear hX hxb hxl hS hl HXX
        go_wp2_with fail
        refine (CS.out _).mono ?_
        rintro e w4 ⟨rfl, hb⟩
        have T4 := Lib.hid (Blk.below Ta_1.out hb Ta_1.out.lt)
        have Z4 := Lib.hid (Blk.below Za_1.out hb Za_1.out.lt)
        have B4 := Lib.hid (Below.trans0 Ba_1.out hb)
        clear hb CS
        clear q0 q1 q2 q3 q4 q5 q6 p0 p1 p2 p3 p4 p5 p6 g0 g1 g2 g3 g4 g5 f0 f1 f2 f3 f4 f5 f6
        obtain ⟨q0, q1, q2, q3, q4, q5, q6⟩ := Blk.c7 T4.out
        obtain ⟨p0, p1, p2, p3, p4, p5, p6⟩ := Blk.c7 Z4.out
        have g0 := T4.out.frozen 0
        have g1 := T4.out.frozen 1
        have g2 := T4.out.frozen 2
        have g3 := T4.out.frozen 3
        have g4 := T4.out.frozen 4
        have g5 := T4.out.frozen 5
        have f0 := Z4.out.frozen 0
        have f1 := Z4.out.frozen 1
        have f2 := Z4.out.frozen 2
        have f3 := Z4.out.frozen 3
        have f4 := Z4.out.frozen 4
        have f5 := Z4.out.frozen 5
        have f6 := Z4.out.frozen 6
        go_upto_region 28 with (fail)
        have Tb_0 : Hid (Blk ((w4).setCell ⟨w.heap.size + 1, 1, none⟩ (.int .i64 z)) (w.heap.size + 1) 47 #[(.int .i64 3), (.int .i64 z), (.string ⟨#[]⟩), (.int .i64 0), (.int .i64 r), (.int .i64 0), (.bool i)]) := Lib.hid (Blk.set_ T4.out 1 (.int .i64 z))
        have Zb_0 : Hid (Blk ((w4).setCell ⟨w.heap.size + 1, 1, none⟩ (.int .i64 z)) w.heap.size 47 z7D) := Lib.hid (Blk.far Z4.out (by show w.heap.size ≠ w.heap.size + 1; omega) (.int .i64 z))
        have Bb_0 : Hid (Below w.heap.size w ((w4).setCell ⟨w.heap.size + 1, 1, none⟩ (.int .i64 z))) := Lib.hid (Below.set0 B4.out (by omega) (.int .i64 z))
        have Tb_1 : Hid (Blk (((w4).setCell ⟨w.heap.size + 1, 1, none⟩ (.int .i64 z)).setCell ⟨w.heap.size + 1, 2, none⟩ (.string X)) (w.heap.size + 1) 47 #[(.int .i64 3), (.int .i64 z), (.string X), (.int .i64 0), (.int .i64 r), (.int .i64 0), (.bool i)]) := Lib.hid (Blk.set_ Tb_0.out 2 (.string X))
        have Zb_1 : Hid (Blk (((w4).setCell ⟨w.heap.size + 1, 1, none⟩ (.int .i64 z)).setCell ⟨w.heap.size + 1, 2, none⟩ (.string X)) w.heap.size 47 z7D) := Lib.hid (Blk.far Zb_0.out (by show w.heap.size ≠ w.heap.size + 1; omega) (.string X))
        have Bb_1 : Hid (Below w.heap.size w (((w4).setCell ⟨w.heap.size + 1, 1, none⟩ (.int .i64 z)).setCell ⟨w.heap.size + 1, 2, none⟩ (.string X))) := Lib.hid (Below.set0 Bb_0.out (by omega) (.string X))
        generalize ((w4).setCell ⟨w.heap.size + 1, 1, none⟩ (.int .i64 z)).setCell ⟨w.heap.size + 1, 2, none⟩ (.string X) = Wb at Tb_1 Zb_1 Bb_1 ⊢
        clear q0 q1 q2 q3 q4 q5 q6 p0 p1 p2 p3 p4 p5 p6 g0 g1 g2 g3 g4 g5 f0 f1 f2 f3 f4 f5 f6
        obtain ⟨q0, q1, q2, q3, q4, q5, q6⟩ := Blk.c7 Tb_1.out
        obtain ⟨p0, p1, p2, p3, p4, p5, p6⟩ := Blk.c7 Zb_1.out
        have g0 := Tb_1.out.frozen 0
        have g1 := Tb_1.out.frozen 1
        have g2 := Tb_1.out.frozen 2
        have g3 := Tb_1.out.frozen 3
        have g4 := Tb_1.out.frozen 4
        have g5 := Tb_1.out.frozen 5
        have f0 := Zb_1.out.frozen 0
        have f1 := Zb_1.out.frozen 1
        have f2 := Zb_1.out.frozen 2
        have f3 := Zb_1.out.frozen 3
        have f4 := Zb_1.out.frozen 4
        have f5 := Zb_1.out.frozen 5
        have f6 := Zb_1.out.frozen 6
        go_wp2_with fail
        refine (CE.out _).mono ?_
        rintro e w6 ⟨⟨nq, rfl⟩, rfl⟩
        have T6 := Lib.hid (Blk.drewN Tb_1.out nq)
        have Z6 := Lib.hid (Blk.drewN Zb_1.out nq)
        have B6 := Lib.hid (Below.drewN0 Bb_1.out nq)
        clear CE
        dsimp only
        generalize Wb.drewN nq = W6 at T6 Z6 B6 ⊢
        clear q0 q1 q2 q3 q4 q5 q6 p0 p1 p2 p3 p4 p5 p6 g0 g1 g2 g3 g4 g5 f0 f1 f2 f3 f4 f5 f6
        obtain ⟨q0, q1, q2, q3, q4, q5, q6⟩ := Blk.c7 T6.out
        obtain ⟨p0, p1, p2, p3, p4, p5, p6⟩ := Blk.c7 Z6.out
        have g0 := T6.out.frozen 0
        have g1 := T6.out.frozen 1
        have g2 := T6.out.frozen 2
        have g3 := T6.out.frozen 3
        have g4 := T6.out.frozen 4
        have g5 := T6.out.frozen 5
        have f0 := Z6.out.frozen 0
        have f1 := Z6.out.frozen 1
        have f2 := Z6.out.frozen 2
        have f3 := Z6.out.frozen 3
        have f4 := Z6.out.frozen 4
        have f5 := Z6.out.frozen 5
        have f6 := Z6.out.frozen 6
        have HG : Hid (E = 0 → G = false) := HE4
        clear HE4
        go_upto_region 29 with (fail)
        exact inAK i w W6 z r V E X x (offL z r i x) h5 H G hz012 HG.out HX.out HVB.out HOF.out T6.out Z6.out B6.out _ _ _ _ _ _ _ _ _ _ _ _ _ _ _ _ _ _ _ _ _ _ _ _ _ _ _ _ _ _ _ _ _ _ _ _ _ _ _ _ _ _ _ _ _ _ _ _ _ _ _ _ _ _ _ _ _ _ _ _ _ _ _ _ _ _ _ _ _ _ _ _ _ _ _ _ _ _ _ _ _ _ _ _ _ _ _ _ _ _ _ _ _ _ _ _ _ _ _ _ _ _ _ _ _ _ _ _ _ _ _ _ _ _ _ _ _ _ _ _ _ _ _ _ _ _ _ _ _ _ _ _ _ _ _ _ _ _ _ _ _ _ _ _ _ _ _ _ _ _ _ _ _ _ _ _ _ _ _ _ _ _ _ _ _ _ _ _ _ _ _ (by assumption)
end Go.Proofs.YtmdpgekbiohfbabDoor
