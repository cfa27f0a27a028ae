/- The document's operands (spinetref45): the contract of inside. -/
import Derived.Test.YtmdpgekbiohfbabDoorLdv
namespace Go.Proofs.YtmdpgekbiohfbabDoor
open Go.ChangeShapes Go.WideShapes Go.ChangeAt Go.RowKit
set_option linter.unusedVariables false

/-- .. where there is no comma. -/
def memA (l : List Int) (i : Bool) : AgV × Bool :=
  if i = true then (if (sizL l).1 = 1 then (agZ, false) else (⟨3, (sizL l).1, (sizL l).2, 13, 0, 0, true⟩, true)) else (⟨2, (sizL l).1, (sizL l).2, 0, 0, 0, false⟩, true)
set_option maxRecDepth 100000 in
set_option maxHeartbeats 6000000 in
theorem rfInside (s : ByteArray) (i : Bool) (w : World) (hs : s.size ≤ 1000000) :
    Calls Tryd.prog 39 #[.string s, .bool i] w (InPost (memL s i) w) := by
  have HBN := Lib.hid (get_nums s)
  obtain ⟨M, hM⟩ : ∃ M, memL s i = M := ⟨_, rfl⟩
  have HM := Lib.hid hM
  rw [hM]
  clear hM
  have Z0 := Lib.hid (Blk.new w 47 z7D (0, 0))
  have B0 := Lib.hid (Below.alloc0 (Below.refl w.heap.size w) (.cells z7D 47))
  have hsz : (w.alloc (.cells z7D 47)).heap.size = w.heap.size + 1 := by simp
  have HSZ := Lib.hid hsz
  clear hsz
  obtain ⟨cc, hcc⟩ : ∃ c, Lib.lastIdx s 44 s.size = c := ⟨_, rfl⟩
  have HCC := Lib.hid hcc
  have HC1 : Hid (cc < s.size ∧ -1 ≤ cc) := Lib.hid (by rw [← hcc]; exact lastIdx_in s)
  clear hcc
  go_enter Tryd.func39, Tryd.ntmps39
  go_upto_block 0 with (fail)
  obtain ⟨W0, hW0⟩ : ∃ W0, w.alloc (.cells z7D 47) = W0 := ⟨_, rfl⟩
  rw [hW0] at Z0 B0 HSZ
  have hW1 : w.alloc (.cells #[.int .i64 0, .int .i64 0, .string ⟨#[]⟩, .int .i64 0, .int .i64 0, .int .i64 0, .bool false] 47) = W0 := hW0
  rw [hW1]
  clear hW0 hW1
  go_cut [6] (fun u6 wx => u6 = .int .i64 cc ∧ wx = W0)
  case first =>
    go_wp2
    go_loop [6, 7] (fun u6 u7 => ∃ n : Nat, n ≤ s.size ∧ u7 = .int .i64 (n : Int) ∧ u6 = .int .i64 (Lib.lastIdx s 44 n)) (fun _ u7 => s.size - (intOf u7).toNat)
    case atStart => exact ⟨0, by omega, rfl, rfl⟩
    case round =>
      obtain ⟨n, hn, rfl, rfl⟩ := hrel
      by_cases hlt : n < s.size
      · have hx := HBN.out n hlt
        have HD := Lib.hid (dat_at s n hlt)
        have hx2 : ∀ h : n < s.size, ((s[n]'h).toNat : Int) = iat (nums s) n := fun h => HBN.out n h
        obtain ⟨r0, r1⟩ := iat_nums_range s n
        clear hx
        by_cases h44 : iat (nums s) n = 44
        · have HN := Lib.hid (Lib.lastIdx_hit s 44 n (by rw [HD.out]; exact h44))
          rw [h44] at hx2
          clear h44 r0 r1 HD
          go_wp2
          go_round
          case rel => exact ⟨n + 1, by omega, by go_num, by rw [HN.out]⟩
          case measure => simp [intOf]; omega
        · have HN := Lib.hid (Lib.lastIdx_miss s 44 n (by rw [HD.out]; exact h44))
          generalize iat (nums s) n = x at *
          clear HD
          go_wp2
          go_round
          case rel => exact ⟨n + 1, by omega, by go_num, by rw [HN.out]⟩
          case measure => simp [intOf]; omega
      · obtain rfl : n = s.size := by omega
        have k1 : ¬ (s.size : Int) < (s.size : Int) := by omega
        go_wp2
        go_meet
        case rel => exact ⟨by rw [HCC.out], rfl⟩
  case rest =>
      obtain ⟨rfl, hwx⟩ := hcut
      replace hwx := hwx.symm
      subst hwx
      have hM := HM.out
      unfold memL at hM
      change (if 0 ≤ Lib.lastIdx s 44 s.size then idxL ((nums s).take (Lib.lastIdx s 44 s.size).toNat) ((nums s).drop ((Lib.lastIdx s 44 s.size).toNat + 1)) i else memA (nums s) i) = M at hM
      rw [HCC.out] at hM
      clear HM HCC
      generalize cc = c at hM HC1 ⊢
      have hsz0 := HSZ.out
      by_cases hc : 0 ≤ c
      · rw [if_pos hc] at hM
        obtain ⟨cn, rfl⟩ := Int.eq_ofNat_of_zero_le hc
        rw [Int.toNat_natCast, idxL_eq] at hM
        have hcn : cn < s.size := by have := HC1.out; omega
        have E1 := ext_takeP s cn
        have E2 := ext_dropP s (cn + 1)
        have hbr : BytL ((nums s).drop (cn + 1)) := (BytL.nums s).drop _
        have hbl : BytL ((nums s).take cn) := (BytL.nums s).take _
        have hll : ((nums s).take cn).length ≤ 1000000 := by rw [List.length_take, nums_len]; omega
        have CR := fun u => rfRegister (strOfNums ((nums s).drop (cn + 1))) u (by rw [strOfNums_size, List.length_drop, nums_len]; omega)
        rw [str_nums _ hbr, rg_reg _ (stepL_byt hbr) _] at CR
        have hk0 := stepL_k0 ((nums s).drop (cn + 1))
        generalize (nums s).take cn = left at E1 hbl hll hM
        generalize (regOf (strOfNums (stepL ((nums s).drop (cn + 1))).1)).1 = r at CR hM
        generalize (regOf (strOfNums (stepL ((nums s).drop (cn + 1))).1)).2 = ok at CR hM
        generalize (stepL ((nums s).drop (cn + 1))).2 = k at CR hM hk0
        generalize strOfNums ((nums s).drop (cn + 1)) = RT at E2 CR
        obtain ⟨L, hL⟩ : ∃ L, strOfNums left = L := ⟨_, rfl⟩
        rw [hL] at E1
        have hnl : nums L = left := by rw [← hL]; exact str_nums _ hbl
        have hLs : L.size = left.length := by rw [← nums_len, hnl]
        have wn : IntKind.i64.wrap ((cn : Int) + 1) = (cn : Int) + 1 := IntWalk.i64_in _ (by omega)
        have hsl1 : ∀ u : World, (Instr.slice 9 (.string s) none (some (.int .i64 (cn : Int))) none).run Tryd.prog u = .ok (.string L) u := fun u => by
          rw [run_slice_string_h u 9 s Tryd.underlying9 .i64 (cn : Int) (by omega) (by omega), show ((cn : Int)).toNat = cn by omega, E1]
        have hsl2 : ∀ u : World, (Instr.slice 9 (.string s) (some (.int .i64 ((cn : Int) + 1))) none none).run Tryd.prog u = .ok (.string RT) u := fun u => by
          rw [run_slice_string_l u 9 s Tryd.underlying9 .i64 ((cn : Int) + 1) (by omega) (by omega), show ((cn : Int) + 1).toNat = cn + 1 by omega, E2]
        have HL0 := Lib.hid hL
        have HMM := Lib.hid hM
        have HNL := Lib.hid hnl
        have HLS := Lib.hid hLs
        have HBL := Lib.hid hbl
        have HLL := Lib.hid hll
        have HK0 := Lib.hid hk0
        have HCR := Lib.hid CR
        clear hM hbr hbl hll hk0 hL hnl hLs E1 E2 CR HC1 hc
        have hc0 : ¬ (cn : Int) < 0 := by omega
        have T0 := Lib.hid (Blk.new W0 47 #[(.int .i64 3), (.int .i64 0), (.string ⟨#[]⟩), (.int .i64 0), (.int .i64 0), (.int .i64 0), (.bool i)] (0, 0))
        rw [HSZ.out] at T0
        have Z1 := Lib.hid (Blk.alloc Z0.out (.cells #[(.int .i64 3), (.int .i64 0), (.string ⟨#[]⟩), (.int .i64 0), (.int .i64 0), (.int .i64 0), (.bool i)] 47))
        have B1 := Lib.hid (Below.alloc0 B0.out (.cells #[(.int .i64 3), (.int .i64 0), (.string ⟨#[]⟩), (.int .i64 0), (.int .i64 0), (.int .i64 0), (.bool i)] 47))
        go_wp2_with fail
        refine (HCR.out _).mono ?_
        rintro e w2 ⟨rfl, hb⟩
        have T2 := Lib.hid (Blk.below T0.out hb T0.out.lt)
        have Z2 := Lib.hid (Blk.below Z1.out hb Z1.out.lt)
        have B2 := Lib.hid (Below.trans0 B1.out hb)
        clear hb T0 Z1 B1 HCR hsl1 hsl2 wn
        obtain ⟨q0, q1, q2, q3, q4, q5, q6⟩ := Blk.c7 T2.out
        obtain ⟨p0, p1, p2, p3, p4, p5, p6⟩ := Blk.c7 Z2.out
        have g0 := T2.out.frozen 0
        have g1 := T2.out.frozen 1
        have g2 := T2.out.frozen 2
        have g3 := T2.out.frozen 3
        have g4 := T2.out.frozen 4
        have g5 := T2.out.frozen 5
        have f0 := Z2.out.frozen 0
        have f1 := Z2.out.frozen 1
        have f2 := Z2.out.frozen 2
        have f3 := Z2.out.frozen 3
        have f4 := Z2.out.frozen 4
        have f5 := Z2.out.frozen 5
        have f6 := Z2.out.frozen 6
        have hM := HMM.out
        unfold idxR at hM
        by_cases hf : ok = false ∨ ptB r k = false
        · rw [if_pos hf] at hM ⊢
          subst hM
          clear HMM
          go_upto_region 16 with (fail)
          have Ta_0 : Hid (Blk ((w2).setCell ⟨w.heap.size + 1, 4, none⟩ (.int .i64 (-1))) (w.heap.size + 1) 47 #[(.int .i64 3), (.int .i64 0), (.string ⟨#[]⟩), (.int .i64 0), (.int .i64 (-1)), (.int .i64 0), (.bool i)]) := Lib.hid (Blk.set_ T2.out 4 (.int .i64 (-1)))
          have Za_0 : Hid (Blk ((w2).setCell ⟨w.heap.size + 1, 4, none⟩ (.int .i64 (-1))) w.heap.size 47 z7D) := Lib.hid (Blk.far Z2.out (by show w.heap.size ≠ w.heap.size + 1; omega) (.int .i64 (-1)))
          have Ba_0 : Hid (Below w.heap.size w ((w2).setCell ⟨w.heap.size + 1, 4, none⟩ (.int .i64 (-1)))) := Lib.hid (Below.set0 B2.out (by omega) (.int .i64 (-1)))
          have Ta_1 : Hid (Blk (((w2).setCell ⟨w.heap.size + 1, 4, none⟩ (.int .i64 (-1))).setCell ⟨w.heap.size + 1, 3, none⟩ (.int .i64 0)) (w.heap.size + 1) 47 #[(.int .i64 3), (.int .i64 0), (.string ⟨#[]⟩), (.int .i64 0), (.int .i64 (-1)), (.int .i64 0), (.bool i)]) := Lib.hid (Blk.set_ Ta_0.out 3 (.int .i64 0))
          have Za_1 : Hid (Blk (((w2).setCell ⟨w.heap.size + 1, 4, none⟩ (.int .i64 (-1))).setCell ⟨w.heap.size + 1, 3, none⟩ (.int .i64 0)) w.heap.size 47 z7D) := Lib.hid (Blk.far Za_0.out (by show w.heap.size ≠ w.heap.size + 1; omega) (.int .i64 0))
          have Ba_1 : Hid (Below w.heap.size w (((w2).setCell ⟨w.heap.size + 1, 4, none⟩ (.int .i64 (-1))).setCell ⟨w.heap.size + 1, 3, none⟩ (.int .i64 0))) := Lib.hid (Below.set0 Ba_0.out (by omega) (.int .i64 0))
          generalize ((w2).setCell ⟨w.heap.size + 1, 4, none⟩ (.int .i64 (-1))).setCell ⟨w.heap.size + 1, 3, none⟩ (.int .i64 0) = Wa at Ta_1 Za_1 Ba_1 ⊢
          clear q0 q1 q2 q3 q4 q5 q6 p0 p1 p2 p3 p4 p5 p6 g0 g1 g2 g3 g4 g5 f0 f1 f2 f3 f4 f5 f6
          obtain ⟨q0, q1, q2, q3, q4, q5, q6⟩ := Blk.c7 Ta_1.out
          obtain ⟨p0, p1, p2, p3, p4, p5, p6⟩ := Blk.c7 Za_1.out
          have g0 := Ta_1.out.frozen 0
          have g1 := Ta_1.out.frozen 1
          have g2 := Ta_1.out.frozen 2
          have g3 := Ta_1.out.frozen 3
          have g4 := Ta_1.out.frozen 4
          have g5 := Ta_1.out.frozen 5
          have f0 := Za_1.out.frozen 0
          have f1 := Za_1.out.frozen 1
          have f2 := Za_1.out.frozen 2
          have f3 := Za_1.out.frozen 3
          have f4 := Za_1.out.frozen 4
          have f5 := Za_1.out.frozen 5
          have f6 := Za_1.out.frozen 6
          go_wp2
          refine bodyPost_ret (v := .tuple #[.agg #[(.int .i64 0), (.int .i64 0), (.string ⟨#[]⟩), (.int .i64 0), (.int .i64 0), (.int .i64 0), (.bool false)], .bool false]) (resIn _ _ w.heap.size _ (Blk.set7 (by repeat (first | exact Za_1.out | refine Blk.far ?_ (by show w.heap.size ≠ w.heap.size + 1; omega) _))) rfl rfl false rfl) rfl ?_
          exact ⟨0, 0, ⟨#[]⟩, 0, 0, 0, false, rfl, fun h => absurd h Bool.false_ne_true, (Below.set7 (by repeat (first | exact Ba_1.out | refine Below.set0 ?_ (by omega) _)) (Nat.le_refl _) _ _ _ _ _ _ _)⟩
        · rw [if_neg hf] at hM ⊢
          have hp : ptB r k = true := by
            cases hh : ptB r k
            · exact absurd (.inr hh) hf
            · rfl
          obtain ⟨r1, r5, rk⟩ := ptB_15 hp
          have hk0 := HK0.out
          clear HMM HK0 hf hp
          dsimp only
          go_upto_region 16 with (fail)
          have Ta_0 : Hid (Blk ((w2).setCell ⟨w.heap.size + 1, 4, none⟩ (.int .i64 r)) (w.heap.size + 1) 47 #[(.int .i64 3), (.int .i64 0), (.string ⟨#[]⟩), (.int .i64 0), (.int .i64 r), (.int .i64 0), (.bool i)]) := Lib.hid (Blk.set_ T2.out 4 (.int .i64 r))
          have Za_0 : Hid (Blk ((w2).setCell ⟨w.heap.size + 1, 4, none⟩ (.int .i64 r)) w.heap.size 47 z7D) := Lib.hid (Blk.far Z2.out (by show w.heap.size ≠ w.heap.size + 1; omega) (.int .i64 r))
          have Ba_0 : Hid (Below w.heap.size w ((w2).setCell ⟨w.heap.size + 1, 4, none⟩ (.int .i64 r))) := Lib.hid (Below.set0 B2.out (by omega) (.int .i64 r))
          have Ta_1 : Hid (Blk (((w2).setCell ⟨w.heap.size + 1, 4, none⟩ (.int .i64 r)).setCell ⟨w.heap.size + 1, 3, none⟩ (.int .i64 k)) (w.heap.size + 1) 47 #[(.int .i64 3), (.int .i64 0), (.string ⟨#[]⟩), (.int .i64 k), (.int .i64 r), (.int .i64 0), (.bool i)]) := Lib.hid (Blk.set_ Ta_0.out 3 (.int .i64 k))
          have Za_1 : Hid (Blk (((w2).setCell ⟨w.heap.size + 1, 4, none⟩ (.int .i64 r)).setCell ⟨w.heap.size + 1, 3, none⟩ (.int .i64 k)) w.heap.size 47 z7D) := Lib.hid (Blk.far Za_0.out (by show w.heap.size ≠ w.heap.size + 1; omega) (.int .i64 k))
          have Ba_1 : Hid (Below w.heap.size w (((w2).setCell ⟨w.heap.size + 1, 4, none⟩ (.int .i64 r)).setCell ⟨w.heap.size + 1, 3, none⟩ (.int .i64 k))) := Lib.hid (Below.set0 Ba_0.out (by omega) (.int .i64 k))
          generalize ((w2).setCell ⟨w.heap.size + 1, 4, none⟩ (.int .i64 r)).setCell ⟨w.heap.size + 1, 3, none⟩ (.int .i64 k) = Wa at Ta_1 Za_1 Ba_1 ⊢
          exact inE i w Wa r k L left M r1 r5 rk hk0 HL0.out HNL.out HLS.out HBL.out HLL.out hM Ta_1.out Za_1.out Ba_1.out _ _ _ _ _ _ _ _ _ _ _ _ _ _ _ _ _ _ _ _ _ _ _ _ _ _ _ _ _ _ _ _ _ _ _ _ _ _ _ _ _ _ _ _ _ _ _ _ _ _ _ _ _ _ _ _ _ _ _ _ _ _ _ _ _ _ _ _ _ _ _ _ _ _ _ _ _ _ _ _ _ _ _ _ _ _ _ _ _ _ _ _ _ _ _ _ _ _ _ _ _ _ _ _ _ _ _ _ _ _ _ _ _ _ _ _ _ _ _ _ _ _ _ _ _ _ _ _ _ _ _ _ _ _ _ _ _ _ _ _ _ _ _ _ _ _ _ _ _ _ _ _ _ _ _ _ _ _ _ _ _ _ _ _ _ _ _ _ _ _ _ _ _ _ (by assumption) (by assumption)
      · rw [if_neg hc] at hM
        have hc1 : c < 0 := by omega
        have CS := Lib.hid (fun u => rfSized s u (by omega))
        obtain ⟨S, hS⟩ : ∃ S, sizL (nums s) = S := ⟨_, rfl⟩
        rw [hS] at CS
        unfold memA at hM
        rw [hS] at hM
        obtain ⟨z, x⟩ := S
        simp only at CS hM
        have HMM := Lib.hid hM
        clear hM hS hc HC1
        have T0 := Lib.hid (Blk.new W0 47 #[.int .i64 2, .int .i64 0, .string ⟨#[]⟩, .int .i64 0, .int .i64 0, .int .i64 0, .bool i] (0, 0))
        rw [HSZ.out] at T0
        have Z1 := Lib.hid (Blk.alloc Z0.out (.cells #[.int .i64 2, .int .i64 0, .string ⟨#[]⟩, .int .i64 0, .int .i64 0, .int .i64 0, .bool i] 47))
        have B1 := Lib.hid (Below.alloc0 B0.out (.cells #[.int .i64 2, .int .i64 0, .string ⟨#[]⟩, .int .i64 0, .int .i64 0, .int .i64 0, .bool i] 47))
        go_wp2_with fail
        refine (CS.out _).mono ?_
        rintro e w2 ⟨rfl, hb⟩
        have T2 := Lib.hid (Blk.below T0.out hb T0.out.lt)
        have Z2 := Lib.hid (Blk.below Z1.out hb Z1.out.lt)
        have B2 := Lib.hid (Below.trans0 B1.out hb)
        clear hb T0 Z1 B1 CS
        obtain ⟨X, hX⟩ : ∃ X, strOfNums x = X := ⟨_, rfl⟩
        have HXX := Lib.hid hX.symm
        rw [hX]
        clear hX
        obtain ⟨q0, q1, q2, q3, q4, q5, q6⟩ := T2.out.c7
        have f0 := T2.out.frozen 0
        have f1 := T2.out.frozen 1
        have f2 := T2.out.frozen 2
        have f3 := T2.out.frozen 3
        cases i
        · have hM := HMM.out
          rw [if_neg (by decide)] at hM
          subst hM
          go_upto_region 12 with (fail)
          have T_0 : Hid (Blk ((w2).setCell ⟨w.heap.size + 1, 1, none⟩ (.int .i64 z)) (w.heap.size + 1) 47 #[(.int .i64 2), .int .i64 z, (.string ⟨#[]⟩), (.int .i64 0), (.int .i64 0), (.int .i64 0), (.bool false)]) := Lib.hid (Blk.set_ T2.out 1 (.int .i64 z))
          have Z_0 : Hid (Blk ((w2).setCell ⟨w.heap.size + 1, 1, none⟩ (.int .i64 z)) w.heap.size 47 z7D) := Lib.hid (Blk.far Z2.out (by show w.heap.size ≠ w.heap.size + 1; omega) (.int .i64 z))
          have B_0 : Hid (Below w.heap.size w ((w2).setCell ⟨w.heap.size + 1, 1, none⟩ (.int .i64 z))) := Lib.hid (Below.set0 B2.out (by omega) (.int .i64 z))
          have T_1 : Hid (Blk (((w2).setCell ⟨w.heap.size + 1, 1, none⟩ (.int .i64 z)).setCell ⟨w.heap.size + 1, 2, none⟩ (.string X)) (w.heap.size + 1) 47 #[(.int .i64 2), .int .i64 z, .string X, (.int .i64 0), (.int .i64 0), (.int .i64 0), (.bool false)]) := Lib.hid (Blk.set_ T_0.out 2 (.string X))
          have Z_1 : Hid (Blk (((w2).setCell ⟨w.heap.size + 1, 1, none⟩ (.int .i64 z)).setCell ⟨w.heap.size + 1, 2, none⟩ (.string X)) w.heap.size 47 z7D) := Lib.hid (Blk.far Z_0.out (by show w.heap.size ≠ w.heap.size + 1; omega) (.string X))
          have B_1 : Hid (Below w.heap.size w (((w2).setCell ⟨w.heap.size + 1, 1, none⟩ (.int .i64 z)).setCell ⟨w.heap.size + 1, 2, none⟩ (.string X))) := Lib.hid (Below.set0 B_0.out (by omega) (.string X))
          generalize ((w2).setCell ⟨w.heap.size + 1, 1, none⟩ (.int .i64 z)).setCell ⟨w.heap.size + 1, 2, none⟩ (.string X) = W8 at T_1 Z_1 B_1 ⊢
          clear q0 q1 q2 q3 q4 q5 q6 f0 f1 f2 f3
          obtain ⟨q0, q1, q2, q3, q4, q5, q6⟩ := Blk.c7 T_1.out
          obtain ⟨p0, p1, p2, p3, p4, p5, p6⟩ := Blk.c7 Z_1.out
          have f0 := Z_1.out.frozen 0
          have f1 := Z_1.out.frozen 1
          have f2 := Z_1.out.frozen 2
          have f3 := Z_1.out.frozen 3
          have f4 := Z_1.out.frozen 4
          have f5 := Z_1.out.frozen 5
          have f6 := Z_1.out.frozen 6
          refine wp_region_noPanic ?_
          refine wp_region_held_drew (S := (fun _ => True)) (by kernel_rfl) ?_ (fun hH0 => ?_)
          · trivial
          refine wpAnyH_take (i := 1) (oi := ({ dst := some 40, op := Op.move (Operand.tmp 1), type := 4, pos := "ref.go:69", after := #[], guard := none } : Oper)) (v := ?_) rfl (by kernel_rfl) (by kernel_rfl) (by kernel_rfl) (fun _ _ _ h => h) (Or.inl ⟨by rfl, ?_⟩) (by assumption) ?_
          rotate_left 1
          · (intro w hSw; (try dsimp only at hSw); go_simp; (try with_reducible rfl))
          (try simp only [Act.put, List.setIfInBounds_toArray, List.set_cons_zero, List.set_cons_succ])
          refine wpAnyH_take (i := 2) (oi := ({ dst := some 41, op := Op.unOp UnOp.not 4 (Operand.tmp 40), type := 4, pos := "ref.go:69", after := #[{ on := 1, ground := Ground.data }], guard := none } : Oper)) (v := ?_) rfl (by kernel_rfl) (by kernel_rfl) (by kernel_rfl) (fun _ _ _ h => h) (Or.inl ⟨by rfl, ?_⟩) (by assumption) ?_
          rotate_left 1
          · (intro w hSw; (try dsimp only at hSw); go_simp; (try with_reducible rfl))
          (try simp only [Act.put, List.setIfInBounds_toArray, List.set_cons_zero, List.set_cons_succ])
          refine wpAnyH_take (i := 3) (oi := ({ dst := some 42, op := Op.move (Operand.tmp 41), type := 4, pos := "ref.go:69", after := #[{ on := 2, ground := Ground.data }], guard := none } : Oper)) (v := ?_) rfl (by kernel_rfl) (by kernel_rfl) (by kernel_rfl) (fun _ _ _ h => h) (Or.inl ⟨by rfl, ?_⟩) (by assumption) ?_
          rotate_left 1
          · (intro w hSw; (try dsimp only at hSw); go_simp; (try with_reducible rfl))
          (try simp only [Act.put, List.setIfInBounds_toArray, List.set_cons_zero, List.set_cons_succ])
          refine wpAnyH_take (i := 4) (oi := ({ dst := some 43, op := Op.fieldAddr 47 (Operand.tmp 8) 1, type := 0, pos := "ref.go:69", after := #[{ on := 3, ground := Ground.guard }, { on := 8, ground := Ground.gcOnly Departure.lateStores }], guard := some (3, false) } : Oper)) (v := undef) rfl (by kernel_rfl) (by kernel_rfl) (by kernel_rfl) (fun _ _ _ h => h) (Or.inr ⟨by rfl, rfl⟩) (by assumption) ?_
          (try simp only [Act.put, List.setIfInBounds_toArray, List.set_cons_zero, List.set_cons_succ])
          refine wpAnyH_take (i := 5) (oi := ({ dst := some 44, op := Op.load 3 (Operand.tmp 43), type := 3, pos := "ref.go:69", after := #[{ on := 4, ground := Ground.data }, { on := 3, ground := Ground.guard }, { on := 8, ground := Ground.gcOnly Departure.lateStores }], guard := some (3, false) } : Oper)) (v := undef) rfl (by kernel_rfl) (by kernel_rfl) (by kernel_rfl) (fun _ _ _ h => h) (Or.inr ⟨by rfl, rfl⟩) (by assumption) ?_
          (try simp only [Act.put, List.setIfInBounds_toArray, List.set_cons_zero, List.set_cons_succ])
          refine wpAnyH_take (i := 6) (oi := ({ dst := some 45, op := Op.binOp BinOp.neq 3 (Operand.tmp 44) (Operand.const (Value.int IntKind.i64 1)) 3, type := 4, pos := "ref.go:69", after := #[{ on := 5, ground := Ground.data }, { on := 3, ground := Ground.guard }, { on := 8, ground := Ground.gcOnly Departure.lateStores }], guard := some (3, false) } : Oper)) (v := undef) rfl (by kernel_rfl) (by kernel_rfl) (by kernel_rfl) (fun _ _ _ h => h) (Or.inr ⟨by rfl, rfl⟩) (by assumption) ?_
          (try simp only [Act.put, List.setIfInBounds_toArray, List.set_cons_zero, List.set_cons_succ])
          refine wpAnyH_take (i := 7) (oi := ({ dst := some 46, op := Op.pick (Operand.tmp 42) (Operand.const (Value.bool true)) (Operand.tmp 45), type := 4, pos := "ref.go:69", after := #[{ on := 3, ground := Ground.data }, { on := 6, ground := Ground.data }, { on := 8, ground := Ground.gcOnly Departure.lateStores }], guard := none } : Oper)) (v := ?_) rfl (by kernel_rfl) (by kernel_rfl) (by kernel_rfl) (fun _ _ _ h => h) (Or.inl ⟨by rfl, ?_⟩) (by assumption) ?_
          rotate_left 1
          · (intro w hSw; (try dsimp only at hSw); go_simp; (try with_reducible rfl))
          (try simp only [Act.put, List.setIfInBounds_toArray, List.set_cons_zero, List.set_cons_succ])
          refine wpAnyH_ready (rs := [0]) (by kernel_rfl) (by simp) ?_
          refine AllReadyH.cons (o := ({ dst := some 39, op := Op.load 47 (Operand.tmp 8), type := 47, pos := "ref.go:69", after := #[], guard := none } : Oper)) rfl (fun K hK => ?_) ?_
          rotate_left 1
          · exact AllReadyH.nil
          go_simp
          first | (refine hK.out _ _ ?_ (fun hH1 => ?_)) | (go_wp2_with fail; refine hK.out _ _ ?_ (fun hH1 => ?_))
          · trivial
          clear hK K hH0
          (try simp only [Act.put, List.setIfInBounds_toArray, List.set_cons_zero, List.set_cons_succ])
          refine wpAnyH_ready (rs := [8]) (by kernel_rfl) (by simp) ?_
          refine AllReadyH.cons (o := ({ dst := none, op := Op.store 47 (Operand.tmp 4) (Operand.tmp 39), type := 0, pos := "ref.go:69", after := #[{ on := 0, ground := Ground.data }, { on := 3, ground := Ground.chain }, { on := 0, ground := Ground.phase }, { on := 1, ground := Ground.textOnly Departure.lateStores }, { on := 2, ground := Ground.textOnly Departure.lateStores }, { on := 3, ground := Ground.textOnly Departure.lateStores }, { on := 4, ground := Ground.textOnly Departure.lateStores }, { on := 5, ground := Ground.textOnly Departure.lateStores }, { on := 6, ground := Ground.textOnly Departure.lateStores }, { on := 7, ground := Ground.textOnly Departure.lateStores }], guard := none } : Oper)) rfl (fun K hK => ?_) ?_
          rotate_left 1
          · exact AllReadyH.nil
          go_simp
          first | (refine hK.out _ _ ?_ (fun hH2 => ?_)) | (go_wp2_with fail; refine hK.out _ _ ?_ (fun hH2 => ?_))
          · trivial
          clear hK K hH1
          (try simp only [Act.put, List.setIfInBounds_toArray, List.set_cons_zero, List.set_cons_succ])
          refine wpAnyH_take (i := 9) (oi := ({ dst := some 5, op := Op.assign (Operand.tmp 46), type := 4, pos := "ref.go:69", after := #[{ on := 7, ground := Ground.data }, { on := 8, ground := Ground.chain }, { on := 0, ground := Ground.phase }, { on := 1, ground := Ground.phase }, { on := 2, ground := Ground.phase }, { on := 3, ground := Ground.phase }, { on := 4, ground := Ground.phase }, { on := 5, ground := Ground.phase }, { on := 6, ground := Ground.phase }, { on := 7, ground := Ground.phase }, { on := 8, ground := Ground.phase }], guard := none } : Oper)) (v := ?_) rfl (by kernel_rfl) (by kernel_rfl) (by kernel_rfl) (fun _ _ _ h => h) (Or.inl ⟨by rfl, ?_⟩) (by assumption) ?_
          rotate_left 1
          · (intro w hSw; (try dsimp only at hSw); go_simp; (try with_reducible rfl))
          (try simp only [Act.put, List.setIfInBounds_toArray, List.set_cons_zero, List.set_cons_succ])
          refine wpAnyH_done (by kernel_rfl) ?_ _
          refine NoPanic.normal ?_
          go_wp2
          refine bodyPost_ret (v := .tuple #[.agg #[(.int .i64 2), .int .i64 z, .string X, (.int .i64 0), (.int .i64 0), (.int .i64 0), (.bool false)], .bool true]) (resIn _ _ w.heap.size _ (Blk.drew (Blk.set7 Z_1.out)) rfl rfl true rfl) rfl ?_
          exact ⟨2, z, X, 0, 0, 0, false, rfl, fun _ => ⟨rfl, rfl, HXX.out, rfl, rfl, rfl, rfl⟩, (Below.drew0 (Below.set7 B_1.out (Nat.le_refl _) _ _ _ _ _ _ _))⟩
        · have hM := HMM.out
          rw [if_pos rfl] at hM
          by_cases hz : z = 1
          · rw [if_pos hz] at hM
            subst hM
            subst hz
            go_upto_region 12 with (fail)
            have T_0 : Hid (Blk ((w2).setCell ⟨w.heap.size + 1, 1, none⟩ (.int .i64 1)) (w.heap.size + 1) 47 #[(.int .i64 2), .int .i64 1, (.string ⟨#[]⟩), (.int .i64 0), (.int .i64 0), (.int .i64 0), (.bool true)]) := Lib.hid (Blk.set_ T2.out 1 (.int .i64 1))
            have Z_0 : Hid (Blk ((w2).setCell ⟨w.heap.size + 1, 1, none⟩ (.int .i64 1)) w.heap.size 47 z7D) := Lib.hid (Blk.far Z2.out (by show w.heap.size ≠ w.heap.size + 1; omega) (.int .i64 1))
            have B_0 : Hid (Below w.heap.size w ((w2).setCell ⟨w.heap.size + 1, 1, none⟩ (.int .i64 1))) := Lib.hid (Below.set0 B2.out (by omega) (.int .i64 1))
            have T_1 : Hid (Blk (((w2).setCell ⟨w.heap.size + 1, 1, none⟩ (.int .i64 1)).setCell ⟨w.heap.size + 1, 2, none⟩ (.string X)) (w.heap.size + 1) 47 #[(.int .i64 2), .int .i64 1, .string X, (.int .i64 0), (.int .i64 0), (.int .i64 0), (.bool true)]) := Lib.hid (Blk.set_ T_0.out 2 (.string X))
            have Z_1 : Hid (Blk (((w2).setCell ⟨w.heap.size + 1, 1, none⟩ (.int .i64 1)).setCell ⟨w.heap.size + 1, 2, none⟩ (.string X)) w.heap.size 47 z7D) := Lib.hid (Blk.far Z_0.out (by show w.heap.size ≠ w.heap.size + 1; omega) (.string X))
            have B_1 : Hid (Below w.heap.size w (((w2).setCell ⟨w.heap.size + 1, 1, none⟩ (.int .i64 1)).setCell ⟨w.heap.size + 1, 2, none⟩ (.string X))) := Lib.hid (Below.set0 B_0.out (by omega) (.string X))
            have T_2 : Hid (Blk ((((w2).setCell ⟨w.heap.size + 1, 1, none⟩ (.int .i64 1)).setCell ⟨w.heap.size + 1, 2, none⟩ (.string X)).setCell ⟨w.heap.size + 1, 0, none⟩ (.int .i64 3)) (w.heap.size + 1) 47 #[.int .i64 3, .int .i64 1, .string X, (.int .i64 0), (.int .i64 0), (.int .i64 0), (.bool true)]) := Lib.hid (Blk.set_ T_1.out 0 (.int .i64 3))
            have Z_2 : Hid (Blk ((((w2).setCell ⟨w.heap.size + 1, 1, none⟩ (.int .i64 1)).setCell ⟨w.heap.size + 1, 2, none⟩ (.string X)).setCell ⟨w.heap.size + 1, 0, none⟩ (.int .i64 3)) w.heap.size 47 z7D) := Lib.hid (Blk.far Z_1.out (by show w.heap.size ≠ w.heap.size + 1; omega) (.int .i64 3))
            have B_2 : Hid (Below w.heap.size w ((((w2).setCell ⟨w.heap.size + 1, 1, none⟩ (.int .i64 1)).setCell ⟨w.heap.size + 1, 2, none⟩ (.string X)).setCell ⟨w.heap.size + 1, 0, none⟩ (.int .i64 3))) := Lib.hid (Below.set0 B_1.out (by omega) (.int .i64 3))
            have T_3 : Hid (Blk (((((w2).setCell ⟨w.heap.size + 1, 1, none⟩ (.int .i64 1)).setCell ⟨w.heap.size + 1, 2, none⟩ (.string X)).setCell ⟨w.heap.size + 1, 0, none⟩ (.int .i64 3)).setCell ⟨w.heap.size + 1, 3, none⟩ (.int .i64 13)) (w.heap.size + 1) 47 #[.int .i64 3, .int .i64 1, .string X, .int .i64 13, (.int .i64 0), (.int .i64 0), (.bool true)]) := Lib.hid (Blk.set_ T_2.out 3 (.int .i64 13))
            have Z_3 : Hid (Blk (((((w2).setCell ⟨w.heap.size + 1, 1, none⟩ (.int .i64 1)).setCell ⟨w.heap.size + 1, 2, none⟩ (.string X)).setCell ⟨w.heap.size + 1, 0, none⟩ (.int .i64 3)).setCell ⟨w.heap.size + 1, 3, none⟩ (.int .i64 13)) w.heap.size 47 z7D) := Lib.hid (Blk.far Z_2.out (by show w.heap.size ≠ w.heap.size + 1; omega) (.int .i64 13))
            have B_3 : Hid (Below w.heap.size w (((((w2).setCell ⟨w.heap.size + 1, 1, none⟩ (.int .i64 1)).setCell ⟨w.heap.size + 1, 2, none⟩ (.string X)).setCell ⟨w.heap.size + 1, 0, none⟩ (.int .i64 3)).setCell ⟨w.heap.size + 1, 3, none⟩ (.int .i64 13))) := Lib.hid (Below.set0 B_2.out (by omega) (.int .i64 13))
            generalize ((((w2).setCell ⟨w.heap.size + 1, 1, none⟩ (.int .i64 1)).setCell ⟨w.heap.size + 1, 2, none⟩ (.string X)).setCell ⟨w.heap.size + 1, 0, none⟩ (.int .i64 3)).setCell ⟨w.heap.size + 1, 3, none⟩ (.int .i64 13) = W8 at T_3 Z_3 B_3 ⊢
            clear q0 q1 q2 q3 q4 q5 q6 f0 f1 f2 f3
            obtain ⟨q0, q1, q2, q3, q4, q5, q6⟩ := Blk.c7 T_3.out
            obtain ⟨p0, p1, p2, p3, p4, p5, p6⟩ := Blk.c7 Z_3.out
            have f0 := Z_3.out.frozen 0
            have f1 := Z_3.out.frozen 1
            have f2 := Z_3.out.frozen 2
            have f3 := Z_3.out.frozen 3
            have f4 := Z_3.out.frozen 4
            have f5 := Z_3.out.frozen 5
            have f6 := Z_3.out.frozen 6
            refine wp_region_noPanic ?_
            refine wp_region_held_drew (S := (fun _ => True)) (by kernel_rfl) ?_ (fun hH0 => ?_)
            · trivial
            refine wpAnyH_take (i := 1) (oi := ({ dst := some 40, op := Op.move (Operand.tmp 1), type := 4, pos := "ref.go:69", after := #[], guard := none } : Oper)) (v := ?_) rfl (by kernel_rfl) (by kernel_rfl) (by kernel_rfl) (fun _ _ _ h => h) (Or.inl ⟨by rfl, ?_⟩) (by assumption) ?_
            rotate_left 1
            · (intro w hSw; (try dsimp only at hSw); go_simp; (try with_reducible rfl))
            (try simp only [Act.put, List.setIfInBounds_toArray, List.set_cons_zero, List.set_cons_succ])
            refine wpAnyH_take (i := 2) (oi := ({ dst := some 41, op := Op.unOp UnOp.not 4 (Operand.tmp 40), type := 4, pos := "ref.go:69", after := #[{ on := 1, ground := Ground.data }], guard := none } : Oper)) (v := ?_) rfl (by kernel_rfl) (by kernel_rfl) (by kernel_rfl) (fun _ _ _ h => h) (Or.inl ⟨by rfl, ?_⟩) (by assumption) ?_
            rotate_left 1
            · (intro w hSw; (try dsimp only at hSw); go_simp; (try with_reducible rfl))
            (try simp only [Act.put, List.setIfInBounds_toArray, List.set_cons_zero, List.set_cons_succ])
            refine wpAnyH_take (i := 3) (oi := ({ dst := some 42, op := Op.move (Operand.tmp 41), type := 4, pos := "ref.go:69", after := #[{ on := 2, ground := Ground.data }], guard := none } : Oper)) (v := ?_) rfl (by kernel_rfl) (by kernel_rfl) (by kernel_rfl) (fun _ _ _ h => h) (Or.inl ⟨by rfl, ?_⟩) (by assumption) ?_
            rotate_left 1
            · (intro w hSw; (try dsimp only at hSw); go_simp; (try with_reducible rfl))
            (try simp only [Act.put, List.setIfInBounds_toArray, List.set_cons_zero, List.set_cons_succ])
            refine wpAnyH_take (i := 4) (oi := ({ dst := some 43, op := Op.fieldAddr 47 (Operand.tmp 8) 1, type := 0, pos := "ref.go:69", after := #[{ on := 3, ground := Ground.guard }, { on := 8, ground := Ground.gcOnly Departure.lateStores }], guard := some (3, false) } : Oper)) (v := ?_) rfl (by kernel_rfl) (by kernel_rfl) (by kernel_rfl) (fun _ _ _ h => h) (Or.inl ⟨by rfl, ?_⟩) (by assumption) ?_
            rotate_left 1
            · (intro w hSw; (try dsimp only at hSw); go_simp; (try with_reducible rfl))
            (try simp only [Act.put, List.setIfInBounds_toArray, List.set_cons_zero, List.set_cons_succ])
            refine wpAnyH_ready (rs := [0, 5]) (by kernel_rfl) (by simp) ?_
            refine AllReadyH.cons (o := ({ dst := some 39, op := Op.load 47 (Operand.tmp 8), type := 47, pos := "ref.go:69", after := #[], guard := none } : Oper)) rfl (fun K hK => ?_) ?_
            · go_simp
              first | (refine hK.out _ _ ?_ (fun hH1 => ?_)) | (go_wp2_with fail; refine hK.out _ _ ?_ (fun hH1 => ?_))
              · trivial
              clear hK K hH0
              (try simp only [Act.put, List.setIfInBounds_toArray, List.set_cons_zero, List.set_cons_succ])
              refine wpAnyH_ready (rs := [5, 8]) (by kernel_rfl) (by simp) ?_
              refine AllReadyH.cons (o := ({ dst := some 44, op := Op.load 3 (Operand.tmp 43), type := 3, pos := "ref.go:69", after := #[{ on := 4, ground := Ground.data }, { on := 3, ground := Ground.guard }, { on := 8, ground := Ground.gcOnly Departure.lateStores }], guard := some (3, false) } : Oper)) rfl (fun K hK => ?_) ?_
              · go_simp
                first | (refine hK.out _ _ ?_ (fun hH2 => ?_)) | (go_wp2_with fail; refine hK.out _ _ ?_ (fun hH2 => ?_))
                · trivial
                clear hK K hH1
                (try simp only [Act.put, List.setIfInBounds_toArray, List.set_cons_zero, List.set_cons_succ])
                refine wpAnyH_take (i := 6) (oi := ({ dst := some 45, op := Op.binOp BinOp.neq 3 (Operand.tmp 44) (Operand.const (Value.int IntKind.i64 1)) 3, type := 4, pos := "ref.go:69", after := #[{ on := 5, ground := Ground.data }, { on := 3, ground := Ground.guard }, { on := 8, ground := Ground.gcOnly Departure.lateStores }], guard := some (3, false) } : Oper)) (v := ?_) rfl (by kernel_rfl) (by kernel_rfl) (by kernel_rfl) (fun _ _ _ h => h) (Or.inl ⟨by rfl, ?_⟩) (by assumption) ?_
                rotate_left 1
                · (intro w hSw; (try dsimp only at hSw); go_simp; (try with_reducible rfl))
                (try simp only [Act.put, List.setIfInBounds_toArray, List.set_cons_zero, List.set_cons_succ])
                refine wpAnyH_take (i := 7) (oi := ({ dst := some 46, op := Op.pick (Operand.tmp 42) (Operand.const (Value.bool true)) (Operand.tmp 45), type := 4, pos := "ref.go:69", after := #[{ on := 3, ground := Ground.data }, { on := 6, ground := Ground.data }, { on := 8, ground := Ground.gcOnly Departure.lateStores }], guard := none } : Oper)) (v := ?_) rfl (by kernel_rfl) (by kernel_rfl) (by kernel_rfl) (fun _ _ _ h => h) (Or.inl ⟨by rfl, ?_⟩) (by assumption) ?_
                rotate_left 1
                · (intro w hSw; (try dsimp only at hSw); go_simp; (try with_reducible rfl))
                (try simp only [Act.put, List.setIfInBounds_toArray, List.set_cons_zero, List.set_cons_succ])
                refine wpAnyH_ready (rs := [8]) (by kernel_rfl) (by simp) ?_
                refine AllReadyH.cons (o := ({ dst := none, op := Op.store 47 (Operand.tmp 4) (Operand.tmp 39), type := 0, pos := "ref.go:69", after := #[{ on := 0, ground := Ground.data }, { on := 3, ground := Ground.chain }, { on := 0, ground := Ground.phase }, { on := 1, ground := Ground.textOnly Departure.lateStores }, { on := 2, ground := Ground.textOnly Departure.lateStores }, { on := 3, ground := Ground.textOnly Departure.lateStores }, { on := 4, ground := Ground.textOnly Departure.lateStores }, { on := 5, ground := Ground.textOnly Departure.lateStores }, { on := 6, ground := Ground.textOnly Departure.lateStores }, { on := 7, ground := Ground.textOnly Departure.lateStores }], guard := none } : Oper)) rfl (fun K hK => ?_) ?_
                rotate_left 1
                · exact AllReadyH.nil
                go_simp
                first | (refine hK.out _ _ ?_ (fun hH3 => ?_)) | (go_wp2_with fail; refine hK.out _ _ ?_ (fun hH3 => ?_))
                · trivial
                clear hK K hH2
                (try simp only [Act.put, List.setIfInBounds_toArray, List.set_cons_zero, List.set_cons_succ])
                refine wpAnyH_take (i := 9) (oi := ({ dst := some 5, op := Op.assign (Operand.tmp 46), type := 4, pos := "ref.go:69", after := #[{ on := 7, ground := Ground.data }, { on := 8, ground := Ground.chain }, { on := 0, ground := Ground.phase }, { on := 1, ground := Ground.phase }, { on := 2, ground := Ground.phase }, { on := 3, ground := Ground.phase }, { on := 4, ground := Ground.phase }, { on := 5, ground := Ground.phase }, { on := 6, ground := Ground.phase }, { on := 7, ground := Ground.phase }, { on := 8, ground := Ground.phase }], guard := none } : Oper)) (v := ?_) rfl (by kernel_rfl) (by kernel_rfl) (by kernel_rfl) (fun _ _ _ h => h) (Or.inl ⟨by rfl, ?_⟩) (by assumption) ?_
                rotate_left 1
                · (intro w hSw; (try dsimp only at hSw); go_simp; (try with_reducible rfl))
                (try simp only [Act.put, List.setIfInBounds_toArray, List.set_cons_zero, List.set_cons_succ])
                refine wpAnyH_done (by kernel_rfl) ?_ _
                refine NoPanic.normal ?_
                go_wp2
                refine bodyPost_ret (v := .tuple #[.agg #[.int .i64 3, .int .i64 1, .string X, .int .i64 13, (.int .i64 0), (.int .i64 0), (.bool true)], .bool false]) (resIn _ _ w.heap.size _ (Blk.drew (Blk.set7 Z_3.out)) rfl rfl false rfl) rfl ?_
                exact ⟨3, 1, X, 13, 0, 0, true, rfl, fun h => absurd h (by decide), (Below.drew0 (Below.set7 B_3.out (Nat.le_refl _) _ _ _ _ _ _ _))⟩
              refine AllReadyH.cons (o := ({ dst := none, op := Op.store 47 (Operand.tmp 4) (Operand.tmp 39), type := 0, pos := "ref.go:69", after := #[{ on := 0, ground := Ground.data }, { on := 3, ground := Ground.chain }, { on := 0, ground := Ground.phase }, { on := 1, ground := Ground.textOnly Departure.lateStores }, { on := 2, ground := Ground.textOnly Departure.lateStores }, { on := 3, ground := Ground.textOnly Departure.lateStores }, { on := 4, ground := Ground.textOnly Departure.lateStores }, { on := 5, ground := Ground.textOnly Departure.lateStores }, { on := 6, ground := Ground.textOnly Departure.lateStores }, { on := 7, ground := Ground.textOnly Departure.lateStores }], guard := none } : Oper)) rfl (fun K hK => ?_) ?_
              · go_simp
                first | (refine hK.out _ _ ?_ (fun hH2 => ?_)) | (go_wp2_with fail; refine hK.out _ _ ?_ (fun hH2 => ?_))
                · trivial
                clear hK K hH1
                (try simp only [Act.put, List.setIfInBounds_toArray, List.set_cons_zero, List.set_cons_succ])
                refine wpAnyH_ready (rs := [5]) (by kernel_rfl) (by simp) ?_
                refine AllReadyH.cons (o := ({ dst := some 44, op := Op.load 3 (Operand.tmp 43), type := 3, pos := "ref.go:69", after := #[{ on := 4, ground := Ground.data }, { on := 3, ground := Ground.guard }, { on := 8, ground := Ground.gcOnly Departure.lateStores }], guard := some (3, false) } : Oper)) rfl (fun K hK => ?_) ?_
                rotate_left 1
                · exact AllReadyH.nil
                go_simp
                first | (refine hK.out _ _ ?_ (fun hH3 => ?_)) | (go_wp2_with fail; refine hK.out _ _ ?_ (fun hH3 => ?_))
                · trivial
                clear hK K hH2
                (try simp only [Act.put, List.setIfInBounds_toArray, List.set_cons_zero, List.set_cons_succ])
                refine wpAnyH_take (i := 6) (oi := ({ dst := some 45, op := Op.binOp BinOp.neq 3 (Operand.tmp 44) (Operand.const (Value.int IntKind.i64 1)) 3, type := 4, pos := "ref.go:69", after := #[{ on := 5, ground := Ground.data }, { on := 3, ground := Ground.guard }, { on := 8, ground := Ground.gcOnly Departure.lateStores }], guard := some (3, false) } : Oper)) (v := ?_) rfl (by kernel_rfl) (by kernel_rfl) (by kernel_rfl) (fun _ _ _ h => h) (Or.inl ⟨by rfl, ?_⟩) (by assumption) ?_
                rotate_left 1
                · (intro w hSw; (try dsimp only at hSw); go_simp; (try with_reducible rfl))
                (try simp only [Act.put, List.setIfInBounds_toArray, List.set_cons_zero, List.set_cons_succ])
                refine wpAnyH_take (i := 7) (oi := ({ dst := some 46, op := Op.pick (Operand.tmp 42) (Operand.const (Value.bool true)) (Operand.tmp 45), type := 4, pos := "ref.go:69", after := #[{ on := 3, ground := Ground.data }, { on := 6, ground := Ground.data }, { on := 8, ground := Ground.gcOnly Departure.lateStores }], guard := none } : Oper)) (v := ?_) rfl (by kernel_rfl) (by kernel_rfl) (by kernel_rfl) (fun _ _ _ h => h) (Or.inl ⟨by rfl, ?_⟩) (by assumption) ?_
                rotate_left 1
                · (intro w hSw; (try dsimp only at hSw); go_simp; (try with_reducible rfl))
                (try simp only [Act.put, List.setIfInBounds_toArray, List.set_cons_zero, List.set_cons_succ])
                refine wpAnyH_take (i := 9) (oi := ({ dst := some 5, op := Op.assign (Operand.tmp 46), type := 4, pos := "ref.go:69", after := #[{ on := 7, ground := Ground.data }, { on := 8, ground := Ground.chain }, { on := 0, ground := Ground.phase }, { on := 1, ground := Ground.phase }, { on := 2, ground := Ground.phase }, { on := 3, ground := Ground.phase }, { on := 4, ground := Ground.phase }, { on := 5, ground := Ground.phase }, { on := 6, ground := Ground.phase }, { on := 7, ground := Ground.phase }, { on := 8, ground := Ground.phase }], guard := none } : Oper)) (v := ?_) rfl (by kernel_rfl) (by kernel_rfl) (by kernel_rfl) (fun _ _ _ h => h) (Or.inl ⟨by rfl, ?_⟩) (by assumption) ?_
                rotate_left 1
                · (intro w hSw; (try dsimp only at hSw); go_simp; (try with_reducible rfl))
                (try simp only [Act.put, List.setIfInBounds_toArray, List.set_cons_zero, List.set_cons_succ])
                refine wpAnyH_done (by kernel_rfl) ?_ _
                refine NoPanic.normal ?_
                go_wp2
                refine bodyPost_ret (v := .tuple #[.agg #[.int .i64 3, .int .i64 1, .string X, .int .i64 13, (.int .i64 0), (.int .i64 0), (.bool true)], .bool false]) (resIn _ _ w.heap.size _ (Blk.drew (Blk.set7 Z_3.out)) rfl rfl false rfl) rfl ?_
                exact ⟨3, 1, X, 13, 0, 0, true, rfl, fun h => absurd h (by decide), (Below.drew0 (Below.set7 B_3.out (Nat.le_refl _) _ _ _ _ _ _ _))⟩
              exact AllReadyH.nil
            refine AllReadyH.cons (o := ({ dst := some 44, op := Op.load 3 (Operand.tmp 43), type := 3, pos := "ref.go:69", after := #[{ on := 4, ground := Ground.data }, { on := 3, ground := Ground.guard }, { on := 8, ground := Ground.gcOnly Departure.lateStores }], guard := some (3, false) } : Oper)) rfl (fun K hK => ?_) ?_
            · go_simp
              first | (refine hK.out _ _ ?_ (fun hH1 => ?_)) | (go_wp2_with fail; refine hK.out _ _ ?_ (fun hH1 => ?_))
              · trivial
              clear hK K hH0
              (try simp only [Act.put, List.setIfInBounds_toArray, List.set_cons_zero, List.set_cons_succ])
              refine wpAnyH_take (i := 6) (oi := ({ dst := some 45, op := Op.binOp BinOp.neq 3 (Operand.tmp 44) (Operand.const (Value.int IntKind.i64 1)) 3, type := 4, pos := "ref.go:69", after := #[{ on := 5, ground := Ground.data }, { on := 3, ground := Ground.guard }, { on := 8, ground := Ground.gcOnly Departure.lateStores }], guard := some (3, false) } : Oper)) (v := ?_) rfl (by kernel_rfl) (by kernel_rfl) (by kernel_rfl) (fun _ _ _ h => h) (Or.inl ⟨by rfl, ?_⟩) (by assumption) ?_
              rotate_left 1
              · (intro w hSw; (try dsimp only at hSw); go_simp; (try with_reducible rfl))
              (try simp only [Act.put, List.setIfInBounds_toArray, List.set_cons_zero, List.set_cons_succ])
              refine wpAnyH_take (i := 7) (oi := ({ dst := some 46, op := Op.pick (Operand.tmp 42) (Operand.const (Value.bool true)) (Operand.tmp 45), type := 4, pos := "ref.go:69", after := #[{ on := 3, ground := Ground.data }, { on := 6, ground := Ground.data }, { on := 8, ground := Ground.gcOnly Departure.lateStores }], guard := none } : Oper)) (v := ?_) rfl (by kernel_rfl) (by kernel_rfl) (by kernel_rfl) (fun _ _ _ h => h) (Or.inl ⟨by rfl, ?_⟩) (by assumption) ?_
              rotate_left 1
              · (intro w hSw; (try dsimp only at hSw); go_simp; (try with_reducible rfl))
              (try simp only [Act.put, List.setIfInBounds_toArray, List.set_cons_zero, List.set_cons_succ])
              refine wpAnyH_ready (rs := [0]) (by kernel_rfl) (by simp) ?_
              refine AllReadyH.cons (o := ({ dst := some 39, op := Op.load 47 (Operand.tmp 8), type := 47, pos := "ref.go:69", after := #[], guard := none } : Oper)) rfl (fun K hK => ?_) ?_
              rotate_left 1
              · exact AllReadyH.nil
              go_simp
              first | (refine hK.out _ _ ?_ (fun hH2 => ?_)) | (go_wp2_with fail; refine hK.out _ _ ?_ (fun hH2 => ?_))
              · trivial
              clear hK K hH1
              (try simp only [Act.put, List.setIfInBounds_toArray, List.set_cons_zero, List.set_cons_succ])
              refine wpAnyH_ready (rs := [8]) (by kernel_rfl) (by simp) ?_
              refine AllReadyH.cons (o := ({ dst := none, op := Op.store 47 (Operand.tmp 4) (Operand.tmp 39), type := 0, pos := "ref.go:69", after := #[{ on := 0, ground := Ground.data }, { on := 3, ground := Ground.chain }, { on := 0, ground := Ground.phase }, { on := 1, ground := Ground.textOnly Departure.lateStores }, { on := 2, ground := Ground.textOnly Departure.lateStores }, { on := 3, ground := Ground.textOnly Departure.lateStores }, { on := 4, ground := Ground.textOnly Departure.lateStores }, { on := 5, ground := Ground.textOnly Departure.lateStores }, { on := 6, ground := Ground.textOnly Departure.lateStores }, { on := 7, ground := Ground.textOnly Departure.lateStores }], guard := none } : Oper)) rfl (fun K hK => ?_) ?_
              rotate_left 1
              · exact AllReadyH.nil
              go_simp
              first | (refine hK.out _ _ ?_ (fun hH3 => ?_)) | (go_wp2_with fail; refine hK.out _ _ ?_ (fun hH3 => ?_))
              · trivial
              clear hK K hH2
              (try simp only [Act.put, List.setIfInBounds_toArray, List.set_cons_zero, List.set_cons_succ])
              refine wpAnyH_take (i := 9) (oi := ({ dst := some 5, op := Op.assign (Operand.tmp 46), type := 4, pos := "ref.go:69", after := #[{ on := 7, ground := Ground.data }, { on := 8, ground := Ground.chain }, { on := 0, ground := Ground.phase }, { on := 1, ground := Ground.phase }, { on := 2, ground := Ground.phase }, { on := 3, ground := Ground.phase }, { on := 4, ground := Ground.phase }, { on := 5, ground := Ground.phase }, { on := 6, ground := Ground.phase }, { on := 7, ground := Ground.phase }, { on := 8, ground := Ground.phase }], guard := none } : Oper)) (v := ?_) rfl (by kernel_rfl) (by kernel_rfl) (by kernel_rfl) (fun _ _ _ h => h) (Or.inl ⟨by rfl, ?_⟩) (by assumption) ?_
              rotate_left 1
              · (intro w hSw; (try dsimp only at hSw); go_simp; (try with_reducible rfl))
              (try simp only [Act.put, List.setIfInBounds_toArray, List.set_cons_zero, List.set_cons_succ])
              refine wpAnyH_done (by kernel_rfl) ?_ _
              refine NoPanic.normal ?_
              go_wp2
              refine bodyPost_ret (v := .tuple #[.agg #[.int .i64 3, .int .i64 1, .string X, .int .i64 13, (.int .i64 0), (.int .i64 0), (.bool true)], .bool false]) (resIn _ _ w.heap.size _ (Blk.drew (Blk.set7 Z_3.out)) rfl rfl false rfl) rfl ?_
              exact ⟨3, 1, X, 13, 0, 0, true, rfl, fun h => absurd h (by decide), (Below.drew0 (Below.set7 B_3.out (Nat.le_refl _) _ _ _ _ _ _ _))⟩
            exact AllReadyH.nil
          · rw [if_neg hz] at hM
            subst hM
            have hz2 : (z != 1) = true := by rw [bne_iff_ne]; exact hz
            go_upto_region 12 with (fail)
            have T_0 : Hid (Blk ((w2).setCell ⟨w.heap.size + 1, 1, none⟩ (.int .i64 z)) (w.heap.size + 1) 47 #[(.int .i64 2), .int .i64 z, (.string ⟨#[]⟩), (.int .i64 0), (.int .i64 0), (.int .i64 0), (.bool true)]) := Lib.hid (Blk.set_ T2.out 1 (.int .i64 z))
            have Z_0 : Hid (Blk ((w2).setCell ⟨w.heap.size + 1, 1, none⟩ (.int .i64 z)) w.heap.size 47 z7D) := Lib.hid (Blk.far Z2.out (by show w.heap.size ≠ w.heap.size + 1; omega) (.int .i64 z))
            have B_0 : Hid (Below w.heap.size w ((w2).setCell ⟨w.heap.size + 1, 1, none⟩ (.int .i64 z))) := Lib.hid (Below.set0 B2.out (by omega) (.int .i64 z))
            have T_1 : Hid (Blk (((w2).setCell ⟨w.heap.size + 1, 1, none⟩ (.int .i64 z)).setCell ⟨w.heap.size + 1, 2, none⟩ (.string X)) (w.heap.size + 1) 47 #[(.int .i64 2), .int .i64 z, .string X, (.int .i64 0), (.int .i64 0), (.int .i64 0), (.bool true)]) := Lib.hid (Blk.set_ T_0.out 2 (.string X))
            have Z_1 : Hid (Blk (((w2).setCell ⟨w.heap.size + 1, 1, none⟩ (.int .i64 z)).setCell ⟨w.heap.size + 1, 2, none⟩ (.string X)) w.heap.size 47 z7D) := Lib.hid (Blk.far Z_0.out (by show w.heap.size ≠ w.heap.size + 1; omega) (.string X))
            have B_1 : Hid (Below w.heap.size w (((w2).setCell ⟨w.heap.size + 1, 1, none⟩ (.int .i64 z)).setCell ⟨w.heap.size + 1, 2, none⟩ (.string X))) := Lib.hid (Below.set0 B_0.out (by omega) (.string X))
            have T_2 : Hid (Blk ((((w2).setCell ⟨w.heap.size + 1, 1, none⟩ (.int .i64 z)).setCell ⟨w.heap.size + 1, 2, none⟩ (.string X)).setCell ⟨w.heap.size + 1, 0, none⟩ (.int .i64 3)) (w.heap.size + 1) 47 #[.int .i64 3, .int .i64 z, .string X, (.int .i64 0), (.int .i64 0), (.int .i64 0), (.bool true)]) := Lib.hid (Blk.set_ T_1.out 0 (.int .i64 3))
            have Z_2 : Hid (Blk ((((w2).setCell ⟨w.heap.size + 1, 1, none⟩ (.int .i64 z)).setCell ⟨w.heap.size + 1, 2, none⟩ (.string X)).setCell ⟨w.heap.size + 1, 0, none⟩ (.int .i64 3)) w.heap.size 47 z7D) := Lib.hid (Blk.far Z_1.out (by show w.heap.size ≠ w.heap.size + 1; omega) (.int .i64 3))
            have B_2 : Hid (Below w.heap.size w ((((w2).setCell ⟨w.heap.size + 1, 1, none⟩ (.int .i64 z)).setCell ⟨w.heap.size + 1, 2, none⟩ (.string X)).setCell ⟨w.heap.size + 1, 0, none⟩ (.int .i64 3))) := Lib.hid (Below.set0 B_1.out (by omega) (.int .i64 3))
            have T_3 : Hid (Blk (((((w2).setCell ⟨w.heap.size + 1, 1, none⟩ (.int .i64 z)).setCell ⟨w.heap.size + 1, 2, none⟩ (.string X)).setCell ⟨w.heap.size + 1, 0, none⟩ (.int .i64 3)).setCell ⟨w.heap.size + 1, 3, none⟩ (.int .i64 13)) (w.heap.size + 1) 47 #[.int .i64 3, .int .i64 z, .string X, .int .i64 13, (.int .i64 0), (.int .i64 0), (.bool true)]) := Lib.hid (Blk.set_ T_2.out 3 (.int .i64 13))
            have Z_3 : Hid (Blk (((((w2).setCell ⟨w.heap.size + 1, 1, none⟩ (.int .i64 z)).setCell ⟨w.heap.size + 1, 2, none⟩ (.string X)).setCell ⟨w.heap.size + 1, 0, none⟩ (.int .i64 3)).setCell ⟨w.heap.size + 1, 3, none⟩ (.int .i64 13)) w.heap.size 47 z7D) := Lib.hid (Blk.far Z_2.out (by show w.heap.size ≠ w.heap.size + 1; omega) (.int .i64 13))
            have B_3 : Hid (Below w.heap.size w (((((w2).setCell ⟨w.heap.size + 1, 1, none⟩ (.int .i64 z)).setCell ⟨w.heap.size + 1, 2, none⟩ (.string X)).setCell ⟨w.heap.size + 1, 0, none⟩ (.int .i64 3)).setCell ⟨w.heap.size + 1, 3, none⟩ (.int .i64 13))) := Lib.hid (Below.set0 B_2.out (by omega) (.int .i64 13))
            generalize ((((w2).setCell ⟨w.heap.size + 1, 1, none⟩ (.int .i64 z)).setCell ⟨w.heap.size + 1, 2, none⟩ (.string X)).setCell ⟨w.heap.size + 1, 0, none⟩ (.int .i64 3)).setCell ⟨w.heap.size + 1, 3, none⟩ (.int .i64 13) = W8 at T_3 Z_3 B_3 ⊢
            clear q0 q1 q2 q3 q4 q5 q6 f0 f1 f2 f3
            obtain ⟨q0, q1, q2, q3, q4, q5, q6⟩ := Blk.c7 T_3.out
            obtain ⟨p0, p1, p2, p3, p4, p5, p6⟩ := Blk.c7 Z_3.out
            have f0 := Z_3.out.frozen 0
            have f1 := Z_3.out.frozen 1
            have f2 := Z_3.out.frozen 2
            have f3 := Z_3.out.frozen 3
            have f4 := Z_3.out.frozen 4
            have f5 := Z_3.out.frozen 5
            have f6 := Z_3.out.frozen 6
            refine wp_region_noPanic ?_
            refine wp_region_held_drew (S := (fun _ => True)) (by kernel_rfl) ?_ (fun hH0 => ?_)
            · trivial
            refine wpAnyH_take (i := 1) (oi := ({ dst := some 40, op := Op.move (Operand.tmp 1), type := 4, pos := "ref.go:69", after := #[], guard := none } : Oper)) (v := ?_) rfl (by kernel_rfl) (by kernel_rfl) (by kernel_rfl) (fun _ _ _ h => h) (Or.inl ⟨by rfl, ?_⟩) (by assumption) ?_
            rotate_left 1
            · (intro w hSw; (try dsimp only at hSw); go_simp; (try with_reducible rfl))
            (try simp only [Act.put, List.setIfInBounds_toArray, List.set_cons_zero, List.set_cons_succ])
            refine wpAnyH_take (i := 2) (oi := ({ dst := some 41, op := Op.unOp UnOp.not 4 (Operand.tmp 40), type := 4, pos := "ref.go:69", after := #[{ on := 1, ground := Ground.data }], guard := none } : Oper)) (v := ?_) rfl (by kernel_rfl) (by kernel_rfl) (by kernel_rfl) (fun _ _ _ h => h) (Or.inl ⟨by rfl, ?_⟩) (by assumption) ?_
            rotate_left 1
            · (intro w hSw; (try dsimp only at hSw); go_simp; (try with_reducible rfl))
            (try simp only [Act.put, List.setIfInBounds_toArray, List.set_cons_zero, List.set_cons_succ])
            refine wpAnyH_take (i := 3) (oi := ({ dst := some 42, op := Op.move (Operand.tmp 41), type := 4, pos := "ref.go:69", after := #[{ on := 2, ground := Ground.data }], guard := none } : Oper)) (v := ?_) rfl (by kernel_rfl) (by kernel_rfl) (by kernel_rfl) (fun _ _ _ h => h) (Or.inl ⟨by rfl, ?_⟩) (by assumption) ?_
            rotate_left 1
            · (intro w hSw; (try dsimp only at hSw); go_simp; (try with_reducible rfl))
            (try simp only [Act.put, List.setIfInBounds_toArray, List.set_cons_zero, List.set_cons_succ])
            refine wpAnyH_take (i := 4) (oi := ({ dst := some 43, op := Op.fieldAddr 47 (Operand.tmp 8) 1, type := 0, pos := "ref.go:69", after := #[{ on := 3, ground := Ground.guard }, { on := 8, ground := Ground.gcOnly Departure.lateStores }], guard := some (3, false) } : Oper)) (v := ?_) rfl (by kernel_rfl) (by kernel_rfl) (by kernel_rfl) (fun _ _ _ h => h) (Or.inl ⟨by rfl, ?_⟩) (by assumption) ?_
            rotate_left 1
            · (intro w hSw; (try dsimp only at hSw); go_simp; (try with_reducible rfl))
            (try simp only [Act.put, List.setIfInBounds_toArray, List.set_cons_zero, List.set_cons_succ])
            refine wpAnyH_ready (rs := [0, 5]) (by kernel_rfl) (by simp) ?_
            refine AllReadyH.cons (o := ({ dst := some 39, op := Op.load 47 (Operand.tmp 8), type := 47, pos := "ref.go:69", after := #[], guard := none } : Oper)) rfl (fun K hK => ?_) ?_
            · go_simp
              first | (refine hK.out _ _ ?_ (fun hH1 => ?_)) | (go_wp2_with fail; refine hK.out _ _ ?_ (fun hH1 => ?_))
              · trivial
              clear hK K hH0
              (try simp only [Act.put, List.setIfInBounds_toArray, List.set_cons_zero, List.set_cons_succ])
              refine wpAnyH_ready (rs := [5, 8]) (by kernel_rfl) (by simp) ?_
              refine AllReadyH.cons (o := ({ dst := some 44, op := Op.load 3 (Operand.tmp 43), type := 3, pos := "ref.go:69", after := #[{ on := 4, ground := Ground.data }, { on := 3, ground := Ground.guard }, { on := 8, ground := Ground.gcOnly Departure.lateStores }], guard := some (3, false) } : Oper)) rfl (fun K hK => ?_) ?_
              · go_simp
                first | (refine hK.out _ _ ?_ (fun hH2 => ?_)) | (go_wp2_with fail; refine hK.out _ _ ?_ (fun hH2 => ?_))
                · trivial
                clear hK K hH1
                (try simp only [Act.put, List.setIfInBounds_toArray, List.set_cons_zero, List.set_cons_succ])
                refine wpAnyH_take (i := 6) (oi := ({ dst := some 45, op := Op.binOp BinOp.neq 3 (Operand.tmp 44) (Operand.const (Value.int IntKind.i64 1)) 3, type := 4, pos := "ref.go:69", after := #[{ on := 5, ground := Ground.data }, { on := 3, ground := Ground.guard }, { on := 8, ground := Ground.gcOnly Departure.lateStores }], guard := some (3, false) } : Oper)) (v := ?_) rfl (by kernel_rfl) (by kernel_rfl) (by kernel_rfl) (fun _ _ _ h => h) (Or.inl ⟨by rfl, ?_⟩) (by assumption) ?_
                rotate_left 1
                · (intro w hSw; (try dsimp only at hSw); go_simp; (try with_reducible rfl))
                (try simp only [Act.put, List.setIfInBounds_toArray, List.set_cons_zero, List.set_cons_succ])
                refine wpAnyH_take (i := 7) (oi := ({ dst := some 46, op := Op.pick (Operand.tmp 42) (Operand.const (Value.bool true)) (Operand.tmp 45), type := 4, pos := "ref.go:69", after := #[{ on := 3, ground := Ground.data }, { on := 6, ground := Ground.data }, { on := 8, ground := Ground.gcOnly Departure.lateStores }], guard := none } : Oper)) (v := ?_) rfl (by kernel_rfl) (by kernel_rfl) (by kernel_rfl) (fun _ _ _ h => h) (Or.inl ⟨by rfl, ?_⟩) (by assumption) ?_
                rotate_left 1
                · (intro w hSw; (try dsimp only at hSw); go_simp; (try with_reducible rfl))
                (try simp only [Act.put, List.setIfInBounds_toArray, List.set_cons_zero, List.set_cons_succ])
                refine wpAnyH_ready (rs := [8]) (by kernel_rfl) (by simp) ?_
                refine AllReadyH.cons (o := ({ dst := none, op := Op.store 47 (Operand.tmp 4) (Operand.tmp 39), type := 0, pos := "ref.go:69", after := #[{ on := 0, ground := Ground.data }, { on := 3, ground := Ground.chain }, { on := 0, ground := Ground.phase }, { on := 1, ground := Ground.textOnly Departure.lateStores }, { on := 2, ground := Ground.textOnly Departure.lateStores }, { on := 3, ground := Ground.textOnly Departure.lateStores }, { on := 4, ground := Ground.textOnly Departure.lateStores }, { on := 5, ground := Ground.textOnly Departure.lateStores }, { on := 6, ground := Ground.textOnly Departure.lateStores }, { on := 7, ground := Ground.textOnly Departure.lateStores }], guard := none } : Oper)) rfl (fun K hK => ?_) ?_
                rotate_left 1
                · exact AllReadyH.nil
                go_simp
                first | (refine hK.out _ _ ?_ (fun hH3 => ?_)) | (go_wp2_with fail; refine hK.out _ _ ?_ (fun hH3 => ?_))
                · trivial
                clear hK K hH2
                (try simp only [Act.put, List.setIfInBounds_toArray, List.set_cons_zero, List.set_cons_succ])
                refine wpAnyH_take (i := 9) (oi := ({ dst := some 5, op := Op.assign (Operand.tmp 46), type := 4, pos := "ref.go:69", after := #[{ on := 7, ground := Ground.data }, { on := 8, ground := Ground.chain }, { on := 0, ground := Ground.phase }, { on := 1, ground := Ground.phase }, { on := 2, ground := Ground.phase }, { on := 3, ground := Ground.phase }, { on := 4, ground := Ground.phase }, { on := 5, ground := Ground.phase }, { on := 6, ground := Ground.phase }, { on := 7, ground := Ground.phase }, { on := 8, ground := Ground.phase }], guard := none } : Oper)) (v := ?_) rfl (by kernel_rfl) (by kernel_rfl) (by kernel_rfl) (fun _ _ _ h => h) (Or.inl ⟨by rfl, ?_⟩) (by assumption) ?_
                rotate_left 1
                · (intro w hSw; (try dsimp only at hSw); go_simp; (try with_reducible rfl))
                (try simp only [Act.put, List.setIfInBounds_toArray, List.set_cons_zero, List.set_cons_succ])
                refine wpAnyH_done (by kernel_rfl) ?_ _
                refine NoPanic.normal ?_
                go_wp2
                refine bodyPost_ret (v := .tuple #[.agg #[.int .i64 3, .int .i64 z, .string X, .int .i64 13, (.int .i64 0), (.int .i64 0), (.bool true)], .bool true]) (resIn _ _ w.heap.size _ (Blk.drew (Blk.set7 Z_3.out)) rfl rfl true rfl) rfl ?_
                exact ⟨3, z, X, 13, 0, 0, true, rfl, fun _ => ⟨rfl, rfl, HXX.out, rfl, rfl, rfl, rfl⟩, (Below.drew0 (Below.set7 B_3.out (Nat.le_refl _) _ _ _ _ _ _ _))⟩
              refine AllReadyH.cons (o := ({ dst := none, op := Op.store 47 (Operand.tmp 4) (Operand.tmp 39), type := 0, pos := "ref.go:69", after := #[{ on := 0, ground := Ground.data }, { on := 3, ground := Ground.chain }, { on := 0, ground := Ground.phase }, { on := 1, ground := Ground.textOnly Departure.lateStores }, { on := 2, ground := Ground.textOnly Departure.lateStores }, { on := 3, ground := Ground.textOnly Departure.lateStores }, { on := 4, ground := Ground.textOnly Departure.lateStores }, { on := 5, ground := Ground.textOnly Departure.lateStores }, { on := 6, ground := Ground.textOnly Departure.lateStores }, { on := 7, ground := Ground.textOnly Departure.lateStores }], guard := none } : Oper)) rfl (fun K hK => ?_) ?_
              · go_simp
                first | (refine hK.out _ _ ?_ (fun hH2 => ?_)) | (go_wp2_with fail; refine hK.out _ _ ?_ (fun hH2 => ?_))
                · trivial
                clear hK K hH1
                (try simp only [Act.put, List.setIfInBounds_toArray, List.set_cons_zero, List.set_cons_succ])
                refine wpAnyH_ready (rs := [5]) (by kernel_rfl) (by simp) ?_
                refine AllReadyH.cons (o := ({ dst := some 44, op := Op.load 3 (Operand.tmp 43), type := 3, pos := "ref.go:69", after := #[{ on := 4, ground := Ground.data }, { on := 3, ground := Ground.guard }, { on := 8, ground := Ground.gcOnly Departure.lateStores }], guard := some (3, false) } : Oper)) rfl (fun K hK => ?_) ?_
                rotate_left 1
                · exact AllReadyH.nil
                go_simp
                first | (refine hK.out _ _ ?_ (fun hH3 => ?_)) | (go_wp2_with fail; refine hK.out _ _ ?_ (fun hH3 => ?_))
                · trivial
                clear hK K hH2
                (try simp only [Act.put, List.setIfInBounds_toArray, List.set_cons_zero, List.set_cons_succ])
                refine wpAnyH_take (i := 6) (oi := ({ dst := some 45, op := Op.binOp BinOp.neq 3 (Operand.tmp 44) (Operand.const (Value.int IntKind.i64 1)) 3, type := 4, pos := "ref.go:69", after := #[{ on := 5, ground := Ground.data }, { on := 3, ground := Ground.guard }, { on := 8, ground := Ground.gcOnly Departure.lateStores }], guard := some (3, false) } : Oper)) (v := ?_) rfl (by kernel_rfl) (by kernel_rfl) (by kernel_rfl) (fun _ _ _ h => h) (Or.inl ⟨by rfl, ?_⟩) (by assumption) ?_
                rotate_left 1
                · (intro w hSw; (try dsimp only at hSw); go_simp; (try with_reducible rfl))
                (try simp only [Act.put, List.setIfInBounds_toArray, List.set_cons_zero, List.set_cons_succ])
                refine wpAnyH_take (i := 7) (oi := ({ dst := some 46, op := Op.pick (Operand.tmp 42) (Operand.const (Value.bool true)) (Operand.tmp 45), type := 4, pos := "ref.go:69", after := #[{ on := 3, ground := Ground.data }, { on := 6, ground := Ground.data }, { on := 8, ground := Ground.gcOnly Departure.lateStores }], guard := none } : Oper)) (v := ?_) rfl (by kernel_rfl) (by kernel_rfl) (by kernel_rfl) (fun _ _ _ h => h) (Or.inl ⟨by rfl, ?_⟩) (by assumption) ?_
                rotate_left 1
                · (intro w hSw; (try dsimp only at hSw); go_simp; (try with_reducible rfl))
                (try simp only [Act.put, List.setIfInBounds_toArray, List.set_cons_zero, List.set_cons_succ])
                refine wpAnyH_take (i := 9) (oi := ({ dst := some 5, op := Op.assign (Operand.tmp 46), type := 4, pos := "ref.go:69", after := #[{ on := 7, ground := Ground.data }, { on := 8, ground := Ground.chain }, { on := 0, ground := Ground.phase }, { on := 1, ground := Ground.phase }, { on := 2, ground := Ground.phase }, { on := 3, ground := Ground.phase }, { on := 4, ground := Ground.phase }, { on := 5, ground := Ground.phase }, { on := 6, ground := Ground.phase }, { on := 7, ground := Ground.phase }, { on := 8, ground := Ground.phase }], guard := none } : Oper)) (v := ?_) rfl (by kernel_rfl) (by kernel_rfl) (by kernel_rfl) (fun _ _ _ h => h) (Or.inl ⟨by rfl, ?_⟩) (by assumption) ?_
                rotate_left 1
                · (intro w hSw; (try dsimp only at hSw); go_simp; (try with_reducible rfl))
                (try simp only [Act.put, List.setIfInBounds_toArray, List.set_cons_zero, List.set_cons_succ])
                refine wpAnyH_done (by kernel_rfl) ?_ _
                refine NoPanic.normal ?_
                go_wp2
                refine bodyPost_ret (v := .tuple #[.agg #[.int .i64 3, .int .i64 z, .string X, .int .i64 13, (.int .i64 0), (.int .i64 0), (.bool true)], .bool true]) (resIn _ _ w.heap.size _ (Blk.drew (Blk.set7 Z_3.out)) rfl rfl true rfl) rfl ?_
                exact ⟨3, z, X, 13, 0, 0, true, rfl, fun _ => ⟨rfl, rfl, HXX.out, rfl, rfl, rfl, rfl⟩, (Below.drew0 (Below.set7 B_3.out (Nat.le_refl _) _ _ _ _ _ _ _))⟩
              exact AllReadyH.nil
            refine AllReadyH.cons (o := ({ dst := some 44, op := Op.load 3 (Operand.tmp 43), type := 3, pos := "ref.go:69", after := #[{ on := 4, ground := Ground.data }, { on := 3, ground := Ground.guard }, { on := 8, ground := Ground.gcOnly Departure.lateStores }], guard := some (3, false) } : Oper)) rfl (fun K hK => ?_) ?_
            · go_simp
              first | (refine hK.out _ _ ?_ (fun hH1 => ?_)) | (go_wp2_with fail; refine hK.out _ _ ?_ (fun hH1 => ?_))
              · trivial
              clear hK K hH0
              (try simp only [Act.put, List.setIfInBounds_toArray, List.set_cons_zero, List.set_cons_succ])
              refine wpAnyH_take (i := 6) (oi := ({ dst := some 45, op := Op.binOp BinOp.neq 3 (Operand.tmp 44) (Operand.const (Value.int IntKind.i64 1)) 3, type := 4, pos := "ref.go:69", after := #[{ on := 5, ground := Ground.data }, { on := 3, ground := Ground.guard }, { on := 8, ground := Ground.gcOnly Departure.lateStores }], guard := some (3, false) } : Oper)) (v := ?_) rfl (by kernel_rfl) (by kernel_rfl) (by kernel_rfl) (fun _ _ _ h => h) (Or.inl ⟨by rfl, ?_⟩) (by assumption) ?_
              rotate_left 1
              · (intro w hSw; (try dsimp only at hSw); go_simp; (try with_reducible rfl))
              (try simp only [Act.put, List.setIfInBounds_toArray, List.set_cons_zero, List.set_cons_succ])
              refine wpAnyH_take (i := 7) (oi := ({ dst := some 46, op := Op.pick (Operand.tmp 42) (Operand.const (Value.bool true)) (Operand.tmp 45), type := 4, pos := "ref.go:69", after := #[{ on := 3, ground := Ground.data }, { on := 6, ground := Ground.data }, { on := 8, ground := Ground.gcOnly Departure.lateStores }], guard := none } : Oper)) (v := ?_) rfl (by kernel_rfl) (by kernel_rfl) (by kernel_rfl) (fun _ _ _ h => h) (Or.inl ⟨by rfl, ?_⟩) (by assumption) ?_
              rotate_left 1
              · (intro w hSw; (try dsimp only at hSw); go_simp; (try with_reducible rfl))
              (try simp only [Act.put, List.setIfInBounds_toArray, List.set_cons_zero, List.set_cons_succ])
              refine wpAnyH_ready (rs := [0]) (by kernel_rfl) (by simp) ?_
              refine AllReadyH.cons (o := ({ dst := some 39, op := Op.load 47 (Operand.tmp 8), type := 47, pos := "ref.go:69", after := #[], guard := none } : Oper)) rfl (fun K hK => ?_) ?_
              rotate_left 1
              · exact AllReadyH.nil
              go_simp
              first | (refine hK.out _ _ ?_ (fun hH2 => ?_)) | (go_wp2_with fail; refine hK.out _ _ ?_ (fun hH2 => ?_))
              · trivial
              clear hK K hH1
              (try simp only [Act.put, List.setIfInBounds_toArray, List.set_cons_zero, List.set_cons_succ])
              refine wpAnyH_ready (rs := [8]) (by kernel_rfl) (by simp) ?_
              refine AllReadyH.cons (o := ({ dst := none, op := Op.store 47 (Operand.tmp 4) (Operand.tmp 39), type := 0, pos := "ref.go:69", after := #[{ on := 0, ground := Ground.data }, { on := 3, ground := Ground.chain }, { on := 0, ground := Ground.phase }, { on := 1, ground := Ground.textOnly Departure.lateStores }, { on := 2, ground := Ground.textOnly Departure.lateStores }, { on := 3, ground := Ground.textOnly Departure.lateStores }, { on := 4, ground := Ground.textOnly Departure.lateStores }, { on := 5, ground := Ground.textOnly Departure.lateStores }, { on := 6, ground := Ground.textOnly Departure.lateStores }, { on := 7, ground := Ground.textOnly Departure.lateStores }], guard := none } : Oper)) rfl (fun K hK => ?_) ?_
              rotate_left 1
              · exact AllReadyH.nil
              go_simp
              first | (refine hK.out _ _ ?_ (fun hH3 => ?_)) | (go_wp2_with fail; refine hK.out _ _ ?_ (fun hH3 => ?_))
              · trivial
              clear hK K hH2
              (try simp only [Act.put, List.setIfInBounds_toArray, List.set_cons_zero, List.set_cons_succ])
              refine wpAnyH_take (i := 9) (oi := ({ dst := some 5, op := Op.assign (Operand.tmp 46), type := 4, pos := "ref.go:69", after := #[{ on := 7, ground := Ground.data }, { on := 8, ground := Ground.chain }, { on := 0, ground := Ground.phase }, { on := 1, ground := Ground.phase }, { on := 2, ground := Ground.phase }, { on := 3, ground := Ground.phase }, { on := 4, ground := Ground.phase }, { on := 5, ground := Ground.phase }, { on := 6, ground := Ground.phase }, { on := 7, ground := Ground.phase }, { on := 8, ground := Ground.phase }], guard := none } : Oper)) (v := ?_) rfl (by kernel_rfl) (by kernel_rfl) (by kernel_rfl) (fun _ _ _ h => h) (Or.inl ⟨by rfl, ?_⟩) (by assumption) ?_
              rotate_left 1
              · (intro w hSw; (try dsimp only at hSw); go_simp; (try with_reducible rfl))
              (try simp only [Act.put, List.setIfInBounds_toArray, List.set_cons_zero, List.set_cons_succ])
              refine wpAnyH_done (by kernel_rfl) ?_ _
              refine NoPanic.normal ?_
              go_wp2
              refine bodyPost_ret (v := .tuple #[.agg #[.int .i64 3, .int .i64 z, .string X, .int .i64 13, (.int .i64 0), (.int .i64 0), (.bool true)], .bool true]) (resIn _ _ w.heap.size _ (Blk.drew (Blk.set7 Z_3.out)) rfl rfl true rfl) rfl ?_
              exact ⟨3, z, X, 13, 0, 0, true, rfl, fun _ => ⟨rfl, rfl, HXX.out, rfl, rfl, rfl, rfl⟩, (Below.drew0 (Below.set7 B_3.out (Nat.le_refl _) _ _ _ _ _ _ _))⟩
            exact AllReadyH.nil
end Go.Proofs.YtmdpgekbiohfbabDoor
