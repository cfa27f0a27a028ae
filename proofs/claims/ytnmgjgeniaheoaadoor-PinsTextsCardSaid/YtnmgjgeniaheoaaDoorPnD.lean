/- Contracts: the document's Parse of pins. -/
import Derived.Test.YtnmgjgeniaheoaaDoorPnS
namespace Go.Proofs.YtnmgjgeniaheoaaDoor
open Go.ChangeShapes Go.WideShapes Go.ChangeAt Go.RowKit
set_option linter.unusedVariables false

def PaPost (s : ByteArray) (n : Nat) (w : World) (e : Ending) (w' : World) : Prop := ∃ v, e = .returned (.tuple #[v, .int .i64 (paE s)]) ∧ eN.Rd w' v (paL s) ∧ Below n w w'
theorem PaPost.bad {s : ByteArray} {n : Nat} {w w' : World} {c : Int} (h : prs s = .inl c) (hb : Below n w w') : PaPost s n w (.returned (.tuple #[.slice none 0 0, .int .i64 c])) w' := ⟨_, by rw [(pa_bad h).1], by rw [(pa_bad h).2]; exact Els.Rd.nil_ _, hb⟩
theorem PaPost.good {s : ByteArray} {n : Nat} {w w' : World} {v : Value} {o : List Pn} (h : prs s = .inr o) (hr : eN.Rd w' v o) (hb : Below n w w') : PaPost s n w (.returned (.tuple #[v, .int .i64 0])) w' := ⟨_, by rw [(pa_good h).1], by rw [(pa_good h).2]; exact hr, hb⟩
/-- A step more of the text. -/
theorem prs_inl {s : ByteArray} {out : List Pn} {wd : ByteArray} {rest : List UInt8} {e : Int} (h : prs s = match stp out wd with | .inl e => .inl e | .inr o => run o [] rest) (hd : stp out wd = .inl e) : prs s = .inl e := by rw [h, hd]
theorem prs_inr {s : ByteArray} {out o : List Pn} {wd : ByteArray} {rest : List UInt8} (h : prs s = match stp out wd with | .inl e => .inl e | .inr o => run o [] rest) (hd : stp out wd = .inr o) : run o [] rest = prs s := by rw [h, hd]
theorem ext_one8 (T : ByteArray) (k : Nat) (h : k < T.data.toList.length) : (T.extract k (k + 1)).data.toList = [T.data.toList[k]] := by
  have : (T.extract k (k + 1)).data.toList = (T.data.toList.drop k).take 1 := by simp [ByteArray.data_extract]
  rw [this, List.drop_eq_getElem_cons h]; rfl
theorem app_toList (a b : ByteArray) : (a ++ b).data.toList = a.data.toList ++ b.data.toList := by simp
theorem own_ne {v v' : Value} {g G : Nat} (h : v.ownBlock ≠ some g) (hv : v'.ownBlock = v.ownBlock ∨ v'.ownBlock = some G) (hG : g < G) : v'.ownBlock ≠ some g := by
  rcases hv with e | e
  · rw [e]; exact h
  · rw [e]; intro q; injection q with q; omega
set_option maxRecDepth 100000 in
set_option maxHeartbeats 8000000 in
theorem refParse_any (s : ByteArray) (hs : s.size ≤ 100000) (w : World) : Calls Tryd.prog 13 #[.string s] w (PaPost s w.heap.size w) := by
  obtain ⟨n, hn⟩ : ∃ n, w.heap.size = n := ⟨_, rfl⟩
  rw [hn]
  have HN := Lib.hid hn
  obtain ⟨T, hT⟩ : ∃ T, s ++ ⟨#[32]⟩ = T := ⟨_, rfl⟩
  have hTl : T.data.toList = s.data.toList ++ [32] := by rw [← hT]; simp
  have hTs : T.size = s.size + 1 := by rw [← hT, ByteArray.size_append]; rfl
  have H0 : Hid (run [] [] (T.data.toList.drop 0) = prs s) := Lib.hid (by rw [List.drop_zero, hTl]; exact run_prs s)
  obtain ⟨z, hz⟩ : ∃ z, T.size = z := ⟨_, rfl⟩
  have HZ := Lib.hid hz
  have hz1 : z ≤ 100001 := by omega
  have s1 : ¬ 9223372036854775807 < s.size + (⟨#[32]⟩ : ByteArray).size := by show ¬ 9223372036854775807 < s.size + 1; omega
  have s2 : ¬ 9223372036854775807 < s.size + 1 := by omega
  have hb := get_nums T
  have CO := Lib.hid (fun x u => refOne_any x u)
  have CN := Lib.hid (fun x q u => refCount_any x q u)
  have SL : Hid (∀ (k : Nat), k < z → ∀ u : World, (Instr.slice 9 (.string T) (some (.int .i64 (k : Int))) (some (.int .i64 ((k : Int) + 1))) none).run Tryd.prog u = .ok (.string (T.extract k (k + 1))) u) := Lib.hid (fun k hk u => by
    rw [run_slice_string u 9 T .i64 .i64 _ _ Tryd.underlying9 (by omega) (by omega) (by omega), show (k : Int).toNat = k by omega, show ((k : Int) + 1).toNat = k + 1 by omega])
  clear hTl hTs hn
  go_enter Tryd.func13, Tryd.ntmps13
  go_wp2
  clear hT
  go_loopw [4, 5, 6] (fun v sw i wr => ∃ (k : Nat) (out : List Pn) (wd : ByteArray), k ≤ z ∧ i = .int .i64 k ∧ sw = .string wd ∧ wd.size ≤ k ∧ out.length ≤ 4096 ∧ Hid (eN.Own 24 wr n v out) ∧ Hid (Below n w wr) ∧ Hid (run out wd.data.toList (T.data.toList.drop k) = prs s)) (fun _ _ i _ => z - (intOf i).toNat)
  case atStart => exact ⟨0, [], ⟨#[]⟩, by omega, rfl, rfl, by decide, by simp, Lib.hid (Els.Own.nil_ _ _), Lib.hid (by rw [← HN.out]; exact Below.refl _ _), H0⟩
  case round =>
    obtain ⟨k, out, wd, hk, rfl, rfl, hwd, hol, hown, hbel, HR⟩ := hrel
    by_cases hlt : k < z
    · have k0 : (0 : Int) ≤ k := by omega
      have k1 : (k : Int) < z := by omega
      have hkT : k < T.size := by omega
      have hkl : k < T.data.toList.length := by rw [dlen]; exact hkT
      by_cases hc : T.data.toList[k] = 32
      · have c1 : iat (nums T) k = 32 := (byte_iff T k 32 hkT).2 (by rw [List.getElem?_eq_getElem hkl, hc])
        have HB := HR.out.symm.trans (runs_blank out wd.data.toList T.data.toList k hkl hc)
        rw [mk_toList] at HB
        have HB := Lib.hid HB
        clear hc HR hkl hkT
        by_cases he : wd.size = 0
        · obtain rfl : wd = ByteArray.empty := ByteArray.size_eq_zero_iff.1 he
          have HE := Lib.hid (prs_inr HB.out (stp_empty he))
          clear he HB
          go_wp2
          go_roundw
          case rel => exact ⟨k + 1, out, ⟨#[]⟩, by omega, by go_num, rfl, Nat.zero_le _, hol, hown, hbel, HE⟩
          case measure => simp [intOf]; omega
        · have e0 : wd.toList.isEmpty = false := empty_beq wd (by omega)
          have hbw := get_nums wd
          obtain ⟨A, c, hv, -⟩ := hown.out.rd.open_
          obtain ⟨L, hL⟩ : ∃ L, out.length = L := ⟨_, rfl⟩
          have HL := Lib.hid hL
          rw [hL] at hv hol
          subst hv
          have HEw := Lib.hid he
          obtain ⟨y, hy⟩ : ∃ y, wd.size = y := ⟨_, rfl⟩
          have HY := Lib.hid hy
          obtain ⟨wo, rfl⟩ : ∃ wo : World, wo = wr := ⟨_, rfl⟩
          have hyk : y ≤ k := by omega
          clear hL he hwd
          go_wp2
          clear e0 c1
          go_loopw [7] (fun st wr => ∃ j : Nat, j ≤ y ∧ st = .int .i64 j ∧ Hid (∀ m, m < j → wd.data.toList[m]? ≠ some 42) ∧ wr = wo) (fun st _ => y - (intOf st).toNat)
          case atStart => exact ⟨0, by omega, rfl, Lib.hid (fun m h => absurd h (by omega)), rfl⟩
          case round =>
            obtain ⟨j, hj, rfl, HJ, rfl⟩ := hrel
            have j0 : (0 : Int) ≤ j := by omega
            by_cases hjl : j < y
            · have j1 : (j : Int) < y := by omega
              have BI := byte_iff wd j 42 (by omega)
              by_cases hst : wd.data.toList[j]? = some 42
              · have a1 : iat (nums wd) j = 42 := BI.2 hst
                have D := stp_at out wd j HEw.out (idx_first 42 _ j HJ.out hst)
                rw [HY.out] at D
                obtain ⟨sa, hsa⟩ : ∃ x, wd.extract 0 j = x := ⟨_, rfl⟩
                obtain ⟨sb, hsb⟩ : ∃ x, wd.extract (j + 1) y = x := ⟨_, rfl⟩
                have hzb : sb.size ≤ 1000000 := by rw [← hsb, ByteArray.size_extract]; omega
                rw [hsa, hsb] at D
                have CNs := CN.out sb hzb
                have HV := cnV_range (nums sb) (nums_range sb)
                have j2 : (j : Int) ≤ y := by omega
                have j3 : (j : Int) + 1 ≤ y := by omega
                clear BI hst HJ hzb hjl
                obtain ⟨N, hN⟩ : ∃ N, cnV (nums sb) = N := ⟨_, rfl⟩
                obtain ⟨b2, hb2⟩ : ∃ b, cnB (nums sb) = b := ⟨_, rfl⟩
                rw [hN] at D CNs HV
                rw [hb2] at D CNs
                have CNs := Lib.hid CNs
                clear hN hb2
                obtain ⟨⟨q0, q1, q2, q3, q4, q5⟩, hq⟩ : ∃ q, onP sa = q := ⟨_, rfl⟩
                obtain ⟨b1, hb1⟩ : ∃ b, onB sa = b := ⟨_, rfl⟩
                have COs := CO.out sa
                rw [hq, hb1] at COs D
                have D := Lib.hid D
                have COs := Lib.hid COs
                clear hq hb1
                go_wp2_with fail
                refine (COs.out _).mono ?_
                rintro e w3 ⟨rfl, hbw3⟩
                obtain ⟨g, hg⟩ : ∃ g, w3.heap.size = g := ⟨_, rfl⟩
                obtain ⟨W, hW⟩ : ∃ W, w3.alloc (Obj.cells #[.bool q0, .bool q1, .bool q2, .bool q3, .bool q4, .bool q5] 24) = W := ⟨_, rfl⟩
                have ng := hbel.out.size
                have PW : Hid (Blk W g 24 #[.bool q0, .bool q1, .bool q2, .bool q3, .bool q4, .bool q5]) := Lib.hid (by rw [← hW, ← hg]; exact Blk.new _ _ _ _)
                have BW : Hid (Below n w W) := Lib.hid (by rw [← hW]; exact (hbel.out.trans (hbw3.mono (by have := HN.out; omega))).trans ((Below.alloc0 (Below.refl _ _) _).mono (by have := hbw3.size; have := HN.out; omega)))
                have OW : Hid (eN.Own 24 W n (.slice A L c) out) := Lib.hid (by rw [← hW]; exact (hown.out.below hbw3).alloc _)
                have GW : Hid ((Value.slice A L c).ownBlock ≠ some g) := Lib.hid (fun e => by have := hown.out.lt g e; have := hbw3.size; omega)
                have GS : Hid (n ≤ g) := Lib.hid (by have := hbw3.size; have := HN.out; omega)
                clear hbw3 COs hown hbel ng
                go_wp2_with fail
                refine (CNs.out _).mono ?_
                rintro e w4 ⟨rfl, rfl⟩
                clear hsa hsb CNs
                cases b1
                case false =>
                  have E := Lib.hid (prs_inl HB.out (D.out.trans (dst_no _ _ _)))
                  go_wp2
                  go_ret2
                  exact PaPost.bad E.out BW.out
                case true =>
                  cases b2
                  case false =>
                    have E := Lib.hid (prs_inl HB.out (D.out.trans (dst_no _ _ _)))
                    go_wp2
                    go_ret2
                    exact PaPost.bad E.out BW.out
                  case true =>
                    by_cases n0 : N = 0
                    · have E := Lib.hid (prs_inl HB.out (D.out.trans (by rw [n0]; exact dst_zero _ _)))
                      subst n0
                      go_wp2
                      go_ret2
                      exact PaPost.bad E.out BW.out
                    · by_cases n1 : 4096 - (L : Int) < N
                      · have E := Lib.hid (prs_inl HB.out (D.out.trans (dst_over _ _ _ n0 (by rw [HL.out]; exact n1))))
                        have n2 : (N == 0) = false := by simpa using n0
                        clear n0
                        go_wp2
                        go_ret2
                        exact PaPost.bad E.out BW.out
                      · obtain ⟨M, rfl⟩ : ∃ M : Nat, N = (M : Int) := ⟨N.toNat, by omega⟩
                        have E := prs_inr HB.out (D.out.trans (dst_ok _ _ _ n0 (by rw [HL.out]; exact n1)))
                        rw [Int.toNat_natCast] at E
                        have E := Lib.hid E
                        have n2 : ((M : Int) == 0) = false := by simp; omega
                        have n3 : (M == 0) = false := by simp; omega
                        have n4 : ¬ M = 0 := by omega
                        clear n0
                        have n1 := Lib.hid n1
                        have n5 := n1.out
                        go_wp2
                        clear hW hg n5
                        go_loopw [4, 13] (fun v2 q w5 => ∃ i2 : Nat, i2 ≤ M ∧ q = .int .i64 i2 ∧ Hid (eN.Own 24 w5 n v2 (out ++ List.replicate i2 ⟨q0, q1, q2, q3, q4, q5⟩)) ∧ Hid (v2.ownBlock ≠ some g) ∧ Hid (Blk w5 g 24 #[.bool q0, .bool q1, .bool q2, .bool q3, .bool q4, .bool q5]) ∧ Hid (Below n w w5)) (fun _ q _ => M - (intOf q).toNat)
                        case atStart => exact ⟨0, by omega, rfl, Lib.hid (by rw [List.replicate_zero, List.append_nil]; exact OW.out), GW, PW, BW⟩
                        case round =>
                          obtain ⟨i2, hi2, rfl, O2, G2, P2, B2⟩ := hrel
                          by_cases hl2 : i2 < M
                          · have i3 : (i2 : Int) < (M : Int) := by omega
                            have i4 : (0 : Int) ≤ i2 := by omega
                            obtain ⟨p0, p1, p2, p3, p4, p5⟩ := P2.out.c6
                            have BS := B2.out.size
                            have LS : Hid ((out ++ List.replicate i2 (⟨q0, q1, q2, q3, q4, q5⟩ : Pn)).length + 1 ≤ 100000) := Lib.hid (by rw [List.length_append, List.length_replicate, HL.out]; omega)
                            have PL := Lib.hid P2.out.lt
                            obtain ⟨RR, hRR⟩ : ∃ R, out ++ List.replicate i2 (⟨q0, q1, q2, q3, q4, q5⟩ : Pn) = R := ⟨_, rfl⟩
                            rw [hRR] at O2 LS
                            have HRR := Lib.hid hRR
                            clear hRR
                            go_wp2_with (at_builtin; refine wpList_appN rfl _ (.tmp 85) (.tmp 87) rfl n _ _ RR [⟨q0, q1, q2, q3, q4, q5⟩] rfl (O2.out.alloc _) rfl (Els.Rd.lit (E := eN) _ _ [⟨q0, q1, q2, q3, q4, q5⟩] _ 1 rfl rfl 1) (by have := LS.out; show _ + 1 ≤ _; omega) (by rw [World.size_alloc]; have := PL.out; have := GS.out; omega) ?_; intro v5 w6 ho hb6 hg6 hv6)
                            have O5 : Hid (eN.Own 24 w6 n v5 (out ++ List.replicate (i2 + 1) ⟨q0, q1, q2, q3, q4, q5⟩)) := Lib.hid (by rw [List.replicate_succ', ← List.append_assoc, HRR.out]; exact ho)
                            have G5 : Hid (v5.ownBlock ≠ some g) := Lib.hid (own_ne G2.out hv6 (by rw [World.size_alloc]; have := PL.out; omega))
                            have P5 : Hid (Blk w6 g 24 #[.bool q0, .bool q1, .bool q2, .bool q3, .bool q4, .bool q5]) := Lib.hid (Blk.grown (Blk.alloc P2.out _) hg6 (fun e => G2.out e.symm))
                            have B5 : Hid (Below n w w6) := Lib.hid ((B2.out.trans ((Below.alloc0 (Below.refl _ _) _).mono (by have := PL.out; have := GS.out; omega))).trans hb6)
                            clear ho hb6 hg6 hv6 p0 p1 p2 p3 p4 p5 O2 G2 P2 B2
                            go_roundw
                            case rel => exact ⟨i2 + 1, by omega, by go_num, O5, G5, P5, B5⟩
                            case measure => simp [intOf]; omega
                          · have i3 : ¬ (i2 : Int) < (M : Int) := by omega
                            have iM : i2 = M := by omega
                            have O5 : Hid (eN.Own 24 _ n _ (out ++ List.replicate M ⟨q0, q1, q2, q3, q4, q5⟩)) := Lib.hid (by rw [← iM]; exact O2.out)
                            have LN : Hid ((out ++ List.replicate M (⟨q0, q1, q2, q3, q4, q5⟩ : Pn)).length ≤ 4096) := Lib.hid (by rw [List.length_append, List.length_replicate, HL.out]; have := n1.out; omega)
                            clear iM O2 hl2 hi2
                            go_wp2
                            go_roundw
                            case rel => exact ⟨k + 1, _, ⟨#[]⟩, by omega, by go_num, rfl, Nat.zero_le _, LN.out, O5, B2, E⟩
                            case measure => simp [intOf]; omega
              · have a1 : (iat (nums wd) j == 42) = false := by
                  rw [beq_eq_false_iff_ne]
                  exact fun q => hst (BI.1 q)
                have HJ2 : Hid (∀ m, m < j + 1 → wd.data.toList[m]? ≠ some 42) := Lib.hid (fun m hm => by
                  by_cases q : m = j
                  · rw [q]; exact hst
                  · exact HJ.out m (by omega))
                clear BI hst HJ
                go_wp2
                go_roundw
                case rel => exact ⟨j + 1, by omega, by go_num, HJ2, by trivial⟩
                case measure => simp [intOf]; omega
            · have j1 : ¬ (j : Int) < y := by omega
              have D0 := stp_no out wd HEw.out (by rw [idx_absent 42 _ (fun m hm => HJ.out m (by rw [dlen, HY.out] at hm; omega))]; decide)
              have hjy : wd.extract 0 j = wd := by rw [show j = wd.size by omega]; exact ByteArray.extract_zero_size
              obtain ⟨sa, hsa⟩ : ∃ x, wd.extract 0 j = x := ⟨_, rfl⟩
              have D : stp out wd = dst out (onB sa) 1 (onP sa) := by rw [← hsa, hjy]; exact D0
              clear D0
              have j2 : (j : Int) ≤ y := by omega
              have jd : decide (j < y) = false := decide_eq_false hjl
              clear HJ hjy
              obtain ⟨⟨q0, q1, q2, q3, q4, q5⟩, hq⟩ : ∃ q, onP sa = q := ⟨_, rfl⟩
              obtain ⟨b1, hb1⟩ : ∃ b, onB sa = b := ⟨_, rfl⟩
              have COs := CO.out sa
              rw [hq, hb1] at COs D
              have D := Lib.hid D
              have COs := Lib.hid COs
              clear hq hb1
              go_wp2_with fail
              refine (COs.out _).mono ?_
              rintro e w3 ⟨rfl, hbw3⟩
              obtain ⟨g, hg⟩ : ∃ g, w3.heap.size = g := ⟨_, rfl⟩
              obtain ⟨W, hW⟩ : ∃ W, w3.alloc (Obj.cells #[.bool q0, .bool q1, .bool q2, .bool q3, .bool q4, .bool q5] 24) = W := ⟨_, rfl⟩
              have ng := hbel.out.size
              have PW : Hid (Blk W g 24 #[.bool q0, .bool q1, .bool q2, .bool q3, .bool q4, .bool q5]) := Lib.hid (by rw [← hW, ← hg]; exact Blk.new _ _ _ _)
              have BW : Hid (Below n w W) := Lib.hid (by rw [← hW]; exact (hbel.out.trans (hbw3.mono (by have := HN.out; omega))).trans ((Below.alloc0 (Below.refl _ _) _).mono (by have := hbw3.size; have := HN.out; omega)))
              have OW : Hid (eN.Own 24 W n (.slice A L c) out) := Lib.hid (by rw [← hW]; exact (hown.out.below hbw3).alloc _)
              have GW : Hid ((Value.slice A L c).ownBlock ≠ some g) := Lib.hid (fun e => by have := hown.out.lt g e; have := hbw3.size; omega)
              have GS : Hid (n ≤ g) := Lib.hid (by have := hbw3.size; have := HN.out; omega)
              clear hbw3 COs hown hbel ng
              clear hsa
              cases b1
              case false =>
                have E := Lib.hid (prs_inl HB.out (D.out.trans (dst_no _ _ _)))
                go_wp2
                go_ret2
                exact PaPost.bad E.out BW.out
              case true =>
                by_cases n1 : 4096 - (L : Int) < 1
                · have E := Lib.hid (prs_inl HB.out (D.out.trans (dst_over _ _ _ (by decide) (by rw [HL.out]; exact n1))))
                  go_wp2
                  go_ret2
                  exact PaPost.bad E.out BW.out
                · have E := Lib.hid (prs_inr HB.out (D.out.trans (dst_ok _ _ _ (by decide) (by rw [HL.out]; exact n1))))
                  have n1 := Lib.hid n1
                  have n5 := n1.out
                  go_wp2
                  clear hW hg n5
                  go_loopw [4, 13] (fun v2 q w5 => ∃ i2 : Nat, i2 ≤ 1 ∧ q = .int .i64 i2 ∧ Hid (eN.Own 24 w5 n v2 (out ++ List.replicate i2 ⟨q0, q1, q2, q3, q4, q5⟩)) ∧ Hid (v2.ownBlock ≠ some g) ∧ Hid (Blk w5 g 24 #[.bool q0, .bool q1, .bool q2, .bool q3, .bool q4, .bool q5]) ∧ Hid (Below n w w5)) (fun _ q _ => 1 - (intOf q).toNat)
                  case atStart => exact ⟨0, by omega, rfl, Lib.hid (by rw [List.replicate_zero, List.append_nil]; exact OW.out), GW, PW, BW⟩
                  case round =>
                    obtain ⟨i2, hi2, rfl, O2, G2, P2, B2⟩ := hrel
                    by_cases hl2 : i2 < 1
                    · have i3 : (i2 : Int) < (1 : Int) := by omega
                      have i4 : (0 : Int) ≤ i2 := by omega
                      obtain ⟨p0, p1, p2, p3, p4, p5⟩ := P2.out.c6
                      have BS := B2.out.size
                      have LS : Hid ((out ++ List.replicate i2 (⟨q0, q1, q2, q3, q4, q5⟩ : Pn)).length + 1 ≤ 100000) := Lib.hid (by rw [List.length_append, List.length_replicate, HL.out]; omega)
                      have PL := Lib.hid P2.out.lt
                      obtain ⟨RR, hRR⟩ : ∃ R, out ++ List.replicate i2 (⟨q0, q1, q2, q3, q4, q5⟩ : Pn) = R := ⟨_, rfl⟩
                      rw [hRR] at O2 LS
                      have HRR := Lib.hid hRR
                      clear hRR
                      go_wp2_with (at_builtin; refine wpList_appN rfl _ (.tmp 85) (.tmp 87) rfl n _ _ RR [⟨q0, q1, q2, q3, q4, q5⟩] rfl (O2.out.alloc _) rfl (Els.Rd.lit (E := eN) _ _ [⟨q0, q1, q2, q3, q4, q5⟩] _ 1 rfl rfl 1) (by have := LS.out; show _ + 1 ≤ _; omega) (by rw [World.size_alloc]; have := PL.out; have := GS.out; omega) ?_; intro v5 w6 ho hb6 hg6 hv6)
                      have O5 : Hid (eN.Own 24 w6 n v5 (out ++ List.replicate (i2 + 1) ⟨q0, q1, q2, q3, q4, q5⟩)) := Lib.hid (by rw [List.replicate_succ', ← List.append_assoc, HRR.out]; exact ho)
                      have G5 : Hid (v5.ownBlock ≠ some g) := Lib.hid (own_ne G2.out hv6 (by rw [World.size_alloc]; have := PL.out; omega))
                      have P5 : Hid (Blk w6 g 24 #[.bool q0, .bool q1, .bool q2, .bool q3, .bool q4, .bool q5]) := Lib.hid (Blk.grown (Blk.alloc P2.out _) hg6 (fun e => G2.out e.symm))
                      have B5 : Hid (Below n w w6) := Lib.hid ((B2.out.trans ((Below.alloc0 (Below.refl _ _) _).mono (by have := PL.out; have := GS.out; omega))).trans hb6)
                      clear ho hb6 hg6 hv6 p0 p1 p2 p3 p4 p5 O2 G2 P2 B2
                      go_roundw
                      case rel => exact ⟨i2 + 1, by omega, by go_num, O5, G5, P5, B5⟩
                      case measure => simp [intOf]; omega
                    · have i3 : ¬ (i2 : Int) < (1 : Int) := by omega
                      have iM : i2 = 1 := by omega
                      have O5 : Hid (eN.Own 24 _ n _ (out ++ List.replicate 1 ⟨q0, q1, q2, q3, q4, q5⟩)) := Lib.hid (by rw [← iM]; exact O2.out)
                      have LN : Hid ((out ++ List.replicate 1 (⟨q0, q1, q2, q3, q4, q5⟩ : Pn)).length ≤ 4096) := Lib.hid (by rw [List.length_append, List.length_replicate, HL.out]; have := n1.out; omega)
                      clear iM O2 hl2 hi2
                      go_wp2
                      go_roundw
                      case rel => exact ⟨k + 1, _, ⟨#[]⟩, by omega, by go_num, rfl, Nat.zero_le _, LN.out, O5, B2, E⟩
                      case measure => simp [intOf]; omega
      · have c1 : (iat (nums T) k == 32) = false := by
          rw [beq_eq_false_iff_ne]
          intro q
          have := (byte_iff T k 32 hkT).1 q
          rw [List.getElem?_eq_getElem hkl] at this
          injection this with this
          exact hc this
        have RN := runs_next out wd.data.toList T.data.toList k hkl hc
        rw [← ext_one8 T k hkl, ← app_toList] at RN
        have sl := SL.out k hlt
        have zc : (T.extract k (k + 1)).size = 1 := by rw [ByteArray.size_extract]; omega
        obtain ⟨cs, hcs⟩ : ∃ x, T.extract k (k + 1) = x := ⟨_, rfl⟩
        rw [hcs] at zc sl RN
        have HE := Lib.hid (RN.symm.trans HR.out)
        have y1 : ¬ 9223372036854775807 < wd.size + cs.size := by omega
        have y2 : ¬ 9223372036854775807 < wd.size + 1 := by omega
        have HSZ : Hid ((wd ++ cs).size ≤ k + 1) := Lib.hid (by rw [ByteArray.size_append]; omega)
        clear hc RN HR hcs hkl hkT
        go_wp2
        go_roundw
        case rel => exact ⟨k + 1, out, wd ++ cs, by omega, by go_num, rfl, HSZ.out, hol, hown, hbel, HE⟩
        case measure => simp [intOf]; omega
    · have k1 : ¬ (k : Int) < z := by omega
      have E : Hid (prs s = .inr out) := Lib.hid (by rw [← HR.out, List.drop_eq_nil_of_le (by rw [dlen, HZ.out]; omega)]; rfl)
      have OR := Lib.hid hown.out.rd
      clear hlt hk hol hwd HR hb
      go_wp2
      go_ret2
      exact PaPost.good E.out OR.out hbel.out
end Go.Proofs.YtnmgjgeniaheoaaDoor
