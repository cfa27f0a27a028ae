/- The law of lexer.All: the parts of any text's lines, or which one is wrong. -/
import Derived.Test.YtmdpgekbiohfbaaDoorLxH
namespace Go.Proofs.YtmdpgekbiohfbaaDoor
open Go.ChangeShapes Go.WideShapes Go.ChangeAt Go.RowKit
set_option linter.unusedVariables false

theorem badAt_all : ∀ (P : List (List UInt8)), badAt P = none → ∀ q ∈ P, (lxCut q).ok = true
  | [], _, q, h => by cases h
  | p :: r, hb, q, h => by
    unfold badAt at hb
    split at hb
    · next hp =>
      rcases List.mem_cons.1 h with rfl | h
      · exact hp
      · exact badAt_all r (by cases hr : badAt r with | none => rfl | some k => rw [hr] at hb; cases hb) q h
    · cases hb
theorem badAt_at : ∀ (P : List (List UInt8)) (b : Nat), badAt P = some b → ∀ (i : Nat) (p : List UInt8), P[i]? = some p → i ≤ b → (lxCut p).ok = decide (i ≠ b)
  | [], b, _, i, p, h, _ => by simp at h
  | q :: r, b, hb, i, p, h, hi => by
    unfold badAt at hb
    split at hb
    · next hq =>
      cases hr : badAt r with
      | none => rw [hr] at hb; cases hb
      | some k =>
        rw [hr] at hb
        obtain rfl : k + 1 = b := by simpa using hb
        cases i with
        | zero =>
          obtain rfl : q = p := by simpa using h
          rw [hq]; simp
        | succ i =>
          rw [badAt_at r k hr i p (by simpa using h) (by omega)]
          simp
    · next hq =>
      obtain rfl : 0 = b := by simpa using hb
      obtain rfl : i = 0 := by omega
      obtain rfl : q = p := by simpa using h
      simpa using hq
theorem badAt_lt : ∀ (P : List (List UInt8)) (b : Nat), badAt P = some b → b < P.length
  | [], b, h => by cases h
  | q :: r, b, h => by
    unfold badAt at h
    split at h
    · cases hr : badAt r with
      | none => rw [hr] at h; cases h
      | some k =>
        rw [hr] at h
        obtain rfl : k + 1 = b := by simpa using h
        have := badAt_lt r k hr
        rw [List.length_cons]; omega
    · obtain rfl : 0 = b := by simpa using h
      rw [List.length_cons]; omega
theorem Els.Rd.at {α : Type} {E : Els α} {w : World} {g off n c : Nat} {l : List α} (h : E.Rd w (.slice (some ⟨g, off, none⟩) n c) l) {i : Nat} {x : α} (hi : l[i]? = some x) :
    ∀ (j : Nat) u, (E.enc x)[j]? = some u → w.cell? ⟨g, off + (i * E.k + j), none⟩ = some u := by
  obtain ⟨A, c', he, hc⟩ := h.open_
  injection he with e1 e2 e3
  have hp : 0 < l.length := by
    rcases Nat.lt_or_ge i l.length with q | q
    · omega
    · rw [List.getElem?_eq_none q] at hi; cases hi
  obtain ⟨g', off', e, hlt, hcell⟩ := hc hp
  rw [e] at e1
  injection e1 with e1
  injection e1 with e1 e4
  subst e1 e4
  exact hcell i x hi
theorem neq_lx (A B C : ByteArray) (w : World) : (binOp .neq 23 (.agg #[.string A, .string B, .string C]) (.agg #[.string A, .string B, .string C])).run Tryd.prog w = .ok (.bool false) w := by
  have e1 : (A.toList == A.toList) = true := by simp
  have e2 : (B.toList == B.toList) = true := by simp
  have e3 : (C.toList == C.toList) = true := by simp
  go_simp
set_option maxRecDepth 100000 in
set_option maxHeartbeats 8000000 in
theorem law_all (l : List UInt8) (w : World) (hM : MxL w) : Calls Tryd.prog 4 #[.string (mkS l)] w fun e w' => e = .returned (.bool true) ∧ Below w.heap.size w w' := by
  have hz : (mkS l).size = l.length := mkS_size l
  by_cases hbig : l.length ≤ 600
  case neg =>
    have hb : (600 : Int) < (l.length : Int) := by omega
    go_enter Tryd.func4, Tryd.ntmps4
    go_wp2
    go_ret
    exact ⟨rfl, Below.refl _ _⟩
  have hb : ¬ (600 : Int) < (l.length : Int) := by omega
  have C1 := Lib.hid (lxAll_any l (by omega) w hM)
  have C2 := Lib.hid (fun u => refLines_any l (by omega) u)
  have CA := Lib.hid (fun u (h : Below w.heap.size w u) => alive43 u (hM.below h))
  have hPl : ∀ q ∈ pcz 10 [] l, q.length ≤ 1000000 := fun q hq => by have := pcz_piece 10 l [] q hq; rw [List.length_nil] at this; omega
  have hPn := pcz_len 10 l []
  have hPp := pcz_pos 10 l []
  obtain ⟨P, hP⟩ : ∃ P, pcz 10 [] l = P := ⟨_, rfl⟩
  rw [hP] at C1 C2 hPl hPn hPp
  have CC := Lib.hid (fun p (hp : p ∈ P) u => refCut_any p (hPl p hp) u)
  obtain ⟨N, hN⟩ : ∃ N, P.length = N := ⟨_, rfl⟩
  have HN := Lib.hid hN
  rw [hN] at hPn hPp
  have hN1 : N ≤ 1000 := by omega
  clear hP hPl hPn hN hM hbig
  unfold AllPost at C1
  go_enter Tryd.func4, Tryd.ntmps4
  go_wp2_with fail
  refine C1.out.mono ?_
  rintro e w1 ⟨hb1, (⟨hbad, v1, rfl, hr1⟩ | ⟨b, hbad, rfl⟩)⟩
  · have B1 := Lib.hid hb1
    have hl1 : (P.map lxCut).length = N := by rw [List.length_map]; exact HN.out
    obtain ⟨A1, c1, hv1, hc1⟩ := hr1.open_
    rw [hl1] at hv1 hc1
    obtain ⟨g1, o1, rfl, hg1, -⟩ := hc1 hPp
    subst hv1
    have R1 := Lib.hid hr1
    have HB := Lib.hid (badAt_all P hbad)
    clear hb1 hr1 hbad hc1
    go_wp2_with fail
    refine (C2.out _).mono ?_
    rintro e w2 ⟨v2, rfl, hr2, hb2⟩
    have hl2 : (P.map mkS).length = N := by rw [List.length_map]; exact HN.out
    obtain ⟨A2, c2, hv2, hc2⟩ := hr2.open_
    rw [hl2] at hv2 hc2
    obtain ⟨g2, o2, rfl, hg2, -⟩ := hc2 hPp
    subst hv2
    have S2 := Lib.hid (R1.out.below hb2)
    have B2 := Lib.hid (Below.trans0 B1.out hb2)
    have R2 := Lib.hid hr2
    clear hb2 hr2 hc2 R1 B1
    go_wp2
    go_loopw [7, 8, 9] (fun u7 _ _ wr => ∃ k : Nat, k ≤ N ∧ u7 = .int .i64 (k : Int) ∧ Hid (Below w.heap.size w wr) ∧ Hid (eL3.Rd wr (.slice (some ⟨g1, o1, none⟩) N c1) (P.map lxCut)) ∧ Hid (eS.Rd wr (.slice (some ⟨g2, o2, none⟩) N c2) (P.map mkS))) (fun u7 _ _ _ => N - (intOf u7).toNat)
    case atStart => exact ⟨0, Nat.zero_le _, rfl, B2, S2, R2⟩
    case round =>
      obtain ⟨k, hk, rfl, HW, H1, H2⟩ := hrel
      have k0 : (0 : Int) ≤ (k : Int) := by omega
      by_cases hlt : k < N
      · have k1 : (k : Int) < (N : Int) := by omega
        obtain ⟨p, hp⟩ : ∃ p, P[k]? = some p := ⟨_, List.getElem?_eq_getElem (by rw [HN.out]; exact hlt)⟩
        have hok := HB.out p (List.mem_of_getElem? hp)
        have tc : wr.cell? ⟨g2, o2 + k, none⟩ = some (.string (mkS p)) := by
          have := Els.Rd.at H2.out (i := k) (x := mkS p) (by rw [List.getElem?_map, hp]; rfl) 0 (.string (mkS p)) rfl
          rwa [show o2 + (k * eS.k + 0) = o2 + k by show o2 + (k * 1 + 0) = o2 + k; omega] at this
        have CCp := Lib.hid (fun u => CC.out p (List.mem_of_getElem? hp) u)
        have LC := Els.Rd.at H1.out (i := k) (x := lxCut p) (by rw [List.getElem?_map, hp]; rfl)
        have hg1 : g1 < wr.heap.size := cell_lt (LC 0 _ rfl)
        obtain ⟨R, hR⟩ : ∃ R, lxCut p = R := ⟨_, rfl⟩
        rw [hR] at hok CCp LC
        obtain ⟨lab, op, arg, ok⟩ := R
        dsimp only at hok
        subst hok
        unfold lyA at CCp
        dsimp only at CCp LC
        have EQ := neq_lx (mkS lab) (mkS op) (mkS arg)
        obtain ⟨SA, hSA⟩ : ∃ S, mkS lab = S := ⟨_, rfl⟩
        obtain ⟨SB, hSB⟩ : ∃ S, mkS op = S := ⟨_, rfl⟩
        obtain ⟨SC, hSC⟩ : ∃ S, mkS arg = S := ⟨_, rfl⟩
        rw [hSA, hSB, hSC] at CCp LC
        simp only [hSA, hSB, hSC] at EQ
        have HLC := Lib.hid LC
        have HG1 := Lib.hid hg1
        clear hSA hSB hSC hp hR LC hg1
        go_wp2_with fail
        refine (CCp.out _).mono ?_
        rintro e w3 ⟨rfl, hb3⟩
        obtain ⟨g3, hg3⟩ : ∃ g, w3.heap.size = g := ⟨_, rfl⟩
        obtain ⟨W3, hW3⟩ : ∃ W, w3.alloc (.cells #[.string SA, .string SB, .string SC] 27) = W := ⟨_, rfl⟩
        have F3 := Lib.hid (show Below wr.heap.size wr W3 by rw [← hW3]; exact Below.alloc0 hb3 _)
        have P3 := Lib.hid (show Blk W3 g3 27 #[.string SA, .string SB, .string SC] by rw [← hW3, ← hg3]; exact Blk.new _ _ _ _)
        have key : ∀ (j : Nat) (u : Value), [Value.string SA, Value.string SB, Value.string SC][j]? = some u → W3.cell? ⟨g1, o1 + k * 3 + j, none⟩ = some u := fun j u h => by
          rw [Nat.add_assoc]
          exact (F3.out.cell (p := ⟨g1, o1 + (k * 3 + j), none⟩) HG1.out).trans (HLC.out j u h)
        have l0 : W3.cell? ⟨g1, o1 + k * 3, none⟩ = some (.string SA) := key 0 _ rfl
        have l1 := key 1 _ rfl
        have l2 := key 2 _ rfl
        obtain ⟨d0, d1, d2⟩ := P3.out.c3s
        have n0 : ((N : Int) == 0) = false := by simp; omega
        have n1 : decide ((N : Int) ≤ (k : Int)) = false := decide_eq_false (by omega)
        have n2 : (N == 0) = false := by simp; omega
        have n3 : decide (N ≤ k) = false := decide_eq_false (by omega)
        have n4 : ((N : Int) != 0) = true := by simp; omega
        clear key hb3
        go_wp2_with fail
        go_quiet (fail)
        go_wp2
        go_roundw
        case rel => exact ⟨k + 1, by omega, by go_num, Lib.hid (Below.drewN0 (Below.trans0 HW.out F3.out) _), Lib.hid ((H1.out.below F3.out).drewN _), Lib.hid ((H2.out.below F3.out).drewN _)⟩
        case measure => simp [intOf]; omega
      · obtain rfl : k = N := by omega
        have k1 : ¬ (k : Int) < (k : Int) := by omega
        go_wp2_with fail
        refine (CA.out _ HW.out).mono ?_
        rintro e w6 ⟨rfl, hb6⟩
        have B6 := Lib.hid (Below.trans0 HW.out hb6)
        clear hb6
        go_wp2
        go_ret
        exact ⟨rfl, B6.out⟩
  · have B1 := Lib.hid hb1
    have HB := Lib.hid (badAt_at P b hbad)
    have hbl : b < N := by rw [← HN.out]; exact badAt_lt P b hbad
    clear hb1 hbad
    go_wp2_with fail
    refine (C2.out _).mono ?_
    rintro e w2 ⟨v2, rfl, hr2, hb2⟩
    have hl2 : (P.map mkS).length = N := by rw [List.length_map]; exact HN.out
    obtain ⟨A2, c2, hv2, hc2⟩ := hr2.open_
    rw [hl2] at hv2 hc2
    obtain ⟨g2, o2, rfl, hg2, -⟩ := hc2 hPp
    subst hv2
    have B2 := Lib.hid (Below.trans0 B1.out hb2)
    have R2 := Lib.hid hr2
    clear hb2 hr2 hc2 B1
    go_wp2
    go_loopw [7, 8, 9] (fun u7 _ _ wr => ∃ k : Nat, k ≤ b ∧ u7 = .int .i64 (k : Int) ∧ Hid (Below w.heap.size w wr) ∧ Hid (eS.Rd wr (.slice (some ⟨g2, o2, none⟩) N c2) (P.map mkS))) (fun u7 _ _ _ => N - (intOf u7).toNat)
    case atStart => exact ⟨0, Nat.zero_le _, rfl, B2, R2⟩
    case round =>
      obtain ⟨k, hk, rfl, HW, H2⟩ := hrel
      have k0 : (0 : Int) ≤ (k : Int) := by omega
      have k1 : (k : Int) < (N : Int) := by omega
      obtain ⟨p, hp⟩ : ∃ p, P[k]? = some p := ⟨_, List.getElem?_eq_getElem (by rw [HN.out]; omega)⟩
      have hok := HB.out k p hp hk
      have tc : wr.cell? ⟨g2, o2 + k, none⟩ = some (.string (mkS p)) := by
        have := Els.Rd.at H2.out (i := k) (x := mkS p) (by rw [List.getElem?_map, hp]; rfl) 0 (.string (mkS p)) rfl
        rwa [show o2 + (k * eS.k + 0) = o2 + k by show o2 + (k * 1 + 0) = o2 + k; omega] at this
      have CCp := Lib.hid (fun u => CC.out p (List.mem_of_getElem? hp) u)
      obtain ⟨R, hR⟩ : ∃ R, lxCut p = R := ⟨_, rfl⟩
      rw [hR] at hok CCp
      obtain ⟨lab, op, arg, ok⟩ := R
      dsimp only at hok
      unfold lyA at CCp
      dsimp only at CCp
      obtain ⟨SA, hSA⟩ : ∃ S, mkS lab = S := ⟨_, rfl⟩
      obtain ⟨SB, hSB⟩ : ∃ S, mkS op = S := ⟨_, rfl⟩
      obtain ⟨SC, hSC⟩ : ∃ S, mkS arg = S := ⟨_, rfl⟩
      rw [hSA, hSB, hSC] at CCp
      clear hSA hSB hSC hp hR
      by_cases hkb : k = b
      · have ho : ok = false := by rw [hok, hkb]; simp
        subst ho
        have e1 : ((b : Int) + 1 == (k : Int) + 1) = true := by rw [hkb]; simp
        clear hok
        subst hkb
        have w1 : IntKind.i64.wrap ((k : Int) + 1) = (k : Int) + 1 := IntWalk.i64_in _ (by omega)
        go_wp2_with fail
        refine (CCp.out _).mono ?_
        rintro e w3 ⟨rfl, hb3⟩
        have B3 := Lib.hid (show Below w.heap.size w (w3.alloc (.cells #[.string SA, .string SB, .string SC] 27)) from Below.alloc0 (Below.trans0 HW.out hb3) _)
        clear hb3
        go_wp2_with fail
        refine (CA.out _ B3.out).mono ?_
        rintro e w6 ⟨rfl, hb6⟩
        have B6 := Lib.hid (Below.trans0 B3.out hb6)
        clear hb6
        go_wp2
        go_ret
        exact ⟨rfl, B6.out⟩
      · have ho : ok = true := by rw [hok]; simpa using hkb
        subst ho
        clear hok
        go_wp2_with fail
        refine (CCp.out _).mono ?_
        rintro e w3 ⟨rfl, hb3⟩
        obtain ⟨g3, hg3⟩ : ∃ g, w3.heap.size = g := ⟨_, rfl⟩
        obtain ⟨W3, hW3⟩ : ∃ W, w3.alloc (.cells #[.string SA, .string SB, .string SC] 27) = W := ⟨_, rfl⟩
        have F3 := Lib.hid (show Below wr.heap.size wr W3 by rw [← hW3]; exact Below.alloc0 hb3 _)
        have P3 := Lib.hid (show Blk W3 g3 27 #[.string SA, .string SB, .string SC] by rw [← hW3, ← hg3]; exact Blk.new _ _ _ _)
        obtain ⟨d0, d1, d2⟩ := P3.out.c3s
        clear hb3
        go_wp2_with fail
        go_quiet (fail)
        go_wp2
        go_roundw
        case rel => exact ⟨k + 1, by omega, by go_num, Lib.hid (Below.drewN0 (Below.trans0 HW.out F3.out) _), Lib.hid ((H2.out.below F3.out).drewN _)⟩
        case measure => simp [intOf]; omega
end Go.Proofs.YtmdpgekbiohfbaaDoor
