/- Flow: the contract of the document's own Next (spinetref54). -/
import Derived.Test.YteaajmoclgfhnaaFlo
namespace Go.Proofs.Yteaajmoclgfhnaa
open Go.ChangeShapes Go.WideShapes Go.ChangeAt Go.RowKit
set_option linter.unusedVariables false

set_option maxRecDepth 100000 in
set_option maxHeartbeats 16000000 in
theorem refNext_any (p c m r b v l a oi : Int) (o : Nat) (hoi : oi = (o : Int)) (b0 : 0 ≤ b) (b1 : b < 256) (l0 : 0 ≤ l) (l1 : l ≤ 100) (v0 : 0 ≤ v) (v1 : v < 65536) (a0 : 0 ≤ a) (a1 : a < 65536) (w : World) :
    Calls Try.prog 13 #[.agg (iD p c oi m r b v l), .int .u16 a] w (GivesW (flL o m r b v l a) (flA o m b) w) := by
  have HB := Lib.hid (Below.alloc0 (Below.refl w.heap.size w) (Obj.cells (iD p c oi m r b v l) 37))
  have HK := Lib.hid (Blk.new w 37 (iD p c oi m r b v l) (0, 0))
  have tw : IntKind.u16.wrap l = l := by rw [IntKind.wrap_u16]; omega
  have HX : Hid ((nxN l a + v) % 65536 = tgN l v a) := Lib.hid (by unfold nxN tgN; omega)
  have n0 := nx_rng l a
  have t0 := tg_rng l v a
  have HT := Lib.hid t0
  have HN := Lib.hid n0
  obtain ⟨FL, hFL⟩ : ∃ FL, flL o m r b v l a = FL := ⟨_, rfl⟩
  obtain ⟨FA, hFA⟩ : ∃ FA, flA o m b = FA := ⟨_, rfl⟩
  rw [hFL, hFA]
  have HFL := Lib.hid hFL
  have HFA := Lib.hid hFA
  clear hFL hFA
  obtain ⟨n, hn⟩ : ∃ n, nxN l a = n := ⟨_, rfl⟩
  obtain ⟨t, ht⟩ : ∃ t, tgN l v a = t := ⟨_, rfl⟩
  rw [hn] at HX n0
  rw [ht] at HX t0
  have HNe := Lib.hid hn
  have HTe := Lib.hid ht
  have tn : IntKind.u16.wrap (a + l) = n := by rw [IntKind.wrap_u16]; exact hn
  have tt : IntKind.u16.wrap (n + v) = t := by rw [IntKind.wrap_u16]; exact HX.out
  have HOI := Lib.hid hoi
  clear hn ht hoi
  go_enter Try.func13, Try.ntmps13
  go_upto_region 3 with (fail)
  generalize w.alloc (Obj.cells (iD p c oi m r b v l) 37) = W at HB HK ⊢
  obtain ⟨q0, q1, q2, q3, q4, q5, q6, q7⟩ := Blk.c8 HK.out
  go_wp2
  go_quiet (fail)
  have HB1 := Lib.hid (Below.drewN0 HB.out nq)
  have HK1 := Lib.hid (Blk.drewN HK.out nq)
  generalize W.drewN nq = W1 at HB1 HK1 ⊢
  clear q0 q1 q2 q3 q4 q5 q6 q7
  obtain ⟨q0, q1, q2, q3, q4, q5, q6, q7⟩ := Blk.c8 HK1.out
  go_upto_region 4 with (fail)
  go_quiet (fail)
  have HB2 := Lib.hid (Below.drewN0 HB1.out nq)
  have HK2 := Lib.hid (Blk.drewN HK1.out nq)
  generalize W1.drewN nq = W2 at HB2 HK2 ⊢
  clear q0 q1 q2 q3 q4 q5 q6 q7 tw tn tt n0 t0
  obtain ⟨q0, q1, q2, q3, q4, q5, q6, q7⟩ := Blk.c8 HK2.out
  clear HB HK HB1 HK1 HX
  rcases (show o = 34 ∨ o = 35 ∨ o = 36 ∨ o = 37 ∨ o = 38 ∨ o = 32 ∨ o = 33 ∨ o = 51 ∨ o = 48 ∨ o = 49 ∨ o = 47 ∨ o = 46 ∨ o = 31 ∨ (o ≠ 34 ∧ o ≠ 35 ∧ o ≠ 36 ∧ o ≠ 37 ∧ o ≠ 38 ∧ o ≠ 32 ∧ o ≠ 33 ∧ o ≠ 51 ∧ o ≠ 48 ∧ o ≠ 49 ∧ o ≠ 47 ∧ o ≠ 46 ∧ o ≠ 31) by omega) with ho | ho | ho | ho | ho | ho | ho | ho | ho | ho | ho | ho | ho | ho
  · subst ho
    obtain rfl : oi = 34 := by have := HOI.out; omega
    clear HOI
    by_cases r0 : r = 0
    · subst r0
      go_wp2
      go_ret2
      have e1 := HFL.out
      have e2 := HFA.out
      obtain rfl := HNe.out
      obtain rfl := HTe.out
      subst e1
      subst e2
      exact gw_1 _ (tg_rng l v a).1 (tg_rng l v a).2 _ _ _ _ _ HB2.out _ rfl
    · by_cases r1 : r = 1
      · subst r1
        go_wp2
        go_ret2
        have e1 := HFL.out
        have e2 := HFA.out
        obtain rfl := HNe.out
        obtain rfl := HTe.out
        subst e1
        subst e2
        exact gw_1 _ (nx_rng l a).1 (nx_rng l a).2 _ _ _ _ _ HB2.out _ rfl
      · have s0 : (r == 0) = false := by simpa using r0
        have s1 : (r == 1) = false := by simpa using r1
        go_wp2
        go_ret2
        have e1 := HFL.out
        have e2 := HFA.out
        obtain rfl := HNe.out
        obtain rfl := HTe.out
        have e3 : flL 34 m r b v l a = [tgN l v a, nxN l a] := by show (if r = 0 then _ else if r = 1 then _ else _) = _; rw [if_neg r0, if_neg r1]
        rw [e3] at e1
        subst e1
        subst e2
        exact gw_2 _ _ (tg_rng l v a).1 (tg_rng l v a).2 (nx_rng l a).1 (nx_rng l a).2 _ _ _ _ _ HB2.out _ rfl
  · subst ho
    obtain rfl : oi = 35 := by have := HOI.out; omega
    clear HOI
    by_cases r0 : r = 0
    · subst r0
      go_wp2
      go_ret2
      have e1 := HFL.out
      have e2 := HFA.out
      obtain rfl := HNe.out
      obtain rfl := HTe.out
      subst e1
      subst e2
      exact gw_1 _ (tg_rng l v a).1 (tg_rng l v a).2 _ _ _ _ _ HB2.out _ rfl
    · by_cases r1 : r = 1
      · subst r1
        go_wp2
        go_ret2
        have e1 := HFL.out
        have e2 := HFA.out
        obtain rfl := HNe.out
        obtain rfl := HTe.out
        subst e1
        subst e2
        exact gw_1 _ (nx_rng l a).1 (nx_rng l a).2 _ _ _ _ _ HB2.out _ rfl
      · have s0 : (r == 0) = false := by simpa using r0
        have s1 : (r == 1) = false := by simpa using r1
        go_wp2
        go_ret2
        have e1 := HFL.out
        have e2 := HFA.out
        obtain rfl := HNe.out
        obtain rfl := HTe.out
        have e3 : flL 35 m r b v l a = [tgN l v a, nxN l a] := by show (if r = 0 then _ else if r = 1 then _ else _) = _; rw [if_neg r0, if_neg r1]
        rw [e3] at e1
        subst e1
        subst e2
        exact gw_2 _ _ (tg_rng l v a).1 (tg_rng l v a).2 (nx_rng l a).1 (nx_rng l a).2 _ _ _ _ _ HB2.out _ rfl
  · subst ho
    obtain rfl : oi = 36 := by have := HOI.out; omega
    clear HOI
    go_wp2
    go_ret2
    have e1 := HFL.out
    have e2 := HFA.out
    obtain rfl := HNe.out
    obtain rfl := HTe.out
    subst e1
    subst e2
    exact gw_1 _ (tg_rng l v a).1 (tg_rng l v a).2 _ _ _ _ _ HB2.out _ rfl
  · subst ho
    obtain rfl : oi = 37 := by have := HOI.out; omega
    clear HOI
    go_wp2
    go_ret2
    have e1 := HFL.out
    have e2 := HFA.out
    obtain rfl := HNe.out
    obtain rfl := HTe.out
    subst e1
    subst e2
    exact gw_2 _ _ (tg_rng l v a).1 (tg_rng l v a).2 (nx_rng l a).1 (nx_rng l a).2 _ _ _ _ _ HB2.out _ rfl
  · subst ho
    obtain rfl : oi = 38 := by have := HOI.out; omega
    clear HOI
    go_wp2
    go_ret2
    have e1 := HFL.out
    have e2 := HFA.out
    obtain rfl := HNe.out
    obtain rfl := HTe.out
    subst e1
    subst e2
    exact gw_2 _ _ (tg_rng l v a).1 (tg_rng l v a).2 (nx_rng l a).1 (nx_rng l a).2 _ _ _ _ _ HB2.out _ rfl
  · subst ho
    obtain rfl : oi = 32 := by have := HOI.out; omega
    clear HOI
    by_cases m5 : m = 5
    · subst m5
      go_wp2
      go_ret2
      have e1 := HFL.out
      have e2 := HFA.out
      obtain rfl := HNe.out
      obtain rfl := HTe.out
      subst e1
      subst e2
      exact gw_1 _ v0 v1 _ _ _ _ _ HB2.out _ rfl
    · have s5 : (m == 5) = false := by simpa using m5
      go_wp2
      go_ret2
      have e1 := HFL.out
      have e2 := HFA.out
      obtain rfl := HNe.out
      obtain rfl := HTe.out
      have e3 : flL 32 m r b v l a = [] := by show (if m = 5 then _ else _) = _; rw [if_neg m5]
      have e4 : flA 32 m b = false := by show decide (m = 5) = false; simpa using m5
      rw [e3] at e1
      rw [e4] at e2
      subst e1
      subst e2
      exact gw_nil _ _ _ HB2.out
  · subst ho
    obtain rfl : oi = 33 := by have := HOI.out; omega
    clear HOI
    by_cases m5 : m = 5
    · subst m5
      go_wp2
      go_ret2
      have e1 := HFL.out
      have e2 := HFA.out
      obtain rfl := HNe.out
      obtain rfl := HTe.out
      subst e1
      subst e2
      exact gw_2 _ _ v0 v1 (nx_rng l a).1 (nx_rng l a).2 _ _ _ _ _ HB2.out _ rfl
    · have s5 : (m == 5) = false := by simpa using m5
      go_wp2
      go_ret2
      have e1 := HFL.out
      have e2 := HFA.out
      obtain rfl := HNe.out
      obtain rfl := HTe.out
      have e3 : flL 33 m r b v l a = [nxN l a] := by show (if m = 5 then _ else _) = _; rw [if_neg m5]
      have e4 : flA 33 m b = false := by show decide (m = 5) = false; simpa using m5
      rw [e3] at e1
      rw [e4] at e2
      subst e1
      subst e2
      exact gw_1 _ (nx_rng l a).1 (nx_rng l a).2 _ _ _ _ _ HB2.out _ rfl
  · subst ho
    obtain rfl : oi = 51 := by have := HOI.out; omega
    clear HOI
    go_wp2
    go_ret2
    have e1 := HFL.out
    have e2 := HFA.out
    obtain rfl := HNe.out
    obtain rfl := HTe.out
    subst e1
    subst e2
    exact gw_1 _ (nx_rng l a).1 (nx_rng l a).2 _ _ _ _ _ HB2.out _ rfl
  · subst ho
    obtain rfl : oi = 48 := by have := HOI.out; omega
    clear HOI
    go_wp2
    go_ret2
    have e1 := HFL.out
    have e2 := HFA.out
    obtain rfl := HNe.out
    obtain rfl := HTe.out
    subst e1
    subst e2
    exact gw_nil _ _ _ HB2.out
  · subst ho
    obtain rfl : oi = 49 := by have := HOI.out; omega
    clear HOI
    go_wp2
    go_ret2
    have e1 := HFL.out
    have e2 := HFA.out
    obtain rfl := HNe.out
    obtain rfl := HTe.out
    subst e1
    subst e2
    exact gw_nil _ _ _ HB2.out
  · subst ho
    obtain rfl : oi = 47 := by have := HOI.out; omega
    clear HOI
    obtain ⟨P, hP⟩ : ∃ P, (b % 16 == 5) = P := ⟨_, rfl⟩
    cases P
    case false =>
      go_wp2
      go_ret2
      have e1 := HFL.out
      have e2 := HFA.out
      obtain rfl := HNe.out
      obtain rfl := HTe.out
      have e3 : pcB 47 b = false := by rw [pcB_47, hP]
      have e4 : flL 47 m r b v l a = [nxN l a] := by show (bif pcB 47 b then _ else _) = _; rw [e3]; rfl
      have e5 : flA 47 m b = true := by show (!pcB 47 b) = _; rw [e3]; rfl
      rw [e4] at e1
      rw [e5] at e2
      subst e1
      subst e2
      exact gw_1 _ (nx_rng l a).1 (nx_rng l a).2 _ _ _ _ _ HB2.out _ rfl
    case true =>
      go_wp2
      go_ret2
      have e1 := HFL.out
      have e2 := HFA.out
      obtain rfl := HNe.out
      obtain rfl := HTe.out
      have e3 : pcB 47 b = true := by rw [pcB_47, hP]
      have e4 : flL 47 m r b v l a = [] := by show (bif pcB 47 b then _ else _) = _; rw [e3]; rfl
      have e5 : flA 47 m b = false := by show (!pcB 47 b) = _; rw [e3]; rfl
      rw [e4] at e1
      rw [e5] at e2
      subst e1
      subst e2
      exact gw_nil _ _ _ HB2.out
  · subst ho
    obtain rfl : oi = 46 := by have := HOI.out; omega
    clear HOI
    obtain ⟨P, hP⟩ : ∃ P, (b / 16 == 5) = P := ⟨_, rfl⟩
    obtain ⟨Q, hQ⟩ : ∃ Q, (b % 16 == 5) = Q := ⟨_, rfl⟩
    cases P
    case true =>
      cases Q
      case false =>
        go_wp2
        go_ret2
        have e1 := HFL.out
        have e2 := HFA.out
        obtain rfl := HNe.out
        obtain rfl := HTe.out
        have e3 : pcB 46 b = true := by rw [pcB_46, hP, hQ]; rfl
        have e4 : flL 46 m r b v l a = [] := by show (bif pcB 46 b then _ else _) = _; rw [e3]; rfl
        have e5 : flA 46 m b = false := by show (!pcB 46 b) = _; rw [e3]; rfl
        rw [e4] at e1
        rw [e5] at e2
        subst e1
        subst e2
        exact gw_nil _ _ _ HB2.out
      case true =>
        go_wp2
        go_ret2
        have e1 := HFL.out
        have e2 := HFA.out
        obtain rfl := HNe.out
        obtain rfl := HTe.out
        have e3 : pcB 46 b = true := by rw [pcB_46, hP, hQ]; rfl
        have e4 : flL 46 m r b v l a = [] := by show (bif pcB 46 b then _ else _) = _; rw [e3]; rfl
        have e5 : flA 46 m b = false := by show (!pcB 46 b) = _; rw [e3]; rfl
        rw [e4] at e1
        rw [e5] at e2
        subst e1
        subst e2
        exact gw_nil _ _ _ HB2.out
    case false =>
      cases Q
      case false =>
        go_wp2
        go_ret2
        have e1 := HFL.out
        have e2 := HFA.out
        obtain rfl := HNe.out
        obtain rfl := HTe.out
        have e3 : pcB 46 b = false := by rw [pcB_46, hP, hQ]; rfl
        have e4 : flL 46 m r b v l a = [nxN l a] := by show (bif pcB 46 b then _ else _) = _; rw [e3]; rfl
        have e5 : flA 46 m b = true := by show (!pcB 46 b) = _; rw [e3]; rfl
        rw [e4] at e1
        rw [e5] at e2
        subst e1
        subst e2
        exact gw_1 _ (nx_rng l a).1 (nx_rng l a).2 _ _ _ _ _ HB2.out _ rfl
      case true =>
        go_wp2
        go_ret2
        have e1 := HFL.out
        have e2 := HFA.out
        obtain rfl := HNe.out
        obtain rfl := HTe.out
        have e3 : pcB 46 b = true := by rw [pcB_46, hP, hQ]; rfl
        have e4 : flL 46 m r b v l a = [] := by show (bif pcB 46 b then _ else _) = _; rw [e3]; rfl
        have e5 : flA 46 m b = false := by show (!pcB 46 b) = _; rw [e3]; rfl
        rw [e4] at e1
        rw [e5] at e2
        subst e1
        subst e2
        exact gw_nil _ _ _ HB2.out
  · subst ho
    obtain rfl : oi = 31 := by have := HOI.out; omega
    clear HOI
    obtain ⟨P, hP⟩ : ∃ P, decide (127 < b) = P := ⟨_, rfl⟩
    cases P
    case false =>
      go_wp2
      go_ret2
      have e1 := HFL.out
      have e2 := HFA.out
      obtain rfl := HNe.out
      obtain rfl := HTe.out
      have e3 : pcB 31 b = false := by rw [pcB_31, hP]
      have e4 : flL 31 m r b v l a = [nxN l a] := by show (bif pcB 31 b then _ else _) = _; rw [e3]; rfl
      have e5 : flA 31 m b = true := by show (!pcB 31 b) = _; rw [e3]; rfl
      rw [e4] at e1
      rw [e5] at e2
      subst e1
      subst e2
      exact gw_1 _ (nx_rng l a).1 (nx_rng l a).2 _ _ _ _ _ HB2.out _ rfl
    case true =>
      go_wp2
      go_ret2
      have e1 := HFL.out
      have e2 := HFA.out
      obtain rfl := HNe.out
      obtain rfl := HTe.out
      have e3 : pcB 31 b = true := by rw [pcB_31, hP]
      have e4 : flL 31 m r b v l a = [] := by show (bif pcB 31 b then _ else _) = _; rw [e3]; rfl
      have e5 : flA 31 m b = false := by show (!pcB 31 b) = _; rw [e3]; rfl
      rw [e4] at e1
      rw [e5] at e2
      subst e1
      subst e2
      exact gw_nil _ _ _ HB2.out
  · obtain ⟨h1, h2, h3, h4, h5, h6, h7, h8, h9, h10, h11, h12, h13⟩ := ho
    have e6 := flL_no o m r b v l a ⟨h1, h2, h3, h4, h5, h6, h7, h8⟩
    rw [pcB_no o b h9 h10 h11 h12 h13] at e6
    have E6 := Lib.hid e6
    have hoi := HOI.out
    have g1 : (oi == 34) = false := by rw [beq_eq_false_iff_ne]; omega
    have g2 : (oi == 35) = false := by rw [beq_eq_false_iff_ne]; omega
    have g3 : (oi == 36) = false := by rw [beq_eq_false_iff_ne]; omega
    have g4 : (oi == 37) = false := by rw [beq_eq_false_iff_ne]; omega
    have g5 : (oi == 38) = false := by rw [beq_eq_false_iff_ne]; omega
    have g6 : (oi == 32) = false := by rw [beq_eq_false_iff_ne]; omega
    have g7 : (oi == 33) = false := by rw [beq_eq_false_iff_ne]; omega
    have g8 : (oi == 51) = false := by rw [beq_eq_false_iff_ne]; omega
    have g9 : (oi == 48) = false := by rw [beq_eq_false_iff_ne]; omega
    have g10 : (oi == 49) = false := by rw [beq_eq_false_iff_ne]; omega
    have g11 : (oi == 47) = false := by rw [beq_eq_false_iff_ne]; omega
    have g12 : (oi == 46) = false := by rw [beq_eq_false_iff_ne]; omega
    have g13 : (oi == 31) = false := by rw [beq_eq_false_iff_ne]; omega
    clear h1 h2 h3 h4 h5 h6 h7 h8 h9 h10 h11 h12 h13 hoi e6 HOI
    go_wp2
    go_ret2
    have e1 := HFL.out
    have e2 := HFA.out
    obtain rfl := HNe.out
    obtain rfl := HTe.out
    rw [E6.out.1] at e1
    rw [E6.out.2] at e2
    subst e1
    subst e2
    exact gw_1 _ (nx_rng l a).1 (nx_rng l a).2 _ _ _ _ _ HB2.out _ rfl
end Go.Proofs.Yteaajmoclgfhnaa
