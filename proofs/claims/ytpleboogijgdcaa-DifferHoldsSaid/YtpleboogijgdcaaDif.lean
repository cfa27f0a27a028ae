/- Differ: where two traces differ (numbers), and the contracts of differ's both, differ, First, Count. -/
import Derived.Test.YtpleboogijgdcaaRcB
namespace Go.Proofs.Ytpleboogijgdcaa
open Go.ChangeShapes Go.WideShapes Go.ChangeAt Go.RowKit
set_option linter.unusedVariables false

/-- At k two traces differ. -/
noncomputable def dfB (l m : List Rc) (k : Nat) : Bool := !eqB l[k]? m[k]?
theorem dfB_comm (l m : List Rc) : dfB l m = dfB m l := by funext k; simp only [dfB, eqB_comm]
/-- How many places there are; the first one at which they differ; how many. -/
def mxD (l m : List Rc) : Nat := max l.length m.length
theorem mxD_comm (l m : List Rc) : mxD l m = mxD m l := Nat.max_comm _ _
noncomputable def fsD (l m : List Rc) : Int := match (List.range (mxD l m)).find? (dfB l m) with | none => -1 | some k => (k : Int)
noncomputable def ctD (l m : List Rc) (n : Nat) : Nat := ((List.range n).filter (dfB l m)).length
theorem fsD_comm (l m : List Rc) : fsD l m = fsD m l := by unfold fsD; rw [mxD_comm, dfB_comm]
theorem ctD_comm (l m : List Rc) (n : Nat) : ctD l m n = ctD m l n := by unfold ctD; rw [dfB_comm]
theorem ctD_next (l m : List Rc) (n : Nat) : ctD l m (n + 1) = ctD l m n + (if dfB l m n then 1 else 0) := by
  unfold ctD
  rw [List.range_succ, List.filter_append, List.length_append]
  by_cases h : dfB l m n <;> simp [h]
theorem ctD_le (l m : List Rc) (n : Nat) : ctD l m n ≤ n := by
  unfold ctD
  exact Nat.le_trans (List.length_filter_le _ _) (by simp)
theorem find_none (p : Nat → Bool) (n : Nat) (h : ∀ k, k < n → p k = false) : (List.range n).find? p = none := by
  rw [List.find?_eq_none]
  intro k hk
  rw [h k (List.mem_range.1 hk)]; simp
theorem find_some (p : Nat → Bool) : ∀ (n k : Nat), k < n → p k = true → (∀ j, j < k → p j = false) → (List.range n).find? p = some k := by
  intro n
  induction n with
  | zero => intro k hk; omega
  | succ n ih =>
    intro k hk hp hj
    rw [List.range_succ, List.find?_append]
    by_cases e : k < n
    · rw [ih k e hp hj]; rfl
    · obtain rfl : k = n := by omega
      rw [find_none p k hj]
      simp [hp]
theorem fsD_none (l m : List Rc) (h : ∀ k, k < mxD l m → dfB l m k = false) : fsD l m = -1 := by unfold fsD; rw [find_none _ _ h]
theorem fsD_some (l m : List Rc) (k : Nat) (hk : k < mxD l m) (hp : dfB l m k = true) (h : ∀ j, j < k → dfB l m j = false) : fsD l m = (k : Int) := by unfold fsD; rw [find_some _ _ k hk hp h]
theorem same_df (l m : List Rc) : (∀ k, k < mxD l m → dfB l m k = false) ↔ l = m := by
  constructor
  · intro h
    apply List.ext_getElem?
    intro k
    by_cases hk : k < mxD l m
    · have := h k hk
      simp only [dfB, Bool.not_eq_false', eqB_iff] at this
      exact this
    · unfold mxD at hk
      rw [List.getElem?_eq_none (by omega), List.getElem?_eq_none (by omega)]
  · rintro rfl k _
    simp [dfB, eqB_self]
theorem fsD_same (l m : List Rc) : decide (fsD l m < 0) = eqB l m := by
  rw [Bool.eq_iff_iff, eqB_iff, ← same_df, decide_eq_true_iff]
  constructor
  · intro h
    by_cases e : ∀ k, k < mxD l m → dfB l m k = false
    · exact e
    · exfalso
      cases hf : (List.range (mxD l m)).find? (dfB l m) with
      | none =>
        rw [List.find?_eq_none] at hf
        exact e fun k hk => by simpa using hf k (List.mem_range.2 hk)
      | some k => unfold fsD at h; rw [hf] at h; simp only at h; omega
  · intro h
    rw [fsD_none l m h]; decide
theorem ctD_same (l m : List Rc) : (((ctD l m (mxD l m) : Nat) : Int) == 0) = eqB l m := by
  rw [Bool.eq_iff_iff, eqB_iff, ← same_df, beq_iff_eq]
  unfold ctD
  constructor
  · intro h k hk
    have h0 : ((List.range (mxD l m)).filter (dfB l m)).length = 0 := by omega
    have := List.filter_eq_nil_iff.1 (List.eq_nil_of_length_eq_zero h0) k (List.mem_range.2 hk)
    simpa using this
  · intro h
    have : (List.range (mxD l m)).filter (dfB l m) = [] := List.filter_eq_nil_iff.2 fun k hk => by rw [h k (List.mem_range.1 hk)]; simp
    rw [this]; rfl
set_option maxRecDepth 100000 in
set_option maxHeartbeats 1000000 in
theorem dfBoth_any (A A' : Option Addr) (n n' c c' k : Nat) (w : World) :
    Calls Try.prog 52 #[.slice A n c, .slice A' n' c', .int .i64 (k : Int)] w fun e w' => e = .returned (.bool (decide (k < n) && decide (k < n'))) ∧ w = w' := by
  by_cases h1 : k < n
  · by_cases h2 : k < n'
    · rw [show (decide (k < n) && decide (k < n')) = true by simp [h1, h2]]
      go_enter Try.func52, Try.ntmps52
      have t1 : (k : Int) < n := by omega
      have t2 : (k : Int) < n' := by omega
      go_wp2
      go_ret
      exact ⟨rfl, rfl⟩
    · rw [show (decide (k < n) && decide (k < n')) = false by simp [h2]]
      go_enter Try.func52, Try.ntmps52
      have t1 : (k : Int) < n := by omega
      have t2 : ¬ (k : Int) < n' := by omega
      go_wp2
      go_ret
      exact ⟨rfl, rfl⟩
  · rw [show (decide (k < n) && decide (k < n')) = false by simp [h1]]
    go_enter Try.func52, Try.ntmps52
    have t1 : ¬ (k : Int) < n := by omega
    go_wp2
    go_ret
    exact ⟨rfl, rfl⟩
set_option maxRecDepth 100000 in
set_option maxHeartbeats 2000000 in
theorem dfDif_any (v v' : Value) (l m : List Rc) (k : Nat) (w : World) (h : eR.Rd w v l) (h' : eR.Rd w v' m) (hk : k < mxD l m) :
    Calls Try.prog 30 #[v, v', .int .i64 (k : Int)] w fun e w' => e = .returned (.bool (dfB l m k)) ∧ ∃ j, w' = w.drewN j := by
  obtain ⟨A, c, rfl, hc⟩ := h.open_
  obtain ⟨A', c', rfl, hc'⟩ := h'.open_
  have CB := Lib.hid (fun u => dfBoth_any A A' l.length m.length c c' k u)
  by_cases h1 : k < l.length ∧ k < m.length
  · obtain ⟨h1, h2⟩ := h1
    have t : (decide (k < l.length) && decide (k < m.length)) = true := by simp [h1, h2]
    rw [t] at CB
    obtain ⟨b, off, rfl, hb, hcell⟩ := hc (by omega)
    obtain ⟨b', off', rfl, hb', hcell'⟩ := hc' (by omega)
    obtain ⟨x, hx⟩ : ∃ x, l[k]? = some x := ⟨_, List.getElem?_eq_getElem h1⟩
    obtain ⟨y, hy⟩ : ∃ y, m[k]? = some y := ⟨_, List.getElem?_eq_getElem h2⟩
    obtain ⟨d0, d1, d2, d3, d4, d5, d6, d7, d8⟩ := rc9_at (Below.refl w.heap.size w) hb (fun jj u hu => hcell k x hx jj u hu)
    obtain ⟨f0, f1, f2, f3, f4, f5, f6, f7, f8⟩ := rc9_at (Below.refl w.heap.size w) hb' (fun jj u hu => hcell' k y hy jj u hu)
    have E := Lib.hid (show dfB l m k = !eqB x y by
      unfold dfB; rw [hx, hy]
      congr 1
      rw [Bool.eq_iff_iff, eqB_iff, eqB_iff, Option.some.injEq])
    have k0 : (0 : Int) ≤ k := by omega
    have k1 : (k : Int) < l.length := by omega
    have k2 : (k : Int) < m.length := by omega
    have HE := neq_rc x y
    generalize l.length = n at *
    generalize m.length = n' at *
    generalize eqB x y = q at *
    clear h h' hc hc' hcell hcell' hx hy h1 h2 t hk
    go_enter Try.func30, Try.ntmps30
    go_wp2
    go_quiet ((go_at_call 52; exact Calls.quiet_of ((CB.out _).mono (fun e w' h => ⟨h.1, 0, h.2.symm⟩))))
    go_wp2
    go_ret
    exact ⟨ret_bool E.out.symm, _, rfl⟩
  · have t : (decide (k < l.length) && decide (k < m.length)) = false := by
      rw [Bool.and_eq_false_iff, decide_eq_false_iff_not, decide_eq_false_iff_not]
      by_cases q : k < l.length
      · exact .inr fun z => h1 ⟨q, z⟩
      · exact .inl q
    rw [t] at CB
    have E := Lib.hid (show dfB l m k = true by
      unfold dfB; rw [Bool.not_eq_true']
      apply eqB_no
      intro e
      have hk' : k < l.length ∨ k < m.length := by
        unfold mxD at hk
        rcases Nat.le_total l.length m.length with z | z
        · rw [Nat.max_eq_right z] at hk; exact .inr hk
        · rw [Nat.max_eq_left z] at hk; exact .inl hk
      clear hk
      by_cases q : k < l.length
      · have q2 : ¬ k < m.length := fun z => h1 ⟨q, z⟩
        rw [List.getElem?_eq_getElem q, List.getElem?_eq_none (by omega)] at e
        cases e
      · rw [List.getElem?_eq_none (by omega), List.getElem?_eq_getElem (hk'.resolve_left q)] at e
        cases e)
    generalize l.length = n at *
    generalize m.length = n' at *
    clear h h' hc hc' h1 t hk
    go_enter Try.func30, Try.ntmps30
    go_wp2
    go_quiet ((go_at_call 52; exact Calls.quiet_of ((CB.out _).mono (fun e w' h => ⟨h.1, 0, h.2.symm⟩))))
    go_wp2
    go_ret
    exact ⟨ret_bool E.out.symm, _, rfl⟩
set_option maxRecDepth 100000 in
set_option maxHeartbeats 2000000 in
theorem dfFirst_any (v v' : Value) (l m : List Rc) (w : World) (h : eR.Rd w v l) (h' : eR.Rd w v' m) (hn : l.length ≤ 1000000) (hn' : m.length ≤ 1000000) :
    Calls Try.prog 8 #[v, v'] w fun e w' => e = .returned (.int .i64 (fsD l m)) ∧ ∃ j, w' = w.drewN j := by
  have CD := Lib.hid (fun (k : Nat) (u : World) (hu : ∃ j, u = w.drewN j) (hk : k < mxD l m) => dfDif_any v v' l m k u (by obtain ⟨j, rfl⟩ := hu; exact h.drewN j) (by obtain ⟨j, rfl⟩ := hu; exact h'.drewN j) hk)
  obtain ⟨A, c, rfl, hc⟩ := h.open_
  obtain ⟨A', c', rfl, hc'⟩ := h'.open_
  have EN := Lib.hid (fsD_none l m)
  have ES := Lib.hid (fsD_some l m)
  have HM := Lib.hid (show mxD l m = max l.length m.length from rfl)
  have HX : mxD l m ≤ 1000000 := by unfold mxD; omega
  obtain ⟨n, hl⟩ : ∃ n, l.length = n := ⟨_, rfl⟩
  obtain ⟨n', hl'⟩ : ∃ n', m.length = n' := ⟨_, rfl⟩
  rw [hl] at CD HM hn ⊢
  rw [hl'] at CD HM hn' ⊢
  clear h h' hc hc' hl hl'
  generalize mxD l m = M at *
  generalize fsD l m = FS at *
  have hm1 : max (n : Int) (n' : Int) = (M : Int) := by rw [HM.out]; omega
  go_enter Try.func8, Try.ntmps8
  go_wp2
  go_loopw [11] (fun i wr => ∃ k : Nat, k ≤ M ∧ i = .int .i64 k ∧ (∀ j, j < k → dfB l m j = false) ∧ ∃ j, wr = w.drewN j) (fun i _ => M - (intOf i).toNat)
  case atStart => exact ⟨0, Nat.zero_le _, rfl, fun j hj => absurd hj (by omega), 0, rfl⟩
  case round =>
    obtain ⟨k, hk, rfl, hno, j, rfl⟩ := hrel
    have HN := Lib.hid hno
    clear hno
    by_cases hlt : k < M
    · have C1 := Lib.hid (CD.out k (w.drewN j) ⟨j, rfl⟩ hlt)
      have t0 : (0 : Int) ≤ k := by omega
      have t1 : (k : Int) < M := by omega
      obtain ⟨q, hq⟩ : ∃ q, dfB l m k = q := ⟨_, rfl⟩
      rw [hq] at C1
      have HQ := Lib.hid hq
      clear hq
      cases q
      case false =>
        go_wp2_with fail
        refine C1.out.mono ?_
        rintro e w1 ⟨rfl, j1, rfl⟩
        go_wp2
        go_roundw
        case rel => exact ⟨k + 1, by omega, by go_num, fun i hi => by (by_cases e : i = k); (subst e; exact HQ.out); exact HN.out i (by omega), _, rfl⟩
        case measure => simp [intOf]; omega
      case true =>
        go_wp2_with fail
        refine C1.out.mono ?_
        rintro e w1 ⟨rfl, j1, rfl⟩
        have E := Lib.hid (ES.out k hlt HQ.out HN.out)
        go_wp2
        go_ret
        exact ⟨ret_int E.out.symm, _, rfl⟩
    · obtain rfl : k = M := by omega
      have E := Lib.hid (EN.out HN.out)
      go_wp2
      go_ret
      exact ⟨ret_int E.out.symm, j, rfl⟩
set_option maxRecDepth 100000 in
set_option maxHeartbeats 2000000 in
theorem dfCount_any (v v' : Value) (l m : List Rc) (w : World) (h : eR.Rd w v l) (h' : eR.Rd w v' m) (hn : l.length ≤ 1000000) (hn' : m.length ≤ 1000000) :
    Calls Try.prog 9 #[v, v'] w fun e w' => e = .returned (.int .i64 (ctD l m (mxD l m) : Nat)) ∧ ∃ j, w' = w.drewN j := by
  have CD := Lib.hid (fun (k : Nat) (u : World) (hu : ∃ j, u = w.drewN j) (hk : k < mxD l m) => dfDif_any v v' l m k u (by obtain ⟨j, rfl⟩ := hu; exact h.drewN j) (by obtain ⟨j, rfl⟩ := hu; exact h'.drewN j) hk)
  obtain ⟨A, c, rfl, hc⟩ := h.open_
  obtain ⟨A', c', rfl, hc'⟩ := h'.open_
  have HM := Lib.hid (show mxD l m = max l.length m.length from rfl)
  have HX : mxD l m ≤ 1000000 := by unfold mxD; omega
  obtain ⟨n, hl⟩ : ∃ n, l.length = n := ⟨_, rfl⟩
  obtain ⟨n', hl'⟩ : ∃ n', m.length = n' := ⟨_, rfl⟩
  rw [hl] at CD HM hn ⊢
  rw [hl'] at CD HM hn' ⊢
  clear h h' hc hc' hl hl'
  generalize mxD l m = M at *
  have hm1 : max (n : Int) (n' : Int) = (M : Int) := by rw [HM.out]; omega
  go_enter Try.func9, Try.ntmps9
  go_wp2
  go_loopw [5, 12] (fun c i wr => ∃ k : Nat, k ≤ M ∧ i = .int .i64 k ∧ c = .int .i64 (ctD l m k : Nat) ∧ ∃ j, wr = w.drewN j) (fun _ i _ => M - (intOf i).toNat)
  case atStart => exact ⟨0, Nat.zero_le _, rfl, rfl, 0, rfl⟩
  case round =>
    obtain ⟨k, hk, rfl, rfl, j, rfl⟩ := hrel
    by_cases hlt : k < M
    · have C1 := Lib.hid (CD.out k (w.drewN j) ⟨j, rfl⟩ hlt)
      have t0 : (0 : Int) ≤ k := by omega
      have t1 : (k : Int) < M := by omega
      have hct := ctD_le l m k
      have HNX := Lib.hid (ctD_next l m k)
      obtain ⟨q, hq⟩ : ∃ q, dfB l m k = q := ⟨_, rfl⟩
      rw [hq] at C1 HNX
      clear hq
      generalize ctD l m k = c0 at *
      cases q
      case false =>
        go_wp2_with fail
        refine C1.out.mono ?_
        rintro e w1 ⟨rfl, j1, rfl⟩
        go_wp2
        go_roundw
        case rel => exact ⟨k + 1, by omega, by go_num, by rw [HNX.out]; rfl, _, rfl⟩
        case measure => simp [intOf]; omega
      case true =>
        go_wp2_with fail
        refine C1.out.mono ?_
        rintro e w1 ⟨rfl, j1, rfl⟩
        go_wp2
        go_roundw
        case rel => exact ⟨k + 1, by omega, by go_num, by rw [HNX.out]; go_num, _, rfl⟩
        case measure => simp [intOf]; omega
    · obtain rfl : k = M := by omega
      go_wp2
      go_ret
      exact ⟨rfl, j, rfl⟩
end Go.Proofs.Ytpleboogijgdcaa
