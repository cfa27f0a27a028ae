/- Records compared: two of them, two rows of them (slices.Equal). -/
import Derived.Test.YtpleboogijgdcaaRec
import Derived.BigQuiet
namespace Go.Proofs.Ytpleboogijgdcaa
open Go.ChangeShapes Go.WideShapes Go.ChangeAt Go.RowKit
set_option linter.unusedVariables false

open Classical in
/-- Whether two are one, as a Bool. -/
noncomputable def eqB {α : Type} (x y : α) : Bool := decide (x = y)
theorem eqB_iff {α : Type} (x y : α) : eqB x y = true ↔ x = y := by simp [eqB]
theorem eqB_no {α : Type} {x y : α} (h : x ≠ y) : eqB x y = false := by simp [eqB, h]
theorem eqB_yes {α : Type} {x y : α} (h : x = y) : eqB x y = true := by simp [eqB, h]
theorem eqB_self {α : Type} (x : α) : eqB x x = true := by simp [eqB]
theorem eqB_comm {α : Type} (x y : α) : eqB x y = eqB y x := by rw [Bool.eq_iff_iff, eqB_iff, eqB_iff]; exact eq_comm
abbrev rc9 (x : Rc) : Array Value := #[.int .u16 x.a, .int .u8 x.d, .bool x.r, .bool x.b1, .bool x.b2, .bool x.b3, .bool x.b4, .bool x.b5, .bool x.m]
theorem rc_ext (x y : Rc) (h1 : x.a = y.a) (h2 : x.d = y.d) (h3 : x.r = y.r) (h4 : x.b1 = y.b1) (h5 : x.b2 = y.b2) (h6 : x.b3 = y.b3) (h7 : x.b4 = y.b4) (h8 : x.b5 = y.b5) (h9 : x.m = y.m) : x = y := by
  cases x; cases y; simp_all
theorem eql_rcs (x : Rc) (w : World) : (binOp .eql 26 (.agg #[.int .u16 x.a, .int .u8 x.d, .bool x.r, .bool x.b1, .bool x.b2, .bool x.b3, .bool x.b4, .bool x.b5, .bool x.m]) (.agg #[.int .u16 x.a, .int .u8 x.d, .bool x.r, .bool x.b1, .bool x.b2, .bool x.b3, .bool x.b4, .bool x.b5, .bool x.m])).run Try.prog w = .ok (.bool true) w := by
  have e1 : (x.a == x.a) = true := by simp
  have e2 : (x.d == x.d) = true := by simp
  have e3 : (x.r == x.r) = true := by simp
  have e4 : (x.b1 == x.b1) = true := by simp
  have e5 : (x.b2 == x.b2) = true := by simp
  have e6 : (x.b3 == x.b3) = true := by simp
  have e7 : (x.b4 == x.b4) = true := by simp
  have e8 : (x.b5 == x.b5) = true := by simp
  have e9 : (x.m == x.m) = true := by simp
  go_simp
theorem eql_rc (x y : Rc) (w : World) : (binOp .eql 26 (.agg #[.int .u16 x.a, .int .u8 x.d, .bool x.r, .bool x.b1, .bool x.b2, .bool x.b3, .bool x.b4, .bool x.b5, .bool x.m]) (.agg #[.int .u16 y.a, .int .u8 y.d, .bool y.r, .bool y.b1, .bool y.b2, .bool y.b3, .bool y.b4, .bool y.b5, .bool y.m])).run Try.prog w = .ok (.bool (eqB x y)) w := by
  by_cases h : x = y
  · subst h; rw [eqB_self]; exact eql_rcs x w
  · rw [eqB_no h]
    obtain ⟨a, d, r, b1, b2, b3, b4, b5, m⟩ := x
    obtain ⟨a', d', r', b1', b2', b3', b4', b5', m'⟩ := y
    simp only
    by_cases h1 : a = a'
    · subst h1
      have t1 : (a == a) = true := by simp
      by_cases h2 : d = d'
      · subst h2
        have t2 : (d == d) = true := by simp
        by_cases h3 : r = r'
        · subst h3
          have t3 : (r == r) = true := by simp
          by_cases h4 : b1 = b1'
          · subst h4
            have t4 : (b1 == b1) = true := by simp
            by_cases h5 : b2 = b2'
            · subst h5
              have t5 : (b2 == b2) = true := by simp
              by_cases h6 : b3 = b3'
              · subst h6
                have t6 : (b3 == b3) = true := by simp
                by_cases h7 : b4 = b4'
                · subst h7
                  have t7 : (b4 == b4) = true := by simp
                  by_cases h8 : b5 = b5'
                  · subst h8
                    have t8 : (b5 == b5) = true := by simp
                    by_cases h9 : m = m'
                    · subst h9; exact absurd rfl h
                    · have e : (m == m') = false := by simpa using h9
                      go_simp
                  · have e : (b5 == b5') = false := by simpa using h8
                    go_simp
                · have e : (b4 == b4') = false := by simpa using h7
                  go_simp
              · have e : (b3 == b3') = false := by simpa using h6
                go_simp
            · have e : (b2 == b2') = false := by simpa using h5
              go_simp
          · have e : (b1 == b1') = false := by simpa using h4
            go_simp
        · have e : (r == r') = false := by simpa using h3
          go_simp
      · have e : (d == d') = false := by simpa using h2
        go_simp
    · have e : (a == a') = false := by simpa using h1
      go_simp
theorem neq_rcs (x : Rc) (w : World) : (binOp .neq 26 (.agg #[.int .u16 x.a, .int .u8 x.d, .bool x.r, .bool x.b1, .bool x.b2, .bool x.b3, .bool x.b4, .bool x.b5, .bool x.m]) (.agg #[.int .u16 x.a, .int .u8 x.d, .bool x.r, .bool x.b1, .bool x.b2, .bool x.b3, .bool x.b4, .bool x.b5, .bool x.m])).run Try.prog w = .ok (.bool false) w := by
  have e1 : (x.a == x.a) = true := by simp
  have e2 : (x.d == x.d) = true := by simp
  have e3 : (x.r == x.r) = true := by simp
  have e4 : (x.b1 == x.b1) = true := by simp
  have e5 : (x.b2 == x.b2) = true := by simp
  have e6 : (x.b3 == x.b3) = true := by simp
  have e7 : (x.b4 == x.b4) = true := by simp
  have e8 : (x.b5 == x.b5) = true := by simp
  have e9 : (x.m == x.m) = true := by simp
  go_simp
theorem neq_rc (x y : Rc) (w : World) : (binOp .neq 26 (.agg #[.int .u16 x.a, .int .u8 x.d, .bool x.r, .bool x.b1, .bool x.b2, .bool x.b3, .bool x.b4, .bool x.b5, .bool x.m]) (.agg #[.int .u16 y.a, .int .u8 y.d, .bool y.r, .bool y.b1, .bool y.b2, .bool y.b3, .bool y.b4, .bool y.b5, .bool y.m])).run Try.prog w = .ok (.bool (!eqB x y)) w := by
  by_cases h : x = y
  · subst h; rw [eqB_self]; exact neq_rcs x w
  · rw [eqB_no h]
    obtain ⟨a, d, r, b1, b2, b3, b4, b5, m⟩ := x
    obtain ⟨a', d', r', b1', b2', b3', b4', b5', m'⟩ := y
    simp only
    by_cases h1 : a = a'
    · subst h1
      have t1 : (a == a) = true := by simp
      by_cases h2 : d = d'
      · subst h2
        have t2 : (d == d) = true := by simp
        by_cases h3 : r = r'
        · subst h3
          have t3 : (r == r) = true := by simp
          by_cases h4 : b1 = b1'
          · subst h4
            have t4 : (b1 == b1) = true := by simp
            by_cases h5 : b2 = b2'
            · subst h5
              have t5 : (b2 == b2) = true := by simp
              by_cases h6 : b3 = b3'
              · subst h6
                have t6 : (b3 == b3) = true := by simp
                by_cases h7 : b4 = b4'
                · subst h7
                  have t7 : (b4 == b4) = true := by simp
                  by_cases h8 : b5 = b5'
                  · subst h8
                    have t8 : (b5 == b5) = true := by simp
                    by_cases h9 : m = m'
                    · subst h9; exact absurd rfl h
                    · have e : (m == m') = false := by simpa using h9
                      go_simp
                  · have e : (b5 == b5') = false := by simpa using h8
                    go_simp
                · have e : (b4 == b4') = false := by simpa using h7
                  go_simp
              · have e : (b3 == b3') = false := by simpa using h6
                go_simp
            · have e : (b2 == b2') = false := by simpa using h5
              go_simp
          · have e : (b1 == b1') = false := by simpa using h4
            go_simp
        · have e : (r == r') = false := by simpa using h3
          go_simp
      · have e : (d == d') = false := by simpa using h2
        go_simp
    · have e : (a == a') = false := by simpa using h1
      go_simp
theorem takeEq_next {α : Type} (l l' : List α) (k : Nat) (x : α) (h : l.take k = l'.take k) (hx : l[k]? = some x) (hy : l'[k]? = some x) : l.take (k + 1) = l'.take (k + 1) := by
  rw [List.take_add_one, List.take_add_one, h, hx, hy]
set_option maxRecDepth 100000 in
set_option maxHeartbeats 2000000 in
theorem rcEq_any (v v' : Value) (l l' : List Rc) (w : World) (h : eR.Rd w v l) (h' : eR.Rd w v' l') (hn : l.length ≤ 1000000) :
    Calls Try.prog 7 #[v, v'] w fun e w' => e = .returned (.bool (eqB l l')) ∧ ∃ k, w' = w.drewN k := by
  obtain ⟨A, c, rfl, hc⟩ := h.open_
  obtain ⟨A', c', rfl, hc'⟩ := h'.open_
  obtain ⟨n, hl⟩ : ∃ n, l.length = n := ⟨_, rfl⟩
  obtain ⟨n', hl'⟩ : ∃ n', l'.length = n' := ⟨_, rfl⟩
  rw [hl] at hc hn ⊢
  rw [hl'] at hc' ⊢
  have HL := Lib.hid hl
  have HL' := Lib.hid hl'
  have H := Lib.hid hc
  have H' := Lib.hid hc'
  by_cases hnn : n = n'
  case neg =>
    have E0 := Lib.hid (eqB_no (show l ≠ l' from fun e => hnn (by rw [← hl, ← hl', e])))
    clear h h' hc hc' hl hl' H H' HL HL'
    go_enter Try.func7, Try.ntmps7
    have t : ((n : Int) != (n' : Int)) = true := by rw [bne_iff_ne]; omega
    go_wp2
    go_ret
    exact ⟨ret_bool E0.out.symm, 0, rfl⟩
  subst hnn
  clear h h' hc hc' hl hl'
  go_enter Try.func7, Try.ntmps7
  go_wp2
  go_loopw [13] (fun i wr => ∃ k : Nat, k ≤ n ∧ i = .int .i64 k ∧ Hid (l.take k = l'.take k) ∧ ∃ j, wr = w.drewN j) (fun i _ => n - (intOf i).toNat)
  case atStart => exact ⟨0, Nat.zero_le _, rfl, Lib.hid rfl, 0, rfl⟩
  case round =>
    obtain ⟨k, hk, rfl, HT, j, rfl⟩ := hrel
    by_cases hlt : k < n
    · obtain ⟨b, off, rfl, hb, hcell⟩ := H.out (by omega)
      obtain ⟨b', off', rfl, hb', hcell'⟩ := H'.out (by omega)
      obtain ⟨x, hx⟩ : ∃ x, l[k]? = some x := ⟨_, List.getElem?_eq_getElem (by rw [HL.out]; exact hlt)⟩
      obtain ⟨y, hy⟩ : ∃ y, l'[k]? = some y := ⟨_, List.getElem?_eq_getElem (by rw [HL'.out]; exact hlt)⟩
      obtain ⟨d0, d1, d2, d3, d4, d5, d6, d7, d8⟩ := rc9_at (Below.refl w.heap.size w) hb (fun jj u hu => hcell k x hx jj u hu)
      obtain ⟨f0, f1, f2, f3, f4, f5, f6, f7, f8⟩ := rc9_at (Below.refl w.heap.size w) hb' (fun jj u hu => hcell' k y hy jj u hu)
      have hk0 : (0 : Int) ≤ k := by omega
      have hkn : (k : Int) < n := by omega
      have HE := neq_rc x y
      have HN := Lib.hid (fun e : x = y => takeEq_next l l' k x HT.out hx (by rw [hy, e]))
      have HD := Lib.hid (fun e : x ≠ y => eqB_no (show l ≠ l' from fun q => e (by rw [q, hy] at hx; exact (Option.some.inj hx).symm)))
      by_cases hxy : x = y
      · rw [eqB_yes hxy] at HE
        have HN1 := Lib.hid (HN.out hxy)
        clear hcell hcell' hx hy hxy HN HD
        go_wp2
        go_quiet (fail)
        go_wp2
        go_roundw
        case rel => exact ⟨k + 1, by omega, by go_num, HN1, by first | exact ⟨_, rfl⟩ | exact ⟨_, World.drewN_drewN _ _ _⟩⟩
        case measure => simp [intOf]; omega
      · rw [eqB_no hxy] at HE
        have HD1 := Lib.hid (HD.out hxy)
        clear hcell hcell' hx hy hxy HN HD
        go_wp2
        go_quiet (fail)
        go_wp2
        go_ret
        exact ⟨ret_bool HD1.out.symm, by first | exact ⟨_, rfl⟩ | exact ⟨_, World.drewN_drewN _ _ _⟩⟩
    · obtain rfl : k = n := by omega
      have E0 := Lib.hid (eqB_yes (show l = l' by
        have := HT.out
        rwa [List.take_of_length_le (by rw [HL.out]; exact Nat.le_refl _), List.take_of_length_le (by rw [HL'.out]; exact Nat.le_refl _)] at this))
      clear HT
      go_wp2
      go_ret
      exact ⟨ret_bool E0.out.symm, j, rfl⟩
end Go.Proofs.Ytpleboogijgdcaa
