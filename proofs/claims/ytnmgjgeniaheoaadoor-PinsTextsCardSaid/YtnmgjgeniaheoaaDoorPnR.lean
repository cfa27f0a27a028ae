/- Pins compared: two of them, two rows of them (slices.Equal). -/
import Derived.Test.YtnmgjgeniaheoaaDoorPnE
import Derived.Test.YtnmgjgeniaheoaaDoorRcB
namespace Go.Proofs.YtnmgjgeniaheoaaDoor
open Go.ChangeShapes Go.WideShapes Go.ChangeAt Go.RowKit
set_option linter.unusedVariables false

theorem eql_pns (x : Pn) (w : World) : (binOp .eql 24 (.agg #[.bool x.p0, .bool x.p1, .bool x.p2, .bool x.p3, .bool x.p4, .bool x.p5]) (.agg #[.bool x.p0, .bool x.p1, .bool x.p2, .bool x.p3, .bool x.p4, .bool x.p5])).run Tryd.prog w = .ok (.bool true) w := by
  have e0 : (x.p0 == x.p0) = true := by simp
  have e1 : (x.p1 == x.p1) = true := by simp
  have e2 : (x.p2 == x.p2) = true := by simp
  have e3 : (x.p3 == x.p3) = true := by simp
  have e4 : (x.p4 == x.p4) = true := by simp
  have e5 : (x.p5 == x.p5) = true := by simp
  go_simp
theorem eql_pn (x y : Pn) (w : World) : (binOp .eql 24 (.agg #[.bool x.p0, .bool x.p1, .bool x.p2, .bool x.p3, .bool x.p4, .bool x.p5]) (.agg #[.bool y.p0, .bool y.p1, .bool y.p2, .bool y.p3, .bool y.p4, .bool y.p5])).run Tryd.prog w = .ok (.bool (eqB x y)) w := by
  by_cases h : x = y
  · subst h; rw [eqB_self]; exact eql_pns x w
  · rw [eqB_no h]
    obtain ⟨p0, p1, p2, p3, p4, p5⟩ := x
    obtain ⟨p0', p1', p2', p3', p4', p5'⟩ := y
    simp only
    by_cases h0 : p0 = p0'
    · subst h0
      have t0 : (p0 == p0) = true := by simp
      by_cases h1 : p1 = p1'
      · subst h1
        have t1 : (p1 == p1) = true := by simp
        by_cases h2 : p2 = p2'
        · subst h2
          have t2 : (p2 == p2) = true := by simp
          by_cases h3 : p3 = p3'
          · subst h3
            have t3 : (p3 == p3) = true := by simp
            by_cases h4 : p4 = p4'
            · subst h4
              have t4 : (p4 == p4) = true := by simp
              by_cases h5 : p5 = p5'
              · subst h5; exact absurd rfl h
              · have e : (p5 == p5') = false := by simpa using h5
                go_simp
            · have e : (p4 == p4') = false := by simpa using h4
              go_simp
          · have e : (p3 == p3') = false := by simpa using h3
            go_simp
        · have e : (p2 == p2') = false := by simpa using h2
          go_simp
      · have e : (p1 == p1') = false := by simpa using h1
        go_simp
    · have e : (p0 == p0') = false := by simpa using h0
      go_simp
theorem neq_pns (x : Pn) (w : World) : (binOp .neq 24 (.agg #[.bool x.p0, .bool x.p1, .bool x.p2, .bool x.p3, .bool x.p4, .bool x.p5]) (.agg #[.bool x.p0, .bool x.p1, .bool x.p2, .bool x.p3, .bool x.p4, .bool x.p5])).run Tryd.prog w = .ok (.bool false) w := by
  have e0 : (x.p0 == x.p0) = true := by simp
  have e1 : (x.p1 == x.p1) = true := by simp
  have e2 : (x.p2 == x.p2) = true := by simp
  have e3 : (x.p3 == x.p3) = true := by simp
  have e4 : (x.p4 == x.p4) = true := by simp
  have e5 : (x.p5 == x.p5) = true := by simp
  go_simp
theorem neq_pn (x y : Pn) (w : World) : (binOp .neq 24 (.agg #[.bool x.p0, .bool x.p1, .bool x.p2, .bool x.p3, .bool x.p4, .bool x.p5]) (.agg #[.bool y.p0, .bool y.p1, .bool y.p2, .bool y.p3, .bool y.p4, .bool y.p5])).run Tryd.prog w = .ok (.bool (!eqB x y)) w := by
  by_cases h : x = y
  · subst h; rw [eqB_self]; exact neq_pns x w
  · rw [eqB_no h]
    obtain ⟨p0, p1, p2, p3, p4, p5⟩ := x
    obtain ⟨p0', p1', p2', p3', p4', p5'⟩ := y
    simp only
    by_cases h0 : p0 = p0'
    · subst h0
      have t0 : (p0 == p0) = true := by simp
      by_cases h1 : p1 = p1'
      · subst h1
        have t1 : (p1 == p1) = true := by simp
        by_cases h2 : p2 = p2'
        · subst h2
          have t2 : (p2 == p2) = true := by simp
          by_cases h3 : p3 = p3'
          · subst h3
            have t3 : (p3 == p3) = true := by simp
            by_cases h4 : p4 = p4'
            · subst h4
              have t4 : (p4 == p4) = true := by simp
              by_cases h5 : p5 = p5'
              · subst h5; exact absurd rfl h
              · have e : (p5 == p5') = false := by simpa using h5
                go_simp
            · have e : (p4 == p4') = false := by simpa using h4
              go_simp
          · have e : (p3 == p3') = false := by simpa using h3
            go_simp
        · have e : (p2 == p2') = false := by simpa using h2
          go_simp
      · have e : (p1 == p1') = false := by simpa using h1
        go_simp
    · have e : (p0 == p0') = false := by simpa using h0
      go_simp
theorem takeEq_nextP {α : Type} (l l' : List α) (k : Nat) (x : α) (h : l.take k = l'.take k) (hx : l[k]? = some x) (hy : l'[k]? = some x) : l.take (k + 1) = l'.take (k + 1) := by
  rw [List.take_add_one, List.take_add_one, h, hx, hy]
set_option maxRecDepth 100000 in
set_option maxHeartbeats 2000000 in
theorem pnEq_any (v v' : Value) (l l' : List Pn) (w : World) (h : eN.Rd w v l) (h' : eN.Rd w v' l') (hn : l.length ≤ 1000000) :
    Calls Tryd.prog 11 #[v, v'] w fun e w' => e = .returned (.bool (eqB l l')) ∧ ∃ k, w' = w.drewN k := by
  obtain ⟨A, c, rfl, hc⟩ := h.open_
  obtain ⟨A', c', rfl, hc'⟩ := h'.open_
  obtain ⟨n, hl⟩ : ∃ n, l.length = n := ⟨_, rfl⟩
  obtain ⟨n', hl'⟩ : ∃ n', l'.length = n' := ⟨_, rfl⟩
  rw [hl] at hc hn ⊢
  rw [hl'] at hc' ⊢
  have HL := Lib.hid hl
  have HL' := Lib.hid hl'
  have H := Lib.hid hc
  have H' := Lib.hid hc'
  by_cases hnn : n = n'
  case neg =>
    have E0 := Lib.hid (eqB_no (show l ≠ l' from fun e => hnn (by rw [← hl, ← hl', e])))
    clear h h' hc hc' hl hl' H H' HL HL'
    go_enter Tryd.func11, Tryd.ntmps11
    have t : ((n : Int) != (n' : Int)) = true := by rw [bne_iff_ne]; omega
    go_wp2
    go_ret
    exact ⟨ret_bool E0.out.symm, 0, rfl⟩
  subst hnn
  clear h h' hc hc' hl hl'
  go_enter Tryd.func11, Tryd.ntmps11
  go_wp2
  go_loopw [13] (fun i wr => ∃ k : Nat, k ≤ n ∧ i = .int .i64 k ∧ Hid (l.take k = l'.take k) ∧ ∃ j, wr = w.drewN j) (fun i _ => n - (intOf i).toNat)
  case atStart => exact ⟨0, Nat.zero_le _, rfl, Lib.hid rfl, 0, rfl⟩
  case round =>
    obtain ⟨k, hk, rfl, HT, j, rfl⟩ := hrel
    by_cases hlt : k < n
    · obtain ⟨b, off, rfl, hb, hcell⟩ := H.out (by omega)
      obtain ⟨b', off', rfl, hb', hcell'⟩ := H'.out (by omega)
      obtain ⟨x, hx⟩ : ∃ x, l[k]? = some x := ⟨_, List.getElem?_eq_getElem (by rw [HL.out]; exact hlt)⟩
      obtain ⟨y, hy⟩ : ∃ y, l'[k]? = some y := ⟨_, List.getElem?_eq_getElem (by rw [HL'.out]; exact hlt)⟩
      obtain ⟨d0, d1, d2, d3, d4, d5⟩ := pn6_at (Below.refl w.heap.size w) hb (fun jj u hu => hcell k x hx jj u hu)
      obtain ⟨f0, f1, f2, f3, f4, f5⟩ := pn6_at (Below.refl w.heap.size w) hb' (fun jj u hu => hcell' k y hy jj u hu)
      have hk0 : (0 : Int) ≤ k := by omega
      have hkn : (k : Int) < n := by omega
      have HE := neq_pn x y
      have HN := Lib.hid (fun e : x = y => takeEq_nextP l l' k x HT.out hx (by rw [hy, e]))
      have HD := Lib.hid (fun e : x ≠ y => eqB_no (show l ≠ l' from fun q => e (by rw [q, hy] at hx; exact (Option.some.inj hx).symm)))
      by_cases hxy : x = y
      · rw [eqB_yes hxy] at HE
        have HN1 := Lib.hid (HN.out hxy)
        clear hcell hcell' hx hy hxy HN HD
        go_wp2
        go_quiet (fail)
        go_wp2
        go_roundw
        case rel => exact ⟨k + 1, by omega, by go_num, HN1, by first | exact ⟨_, rfl⟩ | exact ⟨_, World.drewN_drewN _ _ _⟩⟩
        case measure => simp [intOf]; omega
      · rw [eqB_no hxy] at HE
        have HD1 := Lib.hid (HD.out hxy)
        clear hcell hcell' hx hy hxy HN HD
        go_wp2
        go_quiet (fail)
        go_wp2
        go_ret
        exact ⟨ret_bool HD1.out.symm, by first | exact ⟨_, rfl⟩ | exact ⟨_, World.drewN_drewN _ _ _⟩⟩
    · obtain rfl : k = n := by omega
      have E0 := Lib.hid (eqB_yes (show l = l' by
        have := HT.out
        rwa [List.take_of_length_le (by rw [HL.out]; exact Nat.le_refl _), List.take_of_length_le (by rw [HL'.out]; exact Nat.le_refl _)] at this))
      clear HT
      go_wp2
      go_ret
      exact ⟨ret_bool E0.out.symm, j, rfl⟩
end Go.Proofs.YtnmgjgeniaheoaaDoor
