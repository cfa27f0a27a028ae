/- Records compared: two of them, two rows of them (slices.Equal). -/
import Derived.Test.YtlgaedhbgkhmeaaRec
import Derived.BigQuiet
namespace Go.Proofs.Ytlgaedhbgkhmeaa
open Go.ChangeShapes Go.WideShapes Go.ChangeAt Go.RowKit
set_option linter.unusedVariables false

open Classical in
/-- Whether two are one, as a Bool. -/
noncomputable def eqB {α : Type} (x y : α) : Bool := decide (x = y)
theorem eqB_iff {α : Type} (x y : α) : eqB x y = true ↔ x = y := by simp [eqB]
theorem eqB_no {α : Type} {x y : α} (h : x ≠ y) : eqB x y = false := by simp [eqB, h]
theorem eqB_yes {α : Type} {x y : α} (h : x = y) : eqB x y = true := by simp [eqB, h]
theorem eqB_self {α : Type} (x : α) : eqB x x = true := by simp [eqB]
theorem eqB_comm {α : Type} (x y : α) : eqB x y = eqB y x := by rw [Bool.eq_iff_iff, eqB_iff, eqB_iff]; exact eq_comm
abbrev rc9 (x : Rc) : Array Value := #[.int .u16 x.a, .int .u8 x.d, .bool x.r, .bool x.b1, .bool x.b2, .bool x.b3, .bool x.b4, .bool x.b5, .bool x.m]
theorem rc_ext (x y : Rc) (h1 : x.a = y.a) (h2 : x.d = y.d) (h3 : x.r = y.r) (h4 : x.b1 = y.b1) (h5 : x.b2 = y.b2) (h6 : x.b3 = y.b3) (h7 : x.b4 = y.b4) (h8 : x.b5 = y.b5) (h9 : x.m = y.m) : x = y := by
  cases x; cases y; simp_all
theorem eql_rcs (x : Rc) (w : World) : (binOp .eql 51 (.agg #[.int .u16 x.a, .int .u8 x.d, .bool x.r, .bool x.b1, .bool x.b2, .bool x.b3, .bool x.b4, .bool x.b5, .bool x.m]) (.agg #[.int .u16 x.a, .int .u8 x.d, .bool x.r, .bool x.b1, .bool x.b2, .bool x.b3, .bool x.b4, .bool x.b5, .bool x.m])).run Try.prog w = .ok (.bool true) w := by
  have e1 : (x.a == x.a) = true := by simp
  have e2 : (x.d == x.d) = true := by simp
  have e3 : (x.r == x.r) = true := by simp
  have e4 : (x.b1 == x.b1) = true := by simp
  have e5 : (x.b2 == x.b2) = true := by simp
  have e6 : (x.b3 == x.b3) = true := by simp
  have e7 : (x.b4 == x.b4) = true := by simp
  have e8 : (x.b5 == x.b5) = true := by simp
  have e9 : (x.m == x.m) = true := by simp
  go_simp
theorem eql_rc (x y : Rc) (w : World) : (binOp .eql 51 (.agg #[.int .u16 x.a, .int .u8 x.d, .bool x.r, .bool x.b1, .bool x.b2, .bool x.b3, .bool x.b4, .bool x.b5, .bool x.m]) (.agg #[.int .u16 y.a, .int .u8 y.d, .bool y.r, .bool y.b1, .bool y.b2, .bool y.b3, .bool y.b4, .bool y.b5, .bool y.m])).run Try.prog w = .ok (.bool (eqB x y)) w := by
  by_cases h : x = y
  · subst h; rw [eqB_self]; exact eql_rcs x w
  · rw [eqB_no h]
    obtain ⟨a, d, r, b1, b2, b3, b4, b5, m⟩ := x
    obtain ⟨a', d', r', b1', b2', b3', b4', b5', m'⟩ := y
    simp only
    by_cases h1 : a = a'
    · subst h1
      have t1 : (a == a) = true := by simp
      by_cases h2 : d = d'
      · subst h2
        have t2 : (d == d) = true := by simp
        by_cases h3 : r = r'
        · subst h3
          have t3 : (r == r) = true := by simp
          by_cases h4 : b1 = b1'
          · subst h4
            have t4 : (b1 == b1) = true := by simp
            by_cases h5 : b2 = b2'
            · subst h5
              have t5 : (b2 == b2) = true := by simp
              by_cases h6 : b3 = b3'
              · subst h6
                have t6 : (b3 == b3) = true := by simp
                by_cases h7 : b4 = b4'
                · subst h7
                  have t7 : (b4 == b4) = true := by simp
                  by_cases h8 : b5 = b5'
                  · subst h8
                    have t8 : (b5 == b5) = true := by simp
                    by_cases h9 : m = m'
                    · subst h9; exact absurd rfl h
                    · have e : (m == m') = false := by simpa using h9
                      go_simp
                  · have e : (b5 == b5') = false := by simpa using h8
                    go_simp
                · have e : (b4 == b4') = false := by simpa using h7
                  go_simp
              · have e : (b3 == b3') = false := by simpa using h6
                go_simp
            · have e : (b2 == b2') = false := by simpa using h5
              go_simp
          · have e : (b1 == b1') = false := by simpa using h4
            go_simp
        · have e : (r == r') = false := by simpa using h3
          go_simp
      · have e : (d == d') = false := by simpa using h2
        go_simp
    · have e : (a == a') = false := by simpa using h1
      go_simp
theorem neq_rcs (x : Rc) (w : World) : (binOp .neq 51 (.agg #[.int .u16 x.a, .int .u8 x.d, .bool x.r, .bool x.b1, .bool x.b2, .bool x.b3, .bool x.b4, .bool x.b5, .bool x.m]) (.agg #[.int .u16 x.a, .int .u8 x.d, .bool x.r, .bool x.b1, .bool x.b2, .bool x.b3, .bool x.b4, .bool x.b5, .bool x.m])).run Try.prog w = .ok (.bool false) w := by
  have e1 : (x.a == x.a) = true := by simp
  have e2 : (x.d == x.d) = true := by simp
  have e3 : (x.r == x.r) = true := by simp
  have e4 : (x.b1 == x.b1) = true := by simp
  have e5 : (x.b2 == x.b2) = true := by simp
  have e6 : (x.b3 == x.b3) = true := by simp
  have e7 : (x.b4 == x.b4) = true := by simp
  have e8 : (x.b5 == x.b5) = true := by simp
  have e9 : (x.m == x.m) = true := by simp
  go_simp
theorem neq_rc (x y : Rc) (w : World) : (binOp .neq 51 (.agg #[.int .u16 x.a, .int .u8 x.d, .bool x.r, .bool x.b1, .bool x.b2, .bool x.b3, .bool x.b4, .bool x.b5, .bool x.m]) (.agg #[.int .u16 y.a, .int .u8 y.d, .bool y.r, .bool y.b1, .bool y.b2, .bool y.b3, .bool y.b4, .bool y.b5, .bool y.m])).run Try.prog w = .ok (.bool (!eqB x y)) w := by
  by_cases h : x = y
  · subst h; rw [eqB_self]; exact neq_rcs x w
  · rw [eqB_no h]
    obtain ⟨a, d, r, b1, b2, b3, b4, b5, m⟩ := x
    obtain ⟨a', d', r', b1', b2', b3', b4', b5', m'⟩ := y
    simp only
    by_cases h1 : a = a'
    · subst h1
      have t1 : (a == a) = true := by simp
      by_cases h2 : d = d'
      · subst h2
        have t2 : (d == d) = true := by simp
        by_cases h3 : r = r'
        · subst h3
          have t3 : (r == r) = true := by simp
          by_cases h4 : b1 = b1'
          · subst h4
            have t4 : (b1 == b1) = true := by simp
            by_cases h5 : b2 = b2'
            · subst h5
              have t5 : (b2 == b2) = true := by simp
              by_cases h6 : b3 = b3'
              · subst h6
                have t6 : (b3 == b3) = true := by simp
                by_cases h7 : b4 = b4'
                · subst h7
                  have t7 : (b4 == b4) = true := by simp
                  by_cases h8 : b5 = b5'
                  · subst h8
                    have t8 : (b5 == b5) = true := by simp
                    by_cases h9 : m = m'
                    · subst h9; exact absurd rfl h
                    · have e : (m == m') = false := by simpa using h9
                      go_simp
                  · have e : (b5 == b5') = false := by simpa using h8
                    go_simp
                · have e : (b4 == b4') = false := by simpa using h7
                  go_simp
              · have e : (b3 == b3') = false := by simpa using h6
                go_simp
            · have e : (b2 == b2') = false := by simpa using h5
              go_simp
          · have e : (b1 == b1') = false := by simpa using h4
            go_simp
        · have e : (r == r') = false := by simpa using h3
          go_simp
      · have e : (d == d') = false := by simpa using h2
        go_simp
    · have e : (a == a') = false := by simpa using h1
      go_simp
end Go.Proofs.Ytlgaedhbgkhmeaa
