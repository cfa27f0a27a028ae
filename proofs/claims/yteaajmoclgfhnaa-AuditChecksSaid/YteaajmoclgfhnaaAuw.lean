/- Audit: the contract of the law's wrong. -/
import Derived.Test.YteaajmoclgfhnaaAud
import Derived.Deep.CutBlock
import Derived.Deep.DeepCutAuto
import Derived.Deep.CutRange
namespace Go.Proofs.Yteaajmoclgfhnaa
open Go.ChangeShapes Go.WideShapes Go.ChangeAt Go.RowKit
set_option linter.unusedVariables false


theorem ti_alt (x : Rc) (h : x.Ok) : tiB x = (x.r && (!decide (x.a < 65534) && !((x.a == 65534) && x.b2))) := by
  obtain ⟨a0, a1, _, _⟩ := h
  obtain ⟨a, d, r, b1, b2, b3, b4, b5, m⟩ := x
  simp only at a0 a1
  unfold tiB
  simp only
  by_cases h1 : a = 65535
  · subst h1; cases r <;> cases b2 <;> rfl
  · by_cases h2 : a = 65534
    · subst h2; cases r <;> cases b2 <;> rfl
    · have e1 : (a == 65535) = false := by simpa using h1
      have e2 : (a == 65534) = false := by simpa using h2
      have e3 : decide (a < 65534) = true := by rw [decide_eq_true_eq]; omega
      rw [e1, e2, e3]; cases r <;> rfl
set_option maxRecDepth 100000 in
set_option maxHeartbeats 32000000 in
theorem wrong_rc (x y : Rc) (hx : x.Ok) (s : Bool) (w : World) : Calls Try.prog 7 #[.agg x.cells, .agg y.cells, .bool s] w fun e w' => e = .returned (.int .i64 (wrN x (!s || y.b4))) ∧ Below w.heap.size w w' := by
  unfold wrN
  rw [ti_alt x hx]
  obtain ⟨a, d, r, b1, b2, b3, b4, b5, m⟩ := x
  obtain ⟨ya, yd, yr, yb1, yb2, yb3, L, yb5, ym⟩ := y
  unfold stB
  obtain ⟨Q, hQ⟩ : ∃ Q, quB ⟨a, d, r, b1, b2, b3, b4, b5, m⟩ = Q := ⟨_, rfl⟩
  rw [hQ]
  unfold quB at hQ
  simp only at hQ ⊢
  obtain ⟨P, hP⟩ : ∃ P, decide (a < 65522) = P := ⟨_, rfl⟩
  obtain ⟨V, hV⟩ : ∃ V, decide (a < 65534) = V := ⟨_, rfl⟩
  obtain ⟨Z, hZ⟩ : ∃ Z, (a == 65534) = Z := ⟨_, rfl⟩
  obtain ⟨F, hF⟩ : ∃ F, (a == 65535) = F := ⟨_, rfl⟩
  obtain ⟨G, hG⟩ : ∃ G, (d == 0) = G := ⟨_, rfl⟩
  rw [hP, hV, hZ]
  rw [hF, hG] at hQ
  have HQ := Lib.hid hQ
  clear hQ
  have HB := Lib.hid (Below.alloc0 (Below.alloc0 (Below.refl w.heap.size w) (Obj.cells #[.int .u16 a, .int .u8 d, .bool r, .bool b1, .bool b2, .bool b3, .bool b4, .bool b5, .bool m] 25)) (Obj.cells #[.int .u16 ya, .int .u8 yd, .bool yr, .bool yb1, .bool yb2, .bool yb3, .bool L, .bool yb5, .bool ym] 25))
  go_enter Try.func7, Try.ntmps7
  go_upto_region 1 with (fail)
  obtain ⟨W, hW⟩ : ∃ W, (w.alloc (Obj.cells #[.int .u16 a, .int .u8 d, .bool r, .bool b1, .bool b2, .bool b3, .bool b4, .bool b5, .bool m] 25)).alloc (Obj.cells #[.int .u16 ya, .int .u8 yd, .bool yr, .bool yb1, .bool yb2, .bool yb3, .bool L, .bool yb5, .bool ym] 25) = W := ⟨_, rfl⟩
  obtain ⟨x0, x1, x2, x3, x4, x5, x6, x7, x8⟩ := Blk.c9 (Blk.alloc (Blk.new w 25 #[.int .u16 a, .int .u8 d, .bool r, .bool b1, .bool b2, .bool b3, .bool b4, .bool b5, .bool m] (0, 0)) (Obj.cells #[.int .u16 ya, .int .u8 yd, .bool yr, .bool yb1, .bool yb2, .bool yb3, .bool L, .bool yb5, .bool ym] 25))
  have y6 := (Blk.c9 (Blk.at1 (w := w) (t := 25) (cs := #[.int .u16 ya, .int .u8 yd, .bool yr, .bool yb1, .bool yb2, .bool yb3, .bool L, .bool yb5, .bool ym]) (Obj.cells #[.int .u16 a, .int .u8 d, .bool r, .bool b1, .bool b2, .bool b3, .bool b4, .bool b5, .bool m] 25))).2.2.2.2.2.2.1
  rw [hW] at HB x0 x1 x2 x3 x4 x5 x6 x7 x8 y6
  try rw [hW]
  clear hW
  go_cut [7] (fun q wx => q = .bool Q ∧ wx = W)
  case first =>
    cases F
    case false =>
      go_wp2
      go_meet
      exact ⟨by rw [← HQ.out]; rfl, rfl⟩
    case true =>
      cases G
      case false =>
        go_wp2
        go_meet
        exact ⟨by rw [← HQ.out]; rfl, rfl⟩
      case true =>
        cases r
        case false =>
          go_wp2
          go_meet
          exact ⟨by rw [← HQ.out]; rfl, rfl⟩
        case true =>
          cases b4
          case false =>
            cases b5
            case false =>
              go_wp2
              go_meet
              exact ⟨by rw [← HQ.out]; rfl, rfl⟩
            case true =>
              go_wp2
              go_meet
              exact ⟨by rw [← HQ.out]; rfl, rfl⟩
          case true =>
            go_wp2
            go_meet
            exact ⟨by rw [← HQ.out]; rfl, rfl⟩
  case rest =>
    obtain ⟨rfl, rfl⟩ := hcut
    clear hF hG HQ
    cases m
    case false =>
      cases Q
      case false =>
        go_wp2
        go_ret
        exact ⟨rfl, HB.out⟩
      case true =>
        cases b1
        case false =>
          cases b2
          case false =>
            cases b3
            case false =>
              go_wp2
              go_ret
              exact ⟨rfl, HB.out⟩
            case true =>
              go_wp2
              go_ret
              exact ⟨rfl, HB.out⟩
          case true =>
            go_wp2
            go_ret
            exact ⟨rfl, HB.out⟩
        case true =>
          cases b2
          case false =>
            go_wp2
            go_ret
            exact ⟨rfl, HB.out⟩
          case true =>
            go_wp2
            go_ret
            exact ⟨rfl, HB.out⟩
    case true =>
      cases b1
      case false =>
        cases b2
        case false =>
          cases b3
          case false =>
            cases s
            case false =>
              go_wp2
              go_ret
              exact ⟨rfl, HB.out⟩
            case true =>
              cases L
              case false =>
                cases r
                case false =>
                  go_wp2
                  go_ret
                  exact ⟨rfl, HB.out⟩
                case true =>
                  cases V
                  case false =>
                    cases Z
                    case false =>
                      go_wp2
                      go_ret
                      exact ⟨rfl, HB.out⟩
                    case true =>
                      go_wp2
                      go_ret
                      exact ⟨rfl, HB.out⟩
                  case true =>
                    go_wp2
                    go_ret
                    exact ⟨rfl, HB.out⟩
              case true =>
                go_wp2
                go_ret
                exact ⟨rfl, HB.out⟩
          case true =>
            cases b4
            case false =>
              go_wp2
              go_ret
              exact ⟨rfl, HB.out⟩
            case true =>
              cases b5
              case false =>
                cases s
                case false =>
                  go_wp2
                  go_ret
                  exact ⟨rfl, HB.out⟩
                case true =>
                  cases L
                  case false =>
                    cases r
                    case false =>
                      go_wp2
                      go_ret
                      exact ⟨rfl, HB.out⟩
                    case true =>
                      cases V
                      case false =>
                        cases Z
                        case false =>
                          go_wp2
                          go_ret
                          exact ⟨rfl, HB.out⟩
                        case true =>
                          go_wp2
                          go_ret
                          exact ⟨rfl, HB.out⟩
                      case true =>
                        go_wp2
                        go_ret
                        exact ⟨rfl, HB.out⟩
                  case true =>
                    go_wp2
                    go_ret
                    exact ⟨rfl, HB.out⟩
              case true =>
                go_wp2
                go_ret
                exact ⟨rfl, HB.out⟩
        case true =>
          cases r
          case false =>
            go_wp2
            go_ret
            exact ⟨rfl, HB.out⟩
          case true =>
            cases P
            case false =>
              cases b3
              case false =>
                cases s
                case false =>
                  go_wp2
                  go_ret
                  exact ⟨rfl, HB.out⟩
                case true =>
                  cases L
                  case false =>
                    cases V
                    case false =>
                      cases Z
                      case false =>
                        go_wp2
                        go_ret
                        exact ⟨rfl, HB.out⟩
                      case true =>
                        go_wp2
                        go_ret
                        exact ⟨rfl, HB.out⟩
                    case true =>
                      go_wp2
                      go_ret
                      exact ⟨rfl, HB.out⟩
                  case true =>
                    go_wp2
                    go_ret
                    exact ⟨rfl, HB.out⟩
              case true =>
                cases b4
                case false =>
                  go_wp2
                  go_ret
                  exact ⟨rfl, HB.out⟩
                case true =>
                  cases b5
                  case false =>
                    cases s
                    case false =>
                      go_wp2
                      go_ret
                      exact ⟨rfl, HB.out⟩
                    case true =>
                      cases L
                      case false =>
                        cases V
                        case false =>
                          cases Z
                          case false =>
                            go_wp2
                            go_ret
                            exact ⟨rfl, HB.out⟩
                          case true =>
                            go_wp2
                            go_ret
                            exact ⟨rfl, HB.out⟩
                        case true =>
                          go_wp2
                          go_ret
                          exact ⟨rfl, HB.out⟩
                      case true =>
                        go_wp2
                        go_ret
                        exact ⟨rfl, HB.out⟩
                  case true =>
                    go_wp2
                    go_ret
                    exact ⟨rfl, HB.out⟩
            case true =>
              go_wp2
              go_ret
              exact ⟨rfl, HB.out⟩
      case true =>
        cases Q
        case false =>
          go_wp2
          go_ret
          exact ⟨rfl, HB.out⟩
        case true =>
          cases b2
          case false =>
            cases b3
            case false =>
              cases s
              case false =>
                go_wp2
                go_ret
                exact ⟨rfl, HB.out⟩
              case true =>
                cases L
                case false =>
                  cases r
                  case false =>
                    go_wp2
                    go_ret
                    exact ⟨rfl, HB.out⟩
                  case true =>
                    cases V
                    case false =>
                      cases Z
                      case false =>
                        go_wp2
                        go_ret
                        exact ⟨rfl, HB.out⟩
                      case true =>
                        go_wp2
                        go_ret
                        exact ⟨rfl, HB.out⟩
                    case true =>
                      go_wp2
                      go_ret
                      exact ⟨rfl, HB.out⟩
                case true =>
                  go_wp2
                  go_ret
                  exact ⟨rfl, HB.out⟩
            case true =>
              go_wp2
              go_ret
              exact ⟨rfl, HB.out⟩
          case true =>
            go_wp2
            go_ret
            exact ⟨rfl, HB.out⟩
end Go.Proofs.Yteaajmoclgfhnaa
