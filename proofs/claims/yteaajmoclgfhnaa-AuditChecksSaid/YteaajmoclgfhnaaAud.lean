/- Audit: what is told of one record (numbers), and the contracts of audit's check, quiet, stands, still, and of the law's wrong. -/
import Derived.Test.YteaajmoclgfhnaaRec
namespace Go.Proofs.Yteaajmoclgfhnaa
open Go.ChangeShapes Go.WideShapes Go.ChangeAt Go.RowKit
set_option linter.unusedVariables false

/-- Nothing on the bus; the processor may stand; an own cycle that leaves the bus unused. -/
def quB (x : Rc) : Bool := (x.a == 65535) && ((x.d == 0) && (x.r && (!x.b4 && !x.b5)))
def stB (x : Rc) : Bool := quB x && ((x.b1 == x.b2) && (x.b1 || !x.b3))
def tiB (x : Rc) : Bool := x.r && ((x.a == 65535) || ((x.a == 65534) && !x.b2))
/-- What is wrong with a record, by its conditions. -/
def wrB (m S b1 Q b2 b3 r P b4 b5 u T : Bool) : Int :=
  bif m then (bif b1 && (!Q || (b2 || b3)) then 2 else bif b2 && (!r || P) then 3 else bif b3 && (!b4 || b5) then 5 else bif !u && !T then 6 else 0) else (bif S then 0 else 1)
def wrN (x : Rc) (u : Bool) : Int := wrB x.m (stB x) x.b1 (quB x) x.b2 x.b3 x.r (decide (x.a < 65522)) x.b4 x.b5 u (tiB x)
theorem rc_blk {w w1 : World} (x : Rc) {B : Nat} (h : Blk w B 25 x.cells) (hb : Below w.heap.size w w1) : Blk w1 B 25 x.cells := Blk.below h hb h.lt

set_option maxRecDepth 100000 in
set_option maxHeartbeats 4000000 in
theorem quiet_rc (x : Rc) (w : World) : Calls Try.prog 53 #[.agg x.cells] w fun e w' => e = .returned (.bool (quB x)) ∧ Below w.heap.size w w' := by
  obtain ⟨a, d, r, b1, b2, b3, b4, b5, m⟩ := x
  unfold quB
  simp only
  have HB := Lib.hid (Below.alloc0 (Below.refl w.heap.size w) (Obj.cells #[.int .u16 a, .int .u8 d, .bool r, .bool b1, .bool b2, .bool b3, .bool b4, .bool b5, .bool m] 25))
  obtain ⟨P, hP⟩ : ∃ P, (a == 65535) = P := ⟨_, rfl⟩
  obtain ⟨Q, hQ⟩ : ∃ Q, (d == 0) = Q := ⟨_, rfl⟩
  rw [hP, hQ]
  cases P
  case false =>
    go_enter Try.func53, Try.ntmps53
    go_wp2
    go_ret
    exact ⟨rfl, HB.out⟩
  case true =>
    cases Q
    case false =>
      go_enter Try.func53, Try.ntmps53
      go_wp2
      go_ret
      exact ⟨rfl, HB.out⟩
    case true =>
      cases r
      case false =>
        go_enter Try.func53, Try.ntmps53
        go_wp2
        go_ret
        exact ⟨rfl, HB.out⟩
      case true =>
        cases b4
        case false =>
          cases b5
          case false =>
            go_enter Try.func53, Try.ntmps53
            go_wp2
            go_ret
            exact ⟨rfl, HB.out⟩
          case true =>
            go_enter Try.func53, Try.ntmps53
            go_wp2
            go_ret
            exact ⟨rfl, HB.out⟩
        case true =>
          go_enter Try.func53, Try.ntmps53
          go_wp2
          go_ret
          exact ⟨rfl, HB.out⟩
set_option maxRecDepth 100000 in
set_option maxHeartbeats 4000000 in
theorem still_rc (x : Rc) (w : World) : Calls Try.prog 54 #[.agg x.cells] w fun e w' => e = .returned (.bool (tiB x)) ∧ Below w.heap.size w w' := by
  obtain ⟨a, d, r, b1, b2, b3, b4, b5, m⟩ := x
  unfold tiB
  simp only
  have HB := Lib.hid (Below.alloc0 (Below.refl w.heap.size w) (Obj.cells #[.int .u16 a, .int .u8 d, .bool r, .bool b1, .bool b2, .bool b3, .bool b4, .bool b5, .bool m] 25))
  obtain ⟨P, hP⟩ : ∃ P, (a == 65535) = P := ⟨_, rfl⟩
  obtain ⟨Q, hQ⟩ : ∃ Q, (a == 65534) = Q := ⟨_, rfl⟩
  rw [hP, hQ]
  cases r
  case false =>
    go_enter Try.func54, Try.ntmps54
    go_wp2
    go_ret
    exact ⟨rfl, HB.out⟩
  case true =>
    cases P
    case false =>
      cases Q
      case false =>
        go_enter Try.func54, Try.ntmps54
        go_wp2
        go_ret
        exact ⟨rfl, HB.out⟩
      case true =>
        cases b2
        case false =>
          go_enter Try.func54, Try.ntmps54
          go_wp2
          go_ret
          exact ⟨rfl, HB.out⟩
        case true =>
          go_enter Try.func54, Try.ntmps54
          go_wp2
          go_ret
          exact ⟨rfl, HB.out⟩
    case true =>
      go_enter Try.func54, Try.ntmps54
      go_wp2
      go_ret
      exact ⟨rfl, HB.out⟩
set_option maxRecDepth 100000 in
set_option maxHeartbeats 4000000 in
theorem stands_rc (x : Rc) (w : World) : Calls Try.prog 52 #[.agg x.cells] w fun e w' => e = .returned (.bool (stB x)) ∧ Below w.heap.size w w' := by
  have CQ := Lib.hid (fun u => quiet_rc x u)
  unfold stB
  generalize quB x = Q at CQ ⊢
  obtain ⟨a, d, r, b1, b2, b3, b4, b5, m⟩ := x
  simp only
  have HB := Lib.hid (Below.alloc0 (Below.refl w.heap.size w) (Obj.cells #[.int .u16 a, .int .u8 d, .bool r, .bool b1, .bool b2, .bool b3, .bool b4, .bool b5, .bool m] 25))
  have HK := Lib.hid (Blk.new w 25 (⟨a, d, r, b1, b2, b3, b4, b5, m⟩ : Rc).cells (0, 0))
  cases Q
  case false =>
    go_enter Try.func52, Try.ntmps52
    go_wp2_with fail
    refine (CQ.out _).mono ?_
    rintro e w1 ⟨rfl, hb⟩
    have HB1 := Lib.hid (Below.trans0 HB.out hb)
    have HK1 := Lib.hid (rc_blk _ HK.out hb)
    obtain ⟨q0, q1, q2, q3, q4, q5, q6, q7, q8⟩ := Blk.c9 HK1.out
    clear hb
    go_wp2
    go_ret
    exact ⟨rfl, HB1.out⟩
  case true =>
    cases b1
    case false =>
      cases b2
      case false =>
        cases b3
        case false =>
          go_enter Try.func52, Try.ntmps52
          go_wp2_with fail
          refine (CQ.out _).mono ?_
          rintro e w1 ⟨rfl, hb⟩
          have HB1 := Lib.hid (Below.trans0 HB.out hb)
          have HK1 := Lib.hid (rc_blk _ HK.out hb)
          obtain ⟨q0, q1, q2, q3, q4, q5, q6, q7, q8⟩ := Blk.c9 HK1.out
          clear hb
          go_wp2
          go_ret
          exact ⟨rfl, HB1.out⟩
        case true =>
          go_enter Try.func52, Try.ntmps52
          go_wp2_with fail
          refine (CQ.out _).mono ?_
          rintro e w1 ⟨rfl, hb⟩
          have HB1 := Lib.hid (Below.trans0 HB.out hb)
          have HK1 := Lib.hid (rc_blk _ HK.out hb)
          obtain ⟨q0, q1, q2, q3, q4, q5, q6, q7, q8⟩ := Blk.c9 HK1.out
          clear hb
          go_wp2
          go_ret
          exact ⟨rfl, HB1.out⟩
      case true =>
        go_enter Try.func52, Try.ntmps52
        go_wp2_with fail
        refine (CQ.out _).mono ?_
        rintro e w1 ⟨rfl, hb⟩
        have HB1 := Lib.hid (Below.trans0 HB.out hb)
        have HK1 := Lib.hid (rc_blk _ HK.out hb)
        obtain ⟨q0, q1, q2, q3, q4, q5, q6, q7, q8⟩ := Blk.c9 HK1.out
        clear hb
        go_wp2
        go_ret
        exact ⟨rfl, HB1.out⟩
    case true =>
      cases b2
      case false =>
        go_enter Try.func52, Try.ntmps52
        go_wp2_with fail
        refine (CQ.out _).mono ?_
        rintro e w1 ⟨rfl, hb⟩
        have HB1 := Lib.hid (Below.trans0 HB.out hb)
        have HK1 := Lib.hid (rc_blk _ HK.out hb)
        obtain ⟨q0, q1, q2, q3, q4, q5, q6, q7, q8⟩ := Blk.c9 HK1.out
        clear hb
        go_wp2
        go_ret
        exact ⟨rfl, HB1.out⟩
      case true =>
        go_enter Try.func52, Try.ntmps52
        go_wp2_with fail
        refine (CQ.out _).mono ?_
        rintro e w1 ⟨rfl, hb⟩
        have HB1 := Lib.hid (Below.trans0 HB.out hb)
        have HK1 := Lib.hid (rc_blk _ HK.out hb)
        obtain ⟨q0, q1, q2, q3, q4, q5, q6, q7, q8⟩ := Blk.c9 HK1.out
        clear hb
        go_wp2
        go_ret
        exact ⟨rfl, HB1.out⟩
set_option maxRecDepth 100000 in
set_option maxHeartbeats 16000000 in
theorem check_rc (x : Rc) (u : Bool) (w : World) : Calls Try.prog 35 #[.agg x.cells, .bool u] w fun e w' => e = .returned (.int .i64 (wrN x u)) ∧ Below w.heap.size w w' := by
  have CQ := Lib.hid (fun u => quiet_rc x u)
  have CS := Lib.hid (fun u => stands_rc x u)
  have CT := Lib.hid (fun u => still_rc x u)
  unfold wrN
  generalize quB x = Q at CQ ⊢
  generalize stB x = S at CS ⊢
  generalize tiB x = T at CT ⊢
  obtain ⟨a, d, r, b1, b2, b3, b4, b5, m⟩ := x
  simp only
  obtain ⟨P, hP⟩ : ∃ P, decide (a < 65522) = P := ⟨_, rfl⟩
  rw [hP]
  have HB := Lib.hid (Below.alloc0 (Below.refl w.heap.size w) (Obj.cells #[.int .u16 a, .int .u8 d, .bool r, .bool b1, .bool b2, .bool b3, .bool b4, .bool b5, .bool m] 25))
  have HK := Lib.hid (Blk.new w 25 (⟨a, d, r, b1, b2, b3, b4, b5, m⟩ : Rc).cells (0, 0))
  cases m
  case false =>
    cases S
    case false =>
      go_enter Try.func35, Try.ntmps35
      go_wp2_with fail
      refine (CS.out _).mono ?_
      rintro e w1 ⟨rfl, hb⟩
      have HB1 := Lib.hid (Below.trans0 HB.out hb)
      have HK1 := Lib.hid (rc_blk _ HK.out hb)
      obtain ⟨q0, q1, q2, q3, q4, q5, q6, q7, q8⟩ := Blk.c9 HK1.out
      clear hb
      go_wp2
      go_ret
      exact ⟨rfl, HB1.out⟩
    case true =>
      go_enter Try.func35, Try.ntmps35
      go_wp2_with fail
      refine (CS.out _).mono ?_
      rintro e w1 ⟨rfl, hb⟩
      have HB1 := Lib.hid (Below.trans0 HB.out hb)
      have HK1 := Lib.hid (rc_blk _ HK.out hb)
      obtain ⟨q0, q1, q2, q3, q4, q5, q6, q7, q8⟩ := Blk.c9 HK1.out
      clear hb
      go_wp2
      go_ret
      exact ⟨rfl, HB1.out⟩
  case true =>
    cases b1
    case false =>
      cases b2
      case false =>
        cases b3
        case false =>
          cases u
          case false =>
            cases T
            case false =>
              go_enter Try.func35, Try.ntmps35
              go_wp2_with fail
              refine (CT.out _).mono ?_
              rintro e w1 ⟨rfl, hb⟩
              have HB1 := Lib.hid (Below.trans0 HB.out hb)
              have HK1 := Lib.hid (rc_blk _ HK.out hb)
              obtain ⟨q0, q1, q2, q3, q4, q5, q6, q7, q8⟩ := Blk.c9 HK1.out
              clear hb
              go_wp2
              go_ret
              exact ⟨rfl, HB1.out⟩
            case true =>
              go_enter Try.func35, Try.ntmps35
              go_wp2_with fail
              refine (CT.out _).mono ?_
              rintro e w1 ⟨rfl, hb⟩
              have HB1 := Lib.hid (Below.trans0 HB.out hb)
              have HK1 := Lib.hid (rc_blk _ HK.out hb)
              obtain ⟨q0, q1, q2, q3, q4, q5, q6, q7, q8⟩ := Blk.c9 HK1.out
              clear hb
              go_wp2
              go_ret
              exact ⟨rfl, HB1.out⟩
          case true =>
            go_enter Try.func35, Try.ntmps35
            go_wp2
            go_ret
            exact ⟨rfl, HB.out⟩
        case true =>
          cases b4
          case false =>
            go_enter Try.func35, Try.ntmps35
            go_wp2
            go_ret
            exact ⟨rfl, HB.out⟩
          case true =>
            cases b5
            case false =>
              cases u
              case false =>
                cases T
                case false =>
                  go_enter Try.func35, Try.ntmps35
                  go_wp2_with fail
                  refine (CT.out _).mono ?_
                  rintro e w1 ⟨rfl, hb⟩
                  have HB1 := Lib.hid (Below.trans0 HB.out hb)
                  have HK1 := Lib.hid (rc_blk _ HK.out hb)
                  obtain ⟨q0, q1, q2, q3, q4, q5, q6, q7, q8⟩ := Blk.c9 HK1.out
                  clear hb
                  go_wp2
                  go_ret
                  exact ⟨rfl, HB1.out⟩
                case true =>
                  go_enter Try.func35, Try.ntmps35
                  go_wp2_with fail
                  refine (CT.out _).mono ?_
                  rintro e w1 ⟨rfl, hb⟩
                  have HB1 := Lib.hid (Below.trans0 HB.out hb)
                  have HK1 := Lib.hid (rc_blk _ HK.out hb)
                  obtain ⟨q0, q1, q2, q3, q4, q5, q6, q7, q8⟩ := Blk.c9 HK1.out
                  clear hb
                  go_wp2
                  go_ret
                  exact ⟨rfl, HB1.out⟩
              case true =>
                go_enter Try.func35, Try.ntmps35
                go_wp2
                go_ret
                exact ⟨rfl, HB.out⟩
            case true =>
              go_enter Try.func35, Try.ntmps35
              go_wp2
              go_ret
              exact ⟨rfl, HB.out⟩
      case true =>
        cases r
        case false =>
          go_enter Try.func35, Try.ntmps35
          go_wp2
          go_ret
          exact ⟨rfl, HB.out⟩
        case true =>
          cases P
          case false =>
            cases b3
            case false =>
              cases u
              case false =>
                cases T
                case false =>
                  go_enter Try.func35, Try.ntmps35
                  go_wp2_with fail
                  refine (CT.out _).mono ?_
                  rintro e w1 ⟨rfl, hb⟩
                  have HB1 := Lib.hid (Below.trans0 HB.out hb)
                  have HK1 := Lib.hid (rc_blk _ HK.out hb)
                  obtain ⟨q0, q1, q2, q3, q4, q5, q6, q7, q8⟩ := Blk.c9 HK1.out
                  clear hb
                  go_wp2
                  go_ret
                  exact ⟨rfl, HB1.out⟩
                case true =>
                  go_enter Try.func35, Try.ntmps35
                  go_wp2_with fail
                  refine (CT.out _).mono ?_
                  rintro e w1 ⟨rfl, hb⟩
                  have HB1 := Lib.hid (Below.trans0 HB.out hb)
                  have HK1 := Lib.hid (rc_blk _ HK.out hb)
                  obtain ⟨q0, q1, q2, q3, q4, q5, q6, q7, q8⟩ := Blk.c9 HK1.out
                  clear hb
                  go_wp2
                  go_ret
                  exact ⟨rfl, HB1.out⟩
              case true =>
                go_enter Try.func35, Try.ntmps35
                go_wp2
                go_ret
                exact ⟨rfl, HB.out⟩
            case true =>
              cases b4
              case false =>
                go_enter Try.func35, Try.ntmps35
                go_wp2
                go_ret
                exact ⟨rfl, HB.out⟩
              case true =>
                cases b5
                case false =>
                  cases u
                  case false =>
                    cases T
                    case false =>
                      go_enter Try.func35, Try.ntmps35
                      go_wp2_with fail
                      refine (CT.out _).mono ?_
                      rintro e w1 ⟨rfl, hb⟩
                      have HB1 := Lib.hid (Below.trans0 HB.out hb)
                      have HK1 := Lib.hid (rc_blk _ HK.out hb)
                      obtain ⟨q0, q1, q2, q3, q4, q5, q6, q7, q8⟩ := Blk.c9 HK1.out
                      clear hb
                      go_wp2
                      go_ret
                      exact ⟨rfl, HB1.out⟩
                    case true =>
                      go_enter Try.func35, Try.ntmps35
                      go_wp2_with fail
                      refine (CT.out _).mono ?_
                      rintro e w1 ⟨rfl, hb⟩
                      have HB1 := Lib.hid (Below.trans0 HB.out hb)
                      have HK1 := Lib.hid (rc_blk _ HK.out hb)
                      obtain ⟨q0, q1, q2, q3, q4, q5, q6, q7, q8⟩ := Blk.c9 HK1.out
                      clear hb
                      go_wp2
                      go_ret
                      exact ⟨rfl, HB1.out⟩
                  case true =>
                    go_enter Try.func35, Try.ntmps35
                    go_wp2
                    go_ret
                    exact ⟨rfl, HB.out⟩
                case true =>
                  go_enter Try.func35, Try.ntmps35
                  go_wp2
                  go_ret
                  exact ⟨rfl, HB.out⟩
          case true =>
            go_enter Try.func35, Try.ntmps35
            go_wp2
            go_ret
            exact ⟨rfl, HB.out⟩
    case true =>
      cases Q
      case false =>
        go_enter Try.func35, Try.ntmps35
        go_wp2_with fail
        refine (CQ.out _).mono ?_
        rintro e w1 ⟨rfl, hb⟩
        have HB1 := Lib.hid (Below.trans0 HB.out hb)
        have HK1 := Lib.hid (rc_blk _ HK.out hb)
        obtain ⟨q0, q1, q2, q3, q4, q5, q6, q7, q8⟩ := Blk.c9 HK1.out
        clear hb
        go_wp2
        go_ret
        exact ⟨rfl, HB1.out⟩
      case true =>
        cases b2
        case false =>
          cases b3
          case false =>
            cases u
            case false =>
              cases T
              case false =>
                go_enter Try.func35, Try.ntmps35
                go_wp2_with fail
                refine (CQ.out _).mono ?_
                rintro e w1 ⟨rfl, hb⟩
                have HB1 := Lib.hid (Below.trans0 HB.out hb)
                have HK1 := Lib.hid (rc_blk _ HK.out hb)
                obtain ⟨q0, q1, q2, q3, q4, q5, q6, q7, q8⟩ := Blk.c9 HK1.out
                clear hb
                go_wp2_with fail
                clear q0 q1 q2 q3 q4 q5 q6 q7 q8
                refine (CT.out _).mono ?_
                rintro e w2 ⟨rfl, hb⟩
                have HB2 := Lib.hid (Below.trans0 HB1.out hb)
                have HK2 := Lib.hid (rc_blk _ HK1.out hb)
                obtain ⟨q0, q1, q2, q3, q4, q5, q6, q7, q8⟩ := Blk.c9 HK2.out
                clear hb
                go_wp2
                go_ret
                exact ⟨rfl, HB2.out⟩
              case true =>
                go_enter Try.func35, Try.ntmps35
                go_wp2_with fail
                refine (CQ.out _).mono ?_
                rintro e w1 ⟨rfl, hb⟩
                have HB1 := Lib.hid (Below.trans0 HB.out hb)
                have HK1 := Lib.hid (rc_blk _ HK.out hb)
                obtain ⟨q0, q1, q2, q3, q4, q5, q6, q7, q8⟩ := Blk.c9 HK1.out
                clear hb
                go_wp2_with fail
                clear q0 q1 q2 q3 q4 q5 q6 q7 q8
                refine (CT.out _).mono ?_
                rintro e w2 ⟨rfl, hb⟩
                have HB2 := Lib.hid (Below.trans0 HB1.out hb)
                have HK2 := Lib.hid (rc_blk _ HK1.out hb)
                obtain ⟨q0, q1, q2, q3, q4, q5, q6, q7, q8⟩ := Blk.c9 HK2.out
                clear hb
                go_wp2
                go_ret
                exact ⟨rfl, HB2.out⟩
            case true =>
              go_enter Try.func35, Try.ntmps35
              go_wp2_with fail
              refine (CQ.out _).mono ?_
              rintro e w1 ⟨rfl, hb⟩
              have HB1 := Lib.hid (Below.trans0 HB.out hb)
              have HK1 := Lib.hid (rc_blk _ HK.out hb)
              obtain ⟨q0, q1, q2, q3, q4, q5, q6, q7, q8⟩ := Blk.c9 HK1.out
              clear hb
              go_wp2
              go_ret
              exact ⟨rfl, HB1.out⟩
          case true =>
            go_enter Try.func35, Try.ntmps35
            go_wp2_with fail
            refine (CQ.out _).mono ?_
            rintro e w1 ⟨rfl, hb⟩
            have HB1 := Lib.hid (Below.trans0 HB.out hb)
            have HK1 := Lib.hid (rc_blk _ HK.out hb)
            obtain ⟨q0, q1, q2, q3, q4, q5, q6, q7, q8⟩ := Blk.c9 HK1.out
            clear hb
            go_wp2
            go_ret
            exact ⟨rfl, HB1.out⟩
        case true =>
          go_enter Try.func35, Try.ntmps35
          go_wp2_with fail
          refine (CQ.out _).mono ?_
          rintro e w1 ⟨rfl, hb⟩
          have HB1 := Lib.hid (Below.trans0 HB.out hb)
          have HK1 := Lib.hid (rc_blk _ HK.out hb)
          obtain ⟨q0, q1, q2, q3, q4, q5, q6, q7, q8⟩ := Blk.c9 HK1.out
          clear hb
          go_wp2
          go_ret
          exact ⟨rfl, HB1.out⟩
end Go.Proofs.Yteaajmoclgfhnaa
