/- The document's operands (spinetref45): what inside does behind its expression's value, where the register isn't PC. -/
import Derived.Test.YtmdpgekbiohfbabDoorLdt
namespace Go.Proofs.YtmdpgekbiohfbabDoor
open Go.ChangeShapes Go.WideShapes Go.ChangeAt Go.RowKit
set_option linter.unusedVariables false

set_option maxRecDepth 100000 in
set_option maxHeartbeats 6000000 in
theorem inDK (i : Bool) (w W6 : World) (z r : Int) (X : ByteArray) (x : List Int) (OF : Int × Int) (h5 : ¬ r = 5) (hX : X = strOfNums x) (k3 o3 : Int) (hOF : (k3, o3) = OF) 
    (hT : Blk W6 (w.heap.size + 1) 47 #[(.int .i64 3), (.int .i64 z), (.string X), (.int .i64 k3), (.int .i64 r), (.int .i64 o3), (.bool i)]) (hZ : Blk W6 w.heap.size 47 z7D) (hB : Below w.heap.size w W6)
    (c0 c1 c2 c3 c6 c7 c9 c10 c11 c12 c13 c14 c15 c16 c17 c18 c19 c20 c21 c22 c23 c24 c25 c26 c27 c28 c29 c30 c31 c32 c33 c34 c35 c36 c37 c38 c39 c40 c41 c42 c43 c44 c45 c46 c47 c48 c49 c50 c51 c52 c53 c54 c55 c56 c57 c58 c59 c60 c61 c62 c63 c64 c65 c66 c67 c68 c69 c70 c71 c72 c73 c74 c75 c76 c77 c78 c79 c80 c81 c82 c83 c84 c85 c86 c87 c88 c89 c90 c91 c92 c93 c94 c95 c96 c97 c98 c99 c100 c101 c102 c103 c104 c105 c106 c107 c108 c109 c110 c111 c112 c113 c114 c115 c116 c117 c118 c119 c120 c121 c122 c123 c124 c125 c126 c127 c128 c129 c130 c131 c132 c133 c134 c135 c136 c137 c138 c139 c140 c141 c142 c143 c144 c145 c146 c147 c148 c149 c150 c151 c152 c153 c154 c155 c156 c157 c158 c159 c160 c161 c162 c163 c164 c165 c166 c167 c168 c169 c170 c171 c172 c173 c174 c175 c176 : Value) (Ka Kb : Act → World → Prop) (hKa : ∀ a u, Code.wp Tryd.prog (inCond 35) (Exit.then Kb (bodyPost Tryd.prog Tryd.f39 (InPost (⟨3, z, x, OF.1, r, OF.2, i⟩, true) w))) a u → Ka a u) (hKb : ∀ a u, Code.wp Tryd.prog (inRest2 35) (bodyPost Tryd.prog Tryd.f39 (InPost (⟨3, z, x, OF.1, r, OF.2, i⟩, true) w)) a u → Kb a u) :
    Code.wp Tryd.prog (inHead 35) (Exit.then Ka (Exit.then Kb (bodyPost Tryd.prog Tryd.f39 (InPost (⟨3, z, x, OF.1, r, OF.2, i⟩, true) w)))) ⟨List.toArray (c0 :: c1 :: c2 :: c3 :: .pointer (some ⟨w.heap.size, 0, none⟩) :: .bool false :: c6 :: c7 :: .pointer (some ⟨w.heap.size + 1, 0, none⟩) :: c9 :: c10 :: c11 :: c12 :: c13 :: c14 :: c15 :: c16 :: c17 :: c18 :: c19 :: c20 :: c21 :: c22 :: c23 :: c24 :: c25 :: c26 :: c27 :: c28 :: c29 :: c30 :: c31 :: c32 :: c33 :: c34 :: c35 :: c36 :: c37 :: c38 :: c39 :: c40 :: c41 :: c42 :: c43 :: c44 :: c45 :: c46 :: c47 :: c48 :: c49 :: c50 :: c51 :: c52 :: c53 :: c54 :: c55 :: c56 :: c57 :: c58 :: c59 :: c60 :: c61 :: c62 :: c63 :: c64 :: c65 :: c66 :: c67 :: c68 :: c69 :: c70 :: c71 :: c72 :: c73 :: c74 :: c75 :: c76 :: c77 :: c78 :: c79 :: c80 :: c81 :: c82 :: c83 :: c84 :: c85 :: c86 :: c87 :: c88 :: c89 :: c90 :: c91 :: c92 :: c93 :: c94 :: c95 :: c96 :: c97 :: c98 :: c99 :: c100 :: c101 :: c102 :: c103 :: c104 :: c105 :: c106 :: c107 :: c108 :: c109 :: c110 :: c111 :: c112 :: c113 :: c114 :: c115 :: c116 :: c117 :: c118 :: c119 :: c120 :: c121 :: c122 :: c123 :: c124 :: c125 :: c126 :: c127 :: c128 :: c129 :: c130 :: c131 :: c132 :: c133 :: c134 :: c135 :: c136 :: c137 :: c138 :: c139 :: c140 :: c141 :: c142 :: c143 :: c144 :: c145 :: c146 :: c147 :: c148 :: c149 :: c150 :: c151 :: c152 :: c153 :: c154 :: c155 :: c156 :: c157 :: c158 :: c159 :: c160 :: c161 :: c162 :: c163 :: c164 :: c165 :: c166 :: c167 :: c168 :: c169 :: c170 :: c171 :: c172 :: c173 :: c174 :: c175 :: c176 :: []), []⟩ W6 := by
  conv => arg 2; whnf
  conv at hKa => enter [a, u, 1, 2]; whnf
  conv at hKb => enter [a, u, 1, 2]; whnf
  have T6 := Lib.hid hT
  have Z6 := Lib.hid hZ
  have B6 := Lib.hid hB
  clear hT hZ hB
  obtain ⟨q0, q1, q2, q3, q4, q5, q6⟩ := Blk.c7 T6.out
  obtain ⟨p0, p1, p2, p3, p4, p5, p6⟩ := Blk.c7 Z6.out
  have g0 := T6.out.frozen 0
  have g1 := T6.out.frozen 1
  have g2 := T6.out.frozen 2
  have g3 := T6.out.frozen 3
  have g4 := T6.out.frozen 4
  have g5 := T6.out.frozen 5
  have f0 := Z6.out.frozen 0
  have f1 := Z6.out.frozen 1
  have f2 := Z6.out.frozen 2
  have f3 := Z6.out.frozen 3
  have f4 := Z6.out.frozen 4
  have f5 := Z6.out.frozen 5
  have f6 := Z6.out.frozen 6
  have HX := Lib.hid hX
  have h5' : (r == 5) = false := by simpa using h5
  subst hOF
  clear hX h5
  go_wp2
  refine bodyPost_ret (v := .tuple #[.agg #[(.int .i64 3), (.int .i64 z), (.string X), (.int .i64 k3), (.int .i64 r), (.int .i64 o3), (.bool i)], .bool true]) (resIn _ _ w.heap.size _ (Blk.set7 (by repeat (first | exact Z6.out | refine Blk.far ?_ (by show w.heap.size ≠ w.heap.size + 1; omega) _))) rfl rfl true rfl) rfl ?_
  exact ⟨3, z, X, k3, r, o3, i, rfl, fun _ => ⟨rfl, rfl, HX.out, rfl, rfl, rfl, rfl⟩, (Below.set7 (by repeat (first | exact B6.out | refine Below.set0 ?_ (by omega) _)) (Nat.le_refl _) _ _ _ _ _ _ _)⟩
set_option maxRecDepth 100000 in
set_option maxHeartbeats 6000000 in
theorem inCK (i : Bool) (w W6 : World) (z r V : Int) (X : ByteArray) (x : List Int) (OF : Int × Int) (h5 : ¬ r = 5) (hX : X = strOfNums x) (D K3 : Bool) (hV : D = true → 0 ≤ V ∧ V < 65536) (k2 : Int) (hK3 : (D && !i && (decide (V ≤ 15) || decide (65520 ≤ V))) = K3) (hOF : ((if K3 = true then (1 : Int) else k2), (if K3 = true then V else 0)) = OF) 
    (hT : Blk W6 (w.heap.size + 1) 47 #[(.int .i64 3), (.int .i64 z), (.string X), (.int .i64 k2), (.int .i64 r), (.int .i64 0), (.bool i)]) (hZ : Blk W6 w.heap.size 47 z7D) (hB : Below w.heap.size w W6)
    (c0 c2 c3 c6 c7 c9 c11 c12 c14 c15 c16 c17 c18 c19 c20 c21 c22 c23 c24 c25 c26 c27 c28 c29 c30 c31 c32 c33 c34 c35 c36 c37 c38 c39 c40 c41 c42 c43 c44 c45 c46 c47 c48 c49 c50 c51 c52 c53 c54 c55 c56 c57 c58 c59 c60 c61 c62 c63 c64 c65 c66 c67 c68 c69 c70 c71 c72 c73 c74 c75 c76 c77 c78 c79 c80 c81 c82 c83 c84 c85 c86 c87 c88 c89 c90 c91 c92 c93 c94 c95 c96 c97 c98 c99 c100 c101 c102 c103 c104 c105 c106 c107 c108 c109 c110 c111 c112 c113 c114 c115 c116 c117 c118 c119 c120 c121 c122 c123 c124 c125 c126 c127 c128 c129 c130 c131 c132 c133 c134 c135 c136 c137 c138 c139 c140 c141 c142 c143 c144 c145 c146 c147 c148 c149 c150 c151 c152 c153 c154 c155 c156 c157 c158 c159 c160 c161 c162 c163 c164 c165 c166 c167 c168 c169 c170 c171 c172 c173 c174 c175 c176 : Value) (Ka Kb : Act → World → Prop) (hKa : ∀ a u, Code.wp Tryd.prog (inCond 33) (Exit.then Kb (bodyPost Tryd.prog Tryd.f39 (InPost (⟨3, z, x, OF.1, r, OF.2, i⟩, true) w))) a u → Ka a u) (hKb : ∀ a u, Code.wp Tryd.prog (inRest2 33) (bodyPost Tryd.prog Tryd.f39 (InPost (⟨3, z, x, OF.1, r, OF.2, i⟩, true) w)) a u → Kb a u) :
    Code.wp Tryd.prog (inHead 33) (Exit.then Ka (Exit.then Kb (bodyPost Tryd.prog Tryd.f39 (InPost (⟨3, z, x, OF.1, r, OF.2, i⟩, true) w)))) ⟨List.toArray (c0 :: .bool i :: c2 :: c3 :: .pointer (some ⟨w.heap.size, 0, none⟩) :: .bool false :: c6 :: c7 :: .pointer (some ⟨w.heap.size + 1, 0, none⟩) :: c9 :: .int .u16 V :: c11 :: c12 :: .bool D :: c14 :: c15 :: c16 :: c17 :: c18 :: c19 :: c20 :: c21 :: c22 :: c23 :: c24 :: c25 :: c26 :: c27 :: c28 :: c29 :: c30 :: c31 :: c32 :: c33 :: c34 :: c35 :: c36 :: c37 :: c38 :: c39 :: c40 :: c41 :: c42 :: c43 :: c44 :: c45 :: c46 :: c47 :: c48 :: c49 :: c50 :: c51 :: c52 :: c53 :: c54 :: c55 :: c56 :: c57 :: c58 :: c59 :: c60 :: c61 :: c62 :: c63 :: c64 :: c65 :: c66 :: c67 :: c68 :: c69 :: c70 :: c71 :: c72 :: c73 :: c74 :: c75 :: c76 :: c77 :: c78 :: c79 :: c80 :: c81 :: c82 :: c83 :: c84 :: c85 :: c86 :: c87 :: c88 :: c89 :: c90 :: c91 :: c92 :: c93 :: c94 :: c95 :: c96 :: c97 :: c98 :: c99 :: c100 :: c101 :: c102 :: c103 :: c104 :: c105 :: c106 :: c107 :: c108 :: c109 :: c110 :: c111 :: c112 :: c113 :: c114 :: c115 :: c116 :: c117 :: c118 :: c119 :: c120 :: c121 :: c122 :: c123 :: c124 :: c125 :: c126 :: c127 :: c128 :: c129 :: c130 :: c131 :: c132 :: c133 :: c134 :: c135 :: c136 :: c137 :: c138 :: c139 :: c140 :: c141 :: c142 :: c143 :: c144 :: c145 :: c146 :: c147 :: c148 :: c149 :: c150 :: c151 :: c152 :: c153 :: c154 :: c155 :: c156 :: c157 :: c158 :: c159 :: c160 :: c161 :: c162 :: c163 :: c164 :: c165 :: c166 :: c167 :: c168 :: c169 :: c170 :: c171 :: c172 :: c173 :: c174 :: c175 :: c176 :: []), []⟩ W6 := by
  conv => arg 2; whnf
  conv at hKa => enter [a, u, 1, 2]; whnf
  conv at hKb => enter [a, u, 1, 2]; whnf
  have T6 := Lib.hid hT
  have Z6 := Lib.hid hZ
  have B6 := Lib.hid hB
  clear hT hZ hB
  obtain ⟨q0, q1, q2, q3, q4, q5, q6⟩ := Blk.c7 T6.out
  obtain ⟨p0, p1, p2, p3, p4, p5, p6⟩ := Blk.c7 Z6.out
  have g0 := T6.out.frozen 0
  have g1 := T6.out.frozen 1
  have g2 := T6.out.frozen 2
  have g3 := T6.out.frozen 3
  have g4 := T6.out.frozen 4
  have g5 := T6.out.frozen 5
  have f0 := Z6.out.frozen 0
  have f1 := Z6.out.frozen 1
  have f2 := Z6.out.frozen 2
  have f3 := Z6.out.frozen 3
  have f4 := Z6.out.frozen 4
  have f5 := Z6.out.frozen 5
  have f6 := Z6.out.frozen 6
  have HX := Lib.hid hX
  have HO := Lib.hid hOF
  have HK3 := Lib.hid hK3
  have HV := Lib.hid hV
  clear hX hOF hK3 hV
  go_cut [162] (fun u162 wx => u162 = .bool K3 ∧ Hid (Blk wx (w.heap.size + 1) 47 #[(.int .i64 3), (.int .i64 z), (.string X), (.int .i64 k2), (.int .i64 r), (.int .i64 0), (.bool i)]) ∧ Hid (Blk wx w.heap.size 47 z7D) ∧ Hid (Below w.heap.size w wx))
  case first =>
    cases D
    · have e0 : (0 : Int) = 0 := rfl
      obtain rfl : K3 = false := by rw [← HK3.out]; rfl
      go_wp2
      go_meet
      case rel => exact ⟨rfl, T6, Z6, B6⟩
    · cases i
      · by_cases v1 : V ≤ 15
        · have v1' : decide (V ≤ 15) = true := decide_eq_true v1
          obtain rfl : K3 = true := by rw [← HK3.out]; rw [v1']; rfl
          go_wp2
          go_meet
          case rel => exact ⟨rfl, T6, Z6, B6⟩
        · have v1' : decide (V ≤ 15) = false := decide_eq_false v1
          by_cases v2 : 65520 ≤ V
          · have v2' : decide (65520 ≤ V) = true := decide_eq_true v2
            obtain rfl : K3 = true := by rw [← HK3.out]; rw [v1', v2']; rfl
            go_wp2
            go_meet
            case rel => exact ⟨rfl, T6, Z6, B6⟩
          · have v2' : decide (65520 ≤ V) = false := decide_eq_false v2
            obtain rfl : K3 = false := by rw [← HK3.out]; rw [v1', v2']; rfl
            go_wp2
            go_meet
            case rel => exact ⟨rfl, T6, Z6, B6⟩
      · have e0 : (0 : Int) = 0 := rfl
        obtain rfl : K3 = false := by rw [← HK3.out]; rfl
        go_wp2
        go_meet
        case rel => exact ⟨rfl, T6, Z6, B6⟩
  case rest =>
  obtain ⟨rfl, T9, Z9, B9⟩ := hcut
  clear q0 q1 q2 q3 q4 q5 q6 p0 p1 p2 p3 p4 p5 p6 g0 g1 g2 g3 g4 g5 f0 f1 f2 f3 f4 f5 f6
  obtain ⟨q0, q1, q2, q3, q4, q5, q6⟩ := Blk.c7 T9.out
  obtain ⟨p0, p1, p2, p3, p4, p5, p6⟩ := Blk.c7 Z9.out
  have g0 := T9.out.frozen 0
  have g1 := T9.out.frozen 1
  have g2 := T9.out.frozen 2
  have g3 := T9.out.frozen 3
  have g4 := T9.out.frozen 4
  have g5 := T9.out.frozen 5
  have f0 := Z9.out.frozen 0
  have f1 := Z9.out.frozen 1
  have f2 := Z9.out.frozen 2
  have f3 := Z9.out.frozen 3
  have f4 := Z9.out.frozen 4
  have f5 := Z9.out.frozen 5
  have f6 := Z9.out.frozen 6
  obtain ⟨k3, hk3⟩ : ∃ q : Int, (if K3 = true then (1 : Int) else k2) = q := ⟨_, rfl⟩
  obtain ⟨o3, ho3⟩ : ∃ q : Int, (if K3 = true then V else 0) = q := ⟨_, rfl⟩
  have HO := HO.out
  rw [hk3, ho3] at HO
  have HO := Lib.hid HO
  have Hk3 := Lib.hid hk3
  have Ho3 := Lib.hid ho3
  clear hk3 ho3
  go_upto_if 162 with (fail)
  go_cut [162] (fun _ wx => Hid (Blk wx (w.heap.size + 1) 47 #[(.int .i64 3), (.int .i64 z), (.string X), (.int .i64 k3), (.int .i64 r), (.int .i64 o3), (.bool i)]) ∧ Hid (Blk wx w.heap.size 47 z7D) ∧ Hid (Below w.heap.size w wx))
  case first =>
    cases K3
    · obtain rfl : k3 = k2 := by rw [← Hk3.out]; rfl
      obtain rfl : o3 = 0 := by rw [← Ho3.out]; rfl
      go_wp2
      go_meet
      case rel => exact ⟨T9, Z9, B9⟩
    · obtain rfl : k3 = 1 := by rw [← Hk3.out]; rfl
      obtain rfl : V = o3 := by rw [← Ho3.out]; rfl
      obtain ⟨v0, v1⟩ := HV.out (by have := HK3.out; cases D with | true => rfl | false => simp at this)
      go_wp2
      go_meet
      case rel => exact ⟨Lib.hid (Blk.set_ (Blk.set_ T9.out 3 _) 5 _), Lib.hid (Blk.far (Blk.far Z9.out (by show w.heap.size ≠ w.heap.size + 1; omega) _) (by show w.heap.size ≠ w.heap.size + 1; omega) _), Lib.hid (Below.set0 (Below.set0 B9.out (by omega) _) (by omega) _)⟩
  case rest =>
  obtain ⟨TA, ZA, BA⟩ := hcut
  go_upto_region 35 with (fail)
  exact inDK i w _ z r X x OF h5 HX.out k3 o3 HO.out TA.out ZA.out BA.out _ _ _ _ _ _ _ _ _ _ _ _ _ _ _ _ _ _ _ _ _ _ _ _ _ _ _ _ _ _ _ _ _ _ _ _ _ _ _ _ _ _ _ _ _ _ _ _ _ _ _ _ _ _ _ _ _ _ _ _ _ _ _ _ _ _ _ _ _ _ _ _ _ _ _ _ _ _ _ _ _ _ _ _ _ _ _ _ _ _ _ _ _ _ _ _ _ _ _ _ _ _ _ _ _ _ _ _ _ _ _ _ _ _ _ _ _ _ _ _ _ _ _ _ _ _ _ _ _ _ _ _ _ _ _ _ _ _ _ _ _ _ _ _ _ _ _ _ _ _ _ _ _ _ _ _ _ _ _ _ _ _ _ _ _ _ _ _ _ _ _ _ _ _ _ _ (by assumption) (by assumption)
set_option maxRecDepth 100000 in
set_option maxHeartbeats 6000000 in
theorem inBK (i : Bool) (w W6 : World) (z r V : Int) (X : ByteArray) (x : List Int) (OF : Int × Int) (h5 : ¬ r = 5) (hz012 : z = 0 ∨ z = 1 ∨ z = 2) (hX : X = strOfNums x) (C D K2 K3 : Bool) (hV : C = true → 0 ≤ V ∧ V < 65536) (hD : (C && (z == 0)) = D) (hK2 : ((z == 1) || (D && (decide (V ≤ 127) || decide (65408 ≤ V)))) = K2) (hK3 : (D && !i && (decide (V ≤ 15) || decide (65520 ≤ V))) = K3) (hOF : ((if K3 = true then (1 : Int) else (if K2 = true then (2 : Int) else 3)), (if K3 = true then V else 0)) = OF) 
    (hT : Blk W6 (w.heap.size + 1) 47 #[(.int .i64 3), (.int .i64 z), (.string X), (.int .i64 3), (.int .i64 r), (.int .i64 0), (.bool i)]) (hZ : Blk W6 w.heap.size 47 z7D) (hB : Below w.heap.size w W6)
    (c0 c2 c3 c6 c7 c9 c11 c12 c14 c15 c16 c17 c18 c19 c20 c21 c22 c23 c24 c25 c26 c27 c28 c29 c30 c31 c32 c33 c34 c35 c36 c37 c38 c39 c40 c41 c42 c43 c44 c45 c46 c47 c48 c49 c50 c51 c52 c53 c54 c55 c56 c57 c58 c59 c60 c61 c62 c63 c64 c65 c66 c67 c68 c69 c70 c71 c72 c73 c74 c75 c76 c77 c78 c79 c80 c81 c82 c83 c84 c85 c86 c87 c88 c89 c90 c91 c92 c93 c94 c95 c96 c97 c98 c99 c100 c101 c102 c103 c104 c105 c106 c107 c108 c109 c110 c111 c112 c113 c114 c115 c116 c117 c118 c119 c120 c121 c122 c123 c124 c125 c126 c127 c128 c129 c130 c131 c132 c133 c134 c135 c136 c137 c138 c139 c140 c141 c142 c143 c144 c145 c146 c147 c148 c149 c150 c151 c152 c153 c154 c155 c156 c157 c158 c159 c160 c161 c162 c163 c164 c165 c166 c167 c168 c169 c170 c171 c172 c173 c174 c175 c176 : Value) (Ka Kb : Act → World → Prop) (hKa : ∀ a u, Code.wp Tryd.prog (inCond 31) (Exit.then Kb (bodyPost Tryd.prog Tryd.f39 (InPost (⟨3, z, x, OF.1, r, OF.2, i⟩, true) w))) a u → Ka a u) (hKb : ∀ a u, Code.wp Tryd.prog (inRest2 31) (bodyPost Tryd.prog Tryd.f39 (InPost (⟨3, z, x, OF.1, r, OF.2, i⟩, true) w)) a u → Kb a u) :
    Code.wp Tryd.prog (inHead 31) (Exit.then Ka (Exit.then Kb (bodyPost Tryd.prog Tryd.f39 (InPost (⟨3, z, x, OF.1, r, OF.2, i⟩, true) w)))) ⟨List.toArray (c0 :: .bool i :: c2 :: c3 :: .pointer (some ⟨w.heap.size, 0, none⟩) :: .bool false :: c6 :: c7 :: .pointer (some ⟨w.heap.size + 1, 0, none⟩) :: c9 :: .int .u16 V :: c11 :: c12 :: .bool D :: c14 :: c15 :: c16 :: c17 :: c18 :: c19 :: c20 :: c21 :: c22 :: c23 :: c24 :: c25 :: c26 :: c27 :: c28 :: c29 :: c30 :: c31 :: c32 :: c33 :: c34 :: c35 :: c36 :: c37 :: c38 :: c39 :: c40 :: c41 :: c42 :: c43 :: c44 :: c45 :: c46 :: c47 :: c48 :: c49 :: c50 :: c51 :: c52 :: c53 :: c54 :: c55 :: c56 :: c57 :: c58 :: c59 :: c60 :: c61 :: c62 :: c63 :: c64 :: c65 :: c66 :: c67 :: c68 :: c69 :: c70 :: c71 :: c72 :: c73 :: c74 :: c75 :: c76 :: c77 :: c78 :: c79 :: c80 :: c81 :: c82 :: c83 :: c84 :: c85 :: c86 :: c87 :: c88 :: c89 :: c90 :: c91 :: c92 :: c93 :: c94 :: c95 :: c96 :: c97 :: c98 :: c99 :: c100 :: c101 :: c102 :: c103 :: c104 :: c105 :: c106 :: c107 :: c108 :: c109 :: c110 :: c111 :: c112 :: c113 :: c114 :: c115 :: c116 :: c117 :: c118 :: c119 :: c120 :: c121 :: c122 :: c123 :: c124 :: c125 :: c126 :: c127 :: c128 :: c129 :: c130 :: c131 :: c132 :: c133 :: c134 :: c135 :: c136 :: c137 :: c138 :: c139 :: c140 :: c141 :: c142 :: c143 :: c144 :: c145 :: c146 :: c147 :: c148 :: c149 :: c150 :: c151 :: c152 :: c153 :: c154 :: c155 :: c156 :: c157 :: c158 :: c159 :: c160 :: c161 :: c162 :: c163 :: c164 :: c165 :: c166 :: c167 :: c168 :: c169 :: c170 :: c171 :: c172 :: c173 :: c174 :: c175 :: c176 :: []), []⟩ W6 := by
  conv => arg 2; whnf
  conv at hKa => enter [a, u, 1, 2]; whnf
  conv at hKb => enter [a, u, 1, 2]; whnf
  have T6 := Lib.hid hT
  have Z6 := Lib.hid hZ
  have B6 := Lib.hid hB
  clear hT hZ hB
  obtain ⟨q0, q1, q2, q3, q4, q5, q6⟩ := Blk.c7 T6.out
  obtain ⟨p0, p1, p2, p3, p4, p5, p6⟩ := Blk.c7 Z6.out
  have g0 := T6.out.frozen 0
  have g1 := T6.out.frozen 1
  have g2 := T6.out.frozen 2
  have g3 := T6.out.frozen 3
  have g4 := T6.out.frozen 4
  have g5 := T6.out.frozen 5
  have f0 := Z6.out.frozen 0
  have f1 := Z6.out.frozen 1
  have f2 := Z6.out.frozen 2
  have f3 := Z6.out.frozen 3
  have f4 := Z6.out.frozen 4
  have f5 := Z6.out.frozen 5
  have f6 := Z6.out.frozen 6
  have HX := Lib.hid hX
  have HO := Lib.hid hOF
  have HD := Lib.hid hD
  have HK2 := Lib.hid hK2
  have HK3 := Lib.hid hK3
  have HV := Lib.hid hV
  clear hX hOF hD hK2 hK3 hV
  go_cut [148] (fun u148 wx => u148 = .bool K2 ∧ wx = W6)
  case first =>
    have dd := HD.out
    rcases hz012 with rfl | rfl | rfl
    · clear dd
      cases D
      · have e0 : (0 : Int) = 0 := rfl
        obtain rfl : K2 = false := by rw [← HK2.out]; simp [*]
        go_wp2
        go_meet
        case rel => exact ⟨rfl, rfl⟩
      · by_cases v1 : V ≤ 127
        · have v1' : decide (V ≤ 127) = true := decide_eq_true v1
          obtain rfl : K2 = true := by rw [← HK2.out]; simp [*]
          go_wp2
          go_meet
          case rel => exact ⟨rfl, rfl⟩
        · have v1' : decide (V ≤ 127) = false := decide_eq_false v1
          by_cases v2 : 65408 ≤ V
          · have v2' : decide (65408 ≤ V) = true := decide_eq_true v2
            obtain rfl : K2 = true := by rw [← HK2.out]; simp [*]
            go_wp2
            go_meet
            case rel => exact ⟨rfl, rfl⟩
          · have v2' : decide (65408 ≤ V) = false := decide_eq_false v2
            obtain rfl : K2 = false := by rw [← HK2.out]; simp [*]
            go_wp2
            go_meet
            case rel => exact ⟨rfl, rfl⟩
    · clear dd
      obtain rfl : K2 = true := by rw [← HK2.out]; rfl
      go_wp2
      go_meet
      case rel => exact ⟨rfl, rfl⟩
    · obtain rfl : D = false := by rw [← dd]; cases C <;> rfl
      clear dd
      obtain rfl : K2 = false := by rw [← HK2.out]; rfl
      go_wp2
      go_meet
      case rel => exact ⟨rfl, rfl⟩
  case rest =>
  obtain ⟨rfl, hwx⟩ := hcut; have hwx := hwx.symm; subst hwx
  obtain ⟨k2, hk2⟩ : ∃ q : Int, (if K2 = true then (2 : Int) else 3) = q := ⟨_, rfl⟩
  have HO := HO.out
  rw [hk2] at HO
  have HO := Lib.hid HO
  have Hk2 := Lib.hid hk2
  clear hk2
  go_upto_if 148 with (fail)
  go_cut [148] (fun _ wx => Hid (Blk wx (w.heap.size + 1) 47 #[(.int .i64 3), (.int .i64 z), (.string X), (.int .i64 k2), (.int .i64 r), (.int .i64 0), (.bool i)]) ∧ Hid (Blk wx w.heap.size 47 z7D) ∧ Hid (Below w.heap.size w wx))
  case first =>
    cases K2
    · obtain rfl : k2 = 3 := by rw [← Hk2.out]; rfl
      go_wp2
      go_meet
      case rel => exact ⟨T6, Z6, B6⟩
    · obtain rfl : k2 = 2 := by rw [← Hk2.out]; rfl
      go_wp2
      go_meet
      case rel => exact ⟨Lib.hid (Blk.set_ T6.out 3 _), Lib.hid (Blk.far Z6.out (by show w.heap.size ≠ w.heap.size + 1; omega) _), Lib.hid (Below.set0 B6.out (by omega) _)⟩
  case rest =>
  obtain ⟨T8, Z8, B8⟩ := hcut
  go_upto_region 33 with (fail)
  exact inCK i w _ z r V X x OF h5 HX.out D K3 (fun h => HV.out (by have := HD.out; rw [h] at this; cases C with | true => rfl | false => simp at this)) k2 HK3.out HO.out T8.out Z8.out B8.out _ _ _ _ _ _ _ _ _ _ _ _ _ _ _ _ _ _ _ _ _ _ _ _ _ _ _ _ _ _ _ _ _ _ _ _ _ _ _ _ _ _ _ _ _ _ _ _ _ _ _ _ _ _ _ _ _ _ _ _ _ _ _ _ _ _ _ _ _ _ _ _ _ _ _ _ _ _ _ _ _ _ _ _ _ _ _ _ _ _ _ _ _ _ _ _ _ _ _ _ _ _ _ _ _ _ _ _ _ _ _ _ _ _ _ _ _ _ _ _ _ _ _ _ _ _ _ _ _ _ _ _ _ _ _ _ _ _ _ _ _ _ _ _ _ _ _ _ _ _ _ _ _ _ _ _ _ _ _ _ _ _ _ _ _ _ _ _ _ _ _ _ _ (by assumption) (by assumption)
set_option maxRecDepth 100000 in
set_option maxHeartbeats 6000000 in
theorem inAK (i : Bool) (w W6 : World) (z r V E : Int) (X : ByteArray) (x : List Int) (OF : Int × Int) (h5 : ¬ r = 5) (H G : Bool) (hz012 : z = 0 ∨ z = 1 ∨ z = 2) (hG : E = 0 → G = false) (hX : X = strOfNums x) (hV : (decide (E = 0) && !H) = true → 0 ≤ V ∧ V < 65536) (hOF : ∀ C D K2 K3 : Bool, (decide (E = 0) && !H) = C → (C && (z == 0)) = D → ((z == 1) || (D && (decide (V ≤ 127) || decide (65408 ≤ V)))) = K2 → (D && !i && (decide (V ≤ 15) || decide (65520 ≤ V))) = K3 → ((if K3 = true then (1 : Int) else (if K2 = true then (2 : Int) else 3)), (if K3 = true then V else 0)) = OF)
    (hT : Blk W6 (w.heap.size + 1) 47 #[(.int .i64 3), (.int .i64 z), (.string X), (.int .i64 0), (.int .i64 r), (.int .i64 0), (.bool i)]) (hZ : Blk W6 w.heap.size 47 z7D) (hB : Below w.heap.size w W6)
    (c0 c2 c3 c6 c7 c9 c13 c14 c15 c16 c17 c18 c19 c20 c21 c22 c23 c24 c25 c26 c27 c28 c29 c30 c31 c32 c33 c34 c35 c36 c37 c38 c39 c40 c41 c42 c43 c44 c45 c46 c47 c48 c49 c50 c51 c52 c53 c54 c55 c56 c57 c58 c59 c60 c61 c62 c63 c64 c65 c66 c67 c68 c69 c70 c71 c72 c73 c74 c75 c76 c77 c78 c79 c80 c81 c82 c83 c84 c85 c86 c87 c88 c89 c90 c91 c92 c93 c94 c95 c96 c97 c98 c99 c100 c101 c102 c103 c104 c105 c106 c107 c108 c109 c110 c111 c112 c113 c114 c115 c116 c117 c118 c119 c120 c121 c122 c123 c124 c125 c126 c127 c128 c129 c130 c131 c132 c133 c134 c135 c136 c137 c138 c139 c140 c141 c142 c143 c144 c145 c146 c147 c148 c149 c150 c151 c152 c153 c154 c155 c156 c157 c158 c159 c160 c161 c162 c163 c164 c165 c166 c167 c168 c169 c170 c171 c172 c173 c174 c175 c176 : Value) (Ka : Act → World → Prop) (hKa : ∀ a u, Code.wp Tryd.prog (inRest 29) (bodyPost Tryd.prog Tryd.f39 (InPost (⟨3, z, x, OF.1, r, OF.2, i⟩, true) w)) a u → Ka a u) :
    Code.wp Tryd.prog (inHead 29) (Exit.then Ka (bodyPost Tryd.prog Tryd.f39 (InPost (⟨3, z, x, OF.1, r, OF.2, i⟩, true) w))) ⟨List.toArray (c0 :: .bool i :: c2 :: c3 :: .pointer (some ⟨w.heap.size, 0, none⟩) :: .bool false :: c6 :: c7 :: .pointer (some ⟨w.heap.size + 1, 0, none⟩) :: c9 :: .int .u16 V :: .int .i64 E :: .bool (H || G) :: c13 :: c14 :: c15 :: c16 :: c17 :: c18 :: c19 :: c20 :: c21 :: c22 :: c23 :: c24 :: c25 :: c26 :: c27 :: c28 :: c29 :: c30 :: c31 :: c32 :: c33 :: c34 :: c35 :: c36 :: c37 :: c38 :: c39 :: c40 :: c41 :: c42 :: c43 :: c44 :: c45 :: c46 :: c47 :: c48 :: c49 :: c50 :: c51 :: c52 :: c53 :: c54 :: c55 :: c56 :: c57 :: c58 :: c59 :: c60 :: c61 :: c62 :: c63 :: c64 :: c65 :: c66 :: c67 :: c68 :: c69 :: c70 :: c71 :: c72 :: c73 :: c74 :: c75 :: c76 :: c77 :: c78 :: c79 :: c80 :: c81 :: c82 :: c83 :: c84 :: c85 :: c86 :: c87 :: c88 :: c89 :: c90 :: c91 :: c92 :: c93 :: c94 :: c95 :: c96 :: c97 :: c98 :: c99 :: c100 :: c101 :: c102 :: c103 :: c104 :: c105 :: c106 :: c107 :: c108 :: c109 :: c110 :: c111 :: c112 :: c113 :: c114 :: c115 :: c116 :: c117 :: c118 :: c119 :: c120 :: c121 :: c122 :: c123 :: c124 :: c125 :: c126 :: c127 :: c128 :: c129 :: c130 :: c131 :: c132 :: c133 :: c134 :: c135 :: c136 :: c137 :: c138 :: c139 :: c140 :: c141 :: c142 :: c143 :: c144 :: c145 :: c146 :: c147 :: c148 :: c149 :: c150 :: c151 :: c152 :: c153 :: c154 :: c155 :: c156 :: c157 :: c158 :: c159 :: c160 :: c161 :: c162 :: c163 :: c164 :: c165 :: c166 :: c167 :: c168 :: c169 :: c170 :: c171 :: c172 :: c173 :: c174 :: c175 :: c176 :: []), []⟩ W6 := by
  conv => arg 2; whnf
  conv at hKa => enter [a, u, 1, 2]; whnf
  have T6 := Lib.hid hT
  have Z6 := Lib.hid hZ
  have B6 := Lib.hid hB
  clear hT hZ hB
  obtain ⟨q0, q1, q2, q3, q4, q5, q6⟩ := Blk.c7 T6.out
  obtain ⟨p0, p1, p2, p3, p4, p5, p6⟩ := Blk.c7 Z6.out
  have g0 := T6.out.frozen 0
  have g1 := T6.out.frozen 1
  have g2 := T6.out.frozen 2
  have g3 := T6.out.frozen 3
  have g4 := T6.out.frozen 4
  have g5 := T6.out.frozen 5
  have f0 := Z6.out.frozen 0
  have f1 := Z6.out.frozen 1
  have f2 := Z6.out.frozen 2
  have f3 := Z6.out.frozen 3
  have f4 := Z6.out.frozen 4
  have f5 := Z6.out.frozen 5
  have f6 := Z6.out.frozen 6
  have HG := Lib.hid hG
  have HX := Lib.hid hX
  have HOF := Lib.hid hOF
  have HV := Lib.hid hV
  clear hG hX hOF hV
  obtain ⟨C, hC⟩ : ∃ C, (decide (E = 0) && !H) = C := ⟨_, rfl⟩
  have HC := Lib.hid hC
  clear hC
  go_cut [13] (fun u13 wx => u13 = .bool (C && (z == 0)) ∧ wx = W6)
  case first =>
    have hC := HC.out
    clear HOF
    by_cases hE : E = 0
    · obtain rfl := HG.out hE
      subst hE
      rw [decide_eq_true rfl, Bool.true_and] at hC
      subst hC
      cases H
      all_goals
        rcases hz012 with rfl | rfl | rfl
        all_goals
          go_wp2
          go_meet
          case rel => exact ⟨rfl, rfl⟩
    · rw [decide_eq_false hE, Bool.false_and] at hC
      subst hC
      have hE' : (E == 0) = false := by simpa using hE
      go_wp2
      go_meet
      case rel => exact ⟨rfl, rfl⟩
  case rest =>
  obtain ⟨rfl, hwx⟩ := hcut; have hwx := hwx.symm; subst hwx
  obtain ⟨D, hD⟩ : ∃ D, (C && (z == 0)) = D := ⟨_, rfl⟩
  rw [hD]
  obtain ⟨K2, hK2⟩ : ∃ K, ((z == 1) || (D && (decide (V ≤ 127) || decide (65408 ≤ V)))) = K := ⟨_, rfl⟩
  obtain ⟨K3, hK3⟩ : ∃ K, (D && !i && (decide (V ≤ 15) || decide (65520 ≤ V))) = K := ⟨_, rfl⟩
  have HO := Lib.hid (HOF.out C D K2 K3 HC.out hD hK2 hK3)
  have HD := Lib.hid hD
  have HK2 := Lib.hid hK2
  have HK3 := Lib.hid hK3
  clear hD hK2 hK3 HOF HG
  go_upto_region 31 with (fail)
  have Tc_0 : Hid (Blk ((W6).setCell ⟨w.heap.size + 1, 3, none⟩ (.int .i64 3)) (w.heap.size + 1) 47 #[(.int .i64 3), (.int .i64 z), (.string X), (.int .i64 3), (.int .i64 r), (.int .i64 0), (.bool i)]) := Lib.hid (Blk.set_ T6.out 3 (.int .i64 3))
  have Zc_0 : Hid (Blk ((W6).setCell ⟨w.heap.size + 1, 3, none⟩ (.int .i64 3)) w.heap.size 47 z7D) := Lib.hid (Blk.far Z6.out (by show w.heap.size ≠ w.heap.size + 1; omega) (.int .i64 3))
  have Bc_0 : Hid (Below w.heap.size w ((W6).setCell ⟨w.heap.size + 1, 3, none⟩ (.int .i64 3))) := Lib.hid (Below.set0 B6.out (by omega) (.int .i64 3))
  generalize (W6).setCell ⟨w.heap.size + 1, 3, none⟩ (.int .i64 3) = Wc at Tc_0 Zc_0 Bc_0 ⊢
  exact inBK i w Wc z r V X x OF h5 hz012 HX.out C D K2 K3 (fun h => HV.out (HC.out.trans h)) HD.out HK2.out HK3.out HO.out Tc_0.out Zc_0.out Bc_0.out _ _ _ _ _ _ _ _ _ _ _ _ _ _ _ _ _ _ _ _ _ _ _ _ _ _ _ _ _ _ _ _ _ _ _ _ _ _ _ _ _ _ _ _ _ _ _ _ _ _ _ _ _ _ _ _ _ _ _ _ _ _ _ _ _ _ _ _ _ _ _ _ _ _ _ _ _ _ _ _ _ _ _ _ _ _ _ _ _ _ _ _ _ _ _ _ _ _ _ _ _ _ _ _ _ _ _ _ _ _ _ _ _ _ _ _ _ _ _ _ _ _ _ _ _ _ _ _ _ _ _ _ _ _ _ _ _ _ _ _ _ _ _ _ _ _ _ _ _ _ _ _ _ _ _ _ _ _ _ _ _ _ _ _ _ _ _ _ _ _ _ _ _ (by assumption) (by assumption)
end Go.Proofs.YtmdpgekbiohfbabDoor
