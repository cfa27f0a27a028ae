/- The document's operands (spinetref45): what inside does behind its expression's value. -/
import Derived.Test.YtmdpgekbiohfbabDoorLdi
import Derived.Deep.RegionHeld3
import Derived.Deep.DeepCutAuto
import Derived.Deep.CutBlock
namespace Go.Proofs.YtmdpgekbiohfbabDoor
open Go.ChangeShapes Go.WideShapes Go.ChangeAt Go.RowKit
set_option linter.unusedVariables false

theorem offL_5 (z : Int) (i : Bool) (x : List Int) (hz : z = 0 ∨ z = 1 ∨ z = 2) (V E : Int) (H G C D K2 K3 : Bool) (hE : evalE 0 (lookL look0) x = (V, E, H, G)) (hC : (decide (E = 0) && !H) = C) (hD : (C && (z == 0)) = D) (h2 : ((z == 1) || (D && (decide (V ≤ 127) || decide (65408 ≤ V)))) = K2) (h3 : (D && !i && (decide (V ≤ 15) || decide (65520 ≤ V))) = K3) :
    (if z = 1 then ((11, 0) : Int × Int) else (12, 0)) = offL z 5 i x := by unfold offL; rw [if_pos rfl]
theorem offL_K (z r : Int) (i : Bool) (x : List Int) (hz : z = 0 ∨ z = 1 ∨ z = 2) (hr : ¬ r = 5) (V E : Int) (H G C D K2 K3 : Bool) (hE : evalE 0 (lookL look0) x = (V, E, H, G)) (hC : (decide (E = 0) && !H) = C) (hD : (C && (z == 0)) = D) (h2 : ((z == 1) || (D && (decide (V ≤ 127) || decide (65408 ≤ V)))) = K2) (h3 : (D && !i && (decide (V ≤ 15) || decide (65520 ≤ V))) = K3) :
    ((if K3 = true then (1 : Int) else (if K2 = true then (2 : Int) else 3)), (if K3 = true then V else 0)) = offL z r i x := by
  have hB : constB (V, E, H, G) = C := hC
  have hV : C = true → constV (V, E, H, G) = V := fun h => by rw [h, Bool.and_eq_true, decide_eq_true_eq, Bool.not_eq_true'] at hC; exact if_pos hC
  unfold offL
  rw [if_neg hr, hE, hB]
  clear hC hB hE
  subst h2 h3
  rcases hz with rfl | rfl | rfl
  · cases C with
    | false =>
      obtain rfl : D = false := hD.symm
      simp
    | true =>
      obtain rfl : D = true := hD.symm
      rw [hV rfl]
      have e01 : ((0 : Int) == 1) = false := rfl
      by_cases a1 : V ≤ 15
      · have q1 : V ≤ 127 := by omega
        cases i <;> simp [a1, q1, e01]
      · by_cases a2 : 65520 ≤ V
        · have q1 : 65408 ≤ V := by omega
          have n1 : ¬ V ≤ 127 := by omega
          cases i <;> simp [a1, a2, q1, n1, e01]
        · by_cases a3 : V ≤ 127
          · cases i <;> simp [a1, a2, a3, e01]
          · by_cases a4 : 65408 ≤ V
            · cases i <;> simp [a1, a2, a3, a4, e01]
            · cases i <;> simp [a1, a2, a3, a4, e01]
  · obtain rfl : D = false := by rw [← hD]; cases C <;> rfl
    simp
  · obtain rfl : D = false := by rw [← hD]; cases C <;> rfl
    simp
abbrev z7D : Array Value := #[.int .i64 0, .int .i64 0, .string ⟨#[]⟩, .int .i64 0, .int .i64 0, .int .i64 0, .bool false]
theorem resIn (tmps : Array Value) (W : World) (g : Nat) (cs : Array Value) (h : Blk W g 47 cs) (hc : cs.size = 7) (h2 : tmps.getD 4 undef = .pointer (some ⟨g, 0, none⟩)) (c : Bool) (h3 : tmps.getD 5 undef = .bool c) :
    (results Tryd.f39 tmps).run Tryd.prog W = .ok (.tuple #[.agg cs, .bool c]) W := by
  have hi : (Tryd.prog.info? 47).map (·.size) = some cs.size := by rw [hc]; kernel_rfl
  have hld := run_loadVar_row (P := Tryd.prog) W g 47 47 cs (0, 0) _ h Tryd.underlying47 rfl hi
  have h2' : tmps[4]?.getD undef = .pointer (some ⟨g, 0, none⟩) := by simpa using h2
  have h3' : tmps[5]?.getD undef = .bool c := by simpa using h3
  simp [results, Tryd.results39, h2', h3', asAddr, hld]
/-- A statement of a function's body, by its first region's number; what stands behind it. -/
def headAt (n : Nat) : Code → Option Code
  | .region m a b => if m == n then some (.region m a b) else none
  | .seq a b => match headAt n a with
    | some c => some c
    | none => headAt n b
  | .block _ c => headAt n c
  | .loop c => headAt n c
  | .scope c => headAt n c
  | .cond _ a b => match headAt n a with
    | some c => some c
    | none => headAt n b
  | _ => none
def isReg (n : Nat) : Code → Bool
  | .region m _ _ => m == n
  | _ => false
def restAt (n : Nat) : Code → Option Code
  | .seq a b => if isReg n a then some b else match restAt n a with
    | some c => some c
    | none => restAt n b
  | .block _ c => restAt n c
  | .loop c => restAt n c
  | .scope c => restAt n c
  | .cond _ a b => match restAt n a with
    | some c => some c
    | none => restAt n b
  | _ => none
/-- .. of a region with a test behind it: the test; what stands behind both. -/
def condAt (n : Nat) : Code → Option Code
  | .seq a b => if isReg n a then some b else match condAt n a with
    | some c => some c
    | none => condAt n b
  | .block _ c => condAt n c
  | .loop c => condAt n c
  | .scope c => condAt n c
  | .cond _ a b => match condAt n a with
    | some c => some c
    | none => condAt n b
  | _ => none
def isSeq (n : Nat) : Code → Bool
  | .seq a _ => isReg n a
  | _ => false
def rest2At (n : Nat) : Code → Option Code
  | .seq a b => if isSeq n a then some b else match rest2At n a with
    | some c => some c
    | none => rest2At n b
  | .block _ c => rest2At n c
  | .loop c => rest2At n c
  | .scope c => rest2At n c
  | .cond _ a b => match rest2At n a with
    | some c => some c
    | none => rest2At n b
  | _ => none
noncomputable def inHead (n : Nat) : Code := ((Tryd.f39.body.bind (headAt n)).getD .skip)
noncomputable def inRest (n : Nat) : Code := ((Tryd.f39.body.bind (restAt n)).getD .skip)
noncomputable def inCond (n : Nat) : Code := ((Tryd.f39.body.bind (condAt n)).getD .skip)
noncomputable def inRest2 (n : Nat) : Code := ((Tryd.f39.body.bind (rest2At n)).getD .skip)
set_option maxRecDepth 100000 in
set_option maxHeartbeats 6000000 in
theorem inD5 (i : Bool) (w W6 : World) (z : Int) (X : ByteArray) (x : List Int) (OF : Int × Int) (hz012 : z = 0 ∨ z = 1 ∨ z = 2) (hX : X = strOfNums x) (hOF : (if z = 1 then ((11, 0) : Int × Int) else (12, 0)) = OF) (k3 o3 : Int) 
    (hT : Blk W6 (w.heap.size + 1) 47 #[(.int .i64 3), (.int .i64 z), (.string X), (.int .i64 k3), (.int .i64 5), (.int .i64 o3), (.bool i)]) (hZ : Blk W6 w.heap.size 47 z7D) (hB : Below w.heap.size w W6)
    (c0 c1 c2 c3 c6 c7 c9 c10 c11 c12 c13 c14 c15 c16 c17 c18 c19 c20 c21 c22 c23 c24 c25 c26 c27 c28 c29 c30 c31 c32 c33 c34 c35 c36 c37 c38 c39 c40 c41 c42 c43 c44 c45 c46 c47 c48 c49 c50 c51 c52 c53 c54 c55 c56 c57 c58 c59 c60 c61 c62 c63 c64 c65 c66 c67 c68 c69 c70 c71 c72 c73 c74 c75 c76 c77 c78 c79 c80 c81 c82 c83 c84 c85 c86 c87 c88 c89 c90 c91 c92 c93 c94 c95 c96 c97 c98 c99 c100 c101 c102 c103 c104 c105 c106 c107 c108 c109 c110 c111 c112 c113 c114 c115 c116 c117 c118 c119 c120 c121 c122 c123 c124 c125 c126 c127 c128 c129 c130 c131 c132 c133 c134 c135 c136 c137 c138 c139 c140 c141 c142 c143 c144 c145 c146 c147 c148 c149 c150 c151 c152 c153 c154 c155 c156 c157 c158 c159 c160 c161 c162 c163 c164 c165 c166 c167 c168 c169 c170 c171 c172 c173 c174 c175 c176 : Value) (Ka Kb : Act → World → Prop) (hKa : ∀ a u, Code.wp Tryd.prog (inCond 35) (Exit.then Kb (bodyPost Tryd.prog Tryd.f39 (InPost (⟨3, z, x, OF.1, 5, OF.2, i⟩, true) w))) a u → Ka a u) (hKb : ∀ a u, Code.wp Tryd.prog (inRest2 35) (bodyPost Tryd.prog Tryd.f39 (InPost (⟨3, z, x, OF.1, 5, OF.2, i⟩, true) w)) a u → Kb a u) :
    Code.wp Tryd.prog (inHead 35) (Exit.then Ka (Exit.then Kb (bodyPost Tryd.prog Tryd.f39 (InPost (⟨3, z, x, OF.1, 5, OF.2, i⟩, true) w)))) ⟨List.toArray (c0 :: c1 :: c2 :: c3 :: .pointer (some ⟨w.heap.size, 0, none⟩) :: .bool false :: c6 :: c7 :: .pointer (some ⟨w.heap.size + 1, 0, none⟩) :: c9 :: c10 :: c11 :: c12 :: c13 :: c14 :: c15 :: c16 :: c17 :: c18 :: c19 :: c20 :: c21 :: c22 :: c23 :: c24 :: c25 :: c26 :: c27 :: c28 :: c29 :: c30 :: c31 :: c32 :: c33 :: c34 :: c35 :: c36 :: c37 :: c38 :: c39 :: c40 :: c41 :: c42 :: c43 :: c44 :: c45 :: c46 :: c47 :: c48 :: c49 :: c50 :: c51 :: c52 :: c53 :: c54 :: c55 :: c56 :: c57 :: c58 :: c59 :: c60 :: c61 :: c62 :: c63 :: c64 :: c65 :: c66 :: c67 :: c68 :: c69 :: c70 :: c71 :: c72 :: c73 :: c74 :: c75 :: c76 :: c77 :: c78 :: c79 :: c80 :: c81 :: c82 :: c83 :: c84 :: c85 :: c86 :: c87 :: c88 :: c89 :: c90 :: c91 :: c92 :: c93 :: c94 :: c95 :: c96 :: c97 :: c98 :: c99 :: c100 :: c101 :: c102 :: c103 :: c104 :: c105 :: c106 :: c107 :: c108 :: c109 :: c110 :: c111 :: c112 :: c113 :: c114 :: c115 :: c116 :: c117 :: c118 :: c119 :: c120 :: c121 :: c122 :: c123 :: c124 :: c125 :: c126 :: c127 :: c128 :: c129 :: c130 :: c131 :: c132 :: c133 :: c134 :: c135 :: c136 :: c137 :: c138 :: c139 :: c140 :: c141 :: c142 :: c143 :: c144 :: c145 :: c146 :: c147 :: c148 :: c149 :: c150 :: c151 :: c152 :: c153 :: c154 :: c155 :: c156 :: c157 :: c158 :: c159 :: c160 :: c161 :: c162 :: c163 :: c164 :: c165 :: c166 :: c167 :: c168 :: c169 :: c170 :: c171 :: c172 :: c173 :: c174 :: c175 :: c176 :: []), []⟩ W6 := by
  conv => arg 2; whnf
  conv at hKa => enter [a, u, 1, 2]; whnf
  conv at hKb => enter [a, u, 1, 2]; whnf
  have T6 := Lib.hid hT
  have Z6 := Lib.hid hZ
  have B6 := Lib.hid hB
  clear hT hZ hB
  obtain ⟨q0, q1, q2, q3, q4, q5, q6⟩ := Blk.c7 T6.out
  obtain ⟨p0, p1, p2, p3, p4, p5, p6⟩ := Blk.c7 Z6.out
  have g0 := T6.out.frozen 0
  have g1 := T6.out.frozen 1
  have g2 := T6.out.frozen 2
  have g3 := T6.out.frozen 3
  have g4 := T6.out.frozen 4
  have g5 := T6.out.frozen 5
  have f0 := Z6.out.frozen 0
  have f1 := Z6.out.frozen 1
  have f2 := Z6.out.frozen 2
  have f3 := Z6.out.frozen 3
  have f4 := Z6.out.frozen 4
  have f5 := Z6.out.frozen 5
  have f6 := Z6.out.frozen 6
  have HX := Lib.hid hX
  have HO := Lib.hid hOF
  clear hX hOF
  rcases hz012 with rfl | rfl | rfl
  · have HQ := HO.out
    subst HQ
    go_wp2
    refine bodyPost_ret (v := .tuple #[.agg #[(.int .i64 3), (.int .i64 0), (.string X), (.int .i64 12), (.int .i64 5), (.int .i64 0), (.bool i)], .bool true]) (resIn _ _ w.heap.size _ (Blk.set7 (by repeat (first | exact Z6.out | refine Blk.far ?_ (by show w.heap.size ≠ w.heap.size + 1; omega) _))) rfl rfl true rfl) rfl ?_
    exact ⟨3, 0, X, 12, 5, 0, i, rfl, fun _ => ⟨rfl, rfl, HX.out, rfl, rfl, rfl, rfl⟩, (Below.set7 (by repeat (first | exact B6.out | refine Below.set0 ?_ (by omega) _)) (Nat.le_refl _) _ _ _ _ _ _ _)⟩
  · have HQ := HO.out
    subst HQ
    go_wp2
    refine bodyPost_ret (v := .tuple #[.agg #[(.int .i64 3), (.int .i64 1), (.string X), (.int .i64 11), (.int .i64 5), (.int .i64 0), (.bool i)], .bool true]) (resIn _ _ w.heap.size _ (Blk.set7 (by repeat (first | exact Z6.out | refine Blk.far ?_ (by show w.heap.size ≠ w.heap.size + 1; omega) _))) rfl rfl true rfl) rfl ?_
    exact ⟨3, 1, X, 11, 5, 0, i, rfl, fun _ => ⟨rfl, rfl, HX.out, rfl, rfl, rfl, rfl⟩, (Below.set7 (by repeat (first | exact B6.out | refine Below.set0 ?_ (by omega) _)) (Nat.le_refl _) _ _ _ _ _ _ _)⟩
  · have HQ := HO.out
    subst HQ
    go_wp2
    refine bodyPost_ret (v := .tuple #[.agg #[(.int .i64 3), (.int .i64 2), (.string X), (.int .i64 12), (.int .i64 5), (.int .i64 0), (.bool i)], .bool true]) (resIn _ _ w.heap.size _ (Blk.set7 (by repeat (first | exact Z6.out | refine Blk.far ?_ (by show w.heap.size ≠ w.heap.size + 1; omega) _))) rfl rfl true rfl) rfl ?_
    exact ⟨3, 2, X, 12, 5, 0, i, rfl, fun _ => ⟨rfl, rfl, HX.out, rfl, rfl, rfl, rfl⟩, (Below.set7 (by repeat (first | exact B6.out | refine Below.set0 ?_ (by omega) _)) (Nat.le_refl _) _ _ _ _ _ _ _)⟩
set_option maxRecDepth 100000 in
set_option maxHeartbeats 6000000 in
theorem inC5 (i : Bool) (w W6 : World) (z V : Int) (X : ByteArray) (x : List Int) (OF : Int × Int) (hz012 : z = 0 ∨ z = 1 ∨ z = 2) (hX : X = strOfNums x) (D K3 : Bool) (hV : D = true → 0 ≤ V ∧ V < 65536) (k2 : Int) (hK3 : (D && !i && (decide (V ≤ 15) || decide (65520 ≤ V))) = K3) (hOF : (if z = 1 then ((11, 0) : Int × Int) else (12, 0)) = OF) 
    (hT : Blk W6 (w.heap.size + 1) 47 #[(.int .i64 3), (.int .i64 z), (.string X), (.int .i64 k2), (.int .i64 5), (.int .i64 0), (.bool i)]) (hZ : Blk W6 w.heap.size 47 z7D) (hB : Below w.heap.size w W6)
    (c0 c2 c3 c6 c7 c9 c11 c12 c14 c15 c16 c17 c18 c19 c20 c21 c22 c23 c24 c25 c26 c27 c28 c29 c30 c31 c32 c33 c34 c35 c36 c37 c38 c39 c40 c41 c42 c43 c44 c45 c46 c47 c48 c49 c50 c51 c52 c53 c54 c55 c56 c57 c58 c59 c60 c61 c62 c63 c64 c65 c66 c67 c68 c69 c70 c71 c72 c73 c74 c75 c76 c77 c78 c79 c80 c81 c82 c83 c84 c85 c86 c87 c88 c89 c90 c91 c92 c93 c94 c95 c96 c97 c98 c99 c100 c101 c102 c103 c104 c105 c106 c107 c108 c109 c110 c111 c112 c113 c114 c115 c116 c117 c118 c119 c120 c121 c122 c123 c124 c125 c126 c127 c128 c129 c130 c131 c132 c133 c134 c135 c136 c137 c138 c139 c140 c141 c142 c143 c144 c145 c146 c147 c148 c149 c150 c151 c152 c153 c154 c155 c156 c157 c158 c159 c160 c161 c162 c163 c164 c165 c166 c167 c168 c169 c170 c171 c172 c173 c174 c175 c176 : Value) (Ka Kb : Act → World → Prop) (hKa : ∀ a u, Code.wp Tryd.prog (inCond 33) (Exit.then Kb (bodyPost Tryd.prog Tryd.f39 (InPost (⟨3, z, x, OF.1, 5, OF.2, i⟩, true) w))) a u → Ka a u) (hKb : ∀ a u, Code.wp Tryd.prog (inRest2 33) (bodyPost Tryd.prog Tryd.f39 (InPost (⟨3, z, x, OF.1, 5, OF.2, i⟩, true) w)) a u → Kb a u) :
    Code.wp Tryd.prog (inHead 33) (Exit.then Ka (Exit.then Kb (bodyPost Tryd.prog Tryd.f39 (InPost (⟨3, z, x, OF.1, 5, OF.2, i⟩, true) w)))) ⟨List.toArray (c0 :: .bool i :: c2 :: c3 :: .pointer (some ⟨w.heap.size, 0, none⟩) :: .bool false :: c6 :: c7 :: .pointer (some ⟨w.heap.size + 1, 0, none⟩) :: c9 :: .int .u16 V :: c11 :: c12 :: .bool D :: c14 :: c15 :: c16 :: c17 :: c18 :: c19 :: c20 :: c21 :: c22 :: c23 :: c24 :: c25 :: c26 :: c27 :: c28 :: c29 :: c30 :: c31 :: c32 :: c33 :: c34 :: c35 :: c36 :: c37 :: c38 :: c39 :: c40 :: c41 :: c42 :: c43 :: c44 :: c45 :: c46 :: c47 :: c48 :: c49 :: c50 :: c51 :: c52 :: c53 :: c54 :: c55 :: c56 :: c57 :: c58 :: c59 :: c60 :: c61 :: c62 :: c63 :: c64 :: c65 :: c66 :: c67 :: c68 :: c69 :: c70 :: c71 :: c72 :: c73 :: c74 :: c75 :: c76 :: c77 :: c78 :: c79 :: c80 :: c81 :: c82 :: c83 :: c84 :: c85 :: c86 :: c87 :: c88 :: c89 :: c90 :: c91 :: c92 :: c93 :: c94 :: c95 :: c96 :: c97 :: c98 :: c99 :: c100 :: c101 :: c102 :: c103 :: c104 :: c105 :: c106 :: c107 :: c108 :: c109 :: c110 :: c111 :: c112 :: c113 :: c114 :: c115 :: c116 :: c117 :: c118 :: c119 :: c120 :: c121 :: c122 :: c123 :: c124 :: c125 :: c126 :: c127 :: c128 :: c129 :: c130 :: c131 :: c132 :: c133 :: c134 :: c135 :: c136 :: c137 :: c138 :: c139 :: c140 :: c141 :: c142 :: c143 :: c144 :: c145 :: c146 :: c147 :: c148 :: c149 :: c150 :: c151 :: c152 :: c153 :: c154 :: c155 :: c156 :: c157 :: c158 :: c159 :: c160 :: c161 :: c162 :: c163 :: c164 :: c165 :: c166 :: c167 :: c168 :: c169 :: c170 :: c171 :: c172 :: c173 :: c174 :: c175 :: c176 :: []), []⟩ W6 := by
  conv => arg 2; whnf
  conv at hKa => enter [a, u, 1, 2]; whnf
  conv at hKb => enter [a, u, 1, 2]; whnf
  have T6 := Lib.hid hT
  have Z6 := Lib.hid hZ
  have B6 := Lib.hid hB
  clear hT hZ hB
  obtain ⟨q0, q1, q2, q3, q4, q5, q6⟩ := Blk.c7 T6.out
  obtain ⟨p0, p1, p2, p3, p4, p5, p6⟩ := Blk.c7 Z6.out
  have g0 := T6.out.frozen 0
  have g1 := T6.out.frozen 1
  have g2 := T6.out.frozen 2
  have g3 := T6.out.frozen 3
  have g4 := T6.out.frozen 4
  have g5 := T6.out.frozen 5
  have f0 := Z6.out.frozen 0
  have f1 := Z6.out.frozen 1
  have f2 := Z6.out.frozen 2
  have f3 := Z6.out.frozen 3
  have f4 := Z6.out.frozen 4
  have f5 := Z6.out.frozen 5
  have f6 := Z6.out.frozen 6
  have HX := Lib.hid hX
  have HO := Lib.hid hOF
  have HK3 := Lib.hid hK3
  have HV := Lib.hid hV
  clear hX hOF hK3 hV
  go_cut [162] (fun u162 wx => u162 = .bool K3 ∧ Hid (Blk wx (w.heap.size + 1) 47 #[(.int .i64 3), (.int .i64 z), (.string X), (.int .i64 k2), (.int .i64 5), (.int .i64 0), (.bool i)]) ∧ Hid (Blk wx w.heap.size 47 z7D) ∧ Hid (Below w.heap.size w wx))
  case first =>
    cases D
    · have e0 : (0 : Int) = 0 := rfl
      obtain rfl : K3 = false := by rw [← HK3.out]; rfl
      go_wp2
      go_meet
      case rel => exact ⟨rfl, T6, Z6, B6⟩
    · cases i
      · by_cases v1 : V ≤ 15
        · have v1' : decide (V ≤ 15) = true := decide_eq_true v1
          obtain rfl : K3 = true := by rw [← HK3.out]; rw [v1']; rfl
          go_wp2
          go_meet
          case rel => exact ⟨rfl, T6, Z6, B6⟩
        · have v1' : decide (V ≤ 15) = false := decide_eq_false v1
          by_cases v2 : 65520 ≤ V
          · have v2' : decide (65520 ≤ V) = true := decide_eq_true v2
            obtain rfl : K3 = true := by rw [← HK3.out]; rw [v1', v2']; rfl
            go_wp2
            go_meet
            case rel => exact ⟨rfl, T6, Z6, B6⟩
          · have v2' : decide (65520 ≤ V) = false := decide_eq_false v2
            obtain rfl : K3 = false := by rw [← HK3.out]; rw [v1', v2']; rfl
            go_wp2
            go_meet
            case rel => exact ⟨rfl, T6, Z6, B6⟩
      · have e0 : (0 : Int) = 0 := rfl
        obtain rfl : K3 = false := by rw [← HK3.out]; rfl
        go_wp2
        go_meet
        case rel => exact ⟨rfl, T6, Z6, B6⟩
  case rest =>
  obtain ⟨rfl, T9, Z9, B9⟩ := hcut
  clear q0 q1 q2 q3 q4 q5 q6 p0 p1 p2 p3 p4 p5 p6 g0 g1 g2 g3 g4 g5 f0 f1 f2 f3 f4 f5 f6
  obtain ⟨q0, q1, q2, q3, q4, q5, q6⟩ := Blk.c7 T9.out
  obtain ⟨p0, p1, p2, p3, p4, p5, p6⟩ := Blk.c7 Z9.out
  have g0 := T9.out.frozen 0
  have g1 := T9.out.frozen 1
  have g2 := T9.out.frozen 2
  have g3 := T9.out.frozen 3
  have g4 := T9.out.frozen 4
  have g5 := T9.out.frozen 5
  have f0 := Z9.out.frozen 0
  have f1 := Z9.out.frozen 1
  have f2 := Z9.out.frozen 2
  have f3 := Z9.out.frozen 3
  have f4 := Z9.out.frozen 4
  have f5 := Z9.out.frozen 5
  have f6 := Z9.out.frozen 6
  obtain ⟨k3, hk3⟩ : ∃ q : Int, (if K3 = true then (1 : Int) else k2) = q := ⟨_, rfl⟩
  obtain ⟨o3, ho3⟩ : ∃ q : Int, (if K3 = true then V else 0) = q := ⟨_, rfl⟩
  have Hk3 := Lib.hid hk3
  have Ho3 := Lib.hid ho3
  clear hk3 ho3
  go_upto_if 162 with (fail)
  go_cut [162] (fun _ wx => Hid (Blk wx (w.heap.size + 1) 47 #[(.int .i64 3), (.int .i64 z), (.string X), (.int .i64 k3), (.int .i64 5), (.int .i64 o3), (.bool i)]) ∧ Hid (Blk wx w.heap.size 47 z7D) ∧ Hid (Below w.heap.size w wx))
  case first =>
    cases K3
    · obtain rfl : k3 = k2 := by rw [← Hk3.out]; rfl
      obtain rfl : o3 = 0 := by rw [← Ho3.out]; rfl
      go_wp2
      go_meet
      case rel => exact ⟨T9, Z9, B9⟩
    · obtain rfl : k3 = 1 := by rw [← Hk3.out]; rfl
      obtain rfl : V = o3 := by rw [← Ho3.out]; rfl
      obtain ⟨v0, v1⟩ := HV.out (by have := HK3.out; cases D with | true => rfl | false => simp at this)
      go_wp2
      go_meet
      case rel => exact ⟨Lib.hid (Blk.set_ (Blk.set_ T9.out 3 _) 5 _), Lib.hid (Blk.far (Blk.far Z9.out (by show w.heap.size ≠ w.heap.size + 1; omega) _) (by show w.heap.size ≠ w.heap.size + 1; omega) _), Lib.hid (Below.set0 (Below.set0 B9.out (by omega) _) (by omega) _)⟩
  case rest =>
  obtain ⟨TA, ZA, BA⟩ := hcut
  go_upto_region 35 with (fail)
  exact inD5 i w _ z X x OF hz012 HX.out HO.out k3 o3 TA.out ZA.out BA.out _ _ _ _ _ _ _ _ _ _ _ _ _ _ _ _ _ _ _ _ _ _ _ _ _ _ _ _ _ _ _ _ _ _ _ _ _ _ _ _ _ _ _ _ _ _ _ _ _ _ _ _ _ _ _ _ _ _ _ _ _ _ _ _ _ _ _ _ _ _ _ _ _ _ _ _ _ _ _ _ _ _ _ _ _ _ _ _ _ _ _ _ _ _ _ _ _ _ _ _ _ _ _ _ _ _ _ _ _ _ _ _ _ _ _ _ _ _ _ _ _ _ _ _ _ _ _ _ _ _ _ _ _ _ _ _ _ _ _ _ _ _ _ _ _ _ _ _ _ _ _ _ _ _ _ _ _ _ _ _ _ _ _ _ _ _ _ _ _ _ _ _ _ _ _ _ (by assumption) (by assumption)
set_option maxRecDepth 100000 in
set_option maxHeartbeats 6000000 in
theorem inB5 (i : Bool) (w W6 : World) (z V : Int) (X : ByteArray) (x : List Int) (OF : Int × Int) (hz012 : z = 0 ∨ z = 1 ∨ z = 2) (hX : X = strOfNums x) (C D K2 K3 : Bool) (hV : C = true → 0 ≤ V ∧ V < 65536) (hD : (C && (z == 0)) = D) (hK2 : ((z == 1) || (D && (decide (V ≤ 127) || decide (65408 ≤ V)))) = K2) (hK3 : (D && !i && (decide (V ≤ 15) || decide (65520 ≤ V))) = K3) (hOF : (if z = 1 then ((11, 0) : Int × Int) else (12, 0)) = OF) 
    (hT : Blk W6 (w.heap.size + 1) 47 #[(.int .i64 3), (.int .i64 z), (.string X), (.int .i64 3), (.int .i64 5), (.int .i64 0), (.bool i)]) (hZ : Blk W6 w.heap.size 47 z7D) (hB : Below w.heap.size w W6)
    (c0 c2 c3 c6 c7 c9 c11 c12 c14 c15 c16 c17 c18 c19 c20 c21 c22 c23 c24 c25 c26 c27 c28 c29 c30 c31 c32 c33 c34 c35 c36 c37 c38 c39 c40 c41 c42 c43 c44 c45 c46 c47 c48 c49 c50 c51 c52 c53 c54 c55 c56 c57 c58 c59 c60 c61 c62 c63 c64 c65 c66 c67 c68 c69 c70 c71 c72 c73 c74 c75 c76 c77 c78 c79 c80 c81 c82 c83 c84 c85 c86 c87 c88 c89 c90 c91 c92 c93 c94 c95 c96 c97 c98 c99 c100 c101 c102 c103 c104 c105 c106 c107 c108 c109 c110 c111 c112 c113 c114 c115 c116 c117 c118 c119 c120 c121 c122 c123 c124 c125 c126 c127 c128 c129 c130 c131 c132 c133 c134 c135 c136 c137 c138 c139 c140 c141 c142 c143 c144 c145 c146 c147 c148 c149 c150 c151 c152 c153 c154 c155 c156 c157 c158 c159 c160 c161 c162 c163 c164 c165 c166 c167 c168 c169 c170 c171 c172 c173 c174 c175 c176 : Value) (Ka Kb : Act → World → Prop) (hKa : ∀ a u, Code.wp Tryd.prog (inCond 31) (Exit.then Kb (bodyPost Tryd.prog Tryd.f39 (InPost (⟨3, z, x, OF.1, 5, OF.2, i⟩, true) w))) a u → Ka a u) (hKb : ∀ a u, Code.wp Tryd.prog (inRest2 31) (bodyPost Tryd.prog Tryd.f39 (InPost (⟨3, z, x, OF.1, 5, OF.2, i⟩, true) w)) a u → Kb a u) :
    Code.wp Tryd.prog (inHead 31) (Exit.then Ka (Exit.then Kb (bodyPost Tryd.prog Tryd.f39 (InPost (⟨3, z, x, OF.1, 5, OF.2, i⟩, true) w)))) ⟨List.toArray (c0 :: .bool i :: c2 :: c3 :: .pointer (some ⟨w.heap.size, 0, none⟩) :: .bool false :: c6 :: c7 :: .pointer (some ⟨w.heap.size + 1, 0, none⟩) :: c9 :: .int .u16 V :: c11 :: c12 :: .bool D :: c14 :: c15 :: c16 :: c17 :: c18 :: c19 :: c20 :: c21 :: c22 :: c23 :: c24 :: c25 :: c26 :: c27 :: c28 :: c29 :: c30 :: c31 :: c32 :: c33 :: c34 :: c35 :: c36 :: c37 :: c38 :: c39 :: c40 :: c41 :: c42 :: c43 :: c44 :: c45 :: c46 :: c47 :: c48 :: c49 :: c50 :: c51 :: c52 :: c53 :: c54 :: c55 :: c56 :: c57 :: c58 :: c59 :: c60 :: c61 :: c62 :: c63 :: c64 :: c65 :: c66 :: c67 :: c68 :: c69 :: c70 :: c71 :: c72 :: c73 :: c74 :: c75 :: c76 :: c77 :: c78 :: c79 :: c80 :: c81 :: c82 :: c83 :: c84 :: c85 :: c86 :: c87 :: c88 :: c89 :: c90 :: c91 :: c92 :: c93 :: c94 :: c95 :: c96 :: c97 :: c98 :: c99 :: c100 :: c101 :: c102 :: c103 :: c104 :: c105 :: c106 :: c107 :: c108 :: c109 :: c110 :: c111 :: c112 :: c113 :: c114 :: c115 :: c116 :: c117 :: c118 :: c119 :: c120 :: c121 :: c122 :: c123 :: c124 :: c125 :: c126 :: c127 :: c128 :: c129 :: c130 :: c131 :: c132 :: c133 :: c134 :: c135 :: c136 :: c137 :: c138 :: c139 :: c140 :: c141 :: c142 :: c143 :: c144 :: c145 :: c146 :: c147 :: c148 :: c149 :: c150 :: c151 :: c152 :: c153 :: c154 :: c155 :: c156 :: c157 :: c158 :: c159 :: c160 :: c161 :: c162 :: c163 :: c164 :: c165 :: c166 :: c167 :: c168 :: c169 :: c170 :: c171 :: c172 :: c173 :: c174 :: c175 :: c176 :: []), []⟩ W6 := by
  conv => arg 2; whnf
  conv at hKa => enter [a, u, 1, 2]; whnf
  conv at hKb => enter [a, u, 1, 2]; whnf
  have T6 := Lib.hid hT
  have Z6 := Lib.hid hZ
  have B6 := Lib.hid hB
  clear hT hZ hB
  obtain ⟨q0, q1, q2, q3, q4, q5, q6⟩ := Blk.c7 T6.out
  obtain ⟨p0, p1, p2, p3, p4, p5, p6⟩ := Blk.c7 Z6.out
  have g0 := T6.out.frozen 0
  have g1 := T6.out.frozen 1
  have g2 := T6.out.frozen 2
  have g3 := T6.out.frozen 3
  have g4 := T6.out.frozen 4
  have g5 := T6.out.frozen 5
  have f0 := Z6.out.frozen 0
  have f1 := Z6.out.frozen 1
  have f2 := Z6.out.frozen 2
  have f3 := Z6.out.frozen 3
  have f4 := Z6.out.frozen 4
  have f5 := Z6.out.frozen 5
  have f6 := Z6.out.frozen 6
  have HX := Lib.hid hX
  have HO := Lib.hid hOF
  have HD := Lib.hid hD
  have HK2 := Lib.hid hK2
  have HK3 := Lib.hid hK3
  have HV := Lib.hid hV
  clear hX hOF hD hK2 hK3 hV
  go_cut [148] (fun u148 wx => u148 = .bool K2 ∧ wx = W6)
  case first =>
    have dd := HD.out
    rcases hz012 with rfl | rfl | rfl
    · clear dd
      cases D
      · have e0 : (0 : Int) = 0 := rfl
        obtain rfl : K2 = false := by rw [← HK2.out]; simp [*]
        go_wp2
        go_meet
        case rel => exact ⟨rfl, rfl⟩
      · by_cases v1 : V ≤ 127
        · have v1' : decide (V ≤ 127) = true := decide_eq_true v1
          obtain rfl : K2 = true := by rw [← HK2.out]; simp [*]
          go_wp2
          go_meet
          case rel => exact ⟨rfl, rfl⟩
        · have v1' : decide (V ≤ 127) = false := decide_eq_false v1
          by_cases v2 : 65408 ≤ V
          · have v2' : decide (65408 ≤ V) = true := decide_eq_true v2
            obtain rfl : K2 = true := by rw [← HK2.out]; simp [*]
            go_wp2
            go_meet
            case rel => exact ⟨rfl, rfl⟩
          · have v2' : decide (65408 ≤ V) = false := decide_eq_false v2
            obtain rfl : K2 = false := by rw [← HK2.out]; simp [*]
            go_wp2
            go_meet
            case rel => exact ⟨rfl, rfl⟩
    · clear dd
      obtain rfl : K2 = true := by rw [← HK2.out]; rfl
      go_wp2
      go_meet
      case rel => exact ⟨rfl, rfl⟩
    · obtain rfl : D = false := by rw [← dd]; cases C <;> rfl
      clear dd
      obtain rfl : K2 = false := by rw [← HK2.out]; rfl
      go_wp2
      go_meet
      case rel => exact ⟨rfl, rfl⟩
  case rest =>
  obtain ⟨rfl, hwx⟩ := hcut; have hwx := hwx.symm; subst hwx
  obtain ⟨k2, hk2⟩ : ∃ q : Int, (if K2 = true then (2 : Int) else 3) = q := ⟨_, rfl⟩
  have Hk2 := Lib.hid hk2
  clear hk2
  go_upto_if 148 with (fail)
  go_cut [148] (fun _ wx => Hid (Blk wx (w.heap.size + 1) 47 #[(.int .i64 3), (.int .i64 z), (.string X), (.int .i64 k2), (.int .i64 5), (.int .i64 0), (.bool i)]) ∧ Hid (Blk wx w.heap.size 47 z7D) ∧ Hid (Below w.heap.size w wx))
  case first =>
    cases K2
    · obtain rfl : k2 = 3 := by rw [← Hk2.out]; rfl
      go_wp2
      go_meet
      case rel => exact ⟨T6, Z6, B6⟩
    · obtain rfl : k2 = 2 := by rw [← Hk2.out]; rfl
      go_wp2
      go_meet
      case rel => exact ⟨Lib.hid (Blk.set_ T6.out 3 _), Lib.hid (Blk.far Z6.out (by show w.heap.size ≠ w.heap.size + 1; omega) _), Lib.hid (Below.set0 B6.out (by omega) _)⟩
  case rest =>
  obtain ⟨T8, Z8, B8⟩ := hcut
  go_upto_region 33 with (fail)
  exact inC5 i w _ z V X x OF hz012 HX.out D K3 (fun h => HV.out (by have := HD.out; rw [h] at this; cases C with | true => rfl | false => simp at this)) k2 HK3.out HO.out T8.out Z8.out B8.out _ _ _ _ _ _ _ _ _ _ _ _ _ _ _ _ _ _ _ _ _ _ _ _ _ _ _ _ _ _ _ _ _ _ _ _ _ _ _ _ _ _ _ _ _ _ _ _ _ _ _ _ _ _ _ _ _ _ _ _ _ _ _ _ _ _ _ _ _ _ _ _ _ _ _ _ _ _ _ _ _ _ _ _ _ _ _ _ _ _ _ _ _ _ _ _ _ _ _ _ _ _ _ _ _ _ _ _ _ _ _ _ _ _ _ _ _ _ _ _ _ _ _ _ _ _ _ _ _ _ _ _ _ _ _ _ _ _ _ _ _ _ _ _ _ _ _ _ _ _ _ _ _ _ _ _ _ _ _ _ _ _ _ _ _ _ _ _ _ _ _ _ _ (by assumption) (by assumption)
set_option maxRecDepth 100000 in
set_option maxHeartbeats 6000000 in
theorem inA5 (i : Bool) (w W6 : World) (z V E : Int) (X : ByteArray) (x : List Int) (OF : Int × Int) (H G : Bool) (hz012 : z = 0 ∨ z = 1 ∨ z = 2) (hG : E = 0 → G = false) (hX : X = strOfNums x) (hV : (decide (E = 0) && !H) = true → 0 ≤ V ∧ V < 65536) (hOF : ∀ C D K2 K3 : Bool, (decide (E = 0) && !H) = C → (C && (z == 0)) = D → ((z == 1) || (D && (decide (V ≤ 127) || decide (65408 ≤ V)))) = K2 → (D && !i && (decide (V ≤ 15) || decide (65520 ≤ V))) = K3 → (if z = 1 then ((11, 0) : Int × Int) else (12, 0)) = OF)
    (hT : Blk W6 (w.heap.size + 1) 47 #[(.int .i64 3), (.int .i64 z), (.string X), (.int .i64 0), (.int .i64 5), (.int .i64 0), (.bool i)]) (hZ : Blk W6 w.heap.size 47 z7D) (hB : Below w.heap.size w W6)
    (c0 c2 c3 c6 c7 c9 c13 c14 c15 c16 c17 c18 c19 c20 c21 c22 c23 c24 c25 c26 c27 c28 c29 c30 c31 c32 c33 c34 c35 c36 c37 c38 c39 c40 c41 c42 c43 c44 c45 c46 c47 c48 c49 c50 c51 c52 c53 c54 c55 c56 c57 c58 c59 c60 c61 c62 c63 c64 c65 c66 c67 c68 c69 c70 c71 c72 c73 c74 c75 c76 c77 c78 c79 c80 c81 c82 c83 c84 c85 c86 c87 c88 c89 c90 c91 c92 c93 c94 c95 c96 c97 c98 c99 c100 c101 c102 c103 c104 c105 c106 c107 c108 c109 c110 c111 c112 c113 c114 c115 c116 c117 c118 c119 c120 c121 c122 c123 c124 c125 c126 c127 c128 c129 c130 c131 c132 c133 c134 c135 c136 c137 c138 c139 c140 c141 c142 c143 c144 c145 c146 c147 c148 c149 c150 c151 c152 c153 c154 c155 c156 c157 c158 c159 c160 c161 c162 c163 c164 c165 c166 c167 c168 c169 c170 c171 c172 c173 c174 c175 c176 : Value) (Ka : Act → World → Prop) (hKa : ∀ a u, Code.wp Tryd.prog (inRest 29) (bodyPost Tryd.prog Tryd.f39 (InPost (⟨3, z, x, OF.1, 5, OF.2, i⟩, true) w)) a u → Ka a u) :
    Code.wp Tryd.prog (inHead 29) (Exit.then Ka (bodyPost Tryd.prog Tryd.f39 (InPost (⟨3, z, x, OF.1, 5, OF.2, i⟩, true) w))) ⟨List.toArray (c0 :: .bool i :: c2 :: c3 :: .pointer (some ⟨w.heap.size, 0, none⟩) :: .bool false :: c6 :: c7 :: .pointer (some ⟨w.heap.size + 1, 0, none⟩) :: c9 :: .int .u16 V :: .int .i64 E :: .bool (H || G) :: c13 :: c14 :: c15 :: c16 :: c17 :: c18 :: c19 :: c20 :: c21 :: c22 :: c23 :: c24 :: c25 :: c26 :: c27 :: c28 :: c29 :: c30 :: c31 :: c32 :: c33 :: c34 :: c35 :: c36 :: c37 :: c38 :: c39 :: c40 :: c41 :: c42 :: c43 :: c44 :: c45 :: c46 :: c47 :: c48 :: c49 :: c50 :: c51 :: c52 :: c53 :: c54 :: c55 :: c56 :: c57 :: c58 :: c59 :: c60 :: c61 :: c62 :: c63 :: c64 :: c65 :: c66 :: c67 :: c68 :: c69 :: c70 :: c71 :: c72 :: c73 :: c74 :: c75 :: c76 :: c77 :: c78 :: c79 :: c80 :: c81 :: c82 :: c83 :: c84 :: c85 :: c86 :: c87 :: c88 :: c89 :: c90 :: c91 :: c92 :: c93 :: c94 :: c95 :: c96 :: c97 :: c98 :: c99 :: c100 :: c101 :: c102 :: c103 :: c104 :: c105 :: c106 :: c107 :: c108 :: c109 :: c110 :: c111 :: c112 :: c113 :: c114 :: c115 :: c116 :: c117 :: c118 :: c119 :: c120 :: c121 :: c122 :: c123 :: c124 :: c125 :: c126 :: c127 :: c128 :: c129 :: c130 :: c131 :: c132 :: c133 :: c134 :: c135 :: c136 :: c137 :: c138 :: c139 :: c140 :: c141 :: c142 :: c143 :: c144 :: c145 :: c146 :: c147 :: c148 :: c149 :: c150 :: c151 :: c152 :: c153 :: c154 :: c155 :: c156 :: c157 :: c158 :: c159 :: c160 :: c161 :: c162 :: c163 :: c164 :: c165 :: c166 :: c167 :: c168 :: c169 :: c170 :: c171 :: c172 :: c173 :: c174 :: c175 :: c176 :: []), []⟩ W6 := by
  conv => arg 2; whnf
  conv at hKa => enter [a, u, 1, 2]; whnf
  have T6 := Lib.hid hT
  have Z6 := Lib.hid hZ
  have B6 := Lib.hid hB
  clear hT hZ hB
  obtain ⟨q0, q1, q2, q3, q4, q5, q6⟩ := Blk.c7 T6.out
  obtain ⟨p0, p1, p2, p3, p4, p5, p6⟩ := Blk.c7 Z6.out
  have g0 := T6.out.frozen 0
  have g1 := T6.out.frozen 1
  have g2 := T6.out.frozen 2
  have g3 := T6.out.frozen 3
  have g4 := T6.out.frozen 4
  have g5 := T6.out.frozen 5
  have f0 := Z6.out.frozen 0
  have f1 := Z6.out.frozen 1
  have f2 := Z6.out.frozen 2
  have f3 := Z6.out.frozen 3
  have f4 := Z6.out.frozen 4
  have f5 := Z6.out.frozen 5
  have f6 := Z6.out.frozen 6
  have HG := Lib.hid hG
  have HX := Lib.hid hX
  have HOF := Lib.hid hOF
  have HV := Lib.hid hV
  clear hG hX hOF hV
  obtain ⟨C, hC⟩ : ∃ C, (decide (E = 0) && !H) = C := ⟨_, rfl⟩
  have HC := Lib.hid hC
  clear hC
  go_cut [13] (fun u13 wx => u13 = .bool (C && (z == 0)) ∧ wx = W6)
  case first =>
    have hC := HC.out
    clear HOF
    by_cases hE : E = 0
    · obtain rfl := HG.out hE
      subst hE
      rw [decide_eq_true rfl, Bool.true_and] at hC
      subst hC
      cases H
      all_goals
        rcases hz012 with rfl | rfl | rfl
        all_goals
          go_wp2
          go_meet
          case rel => exact ⟨rfl, rfl⟩
    · rw [decide_eq_false hE, Bool.false_and] at hC
      subst hC
      have hE' : (E == 0) = false := by simpa using hE
      go_wp2
      go_meet
      case rel => exact ⟨rfl, rfl⟩
  case rest =>
  obtain ⟨rfl, hwx⟩ := hcut; have hwx := hwx.symm; subst hwx
  obtain ⟨D, hD⟩ : ∃ D, (C && (z == 0)) = D := ⟨_, rfl⟩
  rw [hD]
  obtain ⟨K2, hK2⟩ : ∃ K, ((z == 1) || (D && (decide (V ≤ 127) || decide (65408 ≤ V)))) = K := ⟨_, rfl⟩
  obtain ⟨K3, hK3⟩ : ∃ K, (D && !i && (decide (V ≤ 15) || decide (65520 ≤ V))) = K := ⟨_, rfl⟩
  have HO := Lib.hid (HOF.out C D K2 K3 HC.out hD hK2 hK3)
  have HD := Lib.hid hD
  have HK2 := Lib.hid hK2
  have HK3 := Lib.hid hK3
  clear hD hK2 hK3 HOF HG
  go_upto_region 31 with (fail)
  have Tc_0 : Hid (Blk ((W6).setCell ⟨w.heap.size + 1, 3, none⟩ (.int .i64 3)) (w.heap.size + 1) 47 #[(.int .i64 3), (.int .i64 z), (.string X), (.int .i64 3), (.int .i64 5), (.int .i64 0), (.bool i)]) := Lib.hid (Blk.set_ T6.out 3 (.int .i64 3))
  have Zc_0 : Hid (Blk ((W6).setCell ⟨w.heap.size + 1, 3, none⟩ (.int .i64 3)) w.heap.size 47 z7D) := Lib.hid (Blk.far Z6.out (by show w.heap.size ≠ w.heap.size + 1; omega) (.int .i64 3))
  have Bc_0 : Hid (Below w.heap.size w ((W6).setCell ⟨w.heap.size + 1, 3, none⟩ (.int .i64 3))) := Lib.hid (Below.set0 B6.out (by omega) (.int .i64 3))
  generalize (W6).setCell ⟨w.heap.size + 1, 3, none⟩ (.int .i64 3) = Wc at Tc_0 Zc_0 Bc_0 ⊢
  exact inB5 i w Wc z V X x OF hz012 HX.out C D K2 K3 (fun h => HV.out (HC.out.trans h)) HD.out HK2.out HK3.out HO.out Tc_0.out Zc_0.out Bc_0.out _ _ _ _ _ _ _ _ _ _ _ _ _ _ _ _ _ _ _ _ _ _ _ _ _ _ _ _ _ _ _ _ _ _ _ _ _ _ _ _ _ _ _ _ _ _ _ _ _ _ _ _ _ _ _ _ _ _ _ _ _ _ _ _ _ _ _ _ _ _ _ _ _ _ _ _ _ _ _ _ _ _ _ _ _ _ _ _ _ _ _ _ _ _ _ _ _ _ _ _ _ _ _ _ _ _ _ _ _ _ _ _ _ _ _ _ _ _ _ _ _ _ _ _ _ _ _ _ _ _ _ _ _ _ _ _ _ _ _ _ _ _ _ _ _ _ _ _ _ _ _ _ _ _ _ _ _ _ _ _ _ _ _ _ _ _ _ _ _ _ _ _ _ (by assumption) (by assumption)
end Go.Proofs.YtmdpgekbiohfbabDoor
