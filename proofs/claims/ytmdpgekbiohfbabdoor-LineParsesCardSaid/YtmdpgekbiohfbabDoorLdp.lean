/- The document's operands (spinetref45): the contract of Parse. -/
import Derived.Test.YtmdpgekbiohfbabDoorLdj
import Derived.Test.YtmdpgekbiohfbabDoorLip
namespace Go.Proofs.YtmdpgekbiohfbabDoor
open Go.ChangeShapes Go.WideShapes Go.ChangeAt Go.RowKit
set_option linter.unusedVariables false

theorem strOf_extD (s : ByteArray) (i j : Nat) : s.extract i j = strOfNums (((nums s).drop i).take (j - i)) := by
  rw [← List.drop_take]
  conv => lhs; rw [← nums_str s]
  apply ByteArray.ext
  unfold strOfNums
  simp [ByteArray.data_extract, List.drop_take]
theorem preL_one (l : List Int) (c : Int) (h : 0 < l.length) : preL [c] l = decide (iat l 0 = c) := by
  cases l with
  | nil => exact absurd h (by simp)
  | cons x t =>
    unfold preL
    simp [iat]
theorem sufL_one (l : List Int) (c : Int) (h : 2 ≤ l.length) : sufL [c] (l.drop 1) = decide (iat l (l.length - 1) = c) := by
  unfold sufL
  rw [List.length_drop, List.drop_drop]
  have e : l.drop (1 + (l.length - 1 - [c].length)) = [iat l (l.length - 1)] := by
    rw [show 1 + (l.length - 1 - [c].length) = l.length - 1 by simp; omega]
    rw [List.drop_eq_getElem_cons (by omega), iat_eq _ _ (by omega)]
    rw [List.drop_of_length_le (by omega)]
  rw [e]
  have : decide ([c].length ≤ l.length - 1) = true := by simp; omega
  rw [this, Bool.true_and]
  simp
theorem sufL_short (l : List Int) (c : Int) (h : l.length < 2) : sufL [c] (l.drop 1) = false := by
  cases hh : sufL [c] (l.drop 1)
  · rfl
  · have := sufL_len hh
    rw [List.length_drop] at this
    simp at this
    omega
/-- What the document answers of an operand. -/
def PaPost (P : AgV × Int) (w : World) (e : Ending) (w' : World) : Prop :=
  ∃ (f z : Int) (X : ByteArray) (k r o : Int) (d : Bool), e = .returned (.tuple #[.agg #[.int .i64 f, .int .i64 z, .string X, .int .i64 k, .int .i64 r, .int .i64 o, .bool d], .bool (decide (P.2 = 0))]) ∧
    (P.2 = 0 → f = P.1.f ∧ z = P.1.s ∧ X = strOfNums P.1.x ∧ k = P.1.k ∧ r = P.1.r ∧ o = P.1.o ∧ d = P.1.i) ∧ Below w.heap.size w w'
theorem resPa (tmps : Array Value) (W : World) (g : Nat) (cs : Array Value) (h : Blk W g 47 cs) (hc : cs.size = 7) (h2 : tmps.getD 2 undef = .pointer (some ⟨g, 0, none⟩)) (c : Bool) (h3 : tmps.getD 3 undef = .bool c) :
    (results Tryd.f18 tmps).run Tryd.prog W = .ok (.tuple #[.agg cs, .bool c]) W := by
  have hi : (Tryd.prog.info? 47).map (·.size) = some cs.size := by rw [hc]; kernel_rfl
  have hld := run_loadVar_row (P := Tryd.prog) W g 47 47 cs (0, 0) _ h Tryd.underlying47 rfl hi
  have h2' : tmps[2]?.getD undef = .pointer (some ⟨g, 0, none⟩) := by simpa using h2
  have h3' : tmps[3]?.getD undef = .bool c := by simpa using h3
  simp [results, Tryd.results18, h2', h3', asAddr, hld]
set_option maxRecDepth 100000 in
set_option maxHeartbeats 8000000 in
theorem rfParse (s : ByteArray) (w : World) (hs : s.size ≤ 1000000) :
    Calls Tryd.prog 18 #[.string s] w (PaPost (parL s) w) := by
  have Z0 := Lib.hid (Blk.new w 47 z7D (0, 0))
  have B0 := Lib.hid (Below.alloc0 (Below.refl w.heap.size w) (.cells z7D 47))
  have hb := get_nums s
  have HL := nums_len s
  obtain ⟨P, hP⟩ : ∃ R, parL s = R := ⟨_, rfl⟩
  have hE := hP
  rw [hP]
  unfold parL at hE
  clear hP
  by_cases hl0 : s.size = 0
  · rw [if_pos hl0] at hE
    subst hE
    obtain rfl : s = ByteArray.empty := ByteArray.size_eq_zero_iff.1 hl0
    clear hl0 hb HL
    go_enter Tryd.func18, Tryd.ntmps18
    go_wp2
    refine bodyPost_ret (v := .tuple #[.agg z7D, .bool true]) (resPa _ _ w.heap.size _ Z0.out rfl rfl true rfl) rfl ?_
    exact ⟨0, 0, ⟨#[]⟩, 0, 0, 0, false, rfl, fun _ => ⟨rfl, rfl, rfl, rfl, rfl, rfl, rfl⟩, B0.out⟩
  rw [if_neg hl0] at hE
  have hne := empty_beqS s (by omega)
  have hs0 : (0 : Int) < (s.size : Int) := by omega
  have hx0 : ∀ h : 0 < s.size, ((s[0]'h).toNat : Int) = iat (nums s) 0 := fun h => hb 0 h
  obtain ⟨r0, r1⟩ := iat_nums_range s 0
  rw [preL_one _ _ (by omega), preL_one _ _ (by omega)] at hE
  obtain ⟨N, hN⟩ : ∃ N, strOfNums ((nums s).drop 1) = N := ⟨_, rfl⟩
  have e2 := ext_dropP s 1
  by_cases h35 : iat (nums s) 0 = 35
  · rw [decide_eq_true h35, if_pos rfl] at hE
    subst hE
    rw [h35] at hx0
    have E2 := Lib.hid e2
    clear hb HL h35 r0 r1 hN e2
    go_enter Tryd.func18, Tryd.ntmps18
    go_wp2
    refine bodyPost_ret (v := .tuple #[.agg #[.int .i64 1, .int .i64 0, .string (s.extract 1 s.size), .int .i64 0, .int .i64 0, .int .i64 0, .bool false], .bool true]) (resPa _ _ w.heap.size _ (Blk.new _ _ _ _) rfl rfl true rfl) rfl ?_
    exact ⟨1, 0, s.extract 1 s.size, 0, 0, 0, false, rfl, fun _ => ⟨rfl, rfl, E2.out, rfl, rfl, rfl, rfl⟩, Below.alloc0 (Below.refl _ _) _⟩
  rw [decide_eq_false h35, if_neg (by decide)] at hE
  by_cases h91 : iat (nums s) 0 = 91
  rotate_left 1
  · rw [decide_eq_false h91, if_neg (by decide)] at hE
    have CM := Lib.hid (fun u => rfInside s false u hs)
    generalize memL s false = M at CM hE
    have HE := Lib.hid hE
    generalize iat (nums s) 0 = x0 at *
    clear hb HL hN e2 hE
    go_enter Tryd.func18, Tryd.ntmps18
    go_wp2_with fail
    refine (CM.out _).mono ?_
    rintro e w2 ⟨f, z, X, k, r, o, d, rfl, hm, hb⟩
    have Z2 := Lib.hid (Blk.below Z0.out hb Z0.out.lt)
    have B2 := Lib.hid (Below.trans0 B0.out hb)
    have HMM := Lib.hid hm
    clear hb hm CM
    obtain ⟨q0, q1, q2, q3, q4, q5, q6⟩ := Blk.c7 Z2.out
    have f0 := Z2.out.frozen 0
    have f1 := Z2.out.frozen 1
    have f2 := Z2.out.frozen 2
    have f3 := Z2.out.frozen 3
    have f4 := Z2.out.frozen 4
    have f5 := Z2.out.frozen 5
    have f6 := Z2.out.frozen 6
    go_wp2
    have hE := HE.out
    unfold parR at hE
    obtain ⟨M1, M2⟩ := M
    cases M2
    · rw [if_neg Bool.false_ne_true] at hE
      subst hE
      refine bodyPost_ret (v := .tuple #[.agg #[.int .i64 f, .int .i64 z, .string X, .int .i64 k, .int .i64 r, .int .i64 o, .bool d], .bool false]) (resPa _ _ w.heap.size _ (Blk.set7 Z2.out) rfl rfl false rfl) rfl ?_
      exact ⟨f, z, X, k, r, o, d, rfl, fun h => absurd h (by decide), Below.set7 B2.out (Nat.le_refl _) _ _ _ _ _ _ _⟩
    · rw [if_pos rfl] at hE
      subst hE
      refine bodyPost_ret (v := .tuple #[.agg #[.int .i64 f, .int .i64 z, .string X, .int .i64 k, .int .i64 r, .int .i64 o, .bool d], .bool true]) (resPa _ _ w.heap.size _ (Blk.set7 Z2.out) rfl rfl true rfl) rfl ?_
      exact ⟨f, z, X, k, r, o, d, rfl, fun _ => HMM.out rfl, Below.set7 B2.out (Nat.le_refl _) _ _ _ _ _ _ _⟩
  rw [decide_eq_true h91, if_pos rfl] at hE
  rw [h91] at hx0
  by_cases h2 : s.size < 2
  · rw [sufL_short _ _ (by omega), if_neg (by decide)] at hE
    subst hE
    have h2' : (s.size : Int) < 2 := by omega
    clear hb HL hN e2 h91 h35 r0 r1
    go_enter Tryd.func18, Tryd.ntmps18
    go_wp2
    refine bodyPost_ret (v := .tuple #[.agg z7D, .bool false]) (resPa _ _ w.heap.size _ Z0.out rfl rfl false rfl) rfl ?_
    exact ⟨0, 0, ⟨#[]⟩, 0, 0, 0, false, rfl, fun h => absurd h (by decide), B0.out⟩
  have h2' : ¬ (s.size : Int) < 2 := by omega
  have h2d : decide ((s.size : Int) < 2) = false := decide_eq_false h2'
  rw [sufL_one _ _ (by omega)] at hE
  have hxl : ∀ h : s.size - 1 < s.size, ((s[s.size - 1]'h).toNat : Int) = iat (nums s) (s.size - 1) := fun h => hb _ h
  have en : ((s.size : Int) - 1).toNat = s.size - 1 := by omega
  have l0 : (0 : Int) ≤ (s.size : Int) - 1 := by omega
  have l1 : (s.size : Int) - 1 < (s.size : Int) := by omega
  obtain ⟨t0, t1⟩ := iat_nums_range s (s.size - 1)
  rw [HL] at hE
  by_cases h93 : iat (nums s) (s.size - 1) = 93
  rotate_left 1
  · rw [decide_eq_false h93, if_neg (by decide)] at hE
    subst hE
    generalize iat (nums s) (s.size - 1) = xl at *
    clear hb HL hN e2 h91 h35 r0 r1
    go_enter Tryd.func18, Tryd.ntmps18
    go_wp2
    refine bodyPost_ret (v := .tuple #[.agg z7D, .bool false]) (resPa _ _ w.heap.size _ Z0.out rfl rfl false rfl) rfl ?_
    exact ⟨0, 0, ⟨#[]⟩, 0, 0, 0, false, rfl, fun h => absurd h (by decide), B0.out⟩
  rw [decide_eq_true h93, if_pos rfl] at hE
  rw [h93] at hxl
  have e3 := strOf_extD s 1 (s.size - 1)
  obtain ⟨S2, hS2⟩ : ∃ N, strOfNums (((nums s).drop 1).take (s.size - 1 - 1)) = N := ⟨_, rfl⟩
  rw [hS2] at e3 hE
  have hss : S2.size ≤ 1000000 := by rw [← hS2, strOfNums_size, List.length_take, List.length_drop]; omega
  have hsl : ∀ u : World, (Instr.slice 9 (.string s) (some (.int .i64 1)) (some (.int .i64 ((s.size : Int) - 1))) none).run Tryd.prog u = .ok (.string S2) u := fun u => by
    rw [run_slice_string u 9 s .i64 .i64 _ _ Tryd.underlying9 (by omega) (by omega) (by omega), show (1 : Int).toNat = 1 from rfl, en, e3]
  have CM := Lib.hid (fun u => rfInside S2 true u hss)
  generalize memL S2 true = M at CM hE
  have HE := Lib.hid hE
  clear hb HL hN e2 h91 h35 r0 r1 hE h93 t0 t1 e3 hS2 hss
  go_enter Tryd.func18, Tryd.ntmps18
  go_wp2_with fail
  refine (CM.out _).mono ?_
  rintro e w2 ⟨f, z, X, k, r, o, d, rfl, hm, hb⟩
  have Z2 := Lib.hid (Blk.alloc (Blk.below Z0.out hb Z0.out.lt) (.cells #[.int .i64 f, .int .i64 z, .string X, .int .i64 k, .int .i64 r, .int .i64 o, .bool d] 47))
  have B2 := Lib.hid (Below.alloc0 (Below.trans0 B0.out hb) (.cells #[.int .i64 f, .int .i64 z, .string X, .int .i64 k, .int .i64 r, .int .i64 o, .bool d] 47))
  have HMM := Lib.hid hm
  clear hb hm CM hsl hx0 hxl
  obtain ⟨q0, q1, q2, q3, q4, q5, q6⟩ := Blk.c7 Z2.out
  have f0 := Z2.out.frozen 0
  have f1 := Z2.out.frozen 1
  have f2 := Z2.out.frozen 2
  have f3 := Z2.out.frozen 3
  have f4 := Z2.out.frozen 4
  have f5 := Z2.out.frozen 5
  have f6 := Z2.out.frozen 6
  have hE := HE.out
  unfold parR at hE
  obtain ⟨M1, M2⟩ := M
  cases M2
  · rw [if_neg Bool.false_ne_true] at hE
    subst hE
    go_wp2
    refine bodyPost_ret (v := .tuple #[.agg z7D, .bool false]) (resPa _ _ w.heap.size _ (Blk.set7 Z2.out) rfl rfl false rfl) rfl ?_
    exact ⟨0, 0, ⟨#[]⟩, 0, 0, 0, false, rfl, fun h => absurd h (by decide), Below.set7 B2.out (Nat.le_refl _) _ _ _ _ _ _ _⟩
  · rw [if_pos rfl] at hE
    subst hE
    go_wp2
    refine bodyPost_ret (v := .tuple #[.agg #[.int .i64 f, .int .i64 z, .string X, .int .i64 k, .int .i64 r, .int .i64 o, .bool d], .bool true]) (resPa _ _ w.heap.size _ (Blk.set7 Z2.out) rfl rfl true rfl) rfl ?_
    exact ⟨f, z, X, k, r, o, d, rfl, fun _ => HMM.out (by trivial), Below.set7 B2.out (Nat.le_refl _) _ _ _ _ _ _ _⟩
end Go.Proofs.YtmdpgekbiohfbabDoor
