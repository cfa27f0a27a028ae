/- Contracts of package line: indexed. -/
import Derived.Test.YtmdpgekbiohfbabDoorLio
import Derived.Test.YtmdpgekbiohfbabDoorLstF
import Derived.Deep.CutBlock
namespace Go.Proofs.YtmdpgekbiohfbabDoor
open Go.ChangeShapes Go.WideShapes Go.ChangeAt Go.RowKit
set_option linter.unusedVariables false

/-- An operand by what stands ahead of its last comma, and behind that. -/
def idxL (left right : List Int) (i : Bool) : AgV × Bool :=
  if (regOf (strOfNums (stepL right).1)).2 = false ∨ ptB (regOf (strOfNums (stepL right).1)).1 (stepL right).2 = false then (agZ, false)
  else if left = [] then (⟨3, 0, [], (stepL right).2, (regOf (strOfNums (stepL right).1)).1, 0, i⟩, decide ((regOf (strOfNums (stepL right).1)).1 ≠ 5))
  else if (stepL right).2 ≠ 0 then (agZ, false)
  else if 0 < accL left ∧ (regOf (strOfNums (stepL right).1)).1 ≠ 5 then (⟨3, 0, [], accL left, (regOf (strOfNums (stepL right).1)).1, 0, i⟩, true)
  else (⟨3, (sizL left).1, (sizL left).2, (offL (sizL left).1 (regOf (strOfNums (stepL right).1)).1 i (sizL left).2).1, (regOf (strOfNums (stepL right).1)).1, (offL (sizL left).1 (regOf (strOfNums (stepL right).1)).1 i (sizL left).2).2, i⟩, true)
/-- .. by a name's register and kind. -/
def idxR (left : List Int) (r : Int) (ok : Bool) (k : Int) (i : Bool) : AgV × Bool :=
  if ok = false ∨ ptB r k = false then (agZ, false)
  else if left = [] then (⟨3, 0, [], k, r, 0, i⟩, decide (r ≠ 5))
  else if k ≠ 0 then (agZ, false)
  else if 0 < accL left ∧ r ≠ 5 then (⟨3, 0, [], accL left, r, 0, i⟩, true)
  else (⟨3, (sizL left).1, (sizL left).2, (offL (sizL left).1 r i (sizL left).2).1, r, (offL (sizL left).1 r i (sizL left).2).2, i⟩, true)
theorem idxL_eq (left right : List Int) (i : Bool) : idxL left right i = idxR left (regOf (strOfNums (stepL right).1)).1 (regOf (strOfNums (stepL right).1)).2 (stepL right).2 i := rfl
theorem agZ_c : agZ.c = #[.int .i64 0, .int .i64 0, .string ⟨#[]⟩, .int .i64 0, .int .i64 0, .int .u16 0, .bool false] := rfl
theorem sizL_byt {l : List Int} (h : BytL l) : BytL (sizL l).2 := by
  unfold sizL
  split
  · exact h.drop 1
  split
  · exact h.drop 1
  · exact h
theorem sizL_len (l : List Int) : (sizL l).2.length ≤ l.length := by
  unfold sizL
  split
  · simp
  split
  · simp
  · exact Nat.le_refl _
theorem Blk.set7 {w : World} {g : Nat} {t : TypeId} {v0 v1 v2 v3 v4 v5 v6 x0 x1 x2 x3 x4 x5 x6 : Value} (h : Blk w g t #[v0, v1, v2, v3, v4, v5, v6]) :
    Blk (((((((w.setCell ⟨g, 0, none⟩ x0).setCell ⟨g, 1, none⟩ x1).setCell ⟨g, 2, none⟩ x2).setCell ⟨g, 3, none⟩ x3).setCell ⟨g, 4, none⟩ x4).setCell ⟨g, 5, none⟩ x5).setCell ⟨g, 6, none⟩ x6) g t #[x0, x1, x2, x3, x4, x5, x6] := by
  have h0 := Blk.set_ h 0 x0
  simp only [List.setIfInBounds_toArray, List.set_cons_zero] at h0
  have h1 := Blk.set_ h0 1 x1
  simp only [List.setIfInBounds_toArray, List.set_cons_zero, List.set_cons_succ] at h1
  have h2 := Blk.set_ h1 2 x2
  simp only [List.setIfInBounds_toArray, List.set_cons_zero, List.set_cons_succ] at h2
  have h3 := Blk.set_ h2 3 x3
  simp only [List.setIfInBounds_toArray, List.set_cons_zero, List.set_cons_succ] at h3
  have h4 := Blk.set_ h3 4 x4
  simp only [List.setIfInBounds_toArray, List.set_cons_zero, List.set_cons_succ] at h4
  have h5 := Blk.set_ h4 5 x5
  simp only [List.setIfInBounds_toArray, List.set_cons_zero, List.set_cons_succ] at h5
  have h6 := Blk.set_ h5 6 x6
  simp only [List.setIfInBounds_toArray, List.set_cons_zero, List.set_cons_succ] at h6
  exact h6
theorem Below.set7 {B g : Nat} {w0 w : World} (h : Below B w0 w) (hB : B ≤ g) (x0 x1 x2 x3 x4 x5 x6 : Value) :
    Below B w0 (((((((w.setCell ⟨g, 0, none⟩ x0).setCell ⟨g, 1, none⟩ x1).setCell ⟨g, 2, none⟩ x2).setCell ⟨g, 3, none⟩ x3).setCell ⟨g, 4, none⟩ x4).setCell ⟨g, 5, none⟩ x5).setCell ⟨g, 6, none⟩ x6) :=
  Below.set0 (Below.set0 (Below.set0 (Below.set0 (Below.set0 (Below.set0 (Below.set0 h hB x0) hB x1) hB x2) hB x3) hB x4) hB x5) hB x6
theorem resIdx (tmps : Array Value) (W : World) (g : Nat) (cs : Array Value) (h : Blk W g 42 cs) (hc : cs.size = 7) (h2 : tmps.getD 6 undef = .pointer (some ⟨g, 0, none⟩)) (c : Bool) (h3 : tmps.getD 7 undef = .bool c) :
    (results Tryd.f56 tmps).run Tryd.prog W = .ok (.tuple #[.agg cs, .bool c]) W := by
  have hi : (Tryd.prog.info? 42).map (·.size) = some cs.size := by rw [hc]; kernel_rfl
  have hld := run_loadVar_row (P := Tryd.prog) W g 42 42 cs (0, 0) _ h Tryd.underlying42 rfl hi
  have h2' : tmps[6]?.getD undef = .pointer (some ⟨g, 0, none⟩) := by simpa using h2
  have h3' : tmps[7]?.getD undef = .bool c := by simpa using h3
  simp [results, Tryd.results56, h2', h3', asAddr, hld]
set_option maxRecDepth 100000 in
set_option maxHeartbeats 4000000 in
theorem liIndexed_any (L Rt : ByteArray) (i : Bool) (w : World) (hT : OregAt w) (hL : L.size ≤ 1099511627776) (hR : Rt.size ≤ 1099511627776) :
    Calls Tryd.prog 56 #[.string L, .string Rt, .bool i] w fun e w' => e = .returned (.tuple #[.agg (idxL (nums L) (nums Rt) i).1.c, .bool (idxL (nums L) (nums Rt) i).2]) ∧ Below w.heap.size w w' := by
  rw [idxL_eq]
  have CS := Lib.hid (fun u => liStepped_any Rt u hR)
  obtain ⟨NM, hNM⟩ : ∃ N, strOfNums (stepL (nums Rt)).1 = N := ⟨_, rfl⟩
  obtain ⟨k, hk⟩ : ∃ k, (stepL (nums Rt)).2 = k := ⟨_, rfl⟩
  rw [hNM, hk] at CS
  rw [hNM, hk]
  have CF := Lib.hid (fun u (h : Below w.heap.size w u) => findReg_any NM u (hT.below h))
  obtain ⟨r, hr⟩ : ∃ r, (regOf NM).1 = r := ⟨_, rfl⟩
  obtain ⟨ok, hok⟩ : ∃ o, (regOf NM).2 = o := ⟨_, rfl⟩
  rw [hr, hok] at CF
  rw [hr, hok]
  have CP := Lib.hid (fun u => liPoints_any r k u)
  obtain ⟨R, hRR⟩ : ∃ R, idxR (nums L) r ok k i = R := ⟨_, rfl⟩
  have HE := Lib.hid hRR
  rw [hRR]
  unfold idxR at HE
  have Z0 := Lib.hid (Blk.new w 42 #[.int .i64 0, .int .i64 0, .string ⟨#[]⟩, .int .i64 0, .int .i64 0, .int .u16 0, .bool false] (0, 0))
  have B0 := Lib.hid (Below.alloc0 (Below.refl w.heap.size w) (.cells #[.int .i64 0, .int .i64 0, .string ⟨#[]⟩, .int .i64 0, .int .i64 0, .int .u16 0, .bool false] 42))
  clear hNM hk hr hok hRR
  by_cases hbad : ok = false ∨ ptB r k = false
  · have hE := HE.out
    rw [if_pos hbad] at hE
    subst hE
    cases ok
    · clear hbad HE CP
      go_enter Tryd.func56, Tryd.ntmps56
      go_wp2_with (first
        | (go_at_call 84; refine (CS.out _).mono ?_; rintro e w' ⟨rfl, rfl⟩)
        | (go_at_call 85; refine (CF.out _ B0.out).mono ?_; rintro e w' ⟨rfl, rfl⟩))
      exact bodyPost_ret (v := .tuple #[.agg agZ.c, .bool false]) (resIdx _ _ w.heap.size _ Z0.out rfl rfl false rfl) rfl ⟨rfl, B0.out⟩
    · have hp : ptB r k = false := by rcases hbad with h | h; cases h; exact h
      rw [hp] at CP
      clear hbad HE hp
      go_enter Tryd.func56, Tryd.ntmps56
      go_wp2_with (first
        | (go_at_call 84; refine (CS.out _).mono ?_; rintro e w' ⟨rfl, rfl⟩)
        | (go_at_call 85; refine (CF.out _ B0.out).mono ?_; rintro e w' ⟨rfl, rfl⟩)
        | (go_at_call 86; refine (CP.out _).mono ?_; rintro e w' ⟨rfl, rfl⟩))
      exact bodyPost_ret (v := .tuple #[.agg agZ.c, .bool false]) (resIdx _ _ w.heap.size _ Z0.out rfl rfl false rfl) rfl ⟨rfl, B0.out⟩
  have hE := HE.out
  rw [if_neg hbad] at hE
  have HE1 := Lib.hid hE
  obtain rfl : ok = true := by cases ok; exact absurd (.inl rfl) hbad; rfl
  have hp : ptB r k = true := by cases h : ptB r k; exact absurd (.inr h) hbad; rfl
  rw [hp] at CP
  clear hbad HE hp hE
  have HLE := Lib.hid (nums_len L)
  have Z1 := Lib.hid (Blk.alloc Z0.out (.cells #[.int .i64 3, .int .i64 0, .string ⟨#[]⟩, .int .i64 k, .int .i64 r, .int .u16 0, .bool i] 42))
  have B1 := Lib.hid (Below.alloc0 B0.out (.cells #[.int .i64 3, .int .i64 0, .string ⟨#[]⟩, .int .i64 k, .int .i64 r, .int .u16 0, .bool i] 42))
  have z1 := Z1.out.c7
  obtain ⟨c0, c1, c2, c3, c4, c5, c6⟩ := z1
  have f0 := Z1.out.frozen 0
  have f1 := Z1.out.frozen 1
  have f2 := Z1.out.frozen 2
  have f3 := Z1.out.frozen 3
  have f4 := Z1.out.frozen 4
  have f5 := Z1.out.frozen 5
  have f6 := Z1.out.frozen 6
  by_cases hl0 : L.size = 0
  · have hE := HE1.out
    rw [if_pos (List.eq_nil_of_length_eq_zero (by rw [HLE.out]; exact hl0))] at hE
    subst hE
    obtain rfl : L = ByteArray.empty := ByteArray.size_eq_zero_iff.1 hl0
    clear HE1 hl0
    by_cases h5 : r = 5
    · subst h5
      go_enter Tryd.func56, Tryd.ntmps56
      go_wp2_with (first
        | (go_at_call 84; refine (CS.out _).mono ?_; rintro e w' ⟨rfl, rfl⟩)
        | (go_at_call 85; refine (CF.out _ B0.out).mono ?_; rintro e w' ⟨rfl, rfl⟩)
        | (go_at_call 86; refine (CP.out _).mono ?_; rintro e w' ⟨rfl, rfl⟩))
      exact bodyPost_ret (v := .tuple #[.agg #[.int .i64 3, .int .i64 0, .string ⟨#[]⟩, .int .i64 k, .int .i64 5, .int .u16 0, .bool i], .bool false]) (resIdx _ _ w.heap.size _ (Blk.alloc (Blk.new _ _ _ _) _) rfl rfl false rfl) rfl ⟨rfl, Below.alloc0 (Below.alloc0 (Below.refl _ _) _) _⟩
    · have b5 : (r != 5) = true := by simpa using h5
      have HD : Hid (decide (r ≠ 5) = true) := Lib.hid (by simpa using h5)
      rw [HD.out]
      clear h5
      go_enter Tryd.func56, Tryd.ntmps56
      go_wp2_with (first
        | (go_at_call 84; refine (CS.out _).mono ?_; rintro e w' ⟨rfl, rfl⟩)
        | (go_at_call 85; refine (CF.out _ B0.out).mono ?_; rintro e w' ⟨rfl, rfl⟩)
        | (go_at_call 86; refine (CP.out _).mono ?_; rintro e w' ⟨rfl, rfl⟩))
      exact bodyPost_ret (v := .tuple #[.agg #[.int .i64 3, .int .i64 0, .string ⟨#[]⟩, .int .i64 k, .int .i64 r, .int .u16 0, .bool i], .bool true]) (resIdx _ _ w.heap.size _ (Blk.alloc (Blk.new _ _ _ _) _) rfl rfl true rfl) rfl ⟨rfl, Below.alloc0 (Below.alloc0 (Below.refl _ _) _) _⟩
  have hne := empty_beqS L (by omega)
  have hE := HE1.out
  rw [if_neg (fun h => hl0 (by have := congrArg List.length h; rw [HLE.out] at this; exact this))] at hE
  have HE2 := Lib.hid hE
  clear hE HE1
  by_cases hk : k = 0
  rotate_left 1
  · have hE := HE2.out
    rw [if_pos hk] at hE
    subst hE
    have bk : (k != 0) = true := by simpa using hk
    clear hk HE2 hl0
    go_enter Tryd.func56, Tryd.ntmps56
    go_wp2_with (first
        | (go_at_call 84; refine (CS.out _).mono ?_; rintro e w' ⟨rfl, rfl⟩)
        | (go_at_call 85; refine (CF.out _ B0.out).mono ?_; rintro e w' ⟨rfl, rfl⟩)
        | (go_at_call 86; refine (CP.out _).mono ?_; rintro e w' ⟨rfl, rfl⟩))
    exact bodyPost_ret (v := .tuple #[.agg #[.int .i64 0, .int .i64 0, .string ⟨#[]⟩, .int .i64 0, .int .i64 0, .int .u16 0, .bool false], .bool false]) (resIdx _ _ w.heap.size _ (Blk.alloc (Blk.new _ _ _ _) _) rfl rfl false rfl) rfl ⟨rfl, Below.alloc0 (Below.alloc0 (Below.refl _ _) _) _⟩
  have hE := HE2.out
  rw [if_neg (by intro h; exact h hk)] at hE
  have HE3 := Lib.hid hE
  subst hk
  clear hE HE2 hl0
  have CA := Lib.hid (fun u => liAcc_any L u)
  obtain ⟨ac, hac⟩ : ∃ ac, accL (nums L) = ac := ⟨_, rfl⟩
  rw [hac] at CA HE3
  clear hac
  by_cases hacc : 0 < ac ∧ r ≠ 5
  · obtain ⟨ha, h5⟩ := hacc
    have hE := HE3.out
    rw [if_pos ⟨ha, h5⟩] at hE
    subst hE
    have HA : Hid (decide (0 < ac) = true) := Lib.hid (decide_eq_true ha)
    rw [HA.out] at CA
    have b5 : (r != 5) = true := by simpa using h5
    clear ha h5 HE3
    have Z2 := Lib.hid (Blk.alloc Z0.out (.cells #[.int .i64 3, .int .i64 0, .string ⟨#[]⟩, .int .i64 ac, .int .i64 r, .int .u16 0, .bool i] 42))
    have B2 := Lib.hid (Below.alloc0 B0.out (.cells #[.int .i64 3, .int .i64 0, .string ⟨#[]⟩, .int .i64 ac, .int .i64 r, .int .u16 0, .bool i] 42))
    clear c0 c1 c2 c3 c4 c5 c6 f0 f1 f2 f3 f4 f5 f6
    obtain ⟨c0, c1, c2, c3, c4, c5, c6⟩ := Z2.out.c7
    have f0 := Z2.out.frozen 0
    have f1 := Z2.out.frozen 1
    have f2 := Z2.out.frozen 2
    have f3 := Z2.out.frozen 3
    have f4 := Z2.out.frozen 4
    have f5 := Z2.out.frozen 5
    have f6 := Z2.out.frozen 6
    go_enter Tryd.func56, Tryd.ntmps56
    go_wp2_with (first
        | (go_at_call 84; refine (CS.out _).mono ?_; rintro e w' ⟨rfl, rfl⟩)
        | (go_at_call 85; refine (CF.out _ B0.out).mono ?_; rintro e w' ⟨rfl, rfl⟩)
        | (go_at_call 86; refine (CP.out _).mono ?_; rintro e w' ⟨rfl, rfl⟩)
        | (go_at_call 87; refine (CA.out _).mono ?_; rintro e w' ⟨rfl, rfl⟩))
    exact bodyPost_ret (v := .tuple #[.agg #[.int .i64 3, .int .i64 0, .string ⟨#[]⟩, .int .i64 ac, .int .i64 r, .int .u16 0, .bool i], .bool true]) (resIdx _ _ w.heap.size _ (Blk.alloc (Blk.new _ _ _ _) _) rfl rfl true rfl) rfl ⟨rfl, Below.alloc0 (Below.alloc0 (Below.refl _ _) _) _⟩
  have hE := HE3.out
  rw [if_neg hacc] at hE
  have CZ := Lib.hid (fun u => liSized_any L u hL)
  have hsb := sizL_byt (BytL.nums L)
  have hsl := sizL_len (nums L)
  obtain ⟨sz, hsz⟩ : ∃ s, (sizL (nums L)).1 = s := ⟨_, rfl⟩
  obtain ⟨sx, hsx⟩ : ∃ x, (sizL (nums L)).2 = x := ⟨_, rfl⟩
  rw [hsz, hsx] at CZ hE
  rw [hsx] at hsb hsl
  have HX : Hid (nums (strOfNums sx) = sx) := Lib.hid (str_nums _ hsb)
  obtain ⟨X, hX⟩ : ∃ X, strOfNums sx = X := ⟨_, rfl⟩
  have HXE := Lib.hid hX
  rw [hX] at CZ HX
  have hXs : X.size ≤ 1099511627776 := by
    rw [← hX, strOfNums_size]
    rw [nums_len] at hsl; omega
  have CO := Lib.hid (fun u => liOffset_any 3 sz 0 r 0 i X hXs u)
  rw [HX.out] at CO
  obtain ⟨ok, hok⟩ : ∃ k, (offL sz r i sx).1 = k := ⟨_, rfl⟩
  obtain ⟨oo, hoo⟩ : ∃ k, (offL sz r i sx).2 = k := ⟨_, rfl⟩
  rw [hok, hoo] at CO hE
  subst hE
  clear hsz hsx hsb hsl hX hok hoo HE3
  have hA : (0 < ac ∧ r = 5) ∨ ¬ 0 < ac := by
    by_cases h : 0 < ac
    · left; exact ⟨h, by by_cases h5 : r = 5; exact h5; exact absurd ⟨h, h5⟩ hacc⟩
    · right; exact h
  have HAC : Hid (decide (0 < ac) = true ∧ (r != 5) = false ∨ decide (0 < ac) = false) := Lib.hid (by
    rcases hA with ⟨h1, h2⟩ | h
    · left; rw [h2]; exact ⟨decide_eq_true h1, rfl⟩
    · right; exact decide_eq_false h)
  clear hA hacc c0 c1 c2 c3 c4 c5 c6 f0 f1 f2 f3 f4 f5 f6
  obtain ⟨DA, hDA⟩ : ∃ D, decide (0 < ac) = D := ⟨_, rfl⟩
  rw [hDA] at CA HAC
  have hcase : (DA = true ∧ (r != 5) = false) ∨ DA = false := HAC.out
  clear hDA HAC
  rcases hcase with ⟨rfl, b5⟩ | rfl
  all_goals
    go_enter Tryd.func56, Tryd.ntmps56
    go_wp2_with (first
        | (go_at_call 84; refine (CS.out _).mono ?_; rintro e w' ⟨rfl, rfl⟩)
        | (go_at_call 85; refine (CF.out _ B0.out).mono ?_; rintro e w' ⟨rfl, rfl⟩)
        | (go_at_call 86; refine (CP.out _).mono ?_; rintro e w' ⟨rfl, rfl⟩)
        | (go_at_call 87; refine (CA.out _).mono ?_; rintro e w' ⟨rfl, rfl⟩)
        | (go_at_call 57; refine (CZ.out _).mono ?_; rintro e w' ⟨rfl, rfl⟩))
    have Z3 := Lib.hid (Blk.alloc Z0.out (.cells #[.int .i64 3, .int .i64 sz, .string X, .int .i64 0, .int .i64 r, .int .u16 0, .bool i] 42))
    have B3 := Lib.hid (Below.alloc0 B0.out (.cells #[.int .i64 3, .int .i64 sz, .string X, .int .i64 0, .int .i64 r, .int .u16 0, .bool i] 42))
    have Y3 : Hid (Blk ((w.alloc (.cells #[.int .i64 0, .int .i64 0, .string ⟨#[]⟩, .int .i64 0, .int .i64 0, .int .u16 0, .bool false] 42)).alloc (.cells #[.int .i64 3, .int .i64 sz, .string X, .int .i64 0, .int .i64 r, .int .u16 0, .bool i] 42)) (w.heap.size + 1) 42 #[.int .i64 3, .int .i64 sz, .string X, .int .i64 0, .int .i64 r, .int .u16 0, .bool i]) := Lib.hid (Blk.at1 _)
    refine (CO.out _).mono ?_
    rintro e w4 ⟨rfl, hb⟩
    have Z5 := Lib.hid (Blk.below Z3.out hb (by simp; omega))
    have Y5 := Lib.hid (Blk.below Y3.out hb (by simp))
    have B5 := Lib.hid (Below.trans0 B3.out hb)
    clear hb CO CS CF CP CA CZ Z3 B3 Y3
    have y3 := Y5.out.c7.2.2.2.1
    have y5 := Y5.out.c7.2.2.2.2.2.1
    have e3 := Y5.out.frozen 3
    have e5 := Y5.out.frozen 5
    have e5' : (w4.setCell ⟨w.heap.size + 1, 3, none⟩ (.int .i64 ok)).frozen? ⟨w.heap.size + 1, 5, none⟩ = false := (Blk.set_ Y5.out 3 (.int .i64 ok)).frozen 5
    have y5' : (w4.setCell ⟨w.heap.size + 1, 3, none⟩ (.int .i64 ok)).cell? ⟨w.heap.size + 1, 5, none⟩ = some (.int .u16 0) := by rw [(Blk.set_ Y5.out 3 (.int .i64 ok)).cell]; rfl
    have Y6 : Hid (Blk ((w4.setCell ⟨w.heap.size + 1, 3, none⟩ (.int .i64 ok)).setCell ⟨w.heap.size + 1, 5, none⟩ (.int .u16 oo)) (w.heap.size + 1) 42 #[.int .i64 3, .int .i64 sz, .string X, .int .i64 ok, .int .i64 r, .int .u16 oo, .bool i]) := Lib.hid (Blk.set_ (Blk.set_ Y5.out 3 _) 5 _)
    have Z6 := Lib.hid (Blk.far (Blk.far Z5.out (p := ⟨w.heap.size + 1, 3, none⟩) (Nat.ne_of_lt (Nat.lt_succ_self _)) (.int .i64 ok)) (p := ⟨w.heap.size + 1, 5, none⟩) (Nat.ne_of_lt (Nat.lt_succ_self _)) (.int .u16 oo))
    have B6 := Lib.hid (Below.set0 (Below.set0 B5.out (g := w.heap.size + 1) (i := 3) (Nat.le_succ _) (.int .i64 ok)) (g := w.heap.size + 1) (i := 5) (Nat.le_succ _) (.int .u16 oo))
    go_upto_region 16 with (fail)
    generalize (w4.setCell ⟨w.heap.size + 1, 3, none⟩ (.int .i64 ok)).setCell ⟨w.heap.size + 1, 5, none⟩ (.int .u16 oo) = W6 at Y6 Z6 B6 ⊢
    clear y3 y5 e3 e5 e5' y5' Y5 Z5 B5
    obtain ⟨y0, y1, y2, y3, y4, y5, y6⟩ := Y6.out.c7
    obtain ⟨c0, c1, c2, c3, c4, c5, c6⟩ := Z6.out.c7
    have f0 := Z6.out.frozen 0
    have f1 := Z6.out.frozen 1
    have f2 := Z6.out.frozen 2
    have f3 := Z6.out.frozen 3
    have f4 := Z6.out.frozen 4
    have f5 := Z6.out.frozen 5
    have f6 := Z6.out.frozen 6
    go_wp2
    exact bodyPost_ret (v := .tuple #[.agg #[.int .i64 3, .int .i64 sz, .string X, .int .i64 ok, .int .i64 r, .int .u16 oo, .bool i], .bool true]) (resIdx _ _ w.heap.size _ (Blk.set7 Z6.out) rfl rfl true rfl) rfl ⟨by rw [← HXE.out]; rfl, Below.set7 B6.out (Nat.le_refl _) _ _ _ _ _ _ _⟩
end Go.Proofs.YtmdpgekbiohfbabDoor
