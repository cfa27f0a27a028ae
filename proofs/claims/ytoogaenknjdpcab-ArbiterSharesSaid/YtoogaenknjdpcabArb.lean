/- Contracts of package arbiter, and of the document's own (spinetref30). -/
import Derived.Test.YtoogaenknjdpcabEqI
import Derived.Test.YtoogaenknjdpcabStc
namespace Go.Proofs.Ytoogaenknjdpcab
open Go.ChangeShapes Go.WideShapes Go.ChangeAt Go.RowKit
set_option linter.unusedVariables false

/-- A state: phase, count; the next one, and whose the cycle is. -/
abbrev arA (p c : Int) : Array Value := #[.int .i64 p, .int .i64 c]
def arN (d : Bool) (s : Int × Int) (r : Bool) : Int × Int :=
  if d then (if s.1 = 0 then (if r then (1, 0) else (0, 0)) else if s.1 = 1 then (if r && decide (s.2 < 15) then (1, s.2 + 1) else (2, 0)) else (0, 0)) else (0, 0)
def arW (d : Bool) (s : Int × Int) (r : Bool) : Int :=
  if d then (if s.1 = 0 then (if r then 2 else 0) else if s.1 = 1 then (if r && decide (s.2 < 15) then 1 else 2) else 0) else (if r then 1 else 0)
/-- States that may be. -/
def arOk (d : Bool) (s : Int × Int) : Prop := if d then (s.1 = 0 ∧ s.2 = 0) ∨ (s.1 = 1 ∧ 0 ≤ s.2 ∧ s.2 ≤ 15) ∨ (s.1 = 2 ∧ s.2 = 0) else s = (0, 0)
theorem arN_ok (d : Bool) (s : Int × Int) (r : Bool) (h : arOk d s) : arOk d (arN d s r) := by
  obtain ⟨p, c⟩ := s
  cases d
  · simp [arOk, arN]
  · simp only [arOk, if_true] at h
    rcases h with ⟨rfl, rfl⟩ | ⟨rfl, h0, h1⟩ | ⟨rfl, rfl⟩
    · cases r <;> simp [arOk, arN]
    · cases r
      · simp [arOk, arN]
      · by_cases hc : c < 15
        · simp [arOk, arN, hc]; omega
        · simp [arOk, arN, hc]
    · simp [arOk, arN]
/-- The cycles of so many wishes: the states behind them, and whose each is. -/
def arS (d : Bool) (l : List Bool) : Int × Int := l.foldl (fun s r => arN d s r) (0, 0)
def arF (d : Bool) (p : (Int × Int) × List Int) (r : Bool) : (Int × Int) × List Int := (arN d p.1 r, p.2 ++ [arW d p.1 r])
def arL (d : Bool) (l : List Bool) : List Int := (l.foldl (arF d) ((0, 0), [])).2
theorem arF_fst (d : Bool) (l : List Bool) : ∀ p, (l.foldl (arF d) p).1 = l.foldl (fun s r => arN d s r) p.1 := by
  induction l with
  | nil => intro p; rfl
  | cons x l ih => intro p; simp only [List.foldl_cons]; rw [ih]; rfl
theorem arF_len (d : Bool) (l : List Bool) : ∀ p, (l.foldl (arF d) p).2.length = p.2.length + l.length := by
  induction l with
  | nil => intro p; rfl
  | cons x l ih => intro p; simp only [List.foldl_cons, List.length_cons]; rw [ih]; simp [arF]; omega
theorem arL_len (d : Bool) (l : List Bool) : (arL d l).length = l.length := by have := arF_len d l ((0, 0), []); simpa [arL] using this
theorem ar_next (d : Bool) (l : List Bool) (k : Nat) (x : Bool) (h : l[k]? = some x) : arS d (l.take (k + 1)) = arN d (arS d (l.take k)) x ∧ arL d (l.take (k + 1)) = arL d (l.take k) ++ [arW d (arS d (l.take k)) x] := by
  have e : l.take (k + 1) = l.take k ++ [x] := by rw [List.take_add_one, h]; rfl
  have hs : (l.take k).foldl (fun s r => arN d s r) (0, 0) = ((l.take k).foldl (arF d) ((0, 0), [])).1 := (arF_fst d _ ((0, 0), [])).symm
  rw [e]
  refine ⟨by unfold arS; rw [List.foldl_append]; rfl, ?_⟩
  unfold arL arS
  rw [List.foldl_append, hs]
  rfl
theorem arS_ok (d : Bool) (l : List Bool) : arOk d (arS d l) := by
  have : ∀ s, arOk d s → arOk d (l.foldl (fun s r => arN d s r) s) := by
    induction l with
    | nil => intro s h; exact h
    | cons x l ih => intro s h; exact ih _ (arN_ok d s x h)
  exact this _ (by cases d <;> simp [arOk])
/-- May there be such a state? -/
def arR (d : Bool) (p c : Int) : Bool := if d then decide (0 ≤ p) && decide (p ≤ 2) && decide (0 ≤ c) && decide (c ≤ 15) && (c == 0 || p == 1) else (p == 0 && c == 0)
def kd (d : Bool) : Int := if d then 1 else 0
theorem arR_ok (d : Bool) (p c : Int) (h : arR d p c = true) : arOk d (p, c) := by
  cases d
  · simp [arR] at h; simp [arOk, h.1, h.2]
  · simp [arR] at h
    simp [arOk]; omega
theorem arR_of (d : Bool) (p c : Int) (h : arOk d (p, c)) : arR d p c = true := by
  cases d
  · simp [arOk] at h; simp [arR, h.1, h.2]
  · simp [arOk] at h
    simp [arR]; omega
theorem ar_cases (d : Bool) (p c : Int) (h : arOk d (p, c)) : (p = 0 ∧ c = 0) ∨ (d = true ∧ p = 1 ∧ 0 ≤ c ∧ c < 15) ∨ (d = true ∧ p = 1 ∧ c = 15) ∨ (d = true ∧ p = 2 ∧ c = 0) := by
  cases d
  · simp [arOk] at h; simp [h.1, h.2]
  · simp [arOk] at h; simp; omega
set_option maxHeartbeats 1000000 in
theorem nextDma_any (p c : Int) (r : Bool) (h : arOk true (p, c)) (w : World) :
    Calls Try.prog 47 #[.agg (arA p c), .bool r] w fun e w' => e = .returned (.tuple #[.agg (arA (arN true (p, c) r).1 (arN true (p, c) r).2), .int .i64 (arW true (p, c) r)]) ∧ Below w.heap.size w w' := by
  rcases ar_cases true p c h with ⟨rfl, rfl⟩ | ⟨_, rfl, h0, h1⟩ | ⟨_, rfl, rfl⟩ | ⟨_, rfl, rfl⟩
  · clear h
    cases r
    all_goals
      go_enter Try.func47, Try.ntmps47
      go_wp2
      refine bodyPost_ret (v := .tuple #[.agg (arA _ _), .int .i64 _]) (by simp [results, Try.results47, go_sem]; first | exact ⟨⟨rfl, rfl⟩, rfl⟩ | rfl) rfl ⟨rfl, by repeat (first | exact Below.refl _ _ | apply Below.alloc0)⟩
  · clear h
    have e : (decide (c < 15)) = true := by simpa using h1
    cases r
    · go_enter Try.func47, Try.ntmps47
      go_wp2
      refine bodyPost_ret (v := .tuple #[.agg (arA 2 0), .int .i64 2]) (by simp [results, Try.results47, go_sem]) rfl ⟨rfl, by repeat (first | exact Below.refl _ _ | apply Below.alloc0)⟩
    · go_enter Try.func47, Try.ntmps47
      go_wp2
      refine bodyPost_ret (v := .tuple #[.agg (arA 1 (c + 1)), .int .i64 1]) (by simp [results, Try.results47, go_sem]) rfl ⟨by simp [arN, arW, e], by repeat (first | exact Below.refl _ _ | apply Below.alloc0)⟩
  all_goals
    clear h
    cases r
    all_goals
      go_enter Try.func47, Try.ntmps47
      go_wp2
      refine bodyPost_ret (v := .tuple #[.agg (arA _ _), .int .i64 _]) (by simp [results, Try.results47, go_sem]; first | exact ⟨⟨rfl, rfl⟩, rfl⟩ | rfl) rfl ⟨rfl, by repeat (first | exact Below.refl _ _ | apply Below.alloc0)⟩
theorem eql_ar (w : World) (x y x' y' : Int) : (binOp .eql 61 (.agg (arA x y)) (.agg (arA x' y'))).run Try.prog w = .ok (.bool (x == x' && y == y')) w := by
  by_cases h1 : x = x'
  · subst h1
    by_cases h2 : y = y'
    · subst h2; go_simp
    · have e : (y == y') = false := by simpa using h2
      go_simp
  · have e : (x == x') = false := by simpa using h1
    go_simp
theorem resNext (tmps : Array Value) (W : World) (g : Nat) (p c v : Int) (h : Blk W g 61 (arA p c)) (h2 : tmps.getD 6 undef = .pointer (some ⟨g, 0, none⟩)) (h3 : tmps.getD 7 undef = .int .i64 v) :
    (results Try.f31 tmps).run Try.prog W = .ok (.tuple #[.agg (arA p c), .int .i64 v]) W := by
  have hi : (Try.prog.info? 61).map (·.size) = some (arA p c).size := by kernel_rfl
  have hld := run_loadVar_row (P := Try.prog) W g 61 61 (arA p c) (0, 0) _ h Try.underlying61 rfl hi
  have h2' : tmps[6]?.getD undef = .pointer (some ⟨g, 0, none⟩) := by simpa using h2
  have h3' : tmps[7]?.getD undef = .int .i64 v := by simpa using h3
  simp [results, Try.results31, h2', h3', asAddr, hld]
set_option maxHeartbeats 1000000 in
theorem arNext_any (d : Bool) (p c : Int) (r : Bool) (h : arOk d (p, c)) (w : World) :
    Calls Try.prog 31 #[.int .i64 (kd d), .agg (arA p c), .bool r] w fun e w' => e = .returned (.tuple #[.agg (arA (arN d (p, c) r).1 (arN d (p, c) r).2), .int .i64 (arW d (p, c) r)]) ∧ Below w.heap.size w w' := by
  cases d
  · obtain ⟨rfl, rfl⟩ : p = 0 ∧ c = 0 := by simpa [arOk] using h
    clear h
    cases r
    all_goals
      go_enter Try.func31, Try.ntmps31
      go_wp2
      refine bodyPost_ret (v := .tuple #[.agg (arA 0 0), .int .i64 _]) (resNext _ _ (w.heap.size + 1) 0 0 _ (Blk.at1 _) rfl rfl) rfl ⟨rfl, by repeat (first | exact Below.refl _ _ | apply Below.alloc0)⟩
  · have C := nextDma_any p c r h
    obtain ⟨P, hP⟩ : ∃ P, arN true (p, c) r = P := ⟨_, rfl⟩
    obtain ⟨u, hu⟩ : ∃ u, arW true (p, c) r = u := ⟨_, rfl⟩
    rw [hP, hu] at C
    rw [hP, hu]
    obtain ⟨x, y⟩ := P
    have D := Lib.hid C
    have HR : Hid (Blk ((w.alloc (Obj.cells (arA p c) 61)).alloc (Obj.cells (arA 0 0) 61)) (w.heap.size + 1) 61 (arA 0 0)) := Lib.hid (Blk.at1 _)
    have HB := Lib.hid (Below.alloc0 (Below.alloc0 (Below.refl w.heap.size w) (Obj.cells (arA p c) 61)) (Obj.cells (arA 0 0) 61))
    clear h C hP hu
    go_enter Try.func31, Try.ntmps31
    go_wp2_with fail
    refine (D.out _).mono ?_
    rintro e w1 ⟨rfl, hb⟩
    have HR1 := Lib.hid (Blk.below HR.out hb HR.out.lt)
    have HB1 := Lib.hid (Below.trans0 HB.out hb)
    clear hb
    obtain ⟨⟨z0, z1⟩, f0, f1⟩ := HR1.out.b2
    go_wp2
    refine bodyPost_ret (v := .tuple #[.agg (arA x y), .int .i64 u]) (resNext _ _ (w.heap.size + 1) x y u (Blk.set2 HR1.out) rfl rfl) rfl ⟨rfl, ?_⟩
    exact Below.set0 (Below.set0 HB1.out (by omega) _) (by omega) _
def GivesI (w : World) (l : List Int) (e : Ending) (w' : World) : Prop := ∃ v, e = .returned v ∧ eI.Rd w' v l ∧ Below w.heap.size w w'
set_option maxHeartbeats 1000000 in
theorem plan_any (d : Bool) (v : Value) (xs : List Bool) (w : World) (h : eB.Rd w v xs) (hn : xs.length ≤ 1000) :
    Calls Try.prog 7 #[.int .i64 (kd d), v] w (GivesI w (arL d xs)) := by
  obtain ⟨A, c, rfl, hc⟩ := Els.one_at (E := eB) (f := Value.bool) rfl (fun _ => rfl) h
  obtain ⟨n, hl⟩ : ∃ n, xs.length = n := ⟨_, rfl⟩
  rw [hl] at hc hn ⊢
  obtain ⟨Z, hmk, hown⟩ := made_I w n (by omega)
  have HO := Lib.hid (hown w.heap.size (Nat.le_refl _))
  have HB := Lib.hid (Below.alloc0 (Below.refl w.heap.size w) Z)
  have HL := Lib.hid hl
  have HC := Lib.hid hc
  have HZ : Hid (Blk ((w.alloc Z).alloc (Obj.cells (arA 0 0) 61)) (w.heap.size + 1) 61 (arA 0 0)) := Lib.hid (Blk.at1 _)
  clear h hc hl hown
  go_enter Try.func7, Try.ntmps7
  go_wp2
  clear hmk
  go_loopw [5, 15] (fun o i wr => ∃ k : Nat, k ≤ n ∧ i = .int .i64 k ∧ Hid (Blk wr (w.heap.size + 1) 61 (arA (arS d (xs.take k)).1 (arS d (xs.take k)).2)) ∧ Hid (eI.Own 3 wr w.heap.size o (arL d (xs.take k)) ∧ o.ownBlock ≠ some (w.heap.size + 1)) ∧ Hid (Below w.heap.size w wr)) (fun _ i _ => n - (intOf i).toNat)
  case atStart => exact ⟨0, Nat.zero_le _, rfl, by cases d <;> exact HZ, Lib.hid ⟨by cases d <;> exact Els.Own.alloc HO.out _, by simp [Value.ownBlock]⟩, Lib.hid (Below.alloc0 HB.out _)⟩
  case round =>
    obtain ⟨k, hk, rfl, hZ, hO, hB⟩ := hrel
    by_cases hlt : k < n
    · obtain ⟨g, off, rfl, hg, hcell⟩ := HC.out (by omega)
      obtain ⟨x, hx⟩ : ∃ x, xs[k]? = some x := ⟨_, List.getElem?_eq_getElem (by rw [HL.out]; exact hlt)⟩
      have cx := (hB.out.cell (p := ⟨g, off + k, none⟩) hg).trans (hcell k x hx)
      have NX := Lib.hid (ar_next d xs k x hx)
      have ok := Lib.hid (arS_ok d (xs.take k))
      have LN := Lib.hid (show (arL d (xs.take k)).length ≤ 1000 by rw [arL_len, List.length_take]; omega)
      generalize arL d (xs.take k) = L at hO NX LN
      generalize arS d (xs.take k) = P at hZ NX ok
      obtain ⟨p, q⟩ := P
      simp only at hZ
      obtain ⟨⟨z0, z1⟩, -⟩ := hZ.out.b2
      have C := arNext_any d p q x ok.out
      obtain ⟨P', hP⟩ : ∃ P, arN d (p, q) x = P := ⟨_, rfl⟩
      obtain ⟨u, hu⟩ : ∃ u, arW d (p, q) x = u := ⟨_, rfl⟩
      rw [hP, hu] at C NX
      obtain ⟨p', q'⟩ := P'
      have D := Lib.hid C
      have hk0 : (0 : Int) ≤ k := by omega
      have hkn : (k : Int) < n := by omega
      clear hcell hx C hP hu
      go_wp2_with fail
      refine (D.out _).mono ?_
      rintro e w1 ⟨rfl, hb⟩
      have hZ1 := Lib.hid (Blk.below hZ.out hb hZ.out.lt)
      have hO1 := Lib.hid (Els.Own.below hO.out.1 hb)
      have hB1 := Lib.hid (Below.trans0 hB.out hb)
      clear hb z0 z1 cx
      obtain ⟨⟨z0, z1⟩, f0, f1⟩ := hZ1.out.b2
      have hO2 := Lib.hid (Els.Own.alloc (Els.Own.grown hO1.out ((grown_cell w1 (w.heap.size + 1) 0 (.int .i64 p')).trans (grown_cell _ (w.heap.size + 1) 1 (.int .i64 q'))) (.inr hO.out.2)) (Obj.cells #[.int .i64 u] 3))
      have hZ2 := Lib.hid (Blk.alloc (Blk.set2 (x0 := .int .i64 p') (x1 := .int .i64 q') hZ1.out) (Obj.cells #[.int .i64 u] 3))
      have hB2 := Lib.hid (Below.alloc0 (Below.set0 (i := 1) (Below.set0 (i := 0) hB1.out (Nat.le_succ _) (.int .i64 p')) (Nat.le_succ _) (.int .i64 q')) (Obj.cells #[.int .i64 u] 3))
      go_wp2_with (at_builtin; refine wpList_appI rfl _ (.tmp 26) (.tmp 28) rfl w.heap.size u5 _ L [u] rfl hO2.out rfl (Els.Rd.new (E := eI) _ (by simp) 3 [u] #[.int .i64 u] 1 rfl rfl 1) (by have := LN.out; simp; omega) (by have := hB2.out.size; simpa using this) ?_; intro v' w2 hown hbel hgr hwh)
      have HO3 := Lib.hid hown
      have HZ3 := Lib.hid (Blk.grown hZ2.out hgr (Ne.symm hO.out.2))
      have HN3 : Hid (v'.ownBlock ≠ some (w.heap.size + 1)) := Lib.hid (by
        rcases hwh with h | h
        · rw [h]; exact hO.out.2
        · rw [h]; have := hB1.out.size; have := hZ1.out.lt; simp; omega)
      have HB3 := Lib.hid (hB2.out.trans hbel)
      clear hown hbel hgr hwh
      go_roundw
      case rel => exact ⟨k + 1, by omega, by go_num, by rw [NX.out.1]; exact HZ3, Lib.hid ⟨by rw [NX.out.2]; exact HO3.out, HN3.out⟩, HB3⟩
      case measure => simp [intOf]; omega
    · have hE : Hid (xs.take k = xs) := Lib.hid (List.take_of_length_le (by rw [HL.out]; omega))
      rw [hE.out] at hO
      go_wp2
      go_ret
      exact ⟨_, rfl, Els.Own.rd hO.out.1, hB.out⟩
theorem plan_four (w : World) : Calls Try.prog 7 #[.int .i64 1, .slice (some ⟨w.heap.size, 0, none⟩) 4 4] (w.alloc (.cells #[.bool true, .bool true, .bool false, .bool false] 4)) (GivesI w [2, 1, 2, 0]) := by
  refine (plan_any true _ [true, true, false, false] _ (Els.Rd.lit w 4 [true, true, false, false] #[.bool true, .bool true, .bool false, .bool false] 4 rfl rfl 4) (by decide)).mono ?_
  rintro e w' ⟨v, rfl, hr, hb⟩
  exact ⟨v, rfl, hr, Below.trans0 (Below.alloc0 (Below.refl _ _) _) hb⟩
theorem alive30 (w : World) : Calls Try.prog 9 #[] w fun e w' => e = .returned (.bool true) ∧ Below w.heap.size w w' := by
  have C := Lib.hid (plan_four w)
  go_enter Try.func9, Try.ntmps9
  go_wp2_with fail
  refine C.out.mono ?_
  rintro e w1 ⟨v1, rfl, hr, hb⟩
  have H1 := Lib.hid (Els.Rd.alloc hr (Obj.cells #[.int .i64 2, .int .i64 1, .int .i64 2, .int .i64 0] 3))
  have B1 := Lib.hid (Below.alloc0 hb (Obj.cells #[.int .i64 2, .int .i64 1, .int .i64 2, .int .i64 0] 3))
  clear hb hr
  go_wp2_with fail
  refine (eqI_b _ _ [2, 1, 2, 0] [2, 1, 2, 0] _ H1.out (Els.Rd.lit (E := eI) w1 3 [2, 1, 2, 0] #[.int .i64 2, .int .i64 1, .int .i64 2, .int .i64 0] 4 rfl rfl 4) (by decide) (by decide)).mono ?_
  rintro e w2 ⟨rfl, hb⟩
  have B2 := Lib.hid (Below.trans0 B1.out hb)
  clear hb
  go_wp2
  go_ret
  exact ⟨rfl, B2.out⟩
end Go.Proofs.Ytoogaenknjdpcab
