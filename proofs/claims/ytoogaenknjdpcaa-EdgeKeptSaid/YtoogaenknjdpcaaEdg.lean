/- Contracts of package edge: Sample, Arm, Take, Reset, All; the law's own example. -/
import Derived.Test.YtoogaenknjdpcaaRws
import Derived.Test.YtoogaenknjdpcaaStc
namespace Go.Proofs.Ytoogaenknjdpcaa
open Go.ChangeShapes Go.WideShapes Go.ChangeAt Go.RowKit
set_option linter.unusedVariables false

/-- NMI's latch: level, armed, set. -/
abbrev laA (l a s : Bool) : Array Value := #[.bool l, .bool a, .bool s]
def smS (l a s v : Bool) : Bool := s || (a && v && !l)
/-- What the levels leave: the last level, whether an edge is kept. -/
def smF (a : Bool) (p : Bool × Bool) (v : Bool) : Bool × Bool := (v, smS p.1 a p.2 v)
def smAll (a : Bool) (p : Bool × Bool) (xs : List Bool) : Bool × Bool := xs.foldl (smF a) p
/-- How often the level rises, and the last one. -/
def riF (p : Int × Bool) (v : Bool) : Int × Bool := (if v && !p.2 then p.1 + 1 else p.1, v)
def riAll (p : Int × Bool) (xs : List Bool) : Int × Bool := xs.foldl riF p
theorem riAll_bd (xs : List Bool) : ∀ p : Int × Bool, p.1 ≤ (riAll p xs).1 ∧ (riAll p xs).1 ≤ p.1 + xs.length := by
  induction xs with
  | nil => intro p; simp [riAll]
  | cons x xs ih =>
    intro p
    have := ih (riF p x)
    have h2 : p.1 ≤ (riF p x).1 ∧ (riF p x).1 ≤ p.1 + 1 := by unfold riF; split <;> simp <;> omega
    simp only [riAll, List.foldl_cons, List.length_cons] at this ⊢
    omega
theorem smAll_ri (a : Bool) (xs : List Bool) : ∀ (l : Bool) (n : Int), 0 ≤ n → smAll a (l, a && decide (0 < n)) xs = ((riAll (n, l) xs).2, a && decide (0 < (riAll (n, l) xs).1)) := by
  induction xs with
  | nil => intro l n _; rfl
  | cons x xs ih =>
    intro l n h
    have e : smF a (l, a && decide (0 < n)) x = (x, a && decide (0 < (riF (n, l) x).1)) := by
      unfold smF smS riF
      cases a <;> cases x <;> cases l <;> simp <;> omega
    have h2 : 0 ≤ (riF (n, l) x).1 := by unfold riF; split <;> simp <;> omega
    have h3 : (riF (n, l) x) = ((riF (n, l) x).1, x) := rfl
    simp only [smAll, riAll, List.foldl_cons] at ih ⊢
    rw [e, ih x _ h2]; rfl
theorem smAll_take (a : Bool) (p : Bool × Bool) (xs : List Bool) (k : Nat) (x : Bool) (h : xs[k]? = some x) : smAll a p (xs.take (k + 1)) = smF a (smAll a p (xs.take k)) x := by
  unfold smAll; rw [List.take_add_one, h]; simp
theorem riAll_take (p : Int × Bool) (xs : List Bool) (k : Nat) (x : Bool) (h : xs[k]? = some x) : riAll p (xs.take (k + 1)) = riF (riAll p (xs.take k)) x := by
  unfold riAll; rw [List.take_add_one, h]; simp
theorem sample_any (l a s v : Bool) (w : World) :
    Calls Try.prog 9 #[.agg (laA l a s), .bool v] w fun e w' => e = .returned (.agg (laA v a (smS l a s v))) ∧ Below w.heap.size w w' := by
  cases l <;> cases a <;> cases s <;> cases v
  all_goals
    go_enter Try.func9, Try.ntmps9
    go_wp2
    refine bodyPost_ret (v := .agg (laA _ _ _)) (by simp [results, Try.results9, go_sem]; first | exact ⟨rfl, rfl, rfl⟩ | rfl) rfl ⟨rfl, by repeat (first | exact Below.refl _ _ | apply Below.alloc0)⟩
def laArm (l a s : Bool) : Array Value := laA l true s
def laTake (l a s : Bool) : Array Value := laA l a false
def laReset (l a s : Bool) : Array Value := laA l false false
theorem laArm_any (l a s : Bool) (w : World) :
    Calls Try.prog 10 #[.agg (laA l a s)] w fun e w' => e = .returned (.agg (laArm l a s)) ∧ Below w.heap.size w w' := by
  go_enter Try.func10, Try.ntmps10
  go_wp2
  refine bodyPost_ret (v := .agg (laArm l a s)) (by simp [results, Try.results10, go_sem, laArm]) rfl ⟨rfl, by repeat (first | exact Below.refl _ _ | apply Below.alloc0)⟩
theorem laTake_any (l a s : Bool) (w : World) :
    Calls Try.prog 11 #[.agg (laA l a s)] w fun e w' => e = .returned (.agg (laTake l a s)) ∧ Below w.heap.size w w' := by
  go_enter Try.func11, Try.ntmps11
  go_wp2
  refine bodyPost_ret (v := .agg (laTake l a s)) (by simp [results, Try.results11, go_sem, laTake]) rfl ⟨rfl, by repeat (first | exact Below.refl _ _ | apply Below.alloc0)⟩
theorem laReset_any (l a s : Bool) (w : World) :
    Calls Try.prog 12 #[.agg (laA l a s)] w fun e w' => e = .returned (.agg (laReset l a s)) ∧ Below w.heap.size w w' := by
  go_enter Try.func12, Try.ntmps12
  go_wp2
  refine bodyPost_ret (v := .agg (laReset l a s)) (by simp [results, Try.results12, go_sem, laReset]) rfl ⟨rfl, by repeat (first | exact Below.refl _ _ | apply Below.alloc0)⟩
set_option maxHeartbeats 400000 in
theorem edgeAll_any (l a s : Bool) (v : Value) (xs : List Bool) (w : World) (h : eB.Rd w v xs) (hn : xs.length ≤ 1099511627776) :
    Calls Try.prog 14 #[.agg (laA l a s), v] w fun e w' => e = .returned (.agg (laA (smAll a (l, s) xs).1 a (smAll a (l, s) xs).2)) ∧ Below w.heap.size w w' := by
  obtain ⟨A, c, rfl, hc⟩ := Els.one_at (E := eB) (f := Value.bool) rfl (fun _ => rfl) h
  obtain ⟨n, hl⟩ : ∃ n, xs.length = n := ⟨_, rfl⟩
  rw [hl] at hc hn ⊢
  obtain ⟨P, hP⟩ : ∃ P, smAll a (l, s) xs = P := ⟨_, rfl⟩
  rw [hP]
  have HP := Lib.hid hP
  have HL := Lib.hid hl
  have HC := Lib.hid hc
  clear h hc hl hP
  go_enter Try.func14, Try.ntmps14
  go_wp2
  go_loopw [9] (fun i wr => ∃ k : Nat, k ≤ n ∧ i = .int .i64 k ∧ Hid (Blk wr w.heap.size 23 (laA (smAll a (l, s) (xs.take k)).1 a (smAll a (l, s) (xs.take k)).2)) ∧ Hid (Blk wr (w.heap.size + 1) 23 (laA false false false)) ∧ Hid (Below w.heap.size w wr)) (fun i _ => n - (intOf i).toNat)
  case atStart => exact ⟨0, Nat.zero_le _, rfl, Lib.hid (Blk.alloc (Blk.new w _ _ (0, 0)) _), Lib.hid (Blk.at1 _), Lib.hid (Below.alloc0 (Below.alloc0 (Below.refl _ _) _) _)⟩
  case round =>
    obtain ⟨k, hk, rfl, hZ, hR, hB⟩ := hrel
    by_cases hlt : k < n
    · obtain ⟨g, off, rfl, hg, hcell⟩ := HC.out (by omega)
      obtain ⟨x, hx⟩ : ∃ x, xs[k]? = some x := ⟨_, List.getElem?_eq_getElem (by rw [HL.out]; exact hlt)⟩
      have c := (hB.out.cell (p := ⟨g, off + k, none⟩) hg).trans (hcell k x hx)
      have NX := Lib.hid (smAll_take a (l, s) xs k x hx)
      generalize smAll a (l, s) (xs.take k) = P at hZ NX
      obtain ⟨p, q⟩ := P
      simp only at hZ
      obtain ⟨⟨z0, z1, z2⟩, -⟩ := hZ.out.b3
      have hk0 : (0 : Int) ≤ k := by omega
      have hkn : (k : Int) < n := by omega
      clear hcell hx
      go_wp2_with fail
      refine (sample_any p a q x wr).mono ?_
      rintro e w1 ⟨rfl, hb⟩
      have hZ1 := Lib.hid (Blk.below hZ.out hb hZ.out.lt)
      have hR1 := Lib.hid (Blk.below hR.out hb hR.out.lt)
      have hB1 := Lib.hid (Below.trans0 hB.out hb)
      clear hb z0 z1 z2 c
      obtain ⟨⟨z0, z1, z2⟩, f0, f1, f2⟩ := hZ1.out.b3
      go_wp2
      go_roundw
      case rel => exact ⟨k + 1, by omega, by go_num, by rw [NX.out]; exact Lib.hid (Blk.set3 hZ1.out), Lib.hid (Blk.far (Blk.far (Blk.far hR1.out (by simp) _) (by simp) _) (by simp) _), Lib.hid (Below.set0 (Below.set0 (Below.set0 hB1.out (Nat.le_refl _) _) (Nat.le_refl _) _) (Nat.le_refl _) _)⟩
      case measure => simp [intOf]; omega
    · have hE : Hid (xs.take k = xs) := Lib.hid (List.take_of_length_le (by rw [HL.out]; omega))
      rw [hE.out, HP.out] at hZ
      obtain ⟨p, q⟩ := P
      simp only at hZ
      obtain ⟨⟨z0, z1, z2⟩, -⟩ := hZ.out.b3
      obtain ⟨⟨y0, y1, y2⟩, f0, f1, f2⟩ := hR.out.b3
      go_wp2
      refine bodyPost_ret (v := .agg (laA p a q)) (results_cell_row Try.results14 _ _ (w.heap.size + 1) 23 (laA p a q) (0, 0) _ rfl (Blk.set3 hR.out) Try.underlying23 rfl (by kernel_rfl)) rfl ⟨rfl, ?_⟩
      exact Below.set0 (Below.set0 (Below.set0 hB.out (by omega) _) (by omega) _) (by omega) _
theorem eql_la (w : World) (x y z x' y' z' : Bool) :
    (binOp .eql 23 (.agg (laA x y z)) (.agg (laA x' y' z'))).run Try.prog w = .ok (.bool (x == x' && (y == y' && z == z'))) w := by
  cases x <;> cases y <;> cases z <;> cases x' <;> cases y' <;> cases z' <;> go_simp
theorem edgeAll_two (w : World) : Calls Try.prog 14 #[.agg (laA false true false), .slice (some ⟨w.heap.size, 0, none⟩) 2 2] (w.alloc (.cells #[.bool true, .bool false] 4)) fun e w' => e = .returned (.agg (laA false true true)) ∧ Below w.heap.size w w' := by
  refine (edgeAll_any false true false _ [true, false] _ (Els.Rd.lit w 4 [true, false] #[.bool true, .bool false] 2 rfl rfl 2) (by decide)).mono ?_
  rintro e w' ⟨rfl, hb⟩
  exact ⟨rfl, Below.trans0 (Below.alloc0 (Below.refl _ _) _) hb⟩
theorem alive28 (w : World) : Calls Try.prog 13 #[] w fun e w' => e = .returned (.bool true) ∧ Below w.heap.size w w' := by
  have C := Lib.hid (edgeAll_two w)
  have HE : ∀ w, (binOp .eql 23 (.agg (laA false true true)) (.agg (laA false true true))).run Try.prog w = .ok (.bool true) w := fun w => eql_la w _ _ _ _ _ _
  go_enter Try.func13, Try.ntmps13
  go_wp2_with (go_at_call 14; refine C.out.mono ?_; rintro e w1 ⟨rfl, hb⟩)
  go_ret
  exact ⟨rfl, hb⟩
end Go.Proofs.Ytoogaenknjdpcaa
