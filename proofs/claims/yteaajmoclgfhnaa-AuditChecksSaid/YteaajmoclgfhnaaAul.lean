/- Audit: the chapter's example; what the law keeps. -/
import Derived.Test.YteaajmoclgfhnaaAuk
import Derived.Test.YteaajmoclgfhnaaAuw
import Derived.ChangeKeysEq
namespace Go.Proofs.Yteaajmoclgfhnaa
open Go.ChangeShapes Go.WideShapes Go.ChangeAt Go.RowKit
set_option linter.unusedVariables false

theorem check_lit (u : World) (g : Nat) (hg : u.heap.size = g) : Calls Try.prog 8 #[.slice (some ⟨g, 0, none⟩) 1 1] (u.alloc (Obj.cells #[.int .u16 5, .int .u8 0, .bool false, .bool false, .bool false, .bool false, .bool false, .bool false, .bool false] 25)) fun e w' => e = .returned (.tuple #[.int .i64 0, .int .i64 1]) ∧ Below u.heap.size u w' := by
  refine (check_any _ [⟨5, 0, false, false, false, false, false, false, false⟩] _ (Els.Rd.new (E := eR) u hg 25 _ _ 1 rfl rfl 1) (by decide)).mono ?_
  rintro e w' ⟨rfl, hb⟩
  exact ⟨rfl, Below.trans0 (Below.alloc0 (Below.refl _ _) _) hb⟩
theorem check_nil (u : World) : Calls Try.prog 8 #[.slice none 0 0] u fun e w' => e = .returned (.tuple #[.int .i64 0, .int .i64 0]) ∧ Below u.heap.size u w' :=
  check_any _ [] u (Els.Rd.nil_ u) (by decide)
set_option maxRecDepth 100000 in
set_option maxHeartbeats 1000000 in
theorem alive55 (w : World) : Calls Try.prog 10 #[] w fun e w' => e = .returned (.bool true) ∧ Below w.heap.size w w' := by
  have C0 := Lib.hid (fun u => check_nil u)
  have C1 := Lib.hid (fun u => check_lit u u.heap.size rfl)
  go_enter Try.func10, Try.ntmps10
  go_wp2_with fail
  refine (C0.out _).mono ?_
  rintro e w1 ⟨rfl, hb⟩
  have HB1 := Lib.hid hb
  clear hb
  go_wp2_with fail
  refine (C1.out _).mono ?_
  rintro e w2 ⟨rfl, hb⟩
  have HB2 := Lib.hid (Below.trans0 HB1.out hb)
  clear hb
  go_wp2
  go_ret
  exact ⟨rfl, HB2.out⟩
/-- The last own record so far; the place that the law keeps. -/
def lastC (l : List Rc) : Rc := (lsR l).getD zeroRc
def atN (l : List Rc) (n k : Nat) : Nat := if (ckR l k).2 = 0 then n else (ckR l k).1
theorem usR_alt (l : List Rc) : usR l = (!(lsR l).isSome || (lastC l).b4) := by
  unfold usR lastC
  cases lsR l <;> rfl
theorem lastC_next (l : List Rc) (x : Rc) : lastC (l ++ [x]) = bif x.m then x else lastC l := by
  unfold lastC; rw [lsR_next]; cases x.m <;> rfl
theorem some_next (l : List Rc) (x : Rc) : (lsR (l ++ [x])).isSome = (x.m || (lsR l).isSome) := by
  rw [lsR_next]; cases x.m <;> rfl
theorem at_last (l : List Rc) (n : Nat) : atN l n n = (ckR l n).1 := by
  unfold atN
  split
  · exact (ckR_zero l n (by assumption)).symm
  · rfl
theorem at_stay (l : List Rc) (n k : Nat) (h : k < l.length) (he : wrN l[k] (usR (l.take k)) = 0 ∨ (ckR l k).2 ≠ 0) : atN l n (k + 1) = atN l n k ∧ (ckR l (k + 1)).2 = (ckR l k).2 := by
  have e := ckR_next l k h
  unfold atN
  by_cases h0 : (ckR l k).2 = 0
  · rcases he with he | he
    · rw [if_pos h0, if_pos he] at e
      rw [e, if_pos rfl, if_pos h0]
      exact ⟨rfl, h0.symm⟩
    · exact absurd h0 he
  · rw [if_neg h0] at e
    rw [e, if_neg h0]
    exact ⟨rfl, rfl⟩
theorem at_new (l : List Rc) (n k : Nat) (h : k < l.length) (he : wrN l[k] (usR (l.take k)) ≠ 0) (h0 : (ckR l k).2 = 0) : atN l n (k + 1) = k ∧ (ckR l (k + 1)).2 = wrN l[k] (usR (l.take k)) := by
  have e := ckR_next l k h
  rw [if_pos h0, if_neg he] at e
  unfold atN
  rw [e, if_neg he]
  exact ⟨rfl, rfl⟩
theorem plainI : Try.prog.plainKey 3 = true := by kernel_rfl
theorem cellsI : Try.prog.cellsOf 3 = 1 := by kernel_rfl
theorem eqItems4 (w : World) (d : Nat) (A : Array Value) (z : Nat → Int) (hA : ∀ k, k < 4 → A[k]? = some (.int .i64 (z k))) : ∀ (is : List Nat), (∀ k ∈ is, k < 4) →
    (Op.eqItems (d + 1) 3 1 A A is).run Try.prog w = .ok true w
  | [], _ => by simp [Op.eqItems]
  | i :: is, h => by
    have ih := eqItems4 w d A z hA is (fun k hk => h k (by simp [hk]))
    have e1 := run_part_plain (P := Try.prog) w plainI (hA i (h i (by simp)))
    have e3 := run_equalIn_int (P := Try.prog) w d 3 .i64 .i64 (z i) (z i) Try.underlying3
    simp only [Op.eqItems, Sem.run_bind, Nat.mul_one, e1, e3, Result.andThen_ok]
    simp [ih]
theorem eql4 (a b c d : Int) (w : World) : (binOp .eql 26 (.agg #[.int .i64 a, .int .i64 b, .int .i64 c, .int .i64 d]) (.agg #[.int .i64 a, .int .i64 b, .int .i64 c, .int .i64 d])).run Try.prog w = .ok (.bool true) w := by
  obtain ⟨i0, hi, _⟩ := info_parts infoI
  have h : (Op.equalIn 10000 26 (.agg #[.int .i64 a, .int .i64 b, .int .i64 c, .int .i64 d]) (.agg #[.int .i64 a, .int .i64 b, .int .i64 c, .int .i64 d])).run Try.prog w = .ok true w := by
    rw [run_equalIn_array w 9999 _ _ Try.underlying26 hi, cellsI]
    refine eqItems4 w 9998 _ (fun k => if k = 0 then a else if k = 1 then b else if k = 2 then c else d) (fun k hk => ?_) _ (fun k hk => List.mem_range.1 hk)
    rcases (show k = 0 ∨ k = 1 ∨ k = 2 ∨ k = 3 by omega) with rfl | rfl | rfl | rfl <;> rfl
  go_simp
section
variable {w w0 : World} {g g' B : Nat} {t : TypeId} {cs : Array Value} {fr : Nat × Nat} {v0 v1 v2 v3 v4 v5 v6 v7 v8 x0 x1 x2 x3 x4 x5 x6 x7 x8 : Value}
theorem Blk.set9R (h : Blk w g t #[v0, v1, v2, v3, v4, v5, v6, v7, v8]) : Blk (((((((((w.setCell ⟨g, 0, none⟩ x0).setCell ⟨g, 1, none⟩ x1).setCell ⟨g, 2, none⟩ x2).setCell ⟨g, 3, none⟩ x3).setCell ⟨g, 4, none⟩ x4).setCell ⟨g, 5, none⟩ x5).setCell ⟨g, 6, none⟩ x6).setCell ⟨g, 7, none⟩ x7).setCell ⟨g, 8, none⟩ x8) g t #[x0, x1, x2, x3, x4, x5, x6, x7, x8] := by
  have h0 : Blk (w.setCell ⟨g, 0, none⟩ x0) g t #[x0, v1, v2, v3, v4, v5, v6, v7, v8] := Blk.set_ h 0 x0
  have h1 : Blk ((w.setCell ⟨g, 0, none⟩ x0).setCell ⟨g, 1, none⟩ x1) g t #[x0, x1, v2, v3, v4, v5, v6, v7, v8] := Blk.set_ h0 1 x1
  clear h0
  have h2 : Blk (((w.setCell ⟨g, 0, none⟩ x0).setCell ⟨g, 1, none⟩ x1).setCell ⟨g, 2, none⟩ x2) g t #[x0, x1, x2, v3, v4, v5, v6, v7, v8] := Blk.set_ h1 2 x2
  clear h1
  have h3 : Blk ((((w.setCell ⟨g, 0, none⟩ x0).setCell ⟨g, 1, none⟩ x1).setCell ⟨g, 2, none⟩ x2).setCell ⟨g, 3, none⟩ x3) g t #[x0, x1, x2, x3, v4, v5, v6, v7, v8] := Blk.set_ h2 3 x3
  clear h2
  have h4 : Blk (((((w.setCell ⟨g, 0, none⟩ x0).setCell ⟨g, 1, none⟩ x1).setCell ⟨g, 2, none⟩ x2).setCell ⟨g, 3, none⟩ x3).setCell ⟨g, 4, none⟩ x4) g t #[x0, x1, x2, x3, x4, v5, v6, v7, v8] := Blk.set_ h3 4 x4
  clear h3
  have h5 : Blk ((((((w.setCell ⟨g, 0, none⟩ x0).setCell ⟨g, 1, none⟩ x1).setCell ⟨g, 2, none⟩ x2).setCell ⟨g, 3, none⟩ x3).setCell ⟨g, 4, none⟩ x4).setCell ⟨g, 5, none⟩ x5) g t #[x0, x1, x2, x3, x4, x5, v6, v7, v8] := Blk.set_ h4 5 x5
  clear h4
  have h6 : Blk (((((((w.setCell ⟨g, 0, none⟩ x0).setCell ⟨g, 1, none⟩ x1).setCell ⟨g, 2, none⟩ x2).setCell ⟨g, 3, none⟩ x3).setCell ⟨g, 4, none⟩ x4).setCell ⟨g, 5, none⟩ x5).setCell ⟨g, 6, none⟩ x6) g t #[x0, x1, x2, x3, x4, x5, x6, v7, v8] := Blk.set_ h5 6 x6
  clear h5
  have h7 : Blk ((((((((w.setCell ⟨g, 0, none⟩ x0).setCell ⟨g, 1, none⟩ x1).setCell ⟨g, 2, none⟩ x2).setCell ⟨g, 3, none⟩ x3).setCell ⟨g, 4, none⟩ x4).setCell ⟨g, 5, none⟩ x5).setCell ⟨g, 6, none⟩ x6).setCell ⟨g, 7, none⟩ x7) g t #[x0, x1, x2, x3, x4, x5, x6, x7, v8] := Blk.set_ h6 7 x7
  clear h6
  have h8 : Blk (((((((((w.setCell ⟨g, 0, none⟩ x0).setCell ⟨g, 1, none⟩ x1).setCell ⟨g, 2, none⟩ x2).setCell ⟨g, 3, none⟩ x3).setCell ⟨g, 4, none⟩ x4).setCell ⟨g, 5, none⟩ x5).setCell ⟨g, 6, none⟩ x6).setCell ⟨g, 7, none⟩ x7).setCell ⟨g, 8, none⟩ x8) g t #[x0, x1, x2, x3, x4, x5, x6, x7, x8] := Blk.set_ h7 8 x8
  clear h7
  exact h8
theorem Blk.far9R (h : Blk w g' t cs fr) (hg : g' ≠ g) : Blk (((((((((w.setCell ⟨g, 0, none⟩ x0).setCell ⟨g, 1, none⟩ x1).setCell ⟨g, 2, none⟩ x2).setCell ⟨g, 3, none⟩ x3).setCell ⟨g, 4, none⟩ x4).setCell ⟨g, 5, none⟩ x5).setCell ⟨g, 6, none⟩ x6).setCell ⟨g, 7, none⟩ x7).setCell ⟨g, 8, none⟩ x8) g' t cs fr := Blk.far (Blk.far (Blk.far (Blk.far (Blk.far (Blk.far (Blk.far (Blk.far (Blk.far h hg x0) hg x1) hg x2) hg x3) hg x4) hg x5) hg x6) hg x7) hg x8
theorem Below.set9R (h : Below B w0 w) (hB : B ≤ g) : Below B w0 (((((((((w.setCell ⟨g, 0, none⟩ x0).setCell ⟨g, 1, none⟩ x1).setCell ⟨g, 2, none⟩ x2).setCell ⟨g, 3, none⟩ x3).setCell ⟨g, 4, none⟩ x4).setCell ⟨g, 5, none⟩ x5).setCell ⟨g, 6, none⟩ x6).setCell ⟨g, 7, none⟩ x7).setCell ⟨g, 8, none⟩ x8) := Below.set0 (Below.set0 (Below.set0 (Below.set0 (Below.set0 (Below.set0 (Below.set0 (Below.set0 (Below.set0 h hB x0) hB x1) hB x2) hB x3) hB x4) hB x5) hB x6) hB x7) hB x8
end
end Go.Proofs.Yteaajmoclgfhnaa
