/- Contract of slices.Repeat on a row of one byte. -/
import Derived.Test.YtnhafficnomlbaaByt
import Derived.Test.YtnhafficnomlbaaShelf
import Derived.Test.YtnhafficnomlbaaStc
import Derived.Laws.CopyOwn
import Derived.OrdersHeld
import Derived.Deep.RegionHeld3
import Derived.IntWalk
namespace Go.Proofs.Ytnhafficnomlbaa
open Go.ChangeShapes Go.WideShapes Go.ChangeAt Go.RowKit
set_option linter.unusedVariables false

theorem made_Yn (w : World) (n : Nat) (hn : n ≤ 100000) (k : IntKind) : (Instr.makeSlice 22 (.int .i64 (n : Int)) (.int .i64 (n : Int))).run Try.prog w = .ok (.slice (some ⟨w.heap.size, 0, none⟩) n n) (w.alloc (.cells (Array.replicate n (Value.int .u8 0)) 5)) := by
  obtain ⟨i0, hi, hz0, hz1, hz2⟩ := info_parts info8
  have hr := run_make (P := Try.prog) w 22 5 i0 _ Try.underlying22 hi hz0 .i64 .i64 n n (by omega) (by omega) (by rw [hz2]; omega) (by omega)
  simp only [Int.toNat_natCast] at hr
  rw [hr, hz1, Nat.mul_one]
  congr 3
  apply Array.ext
  · rw [size_madeCells]; simp
  · intro i h1 h2
    have : i < n := by rw [size_madeCells] at h1; exact h1
    simp [madeCells, Value.cells, Nat.mod_one]
/-- So many that are x, and the others 0: the cells of a row of n. -/
def rowX (x : Int) (n k : Nat) : List Value := List.replicate k (Value.int .u8 x) ++ List.replicate (n - k) (Value.int .u8 0)
theorem rowX_len (x : Int) (n k : Nat) (h : k ≤ n) : (rowX x n k).length = n := by simp [rowX]; omega
theorem rowX_splice (x : Int) (n k m : Nat) (h : k + m ≤ n) : splice (rowX x n k) k (List.replicate m (Value.int .u8 x)) = rowX x n (k + m) := by
  unfold splice rowX
  have e1 : (List.replicate k (Value.int .u8 x) ++ List.replicate (n - k) (Value.int .u8 0)).take k = List.replicate k (Value.int .u8 x) := by
    rw [List.take_append_of_le_length (by simp), List.take_of_length_le (by simp)]
  have e2 : (List.replicate k (Value.int .u8 x) ++ List.replicate (n - k) (Value.int .u8 0)).drop (k + m) = List.replicate (n - (k + m)) (Value.int .u8 0) := by
    rw [List.drop_append, List.drop_of_length_le (by simp)]
    simp
    omega
  rw [e1, List.length_replicate, e2, List.replicate_append_replicate.symm, List.append_assoc]
theorem rowX_at (x : Int) (n k i : Nat) (h : i < k) : (rowX x n k)[i]? = some (Value.int .u8 x) := by
  unfold rowX
  rw [List.getElem?_append_left (by simpa using h)]
  simp [h]
theorem rowX_rd {w : World} {g : Nat} {t : TypeId} (x : Int) (n : Nat) (h : Blk w g t (rowX x n n).toArray) (c : Nat) : eY.Rd w (.slice (some ⟨g, 0, none⟩) n c) (List.replicate n x) := by
  refine rdY_mk (by simp) h.lt (fun i hi => ?_)
  rw [List.length_replicate] at hi
  rw [Nat.zero_add, h.cell, List.getElem?_toArray, rowX_at x n n i hi]
  congr 2
  rw [iat_eq _ _ (by simpa using hi)]; simp
set_option maxRecDepth 100000 in
set_option maxHeartbeats 1000000 in
theorem repeatY (g off c : Nat) (x : Int) (n : Nat) (hn : n ≤ 200) (w : World) (hg : g < w.heap.size) (hx : w.cell? ⟨g, off, none⟩ = some (.int .u8 x)) :
    Calls Try.prog 48 #[.slice (some ⟨g, off, none⟩) 1 c, .int .i64 (n : Int)] w (fun e w' => ∃ v, e = .returned v ∧ eY.Rd w' v (List.replicate n x) ∧ Below w.heap.size w w') := by
  have hM := fun w => (Try.bits_Mul 1 n (by decide) (by omega) w).mono (fun e w' h => (⟨h.1, h.2.symm⟩ : e = .returned (.tuple #[.int .u64 ((1 * n / 18446744073709551616 : Nat) : Int), .int .u64 ((1 * n % 18446744073709551616 : Nat) : Int)]) ∧ w = w'))
  have e1 : (1 * n / 18446744073709551616 : Nat) = 0 := by omega
  have e2 : (1 * n % 18446744073709551616 : Nat) = n := by omega
  rw [e1, e2] at hM
  have HM := Lib.hid hM
  have n0 : (0 : Int) ≤ n := by omega
  have n2 : (n : Int) ≤ 200 := by omega
  have hmk := fun w => made_Yn w n (by omega) .i64
  clear hM e1 e2
  have HR0 : Hid (Blk (w.alloc (Obj.cells (Array.replicate n (Value.int .u8 0)) 5)) w.heap.size 5 (rowX x n 0).toArray) := Lib.hid (by
    have e : (rowX x n 0).toArray = Array.replicate n (Value.int .u8 0) := by unfold rowX; simp
    rw [e]; exact Blk.new _ _ _ (0, 0))
  have HX0 : Hid ((w.alloc (Obj.cells (Array.replicate n (Value.int .u8 0)) 5)).cell? ⟨g, off, none⟩ = some (.int .u8 x)) := Lib.hid ((Below.alloc0 (Below.refl w.heap.size w) _).cell (p := ⟨g, off, none⟩) hg |>.trans hx)
  have HB0 := Lib.hid (Below.alloc0 (Below.refl w.heap.size w) (Obj.cells (Array.replicate n (Value.int .u8 0)) 5))
  obtain ⟨m, hm⟩ : ∃ m, m = Nat.min 1 n := ⟨_, rfl⟩
  have hm1 : m ≤ n ∧ m ≤ 1 ∧ (0 < n → 0 < m) := by rw [hm]; have : Nat.min 1 n = min 1 n := rfl; omega
  have HM1 := Lib.hid hm1
  have HM2 := Lib.hid hm
  clear hm hm1
  have HS := Lib.hid (show ∀ j v, (List.replicate m (Value.int .u8 x))[j]? = some v → (w.alloc (Obj.cells (Array.replicate n (Value.int .u8 0)) 5)).cell? ((⟨g, off, none⟩ : Addr).add j) = some v from fun j v hj => by
    have h1 := HM1.out.2.1
    rw [List.getElem?_replicate] at hj
    split at hj
    · obtain rfl : Value.int .u8 x = v := Option.some.inj hj
      obtain rfl : j = 0 := by omega
      rw [Els.add_pl, Nat.add_zero]; exact HX0.out
    · cases hj)
  go_enter Try.func48, Try.ntmps48
  go_wp2_with (first | (go_at_call 40; refine (HM.out _).mono ?_; rintro e w' ⟨rfl, rfl⟩) | (refine wpList_copy_splice (by rfl) (.tmp 31) (.tmp 32) 22 22 (by rfl) 5 Try.underlying22 (by kernel_rfl) _ _ n n 1 c (by rfl) (by rfl) w.heap.size 0 (rowX x n 0) 5 HR0.out (List.replicate m (Value.int .u8 x)) (by rw [List.length_replicate]; exact HM2.out) (fun _ => ⟨rfl, _, rfl, HS.out⟩) (by rw [rowX_len x _ _ (Nat.zero_le _), List.length_replicate]; have := HM1.out; omega) (by intro v hv; rw [List.eq_of_mem_replicate hv]; rfl) w.heap.size w HB0.out (by omega) ?_; intro w2 HG hb2))
  have HG2 : Hid (Blk w2 w.heap.size 5 (rowX x n m).toArray) := Lib.hid (by have := HG.out; rw [rowX_splice x n 0 m (by have := HM1.out; omega), Nat.zero_add] at this; exact this)
  have HB2 := Lib.hid hb2
  clear HG hb2 hmk
  go_loopw [8] (fun i wr => ∃ k : Nat, k ≤ n ∧ (0 < n → 0 < k) ∧ i = .int .i64 k ∧ Hid (Blk wr w.heap.size 5 (rowX x n k).toArray) ∧ Hid (Below w.heap.size w wr)) (fun i _ => n - (intOf i).toNat)
  case atStart => exact ⟨m, HM1.out.1, HM1.out.2.2, rfl, HG2, HB2⟩
  case round =>
    obtain ⟨k, hk, hk1, rfl, hG, hB⟩ := hrel
    by_cases hlt : k < n
    · obtain ⟨q, hq⟩ : ∃ q, q = Nat.min k (n - k) := ⟨_, rfl⟩
      have hq1 : k + q ≤ n ∧ q ≤ k ∧ 0 < q := by rw [hq]; have : Nat.min k (n - k) = min k (n - k) := rfl; have := hk1 (by omega); omega
      have HQ1 := Lib.hid hq1
      have HQ2 := Lib.hid hq
      have hk0 : (0 : Int) ≤ k := by omega
      have hkn : (k : Int) < n := by omega
      have hkn' : (k : Int) ≤ n := by omega
      have hnk : ¬ (n = k) := by omega
      have kw : IntKind.i64.wrap ((k : Int) + (q : Int)) = (k : Int) + (q : Int) := IntWalk.i64_in _ (by omega)
      have HS := Lib.hid (show ∀ j v, (List.replicate q (Value.int .u8 x))[j]? = some v → wr.drew.cell? ((⟨w.heap.size, 0, none⟩ : Addr).add j) = some v from fun j v hj => by
        have h1 := HQ1.out.2.1
        rw [List.getElem?_replicate] at hj
        split at hj
        · obtain rfl : Value.int .u8 x = v := Option.some.inj hj
          rw [Els.add_pl, Nat.zero_add, (Blk.drew hG.out).cell, List.getElem?_toArray]
          exact rowX_at x n k j (by omega)
        · cases hj)
      clear hq hq1 hk1
      go_wp2
      refine wp_region_noPanic ?_
      refine wp_region_held_drew (S := (fun _ => True)) (by kernel_rfl) ?_ (fun hH0 => ?_)
      · trivial
      refine wpAnyH_take (i := 0) (oi := ({ dst := some 38, op := Op.move (Operand.tmp 8), type := 3, pos := "slices.go:528", after := #[], guard := none } : Oper)) (v := ?_) rfl (by kernel_rfl) (by kernel_rfl) (by kernel_rfl) (fun _ _ _ h => h) (Or.inl ⟨by rfl, ?_⟩) (by assumption) ?_
      rotate_left 1
      · (intro w hSw; (try dsimp only at hSw); go_simp; (try with_reducible rfl))
      (try simp only [Act.put, List.setIfInBounds_toArray, List.set_cons_zero, List.set_cons_succ])
      refine wpAnyH_take (i := 1) (oi := ({ dst := some 39, op := Op.move (Operand.tmp 7), type := 22, pos := "slices.go:528", after := #[], guard := none } : Oper)) (v := ?_) rfl (by kernel_rfl) (by kernel_rfl) (by kernel_rfl) (fun _ _ _ h => h) (Or.inl ⟨by rfl, ?_⟩) (by assumption) ?_
      rotate_left 1
      · (intro w hSw; (try dsimp only at hSw); go_simp; (try with_reducible rfl))
      (try simp only [Act.put, List.setIfInBounds_toArray, List.set_cons_zero, List.set_cons_succ])
      refine wpAnyH_take (i := 2) (oi := ({ dst := some 40, op := Op.move (Operand.tmp 8), type := 3, pos := "slices.go:528", after := #[], guard := none } : Oper)) (v := ?_) rfl (by kernel_rfl) (by kernel_rfl) (by kernel_rfl) (fun _ _ _ h => h) (Or.inl ⟨by rfl, ?_⟩) (by assumption) ?_
      rotate_left 1
      · (intro w hSw; (try dsimp only at hSw); go_simp; (try with_reducible rfl))
      (try simp only [Act.put, List.setIfInBounds_toArray, List.set_cons_zero, List.set_cons_succ])
      refine wpAnyH_take (i := 3) (oi := ({ dst := some 41, op := Op.slice 22 (Operand.tmp 39) (some (Operand.tmp 40)) none none, type := 22, pos := "slices.go:528", after := #[{ on := 1, ground := Ground.data }, { on := 2, ground := Ground.data }], guard := none } : Oper)) (v := ?_) rfl (by kernel_rfl) (by kernel_rfl) (by kernel_rfl) (fun _ _ _ h => h) (Or.inl ⟨by rfl, ?_⟩) (by assumption) ?_
      rotate_left 1
      · (intro w hSw; (try dsimp only at hSw); go_simp; (try with_reducible rfl))
      (try simp only [Act.put, List.setIfInBounds_toArray, List.set_cons_zero, List.set_cons_succ])
      refine wpAnyH_take (i := 4) (oi := ({ dst := some 42, op := Op.move (Operand.tmp 7), type := 22, pos := "slices.go:528", after := #[], guard := none } : Oper)) (v := ?_) rfl (by kernel_rfl) (by kernel_rfl) (by kernel_rfl) (fun _ _ _ h => h) (Or.inl ⟨by rfl, ?_⟩) (by assumption) ?_
      rotate_left 1
      · (intro w hSw; (try dsimp only at hSw); go_simp; (try with_reducible rfl))
      (try simp only [Act.put, List.setIfInBounds_toArray, List.set_cons_zero, List.set_cons_succ])
      refine wpAnyH_take (i := 5) (oi := ({ dst := some 43, op := Op.move (Operand.tmp 8), type := 3, pos := "slices.go:528", after := #[], guard := none } : Oper)) (v := ?_) rfl (by kernel_rfl) (by kernel_rfl) (by kernel_rfl) (fun _ _ _ h => h) (Or.inl ⟨by rfl, ?_⟩) (by assumption) ?_
      rotate_left 1
      · (intro w hSw; (try dsimp only at hSw); go_simp; (try with_reducible rfl))
      (try simp only [Act.put, List.setIfInBounds_toArray, List.set_cons_zero, List.set_cons_succ])
      refine wpAnyH_take (i := 6) (oi := ({ dst := some 44, op := Op.slice 22 (Operand.tmp 42) none (some (Operand.tmp 43)) none, type := 22, pos := "slices.go:528", after := #[{ on := 4, ground := Ground.data }, { on := 5, ground := Ground.data }], guard := none } : Oper)) (v := ?_) rfl (by kernel_rfl) (by kernel_rfl) (by kernel_rfl) (fun _ _ _ h => h) (Or.inl ⟨by rfl, ?_⟩) (by assumption) ?_
      rotate_left 1
      · (intro w hSw; (try dsimp only at hSw); go_simp; (try with_reducible rfl))
      (try simp only [Act.put, List.setIfInBounds_toArray, List.set_cons_zero, List.set_cons_succ])
      refine wpAnyH_ready (rs := [7]) (by kernel_rfl) (by simp) ?_
      refine AllReadyH.cons (o := ({ dst := some 45, op := Op.call { callee := Callee.builtin Builtin.copy, args := #[Operand.tmp 41, Operand.tmp 44], argTypes := #[22, 22] }, type := 3, pos := "slices.go:528", after := #[{ on := 3, ground := Ground.data }, { on := 6, ground := Ground.data }], guard := none } : Oper)) rfl (fun K hK => ?_) ?_
      rotate_left 1
      · exact AllReadyH.nil
      (refine step_copy_splice (by rfl) (.tmp 41) (.tmp 44) 22 22 (by rfl) 5 Try.underlying22 (by kernel_rfl) _ _ (n - k) (n - k) k n (by rfl) (by rfl) w.heap.size k (rowX x n k) 5 hG.out (List.replicate q (Value.int .u8 x)) (by rw [List.length_replicate]; exact HQ2.out) (fun _ => ⟨rfl, ⟨w.heap.size, 0, none⟩, rfl, HS.out⟩) (by rw [rowX_len x _ _ hk, List.length_replicate]; have := HQ1.out; omega) (by intro v hv; rw [List.eq_of_mem_replicate hv]; rfl) w.heap.size w (Below.drew0 hB.out) (by omega) ?_; intro w3 HG hb3; rw [List.length_replicate])
      first | (refine hK.out _ _ ?_ (fun hH1 => ?_)) | (go_wp2_with fail; refine hK.out _ _ ?_ (fun hH1 => ?_))
      · trivial
      clear hK K hH0
      (try simp only [Act.put, List.setIfInBounds_toArray, List.set_cons_zero, List.set_cons_succ])
      refine wpAnyH_take (i := 8) (oi := ({ dst := some 46, op := Op.binOp BinOp.add 3 (Operand.tmp 38) (Operand.tmp 45) 3, type := 3, pos := "slices.go:528", after := #[{ on := 0, ground := Ground.data }, { on := 7, ground := Ground.data }], guard := none } : Oper)) (v := ?_) rfl (by kernel_rfl) (by kernel_rfl) (by kernel_rfl) (fun _ _ _ h => h) (Or.inl ⟨by rfl, ?_⟩) (by assumption) ?_
      rotate_left 1
      · (intro w hSw; (try dsimp only at hSw); go_simp; (try with_reducible rfl))
      (try simp only [Act.put, List.setIfInBounds_toArray, List.set_cons_zero, List.set_cons_succ])
      refine wpAnyH_take (i := 9) (oi := ({ dst := some 8, op := Op.assign (Operand.tmp 46), type := 3, pos := "slices.go:528", after := #[{ on := 8, ground := Ground.data }, { on := 7, ground := Ground.chain }, { on := 0, ground := Ground.phase }, { on := 1, ground := Ground.phase }, { on := 2, ground := Ground.phase }, { on := 3, ground := Ground.phase }, { on := 4, ground := Ground.phase }, { on := 5, ground := Ground.phase }, { on := 6, ground := Ground.phase }, { on := 7, ground := Ground.phase }, { on := 8, ground := Ground.phase }], guard := none } : Oper)) (v := ?_) rfl (by kernel_rfl) (by kernel_rfl) (by kernel_rfl) (fun _ _ _ h => h) (Or.inl ⟨by rfl, ?_⟩) (by assumption) ?_
      rotate_left 1
      · (intro w hSw; (try dsimp only at hSw); go_simp; (try with_reducible rfl))
      (try simp only [Act.put, List.setIfInBounds_toArray, List.set_cons_zero, List.set_cons_succ])
      refine wpAnyH_done (by kernel_rfl) ?_ _
      refine NoPanic.normal ?_
      clear kw
      have HG3 : Hid (Blk w3 w.heap.size 5 (rowX x n (k + q)).toArray) := Lib.hid (by have := HG.out; rw [rowX_splice x n k q (by have := HQ1.out; omega)] at this; exact this)
      have HB3 := Lib.hid hb3
      clear HG hb3
      go_wp2
      go_roundw
      case rel => exact ⟨k + q, HQ1.out.1, by have := HQ1.out.2.2; omega, by go_num, HG3, HB3⟩
      case measure => have := HQ1.out.2.2; simp [intOf]; omega
    · obtain rfl : k = n := by omega
      go_wp2
      go_ret
      exact ⟨_, rfl, rowX_rd x k hG.out k, hB.out⟩
end Go.Proofs.Ytnhafficnomlbaa
