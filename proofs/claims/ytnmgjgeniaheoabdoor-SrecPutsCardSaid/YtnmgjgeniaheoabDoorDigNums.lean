/- The contracts of package digit's Hex and Dec, and of the document's own Digits. -/
import Derived.Test.YtnmgjgeniaheoabDoorDigMath
import Derived.Outline
namespace Go.Proofs.YtnmgjgeniaheoabDoor
open Go.ChangeShapes Go.WideShapes Go.ChangeAt Go.RowKit
set_option linter.unusedVariables false
theorem sign_at : ∀ (j : Nat) (h : j < (⟨#[48, 49, 50, 51, 52, 53, 54, 55, 56, 57, 65, 66, 67, 68, 69, 70]⟩ : ByteArray).size),
    (((⟨#[48, 49, 50, 51, 52, 53, 54, 55, 56, 57, 65, 66, 67, 68, 69, 70]⟩ : ByteArray)[j]'h).toNat : Int) = sg (j : Int) := by
  intro j h
  have hj : j < 16 := h
  have key : ∀ j : Fin 16, (((⟨#[48, 49, 50, 51, 52, 53, 54, 55, 56, 57, 65, 66, 67, 68, 69, 70]⟩ : ByteArray)[j.val]'j.isLt).toNat : Int) = sg (j.val : Int) := by decide +kernel
  exact key ⟨j, hj⟩
theorem sg_toNat (v : Int) : sg ((v.toNat : Nat) : Int) = sg v := by unfold sg; rw [Int.toNat_natCast]
theorem slice_arr20 (w : World) (g m : Nat) (h1 : 1 ≤ m) (hm : m ≤ 20) :
    (Instr.sliceAt 157 (.pointer (some ⟨g, 0, none⟩)) (some (.int .i64 (20 - (m : Int)))) none none).run Tryd.prog w = .ok (.slice (some ⟨g, 20 - m, none⟩) m m) w := by
  have ha : Tryd.prog.arrayLen 157 = 20 := by kernel_rfl
  have hu : Tryd.prog.underlying 157 = some (.array (Tryd.prog.arrayLen 157) (Tryd.prog.elem 157)) := by kernel_rfl
  have hs : ∀ w, (sizeOf (Tryd.prog.elem 157)).run Tryd.prog w = .ok 1 w := fun _ => by kernel_rfl
  rw [run_sliceAt_array_l w _ _ hu .i64 _ (by omega) (by rw [ha]; omega), hs, ha]
  have e : ((20 : Int) - (m : Int)).toNat = 20 - m := by omega
  simp only [Result.andThen_ok, slicedAt, e]
  rw [if_neg (by omega), show 20 - (20 - m) = m by omega]
  have : (⟨g, 0, none⟩ : Addr).add ((20 - m) * 1) = ⟨g, 20 - m, none⟩ := by unfold Addr.add; split <;> simp_all
  rw [this]
set_option maxRecDepth 100000 in
theorem dec_any (n : Int) (w : World) (h0 : 0 ≤ n) (hn : n ≤ 18446744073709551615) :
    Calls Tryd.prog 53 #[.int .u64 n] w fun e w' => e = .returned (.string (strOfNums (written 10 n 1))) ∧ Below w.heap.size w w' := by
  have HN : Hid (qv 10 n 20 = 0) := Lib.hid (qv_small 10 n 20 h0 (by omega))
  have HQ0 := Lib.hid (qv_zero 10 n)
  go_enter Tryd.func53, Tryd.ntmps53
  go_wp2
  go_loopw [0, 4, 7] (fun x nd i wr => ∃ k m : Nat, k ≤ 20 ∧ i = .int .i64 k ∧ nd = .int .i64 m ∧ x = .int .u64 (qv 10 n k) ∧ Hid (WidthInv 10 n 1 k m) ∧ m ≤ 20 ∧ Blk wr w.heap.size 157 ((arrOf 10 n 20 k).map (Value.int .u8)).toArray ∧ Below w.heap.size w wr) (fun _ _ i _ => 20 - (intOf i).toNat)
  case atStart => exact ⟨0, 1, Nat.zero_le _, rfl, rfl, by rw [HQ0.out], Lib.hid (widthInv_start _ _ _), by omega, Blk.new _ _ _ _, by go_grown⟩
  case round =>
    obtain ⟨k, m, hk, rfl, rfl, rfl, hinv, hm, hblk, hbel⟩ := hrel
    have hsz := hblk.lt
    have hsg := sign_at
    have q0 := qv_nonneg 10 n k (by decide) h0
    have q1 := qv_le 10 n k h0
    have d0 := Int.emod_nonneg (qv 10 n k) (show (10 : Int) ≠ 0 by decide)
    have d1 := Int.emod_lt_of_pos (qv 10 n k) (show (0 : Int) < 10 by decide)
    have hq2 : qv 10 n k ≤ 18446744073709551615 := by omega
    have QN := Lib.hid (qv_next 10 n k (by decide))
    have hmx : max (qv 10 n k % 10) 0 = qv 10 n k % 10 := by omega
    by_cases hlt : k < 20
    · have hck : wr.cell? ⟨w.heap.size, 19 - k, none⟩ = some (.int .u8 (iat (arrOf 10 n 20 k) (19 - k))) := by
        rw [hblk.cell]
        simp [iat_eq, arrOf_frozen, show 19 - k < 20 by omega]
      have hfk := hblk.frozen (19 - k)
      have hset := Lib.hid (arrOf_set 10 n 20 k hlt)
      by_cases hv : 0 < qv 10 n k % 10
      · have hw2 : Hid (WidthInv 10 n 1 (k + 1) (k + 1)) := Lib.hid (by
          rcases Nat.lt_or_ge m (k + 1) with e | e
          · exact widthInv_up hinv.out (by omega) e
          · have e2 : m = k + 1 := by have := hinv.out.2.1; omega
            rw [← e2]
            have := widthInv_same hinv.out e
            rwa [← e2] at this)
        go_wp2
        go_roundw
        case rel => exact ⟨k + 1, k + 1, by omega, by go_num, by go_num, by rw [QN.out], hw2, by omega, by rw [← hset.out]; exact hblk.set_ _ _, by go_grown⟩
        case measure => simp [intOf]; omega
      · have hw2 := Lib.hid (widthInv_zero hinv.out (by omega))
        go_wp2
        go_roundw
        case rel => exact ⟨k + 1, m, by omega, by go_num, rfl, by rw [QN.out], hw2, by omega, by rw [← hset.out]; exact hblk.set_ _ _, by go_grown⟩
        case measure => simp [intOf]; omega
    · obtain rfl : k = 20 := by omega
      have hne := Lib.hid (widthInv_end (by decide) hinv.out (by decide) HN.out)
      have hcv : ∀ c, (convert 25 9 (.slice (some ⟨w.heap.size, 20 - m, none⟩) m c)).run Tryd.prog wr = .ok (.string (strOfNums (digitsTo 10 n m))) wr :=
        fun c => bytes_at wr w.heap.size (20 - m) m c (digitsTo 10 n m) (digitsTo_len _ _ _) (fun i hi => by
          rw [hblk.cell]; exact arrOf_at 10 n 20 m i hm hi)
      have hm1 : 1 ≤ m := by have := hinv.out.1; omega
      have hsl := slice_arr20 wr w.heap.size m hm1 hm
      have hfin : Hid (digitsTo 10 n m = written 10 n 1) := Lib.hid (written_eq (by decide) hne.out.1).symm
      go_wp2
      go_ret
      exact ⟨congrArg (fun l => Ending.returned (.string (strOfNums l))) hfin.out, hbel⟩
end Go.Proofs.YtnmgjgeniaheoabDoor
