/- The document's memory for layer 32: a row of 65536 bytes; the pages used. -/
import Derived.Test.YtnhafficnomlbaaRamN
namespace Go.Proofs.Ytnhafficnomlbaa
open Go.ChangeShapes Go.WideShapes Go.ChangeAt Go.RowKit
set_option linter.unusedVariables false

def pgZk (f : Nat → Int) (i k : Nat) : Bool := (List.range k).all fun j => f (256 * i + j) == 0
theorem pgZk_next (f : Nat → Int) (i k : Nat) : pgZk f i (k + 1) = (pgZk f i k && (f (256 * i + k) == 0)) := by
  unfold pgZk
  rw [List.range_succ, List.all_append]
  simp
set_option maxRecDepth 100000 in
set_option maxHeartbeats 2000000 in
theorem lwUsed_any (g : Nat) (f : Nat → Int) (w : World) (h : Blk w g 5 (rowF f 65536)) :
    Calls Try.prog 32 #[.slice (some ⟨g, 0, none⟩) 65536 65536] w (ReadsI w (usedF f 256)) := by
  have HR := Lib.hid h
  have hglt := h.lt
  clear h
  go_enter Try.func32, Try.ntmps32
  go_wp2
  go_loopw [3, 4] (fun v i wr => ∃ k : Nat, k ≤ 256 ∧ i = .int .i64 k ∧ Hid (eI.Own 3 wr w.heap.size v (usedF f k)) ∧ Hid (Below w.heap.size w wr)) (fun _ i _ => 256 - (intOf i).toNat)
  case atStart => exact ⟨0, Nat.zero_le _, rfl, Lib.hid (Els.Own.nil_ _ _), Lib.hid (Below.refl _ _)⟩
  case round =>
    obtain ⟨k, hk, rfl, HO, HW⟩ := hrel
    by_cases hlt : k < 256
    · have t0 : (0 : Int) ≤ k := by omega
      have t1 : (k : Int) < 256 := by omega
      have HB := Lib.hid (HR.out.below HW.out hglt)
      have HU := Lib.hid (usedF_next f k)
      have HL := Lib.hid (usedF_len f k)
      go_wp2
      go_loopw [5, 6] (fun b i w' => ∃ j : Nat, j ≤ 256 ∧ i = .int .i64 j ∧ b = .bool (!(pgZk f k j)) ∧ w' = wr) (fun _ i _ => 256 - (intOf i).toNat)
      case atStart => exact ⟨0, Nat.zero_le _, rfl, rfl, rfl⟩
      case round =>
        obtain ⟨j, hj, rfl, rfl, rfl⟩ := hrel
        by_cases hjl : j < 256
        · have j0 : (0 : Int) ≤ j := by omega
          have j1 : (j : Int) < 256 := by omega
          have k1 : IntKind.i64.wrap (256 * (k : Int)) = 256 * (k : Int) := IntWalk.i64_in _ (by omega)
          have k2 : IntKind.i64.wrap (256 * (k : Int) + (j : Int)) = 256 * (k : Int) + (j : Int) := IntWalk.i64_in _ (by omega)
          have k3 : (256 * (k : Int) + (j : Int)).toNat = 256 * k + j := by omega
          have k4 : (0 : Int) ≤ 256 * (k : Int) + (j : Int) := by omega
          have k5 : 256 * (k : Int) + (j : Int) < 65536 := by omega
          have c1 : wr.cell? ⟨g, 256 * k + j, none⟩ = some (.int .u8 (f (256 * k + j))) := by rw [HB.out.cell, rowF_at f 65536 _ (by omega)]
          have HZ := Lib.hid (pgZk_next f k j)
          cases hz : pgZk f k j with
          | false =>
            rw [hz, Bool.false_and] at HZ
            clear hz
            go_wp2
            go_roundw
            case rel => exact ⟨j + 1, by omega, by go_num, by first | (rw [HZ.out]; rfl) | rw [HZ.out], by first | rfl | trivial⟩
            case measure => simp [intOf] <;> omega
          | true =>
            rw [hz, Bool.true_and] at HZ
            clear hz
            generalize f (256 * k + j) = x at *
            go_wp2
            go_roundw
            case rel => exact ⟨j + 1, by omega, by go_num, by first | (rw [HZ.out]; rfl) | rw [HZ.out], by first | rfl | trivial⟩
            case measure => simp [intOf] <;> omega
        · obtain rfl : j = 256 := by omega
          have HZ : Hid (pgZk f k 256 = pgZ f k) := Lib.hid rfl
          cases hpz : pgZk f k 256 with
          | true =>
            rw [hpz] at HZ
            rw [← HZ.out, if_pos rfl, List.append_nil] at HU
            clear hpz
            go_wp2
            go_roundw
            case rel => exact ⟨k + 1, by omega, by go_num, Lib.hid (by rw [HU.out]; exact HO.out), HW⟩
            case measure => simp [intOf] <;> omega
          | false =>
            rw [hpz] at HZ
            rw [← HZ.out, if_neg (by simp)] at HU
            clear hpz
            go_wp2_with (at_builtin; refine wpList_appI rfl _ _ _ rfl w.heap.size _ _ _ [(k : Int)] rfl (Els.Own.alloc HO.out _) rfl (Els.Rd.new (E := eI) _ rfl 3 [_] #[.int .i64 (k : Int)] 1 rfl rfl 1) (by have := HL.out; simp at this ⊢; omega) (by have := HW.out.size; simp at this ⊢; omega) ?_; intro v' w3 ho3 hb3 hg3 hw3; have HO3 : Hid (eI.Own 3 w3 w.heap.size v' (usedF f (k + 1))) := Lib.hid (by rw [HU.out]; exact ho3); have HB3 := Lib.hid ((Below.alloc0 HW.out _).trans hb3); clear ho3 hb3 hg3 hw3)
            go_roundw
            case rel => exact ⟨k + 1, by omega, by go_num, HO3, HB3⟩
            case measure => simp [intOf] <;> omega
    · obtain rfl : k = 256 := by omega
      go_wp2
      go_ret
      exact ⟨_, rfl, HO.out.rd, HW.out⟩
end Go.Proofs.Ytnhafficnomlbaa
