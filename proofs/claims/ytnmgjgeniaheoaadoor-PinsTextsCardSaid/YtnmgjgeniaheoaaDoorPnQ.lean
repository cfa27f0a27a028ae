/- Contracts: the document's One. -/
import Derived.Test.YtnmgjgeniaheoaaDoorPnO
namespace Go.Proofs.YtnmgjgeniaheoaaDoor
open Go.ChangeShapes Go.WideShapes Go.ChangeAt Go.RowKit
set_option linter.unusedVariables false

theorem pn_mod (n : Nat) : pnN n = ⟨(n : Int) % 2 == 1, (n : Int) / 2 % 2 == 1, (n : Int) / 4 % 2 == 1, (n : Int) / 8 % 2 == 1, (n : Int) / 16 % 2 == 1, (n : Int) / 32 % 2 == 1⟩ := by
  have key : ∀ m : Nat, (m % 2 == 1) = ((m : Int) % 2 == 1) := fun m => by
    rw [Bool.eq_iff_iff, beq_iff_eq, beq_iff_eq]; omega
  unfold pnN
  rw [key, key, key, key, key, key]
  rfl
set_option maxRecDepth 100000 in
set_option maxHeartbeats 8000000 in
theorem refOne_any (s : ByteArray) (w : World) : Calls Tryd.prog 14 #[.string s] w fun e w' => e = .returned (.tuple #[.agg (onP s).cells, .bool (onB s)]) ∧ Below w.heap.size w w' := by
  obtain ⟨n, hn⟩ : ∃ n, w.heap.size = n := ⟨_, rfl⟩
  obtain ⟨V, hV⟩ : ∃ V, w.alloc (.cells zPn.cells 24) = V := ⟨_, rfl⟩
  have Z0 : Hid (Blk V n 24 zPn.cells) := Lib.hid (by rw [← hV, ← hn]; exact Blk.new _ _ _ _)
  have B0 : Hid (Below n w V) := Lib.hid (by rw [← hV, ← hn]; exact Below.alloc0 (Below.refl _ _) _)
  have CW := Lib.hid (fun x u => refPnWord_any x u)
  have HM := Lib.hid pn_mod
  rw [hn]
  go_enter Tryd.func14, Tryd.ntmps14
  go_wp2
  clear hV
  go_loopw [4] (fun i wr => ∃ k : Nat, k ≤ 64 ∧ i = .int .i64 k ∧ Hid (∀ m, m < k → pnW (pnN m) ≠ s) ∧ Hid (Blk wr n 24 zPn.cells) ∧ Hid (Below n w wr)) (fun i _ => 64 - (intOf i).toNat)
  case atStart => exact ⟨0, by omega, rfl, Lib.hid (fun m h => absurd h (by omega)), Z0, B0⟩
  case round =>
    obtain ⟨k, hk, rfl, HA, Z1, B1⟩ := hrel
    obtain ⟨z0, z1, z2, z3, z4, z5⟩ := Z1.out.c6
    obtain ⟨f0, f1, f2, f3, f4, f5⟩ := Z1.out.fr6
    by_cases hlt : k < 64
    · have hm := HM.out k
      have k1 : (k : Int) < 64 := by omega
      have k0 : (0 : Int) ≤ k := by omega
      obtain ⟨y0, hy0⟩ : ∃ y, ((k : Int) % 2 == 1) = y := ⟨_, rfl⟩
      obtain ⟨y1, hy1⟩ : ∃ y, ((k : Int) / 2 % 2 == 1) = y := ⟨_, rfl⟩
      obtain ⟨y2, hy2⟩ : ∃ y, ((k : Int) / 4 % 2 == 1) = y := ⟨_, rfl⟩
      obtain ⟨y3, hy3⟩ : ∃ y, ((k : Int) / 8 % 2 == 1) = y := ⟨_, rfl⟩
      obtain ⟨y4, hy4⟩ : ∃ y, ((k : Int) / 16 % 2 == 1) = y := ⟨_, rfl⟩
      obtain ⟨y5, hy5⟩ : ∃ y, ((k : Int) / 32 % 2 == 1) = y := ⟨_, rfl⟩
      rw [hy0, hy1, hy2, hy3, hy4, hy5] at hm
      have CX := Lib.hid (CW.out ⟨y0, y1, y2, y3, y4, y5⟩)
      have HX := Lib.hid hm
      clear hm z0 z1 z2 z3 z4 z5 f0 f1 f2 f3 f4 f5
      obtain ⟨W, hW⟩ : ∃ W, wr.alloc (Obj.cells #[.bool y0, .bool y1, .bool y2, .bool y3, .bool y4, .bool y5] 24) = W := ⟨_, rfl⟩
      obtain ⟨g, hg⟩ : ∃ g, wr.heap.size = g := ⟨_, rfl⟩
      have ZW : Hid (Blk W n 24 zPn.cells) := Lib.hid (by rw [← hW]; exact Blk.alloc Z1.out _)
      have PW : Hid (Blk W g 24 #[.bool y0, .bool y1, .bool y2, .bool y3, .bool y4, .bool y5]) := Lib.hid (by rw [← hW, ← hg]; exact Blk.new _ _ _ _)
      have BW : Hid (Below n w W) := Lib.hid (by rw [← hW]; exact B1.out.trans ((Below.alloc0 (Below.refl _ _) _).mono (by have := Z1.out.lt; omega)))
      obtain ⟨T, hT⟩ : ∃ T, pnW ⟨y0, y1, y2, y3, y4, y5⟩ = T := ⟨_, rfl⟩
      rw [hT] at CX
      have HT := Lib.hid hT
      clear hT
      obtain ⟨b, hb⟩ : ∃ b, (T.toList == s.toList) = b := ⟨_, rfl⟩
      have HBq := Lib.hid hb
      have PP := PW.out.c6
      go_wp2_with fail
      refine (CX.out _).mono ?_
      rintro e w2 ⟨rfl, hb2⟩
      have Z2 := Lib.hid (Blk.below ZW.out hb2 ZW.out.lt)
      have P2 := Lib.hid (Blk.below PW.out hb2 PW.out.lt)
      have B2 := Lib.hid (BW.out.trans (hb2.mono (by have := ZW.out.lt; omega)))
      obtain ⟨p0, p1, p2, p3, p4, p5⟩ := P2.out.c6
      obtain ⟨z0, z1, z2, z3, z4, z5⟩ := Z2.out.c6
      obtain ⟨f0, f1, f2, f3, f4, f5⟩ := Z2.out.fr6
      clear hb2 hW hg PP hy0 hy1 hy2 hy3 hy4 hy5
      cases b
      case true =>
        have ON : Hid (oneP s = some ⟨y0, y1, y2, y3, y4, y5⟩) := Lib.hid (one_of (by
          rw [HT.out]
          have := HBq.out
          rw [beq_iff_eq, ByteArray.toList_eq, ByteArray.toList_eq] at this
          exact ByteArray.ext (Array.toList_inj.1 this)))
        go_wp2
        exact bodyPost_ret (v := .tuple #[.agg #[.bool y0, .bool y1, .bool y2, .bool y3, .bool y4, .bool y5], .bool true]) (res14 _ _ n _ (Blk.set6 Z2.out) rfl rfl true rfl) rfl ⟨retOne (x := ⟨y0, y1, y2, y3, y4, y5⟩) (by rw [onP, ON.out]; rfl) (by rw [onB, ON.out]; rfl), Below.set6 B2.out (by omega) _ _ _ _ _ _⟩
      case false =>
        have HA2 : Hid (∀ m, m < k + 1 → pnW (pnN m) ≠ s) := Lib.hid (fun m hm => by
          by_cases q : m = k
          · rw [q, HX.out, HT.out]
            intro e
            have := HBq.out
            rw [e] at this
            simp at this
          · exact HA.out m (by omega))
        go_wp2
        go_roundw
        case rel => exact ⟨k + 1, by omega, by go_num, HA2, Z2, B2⟩
        case measure => simp [intOf]; omega
    · have k1 : ¬ (k : Int) < 64 := by omega
      have ON : Hid (oneP s = none) := Lib.hid (one_none (fun m hm => HA.out m (by omega)))
      clear hlt hk
      go_wp2
      exact bodyPost_ret (v := .tuple #[.agg zPn.cells, .bool false]) (res14 _ _ n _ (Blk.set6 Z1.out) rfl rfl false rfl) rfl ⟨retOne (x := zPn) (by rw [onP, ON.out]; rfl) (by rw [onB, ON.out]; rfl), Below.set6 B1.out (by omega) _ _ _ _ _ _⟩
end Go.Proofs.YtnmgjgeniaheoaaDoor
