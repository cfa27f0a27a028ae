/- The contract of the document's own answer, what an opcode stands for (spinetref14.Of). -/
import Derived.Test.YtljhfalgplihhaaGreatDoorPagD
import Derived.Test.YtljhfalgplihhaaGreatDoorGPag
namespace Go.Proofs.YtljhfalgplihhaaGreatDoor
open Go.ChangeShapes Go.WideShapes Go.ChangeAt Go.RowKit
set_option linter.unusedVariables false

theorem all5_len : all5.length = 268 := by rw [all5_eq, List.length_map, List.length_range]
theorem all5_at (i : Nat) (h : i < 268) : all5.getD i (0, 0, 0, 0, 0) = e5 i := by
  rw [all5_eq, List.getD_eq_getElem?_getD, List.getElem?_map, List.getElem?_range h]; rfl
theorem lst_blk {w : World} {base : Nat} {v : Value} (h : Lst w base v all5) :
    ∃ g cap cur, v = .slice (some ⟨g, 0, none⟩) 268 cap ∧ base ≤ g ∧ Blk w g 76 cur ∧ 268 ≤ cap ∧ ∀ k j, k < 268 → j < 5 → cur[k * 5 + j]? = (k5C (e5 k))[j]? := by
  unfold Lst at h
  rw [all5_len] at h
  obtain ⟨hl, h2⟩ := h
  rcases h2 with ⟨_, h2⟩ | ⟨g, cap, cur, rfl, h3, h4, h5, h6, h7, h8⟩
  · exact absurd h2 (by decide)
  · refine ⟨g, cap, cur, rfl, h3, h4, h5, fun k j hk hj => ?_⟩
    have e : (cur.toList.take (268 * 5))[5 * k + j]? = (kC all5)[5 * k + j]? := by rw [h8]
    rw [List.getElem?_take_of_lt (by omega), Array.getElem?_toList, kC_at _ _ _ (by rw [all5_len]; exact hk) hj, all5_at k hk] at e
    rw [show k * 5 + j = 5 * k + j by omega, e]
set_option maxRecDepth 100000 in
set_option maxHeartbeats 4000000 in
theorem refOf14 (p ci : Int) (c : Nat) (hc : c < 256) (hci : (c : Int) = ci) (w : World) :
    Calls Tryz.prog 14 #[.int .i64 p, .int .i64 ci] w fun e w' => e = .returned (.agg (entA (ofN p c))) ∧ Below w.heap.size w w' := by
  obtain ⟨J, hJ⟩ : ∃ J, findP p ci = J := ⟨_, rfl⟩
  have hJ0 : J = fnd (hitP p ci) (268 - 0) 0 := hJ.symm
  have HPE := Lib.hid (findP_eq p c hc)
  rw [hci, hJ] at HPE
  have HJ := Lib.hid hJ0
  clear hJ hJ0 hci
  obtain ⟨N, hN⟩ : ∃ N, ofN p c = N := ⟨_, rfl⟩
  rw [hN] at HPE
  rw [hN]
  clear hN
  go_enter Tryz.func14, Tryz.ntmps14
  go_wp2_with fail
  refine (all_any _).mono ?_
  rintro e w1 ⟨v1, rfl, hL, hb1⟩
  obtain ⟨g, cap, cur, rfl, hg, hB, hcap, hcur⟩ := lst_blk hL
  have HB := Lib.hid hB
  have HCu := Lib.hid hcur
  have HCap := Lib.hid hcap
  have HZ := Lib.hid (Blk.below (Blk.new w 35 #[.int .i64 0, .int .i64 0, .int .i64 0] (0, 0)) hb1 (by simp))
  have HBel := Lib.hid (Below.trans0 (Below.alloc0 (Below.refl _ w) (Obj.cells #[.int .i64 0, .int .i64 0, .int .i64 0] 35)) hb1)
  have hlt0 := HZ.out.lt
  clear hL hb1 hg hB hcap hcur
  go_wp2
  go_loop [6] (fun u6 => ∃ k : Nat, k ≤ 268 ∧ u6 = .int .i64 k ∧ Hid (J = fnd (hitP p ci) (268 - k) k)) (fun u6 => 268 - (intOf u6).toNat)
  case atStart => exact ⟨0, Nat.zero_le _, rfl, HJ⟩
  case round =>
    obtain ⟨k, hk, rfl, HF⟩ := hrel
    by_cases hlt : k < 268
    · have C0 := (HB.out.cell (k * 5)).trans (HCu.out k 0 hlt (by decide))
      have C1 := (HB.out.cell (k * 5 + 1)).trans (HCu.out k 1 hlt (by decide))
      have C2 := (HB.out.cell (k * 5 + 2)).trans (HCu.out k 2 hlt (by decide))
      have C3 := (HB.out.cell (k * 5 + 3)).trans (HCu.out k 3 hlt (by decide))
      have C4 := (HB.out.cell (k * 5 + 4)).trans (HCu.out k 4 hlt (by decide))
      simp only [k5C, e5, List.getElem?_cons_zero, List.getElem?_cons_succ] at C0 C1 C2 C3 C4
      have HH : Hid (hitP p ci k = (((aP k : Int) == p) && ((aC k : Int) == ci))) := Lib.hid rfl
      obtain ⟨x0, hx0⟩ : ∃ x : Int, (aP k : Int) = x := ⟨_, rfl⟩
      obtain ⟨x1, hx1⟩ : ∃ x : Int, (aC k : Int) = x := ⟨_, rfl⟩
      rw [hx0] at C0 HH
      rw [hx1] at C1 HH
      clear hx0 hx1
      have HK := Lib.hid hk
      have HLt := Lib.hid hlt
      have k0 : (0 : Int) ≤ (k : Int) := by omega
      have k1 : (k : Int) < 268 := by omega
      clear hk hlt
      by_cases b1 : x0 = p
      · have e1 : (x0 == p) = true := by simpa using b1
        by_cases b2 : x1 = ci
        · have e2 : (x1 == ci) = true := by simpa using b2
          have HV : Hid (aE k = N) := Lib.hid (by
            have hv : J = k := by rw [HF.out, fnd_hit _ _ _ HLt.out (by rw [HH.out, e1, e2]; rfl)]
            have := HPE.out
            rw [hv] at this
            rcases this with ⟨_, h⟩ | ⟨h, _⟩
            · exact h
            · have := HLt.out; omega)
          rw [HV.out] at C2 C3 C4
          obtain ⟨z0, z1, z2⟩ := HZ.out.s3
          obtain ⟨y0, y1, y2⟩ := HZ.out.f3
          clear b1 b2
          go_wp2
          refine bodyPost_ret (v := _) ?_ rfl ⟨rfl, ?_⟩
          · simp [results, Tryz.results14, go_sem, z0, z1, z2]
          · repeat (first | exact HBel.out | apply Below.alloc0 | refine Below.setCell ?_ (by simp) _)
        · have e2 : (x1 == ci) = false := by simpa using b2
          have HN : Hid (fnd (hitP p ci) (268 - k) k = fnd (hitP p ci) (268 - (k + 1)) (k + 1)) := Lib.hid (fnd_step _ _ _ HLt.out (by rw [HH.out, e1, e2]; rfl))
          clear b1 b2
          go_wp2
          go_round
          case rel => exact ⟨k + 1, by have := HLt.out; omega, by go_num, Lib.hid (by rw [HF.out, HN.out])⟩
          case measure => simp [intOf]; omega
      · have e1 : (x0 == p) = false := by simpa using b1
        have HN : Hid (fnd (hitP p ci) (268 - k) k = fnd (hitP p ci) (268 - (k + 1)) (k + 1)) := Lib.hid (fnd_step _ _ _ HLt.out (by rw [HH.out, e1]; rfl))
        clear b1
        go_wp2
        go_round
        case rel => exact ⟨k + 1, by have := HLt.out; omega, by go_num, Lib.hid (by rw [HF.out, HN.out])⟩
        case measure => simp [intOf]; omega
    · obtain rfl : k = 268 := by omega
      have hn : N = 0 := by
        have hv : J = 268 := by rw [HF.out]; rfl
        rcases HPE.out with ⟨h, _⟩ | ⟨_, h⟩
        · omega
        · exact h
      subst hn
      obtain ⟨z0, z1, z2⟩ := HZ.out.s3
      obtain ⟨y0, y1, y2⟩ := HZ.out.f3
      go_wp2
      refine bodyPost_ret (v := _) ?_ rfl ⟨rfl, ?_⟩
      · simp [results, Tryz.results14, go_sem, z0, z1, z2, eOp, eMode, eReg]
      · repeat (first | exact HBel.out | apply Below.alloc0 | refine Below.setCell ?_ (by simp) _)
end Go.Proofs.YtljhfalgplihhaaGreatDoor
