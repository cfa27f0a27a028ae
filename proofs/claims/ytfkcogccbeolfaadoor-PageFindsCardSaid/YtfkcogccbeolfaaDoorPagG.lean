/- The laws PageFinds, PageCodes, over numbers. -/
import Derived.Test.YtfkcogccbeolfaaDoorPagE
import Derived.Test.YtfkcogccbeolfaaDoorPagF
import Derived.Test.YtfkcogccbeolfaaDoorPagL
namespace Go.Proofs.YtfkcogccbeolfaaDoor
open Go.ChangeShapes Go.WideShapes Go.ChangeAt Go.RowKit
set_option linter.unusedVariables false

set_option maxRecDepth 100000 in
set_option maxHeartbeats 4000000 in
theorem finds_core (x y z P C : Int) (B : Bool) (A : Nat) (hA : A = fnd (hitA x y z) (268 - 0) 0) (hC0 : 0 ≤ C) (hC1 : C < 256)
    (hFind : ∀ w, PagAt w → Calls Tryd.prog 25 #[.agg (ent3 x y z)] w fun e w' => e = .returned (.tuple #[.int .i64 P, .int .u8 C, .bool B]) ∧ Below w.heap.size w w')
    (hhit : ∀ k, k < 268 → A = k → P = (aP k : Int) ∧ C = (aC k : Int) ∧ B = true) (hno : A = 268 → P = 0 ∧ C = 0 ∧ B = false) (w : World) (hT : PagAt w) :
    Calls Tryd.prog 6 #[.agg (ent3 x y z)] w fun e w' => e = .returned (.bool true) ∧ Below w.heap.size w w' := by
  have HT := Lib.hid hT
  have HT0 := Lib.hid (hT.below (Below.alloc0 (Below.refl _ w) (Obj.cells (ent3 x y z) 33)))
  have HA := Lib.hid hA
  have HF := Lib.hid hFind
  have HH := Lib.hid hhit
  have HN := Lib.hid hno
  clear hT hA hFind hhit hno
  go_enter Tryd.func6, Tryd.ntmps6
  go_wp2_with fail
  refine (HF.out _ HT0.out).mono ?_
  rintro e w1 ⟨rfl, hb1⟩
  have HE1 := Lib.hid (Blk.below (Blk.new w 33 (ent3 x y z) (0, 0)) hb1 (by simp))
  have HB1 := Lib.hid (Below.trans0 (Below.alloc0 (Below.refl _ w) (Obj.cells (ent3 x y z) 33)) hb1)
  clear hb1
  go_wp2_with fail
  refine (all_any _).mono ?_
  rintro e w2 ⟨v, rfl, hL, hb2⟩
  obtain ⟨g, cap, cur, rfl, hg, hB, hcap, hcur⟩ := lst_blk hL
  have HL := Lib.hid hB
  have HCu := Lib.hid hcur
  have HE := Lib.hid (Blk.below HE1.out hb2 HE1.out.lt)
  have HB2 := Lib.hid (Below.trans0 HB1.out hb2)
  clear hL hb2 hg hB hcap hcur HB1 HE1
  go_wp2
  go_loopw [7] (fun u7 wr => ∃ k : Nat, k ≤ 268 ∧ u7 = .int .i64 k ∧ Hid (Blk wr g 43 cur) ∧ Hid (Blk wr w.heap.size 33 (ent3 x y z)) ∧ Hid (Below w.heap.size w wr) ∧ Hid (A = fnd (hitA x y z) (268 - k) k)) (fun u7 _ => 268 - (intOf u7).toNat)
  case atStart => exact ⟨0, Nat.zero_le _, rfl, HL, HE, HB2, HA⟩
  case round =>
    clear HL HE HB2
    obtain ⟨k, hk, rfl, HL, HE, HB2, HJ⟩ := hrel
    by_cases hlt : k < 268
    · have C0 := (HL.out.cell (k * 5)).trans (HCu.out k 0 hlt (by decide))
      have C1 := (HL.out.cell (k * 5 + 1)).trans (HCu.out k 1 hlt (by decide))
      have C2 := (HL.out.cell (k * 5 + 2)).trans (HCu.out k 2 hlt (by decide))
      have C3 := (HL.out.cell (k * 5 + 3)).trans (HCu.out k 3 hlt (by decide))
      have C4 := (HL.out.cell (k * 5 + 4)).trans (HCu.out k 4 hlt (by decide))
      simp only [k5C, e5, List.getElem?_cons_zero, List.getElem?_cons_succ] at C0 C1 C2 C3 C4
      have hq := HH.out k hlt
      have he : ∀ w, (binOp .eql 33 (.agg (entA (aE k))) (.agg (ent3 x y z))).run Tryd.prog w = .ok (.bool (hitA x y z k)) w := fun w => by rw [eql_ent, hitE_comm]; rfl
      unfold entA at he
      obtain ⟨x0, hx0⟩ : ∃ a : Int, (aP k : Int) = a := ⟨_, rfl⟩
      obtain ⟨x1, hx1⟩ : ∃ a : Int, (aC k : Int) = a := ⟨_, rfl⟩
      obtain ⟨x2, hx2⟩ : ∃ a : Int, (eOp (aE k) : Int) = a := ⟨_, rfl⟩
      obtain ⟨x3, hx3⟩ : ∃ a : Int, (eMode (aE k) : Int) = a := ⟨_, rfl⟩
      obtain ⟨x4, hx4⟩ : ∃ a : Int, (eReg (aE k) : Int) = a := ⟨_, rfl⟩
      rw [hx0] at C0 hq
      rw [hx1] at C1 hq
      rw [hx2] at C2 he
      rw [hx3] at C3 he
      rw [hx4] at C4 he
      have HQ := Lib.hid hq
      have HC := Lib.hid (And.intro C2 (And.intro C3 C4))
      have HC0 := Lib.hid C0
      have HC1 := Lib.hid C1
      clear hx0 hx1 hx2 hx3 hx4 hq C0 C1 C2 C3 C4
      have HLt := Lib.hid hlt
      have k0 : (0 : Int) ≤ (k : Int) := by omega
      have k1 : (k : Int) < 268 := by omega
      cases hh : hitA x y z k
      all_goals
        rw [hh] at he
        have HHh := Lib.hid hh
        clear hh
        go_wp2
        go_region_held3 (fun w' => (w'.cell? ⟨g, k * 5 + 2, none⟩ = some (.int .i64 x2) ∧ w'.cell? ⟨g, k * 5 + 3, none⟩ = some (.int .i64 x3) ∧ w'.cell? ⟨g, k * 5 + 4, none⟩ = some (.int .i64 x4)) ∧ (w'.cell? ⟨w.heap.size, 0, none⟩ = some (.int .i64 x) ∧ w'.cell? ⟨w.heap.size, 1, none⟩ = some (.int .i64 y) ∧ w'.cell? ⟨w.heap.size, 2, none⟩ = some (.int .i64 z)))
          (exact ⟨HC.out, HE.out.s3⟩) (fail)
      · go_wp2
        go_roundw
        case rel => exact ⟨k + 1, by have := HLt.out; omega, by go_num, HL, HE, Lib.hid (Below.drew0 HB2.out), Lib.hid (by rw [HJ.out, fnd_step _ _ _ HLt.out HHh.out])⟩
        case measure => simp [intOf]; omega
      · obtain ⟨h1, h2, h3⟩ := HQ.out (by rw [HJ.out, fnd_hit _ _ _ HLt.out HHh.out])
        subst h1 h2 h3
        have C0 := HC0.out
        have C1 := HC1.out
        have b1 : (P == P) = true := by simp
        have b2 : (C == C) = true := by simp
        clear he
        go_wp2_with fail
        refine (alive14 _ (HT.out.below (Below.drew0 HB2.out))).mono ?_
        rintro e w4 ⟨rfl, hb4⟩
        have HB4 := Lib.hid (Below.trans0 (Below.drew0 HB2.out) hb4)
        clear hb4
        go_wp2
        go_ret
        exact ⟨rfl, HB4.out⟩
    · obtain rfl : k = 268 := by omega
      obtain ⟨rfl, rfl, rfl⟩ := HN.out (by rw [HJ.out]; rfl)
      go_wp2_with fail
      refine (alive14 _ (HT.out.below HB2.out)).mono ?_
      rintro e w4 ⟨rfl, hb4⟩
      have HB4 := Lib.hid (Below.trans0 HB2.out hb4)
      clear hb4
      go_wp2
      go_ret
      exact ⟨rfl, HB4.out⟩
theorem law_finds (x y z : Int) (w : World) (hT : PagAt w) :
    Calls Tryd.prog 6 #[.agg (ent3 x y z)] w fun e w' => e = .returned (.bool true) ∧ Below w.heap.size w w' := by
  by_cases h0 : x = 0 ∧ y = 0 ∧ z = 0
  · obtain ⟨rfl, rfl, rfl⟩ := h0
    refine finds_core 0 0 0 0 0 false 268 findA_zero.symm (by decide) (by decide) (fun w _ => pageFind_zero w) (fun k hk he => by omega) (fun _ => ⟨rfl, rfl, rfl⟩) w hT
  · have hf := finds_eq x y z h0
    refine finds_core x y z _ _ _ (findA x y z) rfl ?_ ?_ (fun w hT => pageFind_some x y z h0 w hT) ?_ ?_ w hT
    · unfold fCode; split <;> omega
    · unfold fCode; split <;> omega
    · intro k hk he
      rcases hf with ⟨h1, h2⟩ | ⟨h1, h2⟩
      · rw [he] at h2
        obtain ⟨a1, a2, a3, a4, a5, a6⟩ := all_inv k hk
        have hlt : findT x y z < 768 := by omega
        unfold fPage fCode
        rw [if_pos hlt, if_pos hlt]
        refine ⟨by omega, by omega, by simpa using hlt⟩
      · omega
    · intro he
      rcases hf with ⟨h1, h2⟩ | ⟨h1, h2⟩
      · omega
      · unfold fPage fCode
        rw [h2]
        exact ⟨rfl, rfl, rfl⟩
end Go.Proofs.YtfkcogccbeolfaaDoor
