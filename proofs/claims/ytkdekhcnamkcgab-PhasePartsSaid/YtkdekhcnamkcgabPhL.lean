/- The law PhaseRows, over numbers; the chapter's example. -/
import Derived.Test.YtkdekhcnamkcgabOpn
import Derived.Test.YtkdekhcnamkcgabRowP
namespace Go.Proofs.Ytkdekhcnamkcgab
open Go.ChangeShapes Go.WideShapes Go.ChangeAt Go.RowKit
set_option linter.unusedVariables false

set_option maxRecDepth 100000 in
set_option maxHeartbeats 1000000 in
theorem alive22 (w : World) : Calls Try.prog 10 #[] w fun e w' => e = .returned (.bool true) ∧ Below w.heap.size w w' := by
  go_enter Try.func10, Try.ntmps10
  go_wp2_with fail
  refine (ahead_st 3 _).mono ?_
  rintro e w1 ⟨v1, rfl, hr1, hb1⟩
  have R1 := Lib.hid (hr1.alloc (.cells #[.int .i64 2, .bool false, .int .i64 4, .bool false] 25))
  have B1 := Lib.hid (Below.alloc0 hb1 (.cells #[.int .i64 2, .bool false, .int .i64 4, .bool false] 25))
  have R2 := Lib.hid (Rd.lit w1 [(2, false), (4, false)] #[.int .i64 2, .bool false, .int .i64 4, .bool false] 2 rfl rfl 2)
  clear hr1 hb1
  go_wp2_with fail
  refine (eqSt_any _ _ _ _ _ R1.out R2.out (by decide) (by decide)).mono ?_
  rintro e w2 ⟨rfl, k, rfl⟩
  have e0 : (aheadL 3 == [(2, false), (4, false)]) = true := by decide
  rw [e0]
  go_wp2
  go_ret
  exact ⟨rfl, Below.drewN0 B1.out k⟩
theorem RdL.below {w w' : World} {A : Option Addr} {n : Nat} {ls : List (List Stp)} (h : RdL w A n ls) (hb : Below w.heap.size w w') : RdL w' A n ls := ⟨h.1, fun h0 => by
  obtain ⟨g, off, e, hg, hc⟩ := h.2 h0
  exact ⟨g, off, e, Nat.lt_of_lt_of_le hg hb.size, fun i hi => by
    obtain ⟨v, h1, h2⟩ := hc i hi
    exact ⟨v, (hb.cell (p := ⟨g, off + i, none⟩) hg).trans h1, h2.below hb⟩⟩⟩
theorem someL_next (k : Int) (n : Nat) : someL k (n + 1) = someL k n ++ [(k, false)] := by unfold someL; rw [List.replicate_succ']
theorem flat_le20 (ls : List (List Stp)) (k : Nat) (h : ∀ i, i < k → (ls.getD i []).length ≤ 20) (hk : k ≤ ls.length) : (ls.take k).flatten.length ≤ 20 * k := by
  induction k with
  | zero => simp
  | succ k ih =>
    rw [flat_next ls k hk, List.length_append]
    have := ih (fun i hi => h i (by omega)) (by omega)
    have := h k (by omega)
    omega
set_option maxRecDepth 100000 in
set_option maxHeartbeats 4000000 in
theorem law_rows22 (kind n : Int) (A : Option Addr) (len cap : Nat) (ls : List (List Stp)) (w : World) (hz : RowsIn w A len cap ls) :
    Calls Try.prog 3 #[.int .i64 kind, .int .i64 n, .slice A len cap] w fun e w' => e = .returned (.bool true) ∧ Below w.heap.size w w' := by
  obtain ⟨hL, hlen, hls⟩ := hz
  have HL := Lib.hid hL
  have HS := Lib.hid hls
  clear hL hls
  have HB0 := Lib.hid (Below.refl w.heap.size w)
  have HW0 := Lib.hid (Sts.nil_ w w.heap.size)
  by_cases h1 : 200 < n
  · go_enter Try.func3, Try.ntmps3
    go_wp2
    go_ret
    exact ⟨rfl, HB0.out⟩
  by_cases h2 : 20 < len
  · have d2 : decide ((20 : Int) < (len : Int)) = true := decide_eq_true (by omega)
    go_enter Try.func3, Try.ntmps3
    go_wp2
    go_ret
    exact ⟨rfl, HB0.out⟩
  have d2 : decide ((20 : Int) < (len : Int)) = false := decide_eq_false (by omega)
  go_enter Try.func3, Try.ntmps3
  go_wp2
  go_loopw [7, 9] (fun u7 u9 wr => ∃ j : Nat, (j : Int) ≤ max n 0 ∧ u9 = .int .i64 j ∧ Hid (Sts wr w.heap.size u7 (someL kind j)) ∧ Hid (Below w.heap.size w wr)) (fun _ u9 _ => (max n 0).toNat - (intOf u9).toNat)
  case atStart => exact ⟨0, by omega, rfl, HW0, HB0⟩
  case round =>
    clear HW0 HB0
    obtain ⟨j, hj, rfl, HW, HB⟩ := hrel
    by_cases hlt : (j : Int) < n
    · have HSL := Lib.hid (show (someL kind j).length + [(kind, false)].length ≤ 1099511627776 by unfold someL; rw [List.length_replicate]; simp; omega)
      go_wp2_with (at_builtin; refine wpList_appSt rfl _ (.tmp 23) (.tmp 26) rfl w.heap.size _ _ _ [(kind, false)] rfl (HW.out.alloc _) rfl (Rd.lit wr [(kind, false)] _ 1 rfl rfl 1) HSL.out (by have := HB.out.size; simp; omega) ?_)
      intro v' w' q1 q2 q3
      have HW2 := Lib.hid q1
      have HB2 := Lib.hid ((Below.alloc0 HB.out _).trans q2)
      clear q1 q2 q3
      go_wp2
      go_roundw
      case rel => exact ⟨j + 1, by omega, by go_num, Lib.hid (by rw [someL_next]; exact HW2.out), HB2⟩
      case measure => simp [intOf]; omega
    · have HN : Hid (someN n = j) := Lib.hid (by unfold someN; omega)
      have HZ0 := Lib.hid (Sts.nil_ wr wr.heap.size)
      have HX0 := Lib.hid (Below.refl wr.heap.size wr)
      clear hj
      go_wp2
      clear hlt
      generalize wr = W1 at HW HB HZ0 HX0 ⊢
      go_loopw [8, 10] (fun u8 u10 wx => ∃ k : Nat, k ≤ len ∧ u10 = .int .i64 k ∧ Hid (∀ i, i < k → (ls.getD i []).length ≤ 20) ∧ Hid (Sts wx W1.heap.size u8 (ls.take k).flatten) ∧ Hid (Below W1.heap.size W1 wx)) (fun _ u10 _ => len - (intOf u10).toNat)
      case atStart => exact ⟨0, Nat.zero_le _, rfl, Lib.hid (fun i hi => absurd hi (by omega)), HZ0, HX0⟩
      case round =>
        clear HZ0 HX0
        obtain ⟨k, hk, rfl, HQ, HA, HX⟩ := hrel
        have HB2 := Lib.hid (Below.trans0 HB.out HX.out)
        by_cases hkl : k < len
        · obtain ⟨g, off, rfl, hg, hcell⟩ := HL.out.2 (by omega)
          obtain ⟨v, hc, hr⟩ := hcell k hkl
          have hcw : wr.cell? ⟨g, off + k, none⟩ = some v := (HB2.out.cell (p := ⟨g, off + k, none⟩) hg).trans hc
          have HR := Lib.hid (Rd.below hr HB2.out)
          have HF := Lib.hid (flat_next ls k (by rw [HL.out.1]; exact hkl))
          have HLe := Lib.hid (flat_le20 ls k HQ.out (by rw [HL.out.1]; omega))
          have hk0 : (0 : Int) ≤ k := by omega
          have hkn : (k : Int) < len := by omega
          obtain ⟨A', c', rfl, _⟩ := hr.open_
          have hmx := HS.out k hkl
          obtain ⟨L, hLen⟩ : ∃ L, (ls.getD k []).length = L := ⟨_, rfl⟩
          have HLen := Lib.hid hLen
          rw [hLen] at HR hcw hmx
          clear hcell hc hr hLen
          by_cases h20 : 20 < L
          · have e20 : decide ((20 : Int) < (L : Int)) = true := decide_eq_true (by omega)
            go_wp2
            go_ret
            exact ⟨rfl, HB2.out⟩
          · have e20 : decide ((20 : Int) < (L : Int)) = false := decide_eq_false (by omega)
            have HH := Lib.hid h20
            clear h20
            go_wp2_with (at_builtin; refine wpList_appSt rfl _ (.tmp 40) (.tmp 44) rfl W1.heap.size _ _ _ _ rfl HA.out rfl HR.out (by have := HLe.out; have := HLen.out; have := HH.out; omega) HX.out.size ?_)
            intro v' w' q1 q2 q3
            have HA2 := Lib.hid q1
            have HX2 := Lib.hid (HX.out.trans q2)
            have HQ2 : Hid (∀ i, i < k + 1 → (ls.getD i []).length ≤ 20) := Lib.hid (fun i hi => by
              rcases Nat.lt_or_ge i k with a | a
              · exact HQ.out i a
              · obtain rfl : i = k := by omega
                rw [HLen.out]; exact Nat.le_of_not_lt HH.out)
            clear q1 q2 q3
            go_wp2
            go_roundw
            case rel => exact ⟨k + 1, by omega, by go_num, HQ2, Lib.hid (by rw [HF.out]; exact HA2.out), HX2⟩
            case measure => simp [intOf]; omega
        · have HE := Lib.hid (List.take_of_length_le (show ls.length ≤ k by rw [HL.out.1]; omega))
          have RW := Lib.hid (Rd.below HW.out.rd HX.out)
          have RA := Lib.hid HA.out.rd
          have HL2 := Lib.hid (RdL.below HL.out HB2.out)
          have HLe := Lib.hid (flat_le20 ls k HQ.out (by rw [HL.out.1]; omega))
          rw [HE.out] at RA HLe
          go_wp2_with fail
          refine (some_any kind n _).mono ?_
          rintro e w1 ⟨v1, rfl, hr1, hb1⟩
          replace RW := Lib.hid (RW.out.below hb1)
          replace RA := Lib.hid (RA.out.below hb1)
          replace HL2 := Lib.hid (RdL.below HL2.out hb1)
          have HB3 := Lib.hid (Below.trans0 HB2.out hb1)
          have R1 := Lib.hid hr1
          clear hr1 hb1
          have HJ := Lib.hid (show (someL kind (someN n)).length ≤ 1099511627776 by unfold someL; rw [List.length_replicate]; have := someN_le n; omega)
          go_wp2_with fail
          refine (eqSt_same _ _ _ _ _ R1.out RW.out (by rw [HN.out]) HJ.out).mono ?_
          rintro e w2 ⟨rfl, hb1⟩
          replace RA := Lib.hid (RA.out.below hb1)
          replace HL2 := Lib.hid (RdL.below HL2.out hb1)
          replace HB3 := Lib.hid (Below.trans0 HB3.out hb1)
          clear R1 RW HJ hb1
          go_wp2_with fail
          refine (firstP_any kind _).mono ?_
          rintro e w3 ⟨v3, rfl, hr1, hb1⟩
          replace RA := Lib.hid (RA.out.below hb1)
          replace HL2 := Lib.hid (RdL.below HL2.out hb1)
          replace HB3 := Lib.hid (Below.trans0 HB3.out hb1)
          have R3 := Lib.hid hr1
          clear hr1 hb1
          have RA2 := Lib.hid (RA.out.alloc (Obj.cells #[.int .i64 kind, .bool true, .int .i64 kind, .bool false] 25))
          have HL3 := Lib.hid (RdL.below HL2.out (Below.alloc0 (Below.refl w3.heap.size w3) (Obj.cells #[.int .i64 kind, .bool true, .int .i64 kind, .bool false] 25)))
          have R4 := Lib.hid (R3.out.alloc (Obj.cells #[.int .i64 kind, .bool true, .int .i64 kind, .bool false] 25))
          have R5 := Lib.hid (Rd.lit w3 (firstL kind) #[.int .i64 kind, .bool true, .int .i64 kind, .bool false] 2 rfl rfl 2)
          have HB4 := Lib.hid (Below.alloc0 HB3.out (Obj.cells #[.int .i64 kind, .bool true, .int .i64 kind, .bool false] 25))
          clear RA HL2 R3 HB3
          go_wp2_with fail
          refine (eqSt_same _ _ _ _ _ R4.out R5.out rfl (by simp [firstL])).mono ?_
          rintro e w5 ⟨rfl, hb1⟩
          replace RA2 := Lib.hid (RA2.out.below hb1)
          replace HL3 := Lib.hid (RdL.below HL3.out hb1)
          replace HB4 := Lib.hid (Below.trans0 HB4.out hb1)
          clear R4 R5 hb1
          go_wp2_with fail
          refine (rowP_any _ _ _ _ _ HL3.out (by omega) (by have := HLe.out; omega)).mono ?_
          rintro e w6 ⟨v6, rfl, hr1, hb1⟩
          replace RA2 := Lib.hid (RA2.out.below hb1)
          replace HB4 := Lib.hid (Below.trans0 HB4.out hb1)
          have R6 := Lib.hid hr1.rd
          clear hr1 hb1
          go_wp2_with fail
          refine (eqSt_same _ _ _ _ _ R6.out RA2.out rfl (by have := HLe.out; omega)).mono ?_
          rintro e w7 ⟨rfl, hb1⟩
          replace HB4 := Lib.hid (Below.trans0 HB4.out hb1)
          clear hb1
          go_wp2_with fail
          refine (alive22 _).mono ?_
          rintro e w8 ⟨rfl, hb1⟩
          replace HB4 := Lib.hid (Below.trans0 HB4.out hb1)
          clear hb1
          go_wp2
          go_ret
          exact ⟨rfl, HB4.out⟩
end Go.Proofs.Ytkdekhcnamkcgab
