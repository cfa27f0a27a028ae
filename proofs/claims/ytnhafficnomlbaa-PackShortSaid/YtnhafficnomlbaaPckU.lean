/- Contracts of package pack: Unpack. -/
import Derived.Test.YtnhafficnomlbaaPck
import Derived.Test.YtnhafficnomlbaaRpY
namespace Go.Proofs.Ytnhafficnomlbaa
open Go.ChangeShapes Go.WideShapes Go.ChangeAt Go.RowKit
set_option linter.unusedVariables false
set_option maxRecDepth 100000 in
set_option maxHeartbeats 1000000 in
theorem first_any (g off n c : Nat) (zs : List Int) (w : World) (h : Sl w g off n c zs) (h0 : 0 < n) (hn : n ≤ 1000000) :
    Calls Try.prog 38 #[.slice (some ⟨g, off, none⟩) n c] w fun e w' => ∃ v, e = .returned (.tuple #[v, .int .i64 (pcS zs)]) ∧ eY.Rd w' v (pcB zs) ∧ Below w.heap.size w w' := by
  have H := Lib.hid h
  have HL := Lib.hid h.1
  have hc := h.2.1
  have c0 := h.at_ 0 h0
  rw [Nat.add_zero] at c0
  obtain ⟨b0, b1⟩ := h.2.2.2.2.at_ 0
  obtain ⟨x, hx⟩ := Int.eq_ofNat_of_zero_le b0
  rw [hx] at c0 b1
  have HX := Lib.hid hx
  have x1 : x < 256 := by omega
  have HG := Lib.hid h.2.2.1
  clear h hx b0
  by_cases h1 : 128 ≤ x
  · by_cases h2 : 1 < n
    · have c1 := H.out.at_ 1 h2
      have CR := Lib.hid (repeatY g (off + 1) (c - 1) (iat zs 1) (256 - x) (by omega) w HG.out c1)
      have eS : Hid (pcS zs = 2) := Lib.hid (by unfold pcS; rw [HX.out, if_pos (by omega), if_pos (by rw [HL.out]; omega)])
      have eB : Hid (pcB zs = List.replicate (256 - x) (iat zs 1)) := Lib.hid (by unfold pcB; rw [HX.out, if_pos (by omega), if_pos (by rw [HL.out]; omega), show (256 - (x : Int)).toNat = 256 - x by omega])
      have t1 : (128 : Int) ≤ (x : Int) := by omega
      have t2 : (1 : Int) < (n : Int) := by omega
      have t3 : ((256 - x : Nat) : Int) = 256 - (x : Int) := by omega
      have t4 : (2 : Nat) ≤ c := by omega
      have t5 : ¬ c = 1 := by omega
      rw [t3] at CR
      clear c1 t3
      rw [eS.out]
      go_enter Try.func38, Try.ntmps38
      go_wp2_with fail
      refine CR.out.mono ?_
      rintro e w1 ⟨v, rfl, hr, hb⟩
      have HR := Lib.hid hr
      have HB := Lib.hid hb
      clear hr hb
      go_wp2
      go_ret2
      exact ⟨_, rfl, by rw [eB.out]; exact HR.out, HB.out⟩
    · have eS : Hid (pcS zs = 0) := Lib.hid (by unfold pcS; rw [HX.out, if_pos (by omega), if_neg (by rw [HL.out]; omega)])
      have eB : Hid (pcB zs = []) := Lib.hid (by unfold pcB; rw [HX.out, if_pos (by omega), if_neg (by rw [HL.out]; omega)])
      have t1 : (128 : Int) ≤ (x : Int) := by omega
      have t2 : ¬ ((1 : Int) < (n : Int)) := by omega
      have t3 : ¬ ((x : Int) < 128) := by omega
      have t4 : (0 : Int) < (x : Int) := by omega
      rw [eS.out]
      go_enter Try.func38, Try.ntmps38
      go_wp2
      go_ret2
      exact ⟨_, rfl, by rw [eB.out]; exact .inl ⟨rfl, rfl⟩, Below.refl _ _⟩
  · by_cases h2 : 0 < x
    · by_cases h3 : x < n
      · have eS : Hid (pcS zs = 1 + x) := Lib.hid (by unfold pcS; rw [HX.out, if_neg (by omega), if_pos ⟨by omega, by rw [HL.out]; omega⟩]; rfl)
        have eB : Hid (pcB zs = (zs.take (1 + x)).drop 1) := Lib.hid (by
          unfold pcB
          rw [HX.out, if_neg (by omega), if_pos ⟨by omega, by rw [HL.out]; omega⟩, List.drop_take, show 1 + x - 1 = x by omega]; rfl)
        have t1 : ¬ ((128 : Int) ≤ (x : Int)) := by omega
        have t2 : (0 : Int) < (x : Int) := by omega
        have t3 : (x : Int) < 128 := by omega
        have t4 : (x : Int) < (n : Int) := by omega
        have t5 : ¬ c = 1 := by omega
        have t6 : 1 + x ≤ c := by omega
        have t7 : (1 + (x : Int)).toNat = 1 + x := by omega
        have t8 : 1 + x - 1 = x := by omega
        have t9 : 1 ≤ 1 + x := by omega
        rw [eS.out]
        go_enter Try.func38, Try.ntmps38
        go_wp2
        go_ret2
        exact ⟨_, rfl, by rw [eB.out]; exact rdY_part (a := 1) (b := 1 + x) (m := x) H.out.rd (by rw [HL.out]; omega) (by omega), Below.refl _ _⟩
      · have eS : Hid (pcS zs = 0) := Lib.hid (by unfold pcS; rw [HX.out, if_neg (by omega), if_neg (by rw [HL.out]; omega)])
        have eB : Hid (pcB zs = []) := Lib.hid (by unfold pcB; rw [HX.out, if_neg (by omega), if_neg (by rw [HL.out]; omega)])
        have t1 : ¬ ((128 : Int) ≤ (x : Int)) := by omega
        have t2 : (0 : Int) < (x : Int) := by omega
        have t3 : (x : Int) < 128 := by omega
        have t4 : ¬ ((x : Int) < (n : Int)) := by omega
        rw [eS.out]
        go_enter Try.func38, Try.ntmps38
        go_wp2
        go_ret2
        exact ⟨_, rfl, by rw [eB.out]; exact .inl ⟨rfl, rfl⟩, Below.refl _ _⟩
    · obtain rfl : x = 0 := by omega
      have eS : Hid (pcS zs = 0) := Lib.hid (by unfold pcS; rw [HX.out, if_neg (by omega), if_neg (by omega)])
      have eB : Hid (pcB zs = []) := Lib.hid (by unfold pcB; rw [HX.out, if_neg (by omega), if_neg (by omega)])
      rw [eS.out]
      go_enter Try.func38, Try.ntmps38
      go_wp2
      go_ret2
      exact ⟨_, rfl, by rw [eB.out]; exact .inl ⟨rfl, rfl⟩, Below.refl _ _⟩
end Go.Proofs.Ytnhafficnomlbaa
