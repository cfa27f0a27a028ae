/- The law of two registers, by the document's Pair as a premise. -/
import Derived.Test.YteaajmoclgfhnabDoorLpn
import Derived.Test.YteaajmoclgfhnabDoorLiv
namespace Go.Proofs.YteaajmoclgfhnabDoor
open Go.ChangeShapes Go.WideShapes Go.ChangeAt Go.RowKit
set_option linter.unusedVariables false
theorem OregAt.of_laid {W : World} (h : laidMetH Tryd.prog [("spinet/ops.registers", strData regNames)] W) : OregAt W := fun k hk => by
  have hlen : regNames.length = 12 := rfl
  have h1 := strTab_of_laid (g := 1) (t := 85) (e := 9) (n := 12) (by kernel_rfl) (by kernel_rfl) Tryd.underlying85 Tryd.underlying9 (by kernel_rfl) (by kernel_rfl) h k (by omega)
  rw [h1]
  unfold regS
  rw [List.getD_eq_getElem?_getD, List.getElem?_eq_getElem (by omega)]; rfl
theorem prP_range (x y : Int) (hx : -1 ≤ x ∧ x < 16) (hy : -1 ≤ y ∧ y < 16) : 0 ≤ (prP x y).1 ∧ (prP x y).1 < 256 := by
  unfold prP
  split
  · exact ⟨by decide, by decide⟩
  · exact ⟨by dsimp only; omega, by dsimp only; omega⟩
set_option maxRecDepth 100000 in
set_option maxHeartbeats 1000000 in
theorem law_pairs (s : ByteArray) (w : World) (hT : OregAt w)
    (HR : ∀ u : World, s.size ≤ 1099511627776 → Calls Tryd.prog 8 #[.string s] u fun e w' => e = .returned (.tuple #[.int .u8 (pairS s).1, .int .i64 (pairS s).2]) ∧ Below u.heap.size u w') :
    Calls Tryd.prog 3 #[.string s] w fun e w' => e = .returned (.bool true) ∧ Below w.heap.size w w' := by
  by_cases h40 : s.size ≤ 40
  · have CP := Lib.hid (liPair_any s (by omega) w hT)
    have CR := Lib.hid (fun u => HR u (by omega))
    have CA := Lib.hid (fun u (h : Below w.heap.size w u) => alive45 u (hT.below h))
    obtain ⟨P, hP⟩ : ∃ P, pairS s = P := ⟨_, rfl⟩
    rw [hP] at CP CR
    obtain ⟨p, q⟩ := P
    dsimp only at CP CR
    clear hP HR hT
    go_enter Tryd.func3, Tryd.ntmps3
    go_wp2_with fail
    refine CP.out.mono ?_
    rintro e w1 ⟨rfl, n, rfl⟩
    go_wp2_with fail
    refine (CR.out _).mono ?_
    rintro e w2 ⟨rfl, hb⟩
    have B2 := Lib.hid (Below.trans0 (Below.drewN0 (Below.refl w.heap.size w) n) hb)
    clear hb
    go_wp2_with (go_at_call 9; refine (CA.out _ B2.out).mono ?_; rintro e w3 ⟨rfl, hb3⟩)
    go_ret
    exact ⟨rfl, Below.trans0 B2.out hb3⟩
  · have h1 : ¬ (s.size : Int) ≤ 40 := by omega
    go_enter Tryd.func3, Tryd.ntmps3
    go_wp2
    go_ret
    exact ⟨rfl, Below.refl _ _⟩
end Go.Proofs.YteaajmoclgfhnabDoor
