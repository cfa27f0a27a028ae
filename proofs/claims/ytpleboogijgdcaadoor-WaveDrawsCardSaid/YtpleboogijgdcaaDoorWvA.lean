/- Wave: the chapter's example; what no text of records is. -/
import Derived.Test.YtpleboogijgdcaaDoorWvR
namespace Go.Proofs.YtpleboogijgdcaaDoor
open Go.ChangeShapes Go.WideShapes Go.ChangeAt Go.RowKit
set_option linter.unusedVariables false

theorem wv_none (s : ByteArray) (h : s.size / 7 < 6 ∨ wvT (rdF s (s.size / 7) (s.size / 7 - 6)) 7 ≠ s) : s ≠ wvT [] 7 := by
  intro e
  have hs : s.size = 42 := by rw [e, wvT_size [] 7 (by omega)]; rfl
  rw [hs] at h
  rcases h with h | h
  · omega
  · exact h e.symm
set_option maxRecDepth 100000 in
theorem alive50 (w : World) : Calls Tryd.prog 7 #[] w fun e w' => e = .returned (.bool true) ∧ Below w.heap.size w w' := by
  have HR : Hid (eR.Rd (w.alloc (.cells #[.int .u16 0, .int .u8 0, .bool true, .bool false, .bool false, .bool false, .bool false, .bool false, .bool false, .int .u16 0, .int .u8 0, .bool false, .bool false, .bool false, .bool false, .bool false, .bool false, .bool false] 30)) (.slice (some ⟨w.heap.size, 0, none⟩) 2 2) [⟨0, 0, true, false, false, false, false, false, false⟩, ⟨0, 0, false, false, false, false, false, false, false⟩]) := Lib.hid (Els.Rd.lit (E := eR) w _ [⟨0, 0, true, false, false, false, false, false, false⟩, ⟨0, 0, false, false, false, false, false, false, false⟩] _ 2 rfl rfl 2)
  have CF := Lib.hid (wvLine_any 0 (by decide) (by decide) _ _ _ HR.out (by decide))
  rw [show strOfNums (wvL 0 [⟨0, 0, true, false, false, false, false, false, false⟩, ⟨0, 0, false, false, false, false, false, false, false⟩]) = ⟨#[35, 95]⟩ from by rfl] at CF
  go_enter Tryd.func7, Tryd.ntmps7
  go_wp2_with fail
  refine CF.out.mono ?_
  rintro e w1 ⟨rfl, hb⟩
  have HB := Lib.hid (Below.trans0 (Below.alloc0 (Below.refl _ _) _) hb)
  go_wp2
  go_ret
  exact ⟨rfl, HB.out⟩
end Go.Proofs.YtpleboogijgdcaaDoor
