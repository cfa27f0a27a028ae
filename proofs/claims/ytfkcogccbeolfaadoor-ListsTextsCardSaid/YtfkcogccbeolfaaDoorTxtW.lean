/- The law ListsTexts, over a postbyte as a number. -/
import Derived.Test.YtfkcogccbeolfaaDoorTxtO
namespace Go.Proofs.YtfkcogccbeolfaaDoor
open Go.ChangeShapes Go.WideShapes Go.ChangeAt Go.RowKit
set_option linter.unusedVariables false

set_option maxRecDepth 100000 in
theorem read_empty (st : Int) (w : World) : Calls Tryd.prog 46 #[.string ⟨#[]⟩, .int .i64 st] w (ReadIs w (0, 0)) := by
  go_enter Tryd.func46, Tryd.ntmps46
  go_wp2
  go_loopw [6, 7] (fun u6 u7 wr => u6 = .int .u8 0 ∧ u7 = .bool false ∧ wr = w) (fun _ _ _ => 0)
  case atStart => exact ⟨rfl, rfl, rfl⟩
  case round =>
    obtain ⟨rfl, rfl, rfl⟩ := hrel
    go_wp2
    go_ret2
    exact ⟨rfl, 0, rfl⟩
set_option maxRecDepth 100000 in
set_option maxHeartbeats 4000000 in
theorem law_texts (p : Nat) (hp : p < 256) (st : Int) (w : World) (hT : TabAt w) :
    Calls Tryd.prog 11 #[.int .u8 (p : Int), .int .i64 st] w fun e w' => e = .returned (.bool true) ∧ Below w.heap.size w w' := by
  obtain ⟨b1, b2, b3⟩ := back_txt p hp (st == 3)
  have CT := Lib.hid (fun w hT => text_any p hp st w hT)
  have RT := Lib.hid (fun u w => refText_any p hp u w)
  have HT := Lib.hid hT
  have CR : Hid (∀ w, TabAt w → Calls Tryd.prog 46 #[.string (byteStr (txtL p (st == 3) 8)), .int .i64 st] w (ReadIs w ((p : Int), 0))) := Lib.hid (fun w hT => by
    by_cases h0 : p = 0
    · rw [b2 h0, h0]
      exact read_empty st w
    · obtain ⟨hne, hrd⟩ := b3 h0
      have := read_some (txtL p (st == 3) 8) (by omega) hne st w hT.1 hT.2
      rw [hrd] at this
      exact this)
  have RTu := Lib.hid (RT.out (st == 3))
  obtain ⟨S, hS⟩ : ∃ S, byteStr (txtL p (st == 3) 8) = S := ⟨_, rfl⟩
  rw [hS] at CT RTu CR
  have ep : ((p : Int) == (p : Int)) = true := by simp
  clear b1 b2 b3 hT RT hS hp
  go_enter Tryd.func11, Tryd.ntmps11
  go_wp2_with fail
  refine (CT.out _ HT.out).mono ?_
  rintro e w1 ⟨rfl, hb1⟩
  have HB1 := Lib.hid hb1
  clear hb1
  go_wp2_with fail
  refine (CR.out _ (HT.out.below HB1.out)).mono ?_
  rintro e w2 ⟨rfl, n, rfl⟩
  have HB2 := Lib.hid (Below.drewN0 HB1.out n)
  have HT2 := Lib.hid (HT.out.below HB2.out)
  go_wp2_with fail
  refine (RTu.out _).mono ?_
  rintro e w3 ⟨rfl, hb3⟩
  have HB3 := Lib.hid (Below.trans0 HB2.out hb3)
  have HT3 := Lib.hid (HT.out.below HB3.out)
  clear hb3
  go_wp2_with fail
  refine (alive17 _ HT3.out).mono ?_
  rintro e w4 ⟨rfl, hb4⟩
  have HB4 := Lib.hid (Below.trans0 HB3.out hb4)
  clear hb4
  go_wp2
  go_ret
  exact ⟨rfl, HB4.out⟩
end Go.Proofs.YtfkcogccbeolfaaDoor
