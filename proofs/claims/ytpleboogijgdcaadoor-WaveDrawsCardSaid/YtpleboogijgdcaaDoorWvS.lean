/- The library's Repeat at one, two, three blanks; SplitSeq's own contract. -/
import Derived.Test.YtpleboogijgdcaaDoorSpl
namespace Go.Proofs.YtpleboogijgdcaaDoor
open Go.ChangeShapes Go.WideShapes Go.ChangeAt Go.RowKit
set_option linter.unusedVariables false

set_option maxRecDepth 100000 in
theorem splitSeq0_any (s p : ByteArray) (w : World) :
    Calls Tryd.prog 21 #[.string s, .string p, .int .i64 0] w fun e w' => e = .returned (.func (.func 30) #[] #[.pointer (some ⟨w.heap.size + 1, 0, none⟩), .pointer (some ⟨w.heap.size, 0, none⟩), .pointer (some ⟨w.heap.size + 2, 0, none⟩)]) ∧ w' = ((w.alloc (.cells #[.string s] 9)).alloc (.cells #[.string p] 9)).alloc (.cells #[.int .i64 0] 3) := by
  go_enter Tryd.func21, Tryd.ntmps21
  go_wp2
  go_ret
  exact ⟨rfl, rfl⟩
set_option maxRecDepth 100000 in
theorem splitSeq_any (s p : ByteArray) (w : World) :
    Calls Tryd.prog 14 #[.string s, .string p] w fun e w' => e = .returned (.func (.func 30) #[] #[.pointer (some ⟨w.heap.size + 1, 0, none⟩), .pointer (some ⟨w.heap.size, 0, none⟩), .pointer (some ⟨w.heap.size + 2, 0, none⟩)]) ∧ w' = ((w.alloc (.cells #[.string s] 9)).alloc (.cells #[.string p] 9)).alloc (.cells #[.int .i64 0] 3) := by
  have C := Lib.hid (splitSeq0_any s p w)
  go_enter Tryd.func14, Tryd.ntmps14
  go_wp2_with fail
  refine C.out.mono ?_
  rintro e w' ⟨rfl, rfl⟩
  go_wp2
  go_ret
  exact ⟨rfl, rfl⟩
theorem retS {a b : ByteArray} (h : a = b) : Ending.returned (.string a) = .returned (.string b) := by rw [h]
def blk (n : Nat) : ByteArray := ⟨(List.replicate n 32).toArray⟩
set_option maxRecDepth 100000 in
set_option maxHeartbeats 2000000 in
theorem rep_one (w : World) : Calls Tryd.prog 16 #[.string ⟨#[32]⟩, .int .i64 1] w fun e w' => e = .returned (.string ⟨#[32]⟩) ∧ w' = w := by
  go_enter Tryd.func16, Tryd.ntmps16
  go_wp2
  go_ret
  exact ⟨rfl, rfl⟩
set_option maxRecDepth 100000 in
set_option maxHeartbeats 4000000 in
theorem rep_2 (w : World) : Calls Tryd.prog 16 #[.string ⟨#[32]⟩, .int .i64 2] w fun e w' => e = .returned (.string (blk 2)) ∧ w' = w := by
  have CM := Lib.hid (Tryd.bits_Mul 1 2 (by decide) (by decide) w)
  go_enter Tryd.func16, Tryd.ntmps16
  go_wp2_with fail
  refine CM.out.mono ?_
  rintro e w1 ⟨rfl, hw⟩
  subst hw
  go_wp2_with fail
  refine (Tryd.strings_HasPrefix _ ⟨#[32]⟩ _).mono ?_
  rintro e w2 ⟨rfl, hw⟩
  subst hw
  generalize hq : Lib.hasPrefix _ _ = q
  have hq' : q = true := by rw [← hq]; rfl
  subst hq'
  clear hq
  go_wp2
  go_ret
  exact ⟨retS (by apply ByteArray.ext; decide +kernel), rfl⟩
set_option maxRecDepth 100000 in
set_option maxHeartbeats 4000000 in
theorem rep_3 (w : World) : Calls Tryd.prog 16 #[.string ⟨#[32]⟩, .int .i64 3] w fun e w' => e = .returned (.string (blk 3)) ∧ w' = w := by
  have CM := Lib.hid (Tryd.bits_Mul 1 3 (by decide) (by decide) w)
  go_enter Tryd.func16, Tryd.ntmps16
  go_wp2_with fail
  refine CM.out.mono ?_
  rintro e w1 ⟨rfl, hw⟩
  subst hw
  go_wp2_with fail
  refine (Tryd.strings_HasPrefix _ ⟨#[32]⟩ _).mono ?_
  rintro e w2 ⟨rfl, hw⟩
  subst hw
  generalize hq : Lib.hasPrefix _ _ = q
  have hq' : q = true := by rw [← hq]; rfl
  subst hq'
  clear hq
  go_wp2
  go_ret
  exact ⟨retS (by apply ByteArray.ext; decide +kernel), rfl⟩
end Go.Proofs.YtpleboogijgdcaaDoor
