/- Contracts of the register file's Tfr, Exg, Pair, and of the document's own. -/
import Derived.Test.YtfkcogccbeolfaaFilS
import Derived.Test.YtfkcogccbeolfaaFilG
namespace Go.Proofs.Ytfkcogccbeolfaa
open Go.ChangeShapes Go.WideShapes Go.ChangeAt Go.RowKit
set_option linter.unusedVariables false

theorem pair_fin : ∀ a b : Fin 16, bits .or .i64 ((a.val : Int) * 16) (b.val : Int) = 16 * (a.val : Int) + (b.val : Int) := by decide +kernel
theorem and15_fin : ∀ a : Fin 16, bits .and .i64 (a.val : Int) 15 = (a.val : Int) := by decide +kernel
theorem halves_any (p : Int) (w : World) (h0 : 0 ≤ p) (h1 : p < 256) :
    Calls Try.prog 19 #[.int .u8 p] w fun e w' => e = .returned (.tuple #[.int .i64 (p / 16), .int .i64 (p % 16)]) ∧ w = w' := by
  go_enter Try.func19, Try.ntmps19
  go_wp2
  go_ret2
  exact ⟨rfl, rfl⟩
theorem pair_any (a b : Int) (w : World) (a0 : 0 ≤ a) (a1 : a < 16) (b0 : 0 ≤ b) (b1 : b < 16) :
    Calls Try.prog 15 #[.int .i64 a, .int .i64 b] w fun e w' => e = .returned (.int .u8 (16 * a + b)) ∧ w = w' := by
  obtain ⟨m, rfl⟩ := Int.eq_ofNat_of_zero_le a0
  obtain ⟨n, rfl⟩ := Int.eq_ofNat_of_zero_le b0
  have h1 := pair_fin ⟨m, by omega⟩ ⟨n, by omega⟩
  have h2 := and15_fin ⟨m, by omega⟩
  have h3 := and15_fin ⟨n, by omega⟩
  simp only at h1 h2 h3
  go_enter Try.func15, Try.ntmps15
  go_wp2
  go_ret
  exact ⟨rfl, rfl⟩
def tfrR (r : Rg) (p : Int) : Rg := setR r (p % 16) (getR r (p / 16))
def exgR (r : Rg) (p : Int) : Rg := setR (setR r (p % 16) (getR r (p / 16))) (p / 16) (getR r (p % 16))
theorem tfr_any (r : Rg) (hr : r.Ok) (p : Int) (h0 : 0 ≤ p) (h1 : p < 256) (w : World) (g : Nat) (t : TypeId) (h : RgAt w g t r) :
    Calls Try.prog 11 #[.pointer (some ⟨g, 0, none⟩), .int .u8 p] w fun e w' => e = .returned (.bool (p % 16 == 4)) ∧ Put w w' g t (tfrR r p) := by
  obtain ⟨g0, g1⟩ := getR_range r hr (p / 16)
  have H := Lib.hid h
  clear h
  go_enter Try.func11, Try.ntmps11
  go_wp2_with (first
    | (go_at_call 19; refine (halves_any _ _ h0 h1).mono ?_; rintro e w' ⟨rfl, rfl⟩)
    | (go_at_call 6; refine (get_any r hr _ _ g t H.out).mono ?_; rintro e w' ⟨rfl, n, rfl⟩)
    | (go_at_call 7; refine (set_any r hr _ _ g0 g1 _ g t (H.out.drewN _)).mono ?_; rintro e w' ⟨rfl, hp⟩))
  go_ret
  exact ⟨rfl, hp.drew⟩
set_option maxHeartbeats 1000000 in
theorem exg_any (r : Rg) (hr : r.Ok) (p : Int) (h0 : 0 ≤ p) (h1 : p < 256) (w : World) (g : Nat) (t : TypeId) (h : RgAt w g t r) :
    Calls Try.prog 12 #[.pointer (some ⟨g, 0, none⟩), .int .u8 p] w fun e w' => e = .returned (.bool (p / 16 == 4 || p % 16 == 4)) ∧ Put w w' g t (exgR r p) := by
  obtain ⟨g0, g1⟩ := getR_range r hr (p / 16)
  obtain ⟨g2, g3⟩ := getR_range r hr (p % 16)
  have hs := setR_ok r hr (p % 16) (getR r (p / 16)) g0 g1
  have H := Lib.hid h
  clear h
  go_enter Try.func12, Try.ntmps12
  go_wp2_with (go_at_call 19; refine (halves_any _ _ h0 h1).mono ?_; rintro e w' ⟨rfl, rfl⟩)
  refine (get_any r hr _ _ g t H.out).mono ?_
  rintro e w' ⟨rfl, n1, rfl⟩
  go_wp2_with fail
  refine (get_any r hr _ _ g t (H.out.drewN _)).mono ?_
  rintro e w' ⟨rfl, n2, rfl⟩
  go_wp2_with fail
  refine (set_any r hr _ _ g0 g1 _ g t (H.out.drewN (n1 + n2))).mono ?_
  rintro e w1 ⟨rfl, hp1⟩
  have HP := Lib.hid hp1
  clear hp1
  go_wp2_with fail
  refine (set_any _ hs _ _ g2 g3 _ g t HP.out.1).mono ?_
  rintro e w2 ⟨rfl, hp2⟩
  have HP2 := Lib.hid hp2
  clear hp2
  go_wp2
  all_goals
    go_ret
    refine ⟨ret_bool ?_, (HP.out.drew).trans HP2.out⟩
    simp_all
end Go.Proofs.Ytfkcogccbeolfaa
