/- Contracts of package decimal's Daa and Right, and of the document's Daa (spinetref09). -/
import Derived.Test.YtdkghfapmoikdabAdd
namespace Go.Proofs.Ytdkghfapmoikdab
open Go.ChangeShapes Go.WideShapes Go.ChangeAt Go.RowKit
set_option linter.unusedVariables false

def six (a cc : Int) : Bool := decide (9 < a % 16) || hasRef cc 32
def sixty (a cc : Int) : Bool := decide (153 < a) || hasRef cc 1
def daaN (a : Int) (s t : Bool) : Int := (a + (if s then 6 else 0) + (if t then 96 else 0)) % 256
def daaR (a cc : Int) : Int := daaN a (six a cc) (sixty a cc)
def daaC (cc a : Int) : Int := putRef (putRef (nzRef cc (daaR a cc) 128) 1 (sixty a cc)) 2 false
theorem CC.daa {cc : Int} (h : CC cc) (a : Int) : CC (daaC cc a) := ((h.nz _ _).put _ _).put _ _
theorem daaR_range (a cc : Int) : 0 ≤ daaR a cc ∧ daaR a cc < 256 := by unfold daaR daaN; omega
theorem daaC_ref (cc a : Int) (h : CC cc) : nzRef (putRef (putRef cc 2 false) 1 (sixty a cc)) (daaR a cc) 128 = daaC cc a := by
  unfold daaC
  have h0 := h.nz (daaR a cc) 128
  have h2 := h.put 2 false
  rw [← nzRef_swap _ 1 _ _ _ h2.1 h2.2 bit1 (by decide) (by decide), ← nzRef_swap cc 2 _ _ _ h.1 h.2 bit2 (by decide) (by decide), putRef_swap _ 2 1 _ _ h0.1 h0.2 bit2 bit1 (by decide)]
theorem daa_cases (a cc : Int) : ((9 < a % 16 ∧ six a cc = true) ∨ (a % 16 ≤ 9 ∧ hasRef cc 32 = true ∧ decide (9 < a % 16) = false ∧ six a cc = true) ∨ (a % 16 ≤ 9 ∧ hasRef cc 32 = false ∧ decide (9 < a % 16) = false ∧ six a cc = false)) ∧
    ((153 < a ∧ sixty a cc = true) ∨ (a ≤ 153 ∧ hasRef cc 1 = true ∧ decide (153 < a) = false ∧ sixty a cc = true) ∨ (a ≤ 153 ∧ hasRef cc 1 = false ∧ decide (153 < a) = false ∧ sixty a cc = false)) := by
  constructor
  · unfold six
    by_cases h : 9 < a % 16
    · simp [h]
    · cases h2 : hasRef cc 32 <;> simp [h] <;> omega
  · unfold sixty
    by_cases h : 153 < a
    · simp [h]
    · cases h2 : hasRef cc 1 <;> simp [h] <;> omega
set_option maxRecDepth 100000 in
set_option maxHeartbeats 4000000 in
theorem daa_any (a cc : Int) (w : World) (ha : 0 ≤ a) (ha' : a < 256) (hcc : CC cc) :
    Calls Try.prog 11 #[.int .u8 a, .int .u8 cc] w fun e w' => e = .returned (.tuple #[.int .u8 (daaR a cc), .int .u8 (daaC cc a)]) ∧ Below w.heap.size w w' := by
  have s3 := and_15 a ha ha'
  obtain ⟨hs, ht⟩ := daa_cases a cc
  have hR : Hid (daaR a cc = daaN a (six a cc) (sixty a cc)) := Lib.hid rfl
  have hC : Hid (daaC cc a = putRef (putRef (nzRef cc (daaR a cc) 128) 1 (sixty a cc)) 2 false) := Lib.hid rfl
  rcases hs with ⟨hs, es⟩ | ⟨hs, hs2, hs3, es⟩ | ⟨hs, hs2, hs3, es⟩
  all_goals rcases ht with ⟨ht, et⟩ | ⟨ht, ht2, ht3, et⟩ | ⟨ht, ht2, ht3, et⟩
  all_goals
    have ES := Lib.hid es
    have ET := Lib.hid et
    clear es et
    go_enter Try.func11, Try.ntmps11
    go_wp2_with (first
      | (go_at_call 42; refine (has_bit _ _ _ _ _ _ _ hcc (by first | exact bit1 | exact bit32) (Ints.new1 (by simp) (by decide)) (by omega)).mono ?_; rintro e w' ⟨rfl, rfl⟩)
      | (go_at_call 43; refine (nz_bits _ _ _ hcc).mono ?_; rintro e w1 ⟨rfl, hb1⟩)
      | (go_at_call 44; refine (with_bit _ _ _ _ _ _ _ _ (by repeat (first | assumption | apply CC.put | apply CC.nz)) (by first | exact bit1 | exact bit2) (Ints.new1 (by simp) (by decide)) (by omega)).mono ?_; rintro e w' ⟨rfl, rfl⟩))
    go_ret2
    have e2 := hR.out
    rw [ES.out, ET.out] at e2
    simp only [daaN, if_true, Bool.false_eq_true, if_false] at e2
    refine ⟨ret_two ?_ ?_, by repeat (first | assumption | exact Below.refl _ _ | apply Below.alloc0 | refine Below.trans0 ?_ (by assumption))⟩
    · rw [e2]; try omega
    · rw [hC.out, e2, ET.out]; try (congr 3; omega)
set_option maxRecDepth 100000 in
set_option maxHeartbeats 4000000 in
theorem refDaa_any (a cc : Int) (w : World) (ha : 0 ≤ a) (ha' : a < 256) (hcc : CC cc) :
    Calls Try.prog 12 #[.int .u8 a, .int .u8 cc] w fun e w' => e = .returned (.tuple #[.int .u8 (daaR a cc), .int .u8 (daaC cc a)]) ∧ w = w' := by
  obtain ⟨hs, ht⟩ := daa_cases a cc
  have hR : Hid (daaR a cc = daaN a (six a cc) (sixty a cc)) := Lib.hid rfl
  have hC := Lib.hid (daaC_ref cc a hcc)
  rcases hs with ⟨hs, es⟩ | ⟨hs, hs2, hs3, es⟩ | ⟨hs, hs2, hs3, es⟩
  all_goals rcases ht with ⟨ht, et⟩ | ⟨ht, ht2, ht3, et⟩ | ⟨ht, ht2, ht3, et⟩
  all_goals
    have ES := Lib.hid es
    have ET := Lib.hid et
    clear es et
    go_enter Try.func12, Try.ntmps12
    go_wp2_with (first
      | (go_at_call 45; refine (hasRef_cc _ _ _ hcc (by first | exact bit1 | exact bit32)).mono ?_; rintro e w' ⟨rfl, rfl⟩)
      | (go_at_call 20; refine (putRef_cc _ _ _ _ (by repeat (first | assumption | apply CC.put | apply CC.nz)) (by first | exact bit1 | exact bit2)).mono ?_; rintro e w' ⟨rfl, rfl⟩)
      | (go_at_call 46; refine (nzRef_cc _ _ _ (by repeat (first | assumption | apply CC.put | apply CC.nz)) (by omega)).mono ?_; rintro e w' ⟨rfl, rfl⟩))
    go_ret2
    have e2 := hR.out
    rw [ES.out, ET.out] at e2
    simp only [daaN, if_true, Bool.false_eq_true, if_false] at e2
    refine ⟨ret_two ?_ ?_, rfl⟩
    · rw [e2]; try omega
    · rw [← hC.out, e2, ET.out]; try (congr 1; omega)
end Go.Proofs.Ytdkghfapmoikdab
