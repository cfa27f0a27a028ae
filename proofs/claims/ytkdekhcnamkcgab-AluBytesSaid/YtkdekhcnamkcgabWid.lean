/- Contracts of package wide's calls, and of the document's (spinetref11). -/
import Derived.Test.YtkdekhcnamkcgabTake
namespace Go.Proofs.Ytkdekhcnamkcgab
open Go.ChangeShapes Go.WideShapes Go.ChangeAt Go.RowKit
set_option linter.unusedVariables false

def sgW (a : Int) : Int := if a < 32768 then a else a - 65536
theorem sgW_range (a : Int) (ha : 0 ≤ a) (ha' : a < 65536) : -32768 ≤ sgW a ∧ sgW a < 32768 := by unfold sgW; split <;> omega
theorem i16_of (a : Int) (h0 : 0 ≤ a) (h1 : a < 65536) : IntKind.i16.wrap a = sgW a := by
  unfold sgW
  simp [IntKind.wrap, IntKind.bits, IntKind.signed]
  split <;> split <;> omega
theorem outOf_gt {lo hi t : Int} (h : hi < t) : outOf lo hi t = true := by simp [outOf, h]
theorem outOf_in {lo hi t : Int} (h : lo ≤ t) (h' : t ≤ hi) : outOf lo hi t = false := by simp [outOf, show ¬ t < lo by omega, show ¬ hi < t by omega]
def wordC (cc p s : Int) : Int := putRef (putRef (nzRef cc (p % 65536) 32768) 2 (outOf (-32768) 32767 s)) 1 (outOf 0 65535 p)
theorem CC.word {cc : Int} (h : CC cc) (p s : Int) : CC (wordC cc p s) := ((h.nz _ _).put _ _).put _ _
theorem wordC_ref (cc p s : Int) (h : CC cc) : nzRef (putRef (putRef cc 2 (outOf (-32768) 32767 s)) 1 (outOf 0 65535 p)) (p % 65536) 32768 = wordC cc p s := by
  unfold wordC
  have h2 := h.put 2 (outOf (-32768) 32767 s)
  rw [nzRef_swap cc 2 _ _ _ h.1 h.2 bit2 (by decide) (by decide), nzRef_swap _ 1 _ _ _ h2.1 h2.2 bit1 (by decide) (by decide)]
def tstW (cc r : Int) : Int := putRef (nzRef cc r 32768) 2 false
theorem CC.tstW {cc : Int} (h : CC cc) (r : Int) : CC (tstW cc r) := (h.nz _ _).put _ _
theorem tstW_ref (cc r : Int) (h : CC cc) : nzRef (putRef cc 2 false) r 32768 = tstW cc r := by
  unfold tstW
  rw [nzRef_swap cc 2 _ _ _ h.1 h.2 bit2 (by decide) (by decide)]
/-- What the law asks of the codes: C and V, and N. -/
theorem codes_same (f g : Int) (hf : CC f) (hg : CC g) (h1 : hasRef f 1 = hasRef g 1) (h2 : hasRef f 2 = hasRef g 2) (h8 : hasRef f 8 = hasRef g 8) : f % 4 = g % 4 ∧ f / 8 % 2 = g / 8 % 2 := by
  unfold hasRef at h1 h2 h8
  rw [Bool.eq_iff_iff, beq_iff_eq, beq_iff_eq] at h1 h2 h8
  have := hf.1
  have := hg.1
  omega
theorem addC_bits (cc a b c : Int) (h : CC cc) : hasRef (addC cc a b c) 1 = decide (255 < a + b + c) ∧ hasRef (addC cc a b c) 2 = outOf (-128) 127 (sg a + sg b + c) ∧ hasRef (addC cc a b c) 8 = decide (128 ≤ (a + b + c) % 256) := by
  unfold addC
  have h0 := h.nz ((a + b + c) % 256) 128
  have h1 := h0.put 32 (decide (15 < a % 16 + b % 16 + c))
  have h2 := h1.put 2 (outOf (-128) 127 (sg a + sg b + c))
  refine ⟨?_, ?_, ?_⟩
  · rw [hasRef_put _ 1 _ h2.1 h2.2 bit1]
  · rw [hasRef_putN _ 1 2 _ h2.1 h2.2 bit1 bit2 (by decide), hasRef_put _ 2 _ h1.1 h1.2 bit2]
  · rw [hasRef_putN _ 1 8 _ h2.1 h2.2 bit1 bit8 (by decide), hasRef_putN _ 2 8 _ h1.1 h1.2 bit2 bit8 (by decide), hasRef_putN _ 32 8 _ h0.1 h0.2 bit32 bit8 (by decide), hasRef_nz8 _ _ _ h]
theorem wordC_bits (cc p s : Int) (h : CC cc) : hasRef (wordC cc p s) 1 = outOf 0 65535 p ∧ hasRef (wordC cc p s) 2 = outOf (-32768) 32767 s ∧ hasRef (wordC cc p s) 8 = decide (32768 ≤ p % 65536) := by
  unfold wordC
  have h1 := h.nz (p % 65536) 32768
  have h2 := h1.put 2 (outOf (-32768) 32767 s)
  refine ⟨?_, ?_, ?_⟩
  · rw [hasRef_put _ 1 _ h2.1 h2.2 bit1]
  · rw [hasRef_putN _ 1 2 _ h2.1 h2.2 bit1 bit2 (by decide), hasRef_put _ 2 _ h1.1 h1.2 bit2]
  · rw [hasRef_putN _ 1 8 _ h2.1 h2.2 bit1 bit8 (by decide), hasRef_putN _ 2 8 _ h1.1 h1.2 bit2 bit8 (by decide), hasRef_nz8 _ _ _ h]
theorem outOf_iff (lo hi t lo' hi' t' : Int) (h : (t < lo ∨ hi < t) ↔ (t' < lo' ∨ hi' < t')) : outOf lo hi t = outOf lo' hi' t' := by
  unfold outOf
  rw [Bool.eq_iff_iff]
  simpa using h
theorem addHalves (cc a b : Int) (h : CC cc) (ha : 0 ≤ a) (ha' : a < 65536) (hb : 0 ≤ b) (hb' : b < 65536) (f g x : Int)
    (ef : addC cc (a % 256) (b % 256) 0 = f) (eg : addC f (a / 256) (b / 256) (f % 2) = g) (ex : wordC cc (a + b) (sgW a + sgW b) = x) :
    (256 * ((a / 256 + b / 256 + f % 2) % 256) + (a + b) % 256 = (a + b) % 65536) ∧ g % 4 = x % 4 ∧ g / 8 % 2 = x / 8 % 2 ∧ CC f ∧ CC g ∧ CC x := by
  have hf : CC f := by rw [← ef]; exact CC.add h _ _ _
  have hg : CC g := by rw [← eg]; exact CC.add hf _ _ _
  have hw : CC x := by rw [← ex]; exact CC.word h _ _
  have e0 : f % 2 = if 255 < a % 256 + b % 256 + 0 then 1 else 0 := by rw [← ef]; exact addC_low cc (a % 256) (b % 256) 0 h
  obtain ⟨p1, p2, p8⟩ := addC_bits f (a / 256) (b / 256) (f % 2) hf
  obtain ⟨q1, q2, q8⟩ := wordC_bits cc (a + b) (sgW a + sgW b) h
  have key : (f % 2 = 1 ∧ 255 < a % 256 + b % 256) ∨ (f % 2 = 0 ∧ a % 256 + b % 256 ≤ 255) := by split at e0 <;> omega
  rw [eg] at p1 p2 p8
  rw [ex] at q1 q2 q8
  have kk : g % 4 = x % 4 ∧ g / 8 % 2 = x / 8 % 2 := by
    refine codes_same g _ hg hw ?_ ?_ ?_
    · rw [p1, q1]; unfold outOf; rw [Bool.eq_iff_iff]; simp; omega
    · rw [p2, q2]
      apply outOf_iff
      unfold sg sgW
      split <;> split <;> split <;> split <;> omega
    · rw [p8, q8, Bool.eq_iff_iff]; simp; omega
  exact ⟨by omega, kk.1, kk.2, hf, hg, hw⟩
theorem subHalves (cc a b : Int) (h : CC cc) (ha : 0 ≤ a) (ha' : a < 65536) (hb : 0 ≤ b) (hb' : b < 65536) (f g x : Int)
    (ef : subC cc (a % 256) (b % 256) 0 = f) (eg : subC f (a / 256) (b / 256) (f % 2) = g) (ex : wordC cc (a - b) (sgW a - sgW b) = x) :
    (256 * ((a / 256 - b / 256 - f % 2) % 256) + (a - b) % 256 = (a - b) % 65536) ∧ g % 4 = x % 4 ∧ g / 8 % 2 = x / 8 % 2 ∧ CC f ∧ CC g ∧ CC x := by
  have hf : CC f := by rw [← ef]; exact CC.sub h _ _ _
  have hg : CC g := by rw [← eg]; exact CC.sub hf _ _ _
  have hw : CC x := by rw [← ex]; exact CC.word h _ _
  have e0 : f % 2 = if a % 256 - b % 256 - 0 < 0 then 1 else 0 := by rw [← ef]; exact subC_low cc (a % 256) (b % 256) 0 h
  obtain ⟨p1, p2, p8⟩ := subC_bits f (a / 256) (b / 256) (f % 2) hf
  obtain ⟨q1, q2, q8⟩ := wordC_bits cc (a - b) (sgW a - sgW b) h
  have key : (f % 2 = 1 ∧ a % 256 - b % 256 < 0) ∨ (f % 2 = 0 ∧ 0 ≤ a % 256 - b % 256) := by split at e0 <;> omega
  rw [eg] at p1 p2 p8
  rw [ex] at q1 q2 q8
  have kk : g % 4 = x % 4 ∧ g / 8 % 2 = x / 8 % 2 := by
    refine codes_same g _ hg hw ?_ ?_ ?_
    · rw [p1, q1]; unfold outOf; rw [Bool.eq_iff_iff]; simp; omega
    · rw [p2, q2]
      apply outOf_iff
      unfold sg sgW
      split <;> split <;> split <;> split <;> omega
    · rw [p8, q8, Bool.eq_iff_iff]; simp; omega
  exact ⟨by omega, kk.1, kk.2, hf, hg, hw⟩
end Go.Proofs.Ytkdekhcnamkcgab
