/- What the law FlagsBits reckons bit by bit is what the masks say. No program in sight. -/
import Derived.Test.YtgmacigoihiobaaFlgRead
import Derived.Test.YtgmacigoihiobaaBit
namespace Go.Proofs.Ytgmacigoihiobaa
open Go.ChangeShapes Go.WideShapes Go.ChangeAt Go.RowKit
set_option linter.unusedVariables false

def pw (j : Nat) : Int := ((2 ^ j : Nat) : Int)
theorem pw_pos (j : Nat) : 0 < pw j := by unfold pw; have := Nat.two_pow_pos j; omega
theorem pw_next (j : Nat) : pw (j + 1) = 2 * pw j := by unfold pw; rw [Nat.pow_succ]; omega
theorem pw_lt (j : Nat) (h : j < 8) : pw j < 256 := by
  rcases (show j = 0 ∨ j = 1 ∨ j = 2 ∨ j = 3 ∨ j = 4 ∨ j = 5 ∨ j = 6 ∨ j = 7 by omega) with rfl | rfl | rfl | rfl | rfl | rfl | rfl | rfl <;> decide
def maskTo (x : Int) : Nat → Int
  | 0 => 0
  | j + 1 => if hasRef x (pw j) then bits .or .u8 (maskTo x j) (pw j) else maskTo x j
def hasIn (cc x : Int) (h : Bool) : Nat → Bool
  | 0 => h
  | j + 1 => if hasRef x (pw j) then hasIn cc x h j && hasRef cc (pw j) else hasIn cc x h j
def wantIn (on : Bool) (x w : Int) : Nat → Int
  | 0 => w
  | j + 1 => if hasRef x (pw j) then putRef (wantIn on x w j) (pw j) on else wantIn on x w j
theorem maskTo_range (x : Int) : ∀ j, 0 ≤ maskTo x j ∧ maskTo x j < 256
  | 0 => by simp [maskTo]
  | j + 1 => by
    unfold maskTo; split
    · exact bits_u8_range _ _ _
    · exact maskTo_range x j
theorem wantIn_range (on : Bool) (x w : Int) (h0 : 0 ≤ w) (h1 : w < 256) : ∀ j, 0 ≤ wantIn on x w j ∧ wantIn on x w j < 256
  | 0 => ⟨h0, h1⟩
  | j + 1 => by
    have ih := wantIn_range on x w h0 h1 j
    unfold wantIn; split
    · exact putRef_range _ _ _ ih.1 ih.2
    · exact ih
theorem hasRef_fin : ∀ (cc : Fin 256) (j : Fin 8), hasRef (cc.val : Int) (pw j.val) = (bits .and .u8 (cc.val : Int) (pw j.val) == pw j.val) := by decide +kernel
theorem hasRef_mask (cc : Int) (j : Nat) (h0 : 0 ≤ cc) (h1 : cc < 256) (hj : j < 8) : hasRef cc (pw j) = (bits .and .u8 cc (pw j) == pw j) := by
  obtain ⟨n, rfl⟩ := Int.eq_ofNat_of_zero_le h0
  exact hasRef_fin ⟨n, by omega⟩ ⟨j, hj⟩
theorem maskTo_fin : ∀ x : Fin 256, maskTo (x.val : Int) 8 = (x.val : Int) := by decide +kernel
theorem maskTo_all (x : Int) (h0 : 0 ≤ x) (h1 : x < 256) : maskTo x 8 = x := by
  obtain ⟨n, rfl⟩ := Int.eq_ofNat_of_zero_le h0
  exact maskTo_fin ⟨n, by omega⟩
theorem hasIn_mask (cc x : Int) (h : Bool) (h0 : 0 ≤ cc) (h1 : cc < 256) : ∀ j, j ≤ 8 → hasIn cc x h j = (h && (bits .and .u8 cc (maskTo x j) == maskTo x j))
  | 0, _ => by simp [hasIn, maskTo, and_zero]
  | j + 1, hj => by
    have ih := hasIn_mask cc x h h0 h1 j (by omega)
    have hr := maskTo_range x j
    unfold hasIn maskTo
    split
    · rw [ih, has_or cc _ _ hr.1 hr.2 (by have := pw_pos j; omega) (pw_lt j (by omega)), hasRef_mask cc j h0 h1 (by omega), Bool.and_assoc]
    · exact ih
theorem wantIn_mask (on : Bool) (x w : Int) (h0 : 0 ≤ w) (h1 : w < 256) : ∀ j, j ≤ 8 → wantIn on x w j = withOf w on (maskTo x j)
  | 0, _ => by cases on <;> simp [wantIn, maskTo, withOf, or_zero w h0 h1, andNot_zero w h0 h1]
  | j + 1, hj => by
    have ih := wantIn_mask on x w h0 h1 j (by omega)
    have hr := wantIn_range on x w h0 h1 j
    unfold wantIn maskTo
    split
    · rw [show pw j = ((2 ^ j : Nat) : Int) from rfl, putRef_with' j (by omega) _ on hr.1 hr.2, ih]
      cases on
      · exact andNot_or _ _ _
      · exact or_or _ _ _
    · exact ih
theorem withOf_range (w : Int) (on : Bool) (m : Int) : 0 ≤ withOf w on m ∧ withOf w on m < 256 := by
  cases on
  · show 0 ≤ bits .andNot .u8 w m ∧ bits .andNot .u8 w m < 256
    exact bits_u8_range _ _ _
  · show 0 ≤ bits .or .u8 w m ∧ bits .or .u8 w m < 256
    exact bits_u8_range _ _ _
theorem has_list (cc : Int) (h0 : 0 ≤ cc) (h1 : cc < 256) : ∀ (zs : List Int), (∀ z ∈ zs, 0 ≤ z ∧ z < 256) → ∀ m, 0 ≤ m → m < 256 →
    zs.foldl (fun h x => hasIn cc x h 8) (bits .and .u8 cc m == m) = (bits .and .u8 cc (zs.foldl (fun m x => bits .or .u8 m x) m) == zs.foldl (fun m x => bits .or .u8 m x) m)
  | [], _, m, _, _ => rfl
  | z :: zs, hz, m, m0, m1 => by
    have hz0 := hz z (by simp)
    rw [List.foldl_cons, List.foldl_cons, hasIn_mask cc z _ h0 h1 8 (by omega), maskTo_all z hz0.1 hz0.2, ← has_or cc m z m0 m1 hz0.1 hz0.2]
    exact has_list cc h0 h1 zs (fun y hy => hz y (by simp [hy])) _ (bits_u8_range _ _ _).1 (bits_u8_range _ _ _).2
theorem want_list (cc : Int) (on : Bool) : ∀ (zs : List Int), (∀ z ∈ zs, 0 ≤ z ∧ z < 256) → ∀ m,
    zs.foldl (fun w x => wantIn on x w 8) (withOf cc on m) = withOf cc on (zs.foldl (fun m x => bits .or .u8 m x) m)
  | [], _, m => rfl
  | z :: zs, hz, m => by
    have hz0 := hz z (by simp)
    have hw := withOf_range cc on m
    have e : withOf (withOf cc on m) on z = withOf cc on (bits .or .u8 m z) := by
      cases on
      · exact andNot_or _ _ _
      · exact or_or _ _ _
    rw [List.foldl_cons, List.foldl_cons, wantIn_mask on z _ hw.1 hw.2 8 (by omega), maskTo_all z hz0.1 hz0.2, e]
    exact want_list cc on zs (fun y hy => hz y (by simp [hy])) _
def hasAll (cc : Int) (zs : List Int) : Bool := zs.foldl (fun h x => hasIn cc x h 8) true
def wantAll (cc : Int) (on : Bool) (zs : List Int) : Int := zs.foldl (fun w x => wantIn on x w 8) cc
theorem hasAll_eq (cc : Int) (zs : List Int) (h0 : 0 ≤ cc) (h1 : cc < 256) (hz : ∀ z ∈ zs, 0 ≤ z ∧ z < 256) : (bits .and .u8 cc (orAll zs) == orAll zs) = hasAll cc zs := by
  have := has_list cc h0 h1 zs hz 0 (by omega) (by omega)
  rw [and_zero] at this
  exact this.symm
theorem wantAll_eq (cc : Int) (on : Bool) (zs : List Int) (h0 : 0 ≤ cc) (h1 : cc < 256) (hz : ∀ z ∈ zs, 0 ≤ z ∧ z < 256) : withOf cc on (orAll zs) = wantAll cc on zs := by
  have := want_list cc on zs hz 0
  rw [show withOf cc on 0 = cc by cases on <;> simp [withOf, or_zero cc h0 h1, andNot_zero cc h0 h1]] at this
  exact this.symm
theorem wantAll_range (on : Bool) : ∀ (zs : List Int) (cc : Int), 0 ≤ cc → cc < 256 → 0 ≤ wantAll cc on zs ∧ wantAll cc on zs < 256
  | [], cc, h0, h1 => ⟨h0, h1⟩
  | z :: zs, cc, h0, h1 => by
    have hr := wantIn_range on z cc h0 h1 8
    exact wantAll_range on zs _ hr.1 hr.2
end Go.Proofs.Ytgmacigoihiobaa
