/- Package dis: numbers and names as texts, plainly; the contracts of the small ones, and of the document's. -/
import Derived.Test.YtljhfalgplihhaaGreatDoorGDig
import Derived.Test.YtljhfalgplihhaaGreatDoorGOps
namespace Go.Proofs.YtljhfalgplihhaaGreatDoor
open Go.ChangeShapes Go.WideShapes Go.ChangeAt Go.RowKit
set_option linter.unusedVariables false
noncomputable def hexD (n : Int) (k : Nat) : ByteArray := strOfNums (written 16 n k)
noncomputable def decD (n : Int) : ByteArray := strOfNums (written 10 n 1)
noncomputable def hexT (n : Int) (k : Nat) : ByteArray := ⟨#[36]⟩ ++ hexD n k
noncomputable def regT (r : Int) : ByteArray := if (regI r).isEmpty then ⟨#[82]⟩ ++ decD r else byteStr (regI r)
noncomputable def signT (v : Int) : ByteArray := if v < 32768 then decD v else ⟨#[45]⟩ ++ decD (65536 - v)
theorem hexD_size (n : Int) (k : Nat) (h0 : 0 ≤ n) (h : n < 65536) (hk : k ≤ 16) : (hexD n k).size ≤ 16 := size_written 16 n 16 k (by decide) (by decide) hk h0 (by omega)
theorem decD_size (n : Int) (h0 : 0 ≤ n) (h : n ≤ 65536) : (decD n).size ≤ 20 := size_written 10 n 20 1 (by decide) (by decide) (by decide) h0 (by omega)
theorem one_add (c : UInt8) (s : ByteArray) : ((⟨#[c]⟩ : ByteArray) ++ s).size = 1 + s.size := by rw [ByteArray.size_append]; rfl
theorem hexT_size (n : Int) (k : Nat) (h0 : 0 ≤ n) (h : n < 65536) (hk : k ≤ 16) : (hexT n k).size ≤ 17 := by
  have := hexD_size n k h0 h hk
  unfold hexT; rw [one_add]; omega
theorem regI_two (r : Int) : (byteStr (regI r)).size ≤ 2 := by
  by_cases h : 0 ≤ r ∧ r < 12
  · obtain ⟨k, rfl⟩ := Int.eq_ofNat_of_zero_le h.1
    have key : ∀ k : Fin 12, (byteStr (regI (k.val : Int))).size ≤ 2 := by decide +kernel
    exact key ⟨k, by omega⟩
  · unfold regI; rw [if_neg h]; decide
theorem regT_size (r : Int) (h0 : 0 ≤ r) (h : r ≤ 65536) : (regT r).size ≤ 21 := by
  have := decD_size r h0 h
  have := regI_two r
  unfold regT
  split
  · rw [one_add]; omega
  · omega
theorem signT_size (v : Int) (h0 : 0 ≤ v) (h : v < 65536) : (signT v).size ≤ 21 := by
  unfold signT
  split
  · have := decD_size v h0 (by omega); omega
  · have := decD_size (65536 - v) (by omega) (by omega)
    rw [one_add]; omega
theorem disByte_any (b : Int) (w : World) (h0 : 0 ≤ b) (h1 : b < 256) : Calls Tryz.prog 71 #[.int .u8 b] w fun e w' => e = .returned (.string (hexT b 2)) ∧ Below w.heap.size w w' := by
  have CH : Hid (∀ u, Calls Tryz.prog 27 #[.int .u64 b, .int .i64 2] u fun e w' => e = .returned (.string (hexD b 2)) ∧ Below u.heap.size u w') := Lib.hid (fun u => hex_any b 2 u h0 (by omega))
  have hs := hexD_size b 2 h0 (by omega) (by omega)
  have hz : 1 + (hexD b 2).size ≤ 1000 := by omega
  unfold hexT
  clear hs
  generalize hexD b 2 = s at CH hz ⊢
  go_enter Tryz.func71, Tryz.ntmps71
  go_wp2_with fail
  refine (CH.out _).mono ?_
  rintro e w1 ⟨rfl, hb⟩
  have HB := Lib.hid hb
  clear hb
  go_wp2
  go_ret
  exact ⟨rfl, HB.out⟩
theorem disWord_any (b : Int) (w : World) (h0 : 0 ≤ b) (h1 : b < 65536) : Calls Tryz.prog 74 #[.int .u16 b] w fun e w' => e = .returned (.string (hexT b 4)) ∧ Below w.heap.size w w' := by
  have CH : Hid (∀ u, Calls Tryz.prog 27 #[.int .u64 b, .int .i64 4] u fun e w' => e = .returned (.string (hexD b 4)) ∧ Below u.heap.size u w') := Lib.hid (fun u => hex_any b 4 u h0 (by omega))
  have hs := hexD_size b 4 h0 (by omega) (by omega)
  have hz : 1 + (hexD b 4).size ≤ 1000 := by omega
  unfold hexT
  clear hs
  generalize hexD b 4 = s at CH hz ⊢
  go_enter Tryz.func74, Tryz.ntmps74
  go_wp2_with fail
  refine (CH.out _).mono ?_
  rintro e w1 ⟨rfl, hb⟩
  have HB := Lib.hid hb
  clear hb
  go_wp2
  go_ret
  exact ⟨rfl, HB.out⟩
theorem byteStr_nil (l : Txt) (h : l.isEmpty = true) : byteStr l = ⟨#[]⟩ := by cases l with | nil => rfl | cons a b => cases h
theorem disReg_any (r : Int) (w : World) (h0 : 0 ≤ r) (h1 : r < 256) (hT : OregAt w) : Calls Tryz.prog 76 #[.int .i64 r] w fun e w' => e = .returned (.string (regT r)) ∧ Below w.heap.size w w' := by
  have CR := Lib.hid (opsRegI_any r w hT)
  have CD : Hid (∀ u, Calls Tryz.prog 90 #[.int .u64 r] u fun e w' => e = .returned (.string (decD r)) ∧ Below u.heap.size u w') := Lib.hid (fun u => dec_any r u h0 (by omega))
  have hs := decD_size r h0 (by omega)
  have hz : 1 + (decD r).size ≤ 1000 := by omega
  have hl := byteStr_list (regI r)
  unfold regT
  clear hT hs
  generalize decD r = s at CD hz ⊢
  cases he : (regI r).isEmpty
  · have hx : (byteStr (regI r)).toList.isEmpty = false := by rw [hl]; exact he
    generalize byteStr (regI r) = t at CR hx ⊢
    clear hl he
    go_enter Tryz.func76, Tryz.ntmps76
    go_wp2_with fail
    refine CR.out.mono ?_
    rintro e w1 ⟨rfl, rfl⟩
    go_wp2
    go_ret
    exact ⟨rfl, Below.refl _ _⟩
  · rw [byteStr_nil _ he] at CR
    clear hl he
    go_enter Tryz.func76, Tryz.ntmps76
    go_wp2_with fail
    refine CR.out.mono ?_
    rintro e w1 ⟨rfl, rfl⟩
    go_wp2_with fail
    refine (CD.out _).mono ?_
    rintro e w1 ⟨rfl, hb⟩
    have HB := Lib.hid hb
    clear hb
    go_wp2
    go_ret
    exact ⟨rfl, HB.out⟩
theorem disNum_any (v : Int) (w : World) (h0 : 0 ≤ v) (h1 : v < 65536) : Calls Tryz.prog 98 #[.int .u16 v] w fun e w' => e = .returned (.string (signT v)) ∧ Below w.heap.size w w' := by
  unfold signT
  by_cases h : v < 32768
  · have CD : Hid (∀ u, Calls Tryz.prog 90 #[.int .u64 v] u fun e w' => e = .returned (.string (decD v)) ∧ Below u.heap.size u w') := Lib.hid (fun u => dec_any v u h0 (by omega))
    rw [if_pos h]
    have hw : IntKind.i16.wrap v = v := by simp [IntKind.wrap, IntKind.bits, IntKind.signed]; omega
    generalize decD v = s at CD ⊢
    go_enter Tryz.func98, Tryz.ntmps98
    go_wp2_with fail
    refine (CD.out _).mono ?_
    rintro e w1 ⟨rfl, hb⟩
    have HB := Lib.hid hb
    clear hb
    go_wp2
    go_ret
    exact ⟨rfl, HB.out⟩
  · have CD : Hid (∀ u, Calls Tryz.prog 90 #[.int .u64 (65536 - v)] u fun e w' => e = .returned (.string (decD (65536 - v))) ∧ Below u.heap.size u w') := Lib.hid (fun u => dec_any (65536 - v) u (by omega) (by omega))
    have hs := decD_size (65536 - v) (by omega) (by omega)
    have hz : 1 + (decD (65536 - v)).size ≤ 1000 := by omega
    rw [if_neg h]
    have hw : IntKind.i16.wrap v = v - 65536 := by simp [IntKind.wrap, IntKind.bits, IntKind.signed]; omega
    have hw2 : IntKind.i64.wrap (-(v - 65536)) = 65536 - v := by rw [IntWalk.i64_in _ (by omega)]; omega
    have hw3 : -(v - 65536) = 65536 - v := by omega
    clear hs
    generalize decD (65536 - v) = s at CD hz ⊢
    go_enter Tryz.func98, Tryz.ntmps98
    go_wp2_with fail
    refine (CD.out _).mono ?_
    rintro e w1 ⟨rfl, hb⟩
    have HB := Lib.hid hb
    clear hb
    go_wp2
    go_ret
    exact ⟨rfl, HB.out⟩
theorem refHex42_any (n : Int) (k : Nat) (w : World) (h0 : 0 ≤ n) (h1 : n < 65536) (hk1 : 1 ≤ k) (hk : k ≤ 16) : Calls Tryz.prog 18 #[.int .i64 n, .int .i64 k] w fun e w' => e = .returned (.string (hexT n k)) ∧ w = w' := by
  have CH : Hid (∀ u, Calls Tryz.prog 8 #[.int .u64 n, .int .u64 16, .int .i64 k] u fun e w' => e = .returned (.string (hexD n k)) ∧ u = w') := Lib.hid (fun u => refDigits16_any n k u h0 (by omega) hk1 hk)
  have hs := hexD_size n k h0 h1 hk
  have hz : 1 + (hexD n k).size ≤ 1000 := by omega
  unfold hexT
  clear hs
  generalize hexD n k = s at CH hz ⊢
  go_enter Tryz.func18, Tryz.ntmps18
  go_wp2_with fail
  refine (CH.out _).mono ?_
  rintro e w1 ⟨rfl, rfl⟩
  go_wp2
  go_ret
  exact ⟨rfl, rfl⟩
theorem refSigned_any (v : Int) (w : World) (h0 : 0 ≤ v) (h1 : v < 65536) : Calls Tryz.prog 34 #[.int .u16 v] w fun e w' => e = .returned (.string (signT v)) ∧ w = w' := by
  unfold signT
  by_cases h : v < 32768
  · have CD : Hid (∀ u, Calls Tryz.prog 8 #[.int .u64 v, .int .u64 10, .int .i64 1] u fun e w' => e = .returned (.string (decD v)) ∧ u = w') := Lib.hid (fun u => refDigits10_any v 1 u h0 (by omega) (by omega) (by omega))
    rw [if_pos h]
    generalize decD v = s at CD ⊢
    go_enter Tryz.func34, Tryz.ntmps34
    go_wp2_with fail
    refine (CD.out _).mono ?_
    rintro e w1 ⟨rfl, rfl⟩
    go_wp2
    go_ret
    exact ⟨rfl, rfl⟩
  · have CD : Hid (∀ u, Calls Tryz.prog 8 #[.int .u64 (65536 - v), .int .u64 10, .int .i64 1] u fun e w' => e = .returned (.string (decD (65536 - v))) ∧ u = w') := Lib.hid (fun u => refDigits10_any (65536 - v) 1 u (by omega) (by omega) (by omega) (by omega))
    have hs := decD_size (65536 - v) (by omega) (by omega)
    have hz : 1 + (decD (65536 - v)).size ≤ 1000 := by omega
    rw [if_neg h]
    have hw3 : IntKind.i64.wrap (65536 - v) = 65536 - v := IntWalk.i64_in _ (by omega)
    clear hs
    generalize decD (65536 - v) = s at CD hz ⊢
    go_enter Tryz.func34, Tryz.ntmps34
    go_wp2_with fail
    refine (CD.out _).mono ?_
    rintro e w1 ⟨rfl, rfl⟩
    go_wp2
    go_ret
    exact ⟨rfl, rfl⟩
theorem refReg42_any (r : Int) (w : World) (h0 : 0 ≤ r) (h1 : r < 256) : Calls Tryz.prog 20 #[.int .i64 r] w fun e w' => e = .returned (.string (regT r)) ∧ Below w.heap.size w w' := by
  have CR := Lib.hid (refRegI_any r w)
  have CD : Hid (∀ u, Calls Tryz.prog 8 #[.int .u64 r, .int .u64 10, .int .i64 1] u fun e w' => e = .returned (.string (decD r)) ∧ u = w') := Lib.hid (fun u => refDigits10_any r 1 u h0 (by omega) (by omega) (by omega))
  have hs := decD_size r h0 (by omega)
  have hz : 1 + (decD r).size ≤ 1000 := by omega
  have hl := byteStr_list (regI r)
  unfold regT
  clear hs
  generalize decD r = s at CD hz ⊢
  cases he : (regI r).isEmpty
  · have hx : (byteStr (regI r)).toList.isEmpty = false := by rw [hl]; exact he
    generalize byteStr (regI r) = t at CR hx ⊢
    clear hl he
    go_enter Tryz.func20, Tryz.ntmps20
    go_wp2_with fail
    refine CR.out.mono ?_
    rintro e w1 ⟨rfl, hb⟩
    have HB := Lib.hid hb
    clear hb
    go_wp2
    go_ret
    exact ⟨rfl, HB.out⟩
  · rw [byteStr_nil _ he] at CR
    clear hl he
    go_enter Tryz.func20, Tryz.ntmps20
    go_wp2_with fail
    refine CR.out.mono ?_
    rintro e w1 ⟨rfl, hb⟩
    have HB := Lib.hid hb
    clear hb
    go_wp2_with fail
    refine (CD.out _).mono ?_
    rintro e w1 ⟨rfl, rfl⟩
    go_wp2
    go_ret
    exact ⟨rfl, HB.out⟩
end Go.Proofs.YtljhfalgplihhaaGreatDoor
