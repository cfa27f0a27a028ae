/- DsA, DsC, DsD, DsB, DsE, DsF, DsR, DsT in one text. -/
import Derived.Test.YtopkjniegncokaaDoorGDig
import Derived.Test.YtopkjniegncokaaDoorGOps
import Derived.Test.YtopkjniegncokaaDoorPostC
import Derived.Great.Walk
import Derived.Test.YtopkjniegncokaaDoorGIns
import Derived.Test.YtopkjniegncokaaDoorGLst
namespace Go.Proofs.YtopkjniegncokaaDoor
open Go.ChangeShapes Go.WideShapes Go.ChangeAt Go.RowKit
set_option linter.unusedVariables false
noncomputable def hexD (n : Int) (k : Nat) : ByteArray := strOfNums (written 16 n k)
noncomputable def decD (n : Int) : ByteArray := strOfNums (written 10 n 1)
noncomputable def hexT (n : Int) (k : Nat) : ByteArray := ⟨#[36]⟩ ++ hexD n k
noncomputable def regT (r : Int) : ByteArray := if (regI r).isEmpty then ⟨#[82]⟩ ++ decD r else byteStr (regI r)
noncomputable def signT (v : Int) : ByteArray := if v < 32768 then decD v else ⟨#[45]⟩ ++ decD (65536 - v)
theorem hexD_size (n : Int) (k : Nat) (h0 : 0 ≤ n) (h : n < 65536) (hk : k ≤ 16) : (hexD n k).size ≤ 16 := size_written 16 n 16 k (by decide) (by decide) hk h0 (by omega)
theorem decD_size (n : Int) (h0 : 0 ≤ n) (h : n ≤ 65536) : (decD n).size ≤ 20 := size_written 10 n 20 1 (by decide) (by decide) (by decide) h0 (by omega)
theorem one_add (c : UInt8) (s : ByteArray) : ((⟨#[c]⟩ : ByteArray) ++ s).size = 1 + s.size := by rw [ByteArray.size_append]; rfl
theorem hexT_size (n : Int) (k : Nat) (h0 : 0 ≤ n) (h : n < 65536) (hk : k ≤ 16) : (hexT n k).size ≤ 17 := by
  have := hexD_size n k h0 h hk
  unfold hexT; rw [one_add]; omega
theorem regI_two (r : Int) : (byteStr (regI r)).size ≤ 2 := by
  by_cases h : 0 ≤ r ∧ r < 12
  · obtain ⟨k, rfl⟩ := Int.eq_ofNat_of_zero_le h.1
    have key : ∀ k : Fin 12, (byteStr (regI (k.val : Int))).size ≤ 2 := by decide +kernel
    exact key ⟨k, by omega⟩
  · unfold regI; rw [if_neg h]; decide
theorem regT_size (r : Int) (h0 : 0 ≤ r) (h : r ≤ 65536) : (regT r).size ≤ 21 := by
  have := decD_size r h0 h
  have := regI_two r
  unfold regT
  split
  · rw [one_add]; omega
  · omega
theorem signT_size (v : Int) (h0 : 0 ≤ v) (h : v < 65536) : (signT v).size ≤ 21 := by
  unfold signT
  split
  · have := decD_size v h0 (by omega); omega
  · have := decD_size (65536 - v) (by omega) (by omega)
    rw [one_add]; omega
theorem disByte_any (b : Int) (w : World) (h0 : 0 ≤ b) (h1 : b < 256) : Calls Tryd.prog 10 #[.int .u8 b] w fun e w' => e = .returned (.string (hexT b 2)) ∧ Below w.heap.size w w' := by
  have CH : Hid (∀ u, Calls Tryd.prog 27 #[.int .u64 b, .int .i64 2] u fun e w' => e = .returned (.string (hexD b 2)) ∧ Below u.heap.size u w') := Lib.hid (fun u => hex_any b 2 u h0 (by omega))
  have hs := hexD_size b 2 h0 (by omega) (by omega)
  have hz : 1 + (hexD b 2).size ≤ 1000 := by omega
  unfold hexT
  clear hs
  generalize hexD b 2 = s at CH hz ⊢
  go_enter Tryd.func10, Tryd.ntmps10
  go_wp2_with fail
  refine (CH.out _).mono ?_
  rintro e w1 ⟨rfl, hb⟩
  have HB := Lib.hid hb
  clear hb
  go_wp2
  go_ret
  exact ⟨rfl, HB.out⟩
theorem disWord_any (b : Int) (w : World) (h0 : 0 ≤ b) (h1 : b < 65536) : Calls Tryd.prog 12 #[.int .u16 b] w fun e w' => e = .returned (.string (hexT b 4)) ∧ Below w.heap.size w w' := by
  have CH : Hid (∀ u, Calls Tryd.prog 27 #[.int .u64 b, .int .i64 4] u fun e w' => e = .returned (.string (hexD b 4)) ∧ Below u.heap.size u w') := Lib.hid (fun u => hex_any b 4 u h0 (by omega))
  have hs := hexD_size b 4 h0 (by omega) (by omega)
  have hz : 1 + (hexD b 4).size ≤ 1000 := by omega
  unfold hexT
  clear hs
  generalize hexD b 4 = s at CH hz ⊢
  go_enter Tryd.func12, Tryd.ntmps12
  go_wp2_with fail
  refine (CH.out _).mono ?_
  rintro e w1 ⟨rfl, hb⟩
  have HB := Lib.hid hb
  clear hb
  go_wp2
  go_ret
  exact ⟨rfl, HB.out⟩
theorem byteStr_nil (l : Txt) (h : l.isEmpty = true) : byteStr l = ⟨#[]⟩ := by cases l with | nil => rfl | cons a b => cases h
theorem disReg_any (r : Int) (w : World) (h0 : 0 ≤ r) (h1 : r < 256) (hT : OregAt w) : Calls Tryd.prog 13 #[.int .i64 r] w fun e w' => e = .returned (.string (regT r)) ∧ Below w.heap.size w w' := by
  have CR := Lib.hid (opsRegI_any r w hT)
  have CD : Hid (∀ u, Calls Tryd.prog 30 #[.int .u64 r] u fun e w' => e = .returned (.string (decD r)) ∧ Below u.heap.size u w') := Lib.hid (fun u => dec_any r u h0 (by omega))
  have hs := decD_size r h0 (by omega)
  have hz : 1 + (decD r).size ≤ 1000 := by omega
  have hl := byteStr_list (regI r)
  unfold regT
  clear hT hs
  generalize decD r = s at CD hz ⊢
  cases he : (regI r).isEmpty
  · have hx : (byteStr (regI r)).toList.isEmpty = false := by rw [hl]; exact he
    generalize byteStr (regI r) = t at CR hx ⊢
    clear hl he
    go_enter Tryd.func13, Tryd.ntmps13
    go_wp2_with fail
    refine CR.out.mono ?_
    rintro e w1 ⟨rfl, rfl⟩
    go_wp2
    go_ret
    exact ⟨rfl, Below.refl _ _⟩
  · rw [byteStr_nil _ he] at CR
    clear hl he
    go_enter Tryd.func13, Tryd.ntmps13
    go_wp2_with fail
    refine CR.out.mono ?_
    rintro e w1 ⟨rfl, rfl⟩
    go_wp2_with fail
    refine (CD.out _).mono ?_
    rintro e w1 ⟨rfl, hb⟩
    have HB := Lib.hid hb
    clear hb
    go_wp2
    go_ret
    exact ⟨rfl, HB.out⟩
theorem disNum_any (v : Int) (w : World) (h0 : 0 ≤ v) (h1 : v < 65536) : Calls Tryd.prog 74 #[.int .u16 v] w fun e w' => e = .returned (.string (signT v)) ∧ Below w.heap.size w w' := by
  unfold signT
  by_cases h : v < 32768
  · have CD : Hid (∀ u, Calls Tryd.prog 30 #[.int .u64 v] u fun e w' => e = .returned (.string (decD v)) ∧ Below u.heap.size u w') := Lib.hid (fun u => dec_any v u h0 (by omega))
    rw [if_pos h]
    have hw : IntKind.i16.wrap v = v := by simp [IntKind.wrap, IntKind.bits, IntKind.signed]; omega
    generalize decD v = s at CD ⊢
    go_enter Tryd.func74, Tryd.ntmps74
    go_wp2_with fail
    refine (CD.out _).mono ?_
    rintro e w1 ⟨rfl, hb⟩
    have HB := Lib.hid hb
    clear hb
    go_wp2
    go_ret
    exact ⟨rfl, HB.out⟩
  · have CD : Hid (∀ u, Calls Tryd.prog 30 #[.int .u64 (65536 - v)] u fun e w' => e = .returned (.string (decD (65536 - v))) ∧ Below u.heap.size u w') := Lib.hid (fun u => dec_any (65536 - v) u (by omega) (by omega))
    have hs := decD_size (65536 - v) (by omega) (by omega)
    have hz : 1 + (decD (65536 - v)).size ≤ 1000 := by omega
    rw [if_neg h]
    have hw : IntKind.i16.wrap v = v - 65536 := by simp [IntKind.wrap, IntKind.bits, IntKind.signed]; omega
    have hw2 : IntKind.i64.wrap (-(v - 65536)) = 65536 - v := by rw [IntWalk.i64_in _ (by omega)]; omega
    have hw3 : -(v - 65536) = 65536 - v := by omega
    clear hs
    generalize decD (65536 - v) = s at CD hz ⊢
    go_enter Tryd.func74, Tryd.ntmps74
    go_wp2_with fail
    refine (CD.out _).mono ?_
    rintro e w1 ⟨rfl, hb⟩
    have HB := Lib.hid hb
    clear hb
    go_wp2
    go_ret
    exact ⟨rfl, HB.out⟩
theorem refHex42_any (n : Int) (k : Nat) (w : World) (h0 : 0 ≤ n) (h1 : n < 65536) (hk1 : 1 ≤ k) (hk : k ≤ 16) : Calls Tryd.prog 11 #[.int .i64 n, .int .i64 k] w fun e w' => e = .returned (.string (hexT n k)) ∧ w = w' := by
  have CH : Hid (∀ u, Calls Tryd.prog 28 #[.int .u64 n, .int .u64 16, .int .i64 k] u fun e w' => e = .returned (.string (hexD n k)) ∧ u = w') := Lib.hid (fun u => refDigits16_any n k u h0 (by omega) hk1 hk)
  have hs := hexD_size n k h0 h1 hk
  have hz : 1 + (hexD n k).size ≤ 1000 := by omega
  unfold hexT
  clear hs
  generalize hexD n k = s at CH hz ⊢
  go_enter Tryd.func11, Tryd.ntmps11
  go_wp2_with fail
  refine (CH.out _).mono ?_
  rintro e w1 ⟨rfl, rfl⟩
  go_wp2
  go_ret
  exact ⟨rfl, rfl⟩
theorem refSigned_any (v : Int) (w : World) (h0 : 0 ≤ v) (h1 : v < 65536) : Calls Tryd.prog 42 #[.int .u16 v] w fun e w' => e = .returned (.string (signT v)) ∧ w = w' := by
  unfold signT
  by_cases h : v < 32768
  · have CD : Hid (∀ u, Calls Tryd.prog 28 #[.int .u64 v, .int .u64 10, .int .i64 1] u fun e w' => e = .returned (.string (decD v)) ∧ u = w') := Lib.hid (fun u => refDigits10_any v 1 u h0 (by omega) (by omega) (by omega))
    rw [if_pos h]
    generalize decD v = s at CD ⊢
    go_enter Tryd.func42, Tryd.ntmps42
    go_wp2_with fail
    refine (CD.out _).mono ?_
    rintro e w1 ⟨rfl, rfl⟩
    go_wp2
    go_ret
    exact ⟨rfl, rfl⟩
  · have CD : Hid (∀ u, Calls Tryd.prog 28 #[.int .u64 (65536 - v), .int .u64 10, .int .i64 1] u fun e w' => e = .returned (.string (decD (65536 - v))) ∧ u = w') := Lib.hid (fun u => refDigits10_any (65536 - v) 1 u (by omega) (by omega) (by omega) (by omega))
    have hs := decD_size (65536 - v) (by omega) (by omega)
    have hz : 1 + (decD (65536 - v)).size ≤ 1000 := by omega
    rw [if_neg h]
    have hw3 : IntKind.i64.wrap (65536 - v) = 65536 - v := IntWalk.i64_in _ (by omega)
    clear hs
    generalize decD (65536 - v) = s at CD hz ⊢
    go_enter Tryd.func42, Tryd.ntmps42
    go_wp2_with fail
    refine (CD.out _).mono ?_
    rintro e w1 ⟨rfl, rfl⟩
    go_wp2
    go_ret
    exact ⟨rfl, rfl⟩
theorem refReg42_any (r : Int) (w : World) (h0 : 0 ≤ r) (h1 : r < 256) : Calls Tryd.prog 14 #[.int .i64 r] w fun e w' => e = .returned (.string (regT r)) ∧ Below w.heap.size w w' := by
  have CR := Lib.hid (refRegI_any r w)
  have CD : Hid (∀ u, Calls Tryd.prog 28 #[.int .u64 r, .int .u64 10, .int .i64 1] u fun e w' => e = .returned (.string (decD r)) ∧ u = w') := Lib.hid (fun u => refDigits10_any r 1 u h0 (by omega) (by omega) (by omega))
  have hs := decD_size r h0 (by omega)
  have hz : 1 + (decD r).size ≤ 1000 := by omega
  have hl := byteStr_list (regI r)
  unfold regT
  clear hs
  generalize decD r = s at CD hz ⊢
  cases he : (regI r).isEmpty
  · have hx : (byteStr (regI r)).toList.isEmpty = false := by rw [hl]; exact he
    generalize byteStr (regI r) = t at CR hx ⊢
    clear hl he
    go_enter Tryd.func14, Tryd.ntmps14
    go_wp2_with fail
    refine CR.out.mono ?_
    rintro e w1 ⟨rfl, hb⟩
    have HB := Lib.hid hb
    clear hb
    go_wp2
    go_ret
    exact ⟨rfl, HB.out⟩
  · rw [byteStr_nil _ he] at CR
    clear hl he
    go_enter Tryd.func14, Tryd.ntmps14
    go_wp2_with fail
    refine CR.out.mono ?_
    rintro e w1 ⟨rfl, hb⟩
    have HB := Lib.hid hb
    clear hb
    go_wp2_with fail
    refine (CD.out _).mono ?_
    rintro e w1 ⟨rfl, rfl⟩
    go_wp2
    go_ret
    exact ⟨rfl, HB.out⟩
end Go.Proofs.YtopkjniegncokaaDoor
namespace Go.Proofs.YtopkjniegncokaaDoor
open Go.ChangeShapes Go.WideShapes Go.ChangeAt Go.RowKit
set_option linter.unusedVariables false
/-- An indexed operand by its kind, its register's name, its offset and its value, without brackets. -/
noncomputable def pntT (k : Nat) (S : ByteArray) (o v : Int) : ByteArray :=
  if k = 1 then signT o ++ (⟨#[44]⟩ ++ S) else if k = 2 ∨ k = 11 then (⟨#[60]⟩ ++ signT v) ++ (⟨#[44]⟩ ++ S) else if k = 3 ∨ k = 12 then (⟨#[62]⟩ ++ hexT v 4) ++ (⟨#[44]⟩ ++ S)
  else if k = 4 then ⟨#[65]⟩ ++ (⟨#[44]⟩ ++ S) else if k = 5 then ⟨#[66]⟩ ++ (⟨#[44]⟩ ++ S) else if k = 6 then ⟨#[68]⟩ ++ (⟨#[44]⟩ ++ S)
  else if k = 7 then (⟨#[44]⟩ ++ S) ++ ⟨#[43]⟩ else if k = 8 then (⟨#[44]⟩ ++ S) ++ ⟨#[43, 43]⟩ else if k = 9 then ⟨#[44, 45]⟩ ++ S else if k = 10 then ⟨#[44, 45, 45]⟩ ++ S
  else if k = 13 then hexT v 4 else ⟨#[44]⟩ ++ S
noncomputable def idxT (k : Nat) (S : ByteArray) (o v : Int) (d : Bool) : ByteArray := if d then (⟨#[91]⟩ ++ pntT k S o v) ++ ⟨#[93]⟩ else pntT k S o v
theorem lit_size (l : Array UInt8) : (⟨l⟩ : ByteArray).size = l.size := rfl
theorem pntT_size (k : Nat) (S : ByteArray) (o v : Int) (hS : S.size ≤ 2) (o0 : 0 ≤ o) (o1 : o < 65536) (v0 : 0 ≤ v) (v1 : v < 65536) : (pntT k S o v).size ≤ 40 := by
  have h1 := signT_size o o0 o1
  have h2 := signT_size v v0 v1
  have h3 := hexT_size v 4 v0 v1 (by omega)
  unfold pntT
  repeat' split
  all_goals ((try simp only [ByteArray.size_append, lit_size, List.size_toArray, List.length_cons, List.length_nil]); omega)
set_option maxHeartbeats 2000000 in
theorem pointed_any (k : Nat) (hk : k < 14) (r o v : Int) (d : Bool) (w : World) (o0 : 0 ≤ o) (o1 : o < 65536) (v0 : 0 ≤ v) (v1 : v < 65536) (hT : OregAt w) :
    Calls Tryd.prog 61 #[.agg #[.int .i64 (k : Int), .int .i64 r, .int .u16 o, .bool d], .int .u16 v] w fun e w' => e = .returned (.string (pntT k (byteStr (regI r)) o v)) ∧ Below w.heap.size w w' := by
  have CR := Lib.hid (fun u (h : OregAt u) => opsRegI_any r u h)
  have CO := Lib.hid (fun u => disNum_any o u o0 o1)
  have CV := Lib.hid (fun u => disNum_any v u v0 v1)
  have CW := Lib.hid (fun u => disWord_any v u v0 v1)
  have hS := regI_two r
  have h1 := signT_size o o0 o1
  have h2 := signT_size v v0 v1
  have h3 := hexT_size v 4 v0 v1 (by omega)
  have HB0 := Lib.hid (Below.alloc0 (Below.refl w.heap.size w) (Obj.cells #[.int .i64 (k : Int), .int .i64 r, .int .u16 o, .bool d] 46))
  have HT0 := Lib.hid (hT.below (Below.alloc0 (Below.refl w.heap.size w) (Obj.cells #[.int .i64 (k : Int), .int .i64 r, .int .u16 o, .bool d] 46)))
  unfold pntT
  generalize byteStr (regI r) = S at CR hS ⊢
  generalize signT o = So at CO h1 ⊢
  generalize signT v = Sv at CV h2 ⊢
  generalize hexT v 4 = Hv at CW h3 ⊢
  have z1 : 1 + S.size ≤ 100 := by omega
  have z2 : So.size + (1 + S.size) ≤ 100 := by omega
  have z3 : 1 + Sv.size ≤ 100 := by omega
  have z4 : 1 + Sv.size + (1 + S.size) ≤ 100 := by omega
  have z5 : 1 + Hv.size ≤ 100 := by omega
  have z6 : 1 + Hv.size + (1 + S.size) ≤ 100 := by omega
  have z7 : 1 + (1 + S.size) ≤ 100 := by omega
  have z8 : 1 + S.size + 1 ≤ 100 := by omega
  have z9 : 1 + S.size + 2 ≤ 100 := by omega
  have za : 2 + S.size ≤ 100 := by omega
  have zb : 3 + S.size ≤ 100 := by omega
  clear hS h1 h2 h3 hT
  rcases (show k = 0 ∨ k = 1 ∨ k = 2 ∨ k = 3 ∨ k = 4 ∨ k = 5 ∨ k = 6 ∨ k = 7 ∨ k = 8 ∨ k = 9 ∨ k = 10 ∨ k = 11 ∨ k = 12 ∨ k = 13 by omega) with rfl | rfl | rfl | rfl | rfl | rfl | rfl | rfl | rfl | rfl | rfl | rfl | rfl | rfl
  all_goals try simp (decide := true) only [↓reduceIte]
  all_goals
    go_enter Tryd.func61, Tryd.ntmps61
    go_wp2_with fail
    refine (CR.out _ HT0.out).mono ?_
    rintro e w1 ⟨rfl, rfl⟩
    go_wp2_with fail
    first
      | (go_ret
         exact ⟨rfl, HB0.out⟩)
      | (go_at_call 29
         refine (CR.out _ HT0.out).mono ?_
         rintro e w1 ⟨rfl, rfl⟩
         go_wp2
         go_ret
         exact ⟨rfl, HB0.out⟩)
      | (first
          | (with_reducible refine (CO.out _).mono ?_)
          | (with_reducible refine (CV.out _).mono ?_)
          | (with_reducible refine (CW.out _).mono ?_)
         rintro e w1 ⟨rfl, hb⟩
         have HB := Lib.hid (Below.trans0 HB0.out hb)
         clear hb
         go_wp2
         go_ret
         exact ⟨rfl, HB.out⟩)
set_option maxHeartbeats 1000000 in
theorem indexed_any (k : Nat) (hk : k < 14) (r o v : Int) (d : Bool) (w : World) (o0 : 0 ≤ o) (o1 : o < 65536) (v0 : 0 ≤ v) (v1 : v < 65536) (hT : OregAt w) :
    Calls Tryd.prog 41 #[.agg #[.int .i64 (k : Int), .int .i64 r, .int .u16 o, .bool d], .int .u16 v] w fun e w' => e = .returned (.string (idxT k (byteStr (regI r)) o v d)) ∧ Below w.heap.size w w' := by
  have CP := Lib.hid (fun u (h : OregAt u) => pointed_any k hk r o v d u o0 o1 v0 v1 h)
  have hs := pntT_size k (byteStr (regI r)) o v (regI_two r) o0 o1 v0 v1
  have HB0 := Lib.hid (Below.alloc0 (Below.refl w.heap.size w) (Obj.cells #[.int .i64 (k : Int), .int .i64 r, .int .u16 o, .bool d] 46))
  have HT0 := Lib.hid (hT.below (Below.alloc0 (Below.refl w.heap.size w) (Obj.cells #[.int .i64 (k : Int), .int .i64 r, .int .u16 o, .bool d] 46)))
  have HK0 := Lib.hid (Blk.new w 46 #[.int .i64 (k : Int), .int .i64 r, .int .u16 o, .bool d] (0, 0))
  unfold idxT
  generalize pntT k (byteStr (regI r)) o v = S at CP hs ⊢
  have z1 : 1 + S.size ≤ 100 := by omega
  have z2 : 1 + S.size + 1 ≤ 100 := by omega
  clear hs hT
  cases d
  all_goals
    go_enter Tryd.func41, Tryd.ntmps41
    go_wp2_with fail
    refine (CP.out _ HT0.out).mono ?_
    rintro e w1 ⟨rfl, hb⟩
    have HK1 := Lib.hid (Blk.below HK0.out hb (by simp))
    have HB1 := Lib.hid (Below.trans0 HB0.out hb)
    clear hb
    obtain ⟨c0, c1, c2, c3⟩ := HK1.out.s4
    go_wp2
    go_ret
    exact ⟨rfl, HB1.out⟩
end Go.Proofs.YtopkjniegncokaaDoor
namespace Go.Proofs.YtopkjniegncokaaDoor
open Go.ChangeShapes Go.WideShapes Go.ChangeAt Go.RowKit
set_option linter.unusedVariables false
theorem pc_fin : ((List.range 256).all fun b => !(Nat.beq (poK b) 11 || Nat.beq (poK b) 12) || Nat.beq (poR b) 5) = true := by decide +kernel
theorem pc_at (b : Nat) (hb : b < 256) (h : poK b = 11 ∨ poK b = 12) : byteStr (regI (poR b : Int)) = ⟨#[80, 67]⟩ := by
  have := allB 256 _ pc_fin b hb
  have h5 : poR b = 5 := by
    rcases h with h | h <;> (rw [h] at this; simpa using this)
  rw [h5]; decide +kernel
set_option maxHeartbeats 4000000 in
set_option maxRecDepth 100000 in
theorem refIndexed_any (b : Nat) (hb : b < 256) (v : Int) (w : World) (v0 : 0 ≤ v) (v1 : v < 65536) :
    Calls Tryd.prog 24 #[.int .u8 (b : Int), .int .u16 v] w fun e w' => e = .returned (.string (idxT (poK b) (byteStr (regI (poR b : Int))) (poO b : Int) v (poI b))) ∧ Below w.heap.size w w' := by
  have o1 : poO b < 65536 := by unfold poO; omega
  have CP := Lib.hid (fun u => refOf_any b hb u)
  have CR := Lib.hid (fun u => refRegI_any (poR b : Int) u)
  have CO := Lib.hid (fun u => refSigned_any (poO b : Int) u (by omega) (by omega))
  have CV := Lib.hid (fun u => refSigned_any v u v0 v1)
  have CH : Hid (∀ u, Calls Tryd.prog 11 #[.int .i64 v, .int .i64 4] u fun e w' => e = .returned (.string (hexT v 4)) ∧ u = w') := Lib.hid (fun u => refHex42_any v 4 u v0 v1 (by omega) (by omega))
  have HPC := Lib.hid (pc_at b hb)
  have hk14 := poK_lt b hb
  have hS := regI_two (poR b : Int)
  have h1 := signT_size (poO b : Int) (by omega) (by omega)
  have h2 := signT_size v v0 v1
  have h3 := hexT_size v 4 v0 v1 (by omega)
  have hz := pntT_size (poK b) (byteStr (regI (poR b : Int))) (poO b : Int) v hS (by omega) (by omega) v0 v1
  have hu : IntKind.u16.wrap (poO b : Int) = (poO b : Int) := by rw [IntKind.wrap_u16]; omega
  have HX : Hid (pntT (poK b) (byteStr (regI (poR b : Int))) (poO b : Int) v = pntT (poK b) (byteStr (regI (poR b : Int))) (poO b : Int) v) := Lib.hid rfl
  unfold refP at CP
  unfold idxT
  have HD := Lib.hid (show ∀ k S o v, pntT k S o v = pntT k S o v from fun _ _ _ _ => rfl)
  have HU := Lib.hid (show pntT (poK b) (byteStr (regI (poR b : Int))) (poO b : Int) v = (if poK b = 1 then signT (poO b : Int) ++ (⟨#[44]⟩ ++ byteStr (regI (poR b : Int))) else if poK b = 2 ∨ poK b = 11 then (⟨#[60]⟩ ++ signT v) ++ (⟨#[44]⟩ ++ byteStr (regI (poR b : Int))) else if poK b = 3 ∨ poK b = 12 then (⟨#[62]⟩ ++ hexT v 4) ++ (⟨#[44]⟩ ++ byteStr (regI (poR b : Int)))
  else if poK b = 4 then ⟨#[65]⟩ ++ (⟨#[44]⟩ ++ byteStr (regI (poR b : Int))) else if poK b = 5 then ⟨#[66]⟩ ++ (⟨#[44]⟩ ++ byteStr (regI (poR b : Int))) else if poK b = 6 then ⟨#[68]⟩ ++ (⟨#[44]⟩ ++ byteStr (regI (poR b : Int)))
  else if poK b = 7 then (⟨#[44]⟩ ++ byteStr (regI (poR b : Int))) ++ ⟨#[43]⟩ else if poK b = 8 then (⟨#[44]⟩ ++ byteStr (regI (poR b : Int))) ++ ⟨#[43, 43]⟩ else if poK b = 9 then ⟨#[44, 45]⟩ ++ byteStr (regI (poR b : Int)) else if poK b = 10 then ⟨#[44, 45, 45]⟩ ++ byteStr (regI (poR b : Int))
  else if poK b = 13 then hexT v 4 else ⟨#[44]⟩ ++ byteStr (regI (poR b : Int))) from rfl)
  clear HX HD
  generalize pntT (poK b) (byteStr (regI (poR b : Int))) (poO b : Int) v = Z at HU hz ⊢
  generalize byteStr (regI (poR b : Int)) = S at CR hS HPC HU
  generalize signT (poO b : Int) = So at CO h1 HU
  generalize signT v = Sv at CV h2 HU
  generalize hexT v 4 = Hv at CH h3 HU
  generalize poI b = d at CP ⊢
  generalize (poBytes (poK b) : Int) = x4 at CP
  generalize (poIdle (poK b) : Int) = x5 at CP
  generalize (poR b : Int) = r at CR CP
  generalize (poO b : Int) = o at CO CP hu
  generalize poK b = k at CP HPC HU hk14
  have y1 : 1 + Z.size ≤ 100 := by omega
  have y2 : 1 + Z.size + 1 ≤ 100 := by omega
  have z1 : 1 + S.size ≤ 100 := by omega
  have z2 : So.size + 1 ≤ 100 := by omega
  have z2b : So.size + 1 + S.size ≤ 100 := by omega
  have z3 : 1 + Sv.size ≤ 100 := by omega
  have z4 : 1 + Sv.size + 1 ≤ 100 := by omega
  have z4b : 1 + Sv.size + 1 + S.size ≤ 100 := by omega
  have z4c : 1 + Sv.size + 3 ≤ 100 := by omega
  have z5 : 1 + Hv.size ≤ 100 := by omega
  have z6 : 1 + Hv.size + 1 ≤ 100 := by omega
  have z6b : 1 + Hv.size + 1 + S.size ≤ 100 := by omega
  have z6c : 1 + Hv.size + 3 ≤ 100 := by omega
  have z7 : 2 + S.size ≤ 100 := by omega
  have z8 : 1 + S.size + 1 ≤ 100 := by omega
  have z9 : 1 + S.size + 2 ≤ 100 := by omega
  have zb : 3 + S.size ≤ 100 := by omega
  clear hS h1 h2 h3 hz o1
  go_enter Tryd.func24, Tryd.ntmps24
  go_wp2_with fail
  refine (CP.out _).mono ?_
  rintro e w1 ⟨rfl, hb1⟩
  have HB1 := Lib.hid (Below.alloc0 hb1 (Obj.cells #[.int .i64 (k : Int), .int .i64 r, .int .i64 o, .bool d, .int .i64 x4, .int .i64 x5] 62))
  have HG1 := Lib.hid (Blk.new w1 62 #[.int .i64 (k : Int), .int .i64 r, .int .i64 o, .bool d, .int .i64 x4, .int .i64 x5] (0, 0))
  clear hb1
  go_wp2_with fail
  refine (CR.out _).mono ?_
  rintro e w2 ⟨rfl, hb2⟩
  have HB2 := Lib.hid (Below.trans0 HB1.out hb2)
  have HG2 := Lib.hid (Blk.below HG1.out hb2 HG1.out.lt)
  clear hb2 HG1 HB1
  obtain ⟨g, hg⟩ : ∃ g, w1.heap.size = g := ⟨_, rfl⟩
  rw [hg] at HG2 ⊢
  have c0 : w2.cell? ⟨g, 0, none⟩ = some (.int .i64 (k : Int)) := by rw [HG2.out.cell]; rfl
  have c2 : w2.cell? ⟨g, 2, none⟩ = some (.int .i64 o) := by rw [HG2.out.cell]; rfl
  have c3 : w2.cell? ⟨g, 3, none⟩ = some (.bool d) := by rw [HG2.out.cell]; rfl
  have hlt := HG2.out.lt
  clear hg
  go_upto_region 4 with (first
    | (go_at_call 42
       (first | (with_reducible refine (CO.out _).mono ?_) | (with_reducible refine (CV.out _).mono ?_))
       rintro e w' ⟨rfl, rfl⟩)
    | (go_at_call 11
       (with_reducible refine (CH.out _).mono ?_)
       rintro e w' ⟨rfl, rfl⟩))
  obtain ⟨R, hR⟩ : ∃ R : Array Value, R = #[.string (⟨#[44]⟩ ++ S), .string (So ++ ⟨#[44]⟩ ++ S), .string (⟨#[60]⟩ ++ Sv ++ ⟨#[44]⟩ ++ S), .string (⟨#[62]⟩ ++ Hv ++ ⟨#[44]⟩ ++ S), .string (⟨#[65, 44]⟩ ++ S), .string (⟨#[66, 44]⟩ ++ S), .string (⟨#[68, 44]⟩ ++ S), .string (⟨#[44]⟩ ++ S ++ ⟨#[43]⟩), .string (⟨#[44]⟩ ++ S ++ ⟨#[43, 43]⟩), .string (⟨#[44, 45]⟩ ++ S), .string (⟨#[44, 45, 45]⟩ ++ S), .string (⟨#[60]⟩ ++ Sv ++ ⟨#[44, 80, 67]⟩), .string (⟨#[62]⟩ ++ Hv ++ ⟨#[44, 80, 67]⟩), .string Hv] := ⟨_, rfl⟩
  rw [← hR]
  have hz : R[k]? = some (.string Z) := by
    subst hR
    rw [HU.out]
    have hpc := HPC.out
    clear CO CV CH CR CP HG2 HB2 c0 c2 c3 HPC HU
    rcases (show k = 0 ∨ k = 1 ∨ k = 2 ∨ k = 3 ∨ k = 4 ∨ k = 5 ∨ k = 6 ∨ k = 7 ∨ k = 8 ∨ k = 9 ∨ k = 10 ∨ k = 11 ∨ k = 12 ∨ k = 13 by omega) with rfl | rfl | rfl | rfl | rfl | rfl | rfl | rfl | rfl | rfl | rfl | rfl | rfl | rfl
    all_goals try simp (decide := true) only [↓reduceIte]
    all_goals first
      | rfl
      | (apply congrArg some; apply congrArg Value.string; apply ByteArray.ext; simp [ByteArray.data_append]; done)
      | (rw [hpc (.inl rfl)]; apply congrArg some; apply congrArg Value.string; apply ByteArray.ext; simp [ByteArray.data_append]; done)
      | (rw [hpc (.inr rfl)]; apply congrArg some; apply congrArg Value.string; apply ByteArray.ext; simp [ByteArray.data_append]; done)
  have HZ := Lib.hid (show (w2.alloc (Obj.cells R 79)).cell? ⟨w2.heap.size, k, none⟩ = some (.string Z) by rw [(Blk.new w2 79 R (0, 0)).cell]; exact hz)
  have HG3 := Lib.hid (Blk.alloc HG2.out (Obj.cells R 79))
  have HB3 := Lib.hid (Below.alloc0 HB2.out (Obj.cells R 79))
  clear hR hz c0 c2 c3 HPC HU HG2 HB2 CO CV CH CR CP
  generalize w2.alloc (Obj.cells R 79) = W3 at HZ HG3 HB3 ⊢
  generalize w2.heap.size = g3 at HZ ⊢
  have c0 : W3.cell? ⟨g, 0, none⟩ = some (.int .i64 (k : Int)) := by rw [HG3.out.cell]; rfl
  have c3 : W3.cell? ⟨g, 3, none⟩ = some (.bool d) := by rw [HG3.out.cell]; rfl
  have cz := HZ.out
  have k1 : (k : Int) < 14 := by omega
  clear hk14 hlt
  cases d
  all_goals
    go_wp2
    go_ret
    exact ⟨rfl, HB3.out⟩
end Go.Proofs.YtopkjniegncokaaDoor
namespace Go.Proofs.YtopkjniegncokaaDoor
open Go.ChangeShapes Go.WideShapes Go.ChangeAt Go.RowKit
set_option linter.unusedVariables false
def surB (b : Nat) : Bool := (codeB b : Int) == (b : Int)
def surI (o m : Int) (b : Nat) : Bool := !(o == 0) && (!(m == 4) || surB b)
def surR (n g b : Nat) : Bool := !(Nat.beq n 7 || Nat.beq n 10 || Nat.beq n 14 || ((Nat.beq n 12 || Nat.beq n 13) && Nat.blt 0 g)) && (!Nat.beq n 15 || Nat.beq b 159)
theorem sur_fin : ((List.range 256).all fun b => Nat.blt (codeB b) 256 && (Nat.beq (codeB b) b == (Nat.blt b 128 || surR (b % 16) (b / 32 % 4) b))) = true := by decide +kernel
theorem sur_at (b : Nat) (hb : b < 256) : codeB b < 256 ∧ Nat.beq (codeB b) b = (Nat.blt b 128 || surR (b % 16) (b / 32 % 4) b) := by
  have := allB 256 _ sur_fin b hb
  rw [Bool.and_eq_true] at this
  exact ⟨Nat.le_of_ble_eq_true this.1, by simpa using this.2⟩
theorem codeL_B (b : Nat) : codeL (poK b) (poR b) (poO b) (poI b) = codeB b := by
  rw [← code_same]
  unfold codeQ codeB
  rw [hitQ_self, fnd_congr (hitQ_self b)]
  cases Nat.beq (poT b) (poT 159) <;> rfl
set_option maxHeartbeats 1000000 in
theorem disSure_any (p c o m r v l : Int) (b : Nat) (hb : b < 256) (w : World) (hK : KindsAt w) :
    Calls Tryd.prog 6 #[.agg (iC p c o m r (b : Int) v l)] w fun e w' => e = .returned (.bool (surI o m b)) ∧ Below w.heap.size w w' := by
  have HB0 := Lib.hid (Below.alloc0 (Below.refl w.heap.size w) (Obj.cells (iC p c o m r (b : Int) v l) 27))
  have HI0 := Lib.hid (Blk.new w 27 (iC p c o m r (b : Int) v l) (0, 0))
  have HKx := Lib.hid (fun wx (hb : Below w.heap.size w wx) => kinds_below hK hb)
  have C1 := Lib.hid (fun u h => of_any b hb u h)
  have C2 := fun u h => code_any (poK b) (poR b) (poO b) (poI b) u h
  rw [codeL_B] at C2
  have hlt := (sur_at b hb).1
  rw [show codeV (codeB b) = (codeB b : Int) from if_pos hlt, decide_eq_true hlt] at C2
  have HC2 := Lib.hid C2
  unfold surI surB
  clear C2 hlt hK
  generalize (poK b : Int) = k1 at C1 HC2
  generalize (poR b : Int) = r1 at C1 HC2
  generalize (poO b : Int) = o1 at C1 HC2
  generalize poI b = d1 at C1 HC2
  generalize (codeB b : Int) = q at HC2 ⊢
  by_cases h0 : o = 0
  · subst h0
    go_enter Tryd.func6, Tryd.ntmps6
    go_wp2
    go_ret
    exact ⟨rfl, HB0.out⟩
  have e0 := ne_beq h0
  clear h0
  rw [e0]
  by_cases h4 : m = 4
  · subst h4
    go_enter Tryd.func6, Tryd.ntmps6
    go_wp2_with fail
    refine (C1.out _ (HKx.out _ HB0.out)).mono ?_
    rintro e w1 ⟨rfl, hb1⟩
    have HB1 := Lib.hid (Below.trans0 HB0.out hb1)
    have HI1 := Lib.hid (Blk.below HI0.out hb1 (by simp))
    clear hb1
    go_wp2_with fail
    refine (HC2.out _ (HKx.out _ HB1.out)).mono ?_
    rintro e w2 ⟨rfl, hb2⟩
    have HB2 := Lib.hid (Below.trans0 HB1.out hb2)
    have HI2 := Lib.hid (Blk.below HI1.out hb2 HI1.out.lt)
    clear hb2
    obtain ⟨c0, c1, c2, c3, c4, c5, c6, c7⟩ := HI2.out.s8
    go_wp2
    go_ret
    exact ⟨rfl, HB2.out⟩
  · have e4 := ne_beq h4
    clear h4
    rw [e4]
    go_enter Tryd.func6, Tryd.ntmps6
    go_wp2
    go_ret
    exact ⟨rfl, HB0.out⟩
set_option maxHeartbeats 2000000 in
set_option maxRecDepth 100000 in
theorem refSure42_any (p c o m r v l : Int) (b : Nat) (hb : b < 256) (w : World) :
    Calls Tryd.prog 7 #[.agg (iC p c o m r (b : Int) v l)] w fun e w' => e = .returned (.bool (surI o m b)) ∧ Below w.heap.size w w' := by
  have HB0 := Lib.hid (Below.alloc0 (Below.refl w.heap.size w) (Obj.cells (iC p c o m r (b : Int) v l) 27))
  have HI0 := Lib.hid (Blk.new w 27 (iC p c o m r (b : Int) v l) (0, 0))
  have hq := (sur_at b hb).2
  have hS : surB b = (Nat.blt b 128 || surR (b % 16) (b / 32 % 4) b) := by
    rw [← hq]
    unfold surB
    by_cases h : codeB b = b
    · rw [h]; simp
    · rw [show Nat.beq (codeB b) b = false from by rw [Bool.eq_false_iff]; intro h2; exact h (Nat.eq_of_beq_eq_true h2)]
      exact ne_beq (by omega)
  unfold surI
  rw [hS]
  clear hS hq
  by_cases h0 : o = 0
  · subst h0
    go_enter Tryd.func7, Tryd.ntmps7
    go_wp2
    go_ret
    exact ⟨rfl, HB0.out⟩
  have e0 := ne_beq h0
  clear h0
  rw [e0]
  by_cases h4 : m = 4
  · subst h4
    by_cases h128 : b < 128
    · have hl : Nat.blt b 128 = true := Nat.ble_eq_true_of_le h128
      have h128' : (b : Int) < 128 := by omega
      rw [hl]
      go_enter Tryd.func7, Tryd.ntmps7
      go_wp2
      go_ret
      exact ⟨rfl, HB0.out⟩
    · have hl : Nat.blt b 128 = false := by rw [Bool.eq_false_iff]; intro h; exact h128 (Nat.le_of_ble_eq_true h)
      rw [hl]
      have h128' : ¬ (b : Int) < 128 := by omega
      obtain ⟨n, hn⟩ : ∃ n, b % 16 = n := ⟨_, rfl⟩
      obtain ⟨g, hg⟩ : ∃ g, b / 32 % 4 = g := ⟨_, rfl⟩
      have hn16 : n < 16 := by omega
      have hni : (b : Int) % 16 = (n : Int) := by omega
      have hgi : (b : Int) / 32 % 4 = (g : Int) := by omega
      rw [hn, hg]
      unfold surR
      go_enter Tryd.func7, Tryd.ntmps7
      go_upto_region 5 with (fail)
      go_quiet (fail)
      go_upto_region 6 with (fail)
      rw [hni, hgi]
      have hb9 : ((b : Int) == 159) = Nat.beq b 159 := by
        by_cases h : b = 159
        · subst h; rfl
        · rw [ne_beq (by omega), eq_comm, Bool.eq_false_iff]; intro h2; exact h (Nat.eq_of_beq_eq_true h2)
      clear hn hg hni hgi hl
      rcases (show n = 0 ∨ n = 1 ∨ n = 2 ∨ n = 3 ∨ n = 4 ∨ n = 5 ∨ n = 6 ∨ n = 7 ∨ n = 8 ∨ n = 9 ∨ n = 10 ∨ n = 11 ∨ n = 12 ∨ n = 13 ∨ n = 14 ∨ n = 15 by omega) with rfl | rfl | rfl | rfl | rfl | rfl | rfl | rfl | rfl | rfl | rfl | rfl | rfl | rfl | rfl | rfl
      all_goals
        rcases Nat.eq_zero_or_pos g with rfl | hgp
        · go_wp2
          go_ret
          exact ⟨by first | rfl | (rw [hb9]; rfl) | simp [hb9], Below.drewN0 HB0.out _⟩
        · have hgb : Nat.blt 0 g = true := Nat.ble_eq_true_of_le hgp
          have hgi : 0 < (g : Int) := by omega
          go_wp2
          go_ret
          exact ⟨by first | rfl | (rw [hgb]; rfl) | (rw [hb9]; rfl) | simp [hb9, hgb], Below.drewN0 HB0.out _⟩
  · have e4 := ne_beq h4
    have e4' : (m != 4) = true := by simp [bne, e4]
    rw [e4]
    go_enter Tryd.func7, Tryd.ntmps7
    go_wp2
    go_ret
    exact ⟨rfl, HB0.out⟩
end Go.Proofs.YtopkjniegncokaaDoor
namespace Go.Proofs.YtopkjniegncokaaDoor
open Go.ChangeShapes Go.WideShapes Go.ChangeAt Go.RowKit
set_option linter.unusedVariables false
noncomputable def oprT (m r : Int) (b : Nat) (v l a : Int) : ByteArray :=
  if m = 1 then ⟨#[35]⟩ ++ hexT (v % 256) 2 else if m = 2 then ⟨#[35]⟩ ++ hexT v 4 else if m = 3 then ⟨#[60]⟩ ++ hexT (v % 256) 2
  else if m = 4 then idxT (poK b) (byteStr (regI (poR b : Int))) (poO b : Int) v (poI b) else if m = 5 then ⟨#[62]⟩ ++ hexT v 4
  else if m = 6 ∨ m = 7 then hexT (tgtI m l v a) 4 else if m = 8 then regT ((b / 16 : Nat) : Int) ++ ⟨#[44]⟩ ++ regT ((b % 16 : Nat) : Int)
  else if m = 9 then byteStr (txtL b (r == 3) 8) else ⟨#[]⟩
set_option maxHeartbeats 1000000 in
theorem operand1_any (p c o r v l a : Int) (b : Nat) (w : World) (v0 : 0 ≤ v) (v1 : v < 65536) :
    Calls Tryd.prog 23 #[.agg (iC p c o 1 r (b : Int) v l), .int .u16 a] w fun e w' => e = .returned (.string (oprT 1 r b v l a)) ∧ Below w.heap.size w w' := by
  have CL := Lib.hid (fun u => low_any v u v0 v1)
  have CB := Lib.hid (fun u => disByte_any (v % 256) u (by omega) (by omega))
  have hs := hexT_size (v % 256) 2 (by omega) (by omega) (by omega)
  have HB0 := Lib.hid (Below.alloc0 (Below.refl w.heap.size w) (Obj.cells (iC p c o 1 r (b : Int) v l) 27))
  unfold oprT
  simp (decide := true) only [↓reduceIte]
  generalize hexT (v % 256) 2 = S at CB hs ⊢
  have hz : 1 + S.size ≤ 100 := by omega
  clear hs
  go_enter Tryd.func23, Tryd.ntmps23
  go_wp2_with fail
  refine (CL.out _).mono ?_
  rintro e w1 ⟨rfl, rfl⟩
  go_wp2_with fail
  refine (CB.out _).mono ?_
  rintro e w1 ⟨rfl, hb⟩
  have HB := Lib.hid (Below.trans0 HB0.out hb)
  clear hb
  go_wp2
  go_ret
  exact ⟨rfl, HB.out⟩
set_option maxHeartbeats 1000000 in
theorem operand3_any (p c o r v l a : Int) (b : Nat) (w : World) (v0 : 0 ≤ v) (v1 : v < 65536) :
    Calls Tryd.prog 23 #[.agg (iC p c o 3 r (b : Int) v l), .int .u16 a] w fun e w' => e = .returned (.string (oprT 3 r b v l a)) ∧ Below w.heap.size w w' := by
  have CL := Lib.hid (fun u => low_any v u v0 v1)
  have CB := Lib.hid (fun u => disByte_any (v % 256) u (by omega) (by omega))
  have hs := hexT_size (v % 256) 2 (by omega) (by omega) (by omega)
  have HB0 := Lib.hid (Below.alloc0 (Below.refl w.heap.size w) (Obj.cells (iC p c o 3 r (b : Int) v l) 27))
  unfold oprT
  simp (decide := true) only [↓reduceIte]
  generalize hexT (v % 256) 2 = S at CB hs ⊢
  have hz : 1 + S.size ≤ 100 := by omega
  clear hs
  go_enter Tryd.func23, Tryd.ntmps23
  go_wp2_with fail
  refine (CL.out _).mono ?_
  rintro e w1 ⟨rfl, rfl⟩
  go_wp2_with fail
  refine (CB.out _).mono ?_
  rintro e w1 ⟨rfl, hb⟩
  have HB := Lib.hid (Below.trans0 HB0.out hb)
  clear hb
  go_wp2
  go_ret
  exact ⟨rfl, HB.out⟩
set_option maxHeartbeats 1000000 in
theorem operand2_any (p c o r v l a : Int) (b : Nat) (w : World) (v0 : 0 ≤ v) (v1 : v < 65536) :
    Calls Tryd.prog 23 #[.agg (iC p c o 2 r (b : Int) v l), .int .u16 a] w fun e w' => e = .returned (.string (oprT 2 r b v l a)) ∧ Below w.heap.size w w' := by
  have CB := Lib.hid (fun u => disWord_any v u (by omega) (by omega))
  have hs := hexT_size v 4 (by omega) (by omega) (by omega)
  have HB0 := Lib.hid (Below.alloc0 (Below.refl w.heap.size w) (Obj.cells (iC p c o 2 r (b : Int) v l) 27))
  unfold oprT
  simp (decide := true) only [↓reduceIte]
  generalize hexT v 4 = S at CB hs ⊢
  have hz : 1 + S.size ≤ 100 := by omega
  clear hs
  go_enter Tryd.func23, Tryd.ntmps23
  go_wp2_with fail
  refine (CB.out _).mono ?_
  rintro e w1 ⟨rfl, hb⟩
  have HB := Lib.hid (Below.trans0 HB0.out hb)
  clear hb
  go_wp2
  go_ret
  exact ⟨rfl, HB.out⟩
set_option maxHeartbeats 1000000 in
theorem operand5_any (p c o r v l a : Int) (b : Nat) (w : World) (v0 : 0 ≤ v) (v1 : v < 65536) :
    Calls Tryd.prog 23 #[.agg (iC p c o 5 r (b : Int) v l), .int .u16 a] w fun e w' => e = .returned (.string (oprT 5 r b v l a)) ∧ Below w.heap.size w w' := by
  have CB := Lib.hid (fun u => disWord_any v u (by omega) (by omega))
  have hs := hexT_size v 4 (by omega) (by omega) (by omega)
  have HB0 := Lib.hid (Below.alloc0 (Below.refl w.heap.size w) (Obj.cells (iC p c o 5 r (b : Int) v l) 27))
  unfold oprT
  simp (decide := true) only [↓reduceIte]
  generalize hexT v 4 = S at CB hs ⊢
  have hz : 1 + S.size ≤ 100 := by omega
  clear hs
  go_enter Tryd.func23, Tryd.ntmps23
  go_wp2_with fail
  refine (CB.out _).mono ?_
  rintro e w1 ⟨rfl, hb⟩
  have HB := Lib.hid (Below.trans0 HB0.out hb)
  clear hb
  go_wp2
  go_ret
  exact ⟨rfl, HB.out⟩
set_option maxHeartbeats 1000000 in
theorem operand6_any (p c o r v l a : Int) (b : Nat) (w : World) (l0 : 0 ≤ l) (l1 : l ≤ 100) (v0 : 0 ≤ v) (v1 : v < 65536) (a0 : 0 ≤ a) (a1 : a < 65536) :
    Calls Tryd.prog 23 #[.agg (iC p c o 6 r (b : Int) v l), .int .u16 a] w fun e w' => e = .returned (.string (oprT 6 r b v l a)) ∧ Below w.heap.size w w' := by
  have CT := Lib.hid (fun u => target_any p c o 6 r (b : Int) v l a l0 l1 v0 v1 a0 a1 u)
  have ht : 0 ≤ tgtI 6 l v a ∧ tgtI 6 l v a < 65536 := by unfold tgtI; simp (decide := true) only [↓reduceIte]; omega
  have CB := Lib.hid (fun u => disWord_any (tgtI 6 l v a) u ht.1 ht.2)
  have HB0 := Lib.hid (Below.alloc0 (Below.refl w.heap.size w) (Obj.cells (iC p c o 6 r (b : Int) v l) 27))
  unfold oprT
  simp (decide := true) only [↓reduceIte]
  clear ht
  generalize hexT (tgtI 6 l v a) 4 = S at CB ⊢
  generalize tgtI 6 l v a = T at CT CB
  generalize isRel 6 = F at CT
  go_enter Tryd.func23, Tryd.ntmps23
  go_wp2_with fail
  refine (CT.out _).mono ?_
  rintro e w1 ⟨rfl, hb⟩
  have HB := Lib.hid (Below.trans0 HB0.out hb)
  clear hb
  go_wp2_with fail
  refine (CB.out _).mono ?_
  rintro e w2 ⟨rfl, hb⟩
  have HB2 := Lib.hid (Below.trans0 HB.out hb)
  clear hb
  go_wp2
  go_ret
  exact ⟨rfl, HB2.out⟩
set_option maxHeartbeats 1000000 in
theorem operand7_any (p c o r v l a : Int) (b : Nat) (w : World) (l0 : 0 ≤ l) (l1 : l ≤ 100) (v0 : 0 ≤ v) (v1 : v < 65536) (a0 : 0 ≤ a) (a1 : a < 65536) :
    Calls Tryd.prog 23 #[.agg (iC p c o 7 r (b : Int) v l), .int .u16 a] w fun e w' => e = .returned (.string (oprT 7 r b v l a)) ∧ Below w.heap.size w w' := by
  have CT := Lib.hid (fun u => target_any p c o 7 r (b : Int) v l a l0 l1 v0 v1 a0 a1 u)
  have ht : 0 ≤ tgtI 7 l v a ∧ tgtI 7 l v a < 65536 := by unfold tgtI; simp (decide := true) only [↓reduceIte]; omega
  have CB := Lib.hid (fun u => disWord_any (tgtI 7 l v a) u ht.1 ht.2)
  have HB0 := Lib.hid (Below.alloc0 (Below.refl w.heap.size w) (Obj.cells (iC p c o 7 r (b : Int) v l) 27))
  unfold oprT
  simp (decide := true) only [↓reduceIte]
  clear ht
  generalize hexT (tgtI 7 l v a) 4 = S at CB ⊢
  generalize tgtI 7 l v a = T at CT CB
  generalize isRel 7 = F at CT
  go_enter Tryd.func23, Tryd.ntmps23
  go_wp2_with fail
  refine (CT.out _).mono ?_
  rintro e w1 ⟨rfl, hb⟩
  have HB := Lib.hid (Below.trans0 HB0.out hb)
  clear hb
  go_wp2_with fail
  refine (CB.out _).mono ?_
  rintro e w2 ⟨rfl, hb⟩
  have HB2 := Lib.hid (Below.trans0 HB.out hb)
  clear hb
  go_wp2
  go_ret
  exact ⟨rfl, HB2.out⟩
set_option maxHeartbeats 1000000 in
theorem operand9_any (p c o r v l a : Int) (b : Nat) (hb : b < 256) (w : World) (hT : TabAt w) :
    Calls Tryd.prog 23 #[.agg (iC p c o 9 r (b : Int) v l), .int .u16 a] w fun e w' => e = .returned (.string (oprT 9 r b v l a)) ∧ Below w.heap.size w w' := by
  have CT := Lib.hid (fun u h => text_any b hb r u h)
  have HB0 := Lib.hid (Below.alloc0 (Below.refl w.heap.size w) (Obj.cells (iC p c o 9 r (b : Int) v l) 27))
  have HT0 := Lib.hid (hT.below (Below.alloc0 (Below.refl w.heap.size w) (Obj.cells (iC p c o 9 r (b : Int) v l) 27)))
  unfold oprT
  simp (decide := true) only [↓reduceIte]
  generalize byteStr (txtL b (r == 3) 8) = S at CT ⊢
  clear hT
  go_enter Tryd.func23, Tryd.ntmps23
  go_wp2_with fail
  refine (CT.out _ HT0.out).mono ?_
  rintro e w1 ⟨rfl, hb⟩
  have HB := Lib.hid (Below.trans0 HB0.out hb)
  clear hb
  go_wp2
  go_ret
  exact ⟨rfl, HB.out⟩
set_option maxHeartbeats 1000000 in
theorem operand0_any (p c o m r v l a : Int) (b : Nat) (w : World) (hm : m < 1 ∨ 9 < m) :
    Calls Tryd.prog 23 #[.agg (iC p c o m r (b : Int) v l), .int .u16 a] w fun e w' => e = .returned (.string (oprT m r b v l a)) ∧ Below w.heap.size w w' := by
  have HB0 := Lib.hid (Below.alloc0 (Below.refl w.heap.size w) (Obj.cells (iC p c o m r (b : Int) v l) 27))
  have he : oprT m r b v l a = ⟨#[]⟩ := by
    unfold oprT
    repeat rw [if_neg (by omega)]
  rw [he]
  have e1 := ne_beq (show ¬ m = 1 by omega)
  have e2 := ne_beq (show ¬ m = 2 by omega)
  have e3 := ne_beq (show ¬ m = 3 by omega)
  have e4 := ne_beq (show ¬ m = 4 by omega)
  have e5 := ne_beq (show ¬ m = 5 by omega)
  have e6 := ne_beq (show ¬ m = 6 by omega)
  have e7 := ne_beq (show ¬ m = 7 by omega)
  have e8 := ne_beq (show ¬ m = 8 by omega)
  have e9 := ne_beq (show ¬ m = 9 by omega)
  clear hm he
  go_enter Tryd.func23, Tryd.ntmps23
  go_wp2
  go_ret
  exact ⟨rfl, HB0.out⟩
end Go.Proofs.YtopkjniegncokaaDoor
namespace Go.Proofs.YtopkjniegncokaaDoor
open Go.ChangeShapes Go.WideShapes Go.ChangeAt Go.RowKit
set_option linter.unusedVariables false
set_option maxHeartbeats 2000000 in
set_option maxRecDepth 100000 in
theorem operand4_any (p c o r v l a : Int) (b : Nat) (hb : b < 256) (w : World) (v0 : 0 ≤ v) (v1 : v < 65536) (hT : OregAt w) (hK : KindsAt w) :
    Calls Tryd.prog 23 #[.agg (iC p c o 4 r (b : Int) v l), .int .u16 a] w fun e w' => e = .returned (.string (oprT 4 r b v l a)) ∧ Below w.heap.size w w' := by
  have ho1 : poO b < 65536 := by unfold poO; omega
  have HTx := Lib.hid (fun wx (hb : Below w.heap.size w wx) => hT.below hb)
  have HKx := Lib.hid (fun wx (hb : Below w.heap.size w wx) => kinds_below hK hb)
  have C1 := Lib.hid (fun u h => of_any b hb u h)
  have C2 := Lib.hid (fun u h => indexed_any (poK b) (poK_lt b hb) (poR b : Int) (poO b : Int) v (poI b) u (by omega) (by omega) v0 v1 h)
  have HI0 := Lib.hid (Blk.drew (Blk.new w 27 (iC p c o 4 r (b : Int) v l) (0, 0)))
  have HB0 := Lib.hid (Below.drew0 (Below.alloc0 (Below.refl w.heap.size w) (Obj.cells (iC p c o 4 r (b : Int) v l) 27)))
  unfold oprT
  simp (decide := true) only [↓reduceIte]
  generalize idxT (poK b) (byteStr (regI (poR b : Int))) (poO b : Int) v (poI b) = S at C2 ⊢
  generalize (poK b : Int) = k1 at C1 C2
  generalize (poR b : Int) = r1 at C1 C2
  generalize (poO b : Int) = o1 at C1 C2
  generalize poI b = d1 at C1 C2
  clear hT hK ho1
  go_enter Tryd.func23, Tryd.ntmps23
  go_upto_region 19 with (fail)
  go_region_held3 (fun w' => w'.cell? ⟨w.heap.size, 5, none⟩ = some (.int .u8 (b : Int)) ∧ w'.cell? ⟨w.heap.size, 6, none⟩ = some (.int .u16 v))
    (first
      | (with_reducible exact ⟨HI0.out.s8.2.2.2.2.2.1, HI0.out.s8.2.2.2.2.2.2.1⟩)
      | (with_reducible exact ⟨HI2.out.s8.2.2.2.2.2.1, HI2.out.s8.2.2.2.2.2.2.1⟩)
      | (with_reducible exact ⟨HI3.out.s8.2.2.2.2.2.1, HI3.out.s8.2.2.2.2.2.2.1⟩))
    (first
      | (go_at_call 19; (refine (C1.out _ (HKx.out _ HB0.out)).mono ?_); rintro e w2 ⟨rfl, hb2⟩; have HI2 := Lib.hid (Blk.below HI0.out hb2 HI0.out.lt); have HB2 := Lib.hid (Below.trans0 HB0.out hb2); clear hb2)
      | (go_at_call 41; (refine (C2.out _ (HTx.out _ HB2.out)).mono ?_); rintro e w3 ⟨rfl, hb3⟩; have HI3 := Lib.hid (Blk.below HI2.out hb3 HI2.out.lt); have HB3 := Lib.hid (Below.trans0 HB2.out hb3); clear hb3))
  all_goals
    go_wp2
    go_ret
    exact ⟨rfl, HB3.out⟩
theorem shr4_fin8 : ∀ b : Fin 256, ((b.val : Int) / 16) = ((b.val / 16 : Nat) : Int) := by decide +kernel
set_option maxHeartbeats 2000000 in
set_option maxRecDepth 100000 in
theorem operand8_any (p c o r v l a : Int) (b : Nat) (hb : b < 256) (w : World) (hT : OregAt w) :
    Calls Tryd.prog 23 #[.agg (iC p c o 8 r (b : Int) v l), .int .u16 a] w fun e w' => e = .returned (.string (oprT 8 r b v l a)) ∧ Below w.heap.size w w' := by
  have e1 : ((b : Int) / 16) = ((b / 16 : Nat) : Int) := by omega
  have e2 := and15_fin8 ⟨b, hb⟩
  simp only at e2
  have HTx := Lib.hid (fun wx (hb : Below w.heap.size w wx) => hT.below hb)
  have C1 := Lib.hid (fun u h => disReg_any ((b / 16 : Nat) : Int) u (by omega) (by omega) h)
  have C2 := Lib.hid (fun u h => disReg_any ((b % 16 : Nat) : Int) u (by omega) (by omega) h)
  have hs1 := regT_size ((b / 16 : Nat) : Int) (by omega) (by omega)
  have hs2 := regT_size ((b % 16 : Nat) : Int) (by omega) (by omega)
  have HI0 := Lib.hid (Blk.drew (Blk.new w 27 (iC p c o 8 r (b : Int) v l) (0, 0)))
  have HB0 := Lib.hid (Below.drew0 (Below.alloc0 (Below.refl w.heap.size w) (Obj.cells (iC p c o 8 r (b : Int) v l) 27)))
  have h0 : (0 : Int) ≤ ((b / 16 : Nat) : Int) := by omega
  have h1 : ((b / 16 : Nat) : Int) < 16 := by omega
  have w1 : IntKind.i64.wrap ((b / 16 : Nat) : Int) = ((b / 16 : Nat) : Int) := IntWalk.i64_in _ (by omega)
  have w2 : IntKind.i64.wrap ((b % 16 : Nat) : Int) = ((b % 16 : Nat) : Int) := IntWalk.i64_in _ (by omega)
  unfold oprT
  simp (decide := true) only [↓reduceIte]
  generalize regT ((b / 16 : Nat) : Int) = S1 at C1 hs1 ⊢
  generalize regT ((b % 16 : Nat) : Int) = S2 at C2 hs2 ⊢
  generalize ((b / 16 : Nat) : Int) = x1 at C1 e1 h0 h1 w1
  generalize ((b % 16 : Nat) : Int) = x2 at C2 e2 w2
  have z1 : ¬ 9223372036854775807 < S1.size + 1 := by omega
  have z2 : ¬ 9223372036854775807 < S1.size + 1 + S2.size := by omega
  clear hT hs1 hs2
  go_enter Tryd.func23, Tryd.ntmps23
  go_upto_region 15 with (fail)
  go_region_held3 (fun w' => w'.cell? ⟨w.heap.size, 5, none⟩ = some (.int .u8 (b : Int)))
    (first
      | (with_reducible exact HI0.out.s8.2.2.2.2.2.1)
      | (with_reducible exact HI2.out.s8.2.2.2.2.2.1)
      | (with_reducible exact HI3.out.s8.2.2.2.2.2.1))
    ((go_at_call 13; first
      | ((with_reducible refine (C1.out _ (HTx.out _ HB2.out)).mono ?_); rintro e w3 ⟨rfl, hb3⟩; have HI3 := Lib.hid (Blk.below HI2.out hb3 HI2.out.lt); have HB3 := Lib.hid (Below.trans0 HB2.out hb3); clear hb3)
      | ((with_reducible refine (C2.out _ (HTx.out _ HB2.out)).mono ?_); rintro e w3 ⟨rfl, hb3⟩; have HI3 := Lib.hid (Blk.below HI2.out hb3 HI2.out.lt); have HB3 := Lib.hid (Below.trans0 HB2.out hb3); clear hb3)
      | ((with_reducible refine (C1.out _ (HTx.out _ HB0.out)).mono ?_); rintro e w2 ⟨rfl, hb2⟩; have HI2 := Lib.hid (Blk.below HI0.out hb2 HI0.out.lt); have HB2 := Lib.hid (Below.trans0 HB0.out hb2); clear hb2)
      | ((with_reducible refine (C2.out _ (HTx.out _ HB0.out)).mono ?_); rintro e w2 ⟨rfl, hb2⟩; have HI2 := Lib.hid (Blk.below HI0.out hb2 HI0.out.lt); have HB2 := Lib.hid (Below.trans0 HB0.out hb2); clear hb2)))
  all_goals
    go_wp2
    go_ret
    exact ⟨rfl, HB3.out⟩
end Go.Proofs.YtopkjniegncokaaDoor
namespace Go.Proofs.YtopkjniegncokaaDoor
open Go.ChangeShapes Go.WideShapes Go.ChangeAt Go.RowKit
set_option linter.unusedVariables false
noncomputable def rawL (X : List Int) : List ByteArray := X.map fun x => hexT x 2
noncomputable def rawT (X : List Int) : ByteArray := ⟨(Lib.join ((rawL X).map (·.data.toList)) [44]).toArray⟩
theorem rawL_take (X : List Int) (k : Nat) (h : k < X.length) : rawL (X.take (k + 1)) = rawL (X.take k) ++ [hexT (iat X k) 2] := by
  unfold rawL
  rw [List.take_succ_eq_append_getElem h, List.map_append]
  simp [iat, List.getD_eq_getElem?_getD, List.getElem?_eq_getElem h]
set_option maxHeartbeats 2000000 in
set_option maxRecDepth 100000 in
theorem raw_any (p c o m r v l : Int) (b : Nat) (hc0 : 0 ≤ c) (hc1 : c < 256) (hb : b < 256) (v0 : 0 ≤ v) (v1 : v < 65536) (w : World) (hP : PagAt w) (hK : KindsAt w) (hok : putOk p c o m r b v l (putX p c m b v) = true)
    (hwf : ∀ k, 0 ≤ iat (putX p c m b v) k ∧ iat (putX p c m b v) k < 256) (hj : (Lib.join ((rawL (putX p c m b v)).map (·.data.toList)) [44]).length ≤ 1000) :
    Calls Tryd.prog 21 #[.agg (iC p c o m r (b : Int) v l)] w fun e w' => e = .returned (.string (rawT (putX p c m b v))) ∧ Below w.heap.size w w' := by
  have HB0 := Below.alloc0 (Below.refl w.heap.size w) (Obj.cells (iC p c o m r (b : Int) v l) 27)
  have CP := Lib.hid (put_any p c o m r v l b hc0 hc1 hb v0 v1 (w.alloc (Obj.cells (iC p c o m r (b : Int) v l) 27)) (hP.below HB0) (kinds_below hK HB0))
  rw [hok] at CP
  have hln := putX_len p c m b v
  have HB := Lib.hid HB0
  generalize putX p c m b v = X at CP hwf hj hln ⊢
  clear hP hK hok HB0
  go_enter Tryd.func21, Tryd.ntmps21
  go_wp2_with fail
  refine CP.out.mono ?_
  rintro e w1 ⟨A, cp, rfl, hI, hb1⟩
  simp only [if_true] at hI ⊢
  have HI := Lib.hid hI
  have HB1 := Lib.hid (Below.trans0 HB.out hb1)
  have HW := Lib.hid hwf
  have HJ := Lib.hid hj
  clear hI hb1 hwf hj
  have XL : (X.length : Int) ≤ 5 := by omega
  have HLn := Lib.hid hln
  go_wp2
  go_loopw [5, 15] (fun u5 u15 wr => ∃ k : Nat, k ≤ X.length ∧ u15 = .int .i64 k ∧ Hid (Strs wr w1.heap.size u5 (rawL (X.take k))) ∧ Hid (Below w1.heap.size w1 wr)) (fun _ u15 _ => X.length - (intOf u15).toNat)
  case atStart => exact ⟨0, Nat.zero_le _, rfl, Lib.hid (World.ownsRow_nil _ _ _ 1), Lib.hid (Below.refl _ _)⟩
  case round =>
    obtain ⟨k, hk, rfl, HL, HBel⟩ := hrel
    have k0 : (0 : Int) ≤ (k : Int) := by omega
    by_cases hlt : k < X.length
    · obtain ⟨g, off, rfl, hg, hcell⟩ := HI.out.2.2 (by omega)
      have hk1 := (HBel.out.cell (p := ⟨g, off + k, none⟩) hg).trans (hcell k hlt)
      have CB := Lib.hid (fun u => disByte_any (iat X k) u (HW.out k).1 (HW.out k).2)
      have HN := Lib.hid (rawL_take X k hlt)
      have HLk : Hid ((rawL (X.take k)).length ≤ 5) := Lib.hid (by unfold rawL; rw [List.length_map, List.length_take]; have := HLn.out; omega)
      have hlt' : (k : Int) < (X.length : Int) := by omega
      clear hcell
      generalize hexT (iat X k) 2 = S at CB HN
      generalize iat X k = x at CB hk1
      go_wp2_with fail
      refine (CB.out _).mono ?_
      rintro e w2 ⟨rfl, hb2⟩
      have HB2 := Lib.hid (Below.trans HBel.out (hb2.mono HBel.out.size))
      have HL2 : Hid (Strs w2 w1.heap.size u5 (rawL (X.take k))) := Lib.hid (World.ownsRow.kept (row := none) HL.out ⟨hb2.os, hb2.tape, hb2.output, hb2.size, fun k hk _ => hb2.block k hk⟩ (by by_cases h : Value.ownBlock u5 = none; exact .inl h; exact .inr h))
      clear hb2 hk1
      have hs2 := HB2.out.size
      have HS2 := Lib.hid hs2
      clear hs2
      go_wp2_with (at_builtin; refine wpList_appStr rfl _ _ _ rfl w1.heap.size u5 (rawL (X.take k)) rfl (Strs.alloc HL2.out _) ⟨w2.heap.size, 0, none⟩ 1 S rfl (cells_of_blk (Blk.new w2 _ #[.string S] _)) (by have := HLk.out; omega) (by have := HS2.out; simp; omega) ?_)
      intro v1 w3 h1 hb1
      have H1 := Lib.hid h1
      have HB3 := Lib.hid ((Below.alloc0 HB2.out _).trans hb1)
      clear h1 hb1
      go_wp2
      go_roundw
      case rel => exact ⟨k + 1, by omega, by go_num, Lib.hid (by rw [HN.out]; exact H1.out), HB3⟩
      case measure => simp [intOf]; omega
    · obtain rfl : k = X.length := by omega
      have HF : Hid (rawL (X.take X.length) = rawL X) := Lib.hid (by rw [List.take_length])
      rw [HF.out] at HL
      obtain ⟨A5, c5, rfl, hrd⟩ := HL.out.read
      have HLr : Hid ((rawL X).length ≤ 5) := Lib.hid (by unfold rawL; rw [List.length_map]; exact HLn.out)
      have HT : Hid (rawT X = ⟨(Lib.join ((rawL X).map (·.data.toList)) [44]).toArray⟩) := Lib.hid rfl
      have hjl := HJ.out
      generalize rawL X = L at *
      by_cases h0 : 0 < L.length
      · obtain ⟨g, rfl, hg, hc, hcell⟩ := hrd h0
        have CJ := Lib.hid (Tryd.strings_Join g 0 c5 L ⟨#[44]⟩ wr hcell hg (by have := HLr.out; omega) hc (by show (Lib.join (L.map (·.data.toList)) [44]).length ≤ _; omega))
        clear hcell hrd hjl
        go_wp2_with fail
        refine CJ.out.mono ?_
        rintro e w2 ⟨rfl, hb2⟩
        have HB9 := Lib.hid (HB1.out.trans ((Below.trans0 HBel.out hb2).mono HB1.out.size))
        clear hb2
        go_wp2
        go_ret
        exact ⟨by rw [HT.out]; rfl, HB9.out⟩
      · have hn : L.length = 0 := by omega
        have HL0 := Lib.hid (List.eq_nil_of_length_eq_zero hn)
        rw [hn]
        have CJ := Lib.hid (Tryd.strings_Join_none A5 c5 ⟨#[44]⟩ wr)
        clear hrd hjl
        go_wp2_with fail
        refine CJ.out.mono ?_
        rintro e w2 ⟨rfl, rfl⟩
        have HB9 := Lib.hid (HB1.out.trans (HBel.out.mono HB1.out.size))
        go_wp2
        go_ret
        exact ⟨by rw [HT.out, HL0.out]; rfl, HB9.out⟩
end Go.Proofs.YtopkjniegncokaaDoor
namespace Go.Proofs.YtopkjniegncokaaDoor
open Go.ChangeShapes Go.WideShapes Go.ChangeAt Go.RowKit
set_option linter.unusedVariables false
noncomputable def nmT (o r : Int) : ByteArray := byteStr (nameI o r)
noncomputable def lineT (N O : ByteArray) : ByteArray := if O.toList.isEmpty then N else N ++ ⟨#[32]⟩ ++ O
noncomputable def textT (o m r : Int) (b : Nat) (v l a : Int) (X : List Int) : ByteArray := if surI o m b then lineT (nmT o r) (oprT m r b v l a) else ⟨#[70, 67, 66, 32]⟩ ++ rawT X
/-- The document's way: one number behind the other. -/
noncomputable def seqT (X : List Int) : Nat → ByteArray
  | 0 => ⟨#[]⟩
  | k + 1 => (if k = 0 then seqT X k else seqT X k ++ ⟨#[44]⟩) ++ hexT (iat X k) 2
theorem hexT_list (x : Int) : (hexT x 2).data.toList.length = (hexT x 2).size := rfl
theorem seqT_raw (X : List Int) (h : X.length ≤ 5) : seqT X X.length = rawT X := by
  match X, h with
  | [], _ => rfl
  | [x0], _ => unfold rawT rawL; apply ByteArray.ext; simp [seqT, Lib.join, List.intercalate, iat, ByteArray.data_append]
  | [x0, x1], _ => unfold rawT rawL; apply ByteArray.ext; simp [seqT, Lib.join, List.intercalate, iat, ByteArray.data_append]
  | [x0, x1, x2], _ => unfold rawT rawL; apply ByteArray.ext; simp [seqT, Lib.join, List.intercalate, iat, ByteArray.data_append]
  | [x0, x1, x2, x3], _ => unfold rawT rawL; apply ByteArray.ext; simp [seqT, Lib.join, List.intercalate, iat, ByteArray.data_append]
  | [x0, x1, x2, x3, x4], _ => unfold rawT rawL; apply ByteArray.ext; simp [seqT, Lib.join, List.intercalate, iat, ByteArray.data_append]
  | _ :: _ :: _ :: _ :: _ :: _ :: _, h => simp at h
theorem seqT_size (X : List Int) (hwf : ∀ k, 0 ≤ iat X k ∧ iat X k < 256) : ∀ k, (seqT X k).size ≤ 18 * k
  | 0 => by show 0 ≤ _; omega
  | k + 1 => by
    have := seqT_size X hwf k
    have := hexT_size (iat X k) 2 (hwf k).1 (by have := (hwf k).2; omega) (by omega)
    unfold seqT
    split
    · rw [ByteArray.size_append]; omega
    · have e1 : (⟨#[44]⟩ : ByteArray).size = 1 := rfl
      rw [ByteArray.size_append, ByteArray.size_append, e1]; omega
theorem rawT_size (X : List Int) (h : X.length ≤ 5) (hwf : ∀ k, 0 ≤ iat X k ∧ iat X k < 256) : (rawT X).size ≤ 90 := by
  have := seqT_size X hwf X.length
  rw [seqT_raw X h] at this
  omega
theorem raw_len (X : List Int) (h : X.length ≤ 5) (hwf : ∀ k, 0 ≤ iat X k ∧ iat X k < 256) : (Lib.join ((rawL X).map (·.data.toList)) [44]).length ≤ 1000 := by
  have := rawT_size X h hwf
  have e : (rawT X).size = (Lib.join ((rawL X).map (·.data.toList)) [44]).length := by unfold rawT; simp [ByteArray.size]
  omega
theorem nmT_size (o r : Int) : (nmT o r).size ≤ 1010 := by
  have h1 := end_size o r
  have h2 : ((List.range 52).all fun k => Nat.ble (stemNames.getD k []).length 10) = true := by decide +kernel
  unfold nmT nameI
  split
  · rename_i h
    split
    · rw [byteStr_append, ByteArray.size_append]
      have := allB 52 _ h2 o.toNat (by omega)
      have := Nat.le_of_ble_eq_true this
      have e : (byteStr (stemNames.getD o.toNat [])).size = (stemNames.getD o.toNat []).length := rfl
      omega
    · decide
  · decide
theorem oprT_size (m r : Int) (b : Nat) (v l a : Int) (hb : b < 256) (v0 : 0 ≤ v) (v1 : v < 65536) : (oprT m r b v l a).size ≤ 60 := by
  have h1 := hexT_size (v % 256) 2 (by omega) (by omega) (by omega)
  have h2 := hexT_size v 4 v0 v1 (by omega)
  have ht : 0 ≤ tgtI m l v a ∧ tgtI m l v a < 65536 := by unfold tgtI; split <;> omega
  have h3 := hexT_size (tgtI m l v a) 4 ht.1 ht.2 (by omega)
  have ho1 : poO b < 65536 := by unfold poO; omega
  have h4 := pntT_size (poK b) (byteStr (regI (poR b : Int))) (poO b : Int) v (regI_two _) (by omega) (by omega) v0 v1
  have h5 := regT_size ((b / 16 : Nat) : Int) (by omega) (by omega)
  have h6 := regT_size ((b % 16 : Nat) : Int) (by omega) (by omega)
  have h7 := (back_txt b hb (r == 3)).1
  have e7 : (byteStr (txtL b (r == 3) 8)).size = (txtL b (r == 3) 8).length := rfl
  unfold oprT idxT
  repeat' split
  all_goals ((try simp only [ByteArray.size_append, lit_size, List.size_toArray, List.length_cons, List.length_nil]); omega)
/-- All tables that a text reads. -/
def DisAt (w : World) : Prop := TabO w ∧ TabAt w ∧ PagAt w ∧ KindsAt w
theorem DisAt.below {w w' : World} (h : DisAt w) (hb : Below w.heap.size w w') : DisAt w' := ⟨h.1.below hb, h.2.1.below hb, h.2.2.1.below hb, kinds_below h.2.2.2 hb⟩
theorem operand_any (p c o m r v l a : Int) (b : Nat) (hb : b < 256) (w : World) (l0 : 0 ≤ l) (l1 : l ≤ 100) (v0 : 0 ≤ v) (v1 : v < 65536) (a0 : 0 ≤ a) (a1 : a < 65536) (hD : DisAt w) :
    Calls Tryd.prog 23 #[.agg (iC p c o m r (b : Int) v l), .int .u16 a] w fun e w' => e = .returned (.string (oprT m r b v l a)) ∧ Below w.heap.size w w' := by
  rcases (show m = 1 ∨ m = 2 ∨ m = 3 ∨ m = 4 ∨ m = 5 ∨ m = 6 ∨ m = 7 ∨ m = 8 ∨ m = 9 ∨ (m < 1 ∨ 9 < m) by omega) with rfl | rfl | rfl | rfl | rfl | rfl | rfl | rfl | rfl | h
  · exact operand1_any p c o r v l a b w v0 v1
  · exact operand2_any p c o r v l a b w v0 v1
  · exact operand3_any p c o r v l a b w v0 v1
  · exact operand4_any p c o r v l a b hb w v0 v1 hD.1.1 hD.2.2.2
  · exact operand5_any p c o r v l a b w v0 v1
  · exact operand6_any p c o r v l a b w l0 l1 v0 v1 a0 a1
  · exact operand7_any p c o r v l a b w l0 l1 v0 v1 a0 a1
  · exact operand8_any p c o r v l a b hb w hD.1.1
  · exact operand9_any p c o r v l a b hb w hD.2.1
  · exact operand0_any p c o m r v l a b w h
set_option maxHeartbeats 2000000 in
set_option maxRecDepth 100000 in
theorem disText_any (p c o m r v l a : Int) (b : Nat) (hb : b < 256) (hc0 : 0 ≤ c) (hc1 : c < 256) (w : World) (l0 : 0 ≤ l) (l1 : l ≤ 100) (v0 : 0 ≤ v) (v1 : v < 65536) (a0 : 0 ≤ a) (a1 : a < 65536) (hD : DisAt w)
    (hok : putOk p c o m r b v l (putX p c m b v) = true) (hwf : ∀ k, 0 ≤ iat (putX p c m b v) k ∧ iat (putX p c m b v) k < 256) :
    Calls Tryd.prog 8 #[.agg (iC p c o m r (b : Int) v l), .int .u16 a] w fun e w' => e = .returned (.string (textT o m r b v l a (putX p c m b v))) ∧ Below w.heap.size w w' := by
  have HB0 := Lib.hid (Below.alloc0 (Below.refl w.heap.size w) (Obj.cells (iC p c o m r (b : Int) v l) 27))
  have HI0 := Lib.hid (Blk.new w 27 (iC p c o m r (b : Int) v l) (0, 0))
  have HDx := Lib.hid (fun wx (hb : Below w.heap.size w wx) => hD.below hb)
  have CS := Lib.hid (fun u (h : DisAt u) => disSure_any p c o m r v l b hb u h.2.2.2)
  have CO := Lib.hid (fun u (h : DisAt u) => operand_any p c o m r v l a b hb u l0 l1 v0 v1 a0 a1 h)
  have CN : Hid (∀ u, DisAt u → Calls Tryd.prog 22 #[.int .i64 o, .int .i64 r] u fun e w' => e = .returned (.string (nmT o r)) ∧ u = w') := Lib.hid (fun u h => opsName_any o r u h.1)
  have hX := putX_len p c m b v
  have CR := Lib.hid (fun u (h : DisAt u) => raw_any p c o m r v l b hc0 hc1 hb v0 v1 u h.2.2.1 h.2.2.2 hok hwf (raw_len _ (by omega) hwf))
  have s1 := oprT_size m r b v l a hb v0 v1
  have s2 := nmT_size o r
  have s3 := rawT_size (putX p c m b v) (by omega) hwf
  unfold textT lineT
  clear hok hwf hD
  generalize surI o m b = F at CS ⊢
  generalize putX p c m b v = X at CR hX s3 ⊢
  generalize rawT X = S3 at CR s3 ⊢
  generalize oprT m r b v l a = S1 at CO s1 ⊢
  generalize nmT o r = S2 at CN s2 ⊢
  have z1 : S2.size + 1 ≤ 2000 := by omega
  have z2 : S2.size + 1 + S1.size ≤ 2000 := by omega
  have z3 : 4 + S3.size ≤ 2000 := by omega
  clear s1 s2 s3
  cases F
  · go_enter Tryd.func8, Tryd.ntmps8
    go_wp2_with fail
    refine (CS.out _ (HDx.out _ HB0.out)).mono ?_
    rintro e w1 ⟨rfl, hb1⟩
    have HB1 := Lib.hid (Below.trans0 HB0.out hb1)
    have HI1 := Lib.hid (Blk.below HI0.out hb1 (by simp))
    clear hb1
    obtain ⟨c0, c1, c2, c3, c4, c5, c6, c7⟩ := HI1.out.s8
    go_wp2_with fail
    refine (CR.out _ (HDx.out _ HB1.out)).mono ?_
    rintro e w2 ⟨rfl, hb2⟩
    have HB2 := Lib.hid (Below.trans0 HB1.out hb2)
    clear hb2 c0 c1 c2 c3 c4 c5 c6 c7
    go_wp2
    go_ret
    exact ⟨rfl, HB2.out⟩
  · cases hE : S1.toList.isEmpty
    all_goals
      go_enter Tryd.func8, Tryd.ntmps8
      go_wp2_with fail
      refine (CS.out _ (HDx.out _ HB0.out)).mono ?_
      rintro e w1 ⟨rfl, hb1⟩
      have HB1 := Lib.hid (Below.trans0 HB0.out hb1)
      have HI1 := Lib.hid (Blk.below HI0.out hb1 (by simp))
      clear hb1
      obtain ⟨c0, c1, c2, c3, c4, c5, c6, c7⟩ := HI1.out.s8
      go_wp2_with fail
      refine (CN.out _ (HDx.out _ HB1.out)).mono ?_
      rintro e w2 ⟨rfl, rfl⟩
      go_wp2_with fail
      refine (CO.out _ (HDx.out _ HB1.out)).mono ?_
      rintro e w3 ⟨rfl, hb2⟩
      have HB2 := Lib.hid (Below.trans0 HB1.out hb2)
      clear hb2 c0 c1 c2 c3 c4 c5 c6 c7
      go_wp2
      go_ret
      exact ⟨rfl, HB2.out⟩
end Go.Proofs.YtopkjniegncokaaDoor
