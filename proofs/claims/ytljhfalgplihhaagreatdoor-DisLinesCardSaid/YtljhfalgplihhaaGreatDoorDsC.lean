/- Package dis: indexed operands; the document's. -/
import Derived.Test.YtljhfalgplihhaaGreatDoorDsA
import Derived.Test.YtljhfalgplihhaaGreatDoorGTbl
namespace Go.Proofs.YtljhfalgplihhaaGreatDoor
open Go.ChangeShapes Go.WideShapes Go.ChangeAt Go.RowKit
set_option linter.unusedVariables false
/-- An indexed operand by its kind, its register's name, its offset and its value, without brackets. -/
noncomputable def pntT (k : Nat) (S : ByteArray) (o v : Int) : ByteArray :=
  if k = 1 then signT o ++ (⟨#[44]⟩ ++ S) else if k = 2 ∨ k = 11 then (⟨#[60]⟩ ++ signT v) ++ (⟨#[44]⟩ ++ S) else if k = 3 ∨ k = 12 then (⟨#[62]⟩ ++ hexT v 4) ++ (⟨#[44]⟩ ++ S)
  else if k = 4 then ⟨#[65]⟩ ++ (⟨#[44]⟩ ++ S) else if k = 5 then ⟨#[66]⟩ ++ (⟨#[44]⟩ ++ S) else if k = 6 then ⟨#[68]⟩ ++ (⟨#[44]⟩ ++ S)
  else if k = 7 then (⟨#[44]⟩ ++ S) ++ ⟨#[43]⟩ else if k = 8 then (⟨#[44]⟩ ++ S) ++ ⟨#[43, 43]⟩ else if k = 9 then ⟨#[44, 45]⟩ ++ S else if k = 10 then ⟨#[44, 45, 45]⟩ ++ S
  else if k = 13 then hexT v 4 else ⟨#[44]⟩ ++ S
noncomputable def idxT (k : Nat) (S : ByteArray) (o v : Int) (d : Bool) : ByteArray := if d then (⟨#[91]⟩ ++ pntT k S o v) ++ ⟨#[93]⟩ else pntT k S o v
theorem lit_size (l : Array UInt8) : (⟨l⟩ : ByteArray).size = l.size := rfl
theorem pntT_size (k : Nat) (S : ByteArray) (o v : Int) (hS : S.size ≤ 2) (o0 : 0 ≤ o) (o1 : o < 65536) (v0 : 0 ≤ v) (v1 : v < 65536) : (pntT k S o v).size ≤ 40 := by
  have h1 := signT_size o o0 o1
  have h2 := signT_size v v0 v1
  have h3 := hexT_size v 4 v0 v1 (by omega)
  unfold pntT
  repeat' split
  all_goals ((try simp only [ByteArray.size_append, lit_size, List.size_toArray, List.length_cons, List.length_nil]); omega)
set_option maxHeartbeats 2000000 in
theorem pointed_any (k : Nat) (hk : k < 14) (r o v : Int) (d : Bool) (w : World) (o0 : 0 ≤ o) (o1 : o < 65536) (v0 : 0 ≤ v) (v1 : v < 65536) (hT : OregAt w) :
    Calls Tryz.prog 93 #[.agg #[.int .i64 (k : Int), .int .i64 r, .int .u16 o, .bool d], .int .u16 v] w fun e w' => e = .returned (.string (pntT k (byteStr (regI r)) o v)) ∧ Below w.heap.size w w' := by
  have CR := Lib.hid (fun u (h : OregAt u) => opsRegI_any r u h)
  have CO := Lib.hid (fun u => disNum_any o u o0 o1)
  have CV := Lib.hid (fun u => disNum_any v u v0 v1)
  have CW := Lib.hid (fun u => disWord_any v u v0 v1)
  have hS := regI_two r
  have h1 := signT_size o o0 o1
  have h2 := signT_size v v0 v1
  have h3 := hexT_size v 4 v0 v1 (by omega)
  have HB0 := Lib.hid (Below.alloc0 (Below.refl w.heap.size w) (Obj.cells #[.int .i64 (k : Int), .int .i64 r, .int .u16 o, .bool d] 132))
  have HT0 := Lib.hid (hT.below (Below.alloc0 (Below.refl w.heap.size w) (Obj.cells #[.int .i64 (k : Int), .int .i64 r, .int .u16 o, .bool d] 132)))
  unfold pntT
  generalize byteStr (regI r) = S at CR hS ⊢
  generalize signT o = So at CO h1 ⊢
  generalize signT v = Sv at CV h2 ⊢
  generalize hexT v 4 = Hv at CW h3 ⊢
  have z1 : 1 + S.size ≤ 100 := by omega
  have z2 : So.size + (1 + S.size) ≤ 100 := by omega
  have z3 : 1 + Sv.size ≤ 100 := by omega
  have z4 : 1 + Sv.size + (1 + S.size) ≤ 100 := by omega
  have z5 : 1 + Hv.size ≤ 100 := by omega
  have z6 : 1 + Hv.size + (1 + S.size) ≤ 100 := by omega
  have z7 : 1 + (1 + S.size) ≤ 100 := by omega
  have z8 : 1 + S.size + 1 ≤ 100 := by omega
  have z9 : 1 + S.size + 2 ≤ 100 := by omega
  have za : 2 + S.size ≤ 100 := by omega
  have zb : 3 + S.size ≤ 100 := by omega
  clear hS h1 h2 h3 hT
  rcases (show k = 0 ∨ k = 1 ∨ k = 2 ∨ k = 3 ∨ k = 4 ∨ k = 5 ∨ k = 6 ∨ k = 7 ∨ k = 8 ∨ k = 9 ∨ k = 10 ∨ k = 11 ∨ k = 12 ∨ k = 13 by omega) with rfl | rfl | rfl | rfl | rfl | rfl | rfl | rfl | rfl | rfl | rfl | rfl | rfl | rfl
  all_goals try simp (decide := true) only [↓reduceIte]
  all_goals
    go_enter Tryz.func93, Tryz.ntmps93
    go_wp2_with fail
    refine (CR.out _ HT0.out).mono ?_
    rintro e w1 ⟨rfl, rfl⟩
    go_wp2_with fail
    first
      | (go_ret
         exact ⟨rfl, HB0.out⟩)
      | (go_at_call 89
         refine (CR.out _ HT0.out).mono ?_
         rintro e w1 ⟨rfl, rfl⟩
         go_wp2
         go_ret
         exact ⟨rfl, HB0.out⟩)
      | (first
          | (with_reducible refine (CO.out _).mono ?_)
          | (with_reducible refine (CV.out _).mono ?_)
          | (with_reducible refine (CW.out _).mono ?_)
         rintro e w1 ⟨rfl, hb⟩
         have HB := Lib.hid (Below.trans0 HB0.out hb)
         clear hb
         go_wp2
         go_ret
         exact ⟨rfl, HB.out⟩)
set_option maxHeartbeats 1000000 in
theorem indexed_any (k : Nat) (hk : k < 14) (r o v : Int) (d : Bool) (w : World) (o0 : 0 ≤ o) (o1 : o < 65536) (v0 : 0 ≤ v) (v1 : v < 65536) (hT : OregAt w) :
    Calls Tryz.prog 78 #[.agg #[.int .i64 (k : Int), .int .i64 r, .int .u16 o, .bool d], .int .u16 v] w fun e w' => e = .returned (.string (idxT k (byteStr (regI r)) o v d)) ∧ Below w.heap.size w w' := by
  have CP := Lib.hid (fun u (h : OregAt u) => pointed_any k hk r o v d u o0 o1 v0 v1 h)
  have hs := pntT_size k (byteStr (regI r)) o v (regI_two r) o0 o1 v0 v1
  have HB0 := Lib.hid (Below.alloc0 (Below.refl w.heap.size w) (Obj.cells #[.int .i64 (k : Int), .int .i64 r, .int .u16 o, .bool d] 132))
  have HT0 := Lib.hid (hT.below (Below.alloc0 (Below.refl w.heap.size w) (Obj.cells #[.int .i64 (k : Int), .int .i64 r, .int .u16 o, .bool d] 132)))
  have HK0 := Lib.hid (Blk.new w 132 #[.int .i64 (k : Int), .int .i64 r, .int .u16 o, .bool d] (0, 0))
  unfold idxT
  generalize pntT k (byteStr (regI r)) o v = S at CP hs ⊢
  have z1 : 1 + S.size ≤ 100 := by omega
  have z2 : 1 + S.size + 1 ≤ 100 := by omega
  clear hs hT
  cases d
  all_goals
    go_enter Tryz.func78, Tryz.ntmps78
    go_wp2_with fail
    refine (CP.out _ HT0.out).mono ?_
    rintro e w1 ⟨rfl, hb⟩
    have HK1 := Lib.hid (Blk.below HK0.out hb (by simp))
    have HB1 := Lib.hid (Below.trans0 HB0.out hb)
    clear hb
    obtain ⟨c0, c1, c2, c3⟩ := HK1.out.s4
    go_wp2
    go_ret
    exact ⟨rfl, HB1.out⟩
end Go.Proofs.YtljhfalgplihhaaGreatDoor
