/- Contracts: strings.Cut at one byte; package lists' Read. -/
import Derived.Test.YteaajmoclgfhnabDoorLstF
import Derived.Test.YteaajmoclgfhnabDoorShelf
import Derived.Test.YteaajmoclgfhnabDoorBit
import Derived.Deep.QuietTactic
import Derived.BigQuiet
namespace Go.Proofs.YteaajmoclgfhnabDoor
open Go.ChangeShapes Go.WideShapes Go.ChangeAt Go.RowKit
set_option linter.unusedVariables false

/-- Ahead of the first comma; behind it; is there one? -/
def cutL (l : List UInt8) : List UInt8 × List UInt8 × Bool := if 0 ≤ Lib.indexByte l 44 then (l.take (Lib.indexByte l 44).toNat, l.drop ((Lib.indexByte l 44).toNat + 1), true) else (l, [], false)
theorem indexByte_lt (l : List UInt8) (c : UInt8) : Lib.indexByte l c < l.length := by
  induction l with
  | nil => simp [Lib.indexByte]
  | cons b l ih =>
    simp only [Lib.indexByte, List.length_cons]
    split
    · omega
    · split <;> omega
theorem cutL_len (l : List UInt8) (h : (cutL l).2.2 = true) : (cutL l).2.1.length < l.length := by
  unfold cutL at h ⊢
  by_cases h0 : 0 ≤ Lib.indexByte l 44
  · have := indexByte_lt l 44
    rw [if_pos h0]
    simp only [List.length_drop]; omega
  · rw [if_neg h0] at h; cases h
theorem cutL_le (l : List UInt8) : (cutL l).2.1.length ≤ l.length := by
  unfold cutL
  split
  · simp only [List.length_drop]; omega
  · simp
theorem extract_take (s : ByteArray) (k : Nat) : s.extract 0 k = ⟨(s.data.toList.take k).toArray⟩ := by
  apply ByteArray.ext
  apply Array.toList_inj.1
  simp [ByteArray.data_extract]
theorem extract_drop (s : ByteArray) (k : Nat) : s.extract k s.size = ⟨(s.data.toList.drop k).toArray⟩ := by
  apply ByteArray.ext
  have h := Lib.extract_to_end s k
  apply Array.toList_inj.1
  simpa using h
def strL (l : List UInt8) : ByteArray := ⟨l.toArray⟩
/-- The postbyte of names with commas between, of which p are read already; 40, 41: why not. -/
def readF (u : Bool) : Nat → List UInt8 → Int → Int × Int
  | 0, _, p => (p, 0)
  | f + 1, l, p =>
    if namedF (strL (cutL l).1) u = 0 then (0, 40)
    else if 0 < bits .and .u8 p (namedF (strL (cutL l).1) u) then (0, 41)
    else if (cutL l).2.2 then readF u f (cutL l).2.1 (bits .or .u8 p (namedF (strL (cutL l).1) u))
    else (bits .or .u8 p (namedF (strL (cutL l).1) u), 0)
/-- What Read answers. -/
def readS (l : List UInt8) (u : Bool) : Int × Int := if l = [] then (0, 0) else readF u (l.length + 1) l 0
theorem ret_cut {a b c d : ByteArray} {p q : Bool} (h : a = c) (h2 : b = d) (h3 : p = q) : Ending.returned (.tuple #[.string a, .string b, .bool p]) = .returned (.tuple #[.string c, .string d, .bool q]) := by rw [h, h2, h3]
set_option maxRecDepth 100000 in
set_option maxHeartbeats 2000000 in
theorem cut0_any (s : ByteArray) (hs : s.size ≤ 1099511627776) (w : World) :
    Calls Tryd.prog 39 #[.string s, .string ⟨#[44]⟩] w fun e w' => e = .returned (.tuple #[.string ⟨(cutL s.data.toList).1.toArray⟩, .string ⟨(cutL s.data.toList).2.1.toArray⟩, .bool (cutL s.data.toList).2.2]) ∧ ∃ n, w' = w.drewN n := by
  have hge := Lib.indexByte_ge s.data.toList 44
  have hlt := indexByte_lt s.data.toList 44
  have hlen : s.data.toList.length = s.size := by rw [Array.length_toList]; rfl
  rw [hlen] at hlt
  have CI := Lib.hid (fun w => Tryd.stringslite_Index_one s 44 w)
  have HC : Hid (cutL s.data.toList = if 0 ≤ Lib.indexByte s.data.toList 44 then (s.data.toList.take (Lib.indexByte s.data.toList 44).toNat, s.data.toList.drop ((Lib.indexByte s.data.toList 44).toNat + 1), true) else (s.data.toList, [], false)) := Lib.hid rfl
  obtain ⟨i, hi⟩ : ∃ i, Lib.indexByte s.data.toList 44 = i := ⟨_, rfl⟩
  rw [hi] at CI HC hge hlt
  clear hlen hi
  by_cases h0 : 0 ≤ i
  · obtain ⟨k, rfl⟩ := Int.eq_ofNat_of_zero_le h0
    have hk : k < s.size := by omega
    have HC' := Lib.hid (HC.out.trans (if_pos h0))
    have k0 : (0 : Int) ≤ (k : Int) := h0
    have k1 : (k : Int) ≤ (s.size : Int) := by omega
    have k2 : (k : Int) + 1 ≤ (s.size : Int) := by omega
    have t1 : IntKind.i64.wrap ((k : Int) + 1) = (k : Int) + 1 := IntWalk.i64_in _ (by omega)
    clear HC hge hlt h0
    go_enter Tryd.func39, Tryd.ntmps39
    go_wp2_with (go_at_call 55; refine (CI.out _).mono ?_; rintro e w' ⟨rfl, rfl⟩)
    go_quiet (fail)
    go_wp2
    go_ret3
    refine ⟨ret_cut ?_ ?_ (by rw [HC'.out]), _, rfl⟩
    all_goals rw [HC'.out]
    · exact extract_take s k
    · exact extract_drop s (k + 1)
  · have HC' := Lib.hid (HC.out.trans (if_neg h0))
    have hi1 : i = -1 := by omega
    subst hi1
    clear HC hge hlt h0
    go_enter Tryd.func39, Tryd.ntmps39
    go_wp2_with (go_at_call 55; refine (CI.out _).mono ?_; rintro e w' ⟨rfl, rfl⟩)
    go_ret3
    exact ⟨ret_cut (by rw [HC'.out]) (by rw [HC'.out]) (by rw [HC'.out]), 0, rfl⟩
theorem cut_any (s : ByteArray) (hs : s.size ≤ 1099511627776) (w : World) :
    Calls Tryd.prog 22 #[.string s, .string ⟨#[44]⟩] w fun e w' => e = .returned (.tuple #[.string ⟨(cutL s.data.toList).1.toArray⟩, .string ⟨(cutL s.data.toList).2.1.toArray⟩, .bool (cutL s.data.toList).2.2]) ∧ ∃ n, w' = w.drewN n := by
  go_enter Tryd.func22, Tryd.ntmps22
  go_wp2_with (go_at_call 39; refine (cut0_any s hs _).mono ?_; rintro e w' ⟨rfl, n, rfl⟩)
  go_ret3
  exact ⟨rfl, _, rfl⟩
end Go.Proofs.YteaajmoclgfhnabDoor
