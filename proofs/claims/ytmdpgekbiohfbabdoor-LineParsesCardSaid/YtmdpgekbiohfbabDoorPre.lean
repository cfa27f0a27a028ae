/- Contracts: strings.CutPrefix and strings.CutSuffix of any two texts. -/
import Derived.Test.YtmdpgekbiohfbabDoorMem
namespace Go.Proofs.YtmdpgekbiohfbabDoor
open Go.ChangeShapes Go.WideShapes Go.ChangeAt Go.RowKit
set_option linter.unusedVariables false

theorem ext_takeP (S : ByteArray) (k : Nat) : S.extract 0 k = strOfNums ((nums S).take k) := by
  rw [← nums_str (S.extract 0 k)]
  congr 1
  unfold nums
  rw [ByteArray.data_extract, Array.toList_extract, List.extract_eq_take_drop, List.map_take, List.map_drop]
  simp
theorem ext_dropP (S : ByteArray) (k : Nat) : S.extract k S.size = strOfNums ((nums S).drop k) := by
  rw [← nums_str (S.extract k S.size)]
  congr 1
  unfold nums
  have hl : S.data.toList.length = S.size := by rw [Array.length_toList]; rfl
  rw [ByteArray.data_extract, Array.toList_extract, List.extract_eq_take_drop, List.map_take, List.map_drop, List.take_of_length_le (by rw [List.length_drop, List.length_map, hl]; omega)]
theorem str_eqP (a b : ByteArray) : (a.toList == b.toList) = decide (a = b) := by
  rw [Bool.eq_iff_iff, beq_iff_eq, decide_eq_true_eq]
  constructor
  · intro h
    rw [ByteArray.toList_eq, ByteArray.toList_eq] at h
    exact ByteArray.ext (Array.toList_inj.1 h)
  · rintro rfl; rfl
theorem str_take (S : ByteArray) (l : List Int) (k : Nat) (h : ∀ x ∈ l, 0 ≤ x ∧ x < 256) : decide (strOfNums ((nums S).take k) = strOfNums l) = decide ((nums S).take k = l) := by
  congr 1
  apply propext
  constructor
  · intro e
    have := congrArg nums e
    rw [str_nums _ (fun x hx => nums_range S x (List.mem_of_mem_take hx)), str_nums _ h] at this
    exact this
  · intro e; rw [e]
/-- Does the text begin so; end so? -/
def preL (p l : List Int) : Bool := decide (l.take p.length = p)
def sufL (p l : List Int) : Bool := decide (p.length ≤ l.length) && decide (l.drop (l.length - p.length) = p)
theorem str_inj {a b : List Int} (ha : ∀ x ∈ a, 0 ≤ x ∧ x < 256) (hb : ∀ x ∈ b, 0 ≤ x ∧ x < 256) : (strOfNums a = strOfNums b) ↔ a = b := by
  constructor
  · intro e
    have := congrArg nums e
    rwa [str_nums _ ha, str_nums _ hb] at this
  · intro e; rw [e]
theorem extP_size (S : ByteArray) (k : Nat) (h : k ≤ S.size) : (S.extract 0 k).size = k := by rw [ByteArray.size_extract]; omega
set_option maxRecDepth 100000 in
set_option maxHeartbeats 1000000 in
theorem cutPre_any (s p : ByteArray) (w : World) (hs : s.size ≤ 1099511627776) (hp : p.size ≤ 1099511627776) :
    Calls Tryd.prog 36 #[.string s, .string p] w fun e w' => w = w' ∧
      ((preL (nums p) (nums s) = false ∧ e = .returned (.tuple #[.string s, .bool false])) ∨ (preL (nums p) (nums s) = true ∧ e = .returned (.tuple #[.string (strOfNums ((nums s).drop p.size)), .bool true]))) := by
  have HL := nums_len s
  have HP := nums_len p
  by_cases hle : p.size ≤ s.size
  · have h1 : (p.size : Int) ≤ (s.size : Int) := by omega
    have h0 : (0 : Int) ≤ (p.size : Int) := by omega
    have e1 : ((s.extract 0 p.size).toList == p.toList) = preL (nums p) (nums s) := by
      rw [str_eqP, ext_takeP]
      unfold preL
      rw [HP]
      congr 1
      apply propext
      rw [← nums_str p, str_inj (fun x hx => nums_range s x (List.mem_of_mem_take hx)) (nums_range p), nums_str p]
    have E2 := Lib.hid (ext_dropP s p.size)
    cases hq : preL (nums p) (nums s)
    · rw [hq] at e1
      clear hq
      go_enter Tryd.func36, Tryd.ntmps36
      go_wp2
      go_ret2
      exact ⟨rfl, .inl ⟨trivial, rfl⟩⟩
    · rw [hq] at e1
      clear hq
      go_enter Tryd.func36, Tryd.ntmps36
      go_wp2
      go_ret2
      rw [← E2.out]
      exact ⟨rfl, .inr ⟨trivial, rfl⟩⟩
  · have h1 : ¬ (p.size : Int) ≤ (s.size : Int) := by omega
    have hq : preL (nums p) (nums s) = false := by
      unfold preL
      rw [decide_eq_false_iff_not]
      intro e
      have := congrArg List.length e
      rw [List.length_take] at this
      omega
    rw [hq]
    clear hq hle HL HP
    go_enter Tryd.func36, Tryd.ntmps36
    go_wp2
    go_ret2
    exact ⟨rfl, rfl⟩
set_option maxRecDepth 100000 in
set_option maxHeartbeats 1000000 in
theorem cutSuf_any (s p : ByteArray) (w : World) (hs : s.size ≤ 1099511627776) (hp : p.size ≤ 1099511627776) :
    Calls Tryd.prog 37 #[.string s, .string p] w fun e w' => w = w' ∧
      ((sufL (nums p) (nums s) = false ∧ e = .returned (.tuple #[.string s, .bool false])) ∨ (sufL (nums p) (nums s) = true ∧ e = .returned (.tuple #[.string (strOfNums ((nums s).take (s.size - p.size))), .bool true]))) := by
  have HL := nums_len s
  have HP := nums_len p
  by_cases hle : p.size ≤ s.size
  · have h1 : (p.size : Int) ≤ (s.size : Int) := by omega
    have h2 : (0 : Int) ≤ (s.size : Int) - (p.size : Int) := by omega
    have h3 : (s.size : Int) - (p.size : Int) ≤ (s.size : Int) := by omega
    have e0 : ((s.size : Int) - (p.size : Int)).toNat = s.size - p.size := by omega
    have e1 : ((s.extract (s.size - p.size) s.size).toList == p.toList) = sufL (nums p) (nums s) := by
      rw [str_eqP, ext_dropP]
      unfold sufL
      rw [HP, HL, decide_eq_true hle, Bool.true_and]
      congr 1
      apply propext
      rw [← nums_str p, str_inj (fun x hx => nums_range s x (List.mem_of_mem_drop hx)) (nums_range p), nums_str p]
    have E2 := Lib.hid (ext_takeP s (s.size - p.size))
    cases hq : sufL (nums p) (nums s)
    · rw [hq] at e1
      clear hq
      go_enter Tryd.func37, Tryd.ntmps37
      go_wp2
      go_ret2
      exact ⟨rfl, .inl ⟨trivial, rfl⟩⟩
    · rw [hq] at e1
      clear hq
      go_enter Tryd.func37, Tryd.ntmps37
      go_wp2
      go_ret2
      rw [← E2.out]
      exact ⟨rfl, .inr ⟨trivial, rfl⟩⟩
  · have h1 : ¬ (p.size : Int) ≤ (s.size : Int) := by omega
    have hq : sufL (nums p) (nums s) = false := by
      unfold sufL
      rw [HP, HL, decide_eq_false hle]; rfl
    rw [hq]
    clear hq hle HL HP
    go_enter Tryd.func37, Tryd.ntmps37
    go_wp2
    go_ret2
    exact ⟨rfl, rfl⟩
end Go.Proofs.YtmdpgekbiohfbabDoor
