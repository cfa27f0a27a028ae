/- The contracts of package digit's Unpair, and of the document's own Pairs and Unpair. -/
import Derived.Test.YtljhfalgplihhaaGreatDoorDigPairs
import Derived.Deep.QuietTactic
import Derived.BigQuiet
import Derived.Outline
namespace Go.Proofs.YtljhfalgplihhaaGreatDoor
open Go.ChangeShapes Go.WideShapes Go.ChangeAt Go.RowKit
set_option linter.unusedVariables false
def upAt (xs : List Int) (j : Nat) : Int := 16 * valOf (iat xs (2 * j)) + valOf (iat xs (2 * j + 1))
def upTo (xs : List Int) (k : Nat) : List Int := (List.range k).map (upAt xs)
theorem upTo_next (xs : List Int) (k : Nat) : upTo xs (k + 1) = upTo xs k ++ [upAt xs k] := by unfold upTo; rw [List.range_succ, List.map_append]; rfl
theorem upTo_len (xs : List Int) (k : Nat) : (upTo xs k).length = k := by simp [upTo]
def upOk (xs : List Int) : Bool := decide (xs.length % 2 = 0) && allGood 16 xs
def upV (xs : List Int) : List Int := if upOk xs then upTo xs (xs.length / 2) else []
def upE (xs : List Int) : Int := if upOk xs then 0 else 21
theorem up_odd {xs : List Int} (h : xs.length % 2 ≠ 0) : upV xs = [] ∧ upE xs = 21 := by
  have : upOk xs = false := by unfold upOk; simp [h]
  simp [upV, upE, this]
theorem up_bad {xs : List Int} (k : Nat) (h : k < xs.length) (hb : ¬ valOf (iat xs k) < 16) : upV xs = [] ∧ upE xs = 21 := by
  have : upOk xs = false := by unfold upOk; rw [allGood_bad 16 xs k h (by simpa [good] using hb)]; simp
  simp [upV, upE, this]
theorem up_good {xs : List Int} (h : xs.length % 2 = 0) (hg : allGood 16 xs = true) : upV xs = upTo xs (xs.length / 2) ∧ upE xs = 0 := by
  have : upOk xs = true := by unfold upOk; rw [hg]; simp [h]
  simp [upV, upE, this]
theorem upTo_wf (xs : List Int) (hg : allGood 16 xs = true) (k : Nat) (hk : 2 * k ≤ xs.length) : ∀ z ∈ upTo xs k, (Lit.int .u8 z).wf = true := by
  intro z hz
  simp only [upTo, List.mem_map, List.mem_range] at hz
  obtain ⟨j, hj, rfl⟩ := hz
  have a1 := allGood_at 16 xs (2 * j) (by omega) hg
  have a2 := allGood_at 16 xs (2 * j + 1) (by omega) hg
  have b1 := valOf_range (iat xs (2 * j))
  have b2 := valOf_range (iat xs (2 * j + 1))
  simp [Lit.wf, IntKind.min, IntKind.max, IntKind.signed, IntKind.bits, upAt]; omega
theorem upV_wf (xs : List Int) : ∀ z ∈ upV xs, (Lit.int .u8 z).wf = true := by
  unfold upV
  split
  · rename_i h
    unfold upOk at h
    rw [Bool.and_eq_true] at h
    exact upTo_wf xs h.2 _ (by omega)
  · intro z hz; simp at hz
theorem i64_join (a b : Int) (a0 : 0 ≤ a) (a1 : a < 16) (b0 : 0 ≤ b) (b1 : b < 16) : bits .or .i64 (a * 16) b = 16 * a + b := by
  have h := bits_join .i64 62 (by decide) (fun n h0 h1 => by rw [IntKind.wrap_i64]; omega) 4 (a * 16) b (by omega) (by omega) (by omega) b0 (by omega) (by omega)
  rw [h]; omega
theorem below_drewN' {B : Nat} {a w : World} (h : Below B a w) (n : Nat) : Below B a (w.drewN n) := ⟨h.os, h.tape, h.output, h.size, h.block⟩
theorem ret_pairU {k : IntKind} {v v' : Value} {a b : Int} (hv : v = v') (h : a = b) : Ending.returned (.tuple #[v, .int k a]) = .returned (.tuple #[v', .int k b]) := by rw [hv, h]
/-- A call that answers a new slice of bytes and an error's number. -/
def GivesE (t : TypeId) (w : World) (zs : List Int) (k : IntKind) (n : Int) (e : Ending) (w' : World) : Prop := ∃ v, e = .returned (.tuple #[v, .int k n]) ∧ Own .u8 t w' w.heap.size v zs ∧ Below w.heap.size w w'
theorem nums_cat (a b : ByteArray) : nums (a ++ b) = nums a ++ nums b := by
  unfold nums
  rw [ByteArray.data_append]
  simp
theorem qv16_1 (x : Int) : qv 16 x 1 = x / 16 := by rw [qv_next _ _ _ (by decide), qv_zero]
theorem written_byte (x : Int) (h0 : 0 ≤ x) (h1 : x < 256) : written 16 x 2 = [sg (x / 16), sg (x % 16)] := by
  have q2 : qv 16 x 2 = 0 := by rw [qv_next _ _ _ (by decide), qv16_1]; omega
  rw [written_eq (by decide) ⟨Nat.le_refl 2, q2, .inl rfl⟩, digitsTo_next, digitsTo_next, qv16_1, qv_zero]
  rw [show x / 16 % 16 = x / 16 by omega]
  rfl
set_option maxRecDepth 100000 in
theorem refPairs_any (A : Option Addr) (n c : Nat) (zs : List Int) (B : Nat) (w : World) (h : Ints .u8 w B A n zs) (hn : n ≤ 1099511627) :
    Calls Tryz.prog 9 #[.slice A n c] w fun e w' => e = .returned (.string (strOfNums (pairsOf zs))) ∧ w = w' := by
  have HL := Lib.hid h.1
  have H := Lib.hid h
  clear h
  go_enter Tryz.func9, Tryz.ntmps9
  go_wp2
  go_loop [3, 4] (fun s i => ∃ k : Nat, k ≤ n ∧ i = .int .i64 k ∧ s = .string (strOfNums (pairsTo zs k))) (fun _ i => n - (intOf i).toNat)
  case atStart => exact ⟨0, Nat.zero_le _, rfl, rfl⟩
  case round =>
    obtain ⟨k, hk, rfl, rfl⟩ := hrel
    by_cases hlt : k < n
    · obtain ⟨b, off, rfl, hb, hcell⟩ := H.out.2.2 (by omega)
      have hck := hcell k hlt
      obtain ⟨r0, r1⟩ := bounds_u8 (iat_wf H.out.2.1 k (by rw [HL.out]; exact hlt))
      have hnx := Lib.hid (pairsTo_next zs k (by rw [HL.out]; exact hlt))
      have hl := pairsTo_len zs k (by rw [HL.out]; omega)
      have hs1 : (strOfNums (pairsTo zs k)).size ≤ 2199023254 := by rw [strOfNums_size, hl]; omega
      have WB := Lib.hid (written_byte (iat zs k) r0 (by omega))
      have hs2 : (strOfNums [sg (iat zs k / 16), sg (iat zs k % 16)]).size ≤ 2 := by rw [strOfNums_size]; simp
      clear hcell hl
      go_wp2_with (go_at_call 8; refine (refDigits16_any _ 2 _ (by omega) (by omega) (by omega) (by omega)).mono ?_; rintro e w' ⟨rfl, rfl⟩; rw [WB.out])
      go_round
      case rel => exact ⟨k + 1, by omega, by go_num, by rw [hnx.out]; exact congrArg Value.string (strOf_append _ _)⟩
      case measure => simp [intOf]; omega
    · have hfin : Hid (pairsTo zs k = pairsOf zs) := Lib.hid (by unfold pairsTo pairsOf; rw [List.take_of_length_le (by rw [HL.out]; omega)])
      go_wp2
      go_ret
      exact ⟨congrArg (fun l => Ending.returned (.string (strOfNums l))) hfin.out, rfl⟩
end Go.Proofs.YtljhfalgplihhaaGreatDoor
