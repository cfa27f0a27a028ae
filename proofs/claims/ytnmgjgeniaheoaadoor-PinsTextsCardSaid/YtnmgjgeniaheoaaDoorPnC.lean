/- Contracts: strings.Cut at a star; strings.TrimLeft of noughts; pins.times, pins.One, pins.Word. -/
import Derived.Test.YtnmgjgeniaheoaaDoorPnW
import Derived.Test.YtnmgjgeniaheoaaDoorPnP
import Derived.Test.YtnmgjgeniaheoaaDoorShelf
import Derived.Deep.QuietTactic
import Derived.BigQuiet
import Derived.IntWalk
namespace Go.Proofs.YtnmgjgeniaheoaaDoor
open Go.ChangeShapes Go.WideShapes Go.ChangeAt Go.RowKit
set_option linter.unusedVariables false

set_option maxRecDepth 100000 in
set_option maxHeartbeats 2000000 in
theorem cutStar0_at (s : ByteArray) (hs : s.size ≤ 1099511627776) (i : Nat) (hi : Lib.indexByte s.data.toList 42 = (i : Int)) (w : World) :
    Calls Tryd.prog 37 #[.string s, .string ⟨#[42]⟩] w fun e w' => e = .returned (.tuple #[.string (s.extract 0 i), .string (s.extract (i + 1) s.size), .bool true]) ∧ ∃ n, w' = w.drewN n := by
  have CI := Lib.hid (fun w => Tryd.stringslite_Index_one s 42 w)
  have hk := idxB_lt 42 s i hi
  rw [hi] at CI
  have k0 : (0 : Int) ≤ (i : Int) := by omega
  have k1 : (i : Int) ≤ (s.size : Int) := by omega
  have k2 : (i : Int) + 1 ≤ (s.size : Int) := by omega
  have t1 : IntKind.i64.wrap ((i : Int) + 1) = (i : Int) + 1 := IntWalk.i64_in _ (by omega)
  clear hi
  go_enter Tryd.func37, Tryd.ntmps37
  go_wp2_with (go_at_call 32; refine (CI.out _).mono ?_; rintro e w' ⟨rfl, rfl⟩)
  go_quiet (fail)
  go_wp2
  go_ret3
  exact ⟨rfl, _, rfl⟩
set_option maxRecDepth 100000 in
set_option maxHeartbeats 2000000 in
theorem cutStar0_no (s : ByteArray) (hi : Lib.indexByte s.data.toList 42 < 0) (w : World) :
    Calls Tryd.prog 37 #[.string s, .string ⟨#[42]⟩] w fun e w' => e = .returned (.tuple #[.string s, .string ⟨#[]⟩, .bool false]) ∧ ∃ n, w' = w.drewN n := by
  have CI := Lib.hid (fun w => Tryd.stringslite_Index_one s 42 w)
  have hge := Lib.indexByte_ge s.data.toList 42
  obtain ⟨i, hq⟩ : ∃ i, Lib.indexByte s.data.toList 42 = i := ⟨_, rfl⟩
  rw [hq] at CI hge hi
  obtain rfl : i = -1 := by omega
  clear hge hi hq
  go_enter Tryd.func37, Tryd.ntmps37
  go_wp2_with (go_at_call 32; refine (CI.out _).mono ?_; rintro e w' ⟨rfl, rfl⟩)
  go_ret3
  exact ⟨rfl, 0, rfl⟩
theorem cutStar_at (s : ByteArray) (hs : s.size ≤ 1099511627776) (i : Nat) (hi : Lib.indexByte s.data.toList 42 = (i : Int)) (w : World) :
    Calls Tryd.prog 30 #[.string s, .string ⟨#[42]⟩] w fun e w' => e = .returned (.tuple #[.string (s.extract 0 i), .string (s.extract (i + 1) s.size), .bool true]) ∧ ∃ n, w' = w.drewN n := by
  go_enter Tryd.func30, Tryd.ntmps30
  go_wp2_with (go_at_call 37; refine (cutStar0_at s hs i hi _).mono ?_; rintro e w' ⟨rfl, n, rfl⟩)
  go_ret3
  exact ⟨rfl, _, rfl⟩
theorem cutStar_no (s : ByteArray) (hi : Lib.indexByte s.data.toList 42 < 0) (w : World) :
    Calls Tryd.prog 30 #[.string s, .string ⟨#[42]⟩] w fun e w' => e = .returned (.tuple #[.string s, .string ⟨#[]⟩, .bool false]) ∧ ∃ n, w' = w.drewN n := by
  go_enter Tryd.func30, Tryd.ntmps30
  go_wp2_with (go_at_call 37; refine (cutStar0_no s hi _).mono ?_; rintro e w' ⟨rfl, n, rfl⟩)
  go_ret3
  exact ⟨rfl, _, rfl⟩
theorem nums_trim : ∀ l : List UInt8, ((Lib.trimLeftB l 48).map fun b => (b.toNat : Int)) = short (l.map fun b => (b.toNat : Int))
  | [] => rfl
  | c :: l => by
    unfold Lib.trimLeftB short
    by_cases h : c = 48
    · subst h
      rw [List.dropWhile_cons_of_pos (by decide), List.map_cons, List.dropWhile_cons_of_pos (by decide)]
      exact nums_trim l
    · have h2 : ¬ ((c.toNat : Int) == 48) = true := by
        rw [beq_iff_eq]
        intro e
        exact h (UInt8.toNat_inj.1 (by show c.toNat = 48; omega))
      rw [List.dropWhile_cons_of_neg (by simpa using h), List.map_cons]
      exact (List.dropWhile_cons_of_neg (p := fun c : Int => c == 48) h2).symm
set_option maxRecDepth 100000 in
set_option maxHeartbeats 2000000 in
theorem times_any (s : ByteArray) (hs : s.size ≤ 1000000) (w : World) :
    Calls Tryd.prog 31 #[.string s] w fun e w' => e = .returned (.tuple #[.int .i64 (timV (nums s)), .int .i64 (timE (nums s))]) ∧ w = w' := by
  have CT := Lib.hid (fun u => Tryd.strings_TrimLeft_one s 48 (by decide) u)
  obtain ⟨t, ht⟩ : ∃ t : ByteArray, ⟨(Lib.trimLeftB s.data.toList 48).toArray⟩ = t := ⟨_, rfl⟩
  rw [ht] at CT
  have hnt : nums t = short (nums s) := by
    rw [← ht]
    exact nums_trim s.data.toList
  have hlt : t.size ≤ s.size := by
    have h1 := nums_len t
    have h2 := nums_len s
    rw [← h1, ← h2, hnt]
    exact (List.dropWhile_suffix _).length_le
  have CD := Lib.hid (fun u => readDec_any t u (by unfold maxLen; omega))
  have e0 : t.size = 0 ↔ short (nums s) = [] := by
    rw [← hnt, ← nums_len t]
    exact List.length_eq_zero_iff
  have e1 : s.size = 0 ↔ nums s = [] := by
    rw [← nums_len s]
    exact List.length_eq_zero_iff
  rw [hnt] at CD
  by_cases hz : short (nums s) = [] ∧ nums s ≠ []
  · have HT := Lib.hid (tim_zero _ hz.1 hz.2)
    have h0 := e0.2 hz.1
    have h1 : s.toList.isEmpty = false := empty_beq s (by have := mt e1.1 hz.2; omega)
    obtain rfl : t = ByteArray.empty := ByteArray.size_eq_zero_iff.1 h0
    clear hz ht hnt hlt CD e0 e1 h0
    go_enter Tryd.func31, Tryd.ntmps31
    go_wp2_with fail
    refine (CT.out _).mono ?_
    rintro e w' ⟨rfl, hw⟩
    subst hw
    go_wp2
    go_ret2
    rw [HT.out.1, HT.out.2]
    exact ⟨rfl, rfl⟩
  · have T := tim_num (nums s) (nums_range s) hz
    have EE : Hid ((t.toList.isEmpty = false) ∨ (t.toList.isEmpty = true ∧ s.toList.isEmpty = true)) := Lib.hid (by
      by_cases q : t.size = 0
      · right
        have h2 : s.size = 0 := by
          apply Classical.byContradiction
          intro h3
          exact hz ⟨e0.1 q, mt e1.2 h3⟩
        rw [ByteArray.size_eq_zero_iff.1 q, ByteArray.size_eq_zero_iff.1 h2]
        exact ⟨by rw [ByteArray.toList_eq]; rfl, by rw [ByteArray.toList_eq]; rfl⟩
      · left; exact empty_beq t (by omega))
    generalize numE 10 20 (short (nums s)) = E at T CD
    generalize numV 10 20 (short (nums s)) = V at T CD
    obtain ⟨TE, hTE⟩ : ∃ z, timE (nums s) = z := ⟨_, rfl⟩
    obtain ⟨TV, hTV⟩ : ∃ z, timV (nums s) = z := ⟨_, rfl⟩
    rw [hTE, hTV] at T ⊢
    clear hz ht hnt hlt e0 e1 hTE hTV
    rcases EE.out with h1 | ⟨h1, h2⟩ <;> clear EE
    all_goals rcases T with ⟨rfl, rfl, rfl⟩ | ⟨t1, t2, rfl, rfl⟩ | ⟨rfl, t2, rfl, rfl, t3, t4⟩
    all_goals try (by_cases q0 : E = 0)
    all_goals try have t5 : 4096 < V := (by omega)
    all_goals try have t6 : (E == 21) = false := (by simpa using t1)
    all_goals try have t7 : (E == 0) = false := (by simpa using q0)
    all_goals try subst q0
    all_goals try clear t1
    all_goals
      go_enter Tryd.func31, Tryd.ntmps31
      go_wp2_with fail
      refine (CT.out _).mono ?_
      rintro e w' ⟨rfl, hw⟩
      subst hw
      go_wp2_with fail
      refine (CD.out _).mono ?_
      rintro e w' ⟨rfl, rfl⟩
      go_wp2
      go_ret2
      exact ⟨rfl, rfl⟩
end Go.Proofs.YtnmgjgeniaheoaaDoor
