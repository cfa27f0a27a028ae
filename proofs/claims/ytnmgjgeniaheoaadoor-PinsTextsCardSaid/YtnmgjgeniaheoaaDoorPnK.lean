/- Contracts: the document's count. -/
import Derived.Test.YtnmgjgeniaheoaaDoorPnO
namespace Go.Proofs.YtnmgjgeniaheoaaDoor
open Go.ChangeShapes Go.WideShapes Go.ChangeAt Go.RowKit
set_option linter.unusedVariables false

theorem cnt_next (l : List Int) (k : Nat) (n : Int) (h : k < l.length) (h1 : ¬ (iat l k < 48 ∨ 57 < iat l k)) : cntV (l.drop k) n = cntV (l.drop (k + 1)) (if 4097 < 10 * n + iat l k - 48 then 4097 else 10 * n + iat l k - 48) := by
  rw [drop_iat l k h, cntV, if_neg h1]
theorem cnt_stop (l : List Int) (k : Nat) (n : Int) (h : k < l.length) (h1 : iat l k < 48 ∨ 57 < iat l k) : cntV (l.drop k) n = none := by
  rw [drop_iat l k h, cntV, if_pos h1]
/-- What count answers. -/
abbrev cnV (l : List Int) : Int := if l = [] then 0 else (cntD l).getD 0
abbrev cnB (l : List Int) : Bool := (cntD l).isSome
theorem retCn {a b : Int} {p q : Bool} (h : a = b) (h2 : p = q) : Ending.returned (.tuple #[.int .i64 a, .bool p]) = .returned (.tuple #[.int .i64 b, .bool q]) := by rw [h, h2]
set_option maxRecDepth 100000 in
set_option maxHeartbeats 4000000 in
theorem refCount_any (s : ByteArray) (hs : s.size ≤ 1000000) (w : World) : Calls Tryd.prog 24 #[.string s] w fun e w' => e = .returned (.tuple #[.int .i64 (cnV (nums s)), .bool (cnB (nums s))]) ∧ w = w' := by
  have HL := Lib.hid (nums_len s)
  have hb := get_nums s
  have HC : Hid (nums s = [] ↔ s.size = 0) := Lib.hid (by rw [← nums_len s, List.length_eq_zero_iff])
  go_enter Tryd.func24, Tryd.ntmps24
  go_wp2
  go_loop [4, 5] (fun n i => ∃ (k : Nat) (m : Int), k ≤ s.size ∧ i = .int .i64 k ∧ n = .int .i64 m ∧ 0 ≤ m ∧ m ≤ 4097 ∧ (k = 0 → m = 0) ∧ Hid (cntV ((nums s).drop k) m = cntV (nums s) 0)) (fun _ i => s.size - (intOf i).toNat)
  case atStart => exact ⟨0, 0, Nat.zero_le _, rfl, rfl, by omega, by omega, fun _ => rfl, Lib.hid rfl⟩
  case round =>
    obtain ⟨k, m, hk, rfl, rfl, m0, m1, hz, HV⟩ := hrel
    by_cases hlt : k < s.size
    · have k0 : (0 : Int) ≤ k := by omega
      have k1 : (k : Int) < s.size := by omega
      have hlk : k < (nums s).length := by rw [HL.out]; exact hlt
      obtain ⟨r0, r1⟩ := iat_nums_range s k
      have NX := Lib.hid (cnt_next (nums s) k m hlk)
      have ST := Lib.hid (cnt_stop (nums s) k m hlk)
      have NE : Hid (nums s ≠ []) := Lib.hid (fun h => by have := HC.out.1 h; omega)
      clear hz
      by_cases c0 : iat (nums s) k < 48
      · have E := Lib.hid (HV.out.symm.trans (ST.out (.inl c0)))
        go_wp2
        go_ret2
        exact ⟨retCn (by rw [cnV, if_neg NE.out, cntD, if_neg NE.out, E.out]; rfl) (by rw [cnB, cntD, if_neg NE.out, E.out]; rfl), rfl⟩
      · by_cases c1 : 57 < iat (nums s) k
        · have E := Lib.hid (HV.out.symm.trans (ST.out (.inr c1)))
          go_wp2
          go_ret2
          exact ⟨retCn (by rw [cnV, if_neg NE.out, cntD, if_neg NE.out, E.out]; rfl) (by rw [cnB, cntD, if_neg NE.out, E.out]; rfl), rfl⟩
        · have E := Lib.hid ((NX.out (by omega)).symm.trans HV.out)
          by_cases c2 : 4097 < 10 * m + iat (nums s) k - 48
          · rw [if_pos c2] at E
            go_wp2
            go_round
            case rel => exact ⟨k + 1, 4097, by omega, by go_num, rfl, by omega, by omega, fun h => by omega, E⟩
            case measure => simp [intOf]; omega
          · rw [if_neg c2] at E
            go_wp2
            go_round
            case rel => exact ⟨k + 1, 10 * m + iat (nums s) k - 48, by omega, by go_num, by go_num, by omega, by omega, fun h => by omega, E⟩
            case measure => simp [intOf]; omega
    · have k1 : ¬ (k : Int) < s.size := by omega
      have E : Hid (cntV (nums s) 0 = some m) := Lib.hid (by rw [← HV.out, List.drop_eq_nil_of_le (by rw [HL.out]; omega)]; rfl)
      by_cases h0 : s.size = 0
      · have N0 : Hid (nums s = []) := Lib.hid (HC.out.2 h0)
        obtain rfl : m = 0 := hz (by omega)
        go_wp2
        go_ret2
        exact ⟨retCn (by rw [cnV, if_pos N0.out]) (by rw [cnB, cntD, if_pos N0.out]; first | rfl | (simp; omega)), rfl⟩
      · have NE : Hid (nums s ≠ []) := Lib.hid (fun h => h0 (HC.out.1 h))
        have h1 : (0 : Int) < s.size := by omega
        go_wp2
        go_ret2
        exact ⟨retCn (by rw [cnV, if_neg NE.out, cntD, if_neg NE.out, E.out]; rfl) (by rw [cnB, cntD, if_neg NE.out, E.out]; first | rfl | (simp; omega)), rfl⟩
end Go.Proofs.YtnmgjgeniaheoaaDoor
