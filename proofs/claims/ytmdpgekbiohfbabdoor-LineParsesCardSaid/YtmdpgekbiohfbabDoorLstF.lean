/- Contracts: the register of a name, the bits of a name (package ops, lists), in plain lists of bytes. -/
import Derived.Test.YtmdpgekbiohfbabDoorLstR
import Derived.Test.YtmdpgekbiohfbabDoorStrTab
namespace Go.Proofs.YtmdpgekbiohfbabDoor
open Go.ChangeShapes Go.WideShapes Go.ChangeAt Go.RowKit
set_option linter.unusedVariables false

def regNames : List (List UInt8) := [[68], [88], [89], [85], [83], [80, 67], [], [], [65], [66], [67, 67], [68, 80]]
def regS (k : Nat) : ByteArray := byteStr (regNames.getD k [])
def regIs (s : ByteArray) (k : Nat) : Bool := !(regS k).toList.isEmpty && ((regS k).toList == s.toList)
/-- The first register, from number k on, with this name. -/
def regIn (s : ByteArray) : Nat → Nat → Int × Bool
  | 0, _ => (0, false)
  | m + 1, k => if regIs s k then ((k : Int), true) else regIn s m (k + 1)
def regOf (s : ByteArray) : Int × Bool := regIn s 12 0
/-- The first place, from k on, of m, whose register is c; then its bit. -/
def bitIn (u : Bool) (c : Int) : Nat → Nat → Int
  | 0, _ => 0
  | m + 1, k => if (regN k u : Int) == c then ((2 ^ k : Nat) : Int) else bitIn u c m (k + 1)
def namedF (s : ByteArray) (u : Bool) : Int := if (regOf s).2 = false then 0 else if (regOf s).1 = 0 then 6 else bitIn u (regOf s).1 8 0
theorem bitIn_range (u : Bool) (c : Int) : ∀ m k, k + m ≤ 8 → 0 ≤ bitIn u c m k ∧ bitIn u c m k < 256
  | 0, k, _ => by simp [bitIn]
  | m + 1, k, h => by
    unfold bitIn
    split
    · have := pow_lt8 k (by omega)
      obtain ⟨z, hz⟩ : ∃ z, 2 ^ k = z := ⟨_, rfl⟩
      rw [hz] at this ⊢
      omega
    · exact bitIn_range u c m (k + 1) (by omega)
theorem namedF_range (s : ByteArray) (u : Bool) : 0 ≤ namedF s u ∧ namedF s u < 256 := by
  unfold namedF
  split
  · decide
  · split
    · decide
    · exact bitIn_range u _ 8 0 (by decide)
theorem regIn_range (s : ByteArray) : ∀ m k, k + m ≤ 12 → 0 ≤ (regIn s m k).1 ∧ (regIn s m k).1 < 12
  | 0, k, _ => by simp [regIn]
  | m + 1, k, h => by
    unfold regIn
    split
    · simp only; omega
    · exact regIn_range s m (k + 1) (by omega)
theorem ret_reg {a b : Int} {p q : Bool} (h : a = b) (h2 : p = q) : Ending.returned (.tuple #[.int .i64 a, .bool p]) = .returned (.tuple #[.int .i64 b, .bool q]) := by rw [h, h2]
def OregAt (w : World) : Prop := ∀ k, k < 12 → w.cell? ⟨2, k, none⟩ = some (.string (regS k))
theorem OregAt.below {w w' : World} (h : OregAt w) (hb : Below w.heap.size w w') : OregAt w' := fun k hk =>
  (hb.cell (p := ⟨2, k, none⟩) (cell_lt (h k hk))).trans (h k hk)
theorem regs_agg (w : World) (k : Nat) (hk : k < 12) :
    (Instr.index 99 (.agg #[.string (regS 0), .string (regS 1), .string (regS 2), .string (regS 3), .string (regS 4), .string (regS 5), .string (regS 6), .string (regS 7), .string (regS 8), .string (regS 9), .string (regS 10), .string (regS 11)]) (.int .i64 (k : Int))).run Tryd.prog w = .ok (.string (regS k)) w := by
  rcases (show k = 0 ∨ k = 1 ∨ k = 2 ∨ k = 3 ∨ k = 4 ∨ k = 5 ∨ k = 6 ∨ k = 7 ∨ k = 8 ∨ k = 9 ∨ k = 10 ∨ k = 11 by omega) with rfl | rfl | rfl | rfl | rfl | rfl | rfl | rfl | rfl | rfl | rfl | rfl
  all_goals kernel_rfl
set_option maxRecDepth 100000 in
set_option maxHeartbeats 2000000 in
theorem findReg_any (s : ByteArray) (w : World) (hT : OregAt w) :
    Calls Tryd.prog 85 #[.string s] w fun e w' => e = .returned (.tuple #[.int .i64 (regOf s).1, .bool (regOf s).2]) ∧ w = w' := by
  have c0 := hT 0 (by decide)
  have c1 := hT 1 (by decide)
  have c2 := hT 2 (by decide)
  have c3 := hT 3 (by decide)
  have c4 := hT 4 (by decide)
  have c5 := hT 5 (by decide)
  have c6 := hT 6 (by decide)
  have c7 := hT 7 (by decide)
  have c8 := hT 8 (by decide)
  have c9 := hT 9 (by decide)
  have c10 := hT 10 (by decide)
  have c11 := hT 11 (by decide)
  clear hT
  unfold regOf
  go_enter Tryd.func85, Tryd.ntmps85
  go_wp2
  go_loop [7] (fun i => ∃ k : Nat, k ≤ 12 ∧ i = .int .i64 k ∧ Hid (regIn s 12 0 = regIn s (12 - k) k)) (fun i => 12 - (intOf i).toNat)
  case atStart => exact ⟨0, Nat.zero_le _, rfl, Lib.hid rfl⟩
  case round =>
    obtain ⟨k, hk, rfl, hF⟩ := hrel
    by_cases hlt : k < 12
    · have hix := regs_agg w k hlt
      have h0 : (0 : Int) ≤ (k : Int) := by omega
      have h16 : (k : Int) < 12 := by omega
      have HS : Hid (regIn s (12 - k) k = if regIs s k then ((k : Int), true) else regIn s (12 - (k + 1)) (k + 1)) := Lib.hid (by rw [show 12 - k = (12 - (k + 1)) + 1 by omega]; rfl)
      have HI : Hid (regIs s k = (!(regS k).toList.isEmpty && ((regS k).toList == s.toList))) := Lib.hid rfl
      obtain ⟨t, ht⟩ : ∃ t, regS k = t := ⟨_, rfl⟩
      rw [ht] at hix HI
      clear ht
      cases e1 : t.toList.isEmpty
      · cases e2 : (t.toList == s.toList)
        · have HN : Hid (regIn s (12 - k) k = regIn s (12 - (k + 1)) (k + 1)) := Lib.hid (HS.out.trans (by simp [HI.out, e1, e2]))
          go_wp2
          go_round
          case rel => exact ⟨k + 1, by omega, by go_num, Lib.hid (by rw [hF.out, HN.out])⟩
          case measure => simp [intOf]; omega
        · have HN : Hid (regIn s (12 - k) k = ((k : Int), true)) := Lib.hid (HS.out.trans (by simp [HI.out, e1, e2]))
          go_wp2
          go_ret2
          exact ⟨ret_reg (by rw [hF.out, HN.out]) (by rw [hF.out, HN.out]), rfl⟩
      · have HN : Hid (regIn s (12 - k) k = regIn s (12 - (k + 1)) (k + 1)) := Lib.hid (HS.out.trans (by simp [HI.out, e1]))
        go_wp2
        go_round
        case rel => exact ⟨k + 1, by omega, by go_num, Lib.hid (by rw [hF.out, HN.out])⟩
        case measure => simp [intOf]; omega
    · obtain rfl : k = 12 := by omega
      go_wp2
      go_ret2
      exact ⟨ret_reg (by rw [hF.out]; rfl) (by rw [hF.out]; rfl), rfl⟩
end Go.Proofs.YtmdpgekbiohfbabDoor
