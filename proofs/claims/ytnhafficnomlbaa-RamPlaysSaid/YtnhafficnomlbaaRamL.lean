/- Memory of package ram: Write, Load, Part, Page. -/
import Derived.Test.YtnhafficnomlbaaRam
namespace Go.Proofs.Ytnhafficnomlbaa
open Go.ChangeShapes Go.WideShapes Go.ChangeAt Go.RowKit
set_option linter.unusedVariables false

theorem raWrite_no (m : Nat) (p : Nat → Option Nat) (rom : Int) (f : Nat → Int) (a : Nat) (b : Int) (w : World) (h : Ra w m p rom f) (ha : a < 65536) (hr : rom ≤ (a : Int)) :
    Calls Try.prog 28 #[.pointer (some ⟨m, 0, none⟩), .int .u16 (a : Int), .int .u8 b] w fun e w' => e = .returned (.bool false) ∧ w = w' := by
  have c0 := h.rom_
  have hD : decide (rom ≤ (a : Int)) = true := decide_eq_true hr
  clear h
  go_enter Try.func28, Try.ntmps28
  go_wp2
  go_ret
  exact ⟨rfl, rfl⟩
def WritePost (w : World) (m : Nat) (p : Nat → Option Nat) (rom : Int) (f' : Nat → Int) (e : Ending) (w' : World) : Prop := e = .returned (.bool true) ∧ ∃ p', Ra w' m p' rom f' ∧ Rst w w' m p p'
theorem raWrite_ok (m : Nat) (p : Nat → Option Nat) (rom : Int) (f : Nat → Int) (a : Nat) (b : Int) (w : World) (h : Ra w m p rom f) (ha : a < 65536) (hb : 0 ≤ b ∧ b < 256) (hr : (a : Int) < rom) :
    Calls Try.prog 28 #[.pointer (some ⟨m, 0, none⟩), .int .u16 (a : Int), .int .u8 b] w (WritePost w m p rom (upd f a b)) := by
  have c0 := h.rom_
  have hD : ¬ (rom ≤ (a : Int)) := by omega
  have hD2 : decide (rom ≤ (a : Int)) = false := decide_eq_false hD
  have HP := Lib.hid (raPoke_any m p rom f a b w h ha hb)
  clear h
  go_enter Try.func28, Try.ntmps28
  go_wp2_with fail
  refine HP.out.mono ?_
  rintro e w' ⟨rfl, p', h1, h2⟩
  go_wp2
  go_ret
  exact ⟨rfl, p', h1, h2⟩
/-- The slice lies in no block of memory. -/
def OffR (m : Nat) (p : Nat → Option Nat) (v : Value) : Prop := ∀ b o n c, v = .slice (some ⟨b, o, none⟩) n c → 0 < n → ¬ RS m p b
/-- Memory with k bytes of a list from an address on. -/
def ldF (f : Nat → Int) (a : Nat) (xs : List Int) (k : Nat) : Nat → Int := fun x => if a ≤ x ∧ x < a + k then iat xs (x - a) else f x
theorem ldF_zero (f : Nat → Int) (a : Nat) (xs : List Int) : ldF f a xs 0 = f := by
  funext x
  unfold ldF
  rw [if_neg (by omega)]
theorem ldF_next (f : Nat → Int) (a : Nat) (xs : List Int) (k : Nat) : upd (ldF f a xs k) (a + k) (iat xs k) = ldF f a xs (k + 1) := by
  funext x
  unfold upd ldF
  by_cases e : x = a + k
  · rw [if_pos e, if_pos (by omega), e, Nat.add_sub_cancel_left]
  · rw [if_neg e]
    by_cases h : a ≤ x ∧ x < a + k
    · rw [if_pos h, if_pos (by omega)]
    · rw [if_neg h, if_neg (by omega)]
def LoadPost (w : World) (m : Nat) (p : Nat → Option Nat) (rom : Int) (f' : Nat → Int) (e : Ending) (w' : World) : Prop := e = .returned (.int .i64 0) ∧ ∃ p', Ra w' m p' rom f' ∧ Rst w w' m p p'
theorem raLoad_no (m : Nat) (a : Int) (A : Option Addr) (n c : Nat) (w : World) (ha : -9223372036854775808 ≤ a ∧ a ≤ 9223372036854775807) (hn : n ≤ 9223372036854775807) (hno : ¬ (0 ≤ a ∧ a + n ≤ 65536)) :
    Calls Try.prog 25 #[.pointer (some ⟨m, 0, none⟩), .int .i64 a, .slice A n c] w fun e w' => e = .returned (.int .i64 11) ∧ w = w' := by
  by_cases h0 : a < 0
  · have d0 := decide_eq_true h0
    go_enter Try.func25, Try.ntmps25
    go_wp2
    go_ret
    exact ⟨rfl, rfl⟩
  · by_cases h1 : 65536 < a
    · have d0 := decide_eq_false h0
      have d1 := decide_eq_true h1
      go_enter Try.func25, Try.ntmps25
      go_wp2
      go_ret
      exact ⟨rfl, rfl⟩
    · have d0 := decide_eq_false h0
      have d1 := decide_eq_false h1
      have h2 : 65536 - a < (n : Int) := by omega
      have d2 := decide_eq_true h2
      have kw : IntKind.i64.wrap (65536 - a) = 65536 - a := IntWalk.i64_in _ (by omega)
      go_enter Try.func25, Try.ntmps25
      go_wp2
      go_ret
      exact ⟨rfl, rfl⟩
set_option maxHeartbeats 2000000 in
theorem raLoad_ok (m : Nat) (p : Nat → Option Nat) (rom : Int) (f : Nat → Int) (a : Nat) (v : Value) (xs : List Int) (w : World) (h : Ra w m p rom f) (hr : eY.Rd w v xs) (hx : Byt xs) (ho : OffR m p v) (ha : a + xs.length ≤ 65536) :
    Calls Try.prog 25 #[.pointer (some ⟨m, 0, none⟩), .int .i64 (a : Int), v] w (LoadPost w m p rom (ldF f a xs xs.length)) := by
  obtain ⟨A, c, rfl, hc⟩ := rdY_open hr
  have HC := Lib.hid hc
  have HO := Lib.hid ho
  have HX := Lib.hid hx
  have HR0 := Lib.hid h
  obtain ⟨n, hn⟩ : ∃ n, xs.length = n := ⟨_, rfl⟩
  have HN := Lib.hid hn
  rw [hn] at HC HO ha ⊢
  clear hr hc ho hx h hn
  have a0 : ¬ (a : Int) < 0 := by omega
  have a1 : ¬ (65536 : Int) < (a : Int) := by omega
  have kw : IntKind.i64.wrap (65536 - (a : Int)) = 65536 - (a : Int) := IntWalk.i64_in _ (by omega)
  have a2 : ¬ (65536 - (a : Int) < (n : Int)) := by omega
  have d0 := decide_eq_false a0
  have d1 := decide_eq_false a1
  have d2 := decide_eq_false a2
  go_enter Try.func25, Try.ntmps25
  go_wp2
  go_loopw [24] (fun i wr => ∃ k : Nat, k ≤ n ∧ i = .int .i64 k ∧ Hid (∃ p', Ra wr m p' rom (ldF f a xs k) ∧ Rst w wr m p p')) (fun i _ => n - (intOf i).toNat)
  case atStart => exact ⟨0, Nat.zero_le _, rfl, Lib.hid ⟨p, by rw [ldF_zero]; exact HR0.out, Rst.refl _ _ _⟩⟩
  case round =>
    obtain ⟨k, hk, rfl, HK⟩ := hrel
    by_cases hlt : k < n
    · obtain ⟨p1, hR, hS⟩ := HK.out
      obtain ⟨g, off, rfl, hg, hcell⟩ := HC.out (by omega)
      have hne := HO.out g off n c rfl (by omega)
      have c1 : wr.cell? ⟨g, off + k, none⟩ = some (.int .u8 (iat xs k)) := by
        rw [← hcell k hlt]
        unfold World.cell?
        rw [show wr.heap[(⟨g, off + k, none⟩ : Addr).block]? = w.heap[(⟨g, off + k, none⟩ : Addr).block]? from hS.block g hg hne]
      have t0 : (0 : Int) ≤ k := by omega
      have t1 : (k : Int) < n := by omega
      have kb := HX.out.at_ k
      have k1 : IntKind.i64.wrap ((a : Int) + (k : Int)) = (a : Int) + (k : Int) := IntWalk.i64_in _ (by omega)
      have HPK := Lib.hid (raPoke_any m p1 rom (ldF f a xs k) (a + k) (iat xs k) wr hR (by omega) kb)
      rw [ldF_next, Int.natCast_add] at HPK
      have HS := Lib.hid hS
      clear hR hS hcell hne HK
      generalize iat xs k = x at *
      go_wp2_with fail
      refine HPK.out.mono ?_
      rintro e w' ⟨rfl, p2, h1, h2⟩
      have HK2 : Hid (∃ p', Ra w' m p' rom (ldF f a xs (k + 1)) ∧ Rst w w' m p p') := Lib.hid ⟨p2, h1, HS.out.trans h2⟩
      clear h1 h2 HPK
      go_wp2
      go_roundw
      case rel => exact ⟨k + 1, by omega, by go_num, HK2⟩
      case measure => simp [intOf] <;> omega
    · obtain rfl : k = n := by omega
      go_wp2
      go_ret
      obtain ⟨p', h1, h2⟩ := HK.out
      exact ⟨rfl, p', h1, h2⟩
end Go.Proofs.Ytnhafficnomlbaa
