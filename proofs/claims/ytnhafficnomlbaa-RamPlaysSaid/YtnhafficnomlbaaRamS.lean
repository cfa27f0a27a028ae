/- Memory of package ram: Same. -/
import Derived.Test.YtnhafficnomlbaaRamU
namespace Go.Proofs.Ytnhafficnomlbaa
open Go.ChangeShapes Go.WideShapes Go.ChangeAt Go.RowKit
set_option linter.unusedVariables false

/-- Is page i of two the same? -/
def pgE (f g : Nat → Int) (i : Nat) : Bool := (List.range 256).all fun k => f (256 * i + k) == g (256 * i + k)
def sameF (f g : Nat → Int) : Bool := (List.range 256).all (pgE f g)
theorem sameF_self (f : Nat → Int) : sameF f f = true := by
  unfold sameF
  rw [List.all_eq_true]
  intro i _
  unfold pgE
  rw [List.all_eq_true]
  intro k _
  simp
theorem sameF_other (f g : Nat → Int) (a : Nat) (ha : a < 65536) (h : f a ≠ g a) : sameF f g = false := by
  rw [Bool.eq_false_iff]
  intro e
  unfold sameF at e
  rw [List.all_eq_true] at e
  have e2 := e (a / 256) (List.mem_range.2 (by omega))
  unfold pgE at e2
  rw [List.all_eq_true] at e2
  have e3 := e2 (a % 256) (List.mem_range.2 (by omega))
  rw [show 256 * (a / 256) + a % 256 = a by omega] at e3
  exact h (by simpa using e3)
def SamePost (w : World) (b : Bool) (e : Ending) (w' : World) : Prop := e = .returned (.bool b) ∧ Below w.heap.size w w'
set_option maxHeartbeats 2000000 in
theorem raSame_any (m m2 : Nat) (p p2 : Nat → Option Nat) (rom : Int) (f f2 : Nat → Int) (w : World) (h : Ra w m p rom f) (h2 : Ra w m2 p2 rom f2) :
    Calls Try.prog 27 #[.pointer (some ⟨m, 0, none⟩), .pointer (some ⟨m2, 0, none⟩)] w (SamePost w (sameF f f2)) := by
  have c1 := h.rom_
  have c2 := h2.rom_
  have HR := Lib.hid h
  have HR2 := Lib.hid h2
  have HGd := Lib.hid (show Try.prog.eqGuardType Try.prog.depth 73 = false by kernel_rfl)
  have HT : Hid ((∀ j, j < 256 → pgE f f2 j = true) → sameF f f2 = true) := Lib.hid (fun e => by
    unfold sameF; rw [List.all_eq_true]; intro j hj; exact e j (List.mem_range.1 hj))
  have HF : Hid (∀ j, j < 256 → pgE f f2 j = false → sameF f f2 = false) := Lib.hid (fun j hj e => by
    rw [Bool.eq_false_iff]; intro e2
    unfold sameF at e2
    rw [List.all_eq_true] at e2
    rw [e2 j (List.mem_range.2 hj)] at e; cases e)
  clear h h2
  go_enter Try.func27, Try.ntmps27
  go_wp2
  go_quiet (fail)
  go_wp2
  go_loopw [24] (fun i wr => ∃ k : Nat, k ≤ 256 ∧ i = .int .i64 k ∧ Hid (Ra wr m p rom f) ∧ Hid (Ra wr m2 p2 rom f2) ∧ Hid (Below w.heap.size w wr) ∧ Hid (∀ j, j < k → pgE f f2 j = true)) (fun i _ => 256 - (intOf i).toNat)
  case atStart => exact ⟨0, Nat.zero_le _, rfl, Lib.hid (HR.out.drewN _), Lib.hid (HR2.out.drewN _), Lib.hid (Below.drewN0 (Below.refl _ _) _), Lib.hid (fun j hj => absurd hj (by omega))⟩
  case round =>
    obtain ⟨k, hk, rfl, HA, HB, HW, HE⟩ := hrel
    by_cases hlt : k < 256
    · have t0 : (0 : Int) ≤ k := by omega
      have t1 : (k : Int) < 256 := by omega
      have HP := Lib.hid (raPg_any m p rom f k wr HA.out hlt)
      go_wp2_with fail
      refine HP.out.mono ?_
      rintro e w1 ⟨rfl, hb⟩
      have HA1 := Lib.hid (HA.out.below hb)
      have HB1 := Lib.hid (HB.out.below hb)
      have HW1 := Lib.hid (Below.trans HW.out (hb.mono (HW.out.size)))
      have HP1 := Lib.hid (raPg_any m2 p2 rom f2 k w1 HB1.out hlt)
      clear hb HP
      have hE : ∀ w, (Op.equalIn 10000 73 (.agg (pgCs f k)) (.agg (pgCs f2 k))).run Try.prog w = .ok (pgE f f2 k) w := fun w => eqArr w _ _
      obtain ⟨cs, hcs⟩ : ∃ cs, pgCs f k = cs := ⟨_, rfl⟩
      obtain ⟨zs, hzs⟩ : ∃ zs, pgCs f2 k = zs := ⟨_, rfl⟩
      rw [hcs, hzs] at hE
      rw [hzs] at HP1
      rw [hcs]
      have HQ := Lib.hid hE
      clear hE hcs hzs
      go_wp2_with fail
      refine HP1.out.mono ?_
      rintro e w2 ⟨rfl, hb⟩
      have HA2 := Lib.hid (HA1.out.below hb)
      have HB2 := Lib.hid (HB1.out.below hb)
      have HW2 := Lib.hid (Below.trans HW1.out (hb.mono (HW1.out.size)))
      have hE := HQ.out
      have hg := HGd.out
      clear hb HP1
      cases hpz : pgE f f2 k with
      | true =>
        rw [hpz] at hE
        have HE2 : Hid (∀ j, j < k + 1 → pgE f f2 j = true) := Lib.hid (fun j hj => by
          by_cases e : j = k
          · rw [e, hpz]
          · exact HE.out j (by omega))
        clear hpz HQ
        go_wp2
        go_roundw
        case rel => exact ⟨k + 1, by omega, by go_num, HA2, HB2, HW2, HE2⟩
        case measure => simp [intOf] <;> omega
      | false =>
        rw [hpz] at hE
        have HS := Lib.hid (HF.out k hlt hpz)
        clear hpz HQ
        go_wp2
        go_ret
        exact ⟨by rw [HS.out]; rfl, HW2.out⟩
    · obtain rfl : k = 256 := by omega
      have HS := Lib.hid (HT.out HE.out)
      go_wp2
      go_ret
      exact ⟨by rw [HS.out]; rfl, HW.out⟩
end Go.Proofs.Ytnhafficnomlbaa
