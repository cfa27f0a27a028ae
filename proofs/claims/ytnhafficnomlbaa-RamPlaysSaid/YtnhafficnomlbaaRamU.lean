/- Memory of package ram: two arrays of bytes compared; Used, Same. -/
import Derived.Test.YtnhafficnomlbaaRamQ
import Derived.Test.YtnhafficnomlbaaEqI
import Derived.ChangeKeysEq
namespace Go.Proofs.Ytnhafficnomlbaa
open Go.ChangeShapes Go.WideShapes Go.ChangeAt Go.RowKit
set_option linter.unusedVariables false

theorem plain8 : Try.prog.plainKey 5 = true := by kernel_rfl
theorem eqItems_row (w : World) (d : Nat) (q q' : Nat → Int) (n : Nat) : ∀ (is : List Nat), (∀ k ∈ is, k < n) →
    (Op.eqItems (d + 1) 5 1 (rowF q n) (rowF q' n) is).run Try.prog w = .ok (is.all fun k => q k == q' k) w
  | [], _ => by simp [Op.eqItems]
  | i :: is, h => by
    have hi := h i (by simp)
    have ih := eqItems_row w d q q' n is (fun k hk => h k (by simp [hk]))
    have e1 := run_part_plain (P := Try.prog) w plain8 (rowF_at q n i hi)
    have e2 := run_part_plain (P := Try.prog) w plain8 (rowF_at q' n i hi)
    have e3 := run_equalIn_int (P := Try.prog) w d 5 .u8 .u8 (q i) (q' i) Try.underlying5
    simp only [Op.eqItems, Sem.run_bind, Nat.mul_one, e1, e2, e3, Result.andThen_ok]
    by_cases e : q i = q' i
    · simp [e, ih]
    · simp [e]
theorem cells8 : Try.prog.cellsOf 5 = 1 := by kernel_rfl
theorem eqArr (w : World) (q q' : Nat → Int) : (Op.equalIn 10000 73 (.agg (rowF q 256)) (.agg (rowF q' 256))).run Try.prog w = .ok ((List.range 256).all fun k => q k == q' k) w := by
  obtain ⟨i0, hi, _⟩ := info_parts info8
  rw [run_equalIn_array w 9999 (rowF q 256) (rowF q' 256) Try.underlying73 hi, cells8]
  exact eqItems_row w 9998 q q' 256 _ (fun k hk => List.mem_range.1 hk)
theorem pgCs_row (f : Nat → Int) (i : Nat) : pgCs f i = rowF (fun k => f (256 * i + k)) 256 := rfl
theorem zero256 (w : World) : (zeroValue 73).run Try.prog w = .ok (.agg (rowF (fun _ => 0) 256)) w := by kernel_rfl
/-- Has page i no byte other than 0? -/
def pgZ (f : Nat → Int) (i : Nat) : Bool := (List.range 256).all fun k => f (256 * i + k) == 0
/-- The pages that have a byte other than 0. -/
def usedF (f : Nat → Int) (n : Nat) : List Int := (List.range n).flatMap fun i => if pgZ f i = true then [] else [(i : Int)]
theorem usedF_next (f : Nat → Int) (n : Nat) : usedF f (n + 1) = usedF f n ++ if pgZ f n = true then [] else [(n : Int)] := by simp [usedF, List.range_succ]
theorem usedF_len (f : Nat → Int) : ∀ n, (usedF f n).length ≤ n
  | 0 => by simp [usedF]
  | n + 1 => by rw [usedF_next, List.length_append]; have := usedF_len f n; split <;> simp <;> omega
def ReadsI (w : World) (l : List Int) (e : Ending) (w' : World) : Prop := ∃ v, e = .returned v ∧ eI.Rd w' v l ∧ Below w.heap.size w w'
set_option maxHeartbeats 2000000 in
theorem raUsed_any (m : Nat) (p : Nat → Option Nat) (rom : Int) (f : Nat → Int) (w : World) (h : Ra w m p rom f) :
    Calls Try.prog 31 #[.pointer (some ⟨m, 0, none⟩)] w (ReadsI w (usedF f 256)) := by
  have HR := Lib.hid h
  clear h
  have hg : Try.prog.eqGuardType Try.prog.depth 73 = false := by kernel_rfl
  have HGd := Lib.hid hg
  have HZ := Lib.hid zero256
  clear hg
  go_enter Try.func31, Try.ntmps31
  go_wp2
  go_loopw [3, 5] (fun v i wr => ∃ k : Nat, k ≤ 256 ∧ i = .int .i64 k ∧ Hid (eI.Own 3 wr w.heap.size v (usedF f k)) ∧ Hid (Ra wr m p rom f) ∧ Hid (Below w.heap.size w wr)) (fun _ i _ => 256 - (intOf i).toNat)
  case atStart => exact ⟨0, Nat.zero_le _, rfl, Lib.hid (Els.Own.nil_ _ _), HR, Lib.hid (Below.refl _ _)⟩
  case round =>
    obtain ⟨k, hk, rfl, HO, HRr, HW⟩ := hrel
    by_cases hlt : k < 256
    · have t0 : (0 : Int) ≤ k := by omega
      have t1 : (k : Int) < 256 := by omega
      have HP := Lib.hid (raPg_any m p rom f k wr HRr.out hlt)
      have HU := Lib.hid (usedF_next f k)
      have HL := Lib.hid (usedF_len f k)
      go_wp2_with fail
      refine HP.out.mono ?_
      rintro e w1 ⟨rfl, hb⟩
      have HO1 := Lib.hid (Els.Own.below HO.out hb)
      have HR1 := Lib.hid (HRr.out.below hb)
      have HW1 := Lib.hid (Below.trans HW.out (hb.mono (HW.out.size)))
      have hE : ∀ w, (Op.equalIn 10000 73 (.agg (pgCs f k)) (.agg (rowF (fun _ => 0) 256))).run Try.prog w = .ok (pgZ f k) w := fun w => eqArr w _ _
      have hz := HZ.out
      have hg := HGd.out
      generalize hcs : pgCs f k = cs at hE ⊢
      generalize hzs : rowF (fun _ => 0) 256 = zs at hE hz ⊢
      cases hpz : pgZ f k with
      | true =>
        rw [hpz, if_pos rfl, List.append_nil] at HU
        rw [hpz] at hE
        clear HP hb hpz hcs hzs
        go_wp2
        go_roundw
        case rel => exact ⟨k + 1, by omega, by go_num, Lib.hid (by rw [HU.out]; exact HO1.out), HR1, HW1⟩
        case measure => simp [intOf] <;> omega
      | false =>
        rw [hpz, if_neg (by simp)] at HU
        rw [hpz] at hE
        clear HP hb hpz hcs hzs
        go_wp2_with (at_builtin; refine wpList_appI rfl _ _ _ rfl w.heap.size _ _ _ [(k : Int)] rfl (Els.Own.alloc HO1.out _) rfl (Els.Rd.new (E := eI) _ rfl 3 [_] #[.int .i64 (k : Int)] 1 rfl rfl 1) (by have := HL.out; simp at this ⊢; omega) (by have := HW1.out.size; simp at this ⊢; omega) ?_; intro v' w3 ho3 hb3 hg3 hw3; have HO3 : Hid (eI.Own 3 w3 w.heap.size v' (usedF f (k + 1))) := Lib.hid (by rw [HU.out]; exact ho3); have HB3 := Lib.hid ((Below.alloc0 HW1.out _).trans hb3); have HR3 := Lib.hid (HR.out.below HB3.out); clear ho3 hb3 hg3 hw3)
        go_roundw
        case rel => exact ⟨k + 1, by omega, by go_num, HO3, HR3, HB3⟩
        case measure => simp [intOf] <;> omega
    · obtain rfl : k = 256 := by omega
      go_wp2
      go_ret
      exact ⟨_, rfl, HO.out.rd, HW.out⟩
end Go.Proofs.Ytnhafficnomlbaa
