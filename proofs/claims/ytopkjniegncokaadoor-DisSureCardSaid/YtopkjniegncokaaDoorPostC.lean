/- The contract of package post's Code. -/
import Derived.Test.YtopkjniegncokaaDoorPostU
import Derived.Test.YtopkjniegncokaaDoorPostE
namespace Go.Proofs.YtopkjniegncokaaDoor
open Go.ChangeShapes Go.WideShapes Go.ChangeAt Go.RowKit
set_option linter.unusedVariables false

theorem hitQ_comm (k r o : Int) (d : Bool) (b : Nat) : ((poK b : Int) == k && ((poR b : Int) == r && ((poO b : Int) == o && poI b == d))) = hitQ k r o d b := by
  unfold hitQ
  rw [Bool.eq_iff_iff]
  simp only [Bool.and_eq_true, beq_iff_eq]
  constructor <;> (rintro ⟨a, b, c, d⟩; exact ⟨a.symm, b.symm, c.symm, d.symm⟩)
/-- What Code answers. -/
def codeV (n : Nat) : Int := if n < 256 then (n : Int) else 0
set_option maxRecDepth 100000 in
set_option maxHeartbeats 1000000 in
theorem code_hit (k r o : Int) (d : Bool) (h : hitQ k r o d 159 = true) (w : World) (hT : KindsAt w) :
    Calls Tryd.prog 20 #[.agg #[.int .i64 k, .int .i64 r, .int .u16 o, .bool d]] w fun e w' => e = .returned (.tuple #[.int .u8 159, .bool true]) ∧ Below w.heap.size w w' := by
  have c := fun (w : World) (hT : KindsAt w) => of_any 159 (by omega) w hT
  rw [hitQ_iff] at h
  obtain ⟨rfl, rfl, rfl, rfl⟩ := h
  generalize (poK 159 : Int) = k at c ⊢
  generalize (poR 159 : Int) = r at c ⊢
  generalize (poO 159 : Int) = o at c ⊢
  generalize poI 159 = d at c ⊢
  have C := Lib.hid c
  have HT := Lib.hid (hT.below (Below.alloc0 (Below.refl _ w) (Obj.cells #[.int .i64 k, .int .i64 r, .int .u16 o, .bool d] 46)))
  have HT' := Lib.hid (hT.below (Below.drew0 (Below.alloc0 (Below.refl _ w) (Obj.cells #[.int .i64 k, .int .i64 r, .int .u16 o, .bool d] 46))))
  have HB := Lib.hid (Blk.new w 46 #[.int .i64 k, .int .i64 r, .int .u16 o, .bool d] (0, 0))
  clear c hT
  go_enter Tryd.func20, Tryd.ntmps20
  go_wp2
  go_region_held3 (fun w' => w'.cell? ⟨w.heap.size, 0, none⟩ = some (.int .i64 k) ∧ w'.cell? ⟨w.heap.size, 1, none⟩ = some (.int .i64 r) ∧ w'.cell? ⟨w.heap.size, 2, none⟩ = some (.int .u16 o) ∧ w'.cell? ⟨w.heap.size, 3, none⟩ = some (.bool d))
    (first
      | exact HB.out.s4
      | exact HB1.out.s4)
    (first
      | (go_at_call 19; (refine (C.out _ HT'.out).mono ?_; rintro e w1 ⟨rfl, hb1⟩; have HB1 := Lib.hid (by first | exact Blk.below HB.out hb1 (by simp) | exact Blk.belowD HB.out hb1 (by simp)); have Hb1 := Lib.hid hb1; clear hb1)))
  have b1 : Below w.heap.size w w1 := by first | exact Below.trans0 (Below.alloc0 (Below.refl _ _) _) Hb1.out | exact Below.trans0 (Below.drew0 (Below.alloc0 (Below.refl _ _) _)) Hb1.out
  have B1 := Lib.hid b1
  clear b1
  go_wp2
  go_ret2
  exact ⟨rfl, by first | exact B1.out | exact Below.drew0 B1.out⟩
set_option maxRecDepth 100000 in
set_option maxHeartbeats 1000000 in
theorem code_else (k r o : Int) (d : Bool) (h : hitQ k r o d 159 = false) (w : World) (hT : KindsAt w) :
    Calls Tryd.prog 20 #[.agg #[.int .i64 k, .int .i64 r, .int .u16 o, .bool d]] w fun e w' => e = .returned (.tuple #[.int .u8 (codeV (fnd (hitQ k r o d) 256 0)), .bool (decide (fnd (hitQ k r o d) 256 0 < 256))]) ∧ Below w.heap.size w w' := by
  have c := fun (w : World) (hT : KindsAt w) => of_any 159 (by omega) w hT
  obtain ⟨k', hk'⟩ : ∃ x : Int, (poK 159 : Int) = x := ⟨_, rfl⟩
  obtain ⟨r', hr'⟩ : ∃ x : Int, (poR 159 : Int) = x := ⟨_, rfl⟩
  obtain ⟨o', ho'⟩ : ∃ x : Int, (poO 159 : Int) = x := ⟨_, rfl⟩
  obtain ⟨d', hd'⟩ : ∃ x, poI 159 = x := ⟨_, rfl⟩
  rw [hk', hr', ho', hd'] at c
  unfold hitQ at h
  rw [hk', hr', ho', hd'] at h
  have he : ∀ w, (binOp .eql 46 (.agg (postA k r o d)) (.agg (postA k' r' o' d'))).run Tryd.prog w = .ok (.bool false) w := fun w => by rw [eql_post, h]
  have C := Lib.hid c
  have HT := Lib.hid hT
  have HT' := Lib.hid (hT.below (Below.drew0 (Below.alloc0 (Below.refl _ w) (Obj.cells #[.int .i64 k, .int .i64 r, .int .u16 o, .bool d] 46))))
  have HB := Lib.hid (Blk.new w 46 #[.int .i64 k, .int .i64 r, .int .u16 o, .bool d] (0, 0))
  clear c hT hk' hr' ho' hd' h
  go_enter Tryd.func20, Tryd.ntmps20
  go_wp2
  go_region_held3 (fun w' => w'.cell? ⟨w.heap.size, 0, none⟩ = some (.int .i64 k) ∧ w'.cell? ⟨w.heap.size, 1, none⟩ = some (.int .i64 r) ∧ w'.cell? ⟨w.heap.size, 2, none⟩ = some (.int .u16 o) ∧ w'.cell? ⟨w.heap.size, 3, none⟩ = some (.bool d))
    (first
      | exact HB.out.s4
      | exact HB1.out.s4)
    (first
      | (go_at_call 19; (refine (C.out _ HT'.out).mono ?_; rintro e w1 ⟨rfl, hb1⟩; have HB1 := Lib.hid (by first | exact Blk.below HB.out hb1 (by simp) | exact Blk.belowD HB.out hb1 (by simp)); have Hb1 := Lib.hid hb1; clear hb1)))
  have b1 : Below w.heap.size w w1 := by first | exact Below.trans0 (Below.alloc0 (Below.refl _ _) _) Hb1.out | exact Below.trans0 (Below.drew0 (Below.alloc0 (Below.refl _ _) _)) Hb1.out
  have B1 := Lib.hid b1
  clear b1
  clear he
  go_wp2
  go_loopw [8] (fun u8 wr => ∃ i : Nat, i ≤ 256 ∧ u8 = .int .i64 i ∧ KindsAt wr ∧ Blk wr w.heap.size 46 (postA k r o d) ∧ Below w.heap.size w wr ∧ Hid (fnd (hitQ k r o d) 256 0 = fnd (hitQ k r o d) (256 - i) i)) (fun u8 _ => 256 - (intOf u8).toNat)
  case atStart => exact ⟨0, Nat.zero_le _, rfl, HT.out.below (by first | exact B1.out | exact Below.drew0 B1.out), HB1.out, (by first | exact B1.out | exact Below.drew0 B1.out), Lib.hid rfl⟩
  case round =>
    obtain ⟨i, hi, rfl, hK, hBk, hbel, hF⟩ := hrel
    have HK := Lib.hid hK
    have HK' := Lib.hid (show KindsAt wr.drew from hK)
    have HBk := Lib.hid hBk
    have HBel := Lib.hid hbel
    clear hK hBk hbel
    by_cases hlt : i < 256
    · have hi0 : (0 : Int) ≤ (i : Int) := by omega
      have hi1 : (i : Int) < 256 := by omega
      have t1 : IntKind.u8.wrap (i : Int) = (i : Int) := by rw [IntKind.wrap_u8]; omega
      have ci := of_any i hlt wr.drew HK'.out
      have cj := of_any i hlt wr HK.out
      cases hh : hitQ k r o d i
      all_goals
        have he : ∀ w, (binOp .eql 46 (.agg (postA (poK i) (poR i) (poO i) (poI i))) (.agg (postA k r o d))).run Tryd.prog w = .ok (.bool (hitQ k r o d i)) w := fun w => by rw [eql_post, hitQ_comm]
        rw [hh] at he
        have HH := Lib.hid hh
        have CI := Lib.hid ci
        have CJ := Lib.hid cj
        clear hh ci cj
        go_wp2
        go_region_held3 (fun w' => w'.cell? ⟨w.heap.size, 0, none⟩ = some (.int .i64 k) ∧ w'.cell? ⟨w.heap.size, 1, none⟩ = some (.int .i64 r) ∧ w'.cell? ⟨w.heap.size, 2, none⟩ = some (.int .u16 o) ∧ w'.cell? ⟨w.heap.size, 3, none⟩ = some (.bool d))
          (first
            | exact HBk.out.s4
            | exact HB2.out.s4)
          (first
            | (go_at_call 19; (first | refine CI.out.mono ?_ | refine CJ.out.mono ?_); rintro e w2 ⟨rfl, hb2⟩; have HB2 := Lib.hid (by first | exact Blk.below HBk.out hb2 HBk.out.lt | exact Blk.belowD HBk.out hb2 HBk.out.lt); have Hb2 := Lib.hid hb2; clear hb2))
        have b2 : Below wr.heap.size wr w2 := by first | exact Hb2.out | exact ⟨Hb2.out.os, Hb2.out.tape, Hb2.out.output, Hb2.out.size, Hb2.out.block⟩
        have B2 := Lib.hid b2
        clear b2 he t1
      · go_wp2
        go_roundw
        case rel => exact ⟨i + 1, by omega, by go_num, HK.out.below (by first | exact B2.out | exact Below.drew0 B2.out), HB2.out, by first | exact Below.trans0 HBel.out B2.out | exact Below.drew0 (Below.trans0 HBel.out B2.out), Lib.hid (by rw [hF.out, fnd_step _ _ _ hlt HH.out])⟩
        case measure => simp [intOf]; omega
      · go_wp2
        go_ret2
        have hv : fnd (hitQ k r o d) 256 0 = i := by rw [hF.out, fnd_hit _ _ _ hlt HH.out]
        refine ⟨?_, by first | exact Below.trans0 HBel.out B2.out | exact Below.drew0 (Below.trans0 HBel.out B2.out)⟩
        rw [hv]
        simp [codeV, hlt]
    · obtain rfl : i = 256 := by omega
      go_wp2
      go_ret2
      have hv : fnd (hitQ k r o d) 256 0 = 256 := by rw [hF.out]; rfl
      refine ⟨?_, HBel.out⟩
      rw [hv]
      rfl
theorem code_any (k r o : Int) (d : Bool) (w : World) (hT : KindsAt w) :
    Calls Tryd.prog 20 #[.agg #[.int .i64 k, .int .i64 r, .int .u16 o, .bool d]] w fun e w' => e = .returned (.tuple #[.int .u8 (codeV (codeL k r o d)), .bool (decide (codeL k r o d < 256))]) ∧ Below w.heap.size w w' := by
  rw [← code_same]
  unfold codeQ
  cases h : hitQ k r o d 159
  · exact code_else k r o d h w hT
  · exact code_hit k r o d h w hT
end Go.Proofs.YtopkjniegncokaaDoor
