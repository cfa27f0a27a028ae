/- Package dis: an instruction's bytes as a text. -/
import Derived.Test.YtljhfalgplihhaaGreatDoorDsF
namespace Go.Proofs.YtljhfalgplihhaaGreatDoor
open Go.ChangeShapes Go.WideShapes Go.ChangeAt Go.RowKit
set_option linter.unusedVariables false
noncomputable def rawL (X : List Int) : List ByteArray := X.map fun x => hexT x 2
noncomputable def rawT (X : List Int) : ByteArray := ⟨(Lib.join ((rawL X).map (·.data.toList)) [44]).toArray⟩
theorem rawL_take (X : List Int) (k : Nat) (h : k < X.length) : rawL (X.take (k + 1)) = rawL (X.take k) ++ [hexT (iat X k) 2] := by
  unfold rawL
  rw [List.take_succ_eq_append_getElem h, List.map_append]
  simp [iat, List.getD_eq_getElem?_getD, List.getElem?_eq_getElem h]
set_option maxHeartbeats 2000000 in
set_option maxRecDepth 100000 in
theorem raw_any (p c o m r v l : Int) (b : Nat) (hc0 : 0 ≤ c) (hc1 : c < 256) (hb : b < 256) (v0 : 0 ≤ v) (v1 : v < 65536) (w : World) (hP : PagAt w) (hK : KindsAt w) (hok : putOk p c o m r b v l (putX p c m b v) = true)
    (hwf : ∀ k, 0 ≤ iat (putX p c m b v) k ∧ iat (putX p c m b v) k < 256) (hj : (Lib.join ((rawL (putX p c m b v)).map (·.data.toList)) [44]).length ≤ 1000) :
    Calls Tryz.prog 50 #[.agg (iC p c o m r (b : Int) v l)] w fun e w' => e = .returned (.string (rawT (putX p c m b v))) ∧ Below w.heap.size w w' := by
  have HB0 := Below.alloc0 (Below.refl w.heap.size w) (Obj.cells (iC p c o m r (b : Int) v l) 37)
  have CP := Lib.hid (put_any p c o m r v l b hc0 hc1 hb v0 v1 (w.alloc (Obj.cells (iC p c o m r (b : Int) v l) 37)) (hP.below HB0) (kinds_below hK HB0))
  rw [hok] at CP
  have hln := putX_len p c m b v
  have HB := Lib.hid HB0
  generalize putX p c m b v = X at CP hwf hj hln ⊢
  clear hP hK hok HB0
  go_enter Tryz.func50, Tryz.ntmps50
  go_wp2_with fail
  refine CP.out.mono ?_
  rintro e w1 ⟨A, cp, rfl, hI, hb1⟩
  simp only [if_true] at hI ⊢
  have HI := Lib.hid hI
  have HB1 := Lib.hid (Below.trans0 HB.out hb1)
  have HW := Lib.hid hwf
  have HJ := Lib.hid hj
  clear hI hb1 hwf hj
  have XL : (X.length : Int) ≤ 5 := by omega
  have HLn := Lib.hid hln
  go_wp2
  go_loopw [5, 15] (fun u5 u15 wr => ∃ k : Nat, k ≤ X.length ∧ u15 = .int .i64 k ∧ Hid (Strs wr w1.heap.size u5 (rawL (X.take k))) ∧ Hid (Below w1.heap.size w1 wr)) (fun _ u15 _ => X.length - (intOf u15).toNat)
  case atStart => exact ⟨0, Nat.zero_le _, rfl, Lib.hid (World.ownsRow_nil _ _ _ 1), Lib.hid (Below.refl _ _)⟩
  case round =>
    obtain ⟨k, hk, rfl, HL, HBel⟩ := hrel
    have k0 : (0 : Int) ≤ (k : Int) := by omega
    by_cases hlt : k < X.length
    · obtain ⟨g, off, rfl, hg, hcell⟩ := HI.out.2.2 (by omega)
      have hk1 := (HBel.out.cell (p := ⟨g, off + k, none⟩) hg).trans (hcell k hlt)
      have CB := Lib.hid (fun u => disByte_any (iat X k) u (HW.out k).1 (HW.out k).2)
      have HN := Lib.hid (rawL_take X k hlt)
      have HLk : Hid ((rawL (X.take k)).length ≤ 5) := Lib.hid (by unfold rawL; rw [List.length_map, List.length_take]; have := HLn.out; omega)
      have hlt' : (k : Int) < (X.length : Int) := by omega
      clear hcell
      generalize hexT (iat X k) 2 = S at CB HN
      generalize iat X k = x at CB hk1
      go_wp2_with fail
      refine (CB.out _).mono ?_
      rintro e w2 ⟨rfl, hb2⟩
      have HB2 := Lib.hid (Below.trans HBel.out (hb2.mono HBel.out.size))
      have HL2 : Hid (Strs w2 w1.heap.size u5 (rawL (X.take k))) := Lib.hid (World.ownsRow.kept (row := none) HL.out ⟨hb2.os, hb2.tape, hb2.output, hb2.size, fun k hk _ => hb2.block k hk⟩ (by by_cases h : Value.ownBlock u5 = none; exact .inl h; exact .inr h))
      clear hb2 hk1
      have hs2 := HB2.out.size
      have HS2 := Lib.hid hs2
      clear hs2
      go_wp2_with (at_builtin; refine wpList_appStr rfl _ _ _ rfl w1.heap.size u5 (rawL (X.take k)) rfl (Strs.alloc HL2.out _) ⟨w2.heap.size, 0, none⟩ 1 S rfl (cells_of_blk (Blk.new w2 _ #[.string S] _)) (by have := HLk.out; omega) (by have := HS2.out; simp; omega) ?_)
      intro v1 w3 h1 hb1
      have H1 := Lib.hid h1
      have HB3 := Lib.hid ((Below.alloc0 HB2.out _).trans hb1)
      clear h1 hb1
      go_wp2
      go_roundw
      case rel => exact ⟨k + 1, by omega, by go_num, Lib.hid (by rw [HN.out]; exact H1.out), HB3⟩
      case measure => simp [intOf]; omega
    · obtain rfl : k = X.length := by omega
      have HF : Hid (rawL (X.take X.length) = rawL X) := Lib.hid (by rw [List.take_length])
      rw [HF.out] at HL
      obtain ⟨A5, c5, rfl, hrd⟩ := HL.out.read
      have HLr : Hid ((rawL X).length ≤ 5) := Lib.hid (by unfold rawL; rw [List.length_map]; exact HLn.out)
      have HT : Hid (rawT X = ⟨(Lib.join ((rawL X).map (·.data.toList)) [44]).toArray⟩) := Lib.hid rfl
      have hjl := HJ.out
      generalize rawL X = L at *
      by_cases h0 : 0 < L.length
      · obtain ⟨g, rfl, hg, hc, hcell⟩ := hrd h0
        have CJ := Lib.hid (Tryz.strings_Join g 0 c5 L ⟨#[44]⟩ wr hcell hg (by have := HLr.out; omega) hc (by show (Lib.join (L.map (·.data.toList)) [44]).length ≤ _; omega))
        clear hcell hrd hjl
        go_wp2_with fail
        refine CJ.out.mono ?_
        rintro e w2 ⟨rfl, hb2⟩
        have HB9 := Lib.hid (HB1.out.trans ((Below.trans0 HBel.out hb2).mono HB1.out.size))
        clear hb2
        go_wp2
        go_ret
        exact ⟨by rw [HT.out]; rfl, HB9.out⟩
      · have hn : L.length = 0 := by omega
        have HL0 := Lib.hid (List.eq_nil_of_length_eq_zero hn)
        rw [hn]
        have CJ := Lib.hid (Tryz.strings_Join_none A5 c5 ⟨#[44]⟩ wr)
        clear hrd hjl
        go_wp2_with fail
        refine CJ.out.mono ?_
        rintro e w2 ⟨rfl, rfl⟩
        have HB9 := Lib.hid (HB1.out.trans (HBel.out.mono HB1.out.size))
        go_wp2
        go_ret
        exact ⟨by rw [HT.out, HL0.out]; rfl, HB9.out⟩
end Go.Proofs.YtljhfalgplihhaaGreatDoor
