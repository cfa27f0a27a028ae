/- Contracts: the law's names (spinetlaw17.names): an own []string whose last one grows; lists.Read of the empty text. -/
import Derived.Test.YtfkcogccbeolfabDoorSplN
import Derived.Test.YtfkcogccbeolfabDoorStrs
import Derived.StillTailTactics
namespace Go.Proofs.YtfkcogccbeolfabDoor
open Go.ChangeShapes Go.WideShapes Go.ChangeAt Go.RowKit
set_option linter.unusedVariables false

theorem Strs.one {w : World} {base : Nat} (hb : base ≤ w.heap.size) (x : ByteArray) : Strs (w.alloc (.cells #[.string x] 9 (0, 0))) base (.slice (some ⟨w.heap.size, 0, none⟩) 1 1) [x] :=
  ⟨by simp, Or.inr ⟨w.heap.size, 1, #[.string x], rfl, hb, Blk.new w _ _ _, by simp, by unfold maxLen; omega, by simp, by simp⟩⟩
theorem strL_app (a : List UInt8) (b : List UInt8) : strL a ++ strL b = strL (a ++ b) := by
  unfold strL
  apply ByteArray.ext
  simp
theorem strL_get (l : List UInt8) (k : Nat) (h : k < (strL l).size) (h2 : k < l.length) : (strL l)[k]'h = l[k]'h2 := rfl
set_option maxRecDepth 100000 in
set_option maxHeartbeats 4000000 in
theorem names_any (l : List UInt8) (hl : l.length ≤ 60) (w : World) :
    Calls Tryd.prog 9 #[.string (strL l)] w fun e w' => ∃ v, e = .returned v ∧ Strs w' w.heap.size v ((splits [] l).map strL) ∧ Below w.heap.size w w' := by
  have HL := Lib.hid hl
  obtain ⟨T, hT⟩ : ∃ T, splits [] l = T := ⟨_, rfl⟩
  have HT := Lib.hid hT
  rw [hT]
  have hsz : (strL l).size = l.length := by simp [strL, ByteArray.size]
  clear hl hT
  go_enter Tryd.func9, Tryd.ntmps9
  go_wp2
  go_loopw [3, 4] (fun u3 u4 wr => ∃ (k : Nat) (d : List (List UInt8)) (p : List UInt8), k ≤ l.length ∧ u4 = .int .i64 k ∧ Hid (d.length ≤ k ∧ p.length ≤ k ∧ d ++ splits p (l.drop k) = T) ∧ Hid (Strs wr w.heap.size u3 (d.map strL ++ [strL p])) ∧ Hid (Below w.heap.size w wr)) (fun _ u4 _ => l.length - (intOf u4).toNat)
  case atStart => exact ⟨0, [], [], Nat.zero_le _, rfl, Lib.hid ⟨by simp, by simp, by simpa using HT.out⟩, Lib.hid (Strs.one (Nat.le_refl _) _), Lib.hid (Below.alloc0 (Below.refl _ _) _)⟩
  case round =>
    obtain ⟨k, d, p, hk, rfl, HD, HS, HB⟩ := hrel
    by_cases hlt : k < l.length
    · have hdr : l.drop k = l[k]'hlt :: l.drop (k + 1) := List.drop_eq_getElem_cons hlt
      obtain ⟨hd1, hd2, hd3⟩ := HD.out
      have hks : k < (strL l).size := by omega
      have hge := strL_get l k hks hlt
      obtain ⟨c, hc⟩ : ∃ c, l[k]'hlt = c := ⟨_, rfl⟩
      rw [hc] at hdr hge
      rw [hdr, splits_cons] at hd3
      have hk6 : l.length ≤ 60 := HL.out
      by_cases h44 : c = 44
      · have e44 : ((((strL l)[k]'hks).toNat : Int) == 44) = true := by rw [hge, h44]; rfl
        rw [if_pos h44] at hd3
        have HD' := Lib.hid (show (d ++ [p]) ++ splits [] (l.drop (k + 1)) = T by rw [List.append_assoc]; exact hd3)
        have HN := Lib.hid (And.intro hd1 (And.intro hd2 hlt))
        have HZ := Lib.hid HB.out.size
        clear hc hdr hd3 h44 hge hd1 hd2 HD
        go_wp2_with (at_builtin; refine wpList_appStr rfl _ _ _ rfl w.heap.size u3 (d.map strL ++ [strL p]) rfl (Strs.alloc HS.out _) ⟨wr.heap.size, 0, none⟩ 1 ⟨#[]⟩ rfl (cells_of_blk (Blk.new wr _ #[.string ⟨#[]⟩] _)) (by simp; have := HN.out; omega) (by have := HZ.out; simp; omega) ?_)
        intro v1 w1 h1 hb1
        have H1 := Lib.hid h1
        have HB1 := Lib.hid ((Below.alloc0 HB.out _).trans hb1)
        clear h1 hb1
        go_wp2
        go_roundw
        case rel => exact ⟨k + 1, d ++ [p], [], by have := HN.out; omega, by go_num, Lib.hid ⟨by simp; have := HN.out; omega, by simp, HD'.out⟩, Lib.hid (by simpa [strL] using H1.out), HB1⟩
        case measure => simp [intOf]; have := HN.out; omega
      · have e44 : ((((strL l)[k]'hks).toNat : Int) == 44) = false := by
          have h2 : ¬ c.toNat = 44 := fun h => h44 (UInt8.toNat_inj.1 h)
          rw [hge]
          have h3 : ¬ (c.toNat : Int) = 44 := by omega
          simpa using h3
        rw [if_neg h44] at hd3
        obtain ⟨g, cp, rfl, hg0, hg1, hcp, hcell, hfr, hset⟩ := HS.out.setLast (strL (p ++ [c]))
        have hml : (d.map strL).length = d.length := by simp
        rw [hml] at hcell hfr hset hcp ⊢
        have hex : (strL l).extract k (k + 1) = strL [c] := by
          apply ByteArray.ext
          apply Array.toList_inj.1
          simp [strL, ByteArray.data_extract, hdr]
        have HN := Lib.hid (And.intro hd1 (And.intro hd2 hlt))
        have HD' := Lib.hid hd3
        have HSt := Lib.hid hset
        clear hc hdr hd3 h44 hge HD HS hset
        have hsp : (strL p).size = p.length := by simp [strL, ByteArray.size]
        have hsc : (strL [c]).size = 1 := rfl
        have hn1 : ¬ 9223372036854775807 < (strL p).size + (strL [c]).size := by omega
        have hap : strL p ++ strL [c] = strL (p ++ [c]) := strL_app p [c]
        have hcell' : wr.drew.cell? ⟨g, d.length, none⟩ = some (.string (strL p)) := hcell
        have hfr' : wr.drew.frozen? ⟨g, d.length, none⟩ = false := hfr
        obtain ⟨S, hS⟩ : ∃ S, strL (p ++ [c]) = S := ⟨_, rfl⟩
        have HS' := Lib.hid hS
        rw [hS] at HSt hap
        have HSt' := Lib.hid (show Strs (wr.drew.setCell ⟨g, d.length, none⟩ (.string S)) w.heap.size (.slice (some ⟨g, 0, none⟩) (d.length + 1) cp) (d.map strL ++ [S]) from HSt.out)
        have HB' := Lib.hid (show Below w.heap.size w wr.drew from Below.drew0 HB.out)
        clear hS hsp hsc HSt HB
        go_wp2_with fail
        have hwd : IntKind.i64.wrap (d.length : Int) = d.length := IntWalk.i64_in _ (by omega)
        have hwk : IntKind.i64.wrap ((k : Int) + 1) = (k : Int) + 1 := IntWalk.i64_in _ (by omega)
        have k0 : (0 : Int) ≤ (k : Int) := by omega
        have k1 : (k : Int) + 1 ≤ (l.length : Int) := by omega
        have d0 : (0 : Int) ≤ (d.length : Int) := by omega
        have d1 : (d.length : Int) < (d.length : Int) + 1 := by omega
        have hsl : ∀ w, (Instr.slice 9 (.string (strL l)) (some (.int .i64 (k : Int))) (some (.int .i64 ((k : Int) + 1))) none).run Tryd.prog w = .ok (.string (strL [c])) w := fun w => by
          rw [run_slice_string w 9 (strL l) .i64 .i64 _ _ Tryd.underlying9 (by omega) (by omega) (by omega), show (k : Int).toNat = k by omega, show ((k : Int) + 1).toNat = k + 1 by omega, hex]
        have hcell2 : ({ heap := wr.heap, tape := wr.tape, drawn := wr.drawn + 1, os := wr.os, output := wr.output } : World).cell? ⟨g, d.length, none⟩ = some (.string (strL p)) := hcell
        go_still_tail 13, (by kernel_rfl)
        change wpList _ _ _ _ _ wr.drew
        clear hcell2 hcell hfr
        generalize wr.drew = w2 at HSt' HB' hcell' hfr' ⊢
        go_wp2
        refine ⟨⟨k + 1, d, p ++ [c], by have := HN.out; omega, by go_num, Lib.hid ⟨by have := HN.out; omega, by simp; have := HN.out; omega, HD'.out⟩, ?_, Lib.hid (Below.setCell HB'.out (by simpa using hg0) _)⟩, ?_⟩
        · rw [HS'.out]; exact HSt'
        · simp [intOf]; have := HN.out; omega
    · obtain rfl : k = l.length := by omega
      go_wp2
      go_ret
      refine ⟨_, rfl, ?_, HB.out⟩
      have h1 := HD.out.2.2
      rw [List.drop_length] at h1
      rw [← h1]
      have := HS.out
      simpa [splits] using this
end Go.Proofs.YtfkcogccbeolfabDoor
