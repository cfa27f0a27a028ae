/- Contracts: pins.group. -/
import Derived.Test.YtnmgjgeniaheoaaDoorPnQ
namespace Go.Proofs.YtnmgjgeniaheoaaDoor
open Go.ChangeShapes Go.WideShapes Go.ChangeAt Go.RowKit
set_option linter.unusedVariables false

/-- What group answers. -/
def gpV (w : ByteArray) : Pn × Int × Int := match grp w with | .bad e => (zPn, 0, e) | .good p n => (p, (n : Int), 0)
theorem gp_none {w : ByteArray} (h : grpP w = none) : gpV w = (zPn, 0, 21) := by unfold gpV grp; rw [h]
theorem gp_one {w : ByteArray} {p : Pn} (h : grpP w = some p) (hi : Lib.indexByte w.data.toList 42 < 0) : gpV w = (p, 1, 0) := by unfold gpV grp; rw [h]; simp only [if_pos hi]; rfl
theorem gp_bad {w : ByteArray} {p : Pn} (h : grpP w = some p) (hi : ¬ Lib.indexByte w.data.toList 42 < 0) (ht : timE (grpL w) ≠ 0) : gpV w = (zPn, 0, timE (grpL w)) := by unfold gpV grp; rw [h]; simp only [if_neg hi, if_neg ht]
theorem tim_nonneg (l : List Int) (hr : ∀ x ∈ l, 0 ≤ x ∧ x < 256) : 0 ≤ timV l ∧ timV l ≤ 4096 := by
  by_cases hz : short l = [] ∧ l ≠ []
  · rw [(tim_zero l hz.1 hz.2).2]; omega
  · rcases tim_num l hr hz with ⟨_, _, h⟩ | ⟨_, _, _, h⟩ | ⟨_, _, _, _, h, h2⟩ <;> omega
theorem tim_pos (l : List Int) (hr : ∀ x ∈ l, 0 ≤ x ∧ x < 256) (h : timE l = 0) : 1 ≤ timV l := by
  by_cases hz : short l = [] ∧ l ≠ []
  · rw [(tim_zero l hz.1 hz.2).1] at h; omega
  · rcases tim_num l hr hz with ⟨_, h1, _⟩ | ⟨_, _, h1, _⟩ | ⟨_, _, _, _, h1, h2⟩ <;> omega
theorem gp_many {w : ByteArray} {p : Pn} (h : grpP w = some p) (hi : ¬ Lib.indexByte w.data.toList 42 < 0) (ht : timE (grpL w) = 0) : gpV w = (p, timV (grpL w), 0) := by
  have := (tim_nonneg (grpL w) (nums_range _)).1
  unfold gpV grp; rw [h]; simp only [if_neg hi, if_pos ht]; rw [Int.toNat_of_nonneg this]
theorem on_some {s : ByteArray} (h : onB s = true) : oneP s = some (onP s) := by
  unfold onP; unfold onB at h
  cases q : oneP s with
  | none => rw [q] at h; cases h
  | some p => rfl
theorem on_none {s : ByteArray} (h : onB s = false) : oneP s = none := by
  unfold onB at h
  cases q : oneP s with
  | none => rfl
  | some p => rw [q] at h; cases h
theorem resGrp (tmps : Array Value) (W : World) (g : Nat) (cs : Array Value) (h : Blk W g 24 cs) (hc : cs.size = 6) (h2 : tmps.getD 2 undef = .pointer (some ⟨g, 0, none⟩)) (a b : Int) (h3 : tmps.getD 3 undef = .int .i64 a) (h4 : tmps.getD 4 undef = .int .i64 b) :
    (results Tryd.f22 tmps).run Tryd.prog W = .ok (.tuple #[.agg cs, .int .i64 a, .int .i64 b]) W := by
  have hi : (Tryd.prog.info? 24).map (·.size) = some cs.size := by rw [hc]; kernel_rfl
  have hld := run_loadVar_row (P := Tryd.prog) W g 24 24 cs (0, 0) _ h Tryd.underlying24 rfl hi
  have h2' : tmps[2]?.getD undef = .pointer (some ⟨g, 0, none⟩) := by simpa using h2
  have h3' : tmps[3]?.getD undef = .int .i64 a := by simpa using h3
  have h4' : tmps[4]?.getD undef = .int .i64 b := by simpa using h4
  simp [results, Tryd.results22, h2', h3', h4', asAddr, hld]
theorem retGrp {x : Pn} {a b : Int} {v : Pn × Int × Int} (h : v = (x, a, b)) : Ending.returned (.tuple #[.agg x.cells, .int .i64 a, .int .i64 b]) = .returned (.tuple #[.agg v.1.cells, .int .i64 v.2.1, .int .i64 v.2.2]) := by rw [h]
set_option maxRecDepth 100000 in
set_option maxHeartbeats 8000000 in
theorem group_any (s : ByteArray) (hs : s.size ≤ 100000) (w : World) : Calls Tryd.prog 22 #[.string s] w fun e w' => e = .returned (.tuple #[.agg (gpV s).1.cells, .int .i64 (gpV s).2.1, .int .i64 (gpV s).2.2]) ∧ Below w.heap.size w w' := by
  obtain ⟨n, hn⟩ : ∃ n, w.heap.size = n := ⟨_, rfl⟩
  obtain ⟨V, hV⟩ : ∃ V, w.alloc (.cells zPn.cells 24) = V := ⟨_, rfl⟩
  have Z0 : Hid (Blk V n 24 zPn.cells) := Lib.hid (by rw [← hV, ← hn]; exact Blk.new _ _ _ _)
  have B0 : Hid (Below n w V) := Lib.hid (by rw [← hV, ← hn]; exact Below.alloc0 (Below.refl _ _) _)
  rw [hn]
  obtain ⟨I, hI⟩ : ∃ I, Lib.indexByte s.data.toList 42 = I := ⟨_, rfl⟩
  by_cases hi : I < 0
  · have CC := Lib.hid (fun u => cutStar_no s (by omega) u)
    have CO := Lib.hid (fun u => one_any s u)
    have G0 := Lib.hid (fun (h : oneP s = none) => gp_none (w := s) (by unfold grpP; rw [if_pos (by omega)]; exact h))
    have G1 := Lib.hid (fun p (h : oneP s = some p) => gp_one (w := s) (p := p) (by unfold grpP; rw [if_pos (by omega)]; exact h) (by omega))
    have OS := Lib.hid (on_some (s := s))
    have ON := Lib.hid (on_none (s := s))
    obtain ⟨⟨q0, q1, q2, q3, q4, q5⟩, hq⟩ : ∃ q, onP s = q := ⟨_, rfl⟩
    obtain ⟨b, hb⟩ : ∃ b, onB s = b := ⟨_, rfl⟩
    rw [hq, hb] at CO
    rw [hb] at OS ON
    rw [hq] at OS
    clear hq hb hi hI
    go_enter Tryd.func22, Tryd.ntmps22
    go_wp2_with fail
    clear hV
    refine (CC.out _).mono ?_
    rintro e w1 ⟨rfl, hw⟩
    have Z1 : Hid (Blk w1 n 24 zPn.cells) := Lib.hid (by obtain ⟨z, hz⟩ := hw; rw [hz]; exact Z0.out)
    have B1 : Hid (Below n w w1) := Lib.hid (by obtain ⟨z, hz⟩ := hw; rw [hz]; exact B0.out.trans ((Below.drewN0 (Below.refl _ _) z).mono (by have := Z0.out.lt; omega)))
    clear hw
    go_wp2_with fail
    refine (CO.out _).mono ?_
    rintro e w2 ⟨rfl, hb2⟩
    have Z2 := Lib.hid (Blk.below Z1.out hb2 Z1.out.lt)
    have B2 := Lib.hid (B1.out.trans (hb2.mono (by have := Z1.out.lt; omega)))
    clear hb2
    obtain ⟨W, hW⟩ : ∃ W, w2.alloc (Obj.cells #[.bool q0, .bool q1, .bool q2, .bool q3, .bool q4, .bool q5] 24) = W := ⟨_, rfl⟩
    have PW : Hid (Blk W w2.heap.size 24 #[.bool q0, .bool q1, .bool q2, .bool q3, .bool q4, .bool q5]) := Lib.hid (by rw [← hW]; exact Blk.new _ _ _ _)
    have ZW := Lib.hid (show Blk W n 24 zPn.cells by rw [← hW]; exact Blk.alloc Z2.out _)
    have BW : Hid (Below n w W) := Lib.hid (by rw [← hW]; exact B2.out.trans ((Below.alloc0 (Below.refl _ _) _).mono (by have := Z2.out.lt; omega)))
    obtain ⟨p0, p1, p2, p3, p4, p5⟩ := PW.out.c6
    obtain ⟨z0, z1, z2, z3, z4, z5⟩ := ZW.out.c6
    obtain ⟨f0, f1, f2, f3, f4, f5⟩ := ZW.out.fr6
    cases b
    case false =>
      go_wp2
      exact bodyPost_ret (v := .tuple #[.agg zPn.cells, .int .i64 0, .int .i64 21]) (resGrp _ _ n _ (Blk.set6 ZW.out) rfl rfl 0 21 rfl rfl) rfl ⟨retGrp (x := zPn) (G0.out (ON.out (by simp))), Below.set6 BW.out (by omega) _ _ _ _ _ _⟩
    case true =>
      go_wp2
      exact bodyPost_ret (v := .tuple #[.agg #[.bool q0, .bool q1, .bool q2, .bool q3, .bool q4, .bool q5], .int .i64 1, .int .i64 0]) (resGrp _ _ n _ (Blk.set6 ZW.out) rfl rfl 1 0 rfl rfl) rfl ⟨retGrp (x := ⟨q0, q1, q2, q3, q4, q5⟩) (G1.out _ (OS.out (by simp))), Below.set6 BW.out (by omega) _ _ _ _ _ _⟩
  · obtain ⟨i, rfl⟩ : ∃ i : Nat, I = (i : Int) := ⟨I.toNat, by omega⟩
    have CC := Lib.hid (fun u => cutStar_at s (by omega) i hI u)
    have EL : grpL s = nums (s.extract (i + 1) s.size) := by unfold grpL; rw [hI, Int.toNat_natCast]
    have EP : grpP s = oneP (s.extract 0 i) := by unfold grpP; rw [if_neg (by omega), hI, Int.toNat_natCast]
    have CO := Lib.hid (fun u => one_any (s.extract 0 i) u)
    have CT := Lib.hid (fun u => times_any (s.extract (i + 1) s.size) (by rw [ByteArray.size_extract]; omega) u)
    rw [← EL] at CT
    have G0 := Lib.hid (fun (h : oneP (s.extract 0 i) = none) => gp_none (w := s) (EP.trans h))
    have G1 := Lib.hid (fun p (h : oneP (s.extract 0 i) = some p) => gp_bad (w := s) (p := p) (EP.trans h) (by omega))
    have G2 := Lib.hid (fun p (h : oneP (s.extract 0 i) = some p) => gp_many (w := s) (p := p) (EP.trans h) (by omega))
    have OS := Lib.hid (on_some (s := s.extract 0 i))
    have ON := Lib.hid (on_none (s := s.extract 0 i))
    obtain ⟨⟨q0, q1, q2, q3, q4, q5⟩, hq⟩ : ∃ q, onP (s.extract 0 i) = q := ⟨_, rfl⟩
    obtain ⟨b, hb⟩ : ∃ b, onB (s.extract 0 i) = b := ⟨_, rfl⟩
    rw [hq, hb] at CO
    rw [hb] at OS ON
    rw [hq] at OS
    generalize s.extract 0 i = sa at CC CO G0 G1 G2 OS ON
    generalize s.extract (i + 1) s.size = sb at CC CT
    generalize timE (grpL s) = TE at CT G1 G2
    generalize timV (grpL s) = TV at CT G2
    clear hq hb hi hI EL EP
    go_enter Tryd.func22, Tryd.ntmps22
    go_wp2_with fail
    clear hV
    refine (CC.out _).mono ?_
    rintro e w1 ⟨rfl, hw⟩
    have Z1 : Hid (Blk w1 n 24 zPn.cells) := Lib.hid (by obtain ⟨z, hz⟩ := hw; rw [hz]; exact Z0.out)
    have B1 : Hid (Below n w w1) := Lib.hid (by obtain ⟨z, hz⟩ := hw; rw [hz]; exact B0.out.trans ((Below.drewN0 (Below.refl _ _) z).mono (by have := Z0.out.lt; omega)))
    clear hw
    go_wp2_with fail
    refine (CO.out _).mono ?_
    rintro e w2 ⟨rfl, hb2⟩
    have Z2 := Lib.hid (Blk.below Z1.out hb2 Z1.out.lt)
    have B2 := Lib.hid (B1.out.trans (hb2.mono (by have := Z1.out.lt; omega)))
    clear hb2
    obtain ⟨W, hW⟩ : ∃ W, w2.alloc (Obj.cells #[.bool q0, .bool q1, .bool q2, .bool q3, .bool q4, .bool q5] 24) = W := ⟨_, rfl⟩
    have PW : Hid (Blk W w2.heap.size 24 #[.bool q0, .bool q1, .bool q2, .bool q3, .bool q4, .bool q5]) := Lib.hid (by rw [← hW]; exact Blk.new _ _ _ _)
    have ZW := Lib.hid (show Blk W n 24 zPn.cells by rw [← hW]; exact Blk.alloc Z2.out _)
    have BW : Hid (Below n w W) := Lib.hid (by rw [← hW]; exact B2.out.trans ((Below.alloc0 (Below.refl _ _) _).mono (by have := Z2.out.lt; omega)))
    obtain ⟨p0, p1, p2, p3, p4, p5⟩ := PW.out.c6
    obtain ⟨z0, z1, z2, z3, z4, z5⟩ := ZW.out.c6
    obtain ⟨f0, f1, f2, f3, f4, f5⟩ := ZW.out.fr6
    cases b
    case false =>
      go_wp2
      exact bodyPost_ret (v := .tuple #[.agg zPn.cells, .int .i64 0, .int .i64 21]) (resGrp _ _ n _ (Blk.set6 ZW.out) rfl rfl 0 21 rfl rfl) rfl ⟨retGrp (x := zPn) (G0.out (ON.out (by simp))), Below.set6 BW.out (by omega) _ _ _ _ _ _⟩
    case true =>
      go_wp2_with fail
      refine (CT.out _).mono ?_
      rintro e w3 ⟨rfl, rfl⟩
      by_cases ht : TE = 0
      · have GG := Lib.hid (G2.out _ (OS.out (by simp)) ht)
        subst ht
        go_wp2
        exact bodyPost_ret (v := .tuple #[.agg #[.bool q0, .bool q1, .bool q2, .bool q3, .bool q4, .bool q5], .int .i64 TV, .int .i64 0]) (resGrp _ _ n _ (Blk.set6 ZW.out) rfl rfl TV 0 rfl rfl) rfl ⟨retGrp (x := ⟨q0, q1, q2, q3, q4, q5⟩) GG.out, Below.set6 BW.out (by omega) _ _ _ _ _ _⟩
      · have GG := Lib.hid (G1.out _ (OS.out (by simp)) ht)
        have t : (TE == 0) = false := by simpa using ht
        clear ht
        go_wp2
        exact bodyPost_ret (v := .tuple #[.agg zPn.cells, .int .i64 0, .int .i64 TE]) (resGrp _ _ n _ (Blk.set6 ZW.out) rfl rfl 0 TE rfl rfl) rfl ⟨retGrp (x := zPn) GG.out, Below.set6 BW.out (by omega) _ _ _ _ _ _⟩
end Go.Proofs.YtnmgjgeniaheoaaDoor
