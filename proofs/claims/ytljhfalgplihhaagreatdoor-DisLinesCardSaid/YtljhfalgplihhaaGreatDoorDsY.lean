/- Package dis: the tables as listed; the chapter's examples. -/
import Derived.Test.YtljhfalgplihhaaGreatDoorGDsX
import Derived.Test.YtljhfalgplihhaaGreatDoorGLst
import Derived.Test.YtljhfalgplihhaaGreatDoorInsY
import Derived.Shelf.Vars
namespace Go.Proofs.YtljhfalgplihhaaGreatDoor
open Go.ChangeShapes Go.WideShapes Go.ChangeAt Go.RowKit
set_option linter.unusedVariables false
theorem DisAt.of_laid {W : World} (h : laidMetH Tryz.prog [("spinet/cond.names", strData cndNames), ("spinet/page.eights", Lib.tabData .i64 eightsL), ("spinet/page.changes", Lib.tabData .i64 changesL), ("spinet/page.tens", tab3 tensL), ("spinet/page.thirties", tab3 thirtiesL), ("spinet/post.kinds", Lib.tabData .i64 kindsM), ("spinet/ops.registers", strData regNames), ("spinet/ops.stems", strData stemNames), ("spinet/lists.registers", Lib.tabData .i64 lregL)] W) (hS : W.ShapedOpen Tryz.prog) : DisAt W := by
  rw [MakeChecks.laidMetH_plain _ _ _ (by rfl)] at h
  obtain ⟨ps, h, _⟩ := h
  obtain ⟨h1, p1, h⟩ := laidVars_cons h
  obtain ⟨h2, p2, h⟩ := laidVars_cons h
  obtain ⟨h3, p3, h⟩ := laidVars_cons h
  obtain ⟨h4, p4, h⟩ := laidVars_cons h
  obtain ⟨h5, p5, h⟩ := laidVars_cons h
  obtain ⟨h6, p6, h⟩ := laidVars_cons h
  obtain ⟨h7, p7, h⟩ := laidVars_cons h
  obtain ⟨h8, p8, h⟩ := laidVars_cons h
  obtain ⟨h9, p9, h⟩ := laidVars_cons h
  have hO : OregAt W := fun k hk => by
    have hlen : regNames.length = 12 := rfl
    have := h7.strs (g := 5) (t := 121) (e := 9) (n := 12) (by kernel_rfl) (by kernel_rfl) Tryz.underlying121 Tryz.underlying9 (by kernel_rfl) (by kernel_rfl) k (by omega)
    rw [this]
    unfold regS
    rw [List.getD_eq_getElem?_getD, List.getElem?_eq_getElem (by omega)]; rfl
  refine ⟨⟨hO, fun k hk => ?_, fun k hk => ?_, ?_⟩, ⟨hO, fun k hk => ?_⟩, ⟨fun k hk => ?_, fun k hk => ?_, fun k hk => ?_, fun k hk => ?_⟩, kindsAt_of_one h6⟩
  · have hlen : cndNames.length = 16 := rfl
    have := h1.strs (g := 9) (t := 152) (e := 9) (n := 16) (by kernel_rfl) (by kernel_rfl) Tryz.underlying152 Tryz.underlying9 (by kernel_rfl) (by kernel_rfl) k (by omega)
    rw [this, List.getD_eq_getElem?_getD, List.getElem?_eq_getElem (by omega)]; rfl
  · have hlen : stemNames.length = 52 := rfl
    have := h8.strs (g := 0) (t := 146) (e := 9) (n := 52) (by kernel_rfl) (by kernel_rfl) Tryz.underlying146 Tryz.underlying9 (by kernel_rfl) (by kernel_rfl) k (by omega)
    rw [this, List.getD_eq_getElem?_getD, List.getElem?_eq_getElem (by omega)]; rfl
  · exact cell_of_shapedOpen_int (P := Tryz.prog) (g := 4) (t := 3) (zero := #[.int .i64 0]) hS (of_decide_eq_true (by kernel_rfl)) (by kernel_rfl) rfl (by kernel_rfl) (by kernel_rfl) Tryz.underlying3
  · have := h9.ints (g := 6) (t := 122) (e := 3) (n := 8) (by kernel_rfl) (by kernel_rfl) Tryz.underlying122 Tryz.underlying3 (by kernel_rfl) (by kernel_rfl) k hk
    rw [this, lregL_at ⟨k, hk⟩]
  · have := h2.ints (g := 7) (t := 155) (e := 3) (n := 16) (by kernel_rfl) (by kernel_rfl) Tryz.underlying155 Tryz.underlying3 (by kernel_rfl) (by kernel_rfl) k hk
    rw [this, eightsL_at ⟨k, hk⟩]
  · have := h3.ints (g := 8) (t := 155) (e := 3) (n := 16) (by kernel_rfl) (by kernel_rfl) Tryz.underlying155 Tryz.underlying3 (by kernel_rfl) (by kernel_rfl) k hk
    rw [this, changesL_at ⟨k, hk⟩]
  · have := h4.tri (g := 2) (t := 166) (e := 35) (f := 3) (n := 16) (by kernel_rfl) (by kernel_rfl) Tryz.underlying166 Tryz.underlying35 (by kernel_rfl) rfl rfl rfl rfl rfl rfl Tryz.underlying3 (by kernel_rfl) k hk
    rw [getD_get tensL k (0, 0, 0) hk, tensL_at ⟨k, hk⟩] at this
    exact this
  · have := h5.tri (g := 3) (t := 166) (e := 35) (f := 3) (n := 16) (by kernel_rfl) (by kernel_rfl) Tryz.underlying166 Tryz.underlying35 (by kernel_rfl) rfl rfl rfl rfl rfl rfl Tryz.underlying3 (by kernel_rfl) k hk
    rw [getD_get thirtiesL k (0, 0, 0) hk, thirtiesL_at ⟨k, hk⟩] at this
    exact this
theorem agA : inAgg [166, 132] = iC 1 166 11 4 8 132 0 2 ∧ inOk [166, 132] = true := ⟨by kernel_rfl, by decide +kernel⟩
theorem agB : inAgg [32, 254] = iC 1 32 34 6 0 0 65534 2 ∧ inOk [32, 254] = true := ⟨by kernel_rfl, by decide +kernel⟩
theorem wfA : ∀ z ∈ ([166, 132] : List Int), (Lit.int .u8 z).wf = true := by decide
theorem wfB : ∀ z ∈ ([32, 254] : List Int), (Lit.int .u8 z).wf = true := by decide
theorem hex4096 : hexT 4096 4 = ⟨#[36, 49, 48, 48, 48]⟩ := by
  unfold hexT hexD
  rw [written_eq (m := 4) (by decide) ⟨by decide, by decide +kernel, .inl rfl⟩]
  decide +kernel
theorem txA : textT 11 4 8 132 0 2 0 (putX 1 166 4 132 0) = ⟨#[76, 68, 65, 32, 44, 88]⟩ := by
  unfold textT
  rw [if_pos (by decide +kernel)]
  have e : oprT 4 8 132 0 2 0 = ⟨#[44, 88]⟩ := by
    unfold oprT
    decide +kernel
  rw [e]
  unfold lineT nmT
  decide +kernel
theorem txB : textT 34 6 0 0 65534 2 4096 (putX 1 32 6 0 65534) = ⟨#[66, 82, 65, 32, 36, 49, 48, 48, 48]⟩ := by
  unfold textT
  rw [if_pos (by decide +kernel)]
  have e : oprT 6 0 0 65534 2 4096 = ⟨#[36, 49, 48, 48, 48]⟩ := by
    unfold oprT
    have ht : tgtI 6 2 65534 4096 = 4096 := by decide +kernel
    rw [ht]
    simp (decide := true) only [↓reduceIte]
    exact hex4096
  rw [e]
  unfold lineT nmT
  decide +kernel
theorem list_iat (X : List Int) (h : ∀ z ∈ X, 0 ≤ z ∧ z < 256) : ∀ k, 0 ≤ iat X k ∧ iat X k < 256 := by
  intro k
  unfold iat
  rw [List.getD_eq_getElem?_getD]
  cases hk : X[k]? with
  | none => simp
  | some z => exact h z (List.mem_of_getElem? hk)
set_option maxRecDepth 100000 in
set_option maxHeartbeats 2000000 in
theorem alive42 (w : World) (hD : DisAt w) : Calls Tryz.prog 12 #[] w fun e w' => e = .returned (.bool true) ∧ Below w.heap.size w w' := by
  have hb0 := Below.alloc0 (Below.refl w.heap.size w) (Obj.cells #[.int .u8 166, .int .u8 132] 5)
  have HB0 := Lib.hid hb0
  have C1 := of18_any (some ⟨w.heap.size, 0, none⟩) 2 2 [166, 132] _ (ints_blk18 (xs := [166, 132]) (Blk.new w 5 _ (0, 0)) wfA 2 rfl) (by intro h; cases h) (by decide)
  rw [agA.1, agA.2] at C1
  have CA := Lib.hid C1
  have CB : Hid (∀ (u : World) (g : Nat), u.heap.size = g → Calls Tryz.prog 7 #[.slice (some ⟨g, 0, none⟩) 2 2] (u.alloc (Obj.cells #[.int .u8 32, .int .u8 254] 5)) fun e w' => e = .returned (.tuple #[.agg (inAgg [32, 254]), .bool (inOk [32, 254])]) ∧ Below (u.alloc (Obj.cells #[.int .u8 32, .int .u8 254] 5)).heap.size (u.alloc (Obj.cells #[.int .u8 32, .int .u8 254] 5)) w') := Lib.hid (fun u g hg => by
    subst hg
    exact of18_any (some ⟨u.heap.size, 0, none⟩) 2 2 [32, 254] _ (ints_blk18 (xs := [32, 254]) (Blk.new u 5 _ (0, 0)) wfB 2 rfl) (by intro h; cases h) (by decide))
  rw [agB.1, agB.2] at CB
  have HDx := Lib.hid (fun wx (hb : Below w.heap.size w wx) => hD.below hb)
  have T1 := Lib.hid (fun u h => disText_any 1 166 11 4 8 0 2 0 132 (by decide) (by decide) (by decide) u (by decide) (by decide) (by decide) (by decide) (by decide) (by decide) h (by decide +kernel) (list_iat _ (by decide +kernel)))
  have T2 := Lib.hid (fun u h => disText_any 1 32 34 6 0 65534 2 4096 0 (by decide) (by decide) (by decide) u (by decide) (by decide) (by decide) (by decide) (by decide) (by decide) h (by decide +kernel) (list_iat _ (by decide +kernel)))
  rw [txA] at T1
  rw [txB] at T2
  have q1 : ((⟨#[76, 68, 65, 32, 44, 88]⟩ : ByteArray).toList == (⟨#[76, 68, 65, 32, 44, 88]⟩ : ByteArray).toList) = true := by simp
  have q2 : ((⟨#[66, 82, 65, 32, 36, 49, 48, 48, 48]⟩ : ByteArray).toList == (⟨#[66, 82, 65, 32, 36, 49, 48, 48, 48]⟩ : ByteArray).toList) = true := by simp
  clear hD hb0 C1
  go_enter Tryz.func12, Tryz.ntmps12
  go_wp2_with fail
  refine CA.out.mono ?_
  rintro e w1 ⟨rfl, hb1⟩
  have HB1 := Lib.hid (Below.alloc0 (Below.trans0 HB0.out hb1) (Obj.cells (iC 1 166 11 4 8 132 0 2) 37))
  have HS1 := Lib.hid (Blk.new w1 37 (iC 1 166 11 4 8 132 0 2) (0, 0))
  have HBa := Lib.hid (Below.alloc0 HB1.out (Obj.cells #[.int .u8 32, .int .u8 254] 5))
  have HSa := Lib.hid (Blk.alloc HS1.out (Obj.cells #[.int .u8 32, .int .u8 254] 5))
  clear hb1
  go_wp2_with fail
  refine (CB.out _ _ (by simp)).mono ?_
  rintro e w2 ⟨rfl, hb2⟩
  have HB2 := Lib.hid (Below.alloc0 (Below.trans0 HBa.out hb2) (Obj.cells (iC 1 32 34 6 0 0 65534 2) 37))
  have HS2 := Lib.hid (Blk.alloc (Blk.below HSa.out hb2 HSa.out.lt) (Obj.cells (iC 1 32 34 6 0 0 65534 2) 37))
  have HK2 := Lib.hid (Blk.new w2 37 (iC 1 32 34 6 0 0 65534 2) (0, 0))
  clear hb2
  obtain ⟨c0, c1, c2, c3, c4, c5, c6, c7⟩ := HS2.out.s8
  obtain ⟨d0, d1, d2, d3, d4, d5, d6, d7⟩ := HK2.out.s8
  go_wp2_with fail
  refine (T1.out _ (HDx.out _ HB2.out)).mono ?_
  rintro e w3 ⟨rfl, hb3⟩
  have HB3 := Lib.hid (Below.trans0 HB2.out hb3)
  have HK3 := Lib.hid (Blk.below HK2.out hb3 HK2.out.lt)
  clear hb3 c0 c1 c2 c3 c4 c5 c6 c7 d0 d1 d2 d3 d4 d5 d6 d7
  obtain ⟨d0, d1, d2, d3, d4, d5, d6, d7⟩ := HK3.out.s8
  go_wp2_with fail
  refine (T2.out _ (HDx.out _ HB3.out)).mono ?_
  rintro e w4 ⟨rfl, hb4⟩
  have HB4 := Lib.hid (Below.trans0 HB3.out hb4)
  clear hb4 d0 d1 d2 d3 d4 d5 d6 d7
  go_wp2
  go_ret
  exact ⟨rfl, HB4.out⟩
end Go.Proofs.YtljhfalgplihhaaGreatDoor
