/- Package frame's Bytes: the bytes that are pushed. -/
import Derived.Test.YtfjkbjkbpbnalabDoorRevP
import Derived.Test.YtfjkbjkbpbnalabDoorLstP
import Derived.Test.YtfjkbjkbpbnalabDoorEq
namespace Go.Proofs.YtfjkbjkbpbnalabDoor
open Go.ChangeShapes Go.WideShapes Go.ChangeAt Go.RowKit
set_option linter.unusedVariables false

abbrev enV4 (p t v : Int) (b : Bool) : Array Value := #[.int .u8 p, .int .u8 t, .int .u16 v, .bool b]
def byF (r : Rg) (x : Pt) : Int := byB r (x.1 : Int) x.2
theorem Rg.Ok.withC {r : Rg} (h : r.Ok) {c : Int} (h0 : 0 ≤ c) (h1 : c < 256) : Rg.Ok { r with C := c } :=
  ⟨h.a0, h.a1, h.b0, h.b1, h.d0, h.d1, h0, h1, h.x0, h.x1, h.y0, h.y1, h.u0, h.u1, h.s0, h.s1, h.p0, h.p1⟩
theorem byB_range (r : Rg) (hr : r.Ok) (c : Int) (h : Bool) : 0 ≤ byB r c h ∧ byB r c h < 256 := by
  obtain ⟨a, b⟩ := getR_range r hr c
  unfold byB
  cases h <;> simp <;> omega
theorem map_take_next {α : Type} (f : α → Int) (l : List α) (d : α) (k : Nat) (h : k < l.length) : (l.take (k + 1)).map f = (l.take k).map f ++ [f (l.getD k d)] := by
  rw [List.take_succ_eq_append_getElem h, List.map_append, List.getD_eq_getElem?_getD, List.getElem?_eq_getElem h]; rfl
/-- What a walk reads of parts. -/
theorem Pts.cells_ {e : TypeId} {w : World} {base : Nat} {v : Value} {l : List Pt} (h : Pts e w base v l) : ∃ A cap, v = .slice A l.length cap ∧ (0 < l.length → ∃ g, A = some ⟨g, 0, none⟩ ∧ g < w.heap.size ∧ base ≤ g ∧ ∀ k, k < l.length → w.cell? ⟨g, k * 2, none⟩ = some (.int .i64 ((l.getD k (0, false)).1 : Int)) ∧ w.cell? ⟨g, k * 2 + 1, none⟩ = some (.bool (l.getD k (0, false)).2)) := by
  obtain ⟨A, cap, e1, h2⟩ := h.read
  refine ⟨A, cap, e1, fun h0 => ?_⟩
  obtain ⟨g, cur, rfl, h3, h4, h5, h6⟩ := h2 h0
  refine ⟨g, rfl, h4.lt, h3, fun k hk => ?_⟩
  obtain ⟨a, b⟩ := h6 k hk
  exact ⟨by rw [h4.cell, a], by rw [h4.cell, b]⟩
set_option maxRecDepth 100000 in
set_option maxHeartbeats 1000000 in
theorem frBytes_any (r : Rg) (hr : r.Ok) (pu th ve : Int) (p0 : 0 ≤ pu) (p1 : pu < 256) (wh : Bool) (w : World) (hT : LregAt w) :
    Calls Tryd.prog 13 #[.agg r.cells, .agg (enV4 pu th ve wh)] w fun e w' => ∃ v, e = .returned v ∧ Own .u8 5 w' w.heap.size v ((ordL (frP wh) false).reverse.map (byF { r with C := pu })) ∧ Below w.heap.size w w' := by
  have hr' := hr.withC p0 p1
  have HR' := Lib.hid hr'
  obtain ⟨l, hl⟩ : ∃ l, (ordL (frP wh) false).reverse = l := ⟨_, rfl⟩
  have hlen : 0 < l.length ∧ l.length ≤ 100 := by rw [← hl]; cases wh <;> decide +kernel
  have HLE := Lib.hid hlen
  obtain ⟨n, hn⟩ : ∃ n, l.length = n := ⟨_, rfl⟩
  have HN := Lib.hid hn
  have CP := Lib.hid (fun u h => frParts_any wh u h)
  rw [hl] at CP ⊢
  have B1 := Lib.hid (Below.alloc0 (Below.alloc0 (Below.refl w.heap.size w) (Obj.cells r.cells 24)) (Obj.cells (enV4 pu th ve wh) 26))
  have R1 : Hid (RgAt ((w.alloc (Obj.cells r.cells 24)).alloc (Obj.cells (enV4 pu th ve wh) 26)) w.heap.size 24 r) := Lib.hid (Blk.alloc (Blk.new _ _ _ _) _)
  have E1 : Hid (Blk ((w.alloc (Obj.cells r.cells 24)).alloc (Obj.cells (enV4 pu th ve wh) 26)) (w.heap.size + 1) 26 (enV4 pu th ve wh)) := Lib.hid (Blk.at1 _)
  have HT := Lib.hid hT
  clear hr' hl hlen hn hT hr
  go_enter Tryd.func13, Tryd.ntmps13
  go_upto_region 1 with (fail)
  generalize (w.alloc (Obj.cells r.cells 24)).alloc (Obj.cells (enV4 pu th ve wh) 26) = W1 at B1 R1 E1 ⊢
  have R2 : Hid (RgAt (W1.setCell ⟨w.heap.size, 3, none⟩ (.int .u8 pu)) w.heap.size 24 { r with C := pu }) := Lib.hid (Blk.set_ R1.out 3 (.int .u8 pu))
  have E2 := Lib.hid (Blk.far E1.out (p := ⟨w.heap.size, 3, none⟩) (by simp) (.int .u8 pu))
  have B2 := Lib.hid (Below.set0 B1.out (i := 3) (Nat.le_refl w.heap.size) (.int .u8 pu))
  obtain ⟨⟨e0, e1, e2, e3⟩, -⟩ := E1.out.b4
  obtain ⟨-, -, -, r3, -⟩ := R1.out.cells
  have fr3 := R1.out.frozen 3
  obtain ⟨⟨-, -, -, e23⟩, -⟩ := E2.out.b4
  go_wp2_with fail
  refine (CP.out _ (HT.out.below B2.out)).mono ?_
  rintro e W2 ⟨v, rfl, hp, hb⟩
  have HP := Lib.hid hp
  have B3 := Lib.hid (Below.trans0 B2.out hb)
  have R3 := Lib.hid (RgAt.below R2.out hb R2.out.lt)
  clear hb hp e0 e1 e2 e3 r3 fr3 e23 R1 R2 E1 E2 B1 B2
  obtain ⟨A, cap, rfl, hcells⟩ := HP.out.cells_
  have HCE := Lib.hid hcells
  obtain ⟨x1, x2⟩ := HLE.out
  rw [HN.out] at x1 x2 ⊢
  clear hcells
  obtain ⟨W3, v3, hmk, hown, hgr, hlt3⟩ := make_own8 W2 W2.heap.size n (by omega) (Nat.le_refl _)
  have HO3 := Lib.hid hown
  have B4 : Hid (Below W2.heap.size W2 W3) := Lib.hid (below_own hgr (by intro g e; cases e) (Nat.le_refl _))
  clear hown hgr hlt3
  go_wp2
  clear hmk
  go_loopw [6, 20] (fun u6 u20 wr => ∃ k : Nat, k ≤ n ∧ u20 = .int .i64 k ∧ Hid (Own .u8 5 wr W2.heap.size u6 ((l.take k).map (byF { r with C := pu }))) ∧ Hid (Below W2.heap.size W2 wr)) (fun _ u20 _ => n - (intOf u20).toNat)
  case atStart => exact ⟨0, Nat.zero_le _, rfl, HO3, B4⟩
  case round =>
    obtain ⟨k, hk, rfl, HO, HB⟩ := hrel
    by_cases hlt : k < n
    · obtain ⟨g, rfl, hg, hgb, hc⟩ := HCE.out (by rw [HN.out]; omega)
      obtain ⟨c0, c1⟩ := hc k (by rw [HN.out]; exact hlt)
      have d0 := (HB.out.cell (p := ⟨g, k * 2, none⟩) hg).trans c0
      have d1 := (HB.out.cell (p := ⟨g, k * 2 + 1, none⟩) hg).trans c1
      have HX := Lib.hid (map_take_next (byF { r with C := pu }) l (0, false) k (by rw [HN.out]; exact hlt))
      have HLT : Hid (((l.take k).map (byF { r with C := pu })).length ≤ 100) := Lib.hid (by rw [List.length_map, List.length_take]; omega)
      have R4 := RgAt.below R3.out HB.out R3.out.lt
      obtain ⟨q0, q1, q2, q3, q4, q5, q6, q7, q8⟩ := RgAt.cells R4
      generalize l.getD k (0, false) = x at *
      obtain ⟨xc, xh⟩ := x
      dsimp only at d0 d1
      have R5 : RgAt (wr.alloc (Obj.cells #[.int .i64 (xc : Int), .bool xh] 35)) w.heap.size 24 { r with C := pu } := Blk.alloc R4 _
      obtain ⟨s0, s1, s2, s3, s4, s5, s6, s7, s8⟩ := RgAt.cells R5
      have CB := Lib.hid (fun u => byte_any { r with C := pu } HR'.out (xc : Int) xh u)
      have HV : Hid (byF { r with C := pu } (xc, xh) = byB { r with C := pu } (xc : Int) xh) := Lib.hid rfl
      have t0 : (0 : Int) ≤ k := by omega
      have t1 : (k : Int) < n := by omega
      clear hc c0 c1 R4 R5
      go_wp2_with fail
      refine (CB.out _).mono ?_
      rintro e W5 ⟨rfl, hb⟩
      have HB5 := Lib.hid ((Below.alloc (B := W2.heap.size) HB.out HB.out.size _).trans (hb.mono (by have := HB.out.size; simp; omega)))
      have HO5 := Lib.hid (Own.below (HO.out.alloc _) hb (fun g' e => (HO.out.alloc _ |>.lt g' e).2))
      clear hb q0 q1 q2 q3 q4 q5 q6 q7 q8 s0 s1 s2 s3 s4 s5 s6 s7 s8 d0 d1
      obtain ⟨y, hy⟩ : ∃ y, byB { r with C := pu } (xc : Int) xh = y := ⟨_, rfl⟩
      rw [hy] at HV ⊢
      clear hy
      go_wp2_with (at_builtin; refine wpList_app8 rfl _ (.tmp 24) (.tmp 28) rfl W2.heap.size u6 _ rfl (HO5.out.alloc _) ⟨W5.heap.size, 0, none⟩ 1 1 [y] rfl rfl (cells_lit _ _ _ _ _ rfl _ rfl) (by have := HLT.out; simp at this ⊢; omega) (by have := HB5.out.size; simp; omega) ?_; intro v' w7 hown hbel hgr)
      have HO7 : Hid (Own .u8 5 w7 W2.heap.size v' ((l.take (k + 1)).map (byF { r with C := pu }))) := Lib.hid (by rw [HX.out, HV.out]; exact hown)
      have HB7 := Lib.hid ((Below.alloc (B := W2.heap.size) HB5.out HB5.out.size _).trans hbel)
      clear hown hbel hgr
      go_wp2
      go_roundw
      case rel => exact ⟨k + 1, by omega, by go_num, HO7, HB7⟩
      case measure => simp [intOf]; omega
    · have HR : Hid (Own .u8 5 wr w.heap.size u6 (l.map (byF { r with C := pu }))) := Lib.hid (by
        have := HO.out.more B3.out.size
        rwa [List.take_of_length_le (by rw [HN.out]; omega)] at this)
      have HB9 := Lib.hid (Below.trans B3.out (HB.out.mono B3.out.size))
      go_wp2
      go_ret
      exact ⟨_, rfl, HR.out, HB9.out⟩
end Go.Proofs.YtfjkbjkbpbnalabDoor
