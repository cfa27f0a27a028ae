/- Package prof: Sum. -/
import Derived.Test.YtlgaedhbgkhmeaaPfU
import Derived.Test.YtlgaedhbgkhmeaaStc
import Derived.Sort.OwnSorted
namespace Go.Proofs.Ytlgaedhbgkhmeaa
open Go.ChangeShapes Go.WideShapes Go.ChangeAt Go.RowKit
set_option linter.unusedVariables false
abbrev cellsSp (a t c l : Int) : Array Value := #[.int .u16 a, .int .i64 t, .int .i64 c, .int .i64 l]
theorem set4Sp {w : World} {g : Nat} {t : TypeId} {v0 v1 v2 v3 x0 x1 x2 x3 : Value} (h : Blk w g t #[v0, v1, v2, v3]) : Blk ((((w.setCell ⟨g, 0, none⟩ x0).setCell ⟨g, 1, none⟩ x1).setCell ⟨g, 2, none⟩ x2).setCell ⟨g, 3, none⟩ x3) g t #[x0, x1, x2, x3] := Blk.set_ (Blk.set_ (Blk.set_ (Blk.set_ h 0 x0) 1 x1) 2 x2) 3 x3
theorem below4Sp {w0 w : World} {B g : Nat} (h : Below B w0 w) (hB : B ≤ g) (x0 x1 x2 x3 : Value) : Below B w0 ((((w.setCell ⟨g, 0, none⟩ x0).setCell ⟨g, 1, none⟩ x1).setCell ⟨g, 2, none⟩ x2).setCell ⟨g, 3, none⟩ x3) :=
  Below.set0 (Below.set0 (Below.set0 (Below.set0 h hB x0) hB x1) hB x2) hB x3
theorem grown4Sp (w : World) (g : Nat) (x0 x1 x2 x3 : Value) : w.grownBy ((((w.setCell ⟨g, 0, none⟩ x0).setCell ⟨g, 1, none⟩ x1).setCell ⟨g, 2, none⟩ x2).setCell ⟨g, 3, none⟩ x3) (some g) := by
  have h1 := grown_cell w g 0 x0
  have h2 := grown_cell (w.setCell ⟨g, 0, none⟩ x0) g 1 x1
  have h3 := grown_cell ((w.setCell ⟨g, 0, none⟩ x0).setCell ⟨g, 1, none⟩ x1) g 2 x2
  have h4 := grown_cell (((w.setCell ⟨g, 0, none⟩ x0).setCell ⟨g, 1, none⟩ x1).setCell ⟨g, 2, none⟩ x2) g 3 x3
  exact ((h1.andThen h2 (fun j e => .inr e)).andThen h3 (fun j e => .inr e)).andThen h4 (fun j e => .inr e)
set_option maxRecDepth 100000 in
set_option maxHeartbeats 4000000 in
theorem proSum_any (w : World) (g n : Nat) (ob : Option Nat) (L : List SpN) (h : ProP w g ob n L) (hL : L.length ≤ 60) (hb : ∀ x ∈ L, (0 ≤ x.t ∧ x.t ≤ 1800) ∧ (0 ≤ x.c ∧ x.c ≤ 1800) ∧ (0 ≤ x.l ∧ x.l ≤ 1800)) :
    Calls Try.prog 9 #[.pointer (some ⟨g, 0, none⟩)] w fun e w' => e = .returned (.agg #[.int .u16 0, .int .i64 (sumN L).1, .int .i64 (sumN L).2.1, .int .i64 (sumN L).2.2]) ∧ Below w.heap.size w w' := by
  obtain ⟨s, hs⟩ : ∃ s, w.heap.size = s := ⟨_, rfl⟩
  have hgs : g < s := by rw [← hs]; exact h.lts.1
  have h1 := h.below (Below.alloc0 (Below.alloc0 (Below.refl w.heap.size w) (Obj.cells (cellsSp 0 0 0 0) 35)) (Obj.cells (cellsSp 0 0 0 0) 35))
  have HB := Lib.hid (Below.alloc0 (Below.alloc0 (Below.refl w.heap.size w) (Obj.cells (cellsSp 0 0 0 0) 35)) (Obj.cells (cellsSp 0 0 0 0) 35))
  have K0 := Blk.alloc (Blk.new w 35 (cellsSp 0 0 0 0) (0, 0)) (Obj.cells (cellsSp 0 0 0 0) 35)
  have K1 := Blk.at1 (w := w) (t := 35) (cs := cellsSp 0 0 0 0) (Obj.cells (cellsSp 0 0 0 0) 35)
  have hsz : ((w.alloc (Obj.cells (cellsSp 0 0 0 0) 35)).alloc (Obj.cells (cellsSp 0 0 0 0) 35)).heap.size = s + 2 := by simp [hs]
  rw [hs] at K0 K1 HB
  have HS := Lib.hid hs
  have HN : Hid (∀ met : List SpN, (∀ x ∈ met, x ∈ L) → met.length ≤ 60 → (0 ≤ (sumN met).1 ∧ (sumN met).1 ≤ 108000) ∧ (0 ≤ (sumN met).2.1 ∧ (sumN met).2.1 ≤ 108000) ∧ (0 ≤ (sumN met).2.2 ∧ (sumN met).2.2 ≤ 108000)) := Lib.hid (fun met hm hl => by
    have := sumN_le (fun x hx => hb x (hm x hx))
    omega)
  have HX := Lib.hid hb
  obtain ⟨b1, b2, b3⟩ := h1
  rcases b3 with ⟨d1, rfl, rfl⟩ | ⟨b, D, rfl, d1, d2, d3, d4, d5⟩
  · have c0 : ((w.alloc (Obj.cells (cellsSp 0 0 0 0) 35)).alloc (Obj.cells (cellsSp 0 0 0 0) 35)).cell? ⟨g, 0, none⟩ = some (.map none) := by rw [d1.cell]; rfl
    have hrg := run_range_nilMap (P := Try.prog) ((w.alloc (Obj.cells (cellsSp 0 0 0 0) 35)).alloc (Obj.cells (cellsSp 0 0 0 0) 35)) 25 23 35 Try.underlying25
    have hnx : ∀ ty, (Instr.next (.pointer (some ⟨((w.alloc (Obj.cells (cellsSp 0 0 0 0) 35)).alloc (Obj.cells (cellsSp 0 0 0 0) 35)).heap.size, 0, none⟩)) false ty).run Try.prog (((w.alloc (Obj.cells (cellsSp 0 0 0 0) 35)).alloc (Obj.cells (cellsSp 0 0 0 0) 35)).alloc (.mapIter none 0 #[] 0)) = _ := fun ty => run_next_nilMap _ ty 0 0 #[]
    rw [hsz] at hrg hnx
    have HK1 := Lib.hid (Blk.alloc K1 (.mapIter none 0 #[] 0))
    have HK0 := Lib.hid (Blk.alloc K0 (.mapIter none 0 #[] 0))
    have HB1 := Lib.hid ((HB.out).alloc (by rw [hsz]; omega) (.mapIter none 0 #[] 0))
    clear h b1 b2 d1 hb hsz K0 K1
    go_enter Try.func9, Try.ntmps9
    go_wp2
    go_loopw [] (fun wr => wr = ((w.alloc (Obj.cells (cellsSp 0 0 0 0) 35)).alloc (Obj.cells (cellsSp 0 0 0 0) 35)).alloc (.mapIter none 0 #[] 0)) (fun _ => 0)
    case atStart => rfl
    case round =>
      rw [← hrel] at hnx HK1 HK0 HB1
      clear hrel hrg c0
      obtain ⟨⟨e0, e1, e2, e3⟩, f0, f1, f2, f3⟩ := HK0.out.b4
      obtain ⟨⟨k0, k1, k2, k3⟩, _⟩ := HK1.out.b4
      have HF := Lib.hid (set4Sp (x0 := .int .u16 0) (x1 := .int .i64 0) (x2 := .int .i64 0) (x3 := .int .i64 0) HK0.out)
      have HF2 := Lib.hid (below4Sp HB1.out (Nat.le_refl s) (.int .u16 0) (.int .i64 0) (.int .i64 0) (.int .i64 0))
      go_wp2
      refine bodyPost_ret (v := .agg #[.int .u16 0, .int .i64 0, .int .i64 0, .int .i64 0]) (results_cell_row Try.results9 _ _ s 35 _ (0, 0) _ rfl HF.out Try.underlying35 rfl (by kernel_rfl)) rfl ⟨rfl, by rw [HS.out]; exact HF2.out⟩
  · have hbl : b < s := by rw [← hs]; exact h.lts.2 b rfl
    have c0 : ((w.alloc (Obj.cells (cellsSp 0 0 0 0) 35)).alloc (Obj.cells (cellsSp 0 0 0 0) 35)).cell? ⟨g, 0, none⟩ = some (.map (some b)) := by rw [d1.cell]; rfl
    have HD := Lib.hid d3
    have HL := Lib.hid d4
    have HDs := Lib.hid b2
    have HM := Lib.hid (show Maps.size D ≤ 60 by omega)
    obtain ⟨W1, hW1⟩ : ∃ W1, (w.alloc (Obj.cells (cellsSp 0 0 0 0) 35)).alloc (Obj.cells (cellsSp 0 0 0 0) 35) = W1 := ⟨_, rfl⟩
    rw [hW1] at c0 HD HB K0 K1 hsz
    have HK0 := Lib.hid K0
    have HK1 := Lib.hid K1
    have HZ := Lib.hid hsz
    clear h b1 b2 d1 d2 d3 d4 d5 hb hL K0 K1 hsz
    go_enter Try.func9, Try.ntmps9
    go_upto_region 2 with (fail)
    clear hW1
    go_wp2_with (first
      | (at_range; refine wpList_range_own _ rfl _ 25 rfl 23 35 proLaw Try.underlying25 _ b n D rfl HD.out ?_; intro w0 hrg0 hg0 hs0)
      | go_in)
    go_frame
    rw [HZ.out] at hrg0
    rw [HZ.out]
    go_loopw [5] (fun u5 wr => ∃ (left : Lit → Bool) (cnt : Nat) (met : List SpN), wr.ranges Try.prog 23 spR b (s + 2) n D left cnt ∧ met.length + cnt ≤ Maps.size D ∧ CollS L left met ∧ Hid (Blk wr s 35 (cellsSp 0 0 0 0)) ∧ Hid (Blk wr (s + 1) 35 (cellsSp 0 (sumN met).1 (sumN met).2.1 (sumN met).2.2)) ∧ Hid (Below s w wr) ∧ Hid (s + 3 ≤ wr.heap.size))
      (fun _ wr => wr.rangeLeft b (s + 2))
    case atStart =>
      exact ⟨_, _, [], hrg0, by simp, CollS.start HL.out HDs.out, Lib.hid (HK0.out.grown hg0 (by simp)), Lib.hid (HK1.out.grown hg0 (by simp)), Lib.hid (HB.out.grown hg0 (by rw [HZ.out]; omega) (fun j e => by cases e)), Lib.hid (by rw [hs0, HZ.out]; exact Nat.le_refl _)⟩
    case round =>
      obtain ⟨left, cnt, met, hrg, hcs, hC, hK0, hK1, hB, hS⟩ := hrel
      clear hrg0 hg0 hs0
      go_wp2_with (first
        | (at_next; refine wpList_next_ranges _ rfl _ rfl 23 proLaw spR (Value.int .u16) spV (fun key kl hk => by obtain ⟨x, hx, _⟩ := Maps.keyOf_int_inv Try.underlying23 hk; exact ⟨x, hx⟩) (fun v y hv => by obtain ⟨c, rfl, _⟩ := spR_inv hv; exact ⟨c, rfl⟩) b (s + 2) n _ _ _ rfl hrg ?_ ?_)
        | go_in)
      · intro hc0 hl0
        have hp := Lib.hid (sumN_perm (hC.done HDs.out hl0))
        clear hrg hcs hC hc0 hl0
        obtain ⟨⟨e0, e1, e2, e3⟩, f0, f1, f2, f3⟩ := hK0.out.b4
        obtain ⟨⟨k0, k1, k2, k3⟩, _⟩ := hK1.out.b4
        generalize sumN met = M at *
        obtain ⟨m1, m2, m3⟩ := M
        simp only at *
        have HF := Lib.hid (set4Sp (x0 := .int .u16 0) (x1 := .int .i64 m1) (x2 := .int .i64 m2) (x3 := .int .i64 m3) hK0.out)
        have HF2 := Lib.hid (below4Sp hB.out (Nat.le_refl s) (.int .u16 0) (.int .i64 m1) (.int .i64 m2) (.int .i64 m3))
        go_wp2
        refine bodyPost_ret (v := .agg #[.int .u16 0, .int .i64 m1, .int .i64 m2, .int .i64 m3]) (results_cell_row Try.results9 _ _ s 35 _ (0, 0) _ rfl HF.out Try.underlying35 rfl (by kernel_rfl)) rfl ⟨by rw [← hp.out], by rw [HS.out]; exact HF2.out⟩
      · intro x c kl yd yp w2 cnt2 hkey hlk hv hat hrg2 hlt hg2 hs2 hen
        obtain ⟨x', ex, rfl, _⟩ := Maps.keyOf_int_inv Try.underlying23 hkey
        obtain rfl : x = x' := by injection ex
        obtain rfl : yd = spD c := by rw [spR_mk] at hv; exact (congrArg Prod.fst (Option.some.inj hv)).symm
        obtain ⟨hcL, hC2⟩ := hC.step HL.out HDs.out hlk hat
        have CB := HX.out c hcL
        have hlen : (met ++ [c]).length + cnt2 ≤ Maps.size D := by rw [List.length_append]; simp; omega
        have MB := HN.out met hC.sub (by have := HM.out; omega)
        have SN := Lib.hid (sumN_snoc met c)
        have K0 := hK0.out.grown hg2 (by intro e; injection e with e; omega)
        have K1 := hK1.out.grown hg2 (by intro e; injection e with e; omega)
        have B2 := hB.out.grown hg2 (by have := hB.out.size; have := HS.out; omega) (fun j e => by injection e with e; omega)
        have HRg := Lib.hid hrg
        have HC2 := Lib.hid hC2
        have HLn := Lib.hid hlen
        have HLt := Lib.hid hlt
        obtain ⟨ca, ct, cc, cl⟩ := c
        have HRg2 := Lib.hid (hrg2.alloc (Obj.cells (cellsSp ca ct cc cl) 35))
        have HK0 := Lib.hid (Blk.alloc K0 (Obj.cells (cellsSp ca ct cc cl) 35))
        have HK1 := Lib.hid (Blk.alloc K1 (Obj.cells (cellsSp ca ct cc cl) 35))
        have HB2 := Lib.hid (B2.alloc (by have := hS.out; omega) (Obj.cells (cellsSp ca ct cc cl) 35))
        have HP0 := Blk.new w2 35 (cellsSp ca ct cc cl) (0, 0)
        rw [hs2] at HP0
        have HP := Lib.hid HP0
        have HS2 := Lib.hid (show s + 3 ≤ (w2.alloc (Obj.cells (cellsSp ca ct cc cl) 35)).heap.size by have := hS.out; simp; omega)
        have hn := Lib.hid (show b ≠ s + 1 by omega)
        generalize sumN met = M at *
        obtain ⟨m1, m2, m3⟩ := M
        simp only at *
        have AN := Lib.hid (fun u => spotAnd_any 0 m1 m2 m3 ca ct cc cl u (by omega) (by omega))
        clear hkey hlk hv hat hrg2 hlt hg2 hrg hcs hC hC2 hlen ex CB MB hcL K0 K1 B2 HN HX HP0
        simp only [spV] at hen
        have HRSz := Lib.hid hs2
        go_upto_region 5 with (fail)
        clear hen hs2
        generalize w2.alloc (Obj.cells (cellsSp ca ct cc cl) 35) = W3 at HRg2 HK0 HK1 HB2 HP HS2 ⊢
        obtain ⟨k0, k1, k2, k3⟩ := HK1.out.c4
        obtain ⟨p0, p1, p2, p3⟩ := HP.out.c4
        go_wp2_with fail
        refine (AN.out _).mono ?_
        rintro e W4 ⟨rfl, hb4⟩
        have HB4 := Lib.hid (HB2.out.trans (hb4.mono (by have := HS2.out; omega)))
        have K0 := Lib.hid (HK0.out.below hb4 (by have := HS2.out; omega))
        have K1 := Lib.hid (HK1.out.below hb4 (by have := HS2.out; omega))
        have RG := Lib.hid (HRg2.out.kept (Below.grown0 hb4) (by simp) (by simp))
        have HS4 := Lib.hid (show s + 3 ≤ W4.heap.size by have := HS2.out; have := hb4.size; omega)
        clear hb4 k0 k1 k2 k3 p0 p1 p2 p3
        obtain ⟨⟨k0, k1, k2, k3⟩, f0, f1, f2, f3⟩ := K1.out.b4
        have HG5 := grown4Sp W4 (s + 1) (.int .u16 0) (.int .i64 (m1 + ct)) (.int .i64 (m2 + cc)) (.int .i64 (m3 + cl))
        have K15 := Lib.hid (set4Sp (x0 := .int .u16 0) (x1 := .int .i64 (m1 + ct)) (x2 := .int .i64 (m2 + cc)) (x3 := .int .i64 (m3 + cl)) K1.out)
        have HB5 := Lib.hid (below4Sp HB4.out (by omega : s ≤ s + 1) (.int .u16 0) (.int .i64 (m1 + ct)) (.int .i64 (m2 + cc)) (.int .i64 (m3 + cl)))
        have K05 := Lib.hid (K0.out.grown HG5 (by simp))
        have RG5 := Lib.hid (RG.out.kept HG5 (by intro e; injection e with e; exact hn.out e) (by simp))
        have HS5 := Lib.hid (show s + 3 ≤ ((((W4.setCell ⟨s + 1, 0, none⟩ (.int .u16 0)).setCell ⟨s + 1, 1, none⟩ (.int .i64 (m1 + ct))).setCell ⟨s + 1, 2, none⟩ (.int .i64 (m2 + cc))).setCell ⟨s + 1, 3, none⟩ (.int .i64 (m3 + cl))).heap.size by have := HS4.out; simpa using this)
        clear HG5
        go_wp2
        go_roundw
        case rel => exact ⟨_, cnt2, met ++ [⟨ca, ct, cc, cl⟩], RG5.out, HLn.out, HC2.out, K05, Lib.hid (by rw [SN.out]; exact K15.out), HB5, HS5⟩
        case measure => rw [RG5.out.left_eq, HRg.out.left_eq]; exact HLt.out
end Go.Proofs.Ytlgaedhbgkhmeaa
