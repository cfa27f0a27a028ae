/- Package prof: Top. -/
import Derived.Test.YtlgaedhbgkhmeaaPfW
import Derived.Lib.SliceRun
import Derived.Deep.CutBlock
namespace Go.Proofs.Ytlgaedhbgkhmeaa
open Go.ChangeShapes Go.WideShapes Go.ChangeAt Go.RowKit
set_option linter.unusedVariables false
theorem Els.Rd.windowP {α : Type} {E : Els α} {w : World} {A : Option Addr} {n c : Nat} {l : List α} (h : E.Rd w (.slice A n c) l) (hc : n ≤ c) (f t : Nat) (hf : f ≤ t) (ht : t ≤ n) :
    E.Rd w (sliced A f t c E.k) ((l.drop f).take (t - f)) := by
  rcases h with ⟨e, rfl⟩ | ⟨ad, c', e, hg, hcl⟩
  · injection e with e1 e2 e3
    subst e1 e2 e3
    obtain rfl : t = 0 := by omega
    obtain rfl : f = 0 := by omega
    exact .inl ⟨rfl, rfl⟩
  · injection e with e1 e2 e3
    subst e1 e2 e3
    have hl : ((l.drop f).take (t - f)).length = t - f := by rw [List.length_take, List.length_drop]; omega
    refine .inr ⟨if c = f then ad else ad.add (f * E.k), c - f, ?_, fun h0 => ?_, fun j u hj => ?_⟩
    · unfold sliced; rw [hl]; split <;> simp
    · obtain ⟨g, off, rfl, hlt⟩ := hg (by omega)
      rw [if_neg (by omega)]
      exact ⟨g, off + f * E.k, Els.add_pl _ _ _, hlt⟩
    · have h0 := E.cells_pos hj
      obtain ⟨g, off, rfl, hlt⟩ := hg (by omega)
      rw [if_neg (by omega), Els.add_pl, Els.add_pl]
      obtain ⟨x, h1, h2⟩ := E.cells_inv _ j u hj
      have hjt : j / E.k < t - f := by
        rcases Nat.lt_or_ge (j / E.k) (t - f) with q | q
        · exact q
        · rw [List.getElem?_eq_none (by omega)] at h1; cases h1
      rw [List.getElem?_take_of_lt hjt, List.getElem?_drop] at h1
      have hjm : j % E.k < E.k := Nat.mod_lt _ E.pos
      have := hcl ((f + j / E.k) * E.k + j % E.k) u (by rw [E.cells_at l _ x h1 _ hjm]; exact h2)
      rw [Els.add_pl] at this
      rw [← this]
      congr 2
      rw [Nat.add_mul, Nat.add_assoc, Nat.add_assoc, Nat.mul_comm (j / E.k), Nat.div_add_mod]
theorem slice_hSp (u : World) (A : Option Addr) (n c k : Nat) (h2 : k ≤ c) : (Instr.slice 28 (.slice A n c) none (some (.int .i64 (k : Int))) none).run Try.prog u = .ok (sliced A 0 k c 4) u := by
  have hs : (sizeOf (Try.prog.elem 28)).run Try.prog u = .ok 4 u := by kernel_rfl
  have ht : Try.prog.underlying 28 = some (.slice (Try.prog.elem 28)) := by kernel_rfl
  rw [run_slice_h u 28 A n c ht .i64 (k : Int) (by omega) (by omega), hs]
  rfl
theorem slice_lSp (u : World) (A : Option Addr) (n c f : Nat) (h1 : f ≤ n) (h2 : n ≤ c) : (Instr.slice 28 (.slice A n c) (some (.int .i64 (f : Int))) none none).run Try.prog u = .ok (sliced A f n c 4) u := by
  have hs : (sizeOf (Try.prog.elem 28)).run Try.prog u = .ok 4 u := by kernel_rfl
  have ht : Try.prog.underlying 28 = some (.slice (Try.prog.elem 28)) := by kernel_rfl
  rw [run_slice_l u 28 A n c ht .i64 (f : Int) (by omega) (by omega), hs]
  rfl
theorem sliced_zero (A : Option Addr) (t c k : Nat) : sliced A 0 t c k = .slice A t c := by
  unfold sliced
  cases A with
  | none => simp
  | some ad =>
    obtain ⟨g, off, spot⟩ := ad
    cases spot <;> simp [Addr.add]
/-- So many, at most all. -/
def topK (many : Int) (n : Nat) : Nat := min (max many 0).toNat n
theorem own_cap {α : Type} {E : Els α} {t : TypeId} {w : World} {B : Nat} {v : Value} {l : List α} (h : E.Own t w B v l) : ∃ A c, v = .slice A l.length c ∧ l.length ≤ c := by
  rcases h.2 with ⟨e, hn⟩ | ⟨q, c, _, e, _, _, h5, _⟩
  · exact ⟨none, 0, by rw [hn]; exact e, by omega⟩
  · exact ⟨_, c, e, h5⟩
set_option maxRecDepth 100000 in
set_option maxHeartbeats 4000000 in
theorem proTop_any (w : World) (g n : Nat) (ob : Option Nat) (L : List SpN) (h : ProP w g ob n L) (hL : L.length ≤ 60) (many : Int) :
    Calls Try.prog 11 #[.pointer (some ⟨g, 0, none⟩), .int .i64 many] w fun e w' => ∃ v top, e = .returned v ∧ top.Perm L ∧ OrdN top ∧ eSp.Rd w' v (top.take (topK many L.length)) ∧ Below w.heap.size w w' := by
  have hgl := h.lts
  obtain ⟨b1, b2, b3⟩ := h
  rcases b3 with ⟨d1, rfl, rfl⟩ | ⟨b, D, rfl, d1, d2, d3, d4, d5⟩
  · have c0 : w.cell? ⟨g, 0, none⟩ = some (.map none) := by rw [d1.cell]; rfl
    have hln := Maps.len_nil (w := w) Try.underlying25
    obtain ⟨Z, hmk0, hZ⟩ := made_Sp w 0 (by omega)
    have hmk : (Instr.makeSlice 28 (.int .i64 0) (.int .i64 0)).run Try.prog w = .ok (.slice (some ⟨w.heap.size, 0, none⟩) 0 0) (w.alloc Z) := hmk0
    have c1 : (w.alloc Z).cell? ⟨g, 0, none⟩ = some (.map none) := by rw [(d1.alloc Z).cell]; rfl
    have hrg := run_range_nilMap (P := Try.prog) (w.alloc Z) 25 23 35 Try.underlying25
    have hnx : ∀ ty, (Instr.next (.pointer (some ⟨(w.alloc Z).heap.size, 0, none⟩)) false ty).run Try.prog ((w.alloc Z).alloc (.mapIter none 0 #[] 0)) = _ := fun ty => run_next_nilMap _ ty 0 0 #[]
    have hsz : (w.alloc Z).heap.size = w.heap.size + 1 := by simp
    rw [hsz] at hrg hnx
    clear hsz
    have HO := Lib.hid ((hZ w.heap.size (Nat.le_refl _)).alloc (.mapIter none 0 #[] 0))
    have HB := Lib.hid (Below.alloc0 (Below.alloc0 (Below.refl w.heap.size w) Z) (.mapIter none 0 #[] 0))
    have CS := Lib.hid (sortSp_any _ _ _ _ HO.out (by simp) List.Pairwise.nil)
    have HN := Lib.hid b2
    clear b1 b2 d1 hZ hmk0 hgl
    go_enter Try.func11, Try.ntmps11
    go_wp2
    go_loopw [5, 7] (fun u5 _ wr => u5 = .slice (some ⟨w.heap.size, 0, none⟩) 0 0 ∧ wr = (w.alloc Z).alloc (.mapIter none 0 #[] 0)) (fun _ _ _ => 0)
    case atStart => exact ⟨rfl, rfl⟩
    case round =>
      obtain ⟨rfl, rfl⟩ := hrel
      go_wp2_with fail
      refine CS.out.mono ?_
      rintro e w' ⟨rfl, top, hp, ho, hs, hg⟩
      have HP := Lib.hid hp
      have HOr := Lib.hid ho
      have HS := Lib.hid hs
      have HG := Lib.hid hg
      clear hp ho hs hg
      have ht : top = [] := List.Perm.eq_nil HP.out
      have hz : (min (max many 0) 0).toNat = 0 := by omega
      go_wp2
      go_ret
      refine ⟨_, top, rfl, HP.out, HOr.out, ?_, HB.out.grown HG.out (by have := HB.out.size; omega) (fun j e => by simp [Value.ownBlock] at e; omega)⟩
      rw [ht, List.take_nil]
      rw [ht] at HS
      exact HS.out.rd
  · have c0 : w.cell? ⟨g, 0, none⟩ = some (.map (some b)) := by rw [d1.cell]; rfl
    have hbl := d3.lt
    have HM := Lib.hid (show Maps.size D ≤ 60 by omega)
    have HL := Lib.hid d4
    have HDs := Lib.hid b2
    obtain ⟨Z, hmk, hZ⟩ := made_Sp w (Maps.size D) (by omega)
    have c1 : (w.alloc Z).cell? ⟨g, 0, none⟩ = some (.map (some b)) := by rw [(d1.alloc Z).cell]; rfl
    have HO := Lib.hid (hZ w.heap.size (Nat.le_refl _))
    have HB := Lib.hid (Below.alloc0 (Below.refl w.heap.size w) Z)
    have HD := Lib.hid d3
    have HD1 := Lib.hid (d3.kept (World.grownBy_alloc w Z none) (by simp))
    obtain ⟨W1, hW1⟩ : ∃ W1, w.alloc Z = W1 := ⟨_, rfl⟩
    rw [hW1] at hmk c1 HO HB HD1
    have HW1 : Hid (W1.heap.size = w.heap.size + 1) := Lib.hid (by rw [← hW1]; simp)
    clear b1 b2 d1 d2 d3 d4 hZ hW1 hgl
    have HSz := Lib.hid d5
    clear d5
    go_enter Try.func11, Try.ntmps11
    go_wp2_with (first
      | (at_len; refine wpList_len_own _ rfl _ 25 rfl 23 35 Try.underlying25 _ b n D rfl HD.out ?_)
      | (at_range; refine wpList_range_own _ rfl _ 25 rfl 23 35 proLaw Try.underlying25 _ b n D rfl HD1.out ?_; intro w0 hrg0 hg0 hs0)
      | go_in)
    go_frame
    go_loopw [5, 7] (fun u5 _ wr => ∃ (left : Lit → Bool) (cnt : Nat) (met : List SpN), wr.ranges Try.prog 23 spR b W1.heap.size n D left cnt ∧ met.length + cnt ≤ Maps.size D ∧
        eSp.Own 35 wr w.heap.size u5 met ∧ CollS L left met ∧ Below w.heap.size w wr)
      (fun _ _ wr => wr.rangeLeft b W1.heap.size)
    case atStart =>
      exact ⟨_, _, [], hrg0, by simp, HO.out.grown hg0 (Or.inr (by simp [Value.ownBlock])), CollS.start HL.out HDs.out, HB.out.grown hg0 HB.out.size (fun j e => by cases e)⟩
    case round =>
      obtain ⟨left, cnt, met, hrg, hcs, hrow, hC, hbel⟩ := hrel
      clear hrg0 hg0 hs0
      have hne := row_ne_iter hrow hrg
      go_wp2_with (first
        | (at_next; refine wpList_next_ranges _ rfl _ rfl 23 proLaw spR (Value.int .u16) spV (fun key kl hk => by obtain ⟨x, hx, _⟩ := Maps.keyOf_int_inv Try.underlying23 hk; exact ⟨x, hx⟩) (fun v y hv => by obtain ⟨c, rfl, _⟩ := spR_inv hv; exact ⟨c, rfl⟩) b W1.heap.size n _ _ _ rfl hrg ?_ ?_)
        | go_in)
      · intro hc0 hl0
        have hp0 := hC.done HDs.out hl0
        have CS := Lib.hid (sortSp_any _ _ _ _ hrow (by have := HM.out; omega) hC.1)
        have HBe := Lib.hid hbel
        have HLt := Lib.hid hrow.lt
        obtain ⟨A, c, hv, hcc⟩ := own_cap hrow
        have HPe := Lib.hid hp0
        have HlenL := Lib.hid hp0.length_eq
        obtain ⟨N, hN⟩ : ∃ N, met.length = N := ⟨_, rfl⟩
        rw [hN] at hv hcc HlenL
        have HNN := Lib.hid hN
        subst hv
        have hsl := fun u => slice_hSp u A N c (topK many N) (by unfold topK; omega)
        rw [show ((topK many N : Nat) : Int) = min (max many 0) (N : Int) by unfold topK; omega] at hsl
        have hcap := Lib.hid hcc
        clear hrg hcs hrow hC hbel hne hc0 hl0 hp0 hN hcc
        go_wp2_with fail
        refine CS.out.mono ?_
        rintro e w' ⟨rfl, top, hp, ho, hs, hg⟩
        have HP := Lib.hid (hp.trans HPe.out)
        have HT := Lib.hid (hp.length_eq.trans HNN.out)
        have HOr := Lib.hid ho
        have HS := Lib.hid hs
        have HG := Lib.hid hg
        clear hp ho hs hg
        go_wp2
        go_ret
        refine ⟨_, top, rfl, HP.out, HOr.out, ?_, HBe.out.grown HG.out HBe.out.size (fun j e => (HLt.out j e).1)⟩
        have hr := Els.Rd.windowP HS.out.rd hcap.out 0 (topK many N) (Nat.zero_le _) (by unfold topK; omega)
        rw [List.drop_zero, Nat.sub_zero] at hr
        rw [← HlenL.out]
        have e0 : sliced A 0 (topK many N) c eSp.k = .slice A (topK many N) c := sliced_zero _ _ _ _
        rw [e0] at hr
        exact hr
      · intro x c kl yd yp w2 cnt2 hkey hlk hv hat hrg2 hlt hg2 hs2 hen
        obtain ⟨x', ex, rfl, _⟩ := Maps.keyOf_int_inv Try.underlying23 hkey
        obtain rfl : x = x' := by injection ex
        obtain rfl : yd = spD c := by rw [spR_mk] at hv; exact (congrArg Prod.fst (Option.some.inj hv)).symm
        obtain ⟨hcL, hC2⟩ := hC.step HL.out HDs.out hlk hat
        have hrow2 := hrow.grown hg2 (Or.inr hne.symm)
        have HRow := Lib.hid hrow2
        have RN1 := Lib.hid (row_ne_low hrow2 hbl)
        have RN2 := Lib.hid (row_ne_iter hrow2 hrg2)
        have HRg := Lib.hid hrg
        have HRg2 := Lib.hid hrg2
        have HLt := Lib.hid hlt
        have HC := Lib.hid hC2
        have HLn := Lib.hid (show (met ++ [c]).length + cnt2 ≤ Maps.size D by simp; omega)
        have HBe := Lib.hid (hbel.grown hg2 hbel.size (fun j e => by injection e with e; subst e; exact HB.out.size))
        have HSs := Lib.hid (show met.length ≤ 60 by have := HM.out; omega)
        have HB2 := Lib.hid (show w.heap.size ≤ w2.heap.size from HBe.out.size)
        obtain ⟨ca, ct, cc, cl⟩ := c
        have HQ0 := Blk.new w2 35 (cellsSp ca ct cc cl) (0, 0)
        rw [hs2] at HQ0
        have HQ := Lib.hid HQ0
        simp only [spV] at hen
        clear hkey hlk hv hat hrg2 hlt hg2 hrg hcs hrow hC hC2 hbel hne ex hrow2 hcL HQ0
        go_upto_region 5 with (fail)
        have HRow3 := Lib.hid (HRow.out.alloc (Obj.cells (cellsSp ca ct cc cl) 35))
        have HRg3 := Lib.hid (HRg2.out.alloc (Obj.cells (cellsSp ca ct cc cl) 35))
        have HBe3 := Lib.hid (Below.alloc0 HBe.out (Obj.cells (cellsSp ca ct cc cl) 35))
        clear hen hs2
        generalize w2.alloc (Obj.cells (cellsSp ca ct cc cl) 35) = W3 at HRow3 HRg3 HBe3 HQ ⊢
        obtain ⟨p0, p1, p2, p3⟩ := HQ.out.c4
        go_wp2_with (at_builtin; refine wpList_appSp rfl _ _ _ rfl w.heap.size u5 _ met [⟨ca, ct, cc, cl⟩] rfl (Els.Own.alloc HRow3.out _) rfl (Els.Rd.lit (E := eSp) W3 35 [⟨ca, ct, cc, cl⟩] _ 1 rfl rfl 1) (by have := HSs.out; simp; omega) (by have := HBe3.out.size; simp; omega) ?_)
        intro v3 w3 h3 hb3 hg3 ho3
        have H3 := Lib.hid h3
        have HB3 := Lib.hid ((Below.alloc0 HBe3.out _).trans hb3)
        have hrg3 := (HRg3.out.alloc (Obj.cells (cellsSp ca ct cc cl) 35)).kept hg3 RN1.out RN2.out
        have HRg4 := Lib.hid hrg3
        clear h3 hb3 hg3 ho3 hrg3
        go_wp2
        go_roundw
        case rel => exact ⟨_, cnt2, met ++ [⟨ca, ct, cc, cl⟩], HRg4.out, HLn.out, H3.out, HC.out, HB3.out⟩
        case measure => rw [HRg4.out.left_eq, HRg.out.left_eq]; exact HLt.out
end Go.Proofs.Ytlgaedhbgkhmeaa
