/- fast.Decode: the instruction at an address of memory. -/
import Derived.Test.YtljhfalgplihhaaGreatDoorGRam
import Derived.Test.YtljhfalgplihhaaGreatDoorDlN
import Derived.Test.YtljhfalgplihhaaGreatDoorInsP
namespace Go.Proofs.YtljhfalgplihhaaGreatDoor
open Go.ChangeShapes Go.WideShapes Go.ChangeAt Go.RowKit
set_option linter.unusedVariables false

theorem lstF_take (q : Nat → Int) (n k : Nat) (h : k ≤ n) : (lstF q n).take k = lstF q k := by
  unfold lstF
  rw [← List.map_take, List.take_range, Nat.min_eq_left h]
theorem lstF_succ (q : Nat → Int) (n : Nat) : lstF q (n + 1) = lstF q n ++ [q n] := by simp [lstF, List.range_succ]
theorem lstF_wf (q : Nat → Int) (n : Nat) (h : ∀ x, 0 ≤ q x ∧ q x < 256) : ∀ z ∈ lstF q n, (Lit.int .u8 z).wf = true := fun z hz => by
  unfold lstF at hz
  obtain ⟨i, _, rfl⟩ := List.mem_map.1 hz
  have := h i
  simp [Lit.wf, IntKind.min, IntKind.max, IntKind.signed, IntKind.bits]; omega
theorem inAgg_8 (xs : List Int) : ∃ p c o m r b v l : Int, inAgg xs = #[.int .i64 p, .int .u8 c, .int .i64 o, .int .i64 m, .int .i64 r, .int .u8 b, .int .u16 v, .int .i64 l] := by
  unfold inAgg
  split <;> exact ⟨_, _, _, _, _, _, _, _, rfl⟩
theorem res23 (tmps : Array Value) (W : World) (g : Nat) (cs old : Array Value) (h : Blk W g 37 old) (hs : old.size = 8) (hc : cs.size = 8) (h2 : tmps.getD 4 undef = .pointer (some ⟨g, 0, none⟩)) :
    (results Tryz.f23 tmps).run Tryz.prog (W.setRow g cs) = .ok (.agg cs) (W.setRow g cs) := by
  have hi : (Tryz.prog.info? 37).map (·.size) = some cs.size := by rw [hc]; kernel_rfl
  have hld := run_loadVar_row (P := Tryz.prog) (W.setRow g cs) g 37 37 cs (0, 0) _ (setRow_heap W g old cs _ (0, 0) h) Tryz.underlying37 rfl hi
  have h2' : tmps[4]?.getD undef = .pointer (some ⟨g, 0, none⟩) := by simpa using h2
  simp [results, Tryz.results23, h2', asAddr, hld]
set_option maxRecDepth 100000 in
set_option maxHeartbeats 4000000 in
theorem decode_any (m : Nat) (p : Nat → Option Nat) (rom : Int) (f : Nat → Int) (a : Nat) (w : World) (h : Ra w m p rom f) (ha : a < 65536) (hP : PagAt w) (hK : KindsAt w) :
    Calls Tryz.prog 23 #[.int .u16 (a : Int), .iface 28 (.pointer (some ⟨m, 0, none⟩))] w fun e w' => e = .returned (.agg (inAgg (lstF (partF f a) 5))) ∧ Below w.heap.size w w' := by
  have hwf := lstF_wf (partF f a) 5 (fun x => h.byt _)
  have HLe := Lib.hid (inLn_le5 hwf)
  have HNot := Lib.hid (fun k (hk : k < inLn (lstF (partF f a) 5)) => dec_not hk)
  have HYes := Lib.hid (dec_yes (bs := lstF (partF f a) 5) (by rw [lstF_len]; exact HLe.out.2))
  have HTk := Lib.hid (lstF_take (partF f a) 5)
  have HSu := Lib.hid (lstF_succ (partF f a))
  have HWf := Lib.hid (fun k => lstF_wf (partF f a) k (fun x => h.byt _))
  have HR := Lib.hid (fun (k : Nat) (u : World) (hu : Below w.heap.size w u) => busRead_any m p rom f ((a + k) % 65536) u (h.below hu) (by omega))
  have HPg := Lib.hid (fun (u : World) (hu : Below w.heap.size w u) => hP.below hu)
  have HKd := Lib.hid (fun (u : World) (hu : Below w.heap.size w u) => kinds_below hK hu)
  have HAg := Lib.hid (inAgg_8 (lstF (partF f a) 5))
  generalize hG : inAgg (lstF (partF f a) 5) = AG at HAg HYes ⊢
  generalize hL : inLn (lstF (partF f a) 5) = LN at HLe HNot HYes
  have hz1 : (w.alloc (Obj.cells zInst 37)).heap.size = w.heap.size + 1 := by simp
  have HZ := Lib.hid (Blk.new w 37 zInst (0, 0))
  have HB0 := Lib.hid (Below.alloc0 (Below.refl w.heap.size w) (Obj.cells zInst 37))
  obtain ⟨wm, vm, hmk, hown0, hg0, hsz0⟩ := make_own8 (w.alloc (Obj.cells zInst 37)) (w.heap.size + 1) 5 (by omega) (by rw [hz1]; exact Nat.le_refl _)
  have hmk' : (Instr.makeSlice 22 (.int .i64 0) (.int .i64 5)).run Tryz.prog (w.alloc (Obj.cells zInst 37)) = .ok vm wm := hmk
  have hb1 : Below (w.heap.size + 1) (w.alloc (Obj.cells zInst 37)) wm := below_own hg0 (fun g hg => by cases hg) (by rw [hz1]; exact Nat.le_refl _)
  have HB1 := Lib.hid (HB0.out.trans (hb1.mono (by omega)))
  have HZ1 := Lib.hid (Blk.below HZ.out hb1 (by omega))
  have O0 := Lib.hid hown0
  clear hmk hown0 hg0 hb1 HB0 HZ hwf h hP hK
  go_enter Tryz.func23, Tryz.ntmps23
  go_wp2
  clear hmk'
  go_loopw [5] (fun v wr => ∃ k : Nat, k < LN ∧ Hid (Own .u8 5 wr (w.heap.size + 1) v (lstF (partF f a) k)) ∧ Hid (Blk wr w.heap.size 37 zInst) ∧ Below w.heap.size w wr ∧ Hid (w.heap.size + 1 ≤ wr.heap.size)) (fun v _ => 5 - (match v with | .slice _ n _ => n | _ => 0))
  case atStart => exact ⟨0, by have := HLe.out; omega, O0, HZ1, HB1.out, Lib.hid (by omega)⟩
  case round =>
    obtain ⟨k, hk, hown, hz, hbel, hs⟩ := hrel
    have hlt : k < 5 := by have := HLe.out; omega
    obtain ⟨A, c, rfl, hI⟩ := hown.out.ints (HWf.out k)
    have hln : (lstF (partF f a) k).length = k := lstF_len _ _
    rw [hln] at hI hown ⊢
    have hkI : (k : Int) < 5 := by omega
    have wz := Lib.hid (show IntKind.u16.wrap ((a : Int) + (k : Int)) = (((a + k) % 65536 : Nat) : Int) by simp [IntKind.wrap_u16])
    have HW1 := Lib.hid (fun (w1 : World) (hb1 : Below wr.heap.size wr w1) => show Own .u8 5 w1 (w.heap.size + 1) (.slice A k c) (lstF (partF f a) k) ∧ w.heap.size + 1 ≤ w1.heap.size ∧ Below w.heap.size w w1 ∧ Blk w1 w.heap.size 37 zInst from
      ⟨hown.out.below hb1 (fun g hg => (hown.out.lt g hg).2), by have := hb1.size; have := hs.out; omega, Below.trans0 hbel hb1, Blk.below hz.out hb1 (by have := hs.out; omega)⟩)
    go_wp2_with (first
      | (go_at_call 37; rw [wz.out]; refine (HR.out k wr hbel).mono ?_; rintro e w1 ⟨rfl, hb1⟩; have H1 := Lib.hid (HW1.out w1 hb1))
      | (at_builtin; refine wpList_app8 rfl _ (.tmp 12) (.tmp 21) rfl (w.heap.size + 1) _ (lstF (partF f a) k) rfl (H1.out.1.alloc _) ⟨w1.heap.size, 0, none⟩ 1 1 [partF f a k] rfl rfl (cells_lit _ _ _ _ _ rfl _ rfl) (by rw [hln]; simp; omega) (by have := H1.out.2.1; simp; omega) ?_; intro v2 w2 ho2 hb2 hg2))
    have HBz := Lib.hid H1.out.2.2.1
    have HZz := Lib.hid H1.out.2.2.2
    have hs1 := H1.out.2.1
    rw [← HSu.out k] at ho2
    have HO2 := Lib.hid ho2
    have HS2 := Lib.hid (show w.heap.size + 1 ≤ w2.heap.size from by have := hb2.size; simp at this; omega)
    have HZ2 := Lib.hid (Blk.below (Blk.alloc HZz.out _) hb2 (by omega))
    have HB2 := Lib.hid ((Below.alloc0 HBz.out _).trans (hb2.mono (by omega)))
    clear ho2 hb2 hg2 H1 HW1 hown hz hbel hs hb1 hs1 hI
    obtain ⟨A2, c2, rfl, hI2⟩ := HO2.out.ints (HWf.out (k + 1))
    have hln2 : (lstF (partF f a) (k + 1)).length = k + 1 := lstF_len _ _
    rw [hln2] at hI2 HO2 ⊢
    have HO := Lib.hid (ofI_any A2 (k + 1) c2 _ w2 hI2 (by omega) (HPg.out w2 HB2.out) (HKd.out w2 HB2.out))
    by_cases hf : k + 1 = LN
    · have e1 : inAgg (lstF (partF f a) (k + 1)) = AG := by rw [← HTk.out (k + 1) (by omega), hf, HYes.out.2]
      have e2 : inOk (lstF (partF f a) (k + 1)) = true := by rw [← HTk.out (k + 1) (by omega), hf, HYes.out.1]
      rw [e1, e2, if_pos rfl] at HO
      clear e1 e2
      obtain ⟨ap, ac, ao, am, ar, ab, av, al, hag⟩ := HAg.out
      subst hag
      go_upto_region 6 with (go_at_call 38; refine (HO.out).mono ?_; rintro e w3 ⟨rfl, hb3⟩)
      have hs3 := hb3.size
      have HG := Lib.hid (Blk.new w3 37 #[.int .i64 ap, .int .u8 ac, .int .i64 ao, .int .i64 am, .int .i64 ar, .int .u8 ab, .int .u16 av, .int .i64 al] (0, 0))
      have HZ3 := Lib.hid (Blk.alloc (Blk.below HZ2.out hb3 (by have := HS2.out; omega)) (.cells #[.int .i64 ap, .int .u8 ac, .int .i64 ao, .int .i64 am, .int .i64 ar, .int .u8 ab, .int .u16 av, .int .i64 al] 37))
      have HB3 := Lib.hid (Below.alloc0 (Below.trans0 HB2.out hb3) (.cells #[.int .i64 ap, .int .u8 ac, .int .i64 ao, .int .i64 am, .int .i64 ar, .int .u8 ab, .int .u16 av, .int .i64 al] 37))
      generalize w3.alloc (Obj.cells #[.int .i64 ap, .int .u8 ac, .int .i64 ao, .int .i64 am, .int .i64 ar, .int .u8 ab, .int .u16 av, .int .i64 al] 37) = W9 at HG HZ3 HB3 ⊢
      refine wp_region_lit ?_
      refine wpList_load_row rfl 37 _ rfl w3.heap.size rfl 37 _ (0, 0) _ HG.out Tryz.underlying37 rfl (by kernel_rfl) ?_
      refine wpList_store_rowTo rfl 37 _ _ rfl rfl w.heap.size _ rfl rfl 37 zInst HZ3.out (by kernel_rfl) rfl (by simp [Value.oneCell']) ?_
      refine wpList_nil ?_
      simp only [Act.put, List.setIfInBounds_toArray, List.set_cons_zero, List.set_cons_succ]
      refine (‹∀ (a : Act) (w : World), Code.wp Tryz.prog Code.ret _ a w → _›) _ _ ?_
      refine wp_ret ?_
      show bodyPost Tryz.prog Tryz.f23 (fun e w' => e = .returned (.agg #[.int .i64 ap, .int .u8 ac, .int .i64 ao, .int .i64 am, .int .i64 ar, .int .u8 ab, .int .u16 av, .int .i64 al]) ∧ Below w.heap.size w w') .ret _ _
      refine bodyPost_ret (P := Tryz.prog) (fn := Tryz.f23) (v := .agg #[.int .i64 ap, .int .u8 ac, .int .i64 ao, .int .i64 am, .int .i64 ar, .int .u8 ab, .int .u16 av, .int .i64 al]) ?_ rfl ⟨rfl, HB3.out.trans (below_rowI W9 _ _ _ (Nat.le_refl _))⟩
      exact res23 _ W9 w.heap.size _ zInst HZ3.out rfl rfl rfl
    · have hno := HNot.out (k + 1) (by omega)
      rw [HTk.out (k + 1) (by omega)] at hno
      obtain ⟨ap, ac, ao, am, ar, ab, av, al, hag⟩ := inAgg_8 (lstF (partF f a) (k + 1))
      rw [hag, if_neg (by rw [hno]; simp)] at HO
      clear hag hno
      go_wp2_with (go_at_call 38; refine (HO.out).mono ?_; rintro e w3 ⟨rfl, hb3⟩)
      have hs3 := hb3.size
      go_roundw
      case rel =>
        have := HS2.out
        exact ⟨k + 1, by omega, Lib.hid (Own.alloc (HO2.out.below hb3 (fun g hg => (HO2.out.lt g hg).2)) _), Lib.hid (Blk.alloc (Blk.below HZ2.out hb3 (by omega)) _), Below.alloc0 (Below.trans0 HB2.out hb3) _, Lib.hid (by simp; omega)⟩
      case measure => simp; omega
end Go.Proofs.YtljhfalgplihhaaGreatDoor
