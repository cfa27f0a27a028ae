/- Records: contracts of record.of, (levels).rec, record.Text, and of the law's own text. -/
import Derived.Test.YtpleboogijgdcaaStc
import Derived.Test.YtpleboogijgdcaaRws
import Derived.Test.YtpleboogijgdcaaRec
import Derived.Test.YtpleboogijgdcaaDigNums
import Derived.Test.YtpleboogijgdcaaDigPairs
import Derived.Test.YtpleboogijgdcaaDigLaw
import Derived.Test.YtpleboogijgdcaaEq
import Derived.OrdersHeld
import Derived.Deep.RegionHeld3
import Derived.Lib.SlBytesConst
import Derived.Deep.DeepCutAuto
import Derived.Deep.CutRange
import Derived.Deep.CutBlock
namespace Go.Proofs.Ytpleboogijgdcaa
open Go.ChangeShapes Go.WideShapes Go.ChangeAt Go.RowKit
set_option linter.unusedVariables false

/-- The five letters, of which the first k are told already. -/
def lnL (x : Rc) (k : Nat) : List Int :=
  [if 0 < k ∧ x.b1 = false then 45 else 65, if 1 < k ∧ x.b2 = false then 45 else 83, if 2 < k ∧ x.b3 = false then 45 else 76, if 3 < k ∧ x.b4 = false then 45 else 86, if 4 < k ∧ x.b5 = false then 45 else 66]
noncomputable def adN (x : Rc) : List Int := written 16 x.a 4
def daN (x : Rc) : List Int := pairsOf [x.d]
/-- A record as a text. -/
noncomputable def txN (x : Rc) : List Int := adN x ++ ([32] ++ (daN x ++ ([32] ++ ([if x.r then 82 else 87] ++ ([32] ++ (lnL x 5 ++ ([32] ++ [if x.m then 77 else 45])))))))
theorem need4 (x : Rc) (h : x.Ok) : adN x = digitsTo 16 x.a 4 ∧ written 16 x.d 2 = daN x := by
  obtain ⟨a0, a1, d0, d1⟩ := h
  have q4 : qv 16 x.a 4 = 0 := qv_small 16 x.a 4 a0 (by omega)
  have q2 : qv 16 x.d 2 = 0 := qv_small 16 x.d 2 d0 (by omega)
  refine ⟨written_eq (by decide) ⟨Nat.le_refl _, q4, .inl rfl⟩, ?_⟩
  rw [written_eq (m := 2) (by decide) ⟨Nat.le_refl _, q2, .inl rfl⟩]
  unfold daN
  simp only [digitsTo, pairsOf]
  simp [List.range_succ, qv]
  have e1 : x.d / 16 % 16 = x.d / 16 := by omega
  rw [e1]
theorem size_strOf (l : List Int) : (strOfNums l).size = l.length := by
  unfold strOfNums; simp [ByteArray.size]
theorem adN_size (x : Rc) (h : x.Ok) : (strOfNums (adN x)).size = 4 := by rw [size_strOf, (need4 x h).1, digitsTo_len]
theorem daN_size (x : Rc) : (strOfNums (daN x)).size = 2 := by rw [size_strOf]; rfl
theorem rcOf_any (x : Rc) (w : World) :
    Calls Try.prog 34 #[.agg x.cells] w fun e w' => e = .returned (.agg x.lv) ∧ Below w.heap.size w w' := by
  go_enter Try.func34, Try.ntmps34
  go_wp2
  refine bodyPost_ret (v := .agg x.lv) (by simp [results, Try.results34, go_sem]) rfl ⟨rfl, by repeat (first | exact Below.refl _ _ | apply Below.alloc0)⟩
theorem Ints.newD (w : World) (x : Int) (hx : (Lit.int .u8 x).wf = true) (t : TypeId) : Ints .u8 (w.alloc (.cells #[.int .u8 x] t)) (w.alloc (.cells #[.int .u8 x] t)).heap.size (some ⟨w.heap.size, 0, none⟩) 1 [x] := by
  have := Ints.new1 (k := .u8) (w := w) (t := t) rfl hx
  rw [show w.heap.size + 1 = (w.alloc (.cells #[.int .u8 x] t)).heap.size by simp] at this
  exact this
theorem lnA_set (x : Rc) (k : Nat) (hk : k < 5) (h : (if k = 0 then x.b1 else if k = 1 then x.b2 else if k = 2 then x.b3 else if k = 3 then x.b4 else x.b5) = false) :
    (((lnL x k).map (Value.int .u8)).toArray).setIfInBounds k (.int .u8 45) = ((lnL x (k + 1)).map (Value.int .u8)).toArray := by
  rcases (show k = 0 ∨ k = 1 ∨ k = 2 ∨ k = 3 ∨ k = 4 by omega) with rfl | rfl | rfl | rfl | rfl <;> simp at h <;> simp [lnL, h]
theorem lnA_same (x : Rc) (k : Nat) (hk : k < 5) (h : (if k = 0 then x.b1 else if k = 1 then x.b2 else if k = 2 then x.b3 else if k = 3 then x.b4 else x.b5) = true) : lnL x (k + 1) = lnL x k := by
  rcases (show k = 0 ∨ k = 1 ∨ k = 2 ∨ k = 3 ∨ k = 4 by omega) with rfl | rfl | rfl | rfl | rfl <;> simp at h <;> simp [lnL, h]
theorem lnL_at (x : Rc) (k i : Nat) (hi : i < 5) : ∃ v, (((lnL x k).map (Value.int .u8)).toArray)[i]? = some (.int .u8 v) := by
  rcases (show i = 0 ∨ i = 1 ∨ i = 2 ∨ i = 3 ∨ i = 4 by omega) with rfl | rfl | rfl | rfl | rfl <;> exact ⟨_, rfl⟩
theorem lnL_wf (x : Rc) (k : Nat) : ∀ z ∈ lnL x k, (Lit.int .u8 z).wf = true := by
  intro z hz
  simp only [lnL, List.mem_cons, List.not_mem_nil, or_false] at hz
  rcases hz with rfl | rfl | rfl | rfl | rfl <;> (split <;> decide)
theorem tx_join (A D L : List Int) (p q : Int) : ((((((((strOfNums A ++ strOfNums [32]) ++ strOfNums D) ++ strOfNums [32]) ++ strOfNums [p]) ++ strOfNums [32]) ++ strOfNums L) ++ strOfNums [32]) ++ strOfNums [q]) = strOfNums (A ++ ([32] ++ (D ++ ([32] ++ ([p] ++ ([32] ++ (L ++ ([32] ++ [q])))))))) := by
  simp only [strOf_append, List.append_assoc]
set_option maxRecDepth 100000 in
set_option maxHeartbeats 2000000 in
theorem rcText_00 (x : Rc) (hx : x.Ok) (hr : x.r = false) (hm : x.m = false) (w : World) :
    Calls Try.prog 12 #[.agg x.cells] w fun e w' => e = .returned (.string (strOfNums (txN x))) ∧ Below w.heap.size w w' := by
  have CO := Lib.hid (fun w => rcOf_any x w)
  have P0 : Hid (Blk (w.alloc (Obj.cells x.cells 26)) w.heap.size 26 x.cells) := Lib.hid (Blk.new _ _ _ (0, 0))
  have B0 := Lib.hid (Below.alloc0 (Below.refl w.heap.size w) (Obj.cells x.cells 26))
  have CH0 := fun u => hex_any x.a 4 u hx.a0 (by have := hx.a1; omega)
  rw [show clampW 4 = 4 from rfl] at CH0
  have CP0 := fun (A : Option Addr) (n c : Nat) u (h : Ints .u8 u u.heap.size A n [x.d]) (hn : n ≤ 1099511627) => pairs_any A n c [x.d] u h hn
  have sz1 := adN_size x hx
  have sz2 := daN_size x
  have szL : (strOfNums (lnL x 5)).size = 5 := by rw [size_strOf]; rfl
  obtain ⟨s1, h1⟩ : ∃ s, strOfNums (written 16 x.a 4) = s := ⟨_, rfl⟩
  obtain ⟨s2, h2⟩ : ∃ s, strOfNums (pairsOf [x.d]) = s := ⟨_, rfl⟩
  obtain ⟨SL, h3⟩ : ∃ s, strOfNums (lnL x 5) = s := ⟨_, rfl⟩
  rw [h1] at CH0
  rw [h2] at CP0
  rw [show strOfNums (adN x) = s1 from h1] at sz1
  rw [show strOfNums (daN x) = s2 from h2] at sz2
  rw [h3] at szL
  have CH := Lib.hid CH0
  have CP := Lib.hid CP0
  have HT : Hid (strOfNums (txN x) = (((((((s1 ++ strOfNums [32]) ++ s2) ++ strOfNums [32]) ++ strOfNums [87]) ++ strOfNums [32]) ++ SL) ++ strOfNums [32]) ++ strOfNums [45]) := Lib.hid (by
    rw [← h1, ← h2, ← h3, tx_join]
    unfold txN adN daN
    rw [hr, hm]
    rfl)
  have H3 := Lib.hid h3
  have w0 : (Lit.int .u8 x.d).wf = true := by have a := hx.d0; have b := hx.d1; simp [Lit.wf, IntKind.min, IntKind.max, IntKind.signed, IntKind.bits]; omega
  have ta : IntKind.u64.wrap x.a = x.a := by have a := hx.a0; have b := hx.a1; rw [IntKind.wrap_u64]; omega
  have WF := Lib.hid w0
  have Z1 := Lib.hid sz1
  have Z2 := Lib.hid sz2
  have ZL := Lib.hid szL
  have TA := Lib.hid ta
  have HR := Lib.hid hr
  have HM := Lib.hid hm
  clear CH0 CP0 sz1 sz2 szL h1 h2 h3 hx w0 ta hr hm
  go_enter Try.func12, Try.ntmps12
  go_wp2_with fail
  refine (CO.out _).mono ?_
  rintro e w1 ⟨rfl, hb⟩
  have P1 := Lib.hid (Blk.alloc (Blk.alloc (Blk.below P0.out hb P0.out.lt) (Obj.cells x.lv 71)) (Obj.cells #[.int .u8 65, .int .u8 83, .int .u8 76, .int .u8 86, .int .u8 66] 5 (5, 6)))
  have Q1 : Hid (Blk ((w1.alloc (Obj.cells x.lv 71)).alloc (Obj.cells #[.int .u8 65, .int .u8 83, .int .u8 76, .int .u8 86, .int .u8 66] 5 (5, 6))) w1.heap.size 71 x.lv) := Lib.hid (Blk.alloc (Blk.new _ _ _ (0, 0)) _)
  have L1 : Hid (Blk ((w1.alloc (Obj.cells x.lv 71)).alloc (Obj.cells #[.int .u8 65, .int .u8 83, .int .u8 76, .int .u8 86, .int .u8 66] 5 (5, 6))) (w1.heap.size + 1) 5 (((lnL x 0).map (Value.int .u8)).toArray) (5, 6)) := Lib.hid (by
    have := Blk.new (w1.alloc (Obj.cells x.lv 71)) 5 #[.int .u8 65, .int .u8 83, .int .u8 76, .int .u8 86, .int .u8 66] (5, 6)
    rw [show (w1.alloc (Obj.cells x.lv 71)).heap.size = w1.heap.size + 1 by simp] at this
    exact this)
  have B1 := Lib.hid (Below.alloc0 (Below.alloc0 (Below.trans0 B0.out hb) (Obj.cells x.lv 71)) (Obj.cells #[.int .u8 65, .int .u8 83, .int .u8 76, .int .u8 86, .int .u8 66] 5 (5, 6)))
  have LT := Lib.hid (show w.heap.size < w1.heap.size from Nat.lt_of_lt_of_le (by simp) hb.size)
  have P2 := Lib.hid (Blk.alloc (Blk.below P0.out hb P0.out.lt) (Obj.cells x.lv 71))
  obtain ⟨x0, x1, x2, x3, x4, x5, x6, x7, x8⟩ := Blk.c9 P2.out
  rw [HR.out] at x2
  rw [HM.out] at x8
  have hcv : (convert 61 61 (.slice (some ⟨w1.heap.size + 1, 0, none⟩) 5 5)).run Try.prog ((w1.alloc (Obj.cells x.lv 71)).alloc (Obj.cells #[.int .u8 65, .int .u8 83, .int .u8 76, .int .u8 86, .int .u8 66] 5)) = .ok (.slice (some ⟨w1.heap.size + 1, 0, none⟩) 5 5) ((w1.alloc (Obj.cells x.lv 71)).alloc (Obj.cells #[.int .u8 65, .int .u8 83, .int .u8 76, .int .u8 86, .int .u8 66] 5 (5, 6))) := by
    have := Lib.run_convert_bytes_const (P := Try.prog) (w1.alloc (Obj.cells x.lv 71)) 61 5 #[.int .u8 65, .int .u8 83, .int .u8 76, .int .u8 86, .int .u8 66] 5 5 Try.underlying61 Try.underlying5
    rw [show (w1.alloc (Obj.cells x.lv 71)).heap.size = w1.heap.size + 1 by simp] at this
    exact this
  rw [show x.lv = #[.bool x.r, .bool x.b1, .bool x.b2, .bool x.b3, .bool x.b4, .bool x.b5, .bool x.m] from rfl] at hcv
  clear hb P0 B0 CO
  go_wp2
  clear x0 x1 x2 x3 x4 x5 x6 x7 x8 P2 hcv
  go_loopw [18] (fun i wr => ∃ k : Nat, k ≤ 5 ∧ i = .int .i64 k ∧ Hid (Blk wr (w1.heap.size + 1) 5 (((lnL x k).map (Value.int .u8)).toArray) (5, 6)) ∧ Hid (Blk wr w1.heap.size 71 x.lv) ∧ Hid (Blk wr w.heap.size 26 x.cells) ∧ Hid (Below w.heap.size w wr)) (fun i _ => 5 - (intOf i).toNat)
  case atStart => exact ⟨0, by decide, rfl, L1, Q1, P1, B1⟩
  case round =>
    obtain ⟨k, hk, rfl, hL, hQ, hP, hB⟩ := hrel
    by_cases hlt : k < 5
    · obtain ⟨v, hv⟩ := lnL_at x k k hlt
      have cl : wr.cell? ⟨w1.heap.size + 1, k, none⟩ = some (.int .u8 v) := by rw [hL.out.cell]; exact hv
      have cf : wr.frozen? ⟨w1.heap.size + 1, k, none⟩ = false := Blk.frozen' hL.out k (by omega)
      obtain ⟨bt, hbt⟩ : ∃ bt, (if k = 0 then x.b1 else if k = 1 then x.b2 else if k = 2 then x.b3 else if k = 3 then x.b4 else x.b5) = bt := ⟨_, rfl⟩
      have cb : wr.cell? ⟨w1.heap.size, 1 + k, none⟩ = some (.bool bt) := by
        rw [hQ.out.cell, ← hbt]
        rcases (show k = 0 ∨ k = 1 ∨ k = 2 ∨ k = 3 ∨ k = 4 by omega) with rfl | rfl | rfl | rfl | rfl <;> rfl
      have hk0 : (0 : Int) ≤ k := by omega
      have hk5 : (k : Int) < 5 := by omega
      have HL := Lib.hid hlt
      clear hv
      cases bt
      · have HS := Lib.hid (lnA_set x k hlt hbt)
        clear hbt
        go_wp2
        go_roundw
        case rel => exact ⟨k + 1, by omega, by go_num, Lib.hid (by rw [← HS.out]; exact Blk.set_ hL.out k _), Lib.hid (Blk.far hQ.out (by simp) _), Lib.hid (Blk.far hP.out (by have := LT.out; simp; omega) _), Lib.hid (Below.set0 hB.out (by have := LT.out; omega) _)⟩
        case measure => simp [intOf]; omega
      · have HS := Lib.hid (lnA_same x k hlt hbt)
        clear hbt
        go_wp2
        go_roundw
        case rel => exact ⟨k + 1, by omega, by go_num, by rw [HS.out]; exact hL, hQ, hP, hB⟩
        case measure => simp [intOf]; omega
    · obtain rfl : k = 5 := by omega
      obtain ⟨V, hV⟩ : ∃ V, V = wr := ⟨_, rfl⟩
      have HSS : Hid (∀ u : World, Below wr.heap.size wr u → (fun w' => (w'.cell? ⟨w.heap.size, 0, none⟩ = some (.int .u16 x.a) ∧ w'.cell? ⟨w.heap.size, 1, none⟩ = some (.int .u8 x.d)) ∧ (convert 61 9 (.slice (some ⟨w1.heap.size + 1, 0, none⟩) 5 5)).run Try.prog w' = .ok (.string SL) w') u) := Lib.hid (fun u hb => ⟨⟨by rw [(Blk.below hP.out hb hP.out.lt).cell]; rfl, by rw [(Blk.below hP.out hb hP.out.lt).cell]; rfl⟩, by
        rw [← H3.out]
        exact bytes_at' u (w1.heap.size + 1) 0 5 5 (lnL x 5) rfl (fun i hi => by
          rw [Nat.zero_add, (Blk.below hL.out hb hL.out.lt).cell, List.getElem?_toArray, List.getElem?_map, List.getElem?_eq_getElem (show i < (lnL x 5).length from hi), iat_eq _ _ (show i < (lnL x 5).length from hi)]
          rfl)⟩)
      have S0 : Hid ((fun w' => (w'.cell? ⟨w.heap.size, 0, none⟩ = some (.int .u16 x.a) ∧ w'.cell? ⟨w.heap.size, 1, none⟩ = some (.int .u8 x.d)) ∧ (convert 61 9 (.slice (some ⟨w1.heap.size + 1, 0, none⟩) 5 5)).run Try.prog w' = .ok (.string SL) w') wr.drew) := Lib.hid (HSS.out _ (Below.drew0 (Below.refl _ _)))
      have ta := TA.out
      have sz1 := Z1.out
      have sz2 := Z2.out
      have szL := ZL.out
      clear hV V
      go_upto_region 14 with (fail)
      refine wp_region_noPanic ?_
      refine wp_region_held_drew (S := (fun w' => (w'.cell? ⟨w.heap.size, 0, none⟩ = some (.int .u16 x.a) ∧ w'.cell? ⟨w.heap.size, 1, none⟩ = some (.int .u8 x.d)) ∧ (convert 61 9 (.slice (some ⟨w1.heap.size + 1, 0, none⟩) 5 5)).run Try.prog w' = .ok (.string SL) w')) (by kernel_rfl) ?_ (fun hH0 => ?_)
      · (try dsimp only); with_reducible exact S0.out
      refine wpAnyH_take (i := 0) (oi := ({ dst := some 30, op := Op.fieldAddr 26 (Operand.tmp 1) 0, type := 0, pos := "record.go:82", after := #[], guard := none } : Oper)) (v := ?_) rfl (by kernel_rfl) (by kernel_rfl) (by kernel_rfl) (fun _ _ _ h => h) (Or.inl ⟨by rfl, ?_⟩) (by assumption) ?_
      rotate_left 1
      · (intro w hSw; (try dsimp only at hSw); go_simp; (try with_reducible rfl))
      (try simp only [Act.put, List.setIfInBounds_toArray, List.set_cons_zero, List.set_cons_succ])
      refine wpAnyH_take (i := 1) (oi := ({ dst := some 31, op := Op.load 24 (Operand.tmp 30), type := 24, pos := "record.go:82", after := #[{ on := 0, ground := Ground.data }], guard := none } : Oper)) (v := ?_) rfl (by kernel_rfl) (by kernel_rfl) (by kernel_rfl) (fun _ _ _ h => h) (Or.inl ⟨by rfl, ?_⟩) (by assumption) ?_
      rotate_left 1
      · (intro w hSw; (try dsimp only at hSw); go_simp; (try with_reducible rfl))
      (try simp only [Act.put, List.setIfInBounds_toArray, List.set_cons_zero, List.set_cons_succ])
      refine wpAnyH_take (i := 2) (oi := ({ dst := some 32, op := Op.convert 24 33 (Operand.tmp 31), type := 33, pos := "record.go:82", after := #[{ on := 1, ground := Ground.data }], guard := none } : Oper)) (v := ?_) rfl (by kernel_rfl) (by kernel_rfl) (by kernel_rfl) (fun _ _ _ h => h) (Or.inl ⟨by rfl, ?_⟩) (by assumption) ?_
      rotate_left 1
      · (intro w hSw; (try dsimp only at hSw); go_simp; (try with_reducible rfl))
      (try simp only [Act.put, List.setIfInBounds_toArray, List.set_cons_zero, List.set_cons_succ])
      refine wpAnyH_take (i := 5) (oi := ({ dst := some 35, op := Op.fieldAddr 26 (Operand.tmp 1) 1, type := 0, pos := "record.go:82", after := #[], guard := none } : Oper)) (v := ?_) rfl (by kernel_rfl) (by kernel_rfl) (by kernel_rfl) (fun _ _ _ h => h) (Or.inl ⟨by rfl, ?_⟩) (by assumption) ?_
      rotate_left 1
      · (intro w hSw; (try dsimp only at hSw); go_simp; (try with_reducible rfl))
      (try simp only [Act.put, List.setIfInBounds_toArray, List.set_cons_zero, List.set_cons_succ])
      refine wpAnyH_take (i := 6) (oi := ({ dst := some 36, op := Op.load 5 (Operand.tmp 35), type := 5, pos := "record.go:82", after := #[{ on := 5, ground := Ground.data }], guard := none } : Oper)) (v := ?_) rfl (by kernel_rfl) (by kernel_rfl) (by kernel_rfl) (fun _ _ _ h => h) (Or.inl ⟨by rfl, ?_⟩) (by assumption) ?_
      rotate_left 1
      · (intro w hSw; (try dsimp only at hSw); go_simp; (try with_reducible rfl))
      (try simp only [Act.put, List.setIfInBounds_toArray, List.set_cons_zero, List.set_cons_succ])
      refine wpAnyH_take (i := 11) (oi := ({ dst := some 41, op := Op.move (Operand.tmp 4), type := 9, pos := "record.go:82", after := #[], guard := none } : Oper)) (v := ?_) rfl (by kernel_rfl) (by kernel_rfl) (by kernel_rfl) (fun _ _ _ h => h) (Or.inl ⟨by rfl, ?_⟩) (by assumption) ?_
      rotate_left 1
      · (intro w hSw; (try dsimp only at hSw); go_simp; (try with_reducible rfl))
      (try simp only [Act.put, List.setIfInBounds_toArray, List.set_cons_zero, List.set_cons_succ])
      refine wpAnyH_take (i := 14) (oi := ({ dst := some 44, op := Op.move (Operand.tmp 6), type := 61, pos := "record.go:82", after := #[], guard := none } : Oper)) (v := ?_) rfl (by kernel_rfl) (by kernel_rfl) (by kernel_rfl) (fun _ _ _ h => h) (Or.inl ⟨by rfl, ?_⟩) (by assumption) ?_
      rotate_left 1
      · (intro w hSw; (try dsimp only at hSw); go_simp; (try with_reducible rfl))
      (try simp only [Act.put, List.setIfInBounds_toArray, List.set_cons_zero, List.set_cons_succ])
      refine wpAnyH_take (i := 15) (oi := ({ dst := some 45, op := Op.convert 61 9 (Operand.tmp 44), type := 9, pos := "record.go:82", after := #[{ on := 14, ground := Ground.data }], guard := none } : Oper)) (v := ?_) rfl (by kernel_rfl) (by kernel_rfl) (by kernel_rfl) (fun _ _ _ h => h) (Or.inl ⟨by rfl, ?_⟩) (by assumption) ?_
      rotate_left 1
      · (intro w hSw; (try dsimp only at hSw); go_simp; (try with_reducible rfl))
      (try simp only [Act.put, List.setIfInBounds_toArray, List.set_cons_zero, List.set_cons_succ])
      refine wpAnyH_take (i := 18) (oi := ({ dst := some 48, op := Op.move (Operand.tmp 5), type := 9, pos := "record.go:82", after := #[], guard := none } : Oper)) (v := ?_) rfl (by kernel_rfl) (by kernel_rfl) (by kernel_rfl) (fun _ _ _ h => h) (Or.inl ⟨by rfl, ?_⟩) (by assumption) ?_
      rotate_left 1
      · (intro w hSw; (try dsimp only at hSw); go_simp; (try with_reducible rfl))
      (try simp only [Act.put, List.setIfInBounds_toArray, List.set_cons_zero, List.set_cons_succ])
      refine wpAnyH_ready (rs := [3, 7]) (by kernel_rfl) (by simp) ?_
      refine AllReadyH.cons (o := ({ dst := some 33, op := Op.call { callee := Callee.value (Operand.func 35), args := #[Operand.tmp 32, Operand.const (Value.int IntKind.i64 4)], argTypes := #[33, 3] }, type := 9, pos := "record.go:82", after := #[{ on := 2, ground := Ground.data }], guard := none } : Oper)) rfl (fun K hK => ?_) ?_
      · go_simp
        go_at_call 35
        ((with_reducible refine (CH.out _).mono ?_); rintro e w2 ⟨rfl, hb⟩; (first | have B2 := Lib.hid (show Below wr.heap.size wr w2 from Below.trans0 (Below.drew0 (Below.refl _ _)) hb) | have B2 := Lib.hid (show Below wr.heap.size wr w2 from Below.trans0 (Below.drew0 (Below.alloc0 (Below.refl _ _) _)) hb)); (try have I2 := Lib.hid (Ints.below (B' := w2.heap.size) (show Ints .u8 (wr.alloc (Obj.cells #[.int .u8 x.d] 5)).drew (wr.alloc (Obj.cells #[.int .u8 x.d] 5)).drew.heap.size (some ⟨wr.heap.size, 0, none⟩) 1 [x.d] from Ints.newD wr x.d WF.out 5) hb.size hb)); clear hb)
        first | (refine hK.out _ _ ?_ (fun hH1 => ?_)) | (go_wp2_with fail; refine hK.out _ _ ?_ (fun hH1 => ?_))
        · (try dsimp only); with_reducible exact HSS.out _ B2.out
        clear hK K hH0
        (try simp only [Act.put, List.setIfInBounds_toArray, List.set_cons_zero, List.set_cons_succ])
        refine wpAnyH_take (i := 4) (oi := ({ dst := some 34, op := Op.binOp BinOp.add 9 (Operand.tmp 33) (Operand.const (Value.string { data := #[32] })) 9, type := 9, pos := "record.go:82", after := #[{ on := 3, ground := Ground.data }], guard := none } : Oper)) (v := ?_) rfl (by kernel_rfl) (by kernel_rfl) (by kernel_rfl) (fun _ _ _ h => h) (Or.inl ⟨by rfl, ?_⟩) (by assumption) ?_
        rotate_left 1
        · (intro w hSw; (try dsimp only at hSw); go_simp; (try with_reducible rfl))
        (try simp only [Act.put, List.setIfInBounds_toArray, List.set_cons_zero, List.set_cons_succ])
        refine wpAnyH_ready (rs := [7]) (by kernel_rfl) (by simp) ?_
        refine AllReadyH.cons (o := ({ dst := some 37, op := Op.buildSlice 61 1 #[(0, Operand.tmp 36)], type := 61, pos := "record.go:82", after := #[{ on := 6, ground := Ground.data }], guard := none } : Oper)) rfl (fun K hK => ?_) ?_
        rotate_left 1
        · exact AllReadyH.nil
        go_simp
        first | (refine hK.out _ _ ?_ (fun hH2 => ?_)) | (go_wp2_with fail; refine hK.out _ _ ?_ (fun hH2 => ?_))
        · (try dsimp only); with_reducible first | exact HSS.out _ (Below.drew0 (Below.alloc0 (Below.refl _ _) _)) | exact HSS.out _ (Below.alloc0 B2.out _)
        clear hK K hH1
        (try simp only [Act.put, List.setIfInBounds_toArray, List.set_cons_zero, List.set_cons_succ])
        refine wpAnyH_ready (rs := [8]) (by kernel_rfl) (by simp) ?_
        refine AllReadyH.cons (o := ({ dst := some 38, op := Op.call { callee := Callee.value (Operand.func 36), args := #[Operand.tmp 37], argTypes := #[61] }, type := 9, pos := "record.go:82", after := #[{ on := 7, ground := Ground.data }, { on := 3, ground := Ground.chain }], guard := none } : Oper)) rfl (fun K hK => ?_) ?_
        rotate_left 1
        · exact AllReadyH.nil
        go_simp
        go_at_call 36
        ((first | (with_reducible refine (CP.out _ _ _ _ (Ints.newD _ _ WF.out _) (by decide)).mono ?_) | (with_reducible refine (CP.out _ _ _ _ I2.out (by decide)).mono ?_)); rintro e w3 ⟨rfl, hb⟩; (first | have B3 := Lib.hid (show Below wr.heap.size wr w3 from Below.trans0 (Below.alloc0 B2.out _) hb) | have B3 := Lib.hid (show Below wr.heap.size wr w3 from Below.trans0 B2.out hb)); clear hb)
        first | (refine hK.out _ _ ?_ (fun hH3 => ?_)) | (go_wp2_with fail; refine hK.out _ _ ?_ (fun hH3 => ?_))
        · (try dsimp only); with_reducible exact HSS.out _ B3.out
        clear hK K hH2
        (try simp only [Act.put, List.setIfInBounds_toArray, List.set_cons_zero, List.set_cons_succ])
        refine wpAnyH_take (i := 9) (oi := ({ dst := some 39, op := Op.binOp BinOp.add 9 (Operand.tmp 34) (Operand.tmp 38) 9, type := 9, pos := "record.go:82", after := #[{ on := 4, ground := Ground.data }, { on := 8, ground := Ground.data }], guard := none } : Oper)) (v := ?_) rfl (by kernel_rfl) (by kernel_rfl) (by kernel_rfl) (fun _ _ _ h => h) (Or.inl ⟨by rfl, ?_⟩) (by assumption) ?_
        rotate_left 1
        · (intro w hSw; (try dsimp only at hSw); go_simp; (try with_reducible rfl))
        (try simp only [Act.put, List.setIfInBounds_toArray, List.set_cons_zero, List.set_cons_succ])
        refine wpAnyH_take (i := 10) (oi := ({ dst := some 40, op := Op.binOp BinOp.add 9 (Operand.tmp 39) (Operand.const (Value.string { data := #[32] })) 9, type := 9, pos := "record.go:82", after := #[{ on := 9, ground := Ground.data }], guard := none } : Oper)) (v := ?_) rfl (by kernel_rfl) (by kernel_rfl) (by kernel_rfl) (fun _ _ _ h => h) (Or.inl ⟨by rfl, ?_⟩) (by assumption) ?_
        rotate_left 1
        · (intro w hSw; (try dsimp only at hSw); go_simp; (try with_reducible rfl))
        (try simp only [Act.put, List.setIfInBounds_toArray, List.set_cons_zero, List.set_cons_succ])
        refine wpAnyH_take (i := 12) (oi := ({ dst := some 42, op := Op.binOp BinOp.add 9 (Operand.tmp 40) (Operand.tmp 41) 9, type := 9, pos := "record.go:82", after := #[{ on := 10, ground := Ground.data }, { on := 11, ground := Ground.data }], guard := none } : Oper)) (v := ?_) rfl (by kernel_rfl) (by kernel_rfl) (by kernel_rfl) (fun _ _ _ h => h) (Or.inl ⟨by rfl, ?_⟩) (by assumption) ?_
        rotate_left 1
        · (intro w hSw; (try dsimp only at hSw); go_simp; (try with_reducible rfl))
        (try simp only [Act.put, List.setIfInBounds_toArray, List.set_cons_zero, List.set_cons_succ])
        refine wpAnyH_take (i := 13) (oi := ({ dst := some 43, op := Op.binOp BinOp.add 9 (Operand.tmp 42) (Operand.const (Value.string { data := #[32] })) 9, type := 9, pos := "record.go:82", after := #[{ on := 12, ground := Ground.data }], guard := none } : Oper)) (v := ?_) rfl (by kernel_rfl) (by kernel_rfl) (by kernel_rfl) (fun _ _ _ h => h) (Or.inl ⟨by rfl, ?_⟩) (by assumption) ?_
        rotate_left 1
        · (intro w hSw; (try dsimp only at hSw); go_simp; (try with_reducible rfl))
        (try simp only [Act.put, List.setIfInBounds_toArray, List.set_cons_zero, List.set_cons_succ])
        refine wpAnyH_take (i := 16) (oi := ({ dst := some 46, op := Op.binOp BinOp.add 9 (Operand.tmp 43) (Operand.tmp 45) 9, type := 9, pos := "record.go:82", after := #[{ on := 13, ground := Ground.data }, { on := 15, ground := Ground.data }], guard := none } : Oper)) (v := ?_) rfl (by kernel_rfl) (by kernel_rfl) (by kernel_rfl) (fun _ _ _ h => h) (Or.inl ⟨by rfl, ?_⟩) (by assumption) ?_
        rotate_left 1
        · (intro w hSw; (try dsimp only at hSw); go_simp; (try with_reducible rfl))
        (try simp only [Act.put, List.setIfInBounds_toArray, List.set_cons_zero, List.set_cons_succ])
        refine wpAnyH_take (i := 17) (oi := ({ dst := some 47, op := Op.binOp BinOp.add 9 (Operand.tmp 46) (Operand.const (Value.string { data := #[32] })) 9, type := 9, pos := "record.go:82", after := #[{ on := 16, ground := Ground.data }], guard := none } : Oper)) (v := ?_) rfl (by kernel_rfl) (by kernel_rfl) (by kernel_rfl) (fun _ _ _ h => h) (Or.inl ⟨by rfl, ?_⟩) (by assumption) ?_
        rotate_left 1
        · (intro w hSw; (try dsimp only at hSw); go_simp; (try with_reducible rfl))
        (try simp only [Act.put, List.setIfInBounds_toArray, List.set_cons_zero, List.set_cons_succ])
        refine wpAnyH_take (i := 19) (oi := ({ dst := some 49, op := Op.binOp BinOp.add 9 (Operand.tmp 47) (Operand.tmp 48) 9, type := 9, pos := "record.go:82", after := #[{ on := 17, ground := Ground.data }, { on := 18, ground := Ground.data }], guard := none } : Oper)) (v := ?_) rfl (by kernel_rfl) (by kernel_rfl) (by kernel_rfl) (fun _ _ _ h => h) (Or.inl ⟨by rfl, ?_⟩) (by assumption) ?_
        rotate_left 1
        · (intro w hSw; (try dsimp only at hSw); go_simp; (try with_reducible rfl))
        (try simp only [Act.put, List.setIfInBounds_toArray, List.set_cons_zero, List.set_cons_succ])
        refine wpAnyH_take (i := 20) (oi := ({ dst := some 2, op := Op.assign (Operand.tmp 49), type := 9, pos := "record.go:82", after := #[{ on := 19, ground := Ground.data }, { on := 8, ground := Ground.chain }, { on := 0, ground := Ground.phase }, { on := 1, ground := Ground.phase }, { on := 2, ground := Ground.phase }, { on := 3, ground := Ground.phase }, { on := 4, ground := Ground.phase }, { on := 5, ground := Ground.phase }, { on := 6, ground := Ground.phase }, { on := 7, ground := Ground.phase }, { on := 8, ground := Ground.phase }, { on := 9, ground := Ground.phase }, { on := 10, ground := Ground.phase }, { on := 11, ground := Ground.phase }, { on := 12, ground := Ground.phase }, { on := 13, ground := Ground.phase }, { on := 14, ground := Ground.phase }, { on := 15, ground := Ground.phase }, { on := 16, ground := Ground.phase }, { on := 17, ground := Ground.phase }, { on := 18, ground := Ground.phase }, { on := 19, ground := Ground.phase }], guard := none } : Oper)) (v := ?_) rfl (by kernel_rfl) (by kernel_rfl) (by kernel_rfl) (fun _ _ _ h => h) (Or.inl ⟨by rfl, ?_⟩) (by assumption) ?_
        rotate_left 1
        · (intro w hSw; (try dsimp only at hSw); go_simp; (try with_reducible rfl))
        (try simp only [Act.put, List.setIfInBounds_toArray, List.set_cons_zero, List.set_cons_succ])
        refine wpAnyH_done (by kernel_rfl) ?_ _
        refine NoPanic.normal ?_
        clear sz1 sz2 szL ta
        go_wp2
        go_ret
        exact ⟨by rw [HT.out]; rfl, Below.trans0 hB.out B3.out⟩
      refine AllReadyH.cons (o := ({ dst := some 37, op := Op.buildSlice 61 1 #[(0, Operand.tmp 36)], type := 61, pos := "record.go:82", after := #[{ on := 6, ground := Ground.data }], guard := none } : Oper)) rfl (fun K hK => ?_) ?_
      · go_simp
        first | (refine hK.out _ _ ?_ (fun hH1 => ?_)) | (go_wp2_with fail; refine hK.out _ _ ?_ (fun hH1 => ?_))
        · (try dsimp only); with_reducible first | exact HSS.out _ (Below.drew0 (Below.alloc0 (Below.refl _ _) _)) | exact HSS.out _ (Below.alloc0 B2.out _)
        clear hK K hH0
        (try simp only [Act.put, List.setIfInBounds_toArray, List.set_cons_zero, List.set_cons_succ])
        refine wpAnyH_ready (rs := [3]) (by kernel_rfl) (by simp) ?_
        refine AllReadyH.cons (o := ({ dst := some 33, op := Op.call { callee := Callee.value (Operand.func 35), args := #[Operand.tmp 32, Operand.const (Value.int IntKind.i64 4)], argTypes := #[33, 3] }, type := 9, pos := "record.go:82", after := #[{ on := 2, ground := Ground.data }], guard := none } : Oper)) rfl (fun K hK => ?_) ?_
        rotate_left 1
        · exact AllReadyH.nil
        go_simp
        go_at_call 35
        ((with_reducible refine (CH.out _).mono ?_); rintro e w2 ⟨rfl, hb⟩; (first | have B2 := Lib.hid (show Below wr.heap.size wr w2 from Below.trans0 (Below.drew0 (Below.refl _ _)) hb) | have B2 := Lib.hid (show Below wr.heap.size wr w2 from Below.trans0 (Below.drew0 (Below.alloc0 (Below.refl _ _) _)) hb)); (try have I2 := Lib.hid (Ints.below (B' := w2.heap.size) (show Ints .u8 (wr.alloc (Obj.cells #[.int .u8 x.d] 5)).drew (wr.alloc (Obj.cells #[.int .u8 x.d] 5)).drew.heap.size (some ⟨wr.heap.size, 0, none⟩) 1 [x.d] from Ints.newD wr x.d WF.out 5) hb.size hb)); clear hb)
        first | (refine hK.out _ _ ?_ (fun hH2 => ?_)) | (go_wp2_with fail; refine hK.out _ _ ?_ (fun hH2 => ?_))
        · (try dsimp only); with_reducible exact HSS.out _ B2.out
        clear hK K hH1
        (try simp only [Act.put, List.setIfInBounds_toArray, List.set_cons_zero, List.set_cons_succ])
        refine wpAnyH_take (i := 4) (oi := ({ dst := some 34, op := Op.binOp BinOp.add 9 (Operand.tmp 33) (Operand.const (Value.string { data := #[32] })) 9, type := 9, pos := "record.go:82", after := #[{ on := 3, ground := Ground.data }], guard := none } : Oper)) (v := ?_) rfl (by kernel_rfl) (by kernel_rfl) (by kernel_rfl) (fun _ _ _ h => h) (Or.inl ⟨by rfl, ?_⟩) (by assumption) ?_
        rotate_left 1
        · (intro w hSw; (try dsimp only at hSw); go_simp; (try with_reducible rfl))
        (try simp only [Act.put, List.setIfInBounds_toArray, List.set_cons_zero, List.set_cons_succ])
        refine wpAnyH_ready (rs := [8]) (by kernel_rfl) (by simp) ?_
        refine AllReadyH.cons (o := ({ dst := some 38, op := Op.call { callee := Callee.value (Operand.func 36), args := #[Operand.tmp 37], argTypes := #[61] }, type := 9, pos := "record.go:82", after := #[{ on := 7, ground := Ground.data }, { on := 3, ground := Ground.chain }], guard := none } : Oper)) rfl (fun K hK => ?_) ?_
        rotate_left 1
        · exact AllReadyH.nil
        go_simp
        go_at_call 36
        ((first | (with_reducible refine (CP.out _ _ _ _ (Ints.newD _ _ WF.out _) (by decide)).mono ?_) | (with_reducible refine (CP.out _ _ _ _ I2.out (by decide)).mono ?_)); rintro e w3 ⟨rfl, hb⟩; (first | have B3 := Lib.hid (show Below wr.heap.size wr w3 from Below.trans0 (Below.alloc0 B2.out _) hb) | have B3 := Lib.hid (show Below wr.heap.size wr w3 from Below.trans0 B2.out hb)); clear hb)
        first | (refine hK.out _ _ ?_ (fun hH3 => ?_)) | (go_wp2_with fail; refine hK.out _ _ ?_ (fun hH3 => ?_))
        · (try dsimp only); with_reducible exact HSS.out _ B3.out
        clear hK K hH2
        (try simp only [Act.put, List.setIfInBounds_toArray, List.set_cons_zero, List.set_cons_succ])
        refine wpAnyH_take (i := 9) (oi := ({ dst := some 39, op := Op.binOp BinOp.add 9 (Operand.tmp 34) (Operand.tmp 38) 9, type := 9, pos := "record.go:82", after := #[{ on := 4, ground := Ground.data }, { on := 8, ground := Ground.data }], guard := none } : Oper)) (v := ?_) rfl (by kernel_rfl) (by kernel_rfl) (by kernel_rfl) (fun _ _ _ h => h) (Or.inl ⟨by rfl, ?_⟩) (by assumption) ?_
        rotate_left 1
        · (intro w hSw; (try dsimp only at hSw); go_simp; (try with_reducible rfl))
        (try simp only [Act.put, List.setIfInBounds_toArray, List.set_cons_zero, List.set_cons_succ])
        refine wpAnyH_take (i := 10) (oi := ({ dst := some 40, op := Op.binOp BinOp.add 9 (Operand.tmp 39) (Operand.const (Value.string { data := #[32] })) 9, type := 9, pos := "record.go:82", after := #[{ on := 9, ground := Ground.data }], guard := none } : Oper)) (v := ?_) rfl (by kernel_rfl) (by kernel_rfl) (by kernel_rfl) (fun _ _ _ h => h) (Or.inl ⟨by rfl, ?_⟩) (by assumption) ?_
        rotate_left 1
        · (intro w hSw; (try dsimp only at hSw); go_simp; (try with_reducible rfl))
        (try simp only [Act.put, List.setIfInBounds_toArray, List.set_cons_zero, List.set_cons_succ])
        refine wpAnyH_take (i := 12) (oi := ({ dst := some 42, op := Op.binOp BinOp.add 9 (Operand.tmp 40) (Operand.tmp 41) 9, type := 9, pos := "record.go:82", after := #[{ on := 10, ground := Ground.data }, { on := 11, ground := Ground.data }], guard := none } : Oper)) (v := ?_) rfl (by kernel_rfl) (by kernel_rfl) (by kernel_rfl) (fun _ _ _ h => h) (Or.inl ⟨by rfl, ?_⟩) (by assumption) ?_
        rotate_left 1
        · (intro w hSw; (try dsimp only at hSw); go_simp; (try with_reducible rfl))
        (try simp only [Act.put, List.setIfInBounds_toArray, List.set_cons_zero, List.set_cons_succ])
        refine wpAnyH_take (i := 13) (oi := ({ dst := some 43, op := Op.binOp BinOp.add 9 (Operand.tmp 42) (Operand.const (Value.string { data := #[32] })) 9, type := 9, pos := "record.go:82", after := #[{ on := 12, ground := Ground.data }], guard := none } : Oper)) (v := ?_) rfl (by kernel_rfl) (by kernel_rfl) (by kernel_rfl) (fun _ _ _ h => h) (Or.inl ⟨by rfl, ?_⟩) (by assumption) ?_
        rotate_left 1
        · (intro w hSw; (try dsimp only at hSw); go_simp; (try with_reducible rfl))
        (try simp only [Act.put, List.setIfInBounds_toArray, List.set_cons_zero, List.set_cons_succ])
        refine wpAnyH_take (i := 16) (oi := ({ dst := some 46, op := Op.binOp BinOp.add 9 (Operand.tmp 43) (Operand.tmp 45) 9, type := 9, pos := "record.go:82", after := #[{ on := 13, ground := Ground.data }, { on := 15, ground := Ground.data }], guard := none } : Oper)) (v := ?_) rfl (by kernel_rfl) (by kernel_rfl) (by kernel_rfl) (fun _ _ _ h => h) (Or.inl ⟨by rfl, ?_⟩) (by assumption) ?_
        rotate_left 1
        · (intro w hSw; (try dsimp only at hSw); go_simp; (try with_reducible rfl))
        (try simp only [Act.put, List.setIfInBounds_toArray, List.set_cons_zero, List.set_cons_succ])
        refine wpAnyH_take (i := 17) (oi := ({ dst := some 47, op := Op.binOp BinOp.add 9 (Operand.tmp 46) (Operand.const (Value.string { data := #[32] })) 9, type := 9, pos := "record.go:82", after := #[{ on := 16, ground := Ground.data }], guard := none } : Oper)) (v := ?_) rfl (by kernel_rfl) (by kernel_rfl) (by kernel_rfl) (fun _ _ _ h => h) (Or.inl ⟨by rfl, ?_⟩) (by assumption) ?_
        rotate_left 1
        · (intro w hSw; (try dsimp only at hSw); go_simp; (try with_reducible rfl))
        (try simp only [Act.put, List.setIfInBounds_toArray, List.set_cons_zero, List.set_cons_succ])
        refine wpAnyH_take (i := 19) (oi := ({ dst := some 49, op := Op.binOp BinOp.add 9 (Operand.tmp 47) (Operand.tmp 48) 9, type := 9, pos := "record.go:82", after := #[{ on := 17, ground := Ground.data }, { on := 18, ground := Ground.data }], guard := none } : Oper)) (v := ?_) rfl (by kernel_rfl) (by kernel_rfl) (by kernel_rfl) (fun _ _ _ h => h) (Or.inl ⟨by rfl, ?_⟩) (by assumption) ?_
        rotate_left 1
        · (intro w hSw; (try dsimp only at hSw); go_simp; (try with_reducible rfl))
        (try simp only [Act.put, List.setIfInBounds_toArray, List.set_cons_zero, List.set_cons_succ])
        refine wpAnyH_take (i := 20) (oi := ({ dst := some 2, op := Op.assign (Operand.tmp 49), type := 9, pos := "record.go:82", after := #[{ on := 19, ground := Ground.data }, { on := 8, ground := Ground.chain }, { on := 0, ground := Ground.phase }, { on := 1, ground := Ground.phase }, { on := 2, ground := Ground.phase }, { on := 3, ground := Ground.phase }, { on := 4, ground := Ground.phase }, { on := 5, ground := Ground.phase }, { on := 6, ground := Ground.phase }, { on := 7, ground := Ground.phase }, { on := 8, ground := Ground.phase }, { on := 9, ground := Ground.phase }, { on := 10, ground := Ground.phase }, { on := 11, ground := Ground.phase }, { on := 12, ground := Ground.phase }, { on := 13, ground := Ground.phase }, { on := 14, ground := Ground.phase }, { on := 15, ground := Ground.phase }, { on := 16, ground := Ground.phase }, { on := 17, ground := Ground.phase }, { on := 18, ground := Ground.phase }, { on := 19, ground := Ground.phase }], guard := none } : Oper)) (v := ?_) rfl (by kernel_rfl) (by kernel_rfl) (by kernel_rfl) (fun _ _ _ h => h) (Or.inl ⟨by rfl, ?_⟩) (by assumption) ?_
        rotate_left 1
        · (intro w hSw; (try dsimp only at hSw); go_simp; (try with_reducible rfl))
        (try simp only [Act.put, List.setIfInBounds_toArray, List.set_cons_zero, List.set_cons_succ])
        refine wpAnyH_done (by kernel_rfl) ?_ _
        refine NoPanic.normal ?_
        clear sz1 sz2 szL ta
        go_wp2
        go_ret
        exact ⟨by rw [HT.out]; rfl, Below.trans0 hB.out B3.out⟩
      exact AllReadyH.nil
set_option maxRecDepth 100000 in
set_option maxHeartbeats 2000000 in
theorem rcText_01 (x : Rc) (hx : x.Ok) (hr : x.r = false) (hm : x.m = true) (w : World) :
    Calls Try.prog 12 #[.agg x.cells] w fun e w' => e = .returned (.string (strOfNums (txN x))) ∧ Below w.heap.size w w' := by
  have CO := Lib.hid (fun w => rcOf_any x w)
  have P0 : Hid (Blk (w.alloc (Obj.cells x.cells 26)) w.heap.size 26 x.cells) := Lib.hid (Blk.new _ _ _ (0, 0))
  have B0 := Lib.hid (Below.alloc0 (Below.refl w.heap.size w) (Obj.cells x.cells 26))
  have CH0 := fun u => hex_any x.a 4 u hx.a0 (by have := hx.a1; omega)
  rw [show clampW 4 = 4 from rfl] at CH0
  have CP0 := fun (A : Option Addr) (n c : Nat) u (h : Ints .u8 u u.heap.size A n [x.d]) (hn : n ≤ 1099511627) => pairs_any A n c [x.d] u h hn
  have sz1 := adN_size x hx
  have sz2 := daN_size x
  have szL : (strOfNums (lnL x 5)).size = 5 := by rw [size_strOf]; rfl
  obtain ⟨s1, h1⟩ : ∃ s, strOfNums (written 16 x.a 4) = s := ⟨_, rfl⟩
  obtain ⟨s2, h2⟩ : ∃ s, strOfNums (pairsOf [x.d]) = s := ⟨_, rfl⟩
  obtain ⟨SL, h3⟩ : ∃ s, strOfNums (lnL x 5) = s := ⟨_, rfl⟩
  rw [h1] at CH0
  rw [h2] at CP0
  rw [show strOfNums (adN x) = s1 from h1] at sz1
  rw [show strOfNums (daN x) = s2 from h2] at sz2
  rw [h3] at szL
  have CH := Lib.hid CH0
  have CP := Lib.hid CP0
  have HT : Hid (strOfNums (txN x) = (((((((s1 ++ strOfNums [32]) ++ s2) ++ strOfNums [32]) ++ strOfNums [87]) ++ strOfNums [32]) ++ SL) ++ strOfNums [32]) ++ strOfNums [77]) := Lib.hid (by
    rw [← h1, ← h2, ← h3, tx_join]
    unfold txN adN daN
    rw [hr, hm]
    rfl)
  have H3 := Lib.hid h3
  have w0 : (Lit.int .u8 x.d).wf = true := by have a := hx.d0; have b := hx.d1; simp [Lit.wf, IntKind.min, IntKind.max, IntKind.signed, IntKind.bits]; omega
  have ta : IntKind.u64.wrap x.a = x.a := by have a := hx.a0; have b := hx.a1; rw [IntKind.wrap_u64]; omega
  have WF := Lib.hid w0
  have Z1 := Lib.hid sz1
  have Z2 := Lib.hid sz2
  have ZL := Lib.hid szL
  have TA := Lib.hid ta
  have HR := Lib.hid hr
  have HM := Lib.hid hm
  clear CH0 CP0 sz1 sz2 szL h1 h2 h3 hx w0 ta hr hm
  go_enter Try.func12, Try.ntmps12
  go_wp2_with fail
  refine (CO.out _).mono ?_
  rintro e w1 ⟨rfl, hb⟩
  have P1 := Lib.hid (Blk.alloc (Blk.alloc (Blk.below P0.out hb P0.out.lt) (Obj.cells x.lv 71)) (Obj.cells #[.int .u8 65, .int .u8 83, .int .u8 76, .int .u8 86, .int .u8 66] 5 (5, 6)))
  have Q1 : Hid (Blk ((w1.alloc (Obj.cells x.lv 71)).alloc (Obj.cells #[.int .u8 65, .int .u8 83, .int .u8 76, .int .u8 86, .int .u8 66] 5 (5, 6))) w1.heap.size 71 x.lv) := Lib.hid (Blk.alloc (Blk.new _ _ _ (0, 0)) _)
  have L1 : Hid (Blk ((w1.alloc (Obj.cells x.lv 71)).alloc (Obj.cells #[.int .u8 65, .int .u8 83, .int .u8 76, .int .u8 86, .int .u8 66] 5 (5, 6))) (w1.heap.size + 1) 5 (((lnL x 0).map (Value.int .u8)).toArray) (5, 6)) := Lib.hid (by
    have := Blk.new (w1.alloc (Obj.cells x.lv 71)) 5 #[.int .u8 65, .int .u8 83, .int .u8 76, .int .u8 86, .int .u8 66] (5, 6)
    rw [show (w1.alloc (Obj.cells x.lv 71)).heap.size = w1.heap.size + 1 by simp] at this
    exact this)
  have B1 := Lib.hid (Below.alloc0 (Below.alloc0 (Below.trans0 B0.out hb) (Obj.cells x.lv 71)) (Obj.cells #[.int .u8 65, .int .u8 83, .int .u8 76, .int .u8 86, .int .u8 66] 5 (5, 6)))
  have LT := Lib.hid (show w.heap.size < w1.heap.size from Nat.lt_of_lt_of_le (by simp) hb.size)
  have P2 := Lib.hid (Blk.alloc (Blk.below P0.out hb P0.out.lt) (Obj.cells x.lv 71))
  obtain ⟨x0, x1, x2, x3, x4, x5, x6, x7, x8⟩ := Blk.c9 P2.out
  rw [HR.out] at x2
  rw [HM.out] at x8
  have hcv : (convert 61 61 (.slice (some ⟨w1.heap.size + 1, 0, none⟩) 5 5)).run Try.prog ((w1.alloc (Obj.cells x.lv 71)).alloc (Obj.cells #[.int .u8 65, .int .u8 83, .int .u8 76, .int .u8 86, .int .u8 66] 5)) = .ok (.slice (some ⟨w1.heap.size + 1, 0, none⟩) 5 5) ((w1.alloc (Obj.cells x.lv 71)).alloc (Obj.cells #[.int .u8 65, .int .u8 83, .int .u8 76, .int .u8 86, .int .u8 66] 5 (5, 6))) := by
    have := Lib.run_convert_bytes_const (P := Try.prog) (w1.alloc (Obj.cells x.lv 71)) 61 5 #[.int .u8 65, .int .u8 83, .int .u8 76, .int .u8 86, .int .u8 66] 5 5 Try.underlying61 Try.underlying5
    rw [show (w1.alloc (Obj.cells x.lv 71)).heap.size = w1.heap.size + 1 by simp] at this
    exact this
  rw [show x.lv = #[.bool x.r, .bool x.b1, .bool x.b2, .bool x.b3, .bool x.b4, .bool x.b5, .bool x.m] from rfl] at hcv
  clear hb P0 B0 CO
  go_wp2
  clear x0 x1 x2 x3 x4 x5 x6 x7 x8 P2 hcv
  go_loopw [18] (fun i wr => ∃ k : Nat, k ≤ 5 ∧ i = .int .i64 k ∧ Hid (Blk wr (w1.heap.size + 1) 5 (((lnL x k).map (Value.int .u8)).toArray) (5, 6)) ∧ Hid (Blk wr w1.heap.size 71 x.lv) ∧ Hid (Blk wr w.heap.size 26 x.cells) ∧ Hid (Below w.heap.size w wr)) (fun i _ => 5 - (intOf i).toNat)
  case atStart => exact ⟨0, by decide, rfl, L1, Q1, P1, B1⟩
  case round =>
    obtain ⟨k, hk, rfl, hL, hQ, hP, hB⟩ := hrel
    by_cases hlt : k < 5
    · obtain ⟨v, hv⟩ := lnL_at x k k hlt
      have cl : wr.cell? ⟨w1.heap.size + 1, k, none⟩ = some (.int .u8 v) := by rw [hL.out.cell]; exact hv
      have cf : wr.frozen? ⟨w1.heap.size + 1, k, none⟩ = false := Blk.frozen' hL.out k (by omega)
      obtain ⟨bt, hbt⟩ : ∃ bt, (if k = 0 then x.b1 else if k = 1 then x.b2 else if k = 2 then x.b3 else if k = 3 then x.b4 else x.b5) = bt := ⟨_, rfl⟩
      have cb : wr.cell? ⟨w1.heap.size, 1 + k, none⟩ = some (.bool bt) := by
        rw [hQ.out.cell, ← hbt]
        rcases (show k = 0 ∨ k = 1 ∨ k = 2 ∨ k = 3 ∨ k = 4 by omega) with rfl | rfl | rfl | rfl | rfl <;> rfl
      have hk0 : (0 : Int) ≤ k := by omega
      have hk5 : (k : Int) < 5 := by omega
      have HL := Lib.hid hlt
      clear hv
      cases bt
      · have HS := Lib.hid (lnA_set x k hlt hbt)
        clear hbt
        go_wp2
        go_roundw
        case rel => exact ⟨k + 1, by omega, by go_num, Lib.hid (by rw [← HS.out]; exact Blk.set_ hL.out k _), Lib.hid (Blk.far hQ.out (by simp) _), Lib.hid (Blk.far hP.out (by have := LT.out; simp; omega) _), Lib.hid (Below.set0 hB.out (by have := LT.out; omega) _)⟩
        case measure => simp [intOf]; omega
      · have HS := Lib.hid (lnA_same x k hlt hbt)
        clear hbt
        go_wp2
        go_roundw
        case rel => exact ⟨k + 1, by omega, by go_num, by rw [HS.out]; exact hL, hQ, hP, hB⟩
        case measure => simp [intOf]; omega
    · obtain rfl : k = 5 := by omega
      obtain ⟨V, hV⟩ : ∃ V, V = wr := ⟨_, rfl⟩
      have HSS : Hid (∀ u : World, Below wr.heap.size wr u → (fun w' => (w'.cell? ⟨w.heap.size, 0, none⟩ = some (.int .u16 x.a) ∧ w'.cell? ⟨w.heap.size, 1, none⟩ = some (.int .u8 x.d)) ∧ (convert 61 9 (.slice (some ⟨w1.heap.size + 1, 0, none⟩) 5 5)).run Try.prog w' = .ok (.string SL) w') u) := Lib.hid (fun u hb => ⟨⟨by rw [(Blk.below hP.out hb hP.out.lt).cell]; rfl, by rw [(Blk.below hP.out hb hP.out.lt).cell]; rfl⟩, by
        rw [← H3.out]
        exact bytes_at' u (w1.heap.size + 1) 0 5 5 (lnL x 5) rfl (fun i hi => by
          rw [Nat.zero_add, (Blk.below hL.out hb hL.out.lt).cell, List.getElem?_toArray, List.getElem?_map, List.getElem?_eq_getElem (show i < (lnL x 5).length from hi), iat_eq _ _ (show i < (lnL x 5).length from hi)]
          rfl)⟩)
      have S0 : Hid ((fun w' => (w'.cell? ⟨w.heap.size, 0, none⟩ = some (.int .u16 x.a) ∧ w'.cell? ⟨w.heap.size, 1, none⟩ = some (.int .u8 x.d)) ∧ (convert 61 9 (.slice (some ⟨w1.heap.size + 1, 0, none⟩) 5 5)).run Try.prog w' = .ok (.string SL) w') wr.drew) := Lib.hid (HSS.out _ (Below.drew0 (Below.refl _ _)))
      have ta := TA.out
      have sz1 := Z1.out
      have sz2 := Z2.out
      have szL := ZL.out
      clear hV V
      go_upto_region 14 with (fail)
      refine wp_region_noPanic ?_
      refine wp_region_held_drew (S := (fun w' => (w'.cell? ⟨w.heap.size, 0, none⟩ = some (.int .u16 x.a) ∧ w'.cell? ⟨w.heap.size, 1, none⟩ = some (.int .u8 x.d)) ∧ (convert 61 9 (.slice (some ⟨w1.heap.size + 1, 0, none⟩) 5 5)).run Try.prog w' = .ok (.string SL) w')) (by kernel_rfl) ?_ (fun hH0 => ?_)
      · (try dsimp only); with_reducible exact S0.out
      refine wpAnyH_take (i := 0) (oi := ({ dst := some 30, op := Op.fieldAddr 26 (Operand.tmp 1) 0, type := 0, pos := "record.go:82", after := #[], guard := none } : Oper)) (v := ?_) rfl (by kernel_rfl) (by kernel_rfl) (by kernel_rfl) (fun _ _ _ h => h) (Or.inl ⟨by rfl, ?_⟩) (by assumption) ?_
      rotate_left 1
      · (intro w hSw; (try dsimp only at hSw); go_simp; (try with_reducible rfl))
      (try simp only [Act.put, List.setIfInBounds_toArray, List.set_cons_zero, List.set_cons_succ])
      refine wpAnyH_take (i := 1) (oi := ({ dst := some 31, op := Op.load 24 (Operand.tmp 30), type := 24, pos := "record.go:82", after := #[{ on := 0, ground := Ground.data }], guard := none } : Oper)) (v := ?_) rfl (by kernel_rfl) (by kernel_rfl) (by kernel_rfl) (fun _ _ _ h => h) (Or.inl ⟨by rfl, ?_⟩) (by assumption) ?_
      rotate_left 1
      · (intro w hSw; (try dsimp only at hSw); go_simp; (try with_reducible rfl))
      (try simp only [Act.put, List.setIfInBounds_toArray, List.set_cons_zero, List.set_cons_succ])
      refine wpAnyH_take (i := 2) (oi := ({ dst := some 32, op := Op.convert 24 33 (Operand.tmp 31), type := 33, pos := "record.go:82", after := #[{ on := 1, ground := Ground.data }], guard := none } : Oper)) (v := ?_) rfl (by kernel_rfl) (by kernel_rfl) (by kernel_rfl) (fun _ _ _ h => h) (Or.inl ⟨by rfl, ?_⟩) (by assumption) ?_
      rotate_left 1
      · (intro w hSw; (try dsimp only at hSw); go_simp; (try with_reducible rfl))
      (try simp only [Act.put, List.setIfInBounds_toArray, List.set_cons_zero, List.set_cons_succ])
      refine wpAnyH_take (i := 5) (oi := ({ dst := some 35, op := Op.fieldAddr 26 (Operand.tmp 1) 1, type := 0, pos := "record.go:82", after := #[], guard := none } : Oper)) (v := ?_) rfl (by kernel_rfl) (by kernel_rfl) (by kernel_rfl) (fun _ _ _ h => h) (Or.inl ⟨by rfl, ?_⟩) (by assumption) ?_
      rotate_left 1
      · (intro w hSw; (try dsimp only at hSw); go_simp; (try with_reducible rfl))
      (try simp only [Act.put, List.setIfInBounds_toArray, List.set_cons_zero, List.set_cons_succ])
      refine wpAnyH_take (i := 6) (oi := ({ dst := some 36, op := Op.load 5 (Operand.tmp 35), type := 5, pos := "record.go:82", after := #[{ on := 5, ground := Ground.data }], guard := none } : Oper)) (v := ?_) rfl (by kernel_rfl) (by kernel_rfl) (by kernel_rfl) (fun _ _ _ h => h) (Or.inl ⟨by rfl, ?_⟩) (by assumption) ?_
      rotate_left 1
      · (intro w hSw; (try dsimp only at hSw); go_simp; (try with_reducible rfl))
      (try simp only [Act.put, List.setIfInBounds_toArray, List.set_cons_zero, List.set_cons_succ])
      refine wpAnyH_take (i := 11) (oi := ({ dst := some 41, op := Op.move (Operand.tmp 4), type := 9, pos := "record.go:82", after := #[], guard := none } : Oper)) (v := ?_) rfl (by kernel_rfl) (by kernel_rfl) (by kernel_rfl) (fun _ _ _ h => h) (Or.inl ⟨by rfl, ?_⟩) (by assumption) ?_
      rotate_left 1
      · (intro w hSw; (try dsimp only at hSw); go_simp; (try with_reducible rfl))
      (try simp only [Act.put, List.setIfInBounds_toArray, List.set_cons_zero, List.set_cons_succ])
      refine wpAnyH_take (i := 14) (oi := ({ dst := some 44, op := Op.move (Operand.tmp 6), type := 61, pos := "record.go:82", after := #[], guard := none } : Oper)) (v := ?_) rfl (by kernel_rfl) (by kernel_rfl) (by kernel_rfl) (fun _ _ _ h => h) (Or.inl ⟨by rfl, ?_⟩) (by assumption) ?_
      rotate_left 1
      · (intro w hSw; (try dsimp only at hSw); go_simp; (try with_reducible rfl))
      (try simp only [Act.put, List.setIfInBounds_toArray, List.set_cons_zero, List.set_cons_succ])
      refine wpAnyH_take (i := 15) (oi := ({ dst := some 45, op := Op.convert 61 9 (Operand.tmp 44), type := 9, pos := "record.go:82", after := #[{ on := 14, ground := Ground.data }], guard := none } : Oper)) (v := ?_) rfl (by kernel_rfl) (by kernel_rfl) (by kernel_rfl) (fun _ _ _ h => h) (Or.inl ⟨by rfl, ?_⟩) (by assumption) ?_
      rotate_left 1
      · (intro w hSw; (try dsimp only at hSw); go_simp; (try with_reducible rfl))
      (try simp only [Act.put, List.setIfInBounds_toArray, List.set_cons_zero, List.set_cons_succ])
      refine wpAnyH_take (i := 18) (oi := ({ dst := some 48, op := Op.move (Operand.tmp 5), type := 9, pos := "record.go:82", after := #[], guard := none } : Oper)) (v := ?_) rfl (by kernel_rfl) (by kernel_rfl) (by kernel_rfl) (fun _ _ _ h => h) (Or.inl ⟨by rfl, ?_⟩) (by assumption) ?_
      rotate_left 1
      · (intro w hSw; (try dsimp only at hSw); go_simp; (try with_reducible rfl))
      (try simp only [Act.put, List.setIfInBounds_toArray, List.set_cons_zero, List.set_cons_succ])
      refine wpAnyH_ready (rs := [3, 7]) (by kernel_rfl) (by simp) ?_
      refine AllReadyH.cons (o := ({ dst := some 33, op := Op.call { callee := Callee.value (Operand.func 35), args := #[Operand.tmp 32, Operand.const (Value.int IntKind.i64 4)], argTypes := #[33, 3] }, type := 9, pos := "record.go:82", after := #[{ on := 2, ground := Ground.data }], guard := none } : Oper)) rfl (fun K hK => ?_) ?_
      · go_simp
        go_at_call 35
        ((with_reducible refine (CH.out _).mono ?_); rintro e w2 ⟨rfl, hb⟩; (first | have B2 := Lib.hid (show Below wr.heap.size wr w2 from Below.trans0 (Below.drew0 (Below.refl _ _)) hb) | have B2 := Lib.hid (show Below wr.heap.size wr w2 from Below.trans0 (Below.drew0 (Below.alloc0 (Below.refl _ _) _)) hb)); (try have I2 := Lib.hid (Ints.below (B' := w2.heap.size) (show Ints .u8 (wr.alloc (Obj.cells #[.int .u8 x.d] 5)).drew (wr.alloc (Obj.cells #[.int .u8 x.d] 5)).drew.heap.size (some ⟨wr.heap.size, 0, none⟩) 1 [x.d] from Ints.newD wr x.d WF.out 5) hb.size hb)); clear hb)
        first | (refine hK.out _ _ ?_ (fun hH1 => ?_)) | (go_wp2_with fail; refine hK.out _ _ ?_ (fun hH1 => ?_))
        · (try dsimp only); with_reducible exact HSS.out _ B2.out
        clear hK K hH0
        (try simp only [Act.put, List.setIfInBounds_toArray, List.set_cons_zero, List.set_cons_succ])
        refine wpAnyH_take (i := 4) (oi := ({ dst := some 34, op := Op.binOp BinOp.add 9 (Operand.tmp 33) (Operand.const (Value.string { data := #[32] })) 9, type := 9, pos := "record.go:82", after := #[{ on := 3, ground := Ground.data }], guard := none } : Oper)) (v := ?_) rfl (by kernel_rfl) (by kernel_rfl) (by kernel_rfl) (fun _ _ _ h => h) (Or.inl ⟨by rfl, ?_⟩) (by assumption) ?_
        rotate_left 1
        · (intro w hSw; (try dsimp only at hSw); go_simp; (try with_reducible rfl))
        (try simp only [Act.put, List.setIfInBounds_toArray, List.set_cons_zero, List.set_cons_succ])
        refine wpAnyH_ready (rs := [7]) (by kernel_rfl) (by simp) ?_
        refine AllReadyH.cons (o := ({ dst := some 37, op := Op.buildSlice 61 1 #[(0, Operand.tmp 36)], type := 61, pos := "record.go:82", after := #[{ on := 6, ground := Ground.data }], guard := none } : Oper)) rfl (fun K hK => ?_) ?_
        rotate_left 1
        · exact AllReadyH.nil
        go_simp
        first | (refine hK.out _ _ ?_ (fun hH2 => ?_)) | (go_wp2_with fail; refine hK.out _ _ ?_ (fun hH2 => ?_))
        · (try dsimp only); with_reducible first | exact HSS.out _ (Below.drew0 (Below.alloc0 (Below.refl _ _) _)) | exact HSS.out _ (Below.alloc0 B2.out _)
        clear hK K hH1
        (try simp only [Act.put, List.setIfInBounds_toArray, List.set_cons_zero, List.set_cons_succ])
        refine wpAnyH_ready (rs := [8]) (by kernel_rfl) (by simp) ?_
        refine AllReadyH.cons (o := ({ dst := some 38, op := Op.call { callee := Callee.value (Operand.func 36), args := #[Operand.tmp 37], argTypes := #[61] }, type := 9, pos := "record.go:82", after := #[{ on := 7, ground := Ground.data }, { on := 3, ground := Ground.chain }], guard := none } : Oper)) rfl (fun K hK => ?_) ?_
        rotate_left 1
        · exact AllReadyH.nil
        go_simp
        go_at_call 36
        ((first | (with_reducible refine (CP.out _ _ _ _ (Ints.newD _ _ WF.out _) (by decide)).mono ?_) | (with_reducible refine (CP.out _ _ _ _ I2.out (by decide)).mono ?_)); rintro e w3 ⟨rfl, hb⟩; (first | have B3 := Lib.hid (show Below wr.heap.size wr w3 from Below.trans0 (Below.alloc0 B2.out _) hb) | have B3 := Lib.hid (show Below wr.heap.size wr w3 from Below.trans0 B2.out hb)); clear hb)
        first | (refine hK.out _ _ ?_ (fun hH3 => ?_)) | (go_wp2_with fail; refine hK.out _ _ ?_ (fun hH3 => ?_))
        · (try dsimp only); with_reducible exact HSS.out _ B3.out
        clear hK K hH2
        (try simp only [Act.put, List.setIfInBounds_toArray, List.set_cons_zero, List.set_cons_succ])
        refine wpAnyH_take (i := 9) (oi := ({ dst := some 39, op := Op.binOp BinOp.add 9 (Operand.tmp 34) (Operand.tmp 38) 9, type := 9, pos := "record.go:82", after := #[{ on := 4, ground := Ground.data }, { on := 8, ground := Ground.data }], guard := none } : Oper)) (v := ?_) rfl (by kernel_rfl) (by kernel_rfl) (by kernel_rfl) (fun _ _ _ h => h) (Or.inl ⟨by rfl, ?_⟩) (by assumption) ?_
        rotate_left 1
        · (intro w hSw; (try dsimp only at hSw); go_simp; (try with_reducible rfl))
        (try simp only [Act.put, List.setIfInBounds_toArray, List.set_cons_zero, List.set_cons_succ])
        refine wpAnyH_take (i := 10) (oi := ({ dst := some 40, op := Op.binOp BinOp.add 9 (Operand.tmp 39) (Operand.const (Value.string { data := #[32] })) 9, type := 9, pos := "record.go:82", after := #[{ on := 9, ground := Ground.data }], guard := none } : Oper)) (v := ?_) rfl (by kernel_rfl) (by kernel_rfl) (by kernel_rfl) (fun _ _ _ h => h) (Or.inl ⟨by rfl, ?_⟩) (by assumption) ?_
        rotate_left 1
        · (intro w hSw; (try dsimp only at hSw); go_simp; (try with_reducible rfl))
        (try simp only [Act.put, List.setIfInBounds_toArray, List.set_cons_zero, List.set_cons_succ])
        refine wpAnyH_take (i := 12) (oi := ({ dst := some 42, op := Op.binOp BinOp.add 9 (Operand.tmp 40) (Operand.tmp 41) 9, type := 9, pos := "record.go:82", after := #[{ on := 10, ground := Ground.data }, { on := 11, ground := Ground.data }], guard := none } : Oper)) (v := ?_) rfl (by kernel_rfl) (by kernel_rfl) (by kernel_rfl) (fun _ _ _ h => h) (Or.inl ⟨by rfl, ?_⟩) (by assumption) ?_
        rotate_left 1
        · (intro w hSw; (try dsimp only at hSw); go_simp; (try with_reducible rfl))
        (try simp only [Act.put, List.setIfInBounds_toArray, List.set_cons_zero, List.set_cons_succ])
        refine wpAnyH_take (i := 13) (oi := ({ dst := some 43, op := Op.binOp BinOp.add 9 (Operand.tmp 42) (Operand.const (Value.string { data := #[32] })) 9, type := 9, pos := "record.go:82", after := #[{ on := 12, ground := Ground.data }], guard := none } : Oper)) (v := ?_) rfl (by kernel_rfl) (by kernel_rfl) (by kernel_rfl) (fun _ _ _ h => h) (Or.inl ⟨by rfl, ?_⟩) (by assumption) ?_
        rotate_left 1
        · (intro w hSw; (try dsimp only at hSw); go_simp; (try with_reducible rfl))
        (try simp only [Act.put, List.setIfInBounds_toArray, List.set_cons_zero, List.set_cons_succ])
        refine wpAnyH_take (i := 16) (oi := ({ dst := some 46, op := Op.binOp BinOp.add 9 (Operand.tmp 43) (Operand.tmp 45) 9, type := 9, pos := "record.go:82", after := #[{ on := 13, ground := Ground.data }, { on := 15, ground := Ground.data }], guard := none } : Oper)) (v := ?_) rfl (by kernel_rfl) (by kernel_rfl) (by kernel_rfl) (fun _ _ _ h => h) (Or.inl ⟨by rfl, ?_⟩) (by assumption) ?_
        rotate_left 1
        · (intro w hSw; (try dsimp only at hSw); go_simp; (try with_reducible rfl))
        (try simp only [Act.put, List.setIfInBounds_toArray, List.set_cons_zero, List.set_cons_succ])
        refine wpAnyH_take (i := 17) (oi := ({ dst := some 47, op := Op.binOp BinOp.add 9 (Operand.tmp 46) (Operand.const (Value.string { data := #[32] })) 9, type := 9, pos := "record.go:82", after := #[{ on := 16, ground := Ground.data }], guard := none } : Oper)) (v := ?_) rfl (by kernel_rfl) (by kernel_rfl) (by kernel_rfl) (fun _ _ _ h => h) (Or.inl ⟨by rfl, ?_⟩) (by assumption) ?_
        rotate_left 1
        · (intro w hSw; (try dsimp only at hSw); go_simp; (try with_reducible rfl))
        (try simp only [Act.put, List.setIfInBounds_toArray, List.set_cons_zero, List.set_cons_succ])
        refine wpAnyH_take (i := 19) (oi := ({ dst := some 49, op := Op.binOp BinOp.add 9 (Operand.tmp 47) (Operand.tmp 48) 9, type := 9, pos := "record.go:82", after := #[{ on := 17, ground := Ground.data }, { on := 18, ground := Ground.data }], guard := none } : Oper)) (v := ?_) rfl (by kernel_rfl) (by kernel_rfl) (by kernel_rfl) (fun _ _ _ h => h) (Or.inl ⟨by rfl, ?_⟩) (by assumption) ?_
        rotate_left 1
        · (intro w hSw; (try dsimp only at hSw); go_simp; (try with_reducible rfl))
        (try simp only [Act.put, List.setIfInBounds_toArray, List.set_cons_zero, List.set_cons_succ])
        refine wpAnyH_take (i := 20) (oi := ({ dst := some 2, op := Op.assign (Operand.tmp 49), type := 9, pos := "record.go:82", after := #[{ on := 19, ground := Ground.data }, { on := 8, ground := Ground.chain }, { on := 0, ground := Ground.phase }, { on := 1, ground := Ground.phase }, { on := 2, ground := Ground.phase }, { on := 3, ground := Ground.phase }, { on := 4, ground := Ground.phase }, { on := 5, ground := Ground.phase }, { on := 6, ground := Ground.phase }, { on := 7, ground := Ground.phase }, { on := 8, ground := Ground.phase }, { on := 9, ground := Ground.phase }, { on := 10, ground := Ground.phase }, { on := 11, ground := Ground.phase }, { on := 12, ground := Ground.phase }, { on := 13, ground := Ground.phase }, { on := 14, ground := Ground.phase }, { on := 15, ground := Ground.phase }, { on := 16, ground := Ground.phase }, { on := 17, ground := Ground.phase }, { on := 18, ground := Ground.phase }, { on := 19, ground := Ground.phase }], guard := none } : Oper)) (v := ?_) rfl (by kernel_rfl) (by kernel_rfl) (by kernel_rfl) (fun _ _ _ h => h) (Or.inl ⟨by rfl, ?_⟩) (by assumption) ?_
        rotate_left 1
        · (intro w hSw; (try dsimp only at hSw); go_simp; (try with_reducible rfl))
        (try simp only [Act.put, List.setIfInBounds_toArray, List.set_cons_zero, List.set_cons_succ])
        refine wpAnyH_done (by kernel_rfl) ?_ _
        refine NoPanic.normal ?_
        clear sz1 sz2 szL ta
        go_wp2
        go_ret
        exact ⟨by rw [HT.out]; rfl, Below.trans0 hB.out B3.out⟩
      refine AllReadyH.cons (o := ({ dst := some 37, op := Op.buildSlice 61 1 #[(0, Operand.tmp 36)], type := 61, pos := "record.go:82", after := #[{ on := 6, ground := Ground.data }], guard := none } : Oper)) rfl (fun K hK => ?_) ?_
      · go_simp
        first | (refine hK.out _ _ ?_ (fun hH1 => ?_)) | (go_wp2_with fail; refine hK.out _ _ ?_ (fun hH1 => ?_))
        · (try dsimp only); with_reducible first | exact HSS.out _ (Below.drew0 (Below.alloc0 (Below.refl _ _) _)) | exact HSS.out _ (Below.alloc0 B2.out _)
        clear hK K hH0
        (try simp only [Act.put, List.setIfInBounds_toArray, List.set_cons_zero, List.set_cons_succ])
        refine wpAnyH_ready (rs := [3]) (by kernel_rfl) (by simp) ?_
        refine AllReadyH.cons (o := ({ dst := some 33, op := Op.call { callee := Callee.value (Operand.func 35), args := #[Operand.tmp 32, Operand.const (Value.int IntKind.i64 4)], argTypes := #[33, 3] }, type := 9, pos := "record.go:82", after := #[{ on := 2, ground := Ground.data }], guard := none } : Oper)) rfl (fun K hK => ?_) ?_
        rotate_left 1
        · exact AllReadyH.nil
        go_simp
        go_at_call 35
        ((with_reducible refine (CH.out _).mono ?_); rintro e w2 ⟨rfl, hb⟩; (first | have B2 := Lib.hid (show Below wr.heap.size wr w2 from Below.trans0 (Below.drew0 (Below.refl _ _)) hb) | have B2 := Lib.hid (show Below wr.heap.size wr w2 from Below.trans0 (Below.drew0 (Below.alloc0 (Below.refl _ _) _)) hb)); (try have I2 := Lib.hid (Ints.below (B' := w2.heap.size) (show Ints .u8 (wr.alloc (Obj.cells #[.int .u8 x.d] 5)).drew (wr.alloc (Obj.cells #[.int .u8 x.d] 5)).drew.heap.size (some ⟨wr.heap.size, 0, none⟩) 1 [x.d] from Ints.newD wr x.d WF.out 5) hb.size hb)); clear hb)
        first | (refine hK.out _ _ ?_ (fun hH2 => ?_)) | (go_wp2_with fail; refine hK.out _ _ ?_ (fun hH2 => ?_))
        · (try dsimp only); with_reducible exact HSS.out _ B2.out
        clear hK K hH1
        (try simp only [Act.put, List.setIfInBounds_toArray, List.set_cons_zero, List.set_cons_succ])
        refine wpAnyH_take (i := 4) (oi := ({ dst := some 34, op := Op.binOp BinOp.add 9 (Operand.tmp 33) (Operand.const (Value.string { data := #[32] })) 9, type := 9, pos := "record.go:82", after := #[{ on := 3, ground := Ground.data }], guard := none } : Oper)) (v := ?_) rfl (by kernel_rfl) (by kernel_rfl) (by kernel_rfl) (fun _ _ _ h => h) (Or.inl ⟨by rfl, ?_⟩) (by assumption) ?_
        rotate_left 1
        · (intro w hSw; (try dsimp only at hSw); go_simp; (try with_reducible rfl))
        (try simp only [Act.put, List.setIfInBounds_toArray, List.set_cons_zero, List.set_cons_succ])
        refine wpAnyH_ready (rs := [8]) (by kernel_rfl) (by simp) ?_
        refine AllReadyH.cons (o := ({ dst := some 38, op := Op.call { callee := Callee.value (Operand.func 36), args := #[Operand.tmp 37], argTypes := #[61] }, type := 9, pos := "record.go:82", after := #[{ on := 7, ground := Ground.data }, { on := 3, ground := Ground.chain }], guard := none } : Oper)) rfl (fun K hK => ?_) ?_
        rotate_left 1
        · exact AllReadyH.nil
        go_simp
        go_at_call 36
        ((first | (with_reducible refine (CP.out _ _ _ _ (Ints.newD _ _ WF.out _) (by decide)).mono ?_) | (with_reducible refine (CP.out _ _ _ _ I2.out (by decide)).mono ?_)); rintro e w3 ⟨rfl, hb⟩; (first | have B3 := Lib.hid (show Below wr.heap.size wr w3 from Below.trans0 (Below.alloc0 B2.out _) hb) | have B3 := Lib.hid (show Below wr.heap.size wr w3 from Below.trans0 B2.out hb)); clear hb)
        first | (refine hK.out _ _ ?_ (fun hH3 => ?_)) | (go_wp2_with fail; refine hK.out _ _ ?_ (fun hH3 => ?_))
        · (try dsimp only); with_reducible exact HSS.out _ B3.out
        clear hK K hH2
        (try simp only [Act.put, List.setIfInBounds_toArray, List.set_cons_zero, List.set_cons_succ])
        refine wpAnyH_take (i := 9) (oi := ({ dst := some 39, op := Op.binOp BinOp.add 9 (Operand.tmp 34) (Operand.tmp 38) 9, type := 9, pos := "record.go:82", after := #[{ on := 4, ground := Ground.data }, { on := 8, ground := Ground.data }], guard := none } : Oper)) (v := ?_) rfl (by kernel_rfl) (by kernel_rfl) (by kernel_rfl) (fun _ _ _ h => h) (Or.inl ⟨by rfl, ?_⟩) (by assumption) ?_
        rotate_left 1
        · (intro w hSw; (try dsimp only at hSw); go_simp; (try with_reducible rfl))
        (try simp only [Act.put, List.setIfInBounds_toArray, List.set_cons_zero, List.set_cons_succ])
        refine wpAnyH_take (i := 10) (oi := ({ dst := some 40, op := Op.binOp BinOp.add 9 (Operand.tmp 39) (Operand.const (Value.string { data := #[32] })) 9, type := 9, pos := "record.go:82", after := #[{ on := 9, ground := Ground.data }], guard := none } : Oper)) (v := ?_) rfl (by kernel_rfl) (by kernel_rfl) (by kernel_rfl) (fun _ _ _ h => h) (Or.inl ⟨by rfl, ?_⟩) (by assumption) ?_
        rotate_left 1
        · (intro w hSw; (try dsimp only at hSw); go_simp; (try with_reducible rfl))
        (try simp only [Act.put, List.setIfInBounds_toArray, List.set_cons_zero, List.set_cons_succ])
        refine wpAnyH_take (i := 12) (oi := ({ dst := some 42, op := Op.binOp BinOp.add 9 (Operand.tmp 40) (Operand.tmp 41) 9, type := 9, pos := "record.go:82", after := #[{ on := 10, ground := Ground.data }, { on := 11, ground := Ground.data }], guard := none } : Oper)) (v := ?_) rfl (by kernel_rfl) (by kernel_rfl) (by kernel_rfl) (fun _ _ _ h => h) (Or.inl ⟨by rfl, ?_⟩) (by assumption) ?_
        rotate_left 1
        · (intro w hSw; (try dsimp only at hSw); go_simp; (try with_reducible rfl))
        (try simp only [Act.put, List.setIfInBounds_toArray, List.set_cons_zero, List.set_cons_succ])
        refine wpAnyH_take (i := 13) (oi := ({ dst := some 43, op := Op.binOp BinOp.add 9 (Operand.tmp 42) (Operand.const (Value.string { data := #[32] })) 9, type := 9, pos := "record.go:82", after := #[{ on := 12, ground := Ground.data }], guard := none } : Oper)) (v := ?_) rfl (by kernel_rfl) (by kernel_rfl) (by kernel_rfl) (fun _ _ _ h => h) (Or.inl ⟨by rfl, ?_⟩) (by assumption) ?_
        rotate_left 1
        · (intro w hSw; (try dsimp only at hSw); go_simp; (try with_reducible rfl))
        (try simp only [Act.put, List.setIfInBounds_toArray, List.set_cons_zero, List.set_cons_succ])
        refine wpAnyH_take (i := 16) (oi := ({ dst := some 46, op := Op.binOp BinOp.add 9 (Operand.tmp 43) (Operand.tmp 45) 9, type := 9, pos := "record.go:82", after := #[{ on := 13, ground := Ground.data }, { on := 15, ground := Ground.data }], guard := none } : Oper)) (v := ?_) rfl (by kernel_rfl) (by kernel_rfl) (by kernel_rfl) (fun _ _ _ h => h) (Or.inl ⟨by rfl, ?_⟩) (by assumption) ?_
        rotate_left 1
        · (intro w hSw; (try dsimp only at hSw); go_simp; (try with_reducible rfl))
        (try simp only [Act.put, List.setIfInBounds_toArray, List.set_cons_zero, List.set_cons_succ])
        refine wpAnyH_take (i := 17) (oi := ({ dst := some 47, op := Op.binOp BinOp.add 9 (Operand.tmp 46) (Operand.const (Value.string { data := #[32] })) 9, type := 9, pos := "record.go:82", after := #[{ on := 16, ground := Ground.data }], guard := none } : Oper)) (v := ?_) rfl (by kernel_rfl) (by kernel_rfl) (by kernel_rfl) (fun _ _ _ h => h) (Or.inl ⟨by rfl, ?_⟩) (by assumption) ?_
        rotate_left 1
        · (intro w hSw; (try dsimp only at hSw); go_simp; (try with_reducible rfl))
        (try simp only [Act.put, List.setIfInBounds_toArray, List.set_cons_zero, List.set_cons_succ])
        refine wpAnyH_take (i := 19) (oi := ({ dst := some 49, op := Op.binOp BinOp.add 9 (Operand.tmp 47) (Operand.tmp 48) 9, type := 9, pos := "record.go:82", after := #[{ on := 17, ground := Ground.data }, { on := 18, ground := Ground.data }], guard := none } : Oper)) (v := ?_) rfl (by kernel_rfl) (by kernel_rfl) (by kernel_rfl) (fun _ _ _ h => h) (Or.inl ⟨by rfl, ?_⟩) (by assumption) ?_
        rotate_left 1
        · (intro w hSw; (try dsimp only at hSw); go_simp; (try with_reducible rfl))
        (try simp only [Act.put, List.setIfInBounds_toArray, List.set_cons_zero, List.set_cons_succ])
        refine wpAnyH_take (i := 20) (oi := ({ dst := some 2, op := Op.assign (Operand.tmp 49), type := 9, pos := "record.go:82", after := #[{ on := 19, ground := Ground.data }, { on := 8, ground := Ground.chain }, { on := 0, ground := Ground.phase }, { on := 1, ground := Ground.phase }, { on := 2, ground := Ground.phase }, { on := 3, ground := Ground.phase }, { on := 4, ground := Ground.phase }, { on := 5, ground := Ground.phase }, { on := 6, ground := Ground.phase }, { on := 7, ground := Ground.phase }, { on := 8, ground := Ground.phase }, { on := 9, ground := Ground.phase }, { on := 10, ground := Ground.phase }, { on := 11, ground := Ground.phase }, { on := 12, ground := Ground.phase }, { on := 13, ground := Ground.phase }, { on := 14, ground := Ground.phase }, { on := 15, ground := Ground.phase }, { on := 16, ground := Ground.phase }, { on := 17, ground := Ground.phase }, { on := 18, ground := Ground.phase }, { on := 19, ground := Ground.phase }], guard := none } : Oper)) (v := ?_) rfl (by kernel_rfl) (by kernel_rfl) (by kernel_rfl) (fun _ _ _ h => h) (Or.inl ⟨by rfl, ?_⟩) (by assumption) ?_
        rotate_left 1
        · (intro w hSw; (try dsimp only at hSw); go_simp; (try with_reducible rfl))
        (try simp only [Act.put, List.setIfInBounds_toArray, List.set_cons_zero, List.set_cons_succ])
        refine wpAnyH_done (by kernel_rfl) ?_ _
        refine NoPanic.normal ?_
        clear sz1 sz2 szL ta
        go_wp2
        go_ret
        exact ⟨by rw [HT.out]; rfl, Below.trans0 hB.out B3.out⟩
      exact AllReadyH.nil
set_option maxRecDepth 100000 in
set_option maxHeartbeats 2000000 in
theorem rcText_10 (x : Rc) (hx : x.Ok) (hr : x.r = true) (hm : x.m = false) (w : World) :
    Calls Try.prog 12 #[.agg x.cells] w fun e w' => e = .returned (.string (strOfNums (txN x))) ∧ Below w.heap.size w w' := by
  have CO := Lib.hid (fun w => rcOf_any x w)
  have P0 : Hid (Blk (w.alloc (Obj.cells x.cells 26)) w.heap.size 26 x.cells) := Lib.hid (Blk.new _ _ _ (0, 0))
  have B0 := Lib.hid (Below.alloc0 (Below.refl w.heap.size w) (Obj.cells x.cells 26))
  have CH0 := fun u => hex_any x.a 4 u hx.a0 (by have := hx.a1; omega)
  rw [show clampW 4 = 4 from rfl] at CH0
  have CP0 := fun (A : Option Addr) (n c : Nat) u (h : Ints .u8 u u.heap.size A n [x.d]) (hn : n ≤ 1099511627) => pairs_any A n c [x.d] u h hn
  have sz1 := adN_size x hx
  have sz2 := daN_size x
  have szL : (strOfNums (lnL x 5)).size = 5 := by rw [size_strOf]; rfl
  obtain ⟨s1, h1⟩ : ∃ s, strOfNums (written 16 x.a 4) = s := ⟨_, rfl⟩
  obtain ⟨s2, h2⟩ : ∃ s, strOfNums (pairsOf [x.d]) = s := ⟨_, rfl⟩
  obtain ⟨SL, h3⟩ : ∃ s, strOfNums (lnL x 5) = s := ⟨_, rfl⟩
  rw [h1] at CH0
  rw [h2] at CP0
  rw [show strOfNums (adN x) = s1 from h1] at sz1
  rw [show strOfNums (daN x) = s2 from h2] at sz2
  rw [h3] at szL
  have CH := Lib.hid CH0
  have CP := Lib.hid CP0
  have HT : Hid (strOfNums (txN x) = (((((((s1 ++ strOfNums [32]) ++ s2) ++ strOfNums [32]) ++ strOfNums [82]) ++ strOfNums [32]) ++ SL) ++ strOfNums [32]) ++ strOfNums [45]) := Lib.hid (by
    rw [← h1, ← h2, ← h3, tx_join]
    unfold txN adN daN
    rw [hr, hm]
    rfl)
  have H3 := Lib.hid h3
  have w0 : (Lit.int .u8 x.d).wf = true := by have a := hx.d0; have b := hx.d1; simp [Lit.wf, IntKind.min, IntKind.max, IntKind.signed, IntKind.bits]; omega
  have ta : IntKind.u64.wrap x.a = x.a := by have a := hx.a0; have b := hx.a1; rw [IntKind.wrap_u64]; omega
  have WF := Lib.hid w0
  have Z1 := Lib.hid sz1
  have Z2 := Lib.hid sz2
  have ZL := Lib.hid szL
  have TA := Lib.hid ta
  have HR := Lib.hid hr
  have HM := Lib.hid hm
  clear CH0 CP0 sz1 sz2 szL h1 h2 h3 hx w0 ta hr hm
  go_enter Try.func12, Try.ntmps12
  go_wp2_with fail
  refine (CO.out _).mono ?_
  rintro e w1 ⟨rfl, hb⟩
  have P1 := Lib.hid (Blk.alloc (Blk.alloc (Blk.below P0.out hb P0.out.lt) (Obj.cells x.lv 71)) (Obj.cells #[.int .u8 65, .int .u8 83, .int .u8 76, .int .u8 86, .int .u8 66] 5 (5, 6)))
  have Q1 : Hid (Blk ((w1.alloc (Obj.cells x.lv 71)).alloc (Obj.cells #[.int .u8 65, .int .u8 83, .int .u8 76, .int .u8 86, .int .u8 66] 5 (5, 6))) w1.heap.size 71 x.lv) := Lib.hid (Blk.alloc (Blk.new _ _ _ (0, 0)) _)
  have L1 : Hid (Blk ((w1.alloc (Obj.cells x.lv 71)).alloc (Obj.cells #[.int .u8 65, .int .u8 83, .int .u8 76, .int .u8 86, .int .u8 66] 5 (5, 6))) (w1.heap.size + 1) 5 (((lnL x 0).map (Value.int .u8)).toArray) (5, 6)) := Lib.hid (by
    have := Blk.new (w1.alloc (Obj.cells x.lv 71)) 5 #[.int .u8 65, .int .u8 83, .int .u8 76, .int .u8 86, .int .u8 66] (5, 6)
    rw [show (w1.alloc (Obj.cells x.lv 71)).heap.size = w1.heap.size + 1 by simp] at this
    exact this)
  have B1 := Lib.hid (Below.alloc0 (Below.alloc0 (Below.trans0 B0.out hb) (Obj.cells x.lv 71)) (Obj.cells #[.int .u8 65, .int .u8 83, .int .u8 76, .int .u8 86, .int .u8 66] 5 (5, 6)))
  have LT := Lib.hid (show w.heap.size < w1.heap.size from Nat.lt_of_lt_of_le (by simp) hb.size)
  have P2 := Lib.hid (Blk.alloc (Blk.below P0.out hb P0.out.lt) (Obj.cells x.lv 71))
  obtain ⟨x0, x1, x2, x3, x4, x5, x6, x7, x8⟩ := Blk.c9 P2.out
  rw [HR.out] at x2
  rw [HM.out] at x8
  have hcv : (convert 61 61 (.slice (some ⟨w1.heap.size + 1, 0, none⟩) 5 5)).run Try.prog ((w1.alloc (Obj.cells x.lv 71)).alloc (Obj.cells #[.int .u8 65, .int .u8 83, .int .u8 76, .int .u8 86, .int .u8 66] 5)) = .ok (.slice (some ⟨w1.heap.size + 1, 0, none⟩) 5 5) ((w1.alloc (Obj.cells x.lv 71)).alloc (Obj.cells #[.int .u8 65, .int .u8 83, .int .u8 76, .int .u8 86, .int .u8 66] 5 (5, 6))) := by
    have := Lib.run_convert_bytes_const (P := Try.prog) (w1.alloc (Obj.cells x.lv 71)) 61 5 #[.int .u8 65, .int .u8 83, .int .u8 76, .int .u8 86, .int .u8 66] 5 5 Try.underlying61 Try.underlying5
    rw [show (w1.alloc (Obj.cells x.lv 71)).heap.size = w1.heap.size + 1 by simp] at this
    exact this
  rw [show x.lv = #[.bool x.r, .bool x.b1, .bool x.b2, .bool x.b3, .bool x.b4, .bool x.b5, .bool x.m] from rfl] at hcv
  clear hb P0 B0 CO
  go_wp2
  clear x0 x1 x2 x3 x4 x5 x6 x7 x8 P2 hcv
  go_loopw [18] (fun i wr => ∃ k : Nat, k ≤ 5 ∧ i = .int .i64 k ∧ Hid (Blk wr (w1.heap.size + 1) 5 (((lnL x k).map (Value.int .u8)).toArray) (5, 6)) ∧ Hid (Blk wr w1.heap.size 71 x.lv) ∧ Hid (Blk wr w.heap.size 26 x.cells) ∧ Hid (Below w.heap.size w wr)) (fun i _ => 5 - (intOf i).toNat)
  case atStart => exact ⟨0, by decide, rfl, L1, Q1, P1, B1⟩
  case round =>
    obtain ⟨k, hk, rfl, hL, hQ, hP, hB⟩ := hrel
    by_cases hlt : k < 5
    · obtain ⟨v, hv⟩ := lnL_at x k k hlt
      have cl : wr.cell? ⟨w1.heap.size + 1, k, none⟩ = some (.int .u8 v) := by rw [hL.out.cell]; exact hv
      have cf : wr.frozen? ⟨w1.heap.size + 1, k, none⟩ = false := Blk.frozen' hL.out k (by omega)
      obtain ⟨bt, hbt⟩ : ∃ bt, (if k = 0 then x.b1 else if k = 1 then x.b2 else if k = 2 then x.b3 else if k = 3 then x.b4 else x.b5) = bt := ⟨_, rfl⟩
      have cb : wr.cell? ⟨w1.heap.size, 1 + k, none⟩ = some (.bool bt) := by
        rw [hQ.out.cell, ← hbt]
        rcases (show k = 0 ∨ k = 1 ∨ k = 2 ∨ k = 3 ∨ k = 4 by omega) with rfl | rfl | rfl | rfl | rfl <;> rfl
      have hk0 : (0 : Int) ≤ k := by omega
      have hk5 : (k : Int) < 5 := by omega
      have HL := Lib.hid hlt
      clear hv
      cases bt
      · have HS := Lib.hid (lnA_set x k hlt hbt)
        clear hbt
        go_wp2
        go_roundw
        case rel => exact ⟨k + 1, by omega, by go_num, Lib.hid (by rw [← HS.out]; exact Blk.set_ hL.out k _), Lib.hid (Blk.far hQ.out (by simp) _), Lib.hid (Blk.far hP.out (by have := LT.out; simp; omega) _), Lib.hid (Below.set0 hB.out (by have := LT.out; omega) _)⟩
        case measure => simp [intOf]; omega
      · have HS := Lib.hid (lnA_same x k hlt hbt)
        clear hbt
        go_wp2
        go_roundw
        case rel => exact ⟨k + 1, by omega, by go_num, by rw [HS.out]; exact hL, hQ, hP, hB⟩
        case measure => simp [intOf]; omega
    · obtain rfl : k = 5 := by omega
      obtain ⟨V, hV⟩ : ∃ V, V = wr := ⟨_, rfl⟩
      have HSS : Hid (∀ u : World, Below wr.heap.size wr u → (fun w' => (w'.cell? ⟨w.heap.size, 0, none⟩ = some (.int .u16 x.a) ∧ w'.cell? ⟨w.heap.size, 1, none⟩ = some (.int .u8 x.d)) ∧ (convert 61 9 (.slice (some ⟨w1.heap.size + 1, 0, none⟩) 5 5)).run Try.prog w' = .ok (.string SL) w') u) := Lib.hid (fun u hb => ⟨⟨by rw [(Blk.below hP.out hb hP.out.lt).cell]; rfl, by rw [(Blk.below hP.out hb hP.out.lt).cell]; rfl⟩, by
        rw [← H3.out]
        exact bytes_at' u (w1.heap.size + 1) 0 5 5 (lnL x 5) rfl (fun i hi => by
          rw [Nat.zero_add, (Blk.below hL.out hb hL.out.lt).cell, List.getElem?_toArray, List.getElem?_map, List.getElem?_eq_getElem (show i < (lnL x 5).length from hi), iat_eq _ _ (show i < (lnL x 5).length from hi)]
          rfl)⟩)
      have S0 : Hid ((fun w' => (w'.cell? ⟨w.heap.size, 0, none⟩ = some (.int .u16 x.a) ∧ w'.cell? ⟨w.heap.size, 1, none⟩ = some (.int .u8 x.d)) ∧ (convert 61 9 (.slice (some ⟨w1.heap.size + 1, 0, none⟩) 5 5)).run Try.prog w' = .ok (.string SL) w') wr.drew) := Lib.hid (HSS.out _ (Below.drew0 (Below.refl _ _)))
      have ta := TA.out
      have sz1 := Z1.out
      have sz2 := Z2.out
      have szL := ZL.out
      clear hV V
      go_upto_region 14 with (fail)
      refine wp_region_noPanic ?_
      refine wp_region_held_drew (S := (fun w' => (w'.cell? ⟨w.heap.size, 0, none⟩ = some (.int .u16 x.a) ∧ w'.cell? ⟨w.heap.size, 1, none⟩ = some (.int .u8 x.d)) ∧ (convert 61 9 (.slice (some ⟨w1.heap.size + 1, 0, none⟩) 5 5)).run Try.prog w' = .ok (.string SL) w')) (by kernel_rfl) ?_ (fun hH0 => ?_)
      · (try dsimp only); with_reducible exact S0.out
      refine wpAnyH_take (i := 0) (oi := ({ dst := some 30, op := Op.fieldAddr 26 (Operand.tmp 1) 0, type := 0, pos := "record.go:82", after := #[], guard := none } : Oper)) (v := ?_) rfl (by kernel_rfl) (by kernel_rfl) (by kernel_rfl) (fun _ _ _ h => h) (Or.inl ⟨by rfl, ?_⟩) (by assumption) ?_
      rotate_left 1
      · (intro w hSw; (try dsimp only at hSw); go_simp; (try with_reducible rfl))
      (try simp only [Act.put, List.setIfInBounds_toArray, List.set_cons_zero, List.set_cons_succ])
      refine wpAnyH_take (i := 1) (oi := ({ dst := some 31, op := Op.load 24 (Operand.tmp 30), type := 24, pos := "record.go:82", after := #[{ on := 0, ground := Ground.data }], guard := none } : Oper)) (v := ?_) rfl (by kernel_rfl) (by kernel_rfl) (by kernel_rfl) (fun _ _ _ h => h) (Or.inl ⟨by rfl, ?_⟩) (by assumption) ?_
      rotate_left 1
      · (intro w hSw; (try dsimp only at hSw); go_simp; (try with_reducible rfl))
      (try simp only [Act.put, List.setIfInBounds_toArray, List.set_cons_zero, List.set_cons_succ])
      refine wpAnyH_take (i := 2) (oi := ({ dst := some 32, op := Op.convert 24 33 (Operand.tmp 31), type := 33, pos := "record.go:82", after := #[{ on := 1, ground := Ground.data }], guard := none } : Oper)) (v := ?_) rfl (by kernel_rfl) (by kernel_rfl) (by kernel_rfl) (fun _ _ _ h => h) (Or.inl ⟨by rfl, ?_⟩) (by assumption) ?_
      rotate_left 1
      · (intro w hSw; (try dsimp only at hSw); go_simp; (try with_reducible rfl))
      (try simp only [Act.put, List.setIfInBounds_toArray, List.set_cons_zero, List.set_cons_succ])
      refine wpAnyH_take (i := 5) (oi := ({ dst := some 35, op := Op.fieldAddr 26 (Operand.tmp 1) 1, type := 0, pos := "record.go:82", after := #[], guard := none } : Oper)) (v := ?_) rfl (by kernel_rfl) (by kernel_rfl) (by kernel_rfl) (fun _ _ _ h => h) (Or.inl ⟨by rfl, ?_⟩) (by assumption) ?_
      rotate_left 1
      · (intro w hSw; (try dsimp only at hSw); go_simp; (try with_reducible rfl))
      (try simp only [Act.put, List.setIfInBounds_toArray, List.set_cons_zero, List.set_cons_succ])
      refine wpAnyH_take (i := 6) (oi := ({ dst := some 36, op := Op.load 5 (Operand.tmp 35), type := 5, pos := "record.go:82", after := #[{ on := 5, ground := Ground.data }], guard := none } : Oper)) (v := ?_) rfl (by kernel_rfl) (by kernel_rfl) (by kernel_rfl) (fun _ _ _ h => h) (Or.inl ⟨by rfl, ?_⟩) (by assumption) ?_
      rotate_left 1
      · (intro w hSw; (try dsimp only at hSw); go_simp; (try with_reducible rfl))
      (try simp only [Act.put, List.setIfInBounds_toArray, List.set_cons_zero, List.set_cons_succ])
      refine wpAnyH_take (i := 11) (oi := ({ dst := some 41, op := Op.move (Operand.tmp 4), type := 9, pos := "record.go:82", after := #[], guard := none } : Oper)) (v := ?_) rfl (by kernel_rfl) (by kernel_rfl) (by kernel_rfl) (fun _ _ _ h => h) (Or.inl ⟨by rfl, ?_⟩) (by assumption) ?_
      rotate_left 1
      · (intro w hSw; (try dsimp only at hSw); go_simp; (try with_reducible rfl))
      (try simp only [Act.put, List.setIfInBounds_toArray, List.set_cons_zero, List.set_cons_succ])
      refine wpAnyH_take (i := 14) (oi := ({ dst := some 44, op := Op.move (Operand.tmp 6), type := 61, pos := "record.go:82", after := #[], guard := none } : Oper)) (v := ?_) rfl (by kernel_rfl) (by kernel_rfl) (by kernel_rfl) (fun _ _ _ h => h) (Or.inl ⟨by rfl, ?_⟩) (by assumption) ?_
      rotate_left 1
      · (intro w hSw; (try dsimp only at hSw); go_simp; (try with_reducible rfl))
      (try simp only [Act.put, List.setIfInBounds_toArray, List.set_cons_zero, List.set_cons_succ])
      refine wpAnyH_take (i := 15) (oi := ({ dst := some 45, op := Op.convert 61 9 (Operand.tmp 44), type := 9, pos := "record.go:82", after := #[{ on := 14, ground := Ground.data }], guard := none } : Oper)) (v := ?_) rfl (by kernel_rfl) (by kernel_rfl) (by kernel_rfl) (fun _ _ _ h => h) (Or.inl ⟨by rfl, ?_⟩) (by assumption) ?_
      rotate_left 1
      · (intro w hSw; (try dsimp only at hSw); go_simp; (try with_reducible rfl))
      (try simp only [Act.put, List.setIfInBounds_toArray, List.set_cons_zero, List.set_cons_succ])
      refine wpAnyH_take (i := 18) (oi := ({ dst := some 48, op := Op.move (Operand.tmp 5), type := 9, pos := "record.go:82", after := #[], guard := none } : Oper)) (v := ?_) rfl (by kernel_rfl) (by kernel_rfl) (by kernel_rfl) (fun _ _ _ h => h) (Or.inl ⟨by rfl, ?_⟩) (by assumption) ?_
      rotate_left 1
      · (intro w hSw; (try dsimp only at hSw); go_simp; (try with_reducible rfl))
      (try simp only [Act.put, List.setIfInBounds_toArray, List.set_cons_zero, List.set_cons_succ])
      refine wpAnyH_ready (rs := [3, 7]) (by kernel_rfl) (by simp) ?_
      refine AllReadyH.cons (o := ({ dst := some 33, op := Op.call { callee := Callee.value (Operand.func 35), args := #[Operand.tmp 32, Operand.const (Value.int IntKind.i64 4)], argTypes := #[33, 3] }, type := 9, pos := "record.go:82", after := #[{ on := 2, ground := Ground.data }], guard := none } : Oper)) rfl (fun K hK => ?_) ?_
      · go_simp
        go_at_call 35
        ((with_reducible refine (CH.out _).mono ?_); rintro e w2 ⟨rfl, hb⟩; (first | have B2 := Lib.hid (show Below wr.heap.size wr w2 from Below.trans0 (Below.drew0 (Below.refl _ _)) hb) | have B2 := Lib.hid (show Below wr.heap.size wr w2 from Below.trans0 (Below.drew0 (Below.alloc0 (Below.refl _ _) _)) hb)); (try have I2 := Lib.hid (Ints.below (B' := w2.heap.size) (show Ints .u8 (wr.alloc (Obj.cells #[.int .u8 x.d] 5)).drew (wr.alloc (Obj.cells #[.int .u8 x.d] 5)).drew.heap.size (some ⟨wr.heap.size, 0, none⟩) 1 [x.d] from Ints.newD wr x.d WF.out 5) hb.size hb)); clear hb)
        first | (refine hK.out _ _ ?_ (fun hH1 => ?_)) | (go_wp2_with fail; refine hK.out _ _ ?_ (fun hH1 => ?_))
        · (try dsimp only); with_reducible exact HSS.out _ B2.out
        clear hK K hH0
        (try simp only [Act.put, List.setIfInBounds_toArray, List.set_cons_zero, List.set_cons_succ])
        refine wpAnyH_take (i := 4) (oi := ({ dst := some 34, op := Op.binOp BinOp.add 9 (Operand.tmp 33) (Operand.const (Value.string { data := #[32] })) 9, type := 9, pos := "record.go:82", after := #[{ on := 3, ground := Ground.data }], guard := none } : Oper)) (v := ?_) rfl (by kernel_rfl) (by kernel_rfl) (by kernel_rfl) (fun _ _ _ h => h) (Or.inl ⟨by rfl, ?_⟩) (by assumption) ?_
        rotate_left 1
        · (intro w hSw; (try dsimp only at hSw); go_simp; (try with_reducible rfl))
        (try simp only [Act.put, List.setIfInBounds_toArray, List.set_cons_zero, List.set_cons_succ])
        refine wpAnyH_ready (rs := [7]) (by kernel_rfl) (by simp) ?_
        refine AllReadyH.cons (o := ({ dst := some 37, op := Op.buildSlice 61 1 #[(0, Operand.tmp 36)], type := 61, pos := "record.go:82", after := #[{ on := 6, ground := Ground.data }], guard := none } : Oper)) rfl (fun K hK => ?_) ?_
        rotate_left 1
        · exact AllReadyH.nil
        go_simp
        first | (refine hK.out _ _ ?_ (fun hH2 => ?_)) | (go_wp2_with fail; refine hK.out _ _ ?_ (fun hH2 => ?_))
        · (try dsimp only); with_reducible first | exact HSS.out _ (Below.drew0 (Below.alloc0 (Below.refl _ _) _)) | exact HSS.out _ (Below.alloc0 B2.out _)
        clear hK K hH1
        (try simp only [Act.put, List.setIfInBounds_toArray, List.set_cons_zero, List.set_cons_succ])
        refine wpAnyH_ready (rs := [8]) (by kernel_rfl) (by simp) ?_
        refine AllReadyH.cons (o := ({ dst := some 38, op := Op.call { callee := Callee.value (Operand.func 36), args := #[Operand.tmp 37], argTypes := #[61] }, type := 9, pos := "record.go:82", after := #[{ on := 7, ground := Ground.data }, { on := 3, ground := Ground.chain }], guard := none } : Oper)) rfl (fun K hK => ?_) ?_
        rotate_left 1
        · exact AllReadyH.nil
        go_simp
        go_at_call 36
        ((first | (with_reducible refine (CP.out _ _ _ _ (Ints.newD _ _ WF.out _) (by decide)).mono ?_) | (with_reducible refine (CP.out _ _ _ _ I2.out (by decide)).mono ?_)); rintro e w3 ⟨rfl, hb⟩; (first | have B3 := Lib.hid (show Below wr.heap.size wr w3 from Below.trans0 (Below.alloc0 B2.out _) hb) | have B3 := Lib.hid (show Below wr.heap.size wr w3 from Below.trans0 B2.out hb)); clear hb)
        first | (refine hK.out _ _ ?_ (fun hH3 => ?_)) | (go_wp2_with fail; refine hK.out _ _ ?_ (fun hH3 => ?_))
        · (try dsimp only); with_reducible exact HSS.out _ B3.out
        clear hK K hH2
        (try simp only [Act.put, List.setIfInBounds_toArray, List.set_cons_zero, List.set_cons_succ])
        refine wpAnyH_take (i := 9) (oi := ({ dst := some 39, op := Op.binOp BinOp.add 9 (Operand.tmp 34) (Operand.tmp 38) 9, type := 9, pos := "record.go:82", after := #[{ on := 4, ground := Ground.data }, { on := 8, ground := Ground.data }], guard := none } : Oper)) (v := ?_) rfl (by kernel_rfl) (by kernel_rfl) (by kernel_rfl) (fun _ _ _ h => h) (Or.inl ⟨by rfl, ?_⟩) (by assumption) ?_
        rotate_left 1
        · (intro w hSw; (try dsimp only at hSw); go_simp; (try with_reducible rfl))
        (try simp only [Act.put, List.setIfInBounds_toArray, List.set_cons_zero, List.set_cons_succ])
        refine wpAnyH_take (i := 10) (oi := ({ dst := some 40, op := Op.binOp BinOp.add 9 (Operand.tmp 39) (Operand.const (Value.string { data := #[32] })) 9, type := 9, pos := "record.go:82", after := #[{ on := 9, ground := Ground.data }], guard := none } : Oper)) (v := ?_) rfl (by kernel_rfl) (by kernel_rfl) (by kernel_rfl) (fun _ _ _ h => h) (Or.inl ⟨by rfl, ?_⟩) (by assumption) ?_
        rotate_left 1
        · (intro w hSw; (try dsimp only at hSw); go_simp; (try with_reducible rfl))
        (try simp only [Act.put, List.setIfInBounds_toArray, List.set_cons_zero, List.set_cons_succ])
        refine wpAnyH_take (i := 12) (oi := ({ dst := some 42, op := Op.binOp BinOp.add 9 (Operand.tmp 40) (Operand.tmp 41) 9, type := 9, pos := "record.go:82", after := #[{ on := 10, ground := Ground.data }, { on := 11, ground := Ground.data }], guard := none } : Oper)) (v := ?_) rfl (by kernel_rfl) (by kernel_rfl) (by kernel_rfl) (fun _ _ _ h => h) (Or.inl ⟨by rfl, ?_⟩) (by assumption) ?_
        rotate_left 1
        · (intro w hSw; (try dsimp only at hSw); go_simp; (try with_reducible rfl))
        (try simp only [Act.put, List.setIfInBounds_toArray, List.set_cons_zero, List.set_cons_succ])
        refine wpAnyH_take (i := 13) (oi := ({ dst := some 43, op := Op.binOp BinOp.add 9 (Operand.tmp 42) (Operand.const (Value.string { data := #[32] })) 9, type := 9, pos := "record.go:82", after := #[{ on := 12, ground := Ground.data }], guard := none } : Oper)) (v := ?_) rfl (by kernel_rfl) (by kernel_rfl) (by kernel_rfl) (fun _ _ _ h => h) (Or.inl ⟨by rfl, ?_⟩) (by assumption) ?_
        rotate_left 1
        · (intro w hSw; (try dsimp only at hSw); go_simp; (try with_reducible rfl))
        (try simp only [Act.put, List.setIfInBounds_toArray, List.set_cons_zero, List.set_cons_succ])
        refine wpAnyH_take (i := 16) (oi := ({ dst := some 46, op := Op.binOp BinOp.add 9 (Operand.tmp 43) (Operand.tmp 45) 9, type := 9, pos := "record.go:82", after := #[{ on := 13, ground := Ground.data }, { on := 15, ground := Ground.data }], guard := none } : Oper)) (v := ?_) rfl (by kernel_rfl) (by kernel_rfl) (by kernel_rfl) (fun _ _ _ h => h) (Or.inl ⟨by rfl, ?_⟩) (by assumption) ?_
        rotate_left 1
        · (intro w hSw; (try dsimp only at hSw); go_simp; (try with_reducible rfl))
        (try simp only [Act.put, List.setIfInBounds_toArray, List.set_cons_zero, List.set_cons_succ])
        refine wpAnyH_take (i := 17) (oi := ({ dst := some 47, op := Op.binOp BinOp.add 9 (Operand.tmp 46) (Operand.const (Value.string { data := #[32] })) 9, type := 9, pos := "record.go:82", after := #[{ on := 16, ground := Ground.data }], guard := none } : Oper)) (v := ?_) rfl (by kernel_rfl) (by kernel_rfl) (by kernel_rfl) (fun _ _ _ h => h) (Or.inl ⟨by rfl, ?_⟩) (by assumption) ?_
        rotate_left 1
        · (intro w hSw; (try dsimp only at hSw); go_simp; (try with_reducible rfl))
        (try simp only [Act.put, List.setIfInBounds_toArray, List.set_cons_zero, List.set_cons_succ])
        refine wpAnyH_take (i := 19) (oi := ({ dst := some 49, op := Op.binOp BinOp.add 9 (Operand.tmp 47) (Operand.tmp 48) 9, type := 9, pos := "record.go:82", after := #[{ on := 17, ground := Ground.data }, { on := 18, ground := Ground.data }], guard := none } : Oper)) (v := ?_) rfl (by kernel_rfl) (by kernel_rfl) (by kernel_rfl) (fun _ _ _ h => h) (Or.inl ⟨by rfl, ?_⟩) (by assumption) ?_
        rotate_left 1
        · (intro w hSw; (try dsimp only at hSw); go_simp; (try with_reducible rfl))
        (try simp only [Act.put, List.setIfInBounds_toArray, List.set_cons_zero, List.set_cons_succ])
        refine wpAnyH_take (i := 20) (oi := ({ dst := some 2, op := Op.assign (Operand.tmp 49), type := 9, pos := "record.go:82", after := #[{ on := 19, ground := Ground.data }, { on := 8, ground := Ground.chain }, { on := 0, ground := Ground.phase }, { on := 1, ground := Ground.phase }, { on := 2, ground := Ground.phase }, { on := 3, ground := Ground.phase }, { on := 4, ground := Ground.phase }, { on := 5, ground := Ground.phase }, { on := 6, ground := Ground.phase }, { on := 7, ground := Ground.phase }, { on := 8, ground := Ground.phase }, { on := 9, ground := Ground.phase }, { on := 10, ground := Ground.phase }, { on := 11, ground := Ground.phase }, { on := 12, ground := Ground.phase }, { on := 13, ground := Ground.phase }, { on := 14, ground := Ground.phase }, { on := 15, ground := Ground.phase }, { on := 16, ground := Ground.phase }, { on := 17, ground := Ground.phase }, { on := 18, ground := Ground.phase }, { on := 19, ground := Ground.phase }], guard := none } : Oper)) (v := ?_) rfl (by kernel_rfl) (by kernel_rfl) (by kernel_rfl) (fun _ _ _ h => h) (Or.inl ⟨by rfl, ?_⟩) (by assumption) ?_
        rotate_left 1
        · (intro w hSw; (try dsimp only at hSw); go_simp; (try with_reducible rfl))
        (try simp only [Act.put, List.setIfInBounds_toArray, List.set_cons_zero, List.set_cons_succ])
        refine wpAnyH_done (by kernel_rfl) ?_ _
        refine NoPanic.normal ?_
        clear sz1 sz2 szL ta
        go_wp2
        go_ret
        exact ⟨by rw [HT.out]; rfl, Below.trans0 hB.out B3.out⟩
      refine AllReadyH.cons (o := ({ dst := some 37, op := Op.buildSlice 61 1 #[(0, Operand.tmp 36)], type := 61, pos := "record.go:82", after := #[{ on := 6, ground := Ground.data }], guard := none } : Oper)) rfl (fun K hK => ?_) ?_
      · go_simp
        first | (refine hK.out _ _ ?_ (fun hH1 => ?_)) | (go_wp2_with fail; refine hK.out _ _ ?_ (fun hH1 => ?_))
        · (try dsimp only); with_reducible first | exact HSS.out _ (Below.drew0 (Below.alloc0 (Below.refl _ _) _)) | exact HSS.out _ (Below.alloc0 B2.out _)
        clear hK K hH0
        (try simp only [Act.put, List.setIfInBounds_toArray, List.set_cons_zero, List.set_cons_succ])
        refine wpAnyH_ready (rs := [3]) (by kernel_rfl) (by simp) ?_
        refine AllReadyH.cons (o := ({ dst := some 33, op := Op.call { callee := Callee.value (Operand.func 35), args := #[Operand.tmp 32, Operand.const (Value.int IntKind.i64 4)], argTypes := #[33, 3] }, type := 9, pos := "record.go:82", after := #[{ on := 2, ground := Ground.data }], guard := none } : Oper)) rfl (fun K hK => ?_) ?_
        rotate_left 1
        · exact AllReadyH.nil
        go_simp
        go_at_call 35
        ((with_reducible refine (CH.out _).mono ?_); rintro e w2 ⟨rfl, hb⟩; (first | have B2 := Lib.hid (show Below wr.heap.size wr w2 from Below.trans0 (Below.drew0 (Below.refl _ _)) hb) | have B2 := Lib.hid (show Below wr.heap.size wr w2 from Below.trans0 (Below.drew0 (Below.alloc0 (Below.refl _ _) _)) hb)); (try have I2 := Lib.hid (Ints.below (B' := w2.heap.size) (show Ints .u8 (wr.alloc (Obj.cells #[.int .u8 x.d] 5)).drew (wr.alloc (Obj.cells #[.int .u8 x.d] 5)).drew.heap.size (some ⟨wr.heap.size, 0, none⟩) 1 [x.d] from Ints.newD wr x.d WF.out 5) hb.size hb)); clear hb)
        first | (refine hK.out _ _ ?_ (fun hH2 => ?_)) | (go_wp2_with fail; refine hK.out _ _ ?_ (fun hH2 => ?_))
        · (try dsimp only); with_reducible exact HSS.out _ B2.out
        clear hK K hH1
        (try simp only [Act.put, List.setIfInBounds_toArray, List.set_cons_zero, List.set_cons_succ])
        refine wpAnyH_take (i := 4) (oi := ({ dst := some 34, op := Op.binOp BinOp.add 9 (Operand.tmp 33) (Operand.const (Value.string { data := #[32] })) 9, type := 9, pos := "record.go:82", after := #[{ on := 3, ground := Ground.data }], guard := none } : Oper)) (v := ?_) rfl (by kernel_rfl) (by kernel_rfl) (by kernel_rfl) (fun _ _ _ h => h) (Or.inl ⟨by rfl, ?_⟩) (by assumption) ?_
        rotate_left 1
        · (intro w hSw; (try dsimp only at hSw); go_simp; (try with_reducible rfl))
        (try simp only [Act.put, List.setIfInBounds_toArray, List.set_cons_zero, List.set_cons_succ])
        refine wpAnyH_ready (rs := [8]) (by kernel_rfl) (by simp) ?_
        refine AllReadyH.cons (o := ({ dst := some 38, op := Op.call { callee := Callee.value (Operand.func 36), args := #[Operand.tmp 37], argTypes := #[61] }, type := 9, pos := "record.go:82", after := #[{ on := 7, ground := Ground.data }, { on := 3, ground := Ground.chain }], guard := none } : Oper)) rfl (fun K hK => ?_) ?_
        rotate_left 1
        · exact AllReadyH.nil
        go_simp
        go_at_call 36
        ((first | (with_reducible refine (CP.out _ _ _ _ (Ints.newD _ _ WF.out _) (by decide)).mono ?_) | (with_reducible refine (CP.out _ _ _ _ I2.out (by decide)).mono ?_)); rintro e w3 ⟨rfl, hb⟩; (first | have B3 := Lib.hid (show Below wr.heap.size wr w3 from Below.trans0 (Below.alloc0 B2.out _) hb) | have B3 := Lib.hid (show Below wr.heap.size wr w3 from Below.trans0 B2.out hb)); clear hb)
        first | (refine hK.out _ _ ?_ (fun hH3 => ?_)) | (go_wp2_with fail; refine hK.out _ _ ?_ (fun hH3 => ?_))
        · (try dsimp only); with_reducible exact HSS.out _ B3.out
        clear hK K hH2
        (try simp only [Act.put, List.setIfInBounds_toArray, List.set_cons_zero, List.set_cons_succ])
        refine wpAnyH_take (i := 9) (oi := ({ dst := some 39, op := Op.binOp BinOp.add 9 (Operand.tmp 34) (Operand.tmp 38) 9, type := 9, pos := "record.go:82", after := #[{ on := 4, ground := Ground.data }, { on := 8, ground := Ground.data }], guard := none } : Oper)) (v := ?_) rfl (by kernel_rfl) (by kernel_rfl) (by kernel_rfl) (fun _ _ _ h => h) (Or.inl ⟨by rfl, ?_⟩) (by assumption) ?_
        rotate_left 1
        · (intro w hSw; (try dsimp only at hSw); go_simp; (try with_reducible rfl))
        (try simp only [Act.put, List.setIfInBounds_toArray, List.set_cons_zero, List.set_cons_succ])
        refine wpAnyH_take (i := 10) (oi := ({ dst := some 40, op := Op.binOp BinOp.add 9 (Operand.tmp 39) (Operand.const (Value.string { data := #[32] })) 9, type := 9, pos := "record.go:82", after := #[{ on := 9, ground := Ground.data }], guard := none } : Oper)) (v := ?_) rfl (by kernel_rfl) (by kernel_rfl) (by kernel_rfl) (fun _ _ _ h => h) (Or.inl ⟨by rfl, ?_⟩) (by assumption) ?_
        rotate_left 1
        · (intro w hSw; (try dsimp only at hSw); go_simp; (try with_reducible rfl))
        (try simp only [Act.put, List.setIfInBounds_toArray, List.set_cons_zero, List.set_cons_succ])
        refine wpAnyH_take (i := 12) (oi := ({ dst := some 42, op := Op.binOp BinOp.add 9 (Operand.tmp 40) (Operand.tmp 41) 9, type := 9, pos := "record.go:82", after := #[{ on := 10, ground := Ground.data }, { on := 11, ground := Ground.data }], guard := none } : Oper)) (v := ?_) rfl (by kernel_rfl) (by kernel_rfl) (by kernel_rfl) (fun _ _ _ h => h) (Or.inl ⟨by rfl, ?_⟩) (by assumption) ?_
        rotate_left 1
        · (intro w hSw; (try dsimp only at hSw); go_simp; (try with_reducible rfl))
        (try simp only [Act.put, List.setIfInBounds_toArray, List.set_cons_zero, List.set_cons_succ])
        refine wpAnyH_take (i := 13) (oi := ({ dst := some 43, op := Op.binOp BinOp.add 9 (Operand.tmp 42) (Operand.const (Value.string { data := #[32] })) 9, type := 9, pos := "record.go:82", after := #[{ on := 12, ground := Ground.data }], guard := none } : Oper)) (v := ?_) rfl (by kernel_rfl) (by kernel_rfl) (by kernel_rfl) (fun _ _ _ h => h) (Or.inl ⟨by rfl, ?_⟩) (by assumption) ?_
        rotate_left 1
        · (intro w hSw; (try dsimp only at hSw); go_simp; (try with_reducible rfl))
        (try simp only [Act.put, List.setIfInBounds_toArray, List.set_cons_zero, List.set_cons_succ])
        refine wpAnyH_take (i := 16) (oi := ({ dst := some 46, op := Op.binOp BinOp.add 9 (Operand.tmp 43) (Operand.tmp 45) 9, type := 9, pos := "record.go:82", after := #[{ on := 13, ground := Ground.data }, { on := 15, ground := Ground.data }], guard := none } : Oper)) (v := ?_) rfl (by kernel_rfl) (by kernel_rfl) (by kernel_rfl) (fun _ _ _ h => h) (Or.inl ⟨by rfl, ?_⟩) (by assumption) ?_
        rotate_left 1
        · (intro w hSw; (try dsimp only at hSw); go_simp; (try with_reducible rfl))
        (try simp only [Act.put, List.setIfInBounds_toArray, List.set_cons_zero, List.set_cons_succ])
        refine wpAnyH_take (i := 17) (oi := ({ dst := some 47, op := Op.binOp BinOp.add 9 (Operand.tmp 46) (Operand.const (Value.string { data := #[32] })) 9, type := 9, pos := "record.go:82", after := #[{ on := 16, ground := Ground.data }], guard := none } : Oper)) (v := ?_) rfl (by kernel_rfl) (by kernel_rfl) (by kernel_rfl) (fun _ _ _ h => h) (Or.inl ⟨by rfl, ?_⟩) (by assumption) ?_
        rotate_left 1
        · (intro w hSw; (try dsimp only at hSw); go_simp; (try with_reducible rfl))
        (try simp only [Act.put, List.setIfInBounds_toArray, List.set_cons_zero, List.set_cons_succ])
        refine wpAnyH_take (i := 19) (oi := ({ dst := some 49, op := Op.binOp BinOp.add 9 (Operand.tmp 47) (Operand.tmp 48) 9, type := 9, pos := "record.go:82", after := #[{ on := 17, ground := Ground.data }, { on := 18, ground := Ground.data }], guard := none } : Oper)) (v := ?_) rfl (by kernel_rfl) (by kernel_rfl) (by kernel_rfl) (fun _ _ _ h => h) (Or.inl ⟨by rfl, ?_⟩) (by assumption) ?_
        rotate_left 1
        · (intro w hSw; (try dsimp only at hSw); go_simp; (try with_reducible rfl))
        (try simp only [Act.put, List.setIfInBounds_toArray, List.set_cons_zero, List.set_cons_succ])
        refine wpAnyH_take (i := 20) (oi := ({ dst := some 2, op := Op.assign (Operand.tmp 49), type := 9, pos := "record.go:82", after := #[{ on := 19, ground := Ground.data }, { on := 8, ground := Ground.chain }, { on := 0, ground := Ground.phase }, { on := 1, ground := Ground.phase }, { on := 2, ground := Ground.phase }, { on := 3, ground := Ground.phase }, { on := 4, ground := Ground.phase }, { on := 5, ground := Ground.phase }, { on := 6, ground := Ground.phase }, { on := 7, ground := Ground.phase }, { on := 8, ground := Ground.phase }, { on := 9, ground := Ground.phase }, { on := 10, ground := Ground.phase }, { on := 11, ground := Ground.phase }, { on := 12, ground := Ground.phase }, { on := 13, ground := Ground.phase }, { on := 14, ground := Ground.phase }, { on := 15, ground := Ground.phase }, { on := 16, ground := Ground.phase }, { on := 17, ground := Ground.phase }, { on := 18, ground := Ground.phase }, { on := 19, ground := Ground.phase }], guard := none } : Oper)) (v := ?_) rfl (by kernel_rfl) (by kernel_rfl) (by kernel_rfl) (fun _ _ _ h => h) (Or.inl ⟨by rfl, ?_⟩) (by assumption) ?_
        rotate_left 1
        · (intro w hSw; (try dsimp only at hSw); go_simp; (try with_reducible rfl))
        (try simp only [Act.put, List.setIfInBounds_toArray, List.set_cons_zero, List.set_cons_succ])
        refine wpAnyH_done (by kernel_rfl) ?_ _
        refine NoPanic.normal ?_
        clear sz1 sz2 szL ta
        go_wp2
        go_ret
        exact ⟨by rw [HT.out]; rfl, Below.trans0 hB.out B3.out⟩
      exact AllReadyH.nil
set_option maxRecDepth 100000 in
set_option maxHeartbeats 2000000 in
theorem rcText_11 (x : Rc) (hx : x.Ok) (hr : x.r = true) (hm : x.m = true) (w : World) :
    Calls Try.prog 12 #[.agg x.cells] w fun e w' => e = .returned (.string (strOfNums (txN x))) ∧ Below w.heap.size w w' := by
  have CO := Lib.hid (fun w => rcOf_any x w)
  have P0 : Hid (Blk (w.alloc (Obj.cells x.cells 26)) w.heap.size 26 x.cells) := Lib.hid (Blk.new _ _ _ (0, 0))
  have B0 := Lib.hid (Below.alloc0 (Below.refl w.heap.size w) (Obj.cells x.cells 26))
  have CH0 := fun u => hex_any x.a 4 u hx.a0 (by have := hx.a1; omega)
  rw [show clampW 4 = 4 from rfl] at CH0
  have CP0 := fun (A : Option Addr) (n c : Nat) u (h : Ints .u8 u u.heap.size A n [x.d]) (hn : n ≤ 1099511627) => pairs_any A n c [x.d] u h hn
  have sz1 := adN_size x hx
  have sz2 := daN_size x
  have szL : (strOfNums (lnL x 5)).size = 5 := by rw [size_strOf]; rfl
  obtain ⟨s1, h1⟩ : ∃ s, strOfNums (written 16 x.a 4) = s := ⟨_, rfl⟩
  obtain ⟨s2, h2⟩ : ∃ s, strOfNums (pairsOf [x.d]) = s := ⟨_, rfl⟩
  obtain ⟨SL, h3⟩ : ∃ s, strOfNums (lnL x 5) = s := ⟨_, rfl⟩
  rw [h1] at CH0
  rw [h2] at CP0
  rw [show strOfNums (adN x) = s1 from h1] at sz1
  rw [show strOfNums (daN x) = s2 from h2] at sz2
  rw [h3] at szL
  have CH := Lib.hid CH0
  have CP := Lib.hid CP0
  have HT : Hid (strOfNums (txN x) = (((((((s1 ++ strOfNums [32]) ++ s2) ++ strOfNums [32]) ++ strOfNums [82]) ++ strOfNums [32]) ++ SL) ++ strOfNums [32]) ++ strOfNums [77]) := Lib.hid (by
    rw [← h1, ← h2, ← h3, tx_join]
    unfold txN adN daN
    rw [hr, hm]
    rfl)
  have H3 := Lib.hid h3
  have w0 : (Lit.int .u8 x.d).wf = true := by have a := hx.d0; have b := hx.d1; simp [Lit.wf, IntKind.min, IntKind.max, IntKind.signed, IntKind.bits]; omega
  have ta : IntKind.u64.wrap x.a = x.a := by have a := hx.a0; have b := hx.a1; rw [IntKind.wrap_u64]; omega
  have WF := Lib.hid w0
  have Z1 := Lib.hid sz1
  have Z2 := Lib.hid sz2
  have ZL := Lib.hid szL
  have TA := Lib.hid ta
  have HR := Lib.hid hr
  have HM := Lib.hid hm
  clear CH0 CP0 sz1 sz2 szL h1 h2 h3 hx w0 ta hr hm
  go_enter Try.func12, Try.ntmps12
  go_wp2_with fail
  refine (CO.out _).mono ?_
  rintro e w1 ⟨rfl, hb⟩
  have P1 := Lib.hid (Blk.alloc (Blk.alloc (Blk.below P0.out hb P0.out.lt) (Obj.cells x.lv 71)) (Obj.cells #[.int .u8 65, .int .u8 83, .int .u8 76, .int .u8 86, .int .u8 66] 5 (5, 6)))
  have Q1 : Hid (Blk ((w1.alloc (Obj.cells x.lv 71)).alloc (Obj.cells #[.int .u8 65, .int .u8 83, .int .u8 76, .int .u8 86, .int .u8 66] 5 (5, 6))) w1.heap.size 71 x.lv) := Lib.hid (Blk.alloc (Blk.new _ _ _ (0, 0)) _)
  have L1 : Hid (Blk ((w1.alloc (Obj.cells x.lv 71)).alloc (Obj.cells #[.int .u8 65, .int .u8 83, .int .u8 76, .int .u8 86, .int .u8 66] 5 (5, 6))) (w1.heap.size + 1) 5 (((lnL x 0).map (Value.int .u8)).toArray) (5, 6)) := Lib.hid (by
    have := Blk.new (w1.alloc (Obj.cells x.lv 71)) 5 #[.int .u8 65, .int .u8 83, .int .u8 76, .int .u8 86, .int .u8 66] (5, 6)
    rw [show (w1.alloc (Obj.cells x.lv 71)).heap.size = w1.heap.size + 1 by simp] at this
    exact this)
  have B1 := Lib.hid (Below.alloc0 (Below.alloc0 (Below.trans0 B0.out hb) (Obj.cells x.lv 71)) (Obj.cells #[.int .u8 65, .int .u8 83, .int .u8 76, .int .u8 86, .int .u8 66] 5 (5, 6)))
  have LT := Lib.hid (show w.heap.size < w1.heap.size from Nat.lt_of_lt_of_le (by simp) hb.size)
  have P2 := Lib.hid (Blk.alloc (Blk.below P0.out hb P0.out.lt) (Obj.cells x.lv 71))
  obtain ⟨x0, x1, x2, x3, x4, x5, x6, x7, x8⟩ := Blk.c9 P2.out
  rw [HR.out] at x2
  rw [HM.out] at x8
  have hcv : (convert 61 61 (.slice (some ⟨w1.heap.size + 1, 0, none⟩) 5 5)).run Try.prog ((w1.alloc (Obj.cells x.lv 71)).alloc (Obj.cells #[.int .u8 65, .int .u8 83, .int .u8 76, .int .u8 86, .int .u8 66] 5)) = .ok (.slice (some ⟨w1.heap.size + 1, 0, none⟩) 5 5) ((w1.alloc (Obj.cells x.lv 71)).alloc (Obj.cells #[.int .u8 65, .int .u8 83, .int .u8 76, .int .u8 86, .int .u8 66] 5 (5, 6))) := by
    have := Lib.run_convert_bytes_const (P := Try.prog) (w1.alloc (Obj.cells x.lv 71)) 61 5 #[.int .u8 65, .int .u8 83, .int .u8 76, .int .u8 86, .int .u8 66] 5 5 Try.underlying61 Try.underlying5
    rw [show (w1.alloc (Obj.cells x.lv 71)).heap.size = w1.heap.size + 1 by simp] at this
    exact this
  rw [show x.lv = #[.bool x.r, .bool x.b1, .bool x.b2, .bool x.b3, .bool x.b4, .bool x.b5, .bool x.m] from rfl] at hcv
  clear hb P0 B0 CO
  go_wp2
  clear x0 x1 x2 x3 x4 x5 x6 x7 x8 P2 hcv
  go_loopw [18] (fun i wr => ∃ k : Nat, k ≤ 5 ∧ i = .int .i64 k ∧ Hid (Blk wr (w1.heap.size + 1) 5 (((lnL x k).map (Value.int .u8)).toArray) (5, 6)) ∧ Hid (Blk wr w1.heap.size 71 x.lv) ∧ Hid (Blk wr w.heap.size 26 x.cells) ∧ Hid (Below w.heap.size w wr)) (fun i _ => 5 - (intOf i).toNat)
  case atStart => exact ⟨0, by decide, rfl, L1, Q1, P1, B1⟩
  case round =>
    obtain ⟨k, hk, rfl, hL, hQ, hP, hB⟩ := hrel
    by_cases hlt : k < 5
    · obtain ⟨v, hv⟩ := lnL_at x k k hlt
      have cl : wr.cell? ⟨w1.heap.size + 1, k, none⟩ = some (.int .u8 v) := by rw [hL.out.cell]; exact hv
      have cf : wr.frozen? ⟨w1.heap.size + 1, k, none⟩ = false := Blk.frozen' hL.out k (by omega)
      obtain ⟨bt, hbt⟩ : ∃ bt, (if k = 0 then x.b1 else if k = 1 then x.b2 else if k = 2 then x.b3 else if k = 3 then x.b4 else x.b5) = bt := ⟨_, rfl⟩
      have cb : wr.cell? ⟨w1.heap.size, 1 + k, none⟩ = some (.bool bt) := by
        rw [hQ.out.cell, ← hbt]
        rcases (show k = 0 ∨ k = 1 ∨ k = 2 ∨ k = 3 ∨ k = 4 by omega) with rfl | rfl | rfl | rfl | rfl <;> rfl
      have hk0 : (0 : Int) ≤ k := by omega
      have hk5 : (k : Int) < 5 := by omega
      have HL := Lib.hid hlt
      clear hv
      cases bt
      · have HS := Lib.hid (lnA_set x k hlt hbt)
        clear hbt
        go_wp2
        go_roundw
        case rel => exact ⟨k + 1, by omega, by go_num, Lib.hid (by rw [← HS.out]; exact Blk.set_ hL.out k _), Lib.hid (Blk.far hQ.out (by simp) _), Lib.hid (Blk.far hP.out (by have := LT.out; simp; omega) _), Lib.hid (Below.set0 hB.out (by have := LT.out; omega) _)⟩
        case measure => simp [intOf]; omega
      · have HS := Lib.hid (lnA_same x k hlt hbt)
        clear hbt
        go_wp2
        go_roundw
        case rel => exact ⟨k + 1, by omega, by go_num, by rw [HS.out]; exact hL, hQ, hP, hB⟩
        case measure => simp [intOf]; omega
    · obtain rfl : k = 5 := by omega
      obtain ⟨V, hV⟩ : ∃ V, V = wr := ⟨_, rfl⟩
      have HSS : Hid (∀ u : World, Below wr.heap.size wr u → (fun w' => (w'.cell? ⟨w.heap.size, 0, none⟩ = some (.int .u16 x.a) ∧ w'.cell? ⟨w.heap.size, 1, none⟩ = some (.int .u8 x.d)) ∧ (convert 61 9 (.slice (some ⟨w1.heap.size + 1, 0, none⟩) 5 5)).run Try.prog w' = .ok (.string SL) w') u) := Lib.hid (fun u hb => ⟨⟨by rw [(Blk.below hP.out hb hP.out.lt).cell]; rfl, by rw [(Blk.below hP.out hb hP.out.lt).cell]; rfl⟩, by
        rw [← H3.out]
        exact bytes_at' u (w1.heap.size + 1) 0 5 5 (lnL x 5) rfl (fun i hi => by
          rw [Nat.zero_add, (Blk.below hL.out hb hL.out.lt).cell, List.getElem?_toArray, List.getElem?_map, List.getElem?_eq_getElem (show i < (lnL x 5).length from hi), iat_eq _ _ (show i < (lnL x 5).length from hi)]
          rfl)⟩)
      have S0 : Hid ((fun w' => (w'.cell? ⟨w.heap.size, 0, none⟩ = some (.int .u16 x.a) ∧ w'.cell? ⟨w.heap.size, 1, none⟩ = some (.int .u8 x.d)) ∧ (convert 61 9 (.slice (some ⟨w1.heap.size + 1, 0, none⟩) 5 5)).run Try.prog w' = .ok (.string SL) w') wr.drew) := Lib.hid (HSS.out _ (Below.drew0 (Below.refl _ _)))
      have ta := TA.out
      have sz1 := Z1.out
      have sz2 := Z2.out
      have szL := ZL.out
      clear hV V
      go_upto_region 14 with (fail)
      refine wp_region_noPanic ?_
      refine wp_region_held_drew (S := (fun w' => (w'.cell? ⟨w.heap.size, 0, none⟩ = some (.int .u16 x.a) ∧ w'.cell? ⟨w.heap.size, 1, none⟩ = some (.int .u8 x.d)) ∧ (convert 61 9 (.slice (some ⟨w1.heap.size + 1, 0, none⟩) 5 5)).run Try.prog w' = .ok (.string SL) w')) (by kernel_rfl) ?_ (fun hH0 => ?_)
      · (try dsimp only); with_reducible exact S0.out
      refine wpAnyH_take (i := 0) (oi := ({ dst := some 30, op := Op.fieldAddr 26 (Operand.tmp 1) 0, type := 0, pos := "record.go:82", after := #[], guard := none } : Oper)) (v := ?_) rfl (by kernel_rfl) (by kernel_rfl) (by kernel_rfl) (fun _ _ _ h => h) (Or.inl ⟨by rfl, ?_⟩) (by assumption) ?_
      rotate_left 1
      · (intro w hSw; (try dsimp only at hSw); go_simp; (try with_reducible rfl))
      (try simp only [Act.put, List.setIfInBounds_toArray, List.set_cons_zero, List.set_cons_succ])
      refine wpAnyH_take (i := 1) (oi := ({ dst := some 31, op := Op.load 24 (Operand.tmp 30), type := 24, pos := "record.go:82", after := #[{ on := 0, ground := Ground.data }], guard := none } : Oper)) (v := ?_) rfl (by kernel_rfl) (by kernel_rfl) (by kernel_rfl) (fun _ _ _ h => h) (Or.inl ⟨by rfl, ?_⟩) (by assumption) ?_
      rotate_left 1
      · (intro w hSw; (try dsimp only at hSw); go_simp; (try with_reducible rfl))
      (try simp only [Act.put, List.setIfInBounds_toArray, List.set_cons_zero, List.set_cons_succ])
      refine wpAnyH_take (i := 2) (oi := ({ dst := some 32, op := Op.convert 24 33 (Operand.tmp 31), type := 33, pos := "record.go:82", after := #[{ on := 1, ground := Ground.data }], guard := none } : Oper)) (v := ?_) rfl (by kernel_rfl) (by kernel_rfl) (by kernel_rfl) (fun _ _ _ h => h) (Or.inl ⟨by rfl, ?_⟩) (by assumption) ?_
      rotate_left 1
      · (intro w hSw; (try dsimp only at hSw); go_simp; (try with_reducible rfl))
      (try simp only [Act.put, List.setIfInBounds_toArray, List.set_cons_zero, List.set_cons_succ])
      refine wpAnyH_take (i := 5) (oi := ({ dst := some 35, op := Op.fieldAddr 26 (Operand.tmp 1) 1, type := 0, pos := "record.go:82", after := #[], guard := none } : Oper)) (v := ?_) rfl (by kernel_rfl) (by kernel_rfl) (by kernel_rfl) (fun _ _ _ h => h) (Or.inl ⟨by rfl, ?_⟩) (by assumption) ?_
      rotate_left 1
      · (intro w hSw; (try dsimp only at hSw); go_simp; (try with_reducible rfl))
      (try simp only [Act.put, List.setIfInBounds_toArray, List.set_cons_zero, List.set_cons_succ])
      refine wpAnyH_take (i := 6) (oi := ({ dst := some 36, op := Op.load 5 (Operand.tmp 35), type := 5, pos := "record.go:82", after := #[{ on := 5, ground := Ground.data }], guard := none } : Oper)) (v := ?_) rfl (by kernel_rfl) (by kernel_rfl) (by kernel_rfl) (fun _ _ _ h => h) (Or.inl ⟨by rfl, ?_⟩) (by assumption) ?_
      rotate_left 1
      · (intro w hSw; (try dsimp only at hSw); go_simp; (try with_reducible rfl))
      (try simp only [Act.put, List.setIfInBounds_toArray, List.set_cons_zero, List.set_cons_succ])
      refine wpAnyH_take (i := 11) (oi := ({ dst := some 41, op := Op.move (Operand.tmp 4), type := 9, pos := "record.go:82", after := #[], guard := none } : Oper)) (v := ?_) rfl (by kernel_rfl) (by kernel_rfl) (by kernel_rfl) (fun _ _ _ h => h) (Or.inl ⟨by rfl, ?_⟩) (by assumption) ?_
      rotate_left 1
      · (intro w hSw; (try dsimp only at hSw); go_simp; (try with_reducible rfl))
      (try simp only [Act.put, List.setIfInBounds_toArray, List.set_cons_zero, List.set_cons_succ])
      refine wpAnyH_take (i := 14) (oi := ({ dst := some 44, op := Op.move (Operand.tmp 6), type := 61, pos := "record.go:82", after := #[], guard := none } : Oper)) (v := ?_) rfl (by kernel_rfl) (by kernel_rfl) (by kernel_rfl) (fun _ _ _ h => h) (Or.inl ⟨by rfl, ?_⟩) (by assumption) ?_
      rotate_left 1
      · (intro w hSw; (try dsimp only at hSw); go_simp; (try with_reducible rfl))
      (try simp only [Act.put, List.setIfInBounds_toArray, List.set_cons_zero, List.set_cons_succ])
      refine wpAnyH_take (i := 15) (oi := ({ dst := some 45, op := Op.convert 61 9 (Operand.tmp 44), type := 9, pos := "record.go:82", after := #[{ on := 14, ground := Ground.data }], guard := none } : Oper)) (v := ?_) rfl (by kernel_rfl) (by kernel_rfl) (by kernel_rfl) (fun _ _ _ h => h) (Or.inl ⟨by rfl, ?_⟩) (by assumption) ?_
      rotate_left 1
      · (intro w hSw; (try dsimp only at hSw); go_simp; (try with_reducible rfl))
      (try simp only [Act.put, List.setIfInBounds_toArray, List.set_cons_zero, List.set_cons_succ])
      refine wpAnyH_take (i := 18) (oi := ({ dst := some 48, op := Op.move (Operand.tmp 5), type := 9, pos := "record.go:82", after := #[], guard := none } : Oper)) (v := ?_) rfl (by kernel_rfl) (by kernel_rfl) (by kernel_rfl) (fun _ _ _ h => h) (Or.inl ⟨by rfl, ?_⟩) (by assumption) ?_
      rotate_left 1
      · (intro w hSw; (try dsimp only at hSw); go_simp; (try with_reducible rfl))
      (try simp only [Act.put, List.setIfInBounds_toArray, List.set_cons_zero, List.set_cons_succ])
      refine wpAnyH_ready (rs := [3, 7]) (by kernel_rfl) (by simp) ?_
      refine AllReadyH.cons (o := ({ dst := some 33, op := Op.call { callee := Callee.value (Operand.func 35), args := #[Operand.tmp 32, Operand.const (Value.int IntKind.i64 4)], argTypes := #[33, 3] }, type := 9, pos := "record.go:82", after := #[{ on := 2, ground := Ground.data }], guard := none } : Oper)) rfl (fun K hK => ?_) ?_
      · go_simp
        go_at_call 35
        ((with_reducible refine (CH.out _).mono ?_); rintro e w2 ⟨rfl, hb⟩; (first | have B2 := Lib.hid (show Below wr.heap.size wr w2 from Below.trans0 (Below.drew0 (Below.refl _ _)) hb) | have B2 := Lib.hid (show Below wr.heap.size wr w2 from Below.trans0 (Below.drew0 (Below.alloc0 (Below.refl _ _) _)) hb)); (try have I2 := Lib.hid (Ints.below (B' := w2.heap.size) (show Ints .u8 (wr.alloc (Obj.cells #[.int .u8 x.d] 5)).drew (wr.alloc (Obj.cells #[.int .u8 x.d] 5)).drew.heap.size (some ⟨wr.heap.size, 0, none⟩) 1 [x.d] from Ints.newD wr x.d WF.out 5) hb.size hb)); clear hb)
        first | (refine hK.out _ _ ?_ (fun hH1 => ?_)) | (go_wp2_with fail; refine hK.out _ _ ?_ (fun hH1 => ?_))
        · (try dsimp only); with_reducible exact HSS.out _ B2.out
        clear hK K hH0
        (try simp only [Act.put, List.setIfInBounds_toArray, List.set_cons_zero, List.set_cons_succ])
        refine wpAnyH_take (i := 4) (oi := ({ dst := some 34, op := Op.binOp BinOp.add 9 (Operand.tmp 33) (Operand.const (Value.string { data := #[32] })) 9, type := 9, pos := "record.go:82", after := #[{ on := 3, ground := Ground.data }], guard := none } : Oper)) (v := ?_) rfl (by kernel_rfl) (by kernel_rfl) (by kernel_rfl) (fun _ _ _ h => h) (Or.inl ⟨by rfl, ?_⟩) (by assumption) ?_
        rotate_left 1
        · (intro w hSw; (try dsimp only at hSw); go_simp; (try with_reducible rfl))
        (try simp only [Act.put, List.setIfInBounds_toArray, List.set_cons_zero, List.set_cons_succ])
        refine wpAnyH_ready (rs := [7]) (by kernel_rfl) (by simp) ?_
        refine AllReadyH.cons (o := ({ dst := some 37, op := Op.buildSlice 61 1 #[(0, Operand.tmp 36)], type := 61, pos := "record.go:82", after := #[{ on := 6, ground := Ground.data }], guard := none } : Oper)) rfl (fun K hK => ?_) ?_
        rotate_left 1
        · exact AllReadyH.nil
        go_simp
        first | (refine hK.out _ _ ?_ (fun hH2 => ?_)) | (go_wp2_with fail; refine hK.out _ _ ?_ (fun hH2 => ?_))
        · (try dsimp only); with_reducible first | exact HSS.out _ (Below.drew0 (Below.alloc0 (Below.refl _ _) _)) | exact HSS.out _ (Below.alloc0 B2.out _)
        clear hK K hH1
        (try simp only [Act.put, List.setIfInBounds_toArray, List.set_cons_zero, List.set_cons_succ])
        refine wpAnyH_ready (rs := [8]) (by kernel_rfl) (by simp) ?_
        refine AllReadyH.cons (o := ({ dst := some 38, op := Op.call { callee := Callee.value (Operand.func 36), args := #[Operand.tmp 37], argTypes := #[61] }, type := 9, pos := "record.go:82", after := #[{ on := 7, ground := Ground.data }, { on := 3, ground := Ground.chain }], guard := none } : Oper)) rfl (fun K hK => ?_) ?_
        rotate_left 1
        · exact AllReadyH.nil
        go_simp
        go_at_call 36
        ((first | (with_reducible refine (CP.out _ _ _ _ (Ints.newD _ _ WF.out _) (by decide)).mono ?_) | (with_reducible refine (CP.out _ _ _ _ I2.out (by decide)).mono ?_)); rintro e w3 ⟨rfl, hb⟩; (first | have B3 := Lib.hid (show Below wr.heap.size wr w3 from Below.trans0 (Below.alloc0 B2.out _) hb) | have B3 := Lib.hid (show Below wr.heap.size wr w3 from Below.trans0 B2.out hb)); clear hb)
        first | (refine hK.out _ _ ?_ (fun hH3 => ?_)) | (go_wp2_with fail; refine hK.out _ _ ?_ (fun hH3 => ?_))
        · (try dsimp only); with_reducible exact HSS.out _ B3.out
        clear hK K hH2
        (try simp only [Act.put, List.setIfInBounds_toArray, List.set_cons_zero, List.set_cons_succ])
        refine wpAnyH_take (i := 9) (oi := ({ dst := some 39, op := Op.binOp BinOp.add 9 (Operand.tmp 34) (Operand.tmp 38) 9, type := 9, pos := "record.go:82", after := #[{ on := 4, ground := Ground.data }, { on := 8, ground := Ground.data }], guard := none } : Oper)) (v := ?_) rfl (by kernel_rfl) (by kernel_rfl) (by kernel_rfl) (fun _ _ _ h => h) (Or.inl ⟨by rfl, ?_⟩) (by assumption) ?_
        rotate_left 1
        · (intro w hSw; (try dsimp only at hSw); go_simp; (try with_reducible rfl))
        (try simp only [Act.put, List.setIfInBounds_toArray, List.set_cons_zero, List.set_cons_succ])
        refine wpAnyH_take (i := 10) (oi := ({ dst := some 40, op := Op.binOp BinOp.add 9 (Operand.tmp 39) (Operand.const (Value.string { data := #[32] })) 9, type := 9, pos := "record.go:82", after := #[{ on := 9, ground := Ground.data }], guard := none } : Oper)) (v := ?_) rfl (by kernel_rfl) (by kernel_rfl) (by kernel_rfl) (fun _ _ _ h => h) (Or.inl ⟨by rfl, ?_⟩) (by assumption) ?_
        rotate_left 1
        · (intro w hSw; (try dsimp only at hSw); go_simp; (try with_reducible rfl))
        (try simp only [Act.put, List.setIfInBounds_toArray, List.set_cons_zero, List.set_cons_succ])
        refine wpAnyH_take (i := 12) (oi := ({ dst := some 42, op := Op.binOp BinOp.add 9 (Operand.tmp 40) (Operand.tmp 41) 9, type := 9, pos := "record.go:82", after := #[{ on := 10, ground := Ground.data }, { on := 11, ground := Ground.data }], guard := none } : Oper)) (v := ?_) rfl (by kernel_rfl) (by kernel_rfl) (by kernel_rfl) (fun _ _ _ h => h) (Or.inl ⟨by rfl, ?_⟩) (by assumption) ?_
        rotate_left 1
        · (intro w hSw; (try dsimp only at hSw); go_simp; (try with_reducible rfl))
        (try simp only [Act.put, List.setIfInBounds_toArray, List.set_cons_zero, List.set_cons_succ])
        refine wpAnyH_take (i := 13) (oi := ({ dst := some 43, op := Op.binOp BinOp.add 9 (Operand.tmp 42) (Operand.const (Value.string { data := #[32] })) 9, type := 9, pos := "record.go:82", after := #[{ on := 12, ground := Ground.data }], guard := none } : Oper)) (v := ?_) rfl (by kernel_rfl) (by kernel_rfl) (by kernel_rfl) (fun _ _ _ h => h) (Or.inl ⟨by rfl, ?_⟩) (by assumption) ?_
        rotate_left 1
        · (intro w hSw; (try dsimp only at hSw); go_simp; (try with_reducible rfl))
        (try simp only [Act.put, List.setIfInBounds_toArray, List.set_cons_zero, List.set_cons_succ])
        refine wpAnyH_take (i := 16) (oi := ({ dst := some 46, op := Op.binOp BinOp.add 9 (Operand.tmp 43) (Operand.tmp 45) 9, type := 9, pos := "record.go:82", after := #[{ on := 13, ground := Ground.data }, { on := 15, ground := Ground.data }], guard := none } : Oper)) (v := ?_) rfl (by kernel_rfl) (by kernel_rfl) (by kernel_rfl) (fun _ _ _ h => h) (Or.inl ⟨by rfl, ?_⟩) (by assumption) ?_
        rotate_left 1
        · (intro w hSw; (try dsimp only at hSw); go_simp; (try with_reducible rfl))
        (try simp only [Act.put, List.setIfInBounds_toArray, List.set_cons_zero, List.set_cons_succ])
        refine wpAnyH_take (i := 17) (oi := ({ dst := some 47, op := Op.binOp BinOp.add 9 (Operand.tmp 46) (Operand.const (Value.string { data := #[32] })) 9, type := 9, pos := "record.go:82", after := #[{ on := 16, ground := Ground.data }], guard := none } : Oper)) (v := ?_) rfl (by kernel_rfl) (by kernel_rfl) (by kernel_rfl) (fun _ _ _ h => h) (Or.inl ⟨by rfl, ?_⟩) (by assumption) ?_
        rotate_left 1
        · (intro w hSw; (try dsimp only at hSw); go_simp; (try with_reducible rfl))
        (try simp only [Act.put, List.setIfInBounds_toArray, List.set_cons_zero, List.set_cons_succ])
        refine wpAnyH_take (i := 19) (oi := ({ dst := some 49, op := Op.binOp BinOp.add 9 (Operand.tmp 47) (Operand.tmp 48) 9, type := 9, pos := "record.go:82", after := #[{ on := 17, ground := Ground.data }, { on := 18, ground := Ground.data }], guard := none } : Oper)) (v := ?_) rfl (by kernel_rfl) (by kernel_rfl) (by kernel_rfl) (fun _ _ _ h => h) (Or.inl ⟨by rfl, ?_⟩) (by assumption) ?_
        rotate_left 1
        · (intro w hSw; (try dsimp only at hSw); go_simp; (try with_reducible rfl))
        (try simp only [Act.put, List.setIfInBounds_toArray, List.set_cons_zero, List.set_cons_succ])
        refine wpAnyH_take (i := 20) (oi := ({ dst := some 2, op := Op.assign (Operand.tmp 49), type := 9, pos := "record.go:82", after := #[{ on := 19, ground := Ground.data }, { on := 8, ground := Ground.chain }, { on := 0, ground := Ground.phase }, { on := 1, ground := Ground.phase }, { on := 2, ground := Ground.phase }, { on := 3, ground := Ground.phase }, { on := 4, ground := Ground.phase }, { on := 5, ground := Ground.phase }, { on := 6, ground := Ground.phase }, { on := 7, ground := Ground.phase }, { on := 8, ground := Ground.phase }, { on := 9, ground := Ground.phase }, { on := 10, ground := Ground.phase }, { on := 11, ground := Ground.phase }, { on := 12, ground := Ground.phase }, { on := 13, ground := Ground.phase }, { on := 14, ground := Ground.phase }, { on := 15, ground := Ground.phase }, { on := 16, ground := Ground.phase }, { on := 17, ground := Ground.phase }, { on := 18, ground := Ground.phase }, { on := 19, ground := Ground.phase }], guard := none } : Oper)) (v := ?_) rfl (by kernel_rfl) (by kernel_rfl) (by kernel_rfl) (fun _ _ _ h => h) (Or.inl ⟨by rfl, ?_⟩) (by assumption) ?_
        rotate_left 1
        · (intro w hSw; (try dsimp only at hSw); go_simp; (try with_reducible rfl))
        (try simp only [Act.put, List.setIfInBounds_toArray, List.set_cons_zero, List.set_cons_succ])
        refine wpAnyH_done (by kernel_rfl) ?_ _
        refine NoPanic.normal ?_
        clear sz1 sz2 szL ta
        go_wp2
        go_ret
        exact ⟨by rw [HT.out]; rfl, Below.trans0 hB.out B3.out⟩
      refine AllReadyH.cons (o := ({ dst := some 37, op := Op.buildSlice 61 1 #[(0, Operand.tmp 36)], type := 61, pos := "record.go:82", after := #[{ on := 6, ground := Ground.data }], guard := none } : Oper)) rfl (fun K hK => ?_) ?_
      · go_simp
        first | (refine hK.out _ _ ?_ (fun hH1 => ?_)) | (go_wp2_with fail; refine hK.out _ _ ?_ (fun hH1 => ?_))
        · (try dsimp only); with_reducible first | exact HSS.out _ (Below.drew0 (Below.alloc0 (Below.refl _ _) _)) | exact HSS.out _ (Below.alloc0 B2.out _)
        clear hK K hH0
        (try simp only [Act.put, List.setIfInBounds_toArray, List.set_cons_zero, List.set_cons_succ])
        refine wpAnyH_ready (rs := [3]) (by kernel_rfl) (by simp) ?_
        refine AllReadyH.cons (o := ({ dst := some 33, op := Op.call { callee := Callee.value (Operand.func 35), args := #[Operand.tmp 32, Operand.const (Value.int IntKind.i64 4)], argTypes := #[33, 3] }, type := 9, pos := "record.go:82", after := #[{ on := 2, ground := Ground.data }], guard := none } : Oper)) rfl (fun K hK => ?_) ?_
        rotate_left 1
        · exact AllReadyH.nil
        go_simp
        go_at_call 35
        ((with_reducible refine (CH.out _).mono ?_); rintro e w2 ⟨rfl, hb⟩; (first | have B2 := Lib.hid (show Below wr.heap.size wr w2 from Below.trans0 (Below.drew0 (Below.refl _ _)) hb) | have B2 := Lib.hid (show Below wr.heap.size wr w2 from Below.trans0 (Below.drew0 (Below.alloc0 (Below.refl _ _) _)) hb)); (try have I2 := Lib.hid (Ints.below (B' := w2.heap.size) (show Ints .u8 (wr.alloc (Obj.cells #[.int .u8 x.d] 5)).drew (wr.alloc (Obj.cells #[.int .u8 x.d] 5)).drew.heap.size (some ⟨wr.heap.size, 0, none⟩) 1 [x.d] from Ints.newD wr x.d WF.out 5) hb.size hb)); clear hb)
        first | (refine hK.out _ _ ?_ (fun hH2 => ?_)) | (go_wp2_with fail; refine hK.out _ _ ?_ (fun hH2 => ?_))
        · (try dsimp only); with_reducible exact HSS.out _ B2.out
        clear hK K hH1
        (try simp only [Act.put, List.setIfInBounds_toArray, List.set_cons_zero, List.set_cons_succ])
        refine wpAnyH_take (i := 4) (oi := ({ dst := some 34, op := Op.binOp BinOp.add 9 (Operand.tmp 33) (Operand.const (Value.string { data := #[32] })) 9, type := 9, pos := "record.go:82", after := #[{ on := 3, ground := Ground.data }], guard := none } : Oper)) (v := ?_) rfl (by kernel_rfl) (by kernel_rfl) (by kernel_rfl) (fun _ _ _ h => h) (Or.inl ⟨by rfl, ?_⟩) (by assumption) ?_
        rotate_left 1
        · (intro w hSw; (try dsimp only at hSw); go_simp; (try with_reducible rfl))
        (try simp only [Act.put, List.setIfInBounds_toArray, List.set_cons_zero, List.set_cons_succ])
        refine wpAnyH_ready (rs := [8]) (by kernel_rfl) (by simp) ?_
        refine AllReadyH.cons (o := ({ dst := some 38, op := Op.call { callee := Callee.value (Operand.func 36), args := #[Operand.tmp 37], argTypes := #[61] }, type := 9, pos := "record.go:82", after := #[{ on := 7, ground := Ground.data }, { on := 3, ground := Ground.chain }], guard := none } : Oper)) rfl (fun K hK => ?_) ?_
        rotate_left 1
        · exact AllReadyH.nil
        go_simp
        go_at_call 36
        ((first | (with_reducible refine (CP.out _ _ _ _ (Ints.newD _ _ WF.out _) (by decide)).mono ?_) | (with_reducible refine (CP.out _ _ _ _ I2.out (by decide)).mono ?_)); rintro e w3 ⟨rfl, hb⟩; (first | have B3 := Lib.hid (show Below wr.heap.size wr w3 from Below.trans0 (Below.alloc0 B2.out _) hb) | have B3 := Lib.hid (show Below wr.heap.size wr w3 from Below.trans0 B2.out hb)); clear hb)
        first | (refine hK.out _ _ ?_ (fun hH3 => ?_)) | (go_wp2_with fail; refine hK.out _ _ ?_ (fun hH3 => ?_))
        · (try dsimp only); with_reducible exact HSS.out _ B3.out
        clear hK K hH2
        (try simp only [Act.put, List.setIfInBounds_toArray, List.set_cons_zero, List.set_cons_succ])
        refine wpAnyH_take (i := 9) (oi := ({ dst := some 39, op := Op.binOp BinOp.add 9 (Operand.tmp 34) (Operand.tmp 38) 9, type := 9, pos := "record.go:82", after := #[{ on := 4, ground := Ground.data }, { on := 8, ground := Ground.data }], guard := none } : Oper)) (v := ?_) rfl (by kernel_rfl) (by kernel_rfl) (by kernel_rfl) (fun _ _ _ h => h) (Or.inl ⟨by rfl, ?_⟩) (by assumption) ?_
        rotate_left 1
        · (intro w hSw; (try dsimp only at hSw); go_simp; (try with_reducible rfl))
        (try simp only [Act.put, List.setIfInBounds_toArray, List.set_cons_zero, List.set_cons_succ])
        refine wpAnyH_take (i := 10) (oi := ({ dst := some 40, op := Op.binOp BinOp.add 9 (Operand.tmp 39) (Operand.const (Value.string { data := #[32] })) 9, type := 9, pos := "record.go:82", after := #[{ on := 9, ground := Ground.data }], guard := none } : Oper)) (v := ?_) rfl (by kernel_rfl) (by kernel_rfl) (by kernel_rfl) (fun _ _ _ h => h) (Or.inl ⟨by rfl, ?_⟩) (by assumption) ?_
        rotate_left 1
        · (intro w hSw; (try dsimp only at hSw); go_simp; (try with_reducible rfl))
        (try simp only [Act.put, List.setIfInBounds_toArray, List.set_cons_zero, List.set_cons_succ])
        refine wpAnyH_take (i := 12) (oi := ({ dst := some 42, op := Op.binOp BinOp.add 9 (Operand.tmp 40) (Operand.tmp 41) 9, type := 9, pos := "record.go:82", after := #[{ on := 10, ground := Ground.data }, { on := 11, ground := Ground.data }], guard := none } : Oper)) (v := ?_) rfl (by kernel_rfl) (by kernel_rfl) (by kernel_rfl) (fun _ _ _ h => h) (Or.inl ⟨by rfl, ?_⟩) (by assumption) ?_
        rotate_left 1
        · (intro w hSw; (try dsimp only at hSw); go_simp; (try with_reducible rfl))
        (try simp only [Act.put, List.setIfInBounds_toArray, List.set_cons_zero, List.set_cons_succ])
        refine wpAnyH_take (i := 13) (oi := ({ dst := some 43, op := Op.binOp BinOp.add 9 (Operand.tmp 42) (Operand.const (Value.string { data := #[32] })) 9, type := 9, pos := "record.go:82", after := #[{ on := 12, ground := Ground.data }], guard := none } : Oper)) (v := ?_) rfl (by kernel_rfl) (by kernel_rfl) (by kernel_rfl) (fun _ _ _ h => h) (Or.inl ⟨by rfl, ?_⟩) (by assumption) ?_
        rotate_left 1
        · (intro w hSw; (try dsimp only at hSw); go_simp; (try with_reducible rfl))
        (try simp only [Act.put, List.setIfInBounds_toArray, List.set_cons_zero, List.set_cons_succ])
        refine wpAnyH_take (i := 16) (oi := ({ dst := some 46, op := Op.binOp BinOp.add 9 (Operand.tmp 43) (Operand.tmp 45) 9, type := 9, pos := "record.go:82", after := #[{ on := 13, ground := Ground.data }, { on := 15, ground := Ground.data }], guard := none } : Oper)) (v := ?_) rfl (by kernel_rfl) (by kernel_rfl) (by kernel_rfl) (fun _ _ _ h => h) (Or.inl ⟨by rfl, ?_⟩) (by assumption) ?_
        rotate_left 1
        · (intro w hSw; (try dsimp only at hSw); go_simp; (try with_reducible rfl))
        (try simp only [Act.put, List.setIfInBounds_toArray, List.set_cons_zero, List.set_cons_succ])
        refine wpAnyH_take (i := 17) (oi := ({ dst := some 47, op := Op.binOp BinOp.add 9 (Operand.tmp 46) (Operand.const (Value.string { data := #[32] })) 9, type := 9, pos := "record.go:82", after := #[{ on := 16, ground := Ground.data }], guard := none } : Oper)) (v := ?_) rfl (by kernel_rfl) (by kernel_rfl) (by kernel_rfl) (fun _ _ _ h => h) (Or.inl ⟨by rfl, ?_⟩) (by assumption) ?_
        rotate_left 1
        · (intro w hSw; (try dsimp only at hSw); go_simp; (try with_reducible rfl))
        (try simp only [Act.put, List.setIfInBounds_toArray, List.set_cons_zero, List.set_cons_succ])
        refine wpAnyH_take (i := 19) (oi := ({ dst := some 49, op := Op.binOp BinOp.add 9 (Operand.tmp 47) (Operand.tmp 48) 9, type := 9, pos := "record.go:82", after := #[{ on := 17, ground := Ground.data }, { on := 18, ground := Ground.data }], guard := none } : Oper)) (v := ?_) rfl (by kernel_rfl) (by kernel_rfl) (by kernel_rfl) (fun _ _ _ h => h) (Or.inl ⟨by rfl, ?_⟩) (by assumption) ?_
        rotate_left 1
        · (intro w hSw; (try dsimp only at hSw); go_simp; (try with_reducible rfl))
        (try simp only [Act.put, List.setIfInBounds_toArray, List.set_cons_zero, List.set_cons_succ])
        refine wpAnyH_take (i := 20) (oi := ({ dst := some 2, op := Op.assign (Operand.tmp 49), type := 9, pos := "record.go:82", after := #[{ on := 19, ground := Ground.data }, { on := 8, ground := Ground.chain }, { on := 0, ground := Ground.phase }, { on := 1, ground := Ground.phase }, { on := 2, ground := Ground.phase }, { on := 3, ground := Ground.phase }, { on := 4, ground := Ground.phase }, { on := 5, ground := Ground.phase }, { on := 6, ground := Ground.phase }, { on := 7, ground := Ground.phase }, { on := 8, ground := Ground.phase }, { on := 9, ground := Ground.phase }, { on := 10, ground := Ground.phase }, { on := 11, ground := Ground.phase }, { on := 12, ground := Ground.phase }, { on := 13, ground := Ground.phase }, { on := 14, ground := Ground.phase }, { on := 15, ground := Ground.phase }, { on := 16, ground := Ground.phase }, { on := 17, ground := Ground.phase }, { on := 18, ground := Ground.phase }, { on := 19, ground := Ground.phase }], guard := none } : Oper)) (v := ?_) rfl (by kernel_rfl) (by kernel_rfl) (by kernel_rfl) (fun _ _ _ h => h) (Or.inl ⟨by rfl, ?_⟩) (by assumption) ?_
        rotate_left 1
        · (intro w hSw; (try dsimp only at hSw); go_simp; (try with_reducible rfl))
        (try simp only [Act.put, List.setIfInBounds_toArray, List.set_cons_zero, List.set_cons_succ])
        refine wpAnyH_done (by kernel_rfl) ?_ _
        refine NoPanic.normal ?_
        clear sz1 sz2 szL ta
        go_wp2
        go_ret
        exact ⟨by rw [HT.out]; rfl, Below.trans0 hB.out B3.out⟩
      exact AllReadyH.nil
theorem rcText_any (x : Rc) (hx : x.Ok) (w : World) :
    Calls Try.prog 12 #[.agg x.cells] w fun e w' => e = .returned (.string (strOfNums (txN x))) ∧ Below w.heap.size w w' := by
  cases hr : x.r <;> cases hm : x.m
  · exact rcText_00 x hx hr hm w
  · exact rcText_01 x hx hr hm w
  · exact rcText_10 x hx hr hm w
  · exact rcText_11 x hx hr hm w
end Go.Proofs.Ytpleboogijgdcaa
