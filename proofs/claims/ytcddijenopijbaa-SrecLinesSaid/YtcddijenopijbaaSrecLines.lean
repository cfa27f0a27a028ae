/- The law SrecLines answers true for every input, and each argument reads afterwards as it read before. Conditions: none. -/
import Derived.Test.YtcddijenopijbaaRows
import Derived.WalkKit
import Derived.ProofKit
import Derived.OpenShut
import Derived.ShutString
import Derived.ChangeOld
import Derived.Below
import Derived.Test.YtcddijenopijbaaSry
namespace Go.Proofs.Ytcddijenopijbaa.srecLines
open Go.ChangeShapes Go.WideShapes Go.ChangeAt Go.RowKit
open Go.ChangeMaps (open_string shut_string)
set_option linter.unusedVariables false

theorem own : ownKnob Try.prog.godebug = none := by kernel_rfl
theorem laidOut : laidOutB Try.prog = true := by kernel_rfl

theorem arr25 {cs : Array Value} (h : cs.size = 3) : ∃ c0 c1 c2 : Value, cs = #[c0, c1, c2] := by
  obtain ⟨l⟩ := cs
  match l, h with
  | [c0, c1, c2], _ => exact ⟨c0, c1, c2, rfl⟩
theorem cellsOf25_3 : Try.prog.cellsOf 3 = 1 := by kernel_rfl
theorem cellsOf25_22 : Try.prog.cellsOf 22 = 1 := by kernel_rfl
theorem cellsOf25_23 : Try.prog.cellsOf 23 = 1 := by kernel_rfl
theorem cellsOf25_25 : Try.prog.cellsOf 25 = 3 := by kernel_rfl
set_option maxRecDepth 100000 in
theorem open25 {H : Type} {enc : TypeId × Value → H} {W : World} {b0 base : Nat} {sp : Nat → Bool} {held : Bool} {v : Value} {d : DataW H} {p : List MemPlace} (hv : Value.okWide Try.prog W .any b0 25 v) (h : DataW.Trod enc Try.prog W base sp held 25 v d p) (hsp : ∀ b, sp b = true) :
    ∃ (xKind : Int) (xAt : Int) (xB : Option Addr) (xBN xBC : Nat) (xBZ : List Int), v = .agg #[.int .i64 xKind, .int .u16 xAt, .slice xB xBN xBC] ∧ (Lit.int .i64 xKind).wf = true ∧ (Lit.int .u16 xAt).wf = true ∧ IsRow .u8 W xB xBN xBC xBZ := by
  obtain ⟨cs, rfl, hsz⟩ := okWide_struct Try.underlying25 hv
  obtain ⟨c0, c1, c2, rfl⟩ := arr25 (hsz.trans cellsOf25_25)
  obtain ⟨fuel, hf⟩ := h
  obtain ⟨xs0, n0, _, _, _, hl0, hg0⟩ := DataW.trod_struct Try.underlying25 hf
  have g0_0 : DataW.trod enc Try.prog W base sp held n0 3 (([c0, c1, c2].drop 0).take (Try.prog.cellsOf 3)) = xs0[0]? := hg0 0 _ rfl
  rw [List.getElem?_eq_getElem (show 0 < xs0.length by rw [hl0]; decide)] at g0_0
  rw [cellsOf25_3] at g0_0
  obtain ⟨y0, e0_0, _, w0⟩ := DataW.trod_int Try.underlying3 g0_0
  have E0 : c0 = .int .i64 y0 := by simpa [Value.cells] using e0_0
  have g0_1 : DataW.trod enc Try.prog W base sp held n0 22 (([c0, c1, c2].drop 1).take (Try.prog.cellsOf 22)) = xs0[1]? := hg0 1 _ rfl
  rw [List.getElem?_eq_getElem (show 1 < xs0.length by rw [hl0]; decide)] at g0_1
  rw [cellsOf25_22] at g0_1
  obtain ⟨y1, e0_1, _, w1⟩ := DataW.trod_int Try.underlying22 g0_1
  have E1 : c1 = .int .u16 y1 := by simpa [Value.cells] using e0_1
  have g0_2 : DataW.trod enc Try.prog W base sp held n0 23 (([c0, c1, c2].drop 2).take (Try.prog.cellsOf 23)) = xs0[2]? := hg0 2 _ rfl
  rw [List.getElem?_eq_getElem (show 2 < xs0.length by rw [hl0]; decide)] at g0_2
  rw [cellsOf25_23] at g0_2
  obtain ⟨y2, yn2, yc2, yz2, E2, w2⟩ : ∃ A n c zs, c2 = Value.slice A n c ∧ IsRow .u8 W A n c zs := by
    rcases open_ints Try.underlying23 Try.underlying5 (by kernel_rfl) g0_2 with ⟨hcs, _⟩ | ⟨x, l, c, zs, hcs, _, hl, hm, hz, _, hcell, hwz⟩
    · exact ⟨none, 0, 0, [], by simpa using hcs, .inl ⟨rfl, rfl, rfl, rfl⟩⟩
    · exact ⟨some x, l, c, zs, by simpa using hcs, .inr ⟨_, rfl, hl, hm, by simpa [hsp] using hz, hcell, hwz⟩⟩
  subst E0 E1 E2
  exact ⟨y0, y1, y2, yn2, yc2, yz2, rfl, w0, w1, w2⟩

set_option maxRecDepth 100000 in
set_option maxHeartbeats 1000000 in
theorem walk (a0Kind : Int) (a0At : Int) (a0B : Option Addr) (a0BN a0BC : Nat) (a0BZ : List Int) (a1 : ByteArray) (w : World) (w0 : (Lit.int .i64 a0Kind).wf = true ∧ (Lit.int .u16 a0At).wf = true ∧ IsRow .u8 w a0B a0BN a0BC a0BZ) (w1 : a1.size ≤ maxLen) :
    Calls Try.prog 3 #[.agg #[.int .i64 a0Kind, .int .u16 a0At, .slice a0B a0BN a0BC], .string a1] w fun e w' => e = .returned (.bool true) ∧ Below w.heap.size w w' := by
  obtain ⟨hk0, ha0, hrow⟩ := w0
  obtain ⟨b, hRb, hln, hlm, hby⟩ := rdY_of_row hrow
  obtain ⟨r0, r1⟩ := bounds_u16 ha0
  clear hk0 ha0 hrow w1
  by_cases h1 : a1.size ≤ 600
  · have CR := Lib.hid (fun u => srRead_any a1 u (by omega))
    have CE := Lib.hid (fun u => seRead_any a1 u (by omega))
    have HBR := Lib.hid (rdLn_byt (nums a1))
    obtain ⟨R, hR⟩ : ∃ R, rdLn (nums a1) = R := ⟨_, rfl⟩
    rw [hR] at CR CE HBR
    obtain ⟨rk, ra, rb, re⟩ := R
    dsimp only at HBR
    have HRB := Lib.hid hRb
    have HLN := Lib.hid hln
    have HBY := Lib.hid hby
    have HAA : Hid (0 ≤ a0At ∧ a0At < 65536) := Lib.hid ⟨r0, by omega⟩
    have Z0 := Lib.hid (Blk.new w 25 #[.int .i64 a0Kind, .int .u16 a0At, .slice a0B a0BN a0BC] (0, 0))
    have B0 := Lib.hid (Below.alloc0 (Below.refl w.heap.size w) (.cells #[.int .i64 a0Kind, .int .u16 a0At, .slice a0B a0BN a0BC] 25))
    clear hR hRb hln hby
    go_enter Try.func3, Try.ntmps3
    go_wp2_with fail
    refine (CR.out _).mono ?_
    rintro e w1 ⟨v1, rfl, hv1, hb⟩
    obtain ⟨A1, c1, hve, -⟩ := rdY_open hv1
    subst hve
    have B1 := Lib.hid (Below.trans0 B0.out hb)
    have Z1 := Lib.hid (Blk.below Z0.out hb (by simp))
    have V1 := Lib.hid hv1
    clear hb hv1 Z0 B0
    dsimp only at V1 ⊢
    go_wp2_with fail
    have X2 := Lib.hid (Blk.new w1 25 #[.int .i64 rk, .int .u16 ra, (.slice A1 rb.length c1)] (0, 0))
    refine (CE.out _).mono ?_
    rintro e w2 ⟨v2, rfl, hv2, hb⟩
    obtain ⟨A2, c2, hve, -⟩ := rdY_open hv2
    subst hve
    have B2 := Lib.hid (Below.trans0 (Below.alloc0 B1.out _) hb)
    have Z2 := Lib.hid (Blk.below (Blk.alloc Z1.out _) hb (by have := Z1.out.lt; simp; omega))
    have X3 := Lib.hid (Blk.below X2.out hb (by simp))
    have V2 := Lib.hid ((V1.out.alloc _).below hb)
    have Y2 := Lib.hid hv2
    clear hb hv2 Z1 B1 X2 V1
    dsimp only at Y2 ⊢
    have Y3 := Lib.hid (Blk.new w2 29 #[.int .i64 rk, .int .u16 ra, (.slice A2 rb.length c2)] (0, 0))
    have X4 := Lib.hid (Blk.alloc X3.out (.cells #[.int .i64 rk, .int .u16 ra, (.slice A2 rb.length c2)] 29))
    have Z4 := Lib.hid (Blk.alloc Z2.out (.cells #[.int .i64 rk, .int .u16 ra, (.slice A2 rb.length c2)] 29))
    have B4 := Lib.hid (Below.alloc0 B2.out (.cells #[.int .i64 rk, .int .u16 ra, (.slice A2 rb.length c2)] 29))
    have V4 := Lib.hid (V2.out.alloc (.cells #[.int .i64 rk, .int .u16 ra, (.slice A2 rb.length c2)] 29))
    have U4 := Lib.hid (Y2.out.alloc (.cells #[.int .i64 rk, .int .u16 ra, (.slice A2 rb.length c2)] 29))
    have CQ := Lib.hid (fun u (h : eY.Rd u (.slice A1 rb.length c1) rb) (h' : eY.Rd u (.slice A2 rb.length c2) rb) => eqY_any _ _ rb rb u h h' HBR.out HBR.out)
    have HQQ : Hid ((rb == rb) = true) := Lib.hid (by simp)
    rw [HQQ.out] at CQ
    clear Z2 B2 X3 V2 Y2
    go_upto_region 5 with (fail)
    generalize w2.alloc (.cells #[.int .i64 rk, .int .u16 ra, (.slice A2 rb.length c2)] 29) = W4 at Y3 X4 Z4 B4 V4 U4 ⊢
    obtain ⟨x0, x1, x2⟩ := X4.out.c3
    obtain ⟨y0, y1, y2⟩ := Y3.out.c3
    obtain ⟨l0, l1, l2⟩ := Z4.out.c3
    have q1 : (rk != rk) = false := by simp
    have q2 : (ra != ra) = false := by simp
    have q3 : (re != re) = false := by simp
    by_cases k0 : a0Kind = 0
    · subst k0
      by_cases hn : a0BN ≤ 252
      · have hn' : ¬ (252 : Int) < (a0BN : Int) := by omega
        have HKV : Hid ((0 : Int) = 0 ∨ (0 : Int) = 1 ∨ (0 : Int) = 9) := Lib.hid (.inl rfl)
        have HNL := Lib.hid hn
        have HN9 : Hid ((0 : Int) = 9 → a0BN = 0) := Lib.hid (fun e => absurd e (by decide))
        clear hn
        have CT := Lib.hid (srText_any 0 a0At HKV.out HAA.out a0B a0BN a0BC b W4 (HRB.out.below B4.out) HLN.out HBY.out HNL.out HN9.out)
        have CT2 := Lib.hid (fun u (h : Below w.heap.size w u) => seText_any 0 a0At HKV.out HAA.out a0B a0BN a0BC b u (HRB.out.below h) HLN.out HBY.out HNL.out)
        have CR2 := Lib.hid (fun u => srRead_any (strOfNums (lnX 0 a0At b)) u (by rw [strOfNums_size]; unfold lnX; rw [List.length_append, pairsOf_len, lnS_len, HLN.out]; have := HNL.out; simp; omega))
        rw [str_nums _ (lnX_byt HKV.out HAA.out HBY.out), rd_back 0 a0At b HKV.out HAA.out HBY.out (by rw [HLN.out]; exact HNL.out) (fun e => by rw [HLN.out]; exact HN9.out e)] at CR2
        have hq6 : ((strOfNums (lnX 0 a0At b)).toList == (strOfNums (lnX 0 a0At b)).toList) = true := by simp
        generalize strOfNums (lnX 0 a0At b) = TX at CT CT2 CR2 hq6
        go_wp2_with (go_at_call 9; refine (CQ.out _ V4.out U4.out).mono ?_; rintro e w' ⟨rfl, rfl⟩)
        refine CT.out.mono ?_
        rintro e w5 ⟨rfl, hb⟩
        have B5 := Lib.hid (Below.trans0 B4.out hb)
        have Z5 := Lib.hid (Blk.below Z4.out hb Z4.out.lt)
        clear hb CT x0 x1 x2 y0 y1 y2 l0 l1 l2
        go_wp2_with fail
        refine (CR2.out _).mono ?_
        rintro e w6 ⟨v6, rfl, hv6, hb⟩
        obtain ⟨A6, c6, hve, -⟩ := rdY_open hv6
        subst hve
        have B6 := Lib.hid (Below.trans0 B5.out hb)
        have Z6 := Lib.hid (Blk.below Z5.out hb Z5.out.lt)
        have V6 := Lib.hid hv6
        clear hb hv6 CR2
        dsimp only at V6 ⊢
        have X6 := Lib.hid (Blk.new w6 25 #[.int .i64 0, .int .u16 a0At, .slice A6 b.length c6] (0, 0))
        have Z7 := Lib.hid (Blk.alloc Z6.out (.cells #[.int .i64 0, .int .u16 a0At, .slice A6 b.length c6] 25))
        have B7 := Lib.hid (Below.alloc0 B6.out (.cells #[.int .i64 0, .int .u16 a0At, .slice A6 b.length c6] 25))
        have V7 := Lib.hid (V6.out.alloc (.cells #[.int .i64 0, .int .u16 a0At, .slice A6 b.length c6] 25))
        obtain ⟨l0, l1, l2⟩ := Z7.out.c3
        go_wp2_with fail
        generalize hW7 : w6.alloc (.cells #[.int .i64 0, .int .u16 a0At, .slice A6 b.length c6] 25) = W7 at X6 Z7 B7 V7 l0 l1 l2 ⊢
        refine (CT2.out W7 B7.out).mono ?_
        rintro e w8 ⟨rfl, hb⟩
        have B8 := Lib.hid (Below.trans0 B7.out hb)
        have Z8 := Lib.hid (Blk.below Z7.out hb Z7.out.lt)
        have X8 := Lib.hid (Blk.below X6.out hb (by rw [← hW7]; simp))
        have V8 := Lib.hid (V7.out.below hb)
        clear hb CT2 l0 l1 l2 hW7
        obtain ⟨l0, l1, l2⟩ := Z8.out.c3
        obtain ⟨x0, x1, x2⟩ := X8.out.c3
        have CQ2 := Lib.hid (eqY_any _ _ b b w8 V8.out (HRB.out.below B8.out) HBY.out HBY.out)
        have HQ2 : Hid ((b == b) = true) := Lib.hid (by simp)
        rw [HQ2.out] at CQ2
        have q7 : (a0At == a0At) = true := by simp
        go_wp2_with (first
          | (go_at_call 9; refine CQ2.out.mono ?_; rintro e w' ⟨rfl, rfl⟩)
          | (go_at_call 10; refine (alive40 _).mono ?_; rintro e w' ⟨rfl, hb⟩))
        go_ret
        exact ⟨rfl, Below.trans0 B8.out hb⟩
      · have hn' : (252 : Int) < (a0BN : Int) := by omega
        clear hn
        go_wp2_with (first
          | (go_at_call 9; refine (CQ.out _ V4.out U4.out).mono ?_; rintro e w' ⟨rfl, rfl⟩)
          | (go_at_call 10; refine (alive40 _).mono ?_; rintro e w' ⟨rfl, hb⟩))
        go_ret
        exact ⟨rfl, Below.trans0 B4.out hb⟩
    by_cases k1 : a0Kind = 1
    · subst k1
      by_cases hn : a0BN ≤ 252
      · have hn' : ¬ (252 : Int) < (a0BN : Int) := by omega
        have HKV : Hid ((1 : Int) = 0 ∨ (1 : Int) = 1 ∨ (1 : Int) = 9) := Lib.hid (.inr (.inl rfl))
        have HNL := Lib.hid hn
        have HN9 : Hid ((1 : Int) = 9 → a0BN = 0) := Lib.hid (fun e => absurd e (by decide))
        clear hn k0
        have CT := Lib.hid (srText_any 1 a0At HKV.out HAA.out a0B a0BN a0BC b W4 (HRB.out.below B4.out) HLN.out HBY.out HNL.out HN9.out)
        have CT2 := Lib.hid (fun u (h : Below w.heap.size w u) => seText_any 1 a0At HKV.out HAA.out a0B a0BN a0BC b u (HRB.out.below h) HLN.out HBY.out HNL.out)
        have CR2 := Lib.hid (fun u => srRead_any (strOfNums (lnX 1 a0At b)) u (by rw [strOfNums_size]; unfold lnX; rw [List.length_append, pairsOf_len, lnS_len, HLN.out]; have := HNL.out; simp; omega))
        rw [str_nums _ (lnX_byt HKV.out HAA.out HBY.out), rd_back 1 a0At b HKV.out HAA.out HBY.out (by rw [HLN.out]; exact HNL.out) (fun e => by rw [HLN.out]; exact HN9.out e)] at CR2
        have hq6 : ((strOfNums (lnX 1 a0At b)).toList == (strOfNums (lnX 1 a0At b)).toList) = true := by simp
        generalize strOfNums (lnX 1 a0At b) = TX at CT CT2 CR2 hq6
        go_wp2_with (go_at_call 9; refine (CQ.out _ V4.out U4.out).mono ?_; rintro e w' ⟨rfl, rfl⟩)
        refine CT.out.mono ?_
        rintro e w5 ⟨rfl, hb⟩
        have B5 := Lib.hid (Below.trans0 B4.out hb)
        have Z5 := Lib.hid (Blk.below Z4.out hb Z4.out.lt)
        clear hb CT x0 x1 x2 y0 y1 y2 l0 l1 l2
        go_wp2_with fail
        refine (CR2.out _).mono ?_
        rintro e w6 ⟨v6, rfl, hv6, hb⟩
        obtain ⟨A6, c6, hve, -⟩ := rdY_open hv6
        subst hve
        have B6 := Lib.hid (Below.trans0 B5.out hb)
        have Z6 := Lib.hid (Blk.below Z5.out hb Z5.out.lt)
        have V6 := Lib.hid hv6
        clear hb hv6 CR2
        dsimp only at V6 ⊢
        have X6 := Lib.hid (Blk.new w6 25 #[.int .i64 1, .int .u16 a0At, .slice A6 b.length c6] (0, 0))
        have Z7 := Lib.hid (Blk.alloc Z6.out (.cells #[.int .i64 1, .int .u16 a0At, .slice A6 b.length c6] 25))
        have B7 := Lib.hid (Below.alloc0 B6.out (.cells #[.int .i64 1, .int .u16 a0At, .slice A6 b.length c6] 25))
        have V7 := Lib.hid (V6.out.alloc (.cells #[.int .i64 1, .int .u16 a0At, .slice A6 b.length c6] 25))
        obtain ⟨l0, l1, l2⟩ := Z7.out.c3
        go_wp2_with fail
        generalize hW7 : w6.alloc (.cells #[.int .i64 1, .int .u16 a0At, .slice A6 b.length c6] 25) = W7 at X6 Z7 B7 V7 l0 l1 l2 ⊢
        refine (CT2.out W7 B7.out).mono ?_
        rintro e w8 ⟨rfl, hb⟩
        have B8 := Lib.hid (Below.trans0 B7.out hb)
        have Z8 := Lib.hid (Blk.below Z7.out hb Z7.out.lt)
        have X8 := Lib.hid (Blk.below X6.out hb (by rw [← hW7]; simp))
        have V8 := Lib.hid (V7.out.below hb)
        clear hb CT2 l0 l1 l2 hW7
        obtain ⟨l0, l1, l2⟩ := Z8.out.c3
        obtain ⟨x0, x1, x2⟩ := X8.out.c3
        have CQ2 := Lib.hid (eqY_any _ _ b b w8 V8.out (HRB.out.below B8.out) HBY.out HBY.out)
        have HQ2 : Hid ((b == b) = true) := Lib.hid (by simp)
        rw [HQ2.out] at CQ2
        have q7 : (a0At == a0At) = true := by simp
        go_wp2_with (first
          | (go_at_call 9; refine CQ2.out.mono ?_; rintro e w' ⟨rfl, rfl⟩)
          | (go_at_call 10; refine (alive40 _).mono ?_; rintro e w' ⟨rfl, hb⟩))
        go_ret
        exact ⟨rfl, Below.trans0 B8.out hb⟩
      · have hn' : (252 : Int) < (a0BN : Int) := by omega
        clear hn k0
        go_wp2_with (first
          | (go_at_call 9; refine (CQ.out _ V4.out U4.out).mono ?_; rintro e w' ⟨rfl, rfl⟩)
          | (go_at_call 10; refine (alive40 _).mono ?_; rintro e w' ⟨rfl, hb⟩))
        go_ret
        exact ⟨rfl, Below.trans0 B4.out hb⟩
    have b0 : (a0Kind != 0) = true := by simpa using k0
    have b1 : (a0Kind != 1) = true := by simpa using k1
    by_cases k9 : a0Kind = 9
    · subst k9
      clear b0 b1 k0 k1
      by_cases hn : a0BN = 0
      · have hn' : ¬ (252 : Int) < (a0BN : Int) := by omega
        have hn2 : ¬ (0 : Int) < (a0BN : Int) := by omega
        have HKV : Hid ((9 : Int) = 0 ∨ (9 : Int) = 1 ∨ (9 : Int) = 9) := Lib.hid (.inr (.inr rfl))
        have HNL : Hid (a0BN ≤ 252) := Lib.hid (by omega)
        have HN9 : Hid ((9 : Int) = 9 → a0BN = 0) := Lib.hid (fun _ => hn)
        clear hn
        have CT := Lib.hid (srText_any 9 a0At HKV.out HAA.out a0B a0BN a0BC b W4 (HRB.out.below B4.out) HLN.out HBY.out HNL.out HN9.out)
        have CT2 := Lib.hid (fun u (h : Below w.heap.size w u) => seText_any 9 a0At HKV.out HAA.out a0B a0BN a0BC b u (HRB.out.below h) HLN.out HBY.out HNL.out)
        have CR2 := Lib.hid (fun u => srRead_any (strOfNums (lnX 9 a0At b)) u (by rw [strOfNums_size]; unfold lnX; rw [List.length_append, pairsOf_len, lnS_len, HLN.out]; have := HNL.out; simp; omega))
        rw [str_nums _ (lnX_byt HKV.out HAA.out HBY.out), rd_back 9 a0At b HKV.out HAA.out HBY.out (by rw [HLN.out]; exact HNL.out) (fun e => by rw [HLN.out]; exact HN9.out e)] at CR2
        have hq6 : ((strOfNums (lnX 9 a0At b)).toList == (strOfNums (lnX 9 a0At b)).toList) = true := by simp
        generalize strOfNums (lnX 9 a0At b) = TX at CT CT2 CR2 hq6
        go_wp2_with (go_at_call 9; refine (CQ.out _ V4.out U4.out).mono ?_; rintro e w' ⟨rfl, rfl⟩)
        refine CT.out.mono ?_
        rintro e w5 ⟨rfl, hb⟩
        have B5 := Lib.hid (Below.trans0 B4.out hb)
        have Z5 := Lib.hid (Blk.below Z4.out hb Z4.out.lt)
        clear hb CT x0 x1 x2 y0 y1 y2 l0 l1 l2
        go_wp2_with fail
        refine (CR2.out _).mono ?_
        rintro e w6 ⟨v6, rfl, hv6, hb⟩
        obtain ⟨A6, c6, hve, -⟩ := rdY_open hv6
        subst hve
        have B6 := Lib.hid (Below.trans0 B5.out hb)
        have Z6 := Lib.hid (Blk.below Z5.out hb Z5.out.lt)
        have V6 := Lib.hid hv6
        clear hb hv6 CR2
        dsimp only at V6 ⊢
        have X6 := Lib.hid (Blk.new w6 25 #[.int .i64 9, .int .u16 a0At, .slice A6 b.length c6] (0, 0))
        have Z7 := Lib.hid (Blk.alloc Z6.out (.cells #[.int .i64 9, .int .u16 a0At, .slice A6 b.length c6] 25))
        have B7 := Lib.hid (Below.alloc0 B6.out (.cells #[.int .i64 9, .int .u16 a0At, .slice A6 b.length c6] 25))
        have V7 := Lib.hid (V6.out.alloc (.cells #[.int .i64 9, .int .u16 a0At, .slice A6 b.length c6] 25))
        obtain ⟨l0, l1, l2⟩ := Z7.out.c3
        go_wp2_with fail
        generalize hW7 : w6.alloc (.cells #[.int .i64 9, .int .u16 a0At, .slice A6 b.length c6] 25) = W7 at X6 Z7 B7 V7 l0 l1 l2 ⊢
        refine (CT2.out W7 B7.out).mono ?_
        rintro e w8 ⟨rfl, hb⟩
        have B8 := Lib.hid (Below.trans0 B7.out hb)
        have Z8 := Lib.hid (Blk.below Z7.out hb Z7.out.lt)
        have X8 := Lib.hid (Blk.below X6.out hb (by rw [← hW7]; simp))
        have V8 := Lib.hid (V7.out.below hb)
        clear hb CT2 l0 l1 l2 hW7
        obtain ⟨l0, l1, l2⟩ := Z8.out.c3
        obtain ⟨x0, x1, x2⟩ := X8.out.c3
        have CQ2 := Lib.hid (eqY_any _ _ b b w8 V8.out (HRB.out.below B8.out) HBY.out HBY.out)
        have HQ2 : Hid ((b == b) = true) := Lib.hid (by simp)
        rw [HQ2.out] at CQ2
        have q7 : (a0At == a0At) = true := by simp
        go_wp2_with (first
          | (go_at_call 9; refine CQ2.out.mono ?_; rintro e w' ⟨rfl, rfl⟩)
          | (go_at_call 10; refine (alive40 _).mono ?_; rintro e w' ⟨rfl, hb⟩))
        go_ret
        exact ⟨rfl, Below.trans0 B8.out hb⟩
      · by_cases hn3 : a0BN ≤ 252
        · have hn' : ¬ (252 : Int) < (a0BN : Int) := by omega
          have hn2 : (0 : Int) < (a0BN : Int) := by omega
          clear hn hn3
          go_wp2_with (first
            | (go_at_call 9; refine (CQ.out _ V4.out U4.out).mono ?_; rintro e w' ⟨rfl, rfl⟩)
            | (go_at_call 10; refine (alive40 _).mono ?_; rintro e w' ⟨rfl, hb⟩))
          go_ret
          exact ⟨rfl, Below.trans0 B4.out hb⟩
        · have hn' : (252 : Int) < (a0BN : Int) := by omega
          clear hn hn3
          go_wp2_with (first
            | (go_at_call 9; refine (CQ.out _ V4.out U4.out).mono ?_; rintro e w' ⟨rfl, rfl⟩)
            | (go_at_call 10; refine (alive40 _).mono ?_; rintro e w' ⟨rfl, hb⟩))
          go_ret
          exact ⟨rfl, Below.trans0 B4.out hb⟩
    · have b9 : (a0Kind != 9) = true := by simpa using k9
      clear k0 k1 k9
      go_wp2_with (first
        | (go_at_call 9; refine (CQ.out _ V4.out U4.out).mono ?_; rintro e w' ⟨rfl, rfl⟩)
        | (go_at_call 10; refine (alive40 _).mono ?_; rintro e w' ⟨rfl, hb⟩))
      go_ret
      exact ⟨rfl, Below.trans0 B4.out hb⟩
  · have h1' : (600 : Int) < (a1.size : Int) := by omega
    go_enter Try.func3, Try.ntmps3
    go_wp2
    go_ret
    exact ⟨rfl, Below.alloc0 (Below.refl _ _) _⟩

set_option maxRecDepth 100000 in
theorem lifted (os : Os) (started : os.Started) (H : Type) (enc : TypeId × Value → H) :
    ReturnsInHanded {} Try.checked os 3 .any (Rows.srecLinesSpec.pre6 enc Try.prog Try.f3 Rows.srecLinesRow.domain false) (Rows.srecLinesSpec.post enc Try.prog Try.f3 false true false false) := by
  refine returnsInHanded_of_change (C := Try.checked) own started (by kernel_rfl) Try.func3
    (ChangeSpec.witness6 (enc := enc) (C := Try.checked) false ⟨#[], #[.agg #[.int .i64 0, .int .u16 0, .slice none 0 0], .string ByteArray.empty], []⟩ 8 (by kernel_rfl) (by kernel_rfl) (by kernel_rfl) (by kernel_rfl)) ?_
  intro W base args ds gs before hval0 hW hcnd _
  have hval : ∀ (j : Nat) t v, Try.f3.params[j]? = some t → args[j]? = some v → Value.okWide Try.prog W .any base t v := hval0
  have hW' := hW
  obtain ⟨p, q, hA0, hV, rfl, hfz, hnd⟩ := hW
  have hA : DataW.TrodAll enc Try.prog W 0 (fun _ => true) true Try.f3.params.toList args.toList ds p := hA0
  rw [Try.params3] at hA hval
  obtain ⟨v0, vs0, d0, ds0, p0, q0, hargs, rfl, rfl, h0, r0⟩ := trodAll_cons hA
  obtain ⟨v1, vs1, d1, ds1, p1, q1, rfl, rfl, rfl, h1, r1⟩ := trodAll_cons r0
  obtain ⟨rfl, rfl, rfl⟩ := trodAll_nil r1
  obtain rfl : args = #[v0, v1] := by cases args; simp_all
  obtain ⟨rfl, rfl⟩ := trodVars_none hV
  have k0 := h0
  have lt0 : ∀ x ∈ p0, x.block < W.heap.size := by obtain ⟨m, hm⟩ := k0; exact DataW.trod_lt m _ _ _ hm
  obtain ⟨a0Kind, a0At, a0B, a0BN, a0BC, a0BZ, rfl, w0⟩ := open25 (hval 0 25 v0 rfl rfl) h0 (fun _ => rfl)
  obtain ⟨a1, rfl, rfl, rfl, w1⟩ := open_string Try.underlying9 (hval 1 9 v1 rfl rfl) h1
  clear hA0 hval0
  refine (walk a0Kind a0At a0B a0BN a0BC a0BZ a1 W w0 w1).mono fun e W' ⟨he, bel⟩ => ?_
  subst he
  exact ⟨_, rfl, _, _, _, [], _, [], hW', trodAll_mk1 (shut_bool Try.underlying4 _), (trodAll_cons_mk (Below.trod laidOut (by kernel_rfl) (of_decide_eq_true (by kernel_rfl)) k0 bel lt0) (trodAll_cons_mk (shut_string Try.underlying9 w1) trodAll_mk0)), rfl, bel.frame _, fun h => by cases h⟩

theorem over : Rows.srecLinesRow.holds Try.pinned (OpenSpec.ofChange Rows.srecLinesSpec) :=
  OpenClaim.holds_of_wide 3 Try.f3 rfl rfl rfl rfl rfl rfl rfl ⟨rfl, rfl, rfl, rfl, rfl⟩ rfl rfl rfl rfl rfl (by kernel_rfl) Try.func3 (by kernel_rfl)
    (of_decide_eq_true (by kernel_rfl)) (by unfold Func.isWrapper; first | (rw [if_pos (by decide +kernel)]; kernel_rfl) | (rw [if_neg (by decide +kernel)]; exact ⟨rfl, rfl⟩))
    (fun os started H enc _ => lifted os started H enc)

theorem proved : Rows.SrecLinesSaid := over
#print axioms proved
end Go.Proofs.Ytcddijenopijbaa.srecLines
