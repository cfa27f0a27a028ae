/- The contract of package inst's Of. -/
import Derived.Test.YtljhfalgplihhaaGreatDoorRdr
import Derived.Deep.CutBlock
namespace Go.Proofs.YtljhfalgplihhaaGreatDoor
open Go.ChangeShapes Go.WideShapes Go.ChangeAt Go.RowKit
set_option linter.unusedVariables false

/-- The call's three blocks (the result, the reader, of which m bytes have been asked for, the instruction), and what stands below. -/
structure InSt (w wx : World) (A : Option Addr) (n cap m : Nat) (cs : Array Value) : Prop where
  z : Blk wx w.heap.size 37 zInst
  rd : Blk wx (w.heap.size + 1) 125 (RdC A n cap m)
  ins : Blk wx (w.heap.size + 2) 37 cs
  bel : Below w.heap.size w wx
section
variable {w wx wy : World} {A : Option Addr} {n cap m : Nat} {cs : Array Value}
theorem InSt.below (h : InSt w wx A n cap m cs) (hb : Below wx.heap.size wx wy) : InSt w wy A n cap m cs :=
  ⟨Blk.below h.z hb h.z.lt, Blk.below h.rd hb h.rd.lt, Blk.below h.ins hb h.ins.lt, Below.trans0 h.bel hb⟩
theorem InSt.drew (h : InSt w wx A n cap m cs) : InSt w wx.drew A n cap m cs := ⟨Blk.drew h.z, Blk.drew h.rd, Blk.drew h.ins, Below.drew0 h.bel⟩
theorem InSt.drewN (h : InSt w wx A n cap m cs) (k : Nat) : InSt w (wx.drewN k) A n cap m cs := ⟨Blk.drewN h.z k, Blk.drewN h.rd k, Blk.drewN h.ins k, Below.drewN0 h.bel k⟩
theorem InSt.set (h : InSt w wx A n cap m cs) (i : Nat) (u : Value) : InSt w (wx.setCell ⟨w.heap.size + 2, i, none⟩ u) A n cap m (cs.setIfInBounds i u) :=
  ⟨Blk.far h.z (by simp) u, Blk.far h.rd (by simp) u, Blk.set_ h.ins i u, Below.setCell h.bel (by simp) u⟩
theorem InSt.next {x : Int} {e : Ending} (h : InSt w wx A n cap m cs) (hn : Nexted wx (w.heap.size + 1) A n cap m x e wy) : InSt w wy A n cap (m + 1) cs := by
  obtain ⟨_, h1, h2, h3⟩ := hn
  refine ⟨Blk.grown h.z h2 (fun e => ?_), h1, Blk.grown h.ins h2 (fun e => ?_), Below.grown h.bel h2 (Nat.le_of_lt h.z.lt) (fun k hk => ?_)⟩
  · injection e with e; omega
  · injection e with e; omega
  · injection hk with hk; omega
theorem InSt.lt (h : InSt w wx A n cap m cs) : w.heap.size + 2 < wx.heap.size := h.ins.lt
end
theorem rdC0 (A : Option Addr) (n cap : Nat) : RdC A n cap 0 = #[.slice A n cap, .int .i64 0, .bool false] := by unfold RdC; simp
theorem res13 (tmps : Array Value) (W : World) (g : Nat) (cs old : Array Value) (h : Blk W g 37 old) (hs : old.size = 8) (hc : cs.size = 8) (h2 : tmps.getD 2 undef = .pointer (some ⟨g, 0, none⟩)) (b : Int) (h3 : tmps.getD 3 undef = .int .i64 b) (h9 : True = True) :
    (results Tryz.f38 tmps).run Tryz.prog (W.setRow g cs) = .ok (.tuple #[.agg cs, .int .i64 b]) (W.setRow g cs) := by
  have hi : (Tryz.prog.info? 37).map (·.size) = some cs.size := by rw [hc]; kernel_rfl
  have hld := run_loadVar_row (P := Tryz.prog) (W.setRow g cs) g 37 37 cs (0, 0) _ (setRow_heap W g old cs _ (0, 0) h) Tryz.underlying37 rfl hi
  have h2' : tmps[2]?.getD undef = .pointer (some ⟨g, 0, none⟩) := by simpa using h2
  have h3' : tmps[3]?.getD undef = .int .i64 b := by simpa using h3
  simp [results, Tryz.results38, h2', h3', asAddr, hld]
set_option maxRecDepth 100000 in
set_option maxHeartbeats 4000000 in
theorem ofI_any (A : Option Addr) (n cap : Nat) (xs : List Int) (w : World) (hI : Ints .u8 w w.heap.size A n xs) (hn : n ≤ 140737488351232) (hP : PagAt w) (hK : KindsAt w) :
    Calls Tryz.prog 38 #[.slice A n cap] w fun e w' => e = .returned (.tuple #[.agg (inAgg xs), .int .i64 (if inOk xs then 0 else 20)]) ∧ Below w.heap.size w w' := by
  have HI := Lib.hid hI
  have HLx := Lib.hid hI.1
  have HW := Lib.hid hI.2.1
  have HPg := Lib.hid hP
  have HKd := Lib.hid hK
  have CN := Lib.hid (fun m wx (h : Blk wx (w.heap.size + 1) 125 (RdC A n cap m)) (hb : Below w.heap.size w wx) => next_any A n cap m xs hn wx (w.heap.size + 1) w.heap.size (hI.below (Nat.le_refl _) hb) (by omega) h)
  have HCN := Lib.hid (fun m wx cs (h : InSt w wx A n cap m cs) => next_any A n cap m xs hn wx (w.heap.size + 1) w.heap.size (hI.below (Nat.le_refl _) h.bel) (by omega) h.rd)
  have HPx := Lib.hid (fun wx (hb : Below w.heap.size w wx) => hP.below hb)
  have HKx := Lib.hid (fun wx (hb : Below w.heap.size w wx) => kinds_below hK hb)
  have hRg := fun k => iat_range8' hI.2.1 k
  have X0r := hRg 0
  have X1r := hRg 1
  have HRg := Lib.hid hRg
  have HE : Hid (inPg xs = (if iat xs 0 = 16 then 2 else if iat xs 0 = 17 then 3 else 1) ∧ inL1 xs = (if inPg xs = 1 then 1 else 2) ∧ inCo xs = (if inPg xs = 1 then iat xs 0 else iat xs 1)) := Lib.hid ⟨rfl, rfl, rfl⟩
  obtain ⟨X0, hX0⟩ : ∃ a, iat xs 0 = a := ⟨_, rfl⟩
  obtain ⟨X1, hX1⟩ : ∃ a, iat xs 1 = a := ⟨_, rfl⟩
  have N0 := CN.out 0
  have N1 := HCN.out 1
  rw [hX0] at X0r HE N0
  rw [hX1] at X1r HE N1
  have CN0 := Lib.hid N0
  have CN1 := Lib.hid N1
  obtain ⟨X0a, X0b⟩ := X0r
  obtain ⟨X1a, X1b⟩ := X1r
  clear hI hP hK hRg hX0 hX1 N0 N1 CN hn
  go_enter Tryz.func38, Tryz.ntmps38
  go_wp2_with fail
  have HB0 := Lib.hid (show Below w.heap.size w ((w.alloc (Obj.cells zInst 37)).alloc (Obj.cells #[.slice A n cap, .int .i64 0, .bool false] 125)) from Below.alloc0 (Below.alloc0 (Below.refl _ _) _) _)
  have HR0 := Lib.hid (show Blk ((w.alloc (Obj.cells zInst 37)).alloc (Obj.cells #[.slice A n cap, .int .i64 0, .bool false] 125)) (w.heap.size + 1) 125 (RdC A n cap 0) from by
    have := Blk.new (w.alloc (Obj.cells zInst 37)) 125 #[.slice A n cap, .int .i64 0, .bool false] (0, 0)
    rw [show (w.alloc (Obj.cells zInst 37)).heap.size = w.heap.size + 1 by simp] at this
    rw [rdC0]; exact this)
  have HZ0 := Lib.hid (show Blk ((w.alloc (Obj.cells zInst 37)).alloc (Obj.cells #[.slice A n cap, .int .i64 0, .bool false] 125)) w.heap.size 37 zInst from Blk.alloc (Blk.new _ _ _ _) _)
  refine (CN0.out _ HR0.out HB0.out).mono ?_
  rintro e w2 ⟨rfl, hr2, hg2, hs2⟩
  have hs : w2.heap.size = w.heap.size + 2 := by rw [hs2]; simp
  have HS := Lib.hid (show InSt w (w2.alloc (Obj.cells #[.int .i64 1, .int .u8 X0, .int .i64 0, .int .i64 0, .int .i64 0, .int .u8 0, .int .u16 0, .int .i64 0] 37)) A n cap 1 #[.int .i64 1, .int .u8 X0, .int .i64 0, .int .i64 0, .int .i64 0, .int .u8 0, .int .u16 0, .int .i64 0] from
    ⟨Blk.alloc (Blk.grown HZ0.out hg2 (fun e => by injection e with e; omega)) _, Blk.alloc hr2 _, by
      have := Blk.new w2 37 #[.int .i64 1, .int .u8 X0, .int .i64 0, .int .i64 0, .int .i64 0, .int .u8 0, .int .u16 0, .int .i64 0] (0, 0)
      rw [hs] at this; exact this, Below.alloc0 (Below.grown HB0.out hg2 (by simp; omega) (fun k hk => by injection hk with hk; omega)) _⟩)
  have hsz : (w2.alloc (Obj.cells #[.int .i64 1, .int .u8 X0, .int .i64 0, .int .i64 0, .int .i64 0, .int .u8 0, .int .u16 0, .int .i64 0] 37)).heap.size = w.heap.size + 3 := by simp [hs]
  clear hr2 hg2 hs2 HZ0 HR0 HB0
  go_upto_region 3 with (fail)
  generalize w2.alloc (Obj.cells #[.int .i64 1, .int .u8 X0, .int .i64 0, .int .i64 0, .int .i64 0, .int .u8 0, .int .u16 0, .int .i64 0] 37) = W1 at HS hsz ⊢
  clear hsz hs
  obtain ⟨c0, c1, c2, c3, c4, c5, c6, c7⟩ := HS.out.ins.s8
  have CPf := Lib.hid (fun w => prefix_any X0 X0a X0b w)
  have HPf : Hid (prefN X0 = if X0 = 16 then 2 else if X0 = 17 then 3 else 0) := Lib.hid rfl
  obtain ⟨F, hF⟩ : ∃ F, prefN X0 = F := ⟨_, rfl⟩
  rw [hF] at CPf HPf
  clear hF
  go_upto_if 16 with (go_at_call 59; refine (CPf.out _).mono ?_; rintro e w' ⟨rfl, rfl⟩)
  obtain ⟨D, hD⟩ : ∃ D, decide (0 < F) = D := ⟨_, rfl⟩
  rw [hD]
  go_cut [16] (fun _ wx => Hid (InSt w wx A n cap (inL1 xs) #[.int .i64 (inPg xs : Int), .int .u8 (inCo xs), .int .i64 0, .int .i64 0, .int .i64 0, .int .u8 0, .int .u16 0, .int .i64 0]))
  case first =>
    cases D
    · have hf := of_decide_eq_false hD
      have HQ : Hid (inPg xs = 1 ∧ inL1 xs = 1 ∧ inCo xs = X0) := Lib.hid (by
        obtain ⟨q1, q2, q3⟩ := HE.out
        have q4 := HPf.out
        have h16 : ¬ X0 = 16 := fun h => by rw [if_pos h] at q4; omega
        have h17 : ¬ X0 = 17 := fun h => by rw [if_neg h16, if_pos h] at q4; omega
        rw [if_neg h16, if_neg h17] at q1
        rw [q1] at q2 q3
        exact ⟨q1, q2, q3⟩)
      clear hf hD
      go_wp2_with fail
      go_meet
      case rel => rw [HQ.out.1, HQ.out.2.1, HQ.out.2.2]; exact HS
    · have hf := of_decide_eq_true hD
      have HQ : Hid ((inPg xs : Int) = F ∧ inL1 xs = 2 ∧ inCo xs = X1) := Lib.hid (by
        obtain ⟨q1, q2, q3⟩ := HE.out
        have q4 := HPf.out
        by_cases h16 : X0 = 16
        · rw [if_pos h16] at q1 q4
          rw [q1] at q2 q3 ⊢
          exact ⟨q4.symm, q2, q3⟩
        · by_cases h17 : X0 = 17
          · rw [if_neg h16, if_pos h17] at q1 q4
            rw [q1] at q2 q3 ⊢
            exact ⟨q4.symm, q2, q3⟩
          · rw [if_neg h16, if_neg h17] at q4; omega)
      clear hf hD
      go_wp2_with fail
      refine (CN1.out _ _ HS.out).mono ?_
      intro e w3 hN
      have HS3 := Lib.hid (HS.out.next hN)
      obtain ⟨rfl, -⟩ := hN
      clear c0 c1 c2 c3 c4 c5 c6 c7
      obtain ⟨c0, c1, c2, c3, c4, c5, c6, c7⟩ := HS3.out.ins.s8
      obtain ⟨f0, f1, f2, f3, f4, f5, f6, f7⟩ := HS3.out.ins.f8
      go_wp2_with fail
      go_meet
      case rel => rw [HQ.out.1, HQ.out.2.1, HQ.out.2.2]; exact Lib.hid ((HS3.out.set 0 (.int .i64 F)).set 1 (.int .u8 X1))
  case rest =>
    have HS2 := hcut
    clear hcut HS c0 c1 c2 c3 c4 c5 c6 c7 hD HPf CPf
    have hco := inCo_range HW.out
    have hmd := inMd_le HW.out
    have hpg : 1 ≤ inPg xs ∧ inPg xs ≤ 3 := by
      unfold inPg
      split
      · omega
      · split <;> omega
    have HDf : Hid (inMd xs = eMode (inE xs) ∧ inPo xs = (if pstd (inMd xs) then iat xs (inL1 xs) else 0) ∧ inL2 xs = inL1 xs + (if pstd (inMd xs) then 1 else 0) ∧ inN xs = shN (inMd xs) (inPo xs) ∧
      inVa xs = (if inN xs = 1 then (if shS (inMd xs) then signOf (iat xs (inL2 xs)) else iat xs (inL2 xs)) else if inN xs = 2 then 256 * iat xs (inL2 xs) + iat xs (inL2 xs + 1) else 0)) := Lib.hid ⟨rfl, rfl, rfl, rfl, rfl⟩
    have hpo := inPo_range HW.out
    have hE : ofE (inPg xs) (inCo xs).toNat = inE xs := by
      rw [ofE_eq _ _ hpg.1 hpg.2 (by omega)]
      unfold inE ofN
      rw [if_pos (by omega)]
      congr 1
    have HAg : Hid (inAgg xs = (if inOk xs then insC (inPg xs : Int) (inCo xs) (inE xs) (inPo xs) (inVa xs) (inLn xs : Int) else insC 0 0 0 0 0 0) ∧ inLn xs = inL2 xs + inN xs ∧ inOk xs = decide (inLn xs ≤ n)) := Lib.hid ⟨rfl, rfl, by unfold inOk; rw [HLx.out]⟩
    obtain ⟨PG, hPG⟩ : ∃ a, inPg xs = a := ⟨_, rfl⟩
    obtain ⟨CO, hCO⟩ : ∃ a : Nat, inCo xs = (a : Int) := Int.eq_ofNat_of_zero_le hco.1
    obtain ⟨E, hEE⟩ : ∃ a, inE xs = a := ⟨_, rfl⟩
    obtain ⟨L1, hL1⟩ : ∃ a, inL1 xs = a := ⟨_, rfl⟩
    obtain ⟨L2, hL2⟩ : ∃ a, inL2 xs = a := ⟨_, rfl⟩
    obtain ⟨PO, hPO⟩ : ∃ a : Nat, inPo xs = (a : Int) := Int.eq_ofNat_of_zero_le hpo.1
    obtain ⟨N, hN⟩ : ∃ a, inN xs = a := ⟨_, rfl⟩
    obtain ⟨VA, hVA⟩ : ∃ a, inVa xs = a := ⟨_, rfl⟩
    obtain ⟨LN, hLN⟩ : ∃ a, inLn xs = a := ⟨_, rfl⟩
    obtain ⟨MD, hMD⟩ : ∃ a, inMd xs = a := ⟨_, rfl⟩
    obtain ⟨OK, hOK⟩ : ∃ a, inOk xs = a := ⟨_, rfl⟩
    obtain ⟨AG, hAG⟩ : ∃ a, inAgg xs = a := ⟨_, rfl⟩
    rw [hPG, hCO, hEE, Int.toNat_natCast] at hE
    rw [hPG, hCO, hL1] at HS2
    rw [hMD, hEE, hPO, hL1, hL2, hN, hVA] at HDf
    rw [hAG, hOK, hPG, hCO, hEE, hPO, hVA, hLN, hL2, hN] at HAg
    have HFin := Lib.hid (And.intro hOK hAG)
    rw [hCO] at hco
    rw [hMD] at hmd
    rw [hPG] at hpg
    rw [hPO] at hpo
    have hco1 : CO < 256 := by omega
    have hpo1 : PO < 256 := by omega
    obtain ⟨pg0, pg1⟩ := hpg
    clear hPG hCO hEE hL1 hL2 hPO hN hVA hLN hMD hOK hAG hco hpo
    have CE := Lib.hid (fun w hT => pageOf_in PG CO pg0 pg1 hco1 w hT)
    rw [hE] at CE
    have HME := Lib.hid (show eMode E = MD from HDf.out.1.symm)
    have CPo := Lib.hid (fun w => posted_any (MD : Int) w)
    rw [pstdI_nat] at CPo
    have hN2 : N ≤ 2 := by
      have q4 := HDf.out.2.2.2.1
      have := shN_le MD (PO : Int) hmd ⟨by omega, by omega⟩
      omega
    have CWd := Lib.hid (fun p c o r v l w hT => width_any p c o (MD : Int) r v l PO hpo1 w hT)
    have hwd : widI (MD : Int) PO = N := by rw [widI_nat MD PO hmd]; exact HDf.out.2.2.2.1.symm
    rw [hwd] at CWd
    have CSg := Lib.hid (fun v h0 h1 w => single_any (MD : Int) v h0 h1 w)
    obtain ⟨P, hPs⟩ : ∃ P, pstd MD = P := ⟨_, rfl⟩
    rw [hPs] at HDf CPo
    clear hPs hE hwd
    obtain ⟨c0, c1, c2, c3, c4, c5, c6, c7⟩ := HS2.out.ins.s8
    go_wp2_with fail
    refine (CE.out _ (HPx.out _ HS2.out.bel)).mono ?_
    rintro e w3 ⟨rfl, hb3⟩
    have HS3 := Lib.hid (HS2.out.below hb3)
    clear hb3 c0 c1 c2 c3 c4 c5 c6 c7 HS2
    obtain ⟨c0, c1, c2, c3, c4, c5, c6, c7⟩ := HS3.out.ins.s8
    obtain ⟨f0, f1, f2, f3, f4, f5, f6, f7⟩ := HS3.out.ins.f8
    unfold entA
    go_upto_region 7 with (fail)
    have HS4 := Lib.hid (show InSt w (((w3.setCell ⟨w.heap.size + 2, 2, none⟩ (.int .i64 (eOp E : Int))).setCell ⟨w.heap.size + 2, 3, none⟩ (.int .i64 (eMode E : Int))).setCell ⟨w.heap.size + 2, 4, none⟩ (.int .i64 (eReg E : Int))) A n cap L1 #[.int .i64 (PG : Int), .int .u8 (CO : Int), .int .i64 (eOp E : Int), .int .i64 (eMode E : Int), .int .i64 (eReg E : Int), .int .u8 0, .int .u16 0, .int .i64 0] from ((HS3.out.set 2 (.int .i64 (eOp E : Int))).set 3 (.int .i64 (eMode E : Int))).set 4 (.int .i64 (eReg E : Int)))
    clear c0 c1 c2 c3 c4 c5 c6 c7 f0 f1 f2 f3 f4 f5 f6 f7
    generalize ((w3.setCell ⟨w.heap.size + 2, 2, none⟩ (.int .i64 (eOp E : Int))).setCell ⟨w.heap.size + 2, 3, none⟩ (.int .i64 (eMode E : Int))).setCell ⟨w.heap.size + 2, 4, none⟩ (.int .i64 (eReg E : Int)) = W4 at HS4 ⊢
    rw [HME.out] at HS4
    clear HS3
    obtain ⟨c0, c1, c2, c3, c4, c5, c6, c7⟩ := HS4.out.ins.s8
    go_upto_if 30 with (go_at_call 39; refine (CPo.out _).mono ?_; rintro e w' ⟨rfl, rfl⟩)
    go_cut [30] (fun _ wx => Hid (InSt w wx A n cap L2 #[.int .i64 (PG : Int), .int .u8 (CO : Int), .int .i64 (eOp E : Int), .int .i64 (MD : Int), .int .i64 (eReg E : Int), .int .u8 (PO : Int), .int .u16 0, .int .i64 0]))
    case first =>
      cases P
      · have HQ : Hid (PO = 0 ∧ L2 = L1) := Lib.hid (by
          obtain ⟨q1, q2, q3, _⟩ := HDf.out
          simp at q2 q3
          exact ⟨by omega, q3⟩)
        go_wp2_with fail
        go_meet
        case rel => rw [HQ.out.1, HQ.out.2]; exact HS4
      · have HQ : Hid ((PO : Int) = iat xs L1 ∧ L2 = L1 + 1) := Lib.hid (by
          obtain ⟨q1, q2, q3, _⟩ := HDf.out
          exact ⟨q2, q3⟩)
        go_wp2_with fail
        refine (HCN.out _ _ _ HS4.out).mono ?_
        intro e w5 hN
        have HS5 := Lib.hid (HS4.out.next hN)
        obtain ⟨rfl, -⟩ := hN
        rw [← HQ.out.1]
        clear c0 c1 c2 c3 c4 c5 c6 c7
        obtain ⟨c0, c1, c2, c3, c4, c5, c6, c7⟩ := HS5.out.ins.s8
        obtain ⟨f0, f1, f2, f3, f4, f5, f6, f7⟩ := HS5.out.ins.f8
        go_wp2_with fail
        go_meet
        case rel => rw [HQ.out.2]; exact Lib.hid (HS5.out.set 5 (.int .u8 (PO : Int)))
    case rest =>
      have HS6 := hcut
      clear hcut HS4 c0 c1 c2 c3 c4 c5 c6 c7
      obtain ⟨c0, c1, c2, c3, c4, c5, c6, c7⟩ := HS6.out.ins.s8
      go_wp2_with fail
      refine (CWd.out _ _ _ _ _ _ _ (HKx.out _ HS6.out.bel)).mono ?_
      rintro e w7 ⟨rfl, hb7⟩
      have HS7 := Lib.hid (HS6.out.below hb7)
      clear hb7 c0 c1 c2 c3 c4 c5 c6 c7 HS6
      go_upto_block 0 with (fail)
      go_cut [35] (fun _ wx => Hid (InSt w wx A n cap LN #[.int .i64 (PG : Int), .int .u8 (CO : Int), .int .i64 (eOp E : Int), .int .i64 (MD : Int), .int .i64 (eReg E : Int), .int .u8 (PO : Int), .int .u16 VA, .int .i64 0]))
      case first =>
        have hLN : LN = L2 + N := HAg.out.2.1
        have HVa : Hid (VA = (if N = 1 then (if shS MD then signOf (iat xs L2) else iat xs L2) else if N = 2 then 256 * iat xs L2 + iat xs (L2 + 1) else 0)) := Lib.hid HDf.out.2.2.2.2
        have CNa := HCN.out L2
        have CNb := HCN.out (L2 + 1)
        have ra := HRg.out L2
        have rb := HRg.out (L2 + 1)
        obtain ⟨XA, hXA⟩ : ∃ a, iat xs L2 = a := ⟨_, rfl⟩
        obtain ⟨XB, hXB⟩ : ∃ a, iat xs (L2 + 1) = a := ⟨_, rfl⟩
        rw [hXA] at CNa ra HVa
        rw [hXB] at CNb rb HVa
        have HNa := Lib.hid CNa
        have HNb := Lib.hid CNb
        obtain ⟨ra0, ra1⟩ := ra
        obtain ⟨rb0, rb1⟩ := rb
        clear hXA hXB CNa CNb
        rcases (show N = 0 ∨ N = 1 ∨ N = 2 by omega) with rfl | rfl | rfl
        · have HQ : Hid (VA = 0 ∧ LN = L2) := Lib.hid ⟨HVa.out, hLN⟩
          clear hLN
          go_wp2_with fail
          go_meet
          case rel => rw [HQ.out.1, HQ.out.2]; exact HS7
        · have HQ : Hid (LN = L2 + 1) := Lib.hid hLN
          have CS1 := CSg.out XA ra0 ra1
          rw [sglI_nat, show (if shS MD = true then signOf XA else XA) = VA from HVa.out.symm] at CS1
          have CS := Lib.hid CS1
          clear hLN CS1
          have HSd := Lib.hid (HS7.out.drew)
          go_upto_region 11 with (fail)
          go_region_held3 (fun w' => w'.cell? ⟨w.heap.size + 2, 3, none⟩ = some (.int .i64 (MD : Int)))
            (first
              | (with_reducible exact (HSd.out.ins.s8).2.2.2.1)
              | (with_reducible exact (HS8.out.ins.s8).2.2.2.1)
              | exact (Blk.s8 (show Blk _ (w.heap.size + 2) 37 #[.int .i64 (PG : Int), .int .u8 (CO : Int), .int .i64 (eOp E : Int), .int .i64 (MD : Int), .int .i64 (eReg E : Int), .int .u8 (PO : Int), .int .u16 VA, .int .i64 0] from (HS8.out.set 6 (.int .u16 VA)).ins)).2.2.2.1)
            (first
              | (go_at_call 58; ((with_reducible refine (HNa.out _ _ HSd.out).mono ?_); intro e w8 hN8; have HS8 := Lib.hid (HSd.out.next hN8); obtain ⟨rfl, -⟩ := hN8; have hf6 := HS8.out.ins.frozen 6; have hc6 := (HS8.out.ins.s8).2.2.2.2.2.2.1))
              | (go_at_call 61; ((with_reducible refine (CS.out _).mono ?_); rintro e w9 ⟨rfl, rfl⟩)))
          go_wp2_with fail
          go_meet
          case rel => rw [HQ.out]; exact Lib.hid (HS8.out.set 6 (.int .u16 VA))
        · have HQ : Hid (LN = L2 + 2 ∧ VA = 256 * XA + XB) := Lib.hid ⟨hLN, HVa.out⟩
          have CWo := Lib.hid (fun w => word_any XA XB w ra0 ra1 rb0 rb1)
          clear hLN
          go_wp2_with fail
          refine (HNa.out _ _ HS7.out).mono ?_
          intro e w8 hN8
          have HS8 := Lib.hid (HS7.out.next hN8)
          obtain ⟨rfl, -⟩ := hN8
          go_wp2_with fail
          refine (HNb.out _ _ HS8.out).mono ?_
          intro e w9 hN9
          have HS9 := Lib.hid (HS8.out.next hN9)
          obtain ⟨rfl, -⟩ := hN9
          obtain ⟨c0, c1, c2, c3, c4, c5, c6, c7⟩ := HS9.out.ins.s8
          have hf6 := HS9.out.ins.frozen 6
          go_wp2_with (go_at_call 62; refine (CWo.out _).mono ?_; rintro e w' ⟨rfl, rfl⟩)
          go_meet
          case rel => rw [HQ.out.1, HQ.out.2]; exact Lib.hid (HS9.out.set 6 (.int .u16 (256 * XA + XB)))
      case rest =>
        have HSf := hcut
        clear hcut HS7
        have hr := HSf.out.rd
        unfold RdC at hr
        have HMn : Hid (OK = true → min LN n = LN) := Lib.hid (fun h => by
          have := HAg.out.2.2
          rw [h] at this
          have := of_decide_eq_true this.symm
          omega)
        have HSh : Hid (decide (n < LN) = !OK) := Lib.hid (by
          rw [HAg.out.2.2]
          by_cases h : LN ≤ n
          · rw [decide_eq_true h]; exact decide_eq_false (by omega)
          · rw [decide_eq_false h]; exact decide_eq_true (by omega))
        rw [HSh.out] at hr
        obtain ⟨r0, r1, r2⟩ := hr.r3
        obtain ⟨c0, c1, c2, c3, c4, c5, c6, c7⟩ := HSf.out.ins.s8
        obtain ⟨f0, f1, f2, f3, f4, f5, f6, f7⟩ := HSf.out.ins.f8
        have HZ := Lib.hid HSf.out.z
        have HB := Lib.hid HSf.out.bel
        cases OK
        · have HAG2 : Hid (AG = zInst) := Lib.hid HAg.out.1
          simp only [Bool.not_false] at r2
          go_upto_region 16 with (fail)
          generalize wc = W9 at HZ HB ⊢
          refine wp_region_lit ?_
          refine Great.wpList_readTo rfl (some 52) rfl (.agg zInst) (by kernel_rfl) ?_
          refine wpList_store_rowTo rfl 37 _ _ rfl rfl w.heap.size zInst rfl rfl 37 zInst HZ.out (by kernel_rfl) rfl (by simp [Value.oneCell']) ?_
          refine Great.wpList_readTo rfl (some 3) rfl (.int .i64 20) (by kernel_rfl) ?_
          refine wpList_nil ?_
          simp only [Act.put, List.setIfInBounds_toArray, List.set_cons_zero, List.set_cons_succ]
          refine (‹∀ (a : Act) (w : World), Code.wp Tryz.prog Code.ret _ a w → _›) _ _ ?_
          refine wp_ret ?_
          show bodyPost Tryz.prog Tryz.f38 (fun e w' => e = Ending.returned (Value.tuple #[Value.agg (inAgg xs), Value.int .i64 (if inOk xs then 0 else 20)]) ∧ Below w.heap.size w w') .ret _ _
          refine bodyPost_ret (P := Tryz.prog) (fn := Tryz.f38) (v := .tuple #[.agg zInst, .int .i64 20]) ?_ rfl ⟨?_, HB.out.trans (below_rowI W9 _ _ _ (Nat.le_refl _))⟩
          · exact res13 _ W9 w.heap.size _ zInst HZ.out rfl rfl rfl 20 rfl rfl
          · rw [HFin.out.1, HFin.out.2, HAG2.out]; rfl
        · have HAG2 : Hid (AG = #[.int .i64 (PG : Int), .int .u8 (CO : Int), .int .i64 (eOp E : Int), .int .i64 (MD : Int), .int .i64 (eReg E : Int), .int .u8 (PO : Int), .int .u16 VA, .int .i64 (LN : Int)]) := Lib.hid (by rw [HAg.out.1, ← HME.out]; rfl)
          simp only [Bool.not_true] at r2
          rw [HMn.out rfl] at r1
          have HS9 := Lib.hid (show InSt w (wc.setCell ⟨w.heap.size + 2, 7, none⟩ (.int .i64 (LN : Int))) A n cap LN #[.int .i64 (PG : Int), .int .u8 (CO : Int), .int .i64 (eOp E : Int), .int .i64 (MD : Int), .int .i64 (eReg E : Int), .int .u8 (PO : Int), .int .u16 VA, .int .i64 (LN : Int)] from HSf.out.set 7 (.int .i64 (LN : Int)))
          go_upto_region 18 with (fail)
          generalize wc.setCell ⟨w.heap.size + 2, 7, none⟩ (.int .i64 (LN : Int)) = W9 at HS9 ⊢
          refine wp_region_lit ?_
          refine wpList_load_row rfl 37 _ rfl (w.heap.size + 2) rfl 37 _ (0, 0) _ HS9.out.ins Tryz.underlying37 rfl (by kernel_rfl) ?_
          refine wpList_store_rowTo rfl 37 _ _ rfl rfl w.heap.size _ rfl rfl 37 zInst HS9.out.z (by kernel_rfl) rfl (by simp [Value.oneCell']) ?_
          refine Great.wpList_readTo rfl (some 3) rfl (.int .i64 0) (by kernel_rfl) ?_
          refine wpList_nil ?_
          simp only [Act.put, List.setIfInBounds_toArray, List.set_cons_zero, List.set_cons_succ]
          refine (‹∀ (a : Act) (w : World), Code.wp Tryz.prog Code.ret _ a w → _›) _ _ ?_
          refine wp_ret ?_
          show bodyPost Tryz.prog Tryz.f38 (fun e w' => e = Ending.returned (Value.tuple #[Value.agg (inAgg xs), Value.int .i64 (if inOk xs then 0 else 20)]) ∧ Below w.heap.size w w') .ret _ _
          refine bodyPost_ret (P := Tryz.prog) (fn := Tryz.f38) (v := .tuple #[.agg #[.int .i64 (PG : Int), .int .u8 (CO : Int), .int .i64 (eOp E : Int), .int .i64 (MD : Int), .int .i64 (eReg E : Int), .int .u8 (PO : Int), .int .u16 VA, .int .i64 (LN : Int)], .int .i64 0]) ?_ rfl ⟨?_, HS9.out.bel.trans (below_rowI W9 _ _ _ (Nat.le_refl _))⟩
          · exact res13 _ W9 w.heap.size _ zInst HS9.out.z rfl rfl rfl 0 rfl rfl
          · rw [HFin.out.1, HFin.out.2, HAG2.out]; rfl
end Go.Proofs.YtljhfalgplihhaaGreatDoor
