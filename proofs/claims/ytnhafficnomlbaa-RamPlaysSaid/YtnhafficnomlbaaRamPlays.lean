/- The law RamPlays answers true for every input, and each argument reads afterwards as it read before. Conditions: none. -/
import Derived.Test.YtnhafficnomlbaaRows
import Derived.WalkKit
import Derived.ProofKit
import Derived.OpenShut
import Derived.ShutString
import Derived.ChangeOld
import Derived.Below
import Derived.Test.YtnhafficnomlbaaRamO
import Derived.Test.YtnhafficnomlbaaRamT
import Derived.Test.YtnhafficnomlbaaRamV
import Derived.Test.YtnhafficnomlbaaRamW
import Derived.BigQuiet
import Derived.Deep.DeepCutAuto
import Derived.Deep.CutBlock
namespace Go.Proofs.Ytnhafficnomlbaa.ramPlays
open Go.ChangeShapes Go.WideShapes Go.ChangeAt Go.RowKit
open Go.ChangeMaps (open_string shut_string)
set_option linter.unusedVariables false

theorem own : ownKnob Try.prog.godebug = none := by kernel_rfl
theorem laidOut : laidOutB Try.prog = true := by kernel_rfl

set_option maxRecDepth 100000 in
set_option maxHeartbeats 1000000 in
theorem walk (a0 : Option Addr) (len0 cap0 : Nat) (z0 : List Int) (a1 : Int) (a2 : Option Addr) (len2 cap2 : Nat) (z2 : List OpR) (w : World) (w0 : IsRow .u8 w a0 len0 cap0 z0) (w1 : (Lit.int .i64 a1).wf = true) (w2 : OrIn w a2 len2 cap2 z2) :
    Calls Try.prog 8 #[.slice a0 len0 cap0, .int .i64 a1, .slice a2 len2 cap2] w fun e w' => e = .returned (.bool true) ∧ Below w.heap.size w w' := by
  -- open 2 : List OpR | OrIn | open_ors
  obtain ⟨xs, hx, hl, hm, hz⟩ := rdY_of_row w0
  obtain ⟨s0, s1⟩ := bounds_i64 w1
  unfold maxLen at hm
  obtain ⟨hR2, hl2, hm2, hwf2⟩ := w2
  have HR2 := Lib.hid hR2
  have HL2 := Lib.hid hl2
  have HW2 := Lib.hid hwf2
  clear hR2 hl2 hwf2 w0 w1
  by_cases hc : 40 < len2
  · have d0 : (40 : Int) < (len2 : Int) := by omega
    go_enter Try.func8, Try.ntmps8
    go_wp2
    go_ret
    exact ⟨rfl, Below.refl _ _⟩
  · have d0 : ¬ (40 : Int) < (len2 : Int) := by omega
    have HXL := Lib.hid hl
    have HX := Lib.hid hx
    have HZ := Lib.hid hz
    clear hl hx hz
    by_cases hr : a1 < 0 ∨ 65536 < a1
    · have HN := Lib.hid (raNew_arg a0 len0 cap0 a1 w hr)
      go_enter Try.func8, Try.ntmps8
      go_wp2_with fail
      refine HN.out.mono ?_
      rintro e w' ⟨rfl, rfl⟩
      by_cases h0 : a1 < 0
      · go_wp2_with fail
        refine (alive32 _).mono ?_
        rintro e w9 ⟨rfl, hb⟩
        have HB9 := Lib.hid hb
        clear hb
        go_wp2
        go_ret
        exact ⟨rfl, HB9.out⟩
      · have h1 : 65536 < a1 := by omega
        go_wp2_with fail
        refine (alive32 _).mono ?_
        rintro e w9 ⟨rfl, hb⟩
        have HB9 := Lib.hid hb
        clear hb
        go_wp2
        go_ret
        exact ⟨rfl, HB9.out⟩
    · have r0 : ¬ a1 < 0 := by omega
      have r1 : ¬ 65536 < a1 := by omega
      by_cases hs : 65536 < len0
      · have HN := Lib.hid (raNew_size a0 len0 cap0 a1 w ⟨by omega, by omega⟩ (by omega) hs)
        have h1 : (65536 : Int) < (len0 : Int) := by omega
        clear hr
        go_enter Try.func8, Try.ntmps8
        go_wp2_with fail
        refine HN.out.mono ?_
        rintro e w' ⟨rfl, hb⟩
        have HB8 := Lib.hid hb
        clear hb
        go_wp2_with fail
        refine (alive32 _).mono ?_
        rintro e w9 ⟨rfl, hb⟩
        have HB9 := Lib.hid (Below.trans0 HB8.out hb)
        clear hb
        go_wp2
        go_ret
        exact ⟨rfl, HB9.out⟩
      · have HN := Lib.hid (raNew_any (.slice a0 len0 cap0) xs a1 w HX.out HZ.out ⟨by omega, by omega⟩ (by rw [HXL.out]; omega))
        have h1 : ¬ (65536 : Int) < (len0 : Int) := by omega
        have hlen : len0 ≤ 65536 := by omega
        clear hr hs
        go_enter Try.func8, Try.ntmps8
        go_wp2_with fail
        refine HN.out.mono ?_
        rintro e w1 ⟨m0, p0, rfl, hra, hb, hown⟩
        have hmk : ∀ w, (Instr.makeSlice 22 (.int .i64 65536) (.int .i64 65536)).run Try.prog w = .ok (.slice (some ⟨w.heap.size, 0, none⟩) 65536 65536) (w.alloc (.cells (rowF (fun _ => 0) 65536) 5)) := fun w => made_N w 65536 (Nat.le_refl _)
        obtain ⟨lb, hlb⟩ : ∃ lb, w1.heap.size = lb := ⟨_, rfl⟩
        have HLB : Hid (w.heap.size ≤ lb) := Lib.hid (by rw [← hlb]; exact hb.size)
        have HRA := Lib.hid (hra.alloc (.cells (rowF (fun _ => 0) 65536) 5))
        have HBL : Hid (Blk (w1.alloc (.cells (rowF (fun _ => 0) 65536) 5)) lb 5 (rowF (fun _ => 0) 65536)) := Lib.hid (by rw [← hlb]; exact Blk.new w1 _ _ _)
        have HLT : Hid (∀ b, RS m0 p0 b → b < lb) := Lib.hid (fun b hb' => by rw [← hlb]; exact hra.own_lt b hb')
        have HBE : Hid (Below w.heap.size w (w1.alloc (.cells (rowF (fun _ => 0) 65536) 5))) := Lib.hid (Below.alloc0 hb _)
        have HOW := Lib.hid hown
        have hmk1 := hmk w1
        rw [hlb] at hmk1
        clear hra hb hown hmk HN hlb
        go_upto_region 11 with (fail)
        generalize w1.alloc (.cells (rowF (fun _ => 0) 65536) 5) = w2 at HRA HBL HBE ⊢
        refine wp_region_lit ?_
        refine Great.wpList_readTo rfl (some 59) rfl (.slice (some ⟨lb, 0, none⟩) 65536 65536) (by rfl) ?_
        refine Great.wpList_readTo rfl (some 60) rfl (.slice a0 len0 cap0) (by rfl) ?_
        refine wpList_copy_F rfl (.tmp 59) (.tmp 60) rfl lb 0 65536 65536 a0 len0 cap0 rfl rfl (fun _ => 0) 65536 HBL.out xs (Els.Rd.below HX.out HBE.out) (by rw [HXL.out]; exact (Nat.min_eq_left hlen).symm) (by rw [HXL.out]; omega) ?_
        intro w3 hb3 hg3
        have HR3 : Hid (RP w3 w.heap.size lb (.pointer (some ⟨m0, 0, none⟩)) a1 (ldF (fun _ => 0) 0 xs xs.length)) := Lib.hid ⟨m0, p0, rfl, HRA.out.grown hg3 (fun b hb e => by have := HLT.out b hb; have := Option.some.inj e; omega), hb3, fun e => by have := HLT.out lb e; omega, HOW.out⟩
        have HB3 : Hid (Below w.heap.size w w3) := Lib.hid (Below.grown HBE.out hg3 (by have := HBE.out.size; exact this) (fun g e => by obtain rfl := Option.some.inj e; exact HLB.out))
        clear hb3 hg3 HRA HBL HBE HOW HLT hmk1
        go_wp2
        generalize decide (a1 < 0) = F1
        generalize decide (65536 < a1) = F2
        generalize (F1 || F2) = F4
        generalize decide ((65536 : Int) < (len0 : Int)) = F3
        clear hlen r0 r1 h1 HX HZ HXL
        go_loopw [7, 10] (fun u7 i wr => ∃ k : Nat, k ≤ len2 ∧ i = .int .i64 k ∧ Hid (∃ f, RP wr w.heap.size lb u7 a1 f) ∧ Hid (Below w.heap.size w wr)) (fun _ i _ => len2 - (intOf i).toNat)
        case atStart => exact ⟨0, Nat.zero_le _, rfl, Lib.hid ⟨_, HR3.out⟩, HB3⟩
        case round =>
          obtain ⟨k, hk, rfl, HP, HBW⟩ := hrel
          obtain ⟨f, m, p, rfl, hra, hbl, hnl, hown⟩ := HP.out
          by_cases hlt : k < len2
          · obtain ⟨A1, c1, e1, ho1⟩ := Els.Rd.open_ HR2.out
            obtain ⟨b, off, eA, hbw, hcell⟩ := ho1 (by rw [HL2.out]; omega)
            simp only [Value.slice.injEq] at e1
            obtain ⟨eB, -, -⟩ := e1
            obtain rfl := eB.trans eA
            clear ho1 eA eB
            obtain ⟨x, hx⟩ : ∃ x, z2[k]? = some x := ⟨_, List.getElem?_eq_getElem (by rw [HL2.out]; exact hlt)⟩
            obtain ⟨kd, At, xA, xn, xc⟩ := x
            have d1 : wr.cell? ⟨b, off + k * 3, none⟩ = some (.int .i64 kd) := (HBW.out.cell (p := ⟨b, off + (k * 3 + 0), none⟩) hbw).trans (hcell k _ hx 0 (.int .i64 kd) rfl)
            have d2 : wr.cell? ⟨b, off + k * 3 + 1, none⟩ = some (.int .i64 At) := (HBW.out.cell (p := ⟨b, off + (k * 3 + 1), none⟩) hbw).trans (hcell k _ hx 1 (.int .i64 At) rfl)
            have d3 : wr.cell? ⟨b, off + k * 3 + 2, none⟩ = some (.slice xA xn xc) := (HBW.out.cell (p := ⟨b, off + (k * 3 + 2), none⟩) hbw).trans (hcell k _ hx 2 (.slice xA xn xc) rfl)
            obtain ⟨w1k, w1a, X, hin⟩ := HW2.out _ (List.mem_of_getElem? hx)
            dsimp only at hin w1k w1a
            obtain ⟨q0, q1⟩ := bounds_i64 w1a
            have HX := Lib.hid (show X.length = xn from hin.2.1)
            have HXR := Lib.hid hin.1
            have HXB : Hid (Byt X) := Lib.hid (Byt.of_wf hin.2.2.2)
            have t0 : (0 : Int) ≤ k := by omega
            have t1 : (k : Int) < len2 := by omega
            have HRA := Lib.hid hra
            have HBL := Lib.hid hbl
            have HNL := Lib.hid hnl
            have HOW := Lib.hid hown
            clear hcell hx hin w1k w1a HP hra hbl hnl hown
            by_cases hx0 : xn = 0
            · subst hx0
              go_wp2
              go_ret
              exact ⟨rfl, Below.alloc0 HBW.out _⟩
            · by_cases hx3 : 300 < xn
              · have e0 : ((xn : Int) == 0) = false := by simp; omega
                have e3 : (300 : Int) < (xn : Int) := by omega
                go_wp2
                go_ret
                exact ⟨rfl, Below.alloc0 HBW.out _⟩
              · have e0 : ((xn : Int) == 0) = false := by simp; omega
                have e3 : ¬ (300 : Int) < (xn : Int) := by omega
                have HXN : Hid (¬ xn = 0) := Lib.hid hx0
                have HX3 : Hid (xn ≤ 300) := Lib.hid (by omega)
                obtain ⟨a, ha⟩ : ∃ a : Nat, IntKind.u16.wrap At = (a : Int) := ⟨(At % 65536).toNat, by rw [show IntKind.u16.wrap At = At % 65536 from rfl]; omega⟩
                have HA : Hid (a < 65536) := Lib.hid (by have : IntKind.u16.wrap At = At % 65536 := rfl; omega)
                have HAW := Lib.hid ha
                clear hx0 hx3
                go_upto_block 2 with (fail)
                obtain ⟨ob, hob⟩ : ∃ ob, wr.heap.size = ob := ⟨_, rfl⟩
                have HO : Hid (Blk (wr.alloc (.cells #[.int .i64 kd, .int .i64 At, .slice xA xn xc] 47)) ob 47 #[.int .i64 kd, .int .i64 At, .slice xA xn xc]) := Lib.hid (by rw [← hob]; exact Blk.new wr _ _ _)
                have HRX := Lib.hid (HRA.out.alloc (.cells #[.int .i64 kd, .int .i64 At, .slice xA xn xc] 47))
                have HBX := Lib.hid (HBL.out.alloc (.cells #[.int .i64 kd, .int .i64 At, .slice xA xn xc] 47))
                have HWX := Lib.hid (Below.alloc0 HBW.out (.cells #[.int .i64 kd, .int .i64 At, .slice xA xn xc] 47))
                have HNO : Hid (¬ RS m p ob) := Lib.hid (fun e => by have := HRA.out.own_lt ob e; omega)
                have HOL : Hid (lb < ob ∧ w.heap.size ≤ ob) := Lib.hid ⟨by rw [← hob]; exact HBL.out.lt, by rw [← hob]; exact HBW.out.size⟩
                rw [hob]
                generalize wr.alloc (.cells #[.int .i64 kd, .int .i64 At, .slice xA xn xc] 47) = wx at HO HRX HBX HWX ⊢
                clear HRA HBL HBW hob d1 d2 d3 e0 e3 ha
                have x0 : ∃ bx ox, xA = some ⟨bx, ox, none⟩ ∧ bx < w.heap.size ∧ w.cell? ⟨bx, ox, none⟩ = some (.int .u8 (iat X 0)) := by
                  obtain ⟨A', c', e, h2⟩ := rdY_open HXR.out
                  simp only [Value.slice.injEq] at e
                  obtain ⟨rfl, -, -⟩ := e
                  obtain ⟨g, o, rfl, hlt, h3⟩ := h2 (by rw [HX.out]; have := HXN.out; omega)
                  exact ⟨g, o, rfl, hlt, by have := h3 0 (by rw [HX.out]; have := HXN.out; omega); rwa [Nat.add_zero] at this⟩
                obtain ⟨bx, ox, rfl, hbx, hcx⟩ := x0
                have HCX := Lib.hid (fun u (h : Below w.heap.size w u) => (h.cell (p := ⟨bx, ox, none⟩) hbx).trans hcx)
                have hxb := HXB.out.at_ 0
                have HXB0 := Lib.hid hxb
                generalize iat X 0 = x at HCX HXB0
                clear hcx hxb
                have hxn0 : (0 : Int) < (xn : Int) := by have := HXN.out; omega
                go_cut [7] (fun u7 wy => ∃ f', Hid (RP wy w.heap.size lb u7 a1 f') ∧ Hid (Blk wy ob 47 #[.int .i64 kd, .int .i64 At, .slice (some ⟨bx, ox, none⟩) xn xc]) ∧ Hid (Below w.heap.size w wy))
                case first =>
                  have hkd : kd = 3 ∨ kd = 4 ∨ kd = 5 ∨ (¬ kd = 3 ∧ ¬ kd = 4 ∧ ¬ kd = 5) := by omega
                  have hc := HO.out.c3
                  have c1 := HCX.out _ HWX.out
                  have a0' : (0 : Int) ≤ (a : Int) := by omega
                  have a65 : (a : Int) < 65536 := by have := HA.out; omega
                  obtain ⟨o0, o1, o2⟩ := hc
                  rcases hkd with rfl | rfl | rfl | ⟨k3, k4, k5⟩
                  · have HPK := Lib.hid (raPoke_any m p a1 f a x wx HRX.out HA.out HXB0.out)
                    go_wp2_with fail
                    refine HPK.out.mono ?_
                    rintro e W ⟨rfl, p', h1, h2⟩
                    have HW : Hid (Below w.heap.size w W) := Lib.hid (HWX.out.trans (h2.below HWX.out.size HOW.out))
                    have HO2 := Lib.hid (h2.blk HO.out HNO.out)
                    have HB2 := Lib.hid (h2.blk HBX.out HNL.out)
                    have HP2 := Lib.hid (RP.poke h1 h2 HBX.out HNL.out HOW.out HWX.out.size HA.out)
                    have HN2 : lb ≠ ob := by have := HOL.out; omega
                    have HO3 := Lib.hid (HO2.out.far (p := ⟨lb, a, none⟩) (fun e => HN2 e.symm) (.int .u8 x))
                    have HW3 : Hid (Below w.heap.size w (W.setCell ⟨lb, a, none⟩ (.int .u8 x))) := Lib.hid (Below.set0 HW.out HLB.out _)
                    clear h1 h2 HPK o0 o1 o2 c1 HN2
                    have c1 := HCX.out _ HW.out
                    obtain ⟨o0, o1, o2⟩ := HO2.out.c3
                    have c2 : W.cell? ⟨lb, a, none⟩ = some (.int .u8 (f a)) := by rw [HB2.out.cell, rowF_at f 65536 a HA.out]
                    have f2 := HB2.out.frozen a
                    generalize f a = y at c2
                    go_wp2
                    go_meet
                    case rel => exact ⟨_, HP2, HO3, HW3⟩
                  · by_cases hf : 0 ≤ At ∧ At + xn ≤ 65536
                    · have hAt : At = (a : Int) := by have := HAW.out; have e : IntKind.u16.wrap At = At % 65536 := rfl; have := HXN.out; omega
                      subst hAt
                      have hax : a + xn ≤ 65536 := by omega
                      have HXW := Lib.hid (Els.Rd.below HXR.out HWX.out)
                      have HPK := Lib.hid (raLoad_ok m p a1 f a (.slice (some ⟨bx, ox, none⟩) xn xc) X wx HRX.out HXW.out HXB.out (fun b o n c e hn hb => by
                        simp only [Value.slice.injEq, Option.some.injEq, Addr.mk.injEq] at e
                        obtain ⟨⟨rfl, -, -⟩, -, -⟩ := e
                        have := HOW.out _ hb
                        omega) (by rw [HX.out]; exact hax))
                      have g0 : decide ((0 : Int) ≤ (a : Int)) = true := decide_eq_true (by omega)
                      have g1 : decide ((a : Int) ≤ 65536 - (xn : Int)) = true := decide_eq_true (by omega)
                      have kwx : IntKind.i64.wrap (65536 - (xn : Int)) = 65536 - (xn : Int) := IntWalk.i64_in _ (by have := HX3.out; omega)
                      have HAX := Lib.hid hax
                      clear hf hax
                      go_wp2_with fail
                      refine HPK.out.mono ?_
                      rintro e W ⟨rfl, p', h1, h2⟩
                      have HW : Hid (Below w.heap.size w W) := Lib.hid (HWX.out.trans (h2.below HWX.out.size HOW.out))
                      have HO2 := Lib.hid (h2.blk HO.out HNO.out)
                      have HB2 := Lib.hid (h2.blk HBX.out HNL.out)
                      have HR2' := Lib.hid h1
                      have HN2 := Lib.hid (h2.off HBX.out.lt HNL.out)
                      have HA2 := Lib.hid (h2.above HWX.out.size HOW.out)
                      have HXW2 := Lib.hid (Els.Rd.below HXR.out HW.out)
                      have HNB : lb ≠ ob := by have := HOL.out; omega
                      have HNE := Lib.hid HNB
                      clear h1 h2 HPK o0 o1 o2 c1 HNB
                      obtain ⟨o0, o1, o2⟩ := HO2.out.c3
                      have S0 : Hid (W.drew.cell? ⟨ob, 1, none⟩ = some (.int .i64 (a : Int)) ∧ W.drew.cell? ⟨ob, 2, none⟩ = some (.slice (some ⟨bx, ox, none⟩) xn xc)) := Lib.hid ⟨o1, o2⟩
                      have hne : ¬ (65536 = a) := by have := HA.out; omega
                      have hle : (a : Int) ≤ 65536 := by omega
                      go_wp2
                      refine wp_region_noPanic ?_
                      refine wp_region_held_drew (S := (fun w' => w'.cell? ⟨ob, 1, none⟩ = some (.int .i64 (a : Int)) ∧ w'.cell? ⟨ob, 2, none⟩ = some (.slice (some ⟨bx, ox, none⟩) xn xc))) (by kernel_rfl) ?_ (fun hH0 => ?_)
                      · (try dsimp only); with_reducible exact S0.out
                      refine wpAnyH_take (i := 0) (oi := ({ dst := some 159, op := Op.move (Operand.tmp 9), type := 22, pos := "law.go:84", after := #[], guard := none } : Oper)) (v := ?_) rfl (by kernel_rfl) (by kernel_rfl) (by kernel_rfl) (fun _ _ _ h => h) (Or.inl ⟨by rfl, ?_⟩) (by assumption) ?_
                      rotate_left 1
                      · (intro w hSw; (try dsimp only at hSw); go_simp; (try with_reducible rfl))
                      (try simp only [Act.put, List.setIfInBounds_toArray, List.set_cons_zero, List.set_cons_succ])
                      refine wpAnyH_take (i := 1) (oi := ({ dst := some 160, op := Op.fieldAddr 47 (Operand.tmp 11) 1, type := 0, pos := "law.go:84", after := #[], guard := none } : Oper)) (v := ?_) rfl (by kernel_rfl) (by kernel_rfl) (by kernel_rfl) (fun _ _ _ h => h) (Or.inl ⟨by rfl, ?_⟩) (by assumption) ?_
                      rotate_left 1
                      · (intro w hSw; (try dsimp only at hSw); go_simp; (try with_reducible rfl))
                      (try simp only [Act.put, List.setIfInBounds_toArray, List.set_cons_zero, List.set_cons_succ])
                      refine wpAnyH_take (i := 2) (oi := ({ dst := some 161, op := Op.load 3 (Operand.tmp 160), type := 3, pos := "law.go:84", after := #[{ on := 1, ground := Ground.data }], guard := none } : Oper)) (v := ?_) rfl (by kernel_rfl) (by kernel_rfl) (by kernel_rfl) (fun _ _ _ h => h) (Or.inl ⟨by rfl, ?_⟩) (by assumption) ?_
                      rotate_left 1
                      · (intro w hSw; (try dsimp only at hSw); go_simp; (try with_reducible rfl))
                      (try simp only [Act.put, List.setIfInBounds_toArray, List.set_cons_zero, List.set_cons_succ])
                      refine wpAnyH_take (i := 3) (oi := ({ dst := some 162, op := Op.slice 22 (Operand.tmp 159) (some (Operand.tmp 161)) none none, type := 22, pos := "law.go:84", after := #[{ on := 0, ground := Ground.data }, { on := 2, ground := Ground.data }], guard := none } : Oper)) (v := ?_) rfl (by kernel_rfl) (by kernel_rfl) (by kernel_rfl) (fun _ _ _ h => h) (Or.inl ⟨by rfl, ?_⟩) (by assumption) ?_
                      rotate_left 1
                      · (intro w hSw; (try dsimp only at hSw); go_simp; (try with_reducible rfl))
                      (try simp only [Act.put, List.setIfInBounds_toArray, List.set_cons_zero, List.set_cons_succ])
                      refine wpAnyH_take (i := 4) (oi := ({ dst := some 163, op := Op.fieldAddr 47 (Operand.tmp 11) 2, type := 0, pos := "law.go:84", after := #[], guard := none } : Oper)) (v := ?_) rfl (by kernel_rfl) (by kernel_rfl) (by kernel_rfl) (fun _ _ _ h => h) (Or.inl ⟨by rfl, ?_⟩) (by assumption) ?_
                      rotate_left 1
                      · (intro w hSw; (try dsimp only at hSw); go_simp; (try with_reducible rfl))
                      (try simp only [Act.put, List.setIfInBounds_toArray, List.set_cons_zero, List.set_cons_succ])
                      refine wpAnyH_take (i := 5) (oi := ({ dst := some 164, op := Op.load 22 (Operand.tmp 163), type := 22, pos := "law.go:84", after := #[{ on := 4, ground := Ground.data }], guard := none } : Oper)) (v := ?_) rfl (by kernel_rfl) (by kernel_rfl) (by kernel_rfl) (fun _ _ _ h => h) (Or.inl ⟨by rfl, ?_⟩) (by assumption) ?_
                      rotate_left 1
                      · (intro w hSw; (try dsimp only at hSw); go_simp; (try with_reducible rfl))
                      (try simp only [Act.put, List.setIfInBounds_toArray, List.set_cons_zero, List.set_cons_succ])
                      refine wpAnyH_ready (rs := [6]) (by kernel_rfl) (by simp) ?_
                      refine AllReadyH.cons (o := ({ dst := some 165, op := Op.call { callee := Callee.builtin Builtin.copy, args := #[Operand.tmp 162, Operand.tmp 164], argTypes := #[22, 22] }, type := 3, pos := "law.go:84", after := #[{ on := 3, ground := Ground.data }, { on := 5, ground := Ground.data }], guard := none } : Oper)) rfl (fun K hK => ?_) ?_
                      rotate_left 1
                      · exact AllReadyH.nil
                      (refine step_copy_F (by rfl) (.tmp 162) (.tmp 164) (by rfl) lb a (65536 - a) (65536 - a) (some ⟨bx, ox, none⟩) xn xc (by first | rfl | (show Value.slice _ _ _ = _; rw [if_neg hne])) (by rfl) f 65536 HB2.out.drew X HXW2.out (by rw [HX.out]; have := HXN.out; omega) (by rw [HX.out]; have := HAX.out; exact (Nat.min_eq_left (by omega)).symm) (by rw [HX.out]; exact HAX.out) ?_; intro w5 hb5 hg5; have S3 : Hid (w5.cell? ⟨ob, 1, none⟩ = some (.int .i64 (a : Int)) ∧ w5.cell? ⟨ob, 2, none⟩ = some (.slice (some ⟨bx, ox, none⟩) xn xc)) := Lib.hid ⟨hg5.cell S0.out.1 (fun e => HNE.out (Option.some.inj e).symm), hg5.cell S0.out.2 (fun e => HNE.out (Option.some.inj e).symm)⟩)
                      first | (refine hK.out _ _ ?_ (fun hH1 => ?_)) | (go_wp2_with fail; refine hK.out _ _ ?_ (fun hH1 => ?_))
                      · (try dsimp only); with_reducible exact S3.out
                      clear hK K hH0
                      (try simp only [Act.put, List.setIfInBounds_toArray, List.set_cons_zero, List.set_cons_succ])
                      refine wpAnyH_done (by kernel_rfl) ?_ _
                      refine NoPanic.normal ?_
                      have HP5 : Hid (RP w5 w.heap.size lb (.pointer (some ⟨m, 0, none⟩)) a1 (ldF f a X X.length)) := Lib.hid ⟨m, p', rfl, HR2'.out.drew.grown hg5 (fun b hb e => HN2.out (by rw [← Option.some.inj e]; exact hb)), hb5, HN2.out, HA2.out⟩
                      have HO5 : Hid (Blk w5 ob 47 #[.int .i64 4, .int .i64 (a : Int), .slice (some ⟨bx, ox, none⟩) xn xc]) := Lib.hid ((hg5.block ob (by have := HO2.out.lt; exact this) (fun e => HNE.out (Option.some.inj e).symm)).trans HO2.out)
                      have HW5 : Hid (Below w.heap.size w w5) := Lib.hid (Below.grown (Below.drew0 HW.out) hg5 (by have := HW.out.size; exact this) (fun g e => by obtain rfl := Option.some.inj e; exact HLB.out))
                      clear hb5 hg5 S0 S3 o0 o1 o2 hne hle g0 g1 kwx
                      go_wp2
                      go_meet
                      case rel => exact ⟨_, HP5, HO5, HW5⟩
                    · have HPK := Lib.hid (raLoad_no m At (some ⟨bx, ox, none⟩) xn xc wx ⟨q0, q1⟩ (by have := HX3.out; omega) hf)
                      have HP2 : Hid (RP wx w.heap.size lb (.pointer (some ⟨m, 0, none⟩)) a1 f) := Lib.hid ⟨m, p, rfl, HRX.out, HBX.out, HNL.out, HOW.out⟩
                      have kwx : IntKind.i64.wrap (65536 - (xn : Int)) = 65536 - (xn : Int) := IntWalk.i64_in _ (by have := HX3.out; omega)
                      by_cases h0 : 0 ≤ At
                      · have g0 := decide_eq_true h0
                        have g1 : decide (At ≤ 65536 - (xn : Int)) = false := decide_eq_false (by omega)
                        clear hf
                        go_wp2_with fail
                        refine HPK.out.mono ?_
                        rintro e W ⟨rfl, rfl⟩
                        clear HPK
                        go_wp2
                        go_meet
                        case rel => exact ⟨_, HP2, HO, HWX⟩
                      · have g0 : decide (0 ≤ At) = false := decide_eq_false h0
                        clear hf h0
                        go_wp2_with fail
                        refine HPK.out.mono ?_
                        rintro e W ⟨rfl, rfl⟩
                        clear HPK
                        go_wp2
                        go_meet
                        case rel => exact ⟨_, HP2, HO, HWX⟩
                  · have HCP := Lib.hid (raCopy_any m p a1 f wx HRX.out)
                    go_wp2_with fail
                    refine HCP.out.mono ?_
                    rintro e W1 ⟨m2, p2, rfl, hra2, hb2, hown2⟩
                    have HR1 := Lib.hid (HRX.out.below hb2)
                    have HR2' := Lib.hid hra2
                    have HB1 := Lib.hid (HBX.out.below hb2 HBX.out.lt)
                    have HO1 := Lib.hid (HO.out.below hb2 HO.out.lt)
                    have HW1 := Lib.hid (Below.trans0 HWX.out hb2)
                    have HDI : Hid (∀ b, RS m2 p2 b → ¬ RS m p b) := Lib.hid (fun b h1 h2 => by have := hown2 b h1; have := HRX.out.own_lt b h2; omega)
                    have HN1 : Hid (¬ RS m2 p2 lb) := Lib.hid (fun e => by have := hown2 lb e; have := HBX.out.lt; omega)
                    have HA1 : Hid (∀ b, RS m2 p2 b → w.heap.size ≤ b) := Lib.hid (fun b e => by have := hown2 b e; have := HWX.out.size; omega)
                    have HS1 := Lib.hid (raSame_any m2 m p2 p a1 f f W1 hra2 HR1.out)
                    rw [sameF_self] at HS1
                    clear hra2 hb2 hown2 HCP o0 o1 o2 c1
                    go_wp2_with fail
                    refine HS1.out.mono ?_
                    rintro e W2 ⟨rfl, hb3⟩
                    have HR3' := Lib.hid (HR1.out.below hb3)
                    have HR4 := Lib.hid (HR2'.out.below hb3)
                    have HB4 := Lib.hid (HB1.out.below hb3 HB1.out.lt)
                    have HO4 := Lib.hid (HO1.out.below hb3 HO1.out.lt)
                    have HW4 := Lib.hid (Below.trans0 HW1.out hb3)
                    have c2 : W2.cell? ⟨lb, a, none⟩ = some (.int .u8 (f a)) := by rw [HB4.out.cell, rowF_at f 65536 a HA.out]
                    obtain ⟨z, hz⟩ : ∃ z, IntKind.u8.wrap (f a + 1) = z := ⟨_, rfl⟩
                    have hzb : 0 ≤ z ∧ z < 256 := by have : IntKind.u8.wrap (f a + 1) = (f a + 1) % 256 := rfl; omega
                    have hzn : f a ≠ z := by have : IntKind.u8.wrap (f a + 1) = (f a + 1) % 256 := rfl; have := HRX.out.byt a; omega
                    have HPK := Lib.hid (raPoke_any m p a1 f a z W2 HR3'.out HA.out hzb)
                    have HSF : Hid (sameF f (upd f a z) = false) := Lib.hid (sameF_other f (upd f a z) a HA.out (by unfold upd; rw [if_pos rfl]; exact hzn))
                    have HLA : Hid (lb < W2.heap.size) := Lib.hid HB4.out.lt
                    clear hb3 HS1 hzb hzn
                    generalize f a = y at c2 hz
                    go_wp2_with fail
                    refine HPK.out.mono ?_
                    rintro e W5 ⟨rfl, p5, h1, h2⟩
                    have HR5 := Lib.hid h1
                    have HR6 : Hid (Ra W5 m2 p2 a1 f) := Lib.hid (HR4.out.keep fun b hb => h2.block b (HR4.out.own_lt b hb) (HDI.out b hb))
                    have HB6 := Lib.hid (h2.blk HB4.out HNL.out)
                    have HO6 := Lib.hid (h2.blk HO4.out HNO.out)
                    have HW6 : Hid (Below w.heap.size w W5) := Lib.hid (HW4.out.trans (h2.below HW4.out.size HOW.out))
                    have HS6 := Lib.hid (raSame_any m2 m p2 p5 a1 f (upd f a z) W5 HR6.out h1)
                    rw [HSF.out] at HS6
                    clear h1 h2 HPK c2
                    go_wp2_with fail
                    refine HS6.out.mono ?_
                    rintro e W7 ⟨rfl, hb7⟩
                    have HP7 : Hid (RP W7 w.heap.size lb (.pointer (some ⟨m2, 0, none⟩)) a1 f) := Lib.hid ⟨m2, p2, rfl, HR6.out.below hb7, HB6.out.below hb7 HB6.out.lt, HN1.out, HA1.out⟩
                    have HO7 := Lib.hid (HO6.out.below hb7 HO6.out.lt)
                    have HW7 := Lib.hid (Below.trans0 HW6.out hb7)
                    clear hb7 HS6
                    go_wp2
                    go_meet
                    case rel => exact ⟨_, HP7, HO7, HW7⟩
                  · have b3 : (kd == 3) = false := by simpa using k3
                    have b4 : (kd == 4) = false := by simpa using k4
                    have b5 : (kd == 5) = false := by simpa using k5
                    clear k3 k4 k5
                    by_cases hlo : (a : Int) < a1
                    · have HPK := Lib.hid (raWrite_ok m p a1 f a x wx HRX.out HA.out HXB0.out hlo)
                      go_wp2_with fail
                      refine HPK.out.mono ?_
                      rintro e W ⟨rfl, p', h1, h2⟩
                      have HW : Hid (Below w.heap.size w W) := Lib.hid (HWX.out.trans (h2.below HWX.out.size HOW.out))
                      have HO2 := Lib.hid (h2.blk HO.out HNO.out)
                      have HB2 := Lib.hid (h2.blk HBX.out HNL.out)
                      have HP2 := Lib.hid (RP.poke h1 h2 HBX.out HNL.out HOW.out HWX.out.size HA.out)
                      have HN2 : lb ≠ ob := by have := HOL.out; omega
                      have HO3 := Lib.hid (HO2.out.far (p := ⟨lb, a, none⟩) (fun e => HN2 e.symm) (.int .u8 x))
                      have HW3 : Hid (Below w.heap.size w (W.setCell ⟨lb, a, none⟩ (.int .u8 x))) := Lib.hid (Below.set0 HW.out HLB.out _)
                      clear h1 h2 HPK o0 o1 o2 c1 HN2
                      have c1 := HCX.out _ HW.out
                      obtain ⟨o0, o1, o2⟩ := HO2.out.c3
                      have c2 : W.cell? ⟨lb, a, none⟩ = some (.int .u8 (f a)) := by rw [HB2.out.cell, rowF_at f 65536 a HA.out]
                      have f2 := HB2.out.frozen a
                      generalize f a = y at c2
                      go_wp2
                      go_meet
                      case rel => exact ⟨_, HP2, HO3, HW3⟩
                    · have HPK := Lib.hid (raWrite_no m p a1 f a x wx HRX.out HA.out (by omega))
                      go_wp2_with fail
                      refine HPK.out.mono ?_
                      rintro e W ⟨rfl, rfl⟩
                      have HP2 : Hid (RP wx w.heap.size lb (.pointer (some ⟨m, 0, none⟩)) a1 f) := Lib.hid ⟨m, p, rfl, HRX.out, HBX.out, HNL.out, HOW.out⟩
                      have hlb : decide ((a : Int) < a1) = false := decide_eq_false (by omega)
                      clear HPK hlo
                      go_wp2
                      go_meet
                      case rel => exact ⟨_, HP2, HO, HWX⟩
                case rest =>
                  obtain ⟨f', HP2, HO2, HB2⟩ := hcut
                  obtain ⟨m2, p2, rfl, hra2, hbl2, hnl2, hown2⟩ := HP2.out
                  have HT := Lib.hid (told_any m2 lb p2 a1 f' kd At (.slice (some ⟨bx, ox, none⟩) xn xc) _ hra2 hbl2 rfl)
                  have HR2' := Lib.hid hra2
                  have HL2' := Lib.hid hbl2
                  have HN2 := Lib.hid hnl2
                  have HW2' := Lib.hid hown2
                  obtain ⟨o0, o1, o2⟩ := HO2.out.c3
                  clear hra2 hbl2 hnl2 hown2 HRX HBX HO HWX
                  go_wp2_with fail
                  refine HT.out.mono ?_
                  rintro e w9 ⟨rfl, hb9⟩
                  have HP9 : Hid (∃ f, RP w9 w.heap.size lb (.pointer (some ⟨m2, 0, none⟩)) a1 f) := Lib.hid ⟨f', m2, p2, rfl, HR2'.out.below hb9, HL2'.out.below hb9 HL2'.out.lt, HN2.out, HW2'.out⟩
                  have HB9 := Lib.hid (Below.trans0 HB2.out hb9)
                  clear hb9 HT o0 o1 o2
                  go_wp2
                  go_roundw
                  case rel => exact ⟨k + 1, by omega, by go_num, HP9, HB9⟩
                  case measure => simp [intOf] <;> omega
          · obtain rfl : k = len2 := by omega
            have HRA := Lib.hid hra
            have HBL := Lib.hid hbl
            have HU := Lib.hid (raUsed_any m p a1 f wr hra)
            clear hra hbl hnl hown HP
            go_wp2_with fail
            refine HU.out.mono ?_
            rintro e w4 ⟨v4, rfl, hr4, hb4⟩
            have HRA4 := Lib.hid (HRA.out.below hb4)
            have HBL4 := Lib.hid (HBL.out.below hb4 HBL.out.lt)
            have HW4 := Lib.hid (Below.trans0 HBW.out hb4)
            have HR4 := Lib.hid hr4
            have HU2 := Lib.hid (lwUsed_any lb f w4 HBL4.out)
            clear hr4 hb4 HU
            go_wp2_with fail
            refine HU2.out.mono ?_
            rintro e w5 ⟨v5, rfl, hr5, hb5⟩
            have HRA5 := Lib.hid (HRA4.out.below hb5)
            have HBL5 := Lib.hid (HBL4.out.below hb5 HBL4.out.lt)
            have HW5 := Lib.hid (Below.trans0 HW4.out hb5)
            have ul := usedF_len f 256
            have CE := Lib.hid (eqI_b v4 v5 (usedF f 256) (usedF f 256) w5 (Els.Rd.below HR4.out hb5) hr5 (by omega) (by omega))
            have hee : (usedF f 256 == usedF f 256) = true := by simp
            rw [hee] at CE
            clear hr5 hb5 HU2 hee ul
            go_wp2_with fail
            refine CE.out.mono ?_
            rintro e w6 ⟨rfl, hb6⟩
            have HRA6 := Lib.hid (HRA5.out.below hb6)
            have HBL6 := Lib.hid (HBL5.out.below hb6 HBL5.out.lt)
            have HW6 := Lib.hid (Below.trans0 HW5.out hb6)
            have HPT : Hid (Calls Try.prog 33 #[.pointer (some ⟨m, 0, none⟩), .int .u16 0, .int .i64 70000] w6 (ReadsY w6 (lstF (partF f 0) 65536))) := Lib.hid (raPart_any m p a1 f 0 70000 65536 w6 HRA6.out (by omega) (by omega))
            clear hb6 CE
            go_wp2_with fail
            refine HPT.out.mono ?_
            rintro e w7 ⟨v7, rfl, hr7, hb7⟩
            have HW7 := Lib.hid (Below.trans0 HW6.out hb7)
            have hpf : lstF (partF f 0) 65536 = lstF f 65536 := by
              unfold lstF
              apply List.map_congr_left
              intro j hj
              rw [List.mem_range] at hj
              unfold partF
              rw [Nat.zero_add, Nat.mod_eq_of_lt hj]
            have CE : Hid (Calls Try.prog 15 #[v7, .slice (some ⟨lb, 0, none⟩) 65536 65536] w7 fun e w' => e = .returned (.bool true) ∧ w7 = w') := Lib.hid ((eqY_any v7 _ (lstF (partF f 0) 65536) (lstF f 65536) w7 hr7 (rdY_row (HBL6.out.below hb7 HBL6.out.lt) _) (lstF_byt _ _ (fun x => HRA6.out.byt _)) (lstF_byt _ _ (fun x => HRA6.out.byt _))).mono (by
              rintro e w' ⟨rfl, rfl⟩
              exact ⟨by rw [hpf]; simp, rfl⟩))
            clear hr7 hb7 hpf HPT
            go_wp2_with fail
            refine CE.out.mono ?_
            rintro e w' ⟨rfl, rfl⟩
            clear CE
            go_wp2_with fail
            refine (alive32 _).mono ?_
            rintro e w9 ⟨rfl, hb⟩
            have HB9 := Lib.hid (Below.trans0 HW7.out hb)
            clear hb
            go_wp2
            go_ret
            exact ⟨rfl, HB9.out⟩

set_option maxRecDepth 100000 in
theorem lifted (os : Os) (started : os.Started) (H : Type) (enc : TypeId × Value → H) :
    ReturnsInHanded {} Try.checked os 8 .any (Rows.ramPlaysSpec.pre6 enc Try.prog Try.f8 Rows.ramPlaysRow.domain false) (Rows.ramPlaysSpec.post enc Try.prog Try.f8 false true false false) := by
  refine returnsInHanded_of_change (C := Try.checked) own started (by kernel_rfl) Try.func8
    (ChangeSpec.witness6 (enc := enc) (C := Try.checked) false ⟨#[], #[.slice none 0 0, .int .i64 0, .slice none 0 0], []⟩ 8 (by kernel_rfl) (by kernel_rfl) (by kernel_rfl) (by kernel_rfl)) ?_
  intro W base args ds gs before hval0 hW hcnd _
  have hval : ∀ (j : Nat) t v, Try.f8.params[j]? = some t → args[j]? = some v → Value.okWide Try.prog W .any base t v := hval0
  have hW' := hW
  obtain ⟨p, q, hA0, hV, rfl, hfz, hnd⟩ := hW
  have hA : DataW.TrodAll enc Try.prog W 0 (fun _ => true) true Try.f8.params.toList args.toList ds p := hA0
  rw [Try.params8] at hA hval
  obtain ⟨v0, vs0, d0, ds0, p0, q0, hargs, rfl, rfl, h0, r0⟩ := trodAll_cons hA
  obtain ⟨v1, vs1, d1, ds1, p1, q1, rfl, rfl, rfl, h1, r1⟩ := trodAll_cons r0
  obtain ⟨v2, vs2, d2, ds2, p2, q2, rfl, rfl, rfl, h2, r2⟩ := trodAll_cons r1
  obtain ⟨rfl, rfl, rfl⟩ := trodAll_nil r2
  obtain rfl : args = #[v0, v1, v2] := by cases args; simp_all
  obtain ⟨rfl, rfl⟩ := trodVars_none hV
  obtain ⟨a0, len0, cap0, rfl⟩ := okWide_slice Try.underlying22 (hval 0 22 v0 rfl rfl)
  have k0 := h0
  have lt0 : ∀ x ∈ p0, x.block < W.heap.size := by obtain ⟨m, hm⟩ := k0; exact DataW.trod_lt m _ _ _ hm
  obtain ⟨z0, w0⟩ : ∃ zs, IsRow .u8 W a0 len0 cap0 zs := by
    obtain ⟨fuel, hf⟩ := h0
    rcases open_ints Try.underlying22 Try.underlying5 (by kernel_rfl) hf with ⟨hcs, _⟩ | ⟨x, l, c, zs, hcs, _, hl, hm, hz, _, hcell, hwz⟩
    · simp [Value.cells] at hcs
      obtain ⟨rfl, rfl, rfl⟩ := hcs
      exact ⟨[], .inl ⟨rfl, rfl, rfl, rfl⟩⟩
    · simp [Value.cells] at hcs
      obtain ⟨rfl, rfl, rfl⟩ := hcs
      exact ⟨zs, .inr ⟨_, rfl, hl, hm, by simpa using hz, hcell, hwz⟩⟩
  obtain ⟨a1, rfl, rfl, rfl, w1⟩ := open_int Try.underlying3 (hval 1 3 v1 rfl rfl) h1
  obtain ⟨a2, len2, cap2, rfl⟩ := okWide_slice Try.underlying42 (hval 2 42 v2 rfl rfl)
  have k2 := h2
  have lt2 : ∀ x ∈ p2, x.block < W.heap.size := by obtain ⟨m, hm⟩ := k2; exact DataW.trod_lt m _ _ _ hm
  obtain ⟨z2, w2⟩ : ∃ zs, OrIn W a2 len2 cap2 zs := by
    obtain ⟨fuel, hf⟩ := h2
    exact open_ors hf
  clear hA0 hval0
  refine (walk a0 len0 cap0 z0 a1 a2 len2 cap2 z2 W w0 w1 w2).mono fun e W' ⟨he, bel⟩ => ?_
  subst he
  exact ⟨_, rfl, _, _, _, [], _, [], hW', trodAll_mk1 (shut_bool Try.underlying4 _), (trodAll_cons_mk (Below.trod laidOut (by kernel_rfl) (of_decide_eq_true (by kernel_rfl)) k0 bel lt0) (trodAll_cons_mk (shut_int Try.underlying3 w1) (trodAll_cons_mk (Below.trod laidOut (by kernel_rfl) (of_decide_eq_true (by kernel_rfl)) k2 bel lt2) trodAll_mk0))), rfl, bel.frame _, fun h => by cases h⟩

theorem over : Rows.ramPlaysRow.holds Try.pinned (OpenSpec.ofChange Rows.ramPlaysSpec) :=
  OpenClaim.holds_of_wide 8 Try.f8 rfl rfl rfl rfl rfl rfl rfl ⟨rfl, rfl, rfl, rfl, rfl⟩ rfl rfl rfl rfl rfl (by kernel_rfl) Try.func8 (by kernel_rfl)
    (of_decide_eq_true (by kernel_rfl)) (by unfold Func.isWrapper; first | (rw [if_pos (by decide +kernel)]; kernel_rfl) | (rw [if_neg (by decide +kernel)]; exact ⟨rfl, rfl⟩))
    (fun os started H enc _ => lifted os started H enc)

theorem proved : Rows.RamPlaysSaid := over
#print axioms proved
end Go.Proofs.Ytnhafficnomlbaa.ramPlays
