/- The law QueuePlays answers true for every input, and each argument reads afterwards as it read before. Conditions: none. -/
import Derived.Test.YtfjkbjkbpbnalaaRows
import Derived.WalkKit
import Derived.ProofKit
import Derived.OpenShut
import Derived.ShutString
import Derived.ChangeOld
import Derived.Below
import Derived.Test.YtfjkbjkbpbnalaaQup
import Derived.BigQuiet
import Derived.Deep.DeepCutAuto
import Derived.Deep.CutBlock
namespace Go.Proofs.Ytfjkbjkbpbnalaa.queuePlays
open Go.ChangeShapes Go.WideShapes Go.ChangeAt Go.RowKit
open Go.ChangeMaps (open_string shut_string)
set_option linter.unusedVariables false

theorem own : ownKnob Try.prog.godebug = none := by kernel_rfl
theorem laidOut : laidOutB Try.prog = true := by kernel_rfl

set_option maxRecDepth 100000 in
set_option maxHeartbeats 1000000 in
theorem walk (a0 : Option Addr) (len0 cap0 : Nat) (z0 : List Int) (a1 : Option Addr) (len1 cap1 : Nat) (z1 : List OpV) (w : World) (w0 : eI.In (fun z => (Lit.int .i64 z).wf = true) w a0 len0 cap0 z0) (w1 : OpsIn w a1 len1 cap1 z1) :
    Calls Try.prog 8 #[.slice a0 len0 cap0, .slice a1 len1 cap1] w fun e w' => e = .returned (.bool true) ∧ Below w.heap.size w w' := by
  -- open 0 : List Int | eI.In (fun z => (Lit.int .i64 z).wf = true) | open_ints64
  -- open 1 : List OpV | OpsIn | open_ops
  have hr0 := w0
  obtain ⟨-, hl0, hm0, -⟩ := w0
  have hr1 := w1
  obtain ⟨hR1, hl1, hm1, hwf1⟩ := w1
  by_cases h : len1 ≤ 80 ∧ len0 ≤ 60
  · obtain ⟨h1, h2⟩ := h
    have CO := Lib.hid (fun u (h : Below w.heap.size w u) => quOf_any u _ z0 (LS.of_in (B := 0) hr0 h).1 (by omega))
    have CC := Lib.hid (fun u (h : Below w.heap.size w u) => clone_any _ z0 u (LS.of_in (B := 0) hr0 h).1 (by omega))
    have HL0 := Lib.hid hl0
    have HL1 := Lib.hid hl1
    have HR1 := Lib.hid hR1
    have HW1 := Lib.hid hwf1
    clear hr0 hr1 hR1 hwf1 hm0 hm1
    go_enter Try.func8, Try.ntmps8
    go_wp2_with fail
    refine (CO.out _ (Below.refl _ _)).mono ?_
    rintro e W0 ⟨hb, he⟩
    have HB0 := Lib.hid hb
    clear hb CO hl0 hl1
    rcases he with ⟨h3, rfl⟩ | ⟨h3, rfl, hq⟩
    · have h4 : 24 < len0 := by rw [HL0.out] at h3; exact h3
      clear h3
      go_wp2_with fail
      refine (alive21 _).mono ?_
      rintro e w9 ⟨rfl, hb⟩
      have HB9 := Lib.hid (Below.trans0 HB0.out hb)
      clear hb
      go_wp2
      go_ret
      exact ⟨rfl, HB9.out⟩
    · have h4 : ¬ 24 < len0 := by rw [HL0.out] at h3; omega
      have HQ0 := Lib.hid hq
      clear h3 hq
      go_wp2_with fail
      refine (CC.out _ HB0.out).mono ?_
      rintro e W1 ⟨v0, rfl, ho, hb⟩
      have HB1 := Lib.hid (Below.trans0 HB0.out hb)
      have HQ1 := Lib.hid (HQ0.out.below hb HQ0.out.lt)
      have HS1 := Lib.hid (LS.own (g := w.heap.size) ho HQ0.out.lt)
      clear ho hb CC HQ0 HB0 HL0 h4 h2
      go_wp2
      go_loopw [7, 8] (fun u7 i wr => ∃ k : Nat, k ≤ len1 ∧ i = .int .i64 k ∧ Hid (∃ L, QAt wr w.heap.size L ∧ LS wr w.heap.size u7 L) ∧ Hid (Below w.heap.size w wr)) (fun _ i _ => len1 - (intOf i).toNat)
      case atStart => exact ⟨0, Nat.zero_le _, rfl, Lib.hid ⟨z0, HQ1.out, HS1.out⟩, HB1⟩
      case round =>
        obtain ⟨k, hk, rfl, HL, HBW⟩ := hrel
        by_cases hlt : k < len1
        · obtain ⟨L, hq, hs⟩ := HL.out
          obtain ⟨A1, c1, e1, ho1⟩ := Els.Rd.open_ HR1.out
          obtain ⟨b, off, eA, hbl, hcell⟩ := ho1 (by rw [HL1.out]; omega)
          simp only [Value.slice.injEq] at e1
          obtain ⟨eB, -, -⟩ := e1
          obtain rfl := eB.trans eA
          clear ho1 eA eB
          obtain ⟨x, hx⟩ : ∃ x, z1[k]? = some x := ⟨_, List.getElem?_eq_getElem (by rw [HL1.out]; exact hlt)⟩
          obtain ⟨kd, xA, xn, xc⟩ := x
          have d0 : wr.cell? ⟨b, off + k * 2, none⟩ = some (.int .i64 kd) := (HBW.out.cell (p := ⟨b, off + (k * 2 + 0), none⟩) hbl).trans (hcell k _ hx 0 (.int .i64 kd) rfl)
          have d1 : wr.cell? ⟨b, off + k * 2 + 1, none⟩ = some (.slice xA xn xc) := (HBW.out.cell (p := ⟨b, off + (k * 2 + 1), none⟩) hbl).trans (hcell k _ hx 1 (.slice xA xn xc) rfl)
          obtain ⟨X, hin⟩ := HW1.out _ (List.mem_of_getElem? hx)
          dsimp only at hin
          have hX : X.length = xn := hin.2.1
          have HX := Lib.hid hX
          have HIN := Lib.hid (fun (u : World) (h : Below w.heap.size w u) => LS.of_in (B := 0) hin h)
          have t0 : (0 : Int) ≤ k := by omega
          have t1 : (k : Int) < len1 := by omega
          obtain ⟨A7, c7, e7, _⟩ := Els.Rd.open_ hs.1
          subst e7
          have HLn : Hid (L.length ≤ 24) := Lib.hid hq.len
          have HQ := Lib.hid hq
          have HS := Lib.hid hs
          clear hcell hx hin hX HL hq hs
          obtain ⟨n7, hn7⟩ : ∃ n7, L.length = n7 := ⟨_, rfl⟩
          have HN7 := Lib.hid hn7
          rw [hn7] at HS HLn ⊢
          clear hn7
          by_cases h40 : 40 < xn
          · go_wp2
            go_ret
            exact ⟨rfl, HBW.out⟩
          · have h24 := HLn.out
            have hxn : xn ≤ 40 := by omega
            clear h40
            go_upto_block 2 with (fail)
            generalize hF : decide ((n7 : Int) + (xn : Int) ≤ 24) = F
            go_cut [7] (fun u7 wx => ∃ L', Hid (QAt wx w.heap.size L') ∧ Hid (LS wx w.heap.size u7 L') ∧ Hid (Below w.heap.size w wx))
            case first =>
              have hkd : kd = 2 ∨ kd = 3 ∨ kd = 4 ∨ (kd = 5 ∧ xn = 0) ∨ (kd = 5 ∧ ¬ xn = 0) ∨ (¬ kd = 2 ∧ ¬ kd = 3 ∧ ¬ kd = 4 ∧ ¬ kd = 5) := by omega
              clear h24
              rcases hkd with rfl | rfl | rfl | ⟨rfl, rfl⟩ | ⟨rfl, h0⟩ | ⟨k2, k3, k4, k5⟩
              · rcases (show F = true ∨ F = false by cases F <;> simp) with rfl | rfl
                · have hfit : n7 + xn ≤ 24 := by have := of_decide_eq_true hF; omega
                  have CF : Hid (Calls Try.prog 40 #[.pointer (some ⟨w.heap.size, 0, none⟩), .slice xA xn xc] wr fun e w' => e = .returned (.bool true) ∧ wr.grownBy w' (some w.heap.size) ∧ QAt w' w.heap.size (X ++ L)) := Lib.hid (by
                    have := quFront_any w.heap.size L wr HQ.out _ X (HIN.out _ HBW.out).1 (HIN.out _ HBW.out).2 (by rw [HX.out]; omega)
                    rw [HN7.out, HX.out, if_pos hfit, decide_eq_true hfit] at this
                    exact this)
                  clear hF
                  go_wp2_with fail
                  refine CF.out.mono ?_
                  rintro e W ⟨rfl, hg, hq⟩
                  have HQ2 := Lib.hid hq
                  have HS2 := Lib.hid (HS.out.grown hg)
                  have HB2 := Lib.hid (Below.trans HBW.out (below_own hg (by intro g' e; simp at e; omega) HBW.out.size))
                  clear hg hq CF
                  have CL := Lib.hid (clone_any (.slice xA xn xc) X W (HIN.out _ HB2.out).1 (by rw [HX.out]; omega))
                  go_wp2_with fail
                  refine CL.out.mono ?_
                  rintro e W2 ⟨v2, rfl, ho, hb⟩
                  have HO3 := Lib.hid (Els.Own.more (E := eI) ho HB2.out.size)
                  have HQ3 := Lib.hid (HQ2.out.below hb HQ2.out.lt)
                  have HB3 := Lib.hid (Below.trans0 HB2.out hb)
                  have HO4 := Lib.hid (show Off w.heap.size v2 from (LS.own ho HQ2.out.lt).2.1)
                  have HL3 : Hid (eI.Rd W2 (.slice A7 n7 c7) L) := Lib.hid (HS2.out.below hb).1
                  have HV2 := Lib.hid (fun g' e => (ho.lt g' e).1)
                  clear ho hb CL
                  go_wp2_with (at_builtin; refine wpList_appI rfl _ (.tmp 92) (.tmp 93) rfl w.heap.size v2 _ X L rfl HO3.out rfl HL3.out (by rw [HN7.out, HX.out]; omega) HB3.out.size ?_; intro v' w4 hown hbel hgr hwh)
                  have HQ5 : Hid (QAt w4 w.heap.size (X ++ L)) := Lib.hid (by
                    obtain ⟨R, f, ⟨p1, p2⟩, p3⟩ := HQ3.out
                    exact ⟨R, f, ⟨Blk.grown p1 hgr (fun e => absurd (HV2.out _ e.symm) (by have := HQ2.out.lt; omega)), p2⟩, p3⟩)
                  have HB5 := Lib.hid (Below.trans HB3.out hbel)
                  have HS5 : Hid (LS w4 w.heap.size v' (X ++ L)) := Lib.hid (by
                    refine ⟨hown.rd, fun b' o n c e h0 => ?_, fun A n c e => ?_⟩
                    · subst e
                      rcases hwh with hh | hh
                      · have := HV2.out b' (hh.symm.trans rfl)
                        have := HQ2.out.lt
                        omega
                      · have h5 : b' = W2.heap.size := by simpa [Value.ownBlock] using hh
                        have := HQ3.out.lt
                        omega
                    · exact own_cap hown A n c e)
                  clear hown hbel hgr hwh
                  go_wp2
                  go_meet
                  case rel => exact ⟨_, HQ5, HS5, HB5⟩
                · have hfit : ¬ n7 + xn ≤ 24 := by have := of_decide_eq_false hF; omega
                  have CF : Hid (Calls Try.prog 40 #[.pointer (some ⟨w.heap.size, 0, none⟩), .slice xA xn xc] wr fun e w' => e = .returned (.bool false) ∧ wr.grownBy w' (some w.heap.size) ∧ QAt w' w.heap.size L) := Lib.hid (by
                    have := quFront_any w.heap.size L wr HQ.out _ X (HIN.out _ HBW.out).1 (HIN.out _ HBW.out).2 (by rw [HX.out]; omega)
                    rw [HN7.out, HX.out, if_neg hfit, decide_eq_false hfit] at this
                    exact this)
                  clear hF
                  go_wp2_with fail
                  refine CF.out.mono ?_
                  rintro e W ⟨rfl, hg, hq⟩
                  have HQ2 := Lib.hid hq
                  have HS2 := Lib.hid (HS.out.grown hg)
                  have HB2 := Lib.hid (Below.trans HBW.out (below_own hg (by intro g' e; simp at e; omega) HBW.out.size))
                  clear hg hq CF
                  go_wp2
                  go_meet
                  case rel => exact ⟨_, HQ2, HS2, HB2⟩
              · have CP := Lib.hid (quPop_any w.heap.size L wr HQ.out)
                cases L with
                | nil =>
                  obtain rfl : 0 = n7 := by have := HN7.out; simpa using this
                  have CP' : Hid (Calls Try.prog 41 #[.pointer (some ⟨w.heap.size, 0, none⟩)] wr fun e w' => e = .returned (.tuple #[.int .i64 0, .bool false]) ∧ wr.grownBy w' (some w.heap.size) ∧ QAt w' w.heap.size []) := CP
                  clear CP
                  go_wp2_with fail
                  refine CP'.out.mono ?_
                  rintro e W ⟨rfl, hg, hq⟩
                  have HQ2 := Lib.hid hq
                  have HS2 := Lib.hid (HS.out.grown hg)
                  have HB2 := Lib.hid (Below.trans HBW.out (below_own hg (by intro g' e; simp at e; omega) HBW.out.size))
                  clear hg hq CP'
                  go_wp2
                  go_meet
                  case rel => exact ⟨_, HQ2, HS2, HB2⟩
                | cons y L =>
                  have CP' : Hid (Calls Try.prog 41 #[.pointer (some ⟨w.heap.size, 0, none⟩)] wr fun e w' => e = .returned (.tuple #[.int .i64 y, .bool true]) ∧ wr.grownBy w' (some w.heap.size) ∧ QAt w' w.heap.size L) := Lib.hid (by
                    have := CP.out
                    rw [show iat (y :: L) 0 = y from rfl, show decide (0 < (y :: L).length) = true by simp] at this
                    exact this)
                  clear CP
                  go_wp2_with fail
                  refine CP'.out.mono ?_
                  rintro e W ⟨rfl, hg, hq⟩
                  have HQ2 := Lib.hid hq
                  obtain ⟨b7, o7, c8, e7, hc8, hcell7, hls⟩ := LS.cons (HS.out.grown hg)
                  simp only [Value.slice.injEq] at e7
                  obtain ⟨rfl, rfl, rfl⟩ := e7
                  have HS2 := Lib.hid hls
                  have HB2 := Lib.hid (Below.trans HBW.out (below_own hg (by intro g' e; simp at e; omega) HBW.out.size))
                  clear hg hq CP' hls
                  have z0' : (0 : Int) < (L.length : Int) + 1 := by omega
                  have z1' : (1 : Int) ≤ (L.length : Int) + 1 := by omega
                  have HC8 := Lib.hid hc8
                  clear hF
                  go_wp2
                  all_goals go_meet
                  all_goals first
                    | exact ⟨_, HQ2, HS2, HB2⟩
                    | (have hc8' := HC8.out; have hL : L.length = 0 := by omega
                       have hL2 := List.eq_nil_of_length_eq_zero hL
                       subst hL2
                       exact ⟨[], HQ2, Lib.hid ⟨.inr ⟨_, _, rfl, fun h => absurd h (by simp), fun j u hj => by simp [Els.cells] at hj⟩, fun b o n c e h0 => by simp at e; omega, fun A n c e => by simp at e; omega⟩, HB2⟩)
              · have CP := Lib.hid (quPop_any w.heap.size L wr HQ.out)
                cases L with
                | nil =>
                  obtain rfl : 0 = n7 := by have := HN7.out; simpa using this
                  have CP' : Hid (Calls Try.prog 41 #[.pointer (some ⟨w.heap.size, 0, none⟩)] wr fun e w' => e = .returned (.tuple #[.int .i64 0, .bool false]) ∧ wr.grownBy w' (some w.heap.size) ∧ QAt w' w.heap.size []) := CP
                  clear CP
                  go_wp2_with fail
                  refine CP'.out.mono ?_
                  rintro e W ⟨rfl, hg, hq⟩
                  have HQ2 := Lib.hid hq
                  have HS2 := Lib.hid (HS.out.grown hg)
                  have HB2 := Lib.hid (Below.trans HBW.out (below_own hg (by intro g' e; simp at e; omega) HBW.out.size))
                  clear hg hq CP'
                  go_wp2
                  go_meet
                  case rel => exact ⟨_, HQ2, HS2, HB2⟩
                | cons y L =>
                  have CP' : Hid (Calls Try.prog 41 #[.pointer (some ⟨w.heap.size, 0, none⟩)] wr fun e w' => e = .returned (.tuple #[.int .i64 y, .bool true]) ∧ wr.grownBy w' (some w.heap.size) ∧ QAt w' w.heap.size L) := Lib.hid (by
                    have := CP.out
                    rw [show iat (y :: L) 0 = y from rfl, show decide (0 < (y :: L).length) = true by simp] at this
                    exact this)
                  clear CP
                  go_wp2_with fail
                  refine CP'.out.mono ?_
                  rintro e W ⟨rfl, hg, hq⟩
                  have HQ2 := Lib.hid hq
                  obtain ⟨b7, o7, c8, e7, hc8, hcell7, hls⟩ := LS.cons (HS.out.grown hg)
                  simp only [Value.slice.injEq] at e7
                  obtain ⟨rfl, rfl, rfl⟩ := e7
                  have HS2 := Lib.hid hls
                  have HB2 := Lib.hid (Below.trans HBW.out (below_own hg (by intro g' e; simp at e; omega) HBW.out.size))
                  clear hg hq CP' hls
                  have z0' : (0 : Int) < (L.length : Int) + 1 := by omega
                  have z1' : (1 : Int) ≤ (L.length : Int) + 1 := by omega
                  have HC8 := Lib.hid hc8
                  clear hF
                  go_wp2
                  all_goals go_meet
                  all_goals first
                    | exact ⟨_, HQ2, HS2, HB2⟩
                    | (have hc8' := HC8.out; have hL : L.length = 0 := by omega
                       have hL2 := List.eq_nil_of_length_eq_zero hL
                       subst hL2
                       exact ⟨[], HQ2, Lib.hid ⟨.inr ⟨_, _, rfl, fun h => absurd h (by simp), fun j u hj => by simp [Els.cells] at hj⟩, fun b o n c e h0 => by simp at e; omega, fun A n c e => by simp at e; omega⟩, HB2⟩)
              · have CC5 := Lib.hid (quClear_any w.heap.size L wr HQ.out)
                go_wp2_with fail
                refine CC5.out.mono ?_
                rintro e W ⟨rfl, hg, hq⟩
                have HQ2 := Lib.hid hq
                have HB2 := Lib.hid (Below.trans HBW.out (below_own hg (by intro g' e; simp at e; omega) HBW.out.size))
                clear hg hq CC5
                go_wp2
                go_meet
                case rel => exact ⟨_, HQ2, Lib.hid (LS.nil_ _ _), HB2⟩
              · have hx0 : ((xn : Int) == 0) = false := by simp; omega
                rcases (show F = true ∨ F = false by cases F <;> simp) with rfl | rfl
                · have hfit : n7 + xn ≤ 24 := by have := of_decide_eq_true hF; omega
                  have CF : Hid (Calls Try.prog 43 #[.pointer (some ⟨w.heap.size, 0, none⟩), .slice xA xn xc] wr fun e w' => e = .returned (.bool true) ∧ wr.grownBy w' (some w.heap.size) ∧ QAt w' w.heap.size (L ++ X)) := Lib.hid (by
                    have := quPush_any w.heap.size L wr HQ.out _ X (HIN.out _ HBW.out).1 (HIN.out _ HBW.out).2 (by rw [HX.out]; omega)
                    rw [HN7.out, HX.out, if_pos hfit, decide_eq_true hfit] at this
                    exact this)
                  clear hF
                  go_wp2_with fail
                  refine CF.out.mono ?_
                  rintro e W ⟨rfl, hg, hq⟩
                  have HQ2 := Lib.hid hq
                  have HS2 := Lib.hid (HS.out.grown hg)
                  have HB2 := Lib.hid (Below.trans HBW.out (below_own hg (by intro g' e; simp at e; omega) HBW.out.size))
                  clear hg hq CF
                  have CL := Lib.hid (clone_any (.slice A7 n7 c7) L W HS2.out.1 (by rw [HN7.out]; omega))
                  go_wp2_with fail
                  refine CL.out.mono ?_
                  rintro e W2 ⟨v2, rfl, ho, hb⟩
                  have HO3 := Lib.hid (Els.Own.more (E := eI) ho HB2.out.size)
                  have HQ3 := Lib.hid (HQ2.out.below hb HQ2.out.lt)
                  have HB3 := Lib.hid (Below.trans0 HB2.out hb)
                  have HO4 := Lib.hid (show Off w.heap.size v2 from (LS.own ho HQ2.out.lt).2.1)
                  have HL3 : Hid (eI.Rd W2 (.slice xA xn xc) X) := Lib.hid (HIN.out _ HB3.out).1
                  have HV2 := Lib.hid (fun g' e => (ho.lt g' e).1)
                  clear ho hb CL
                  go_wp2_with (at_builtin; refine wpList_appI rfl _ (.tmp 75) (.tmp 76) rfl w.heap.size v2 _ L X rfl HO3.out rfl HL3.out (by rw [HN7.out, HX.out]; omega) HB3.out.size ?_; intro v' w4 hown hbel hgr hwh)
                  have HQ5 : Hid (QAt w4 w.heap.size (L ++ X)) := Lib.hid (by
                    obtain ⟨R, f, ⟨p1, p2⟩, p3⟩ := HQ3.out
                    exact ⟨R, f, ⟨Blk.grown p1 hgr (fun e => absurd (HV2.out _ e.symm) (by have := HQ2.out.lt; omega)), p2⟩, p3⟩)
                  have HB5 := Lib.hid (Below.trans HB3.out hbel)
                  have HS5 : Hid (LS w4 w.heap.size v' (L ++ X)) := Lib.hid (by
                    refine ⟨hown.rd, fun b' o n c e h0 => ?_, fun A n c e => ?_⟩
                    · subst e
                      rcases hwh with hh | hh
                      · have := HV2.out b' (hh.symm.trans rfl)
                        have := HQ2.out.lt
                        omega
                      · have h5 : b' = W2.heap.size := by simpa [Value.ownBlock] using hh
                        have := HQ3.out.lt
                        omega
                    · exact own_cap hown A n c e)
                  clear hown hbel hgr hwh
                  go_wp2
                  go_meet
                  case rel => exact ⟨_, HQ5, HS5, HB5⟩
                · have hfit : ¬ n7 + xn ≤ 24 := by have := of_decide_eq_false hF; omega
                  have CF : Hid (Calls Try.prog 43 #[.pointer (some ⟨w.heap.size, 0, none⟩), .slice xA xn xc] wr fun e w' => e = .returned (.bool false) ∧ wr.grownBy w' (some w.heap.size) ∧ QAt w' w.heap.size L) := Lib.hid (by
                    have := quPush_any w.heap.size L wr HQ.out _ X (HIN.out _ HBW.out).1 (HIN.out _ HBW.out).2 (by rw [HX.out]; omega)
                    rw [HN7.out, HX.out, if_neg hfit, decide_eq_false hfit] at this
                    exact this)
                  clear hF
                  go_wp2_with fail
                  refine CF.out.mono ?_
                  rintro e W ⟨rfl, hg, hq⟩
                  have HQ2 := Lib.hid hq
                  have HS2 := Lib.hid (HS.out.grown hg)
                  have HB2 := Lib.hid (Below.trans HBW.out (below_own hg (by intro g' e; simp at e; omega) HBW.out.size))
                  clear hg hq CF
                  go_wp2
                  go_meet
                  case rel => exact ⟨_, HQ2, HS2, HB2⟩
              · have m2 : (kd == 2) = false := by simpa using k2
                have m3 : (kd == 3) = false := by simpa using k3
                have m4 : (kd == 4) = false := by simpa using k4
                have m5 : (kd == 5) = false := by simpa using k5
                rcases (show F = true ∨ F = false by cases F <;> simp) with rfl | rfl
                · have hfit : n7 + xn ≤ 24 := by have := of_decide_eq_true hF; omega
                  have CF : Hid (Calls Try.prog 43 #[.pointer (some ⟨w.heap.size, 0, none⟩), .slice xA xn xc] wr fun e w' => e = .returned (.bool true) ∧ wr.grownBy w' (some w.heap.size) ∧ QAt w' w.heap.size (L ++ X)) := Lib.hid (by
                    have := quPush_any w.heap.size L wr HQ.out _ X (HIN.out _ HBW.out).1 (HIN.out _ HBW.out).2 (by rw [HX.out]; omega)
                    rw [HN7.out, HX.out, if_pos hfit, decide_eq_true hfit] at this
                    exact this)
                  clear hF
                  go_wp2_with fail
                  refine CF.out.mono ?_
                  rintro e W ⟨rfl, hg, hq⟩
                  have HQ2 := Lib.hid hq
                  have HS2 := Lib.hid (HS.out.grown hg)
                  have HB2 := Lib.hid (Below.trans HBW.out (below_own hg (by intro g' e; simp at e; omega) HBW.out.size))
                  clear hg hq CF
                  have CL := Lib.hid (clone_any (.slice A7 n7 c7) L W HS2.out.1 (by rw [HN7.out]; omega))
                  go_wp2_with fail
                  refine CL.out.mono ?_
                  rintro e W2 ⟨v2, rfl, ho, hb⟩
                  have HO3 := Lib.hid (Els.Own.more (E := eI) ho HB2.out.size)
                  have HQ3 := Lib.hid (HQ2.out.below hb HQ2.out.lt)
                  have HB3 := Lib.hid (Below.trans0 HB2.out hb)
                  have HO4 := Lib.hid (show Off w.heap.size v2 from (LS.own ho HQ2.out.lt).2.1)
                  have HL3 : Hid (eI.Rd W2 (.slice xA xn xc) X) := Lib.hid (HIN.out _ HB3.out).1
                  have HV2 := Lib.hid (fun g' e => (ho.lt g' e).1)
                  clear ho hb CL
                  go_wp2_with (at_builtin; refine wpList_appI rfl _ (.tmp 75) (.tmp 76) rfl w.heap.size v2 _ L X rfl HO3.out rfl HL3.out (by rw [HN7.out, HX.out]; omega) HB3.out.size ?_; intro v' w4 hown hbel hgr hwh)
                  have HQ5 : Hid (QAt w4 w.heap.size (L ++ X)) := Lib.hid (by
                    obtain ⟨R, f, ⟨p1, p2⟩, p3⟩ := HQ3.out
                    exact ⟨R, f, ⟨Blk.grown p1 hgr (fun e => absurd (HV2.out _ e.symm) (by have := HQ2.out.lt; omega)), p2⟩, p3⟩)
                  have HB5 := Lib.hid (Below.trans HB3.out hbel)
                  have HS5 : Hid (LS w4 w.heap.size v' (L ++ X)) := Lib.hid (by
                    refine ⟨hown.rd, fun b' o n c e h0 => ?_, fun A n c e => ?_⟩
                    · subst e
                      rcases hwh with hh | hh
                      · have := HV2.out b' (hh.symm.trans rfl)
                        have := HQ2.out.lt
                        omega
                      · have h5 : b' = W2.heap.size := by simpa [Value.ownBlock] using hh
                        have := HQ3.out.lt
                        omega
                    · exact own_cap hown A n c e)
                  clear hown hbel hgr hwh
                  go_wp2
                  go_meet
                  case rel => exact ⟨_, HQ5, HS5, HB5⟩
                · have hfit : ¬ n7 + xn ≤ 24 := by have := of_decide_eq_false hF; omega
                  have CF : Hid (Calls Try.prog 43 #[.pointer (some ⟨w.heap.size, 0, none⟩), .slice xA xn xc] wr fun e w' => e = .returned (.bool false) ∧ wr.grownBy w' (some w.heap.size) ∧ QAt w' w.heap.size L) := Lib.hid (by
                    have := quPush_any w.heap.size L wr HQ.out _ X (HIN.out _ HBW.out).1 (HIN.out _ HBW.out).2 (by rw [HX.out]; omega)
                    rw [HN7.out, HX.out, if_neg hfit, decide_eq_false hfit] at this
                    exact this)
                  clear hF
                  go_wp2_with fail
                  refine CF.out.mono ?_
                  rintro e W ⟨rfl, hg, hq⟩
                  have HQ2 := Lib.hid hq
                  have HS2 := Lib.hid (HS.out.grown hg)
                  have HB2 := Lib.hid (Below.trans HBW.out (below_own hg (by intro g' e; simp at e; omega) HBW.out.size))
                  clear hg hq CF
                  go_wp2
                  go_meet
                  case rel => exact ⟨_, HQ2, HS2, HB2⟩
            case rest =>
              obtain ⟨L', HQ2, HS2, HB2⟩ := hcut
              clear HQ HS HN7 HLn HX HIN d0 d1
              have CP := Lib.hid (fun (u : World) (h : QAt u w.heap.size L') => let ⟨R, f, h1, h2⟩ := h; quPeek_any w.heap.size R f L' u h1 h2)
              have hl24 := HQ2.out.len
              cases L' with
              | nil =>
                obtain ⟨A8, c8, e8, _⟩ := Els.Rd.open_ HS2.out.1
                subst e8
                have CP' : Hid (∀ u : World, QAt u w.heap.size [] → Calls Try.prog 44 #[.pointer (some ⟨w.heap.size, 0, none⟩)] u fun e w' => e = .returned (.tuple #[.int .i64 0, .bool false]) ∧ Below u.heap.size u w') := Lib.hid (fun u h => by have := CP.out u h; rw [show iat [] 0 = 0 from rfl, show decide (0 < ([] : List Int).length) = false by simp] at this; exact this)
                clear CP
                go_wp2_with fail
                refine (CP'.out _ HQ2.out).mono ?_
                rintro e w3 ⟨rfl, hb⟩
                have HB3 := Lib.hid (Below.trans0 HB2.out hb)
                have HQ3 := Lib.hid (HQ2.out.below hb HQ2.out.lt)
                have HS3 := Lib.hid (HS2.out.below hb)
                clear hb
                go_wp2_with fail
                refine (quLen_any _ _ _ HQ3.out).mono ?_
                rintro e w' ⟨rfl, rfl⟩
                go_wp2_with fail
                refine (quAll_any _ _ _ HQ3.out).mono ?_
                rintro e w4 ⟨v4, rfl, ho, hb⟩
                have HB4 := Lib.hid (Below.trans0 HB3.out hb)
                have HQ4 := Lib.hid (HQ3.out.below hb HQ3.out.lt)
                have HS4 := Lib.hid (HS3.out.below hb)
                have CE := Lib.hid (eqI_b v4 _ _ _ _ ho.rd HS4.out.1 (by simp) (by simp))
                clear hb ho
                have hee : (([] : List Int) == []) = true := by decide
                rw [hee] at CE
                clear hee
                go_wp2_with fail
                refine CE.out.mono ?_
                rintro e w5 ⟨rfl, hb⟩
                have HB5 := Lib.hid (Below.trans0 HB4.out hb)
                have HQ5 := Lib.hid (HQ4.out.below hb HQ4.out.lt)
                have HS5 := Lib.hid (HS4.out.below hb)
                clear hb
                go_wp2
                go_roundw
                case rel => exact ⟨k + 1, by omega, by go_num, Lib.hid ⟨_, HQ5.out, HS5.out⟩, HB5⟩
                case measure => simp [intOf]; omega
              | cons y L' =>
                have CP' : Hid (∀ u : World, QAt u w.heap.size (y :: L') → Calls Try.prog 44 #[.pointer (some ⟨w.heap.size, 0, none⟩)] u fun e w' => e = .returned (.tuple #[.int .i64 y, .bool true]) ∧ Below u.heap.size u w') := Lib.hid (fun u h => by have := CP.out u h; rw [show iat (y :: L') 0 = y from rfl, show decide (0 < (y :: L').length) = true by simp] at this; exact this)
                clear CP
                obtain ⟨b8, o8, c8, e8, hc8, hcell8, -⟩ := LS.cons HS2.out
                subst e8
                have hb8 := cell_lt hcell8
                have z1' : (0 : Int) < (L'.length : Int) + 1 := by omega
                go_wp2_with fail
                refine (CP'.out _ HQ2.out).mono ?_
                rintro e w3 ⟨rfl, hb⟩
                have HB3 := Lib.hid (Below.trans0 HB2.out hb)
                have HQ3 := Lib.hid (HQ2.out.below hb HQ2.out.lt)
                have HS3 := Lib.hid (HS2.out.below hb)
                have c9 := (hb.cell (p := ⟨b8, o8, none⟩) hb8).trans hcell8
                clear hb hcell8
                have CN : Hid (Calls Try.prog 45 #[.pointer (some ⟨w.heap.size, 0, none⟩)] w3 fun e w' => e = .returned (.int .i64 ((L'.length : Int) + 1)) ∧ w3 = w') := Lib.hid (by have := quLen_any _ _ _ HQ3.out; simpa using this)
                go_wp2_with fail
                refine CN.out.mono ?_
                rintro e w' ⟨rfl, rfl⟩
                go_wp2_with fail
                refine (quAll_any _ _ _ HQ3.out).mono ?_
                rintro e w4 ⟨v4, rfl, ho, hb⟩
                have HB4 := Lib.hid (Below.trans0 HB3.out hb)
                have HQ4 := Lib.hid (HQ3.out.below hb HQ3.out.lt)
                have HS4 := Lib.hid (HS3.out.below hb)
                have CE := Lib.hid (eqI_b v4 _ _ _ _ ho.rd HS4.out.1 (by omega) (by omega))
                clear hb ho c9
                have hee : ((y :: L') == (y :: L')) = true := by simp
                rw [hee] at CE
                clear hee
                go_wp2_with fail
                refine CE.out.mono ?_
                rintro e w5 ⟨rfl, hb⟩
                have HB5 := Lib.hid (Below.trans0 HB4.out hb)
                have HQ5 := Lib.hid (HQ4.out.below hb HQ4.out.lt)
                have HS5 := Lib.hid (HS4.out.below hb)
                clear hb
                go_wp2
                go_roundw
                case rel => exact ⟨k + 1, by omega, by go_num, Lib.hid ⟨_, HQ5.out, HS5.out⟩, HB5⟩
                case measure => simp [intOf]; omega
        · go_wp2_with fail
          refine (alive21 _).mono ?_
          rintro e w9 ⟨rfl, hb⟩
          have HB9 := Lib.hid (Below.trans0 HBW.out hb)
          clear hb
          go_wp2
          go_ret
          exact ⟨rfl, HB9.out⟩
  · by_cases h1 : len1 ≤ 80
    · have h2 : 60 < len0 := by omega
      go_enter Try.func8, Try.ntmps8
      go_wp2
      go_ret
      exact ⟨rfl, Below.refl _ _⟩
    · go_enter Try.func8, Try.ntmps8
      go_wp2
      go_ret
      exact ⟨rfl, Below.refl _ _⟩

set_option maxRecDepth 100000 in
theorem lifted (os : Os) (started : os.Started) (H : Type) (enc : TypeId × Value → H) :
    ReturnsInHanded {} Try.checked os 8 .any (Rows.queuePlaysSpec.pre6 enc Try.prog Try.f8 Rows.queuePlaysRow.domain false) (Rows.queuePlaysSpec.post enc Try.prog Try.f8 false true false false) := by
  refine returnsInHanded_of_change (C := Try.checked) own started (by kernel_rfl) Try.func8
    (ChangeSpec.witness6 (enc := enc) (C := Try.checked) false ⟨#[], #[.slice none 0 0, .slice none 0 0], []⟩ 8 (by kernel_rfl) (by kernel_rfl) (by kernel_rfl) (by kernel_rfl)) ?_
  intro W base args ds gs before hval0 hW hcnd _
  have hval : ∀ (j : Nat) t v, Try.f8.params[j]? = some t → args[j]? = some v → Value.okWide Try.prog W .any base t v := hval0
  have hW' := hW
  obtain ⟨p, q, hA0, hV, rfl, hfz, hnd⟩ := hW
  have hA : DataW.TrodAll enc Try.prog W 0 (fun _ => true) true Try.f8.params.toList args.toList ds p := hA0
  rw [Try.params8] at hA hval
  obtain ⟨v0, vs0, d0, ds0, p0, q0, hargs, rfl, rfl, h0, r0⟩ := trodAll_cons hA
  obtain ⟨v1, vs1, d1, ds1, p1, q1, rfl, rfl, rfl, h1, r1⟩ := trodAll_cons r0
  obtain ⟨rfl, rfl, rfl⟩ := trodAll_nil r1
  obtain rfl : args = #[v0, v1] := by cases args; simp_all
  obtain ⟨rfl, rfl⟩ := trodVars_none hV
  obtain ⟨a0, len0, cap0, rfl⟩ := okWide_slice Try.underlying62 (hval 0 62 v0 rfl rfl)
  have k0 := h0
  have lt0 : ∀ x ∈ p0, x.block < W.heap.size := by obtain ⟨m, hm⟩ := k0; exact DataW.trod_lt m _ _ _ hm
  obtain ⟨z0, w0⟩ : ∃ zs, eI.In (fun z => (Lit.int .i64 z).wf = true) W a0 len0 cap0 zs := by
    obtain ⟨fuel, hf⟩ := h0
    exact open_ints64 hf
  obtain ⟨a1, len1, cap1, rfl⟩ := okWide_slice Try.underlying67 (hval 1 67 v1 rfl rfl)
  have k1 := h1
  have lt1 : ∀ x ∈ p1, x.block < W.heap.size := by obtain ⟨m, hm⟩ := k1; exact DataW.trod_lt m _ _ _ hm
  obtain ⟨z1, w1⟩ : ∃ zs, OpsIn W a1 len1 cap1 zs := by
    obtain ⟨fuel, hf⟩ := h1
    exact open_ops hf
  clear hA0 hval0
  refine (walk a0 len0 cap0 z0 a1 len1 cap1 z1 W w0 w1).mono fun e W' ⟨he, bel⟩ => ?_
  subst he
  exact ⟨_, rfl, _, _, _, [], _, [], hW', trodAll_mk1 (shut_bool Try.underlying4 _), (trodAll_cons_mk (Below.trod laidOut (by kernel_rfl) (of_decide_eq_true (by kernel_rfl)) k0 bel lt0) (trodAll_cons_mk (Below.trod laidOut (by kernel_rfl) (of_decide_eq_true (by kernel_rfl)) k1 bel lt1) trodAll_mk0)), rfl, bel.frame _, fun h => by cases h⟩

theorem over : Rows.queuePlaysRow.holds Try.pinned (OpenSpec.ofChange Rows.queuePlaysSpec) :=
  OpenClaim.holds_of_wide 8 Try.f8 rfl rfl rfl rfl rfl rfl rfl ⟨rfl, rfl, rfl, rfl, rfl⟩ rfl rfl rfl rfl rfl (by kernel_rfl) Try.func8 (by kernel_rfl)
    (of_decide_eq_true (by kernel_rfl)) (by unfold Func.isWrapper; first | (rw [if_pos (by decide +kernel)]; kernel_rfl) | (rw [if_neg (by decide +kernel)]; exact ⟨rfl, rfl⟩))
    (fun os started H enc _ => lifted os started H enc)

theorem proved : Rows.QueuePlaysSaid := over
#print axioms proved
end Go.Proofs.Ytfjkbjkbpbnalaa.queuePlays
