/- The law AuditChecks answers true for every input, and each argument reads afterwards as it read before. Conditions: none. -/
import Derived.Test.YteaajmoclgfhnaaRows
import Derived.WalkKit
import Derived.ProofKit
import Derived.OpenShut
import Derived.ShutString
import Derived.ChangeOld
import Derived.Below
import Derived.Test.YteaajmoclgfhnaaAul
import Derived.Deep.RegionHeld3
import Derived.Deep.CutBlock
namespace Go.Proofs.Yteaajmoclgfhnaa.auditChecks
open Go.ChangeShapes Go.WideShapes Go.ChangeAt Go.RowKit
open Go.ChangeMaps (open_string shut_string)
set_option linter.unusedVariables false

theorem own : ownKnob Try.prog.godebug = none := by kernel_rfl
theorem laidOut : laidOutB Try.prog = true := by kernel_rfl

set_option maxRecDepth 100000 in
set_option maxHeartbeats 8000000 in
theorem walk (a0 : Option Addr) (len0 cap0 : Nat) (z0 : List Rc) (w : World) (w0 : eR.In Rc.Ok w a0 len0 cap0 z0) :
    Calls Try.prog 3 #[.slice a0 len0 cap0] w fun e w' => e = .returned (.bool true) ∧ Below w.heap.size w w' := by
  -- open 0 : List Rc | eR.In Rc.Ok | open_recs
  -- heartbeats 8000000
  obtain ⟨l, hL⟩ : ∃ l, eR.In Rc.Ok w a0 len0 cap0 l := ⟨_, w0⟩
  clear w0
  obtain ⟨hR, hln, hlm, hok⟩ := hL
  by_cases h1 : len0 ≤ 200
  · obtain ⟨A, c, hv, hc⟩ := hR.open_
    injection hv with e1 e2 e3
    subst e1
    subst e3
    rw [hln] at hc
    have HR := Lib.hid hR
    have HK := Lib.hid hok
    have HL := Lib.hid hln
    have HC := Lib.hid hc
    clear hR hok hln hc e2 hlm
    go_enter Try.func3, Try.ntmps3
    go_wp2
    go_loopw [3, 4, 6, 8] (fun u3 u4 u6 i wr => ∃ k : Nat, k ≤ len0 ∧ i = .int .i64 k ∧ u3 = .int .i64 (atN l len0 k : Int) ∧ u4 = .int .i64 (ckR l k).2 ∧ u6 = .bool (lsR (l.take k)).isSome ∧ Hid (Blk wr w.heap.size 25 (lastC (l.take k)).cells) ∧ Hid (Blk wr (w.heap.size + 1) 26 (tlA (l.take k))) ∧ Hid (Below w.heap.size w wr)) (fun _ _ _ i _ => len0 - (intOf i).toNat)
    case atStart => exact ⟨0, Nat.zero_le _, rfl, rfl, rfl, rfl, Lib.hid (Blk.alloc (Blk.new _ _ _ (0, 0)) _), Lib.hid (Blk.at1 _), Lib.hid (Below.alloc0 (Below.alloc0 (Below.refl _ _) _) _)⟩
    case round =>
      obtain ⟨k, hk, rfl, rfl, rfl, rfl, hO, hN, hB⟩ := hrel
      by_cases hlt : k < len0
      · obtain ⟨g, off, rfl, hg, hcell⟩ := HC.out (by omega)
        have hkl : k < l.length := by rw [HL.out]; exact hlt
        have CE := hcell k _ (List.getElem?_eq_getElem hkl)
        have hxo := HK.out _ (List.getElem_mem hkl)
        have US := Lib.hid (usR_alt (l.take k))
        have SN := Lib.hid (show (lsR (l.take (k + 1))).isSome = (l[k].m || (lsR (l.take k)).isSome) by rw [take_at l k hkl]; exact some_next _ _)
        have LN := Lib.hid (show lastC (l.take (k + 1)) = bif l[k].m then l[k] else lastC (l.take k) by rw [take_at l k hkl]; exact lastC_next _ _)
        have ta := tlA_next (l.take k) l[k]
        rw [← take_at l k hkl] at ta
        have TA := Lib.hid ta
        clear ta
        have ST := Lib.hid (at_stay l len0 k hkl)
        have NW := Lib.hid (at_new l len0 k hkl)
        have L0 := ctR_le 0 (l.take k)
        have L1 := ctR_le 1 (l.take k)
        have L2 := ctR_le 2 (l.take k)
        have L3 := ctR_le 3 (l.take k)
        have LK : (l.take k).length ≤ 1000000 := by rw [List.length_take]; omega
        unfold tlA at hN
        generalize l[k] = x at CE hxo SN LN TA ST NW
        generalize lsR (l.take k) = O at US SN ⊢
        generalize lastC (l.take k) = y at hO US LN
        generalize atN l len0 k = AT at ST ⊢
        generalize (ckR l k).2 = Q at ST NW ⊢
        generalize ctR 0 (l.take k) = c0 at hN TA L0
        generalize ctR 1 (l.take k) = c1 at hN TA L1
        generalize ctR 2 (l.take k) = c2 at hN TA L2
        generalize ctR 3 (l.take k) = c3 at hN TA L3
        generalize (l.take k).length = LT at L0 L1 L2 L3 LK
        have CW := Lib.hid (fun u => wrong_rc x y hxo O.isSome u)
        rw [← US.out] at CW
        generalize usR (l.take k) = U at US CW ST NW
        obtain ⟨E, hE⟩ : ∃ E, wrN x U = E := ⟨_, rfl⟩
        rw [hE] at CW ST NW
        generalize O.isSome = S at CW SN ⊢
        clear hE US hxo
        obtain ⟨q0, q1, q2, q3, q4, q5, q6, q7, q8⟩ := rc9_at hB.out hg CE
        obtain ⟨p0, p1, p2, p3, p4, p5, p6, p7, p8⟩ := Blk.c9 hO.out
        have k0 : (0 : Int) ≤ (k : Int) := by omega
        have k1 : (k : Int) < (len0 : Int) := by omega
        have HCK := Lib.hid CE
        have HG := Lib.hid hg
        clear hcell hkl CE hg
        obtain ⟨a, d, r, b1, b2, b3, b4, b5, m⟩ := x
        obtain ⟨ya, yd, yr, yb1, yb2, yb3, yb4, yb5, ym⟩ := y
        simp only at q0 q1 q2 q3 q4 q5 q6 q7 q8 p0 p1 p2 p3 p4 p5 p6 p7 p8
        have S0 : Hid ((fun w' : World => (w'.cell? ⟨g, off + k * 9, none⟩ = some (.int .u16 a) ∧ w'.cell? ⟨g, off + k * 9 + 1, none⟩ = some (.int .u8 d) ∧ w'.cell? ⟨g, off + k * 9 + 2, none⟩ = some (.bool r) ∧ w'.cell? ⟨g, off + k * 9 + 3, none⟩ = some (.bool b1) ∧ w'.cell? ⟨g, off + k * 9 + 4, none⟩ = some (.bool b2) ∧ w'.cell? ⟨g, off + k * 9 + 5, none⟩ = some (.bool b3) ∧ w'.cell? ⟨g, off + k * 9 + 6, none⟩ = some (.bool b4) ∧ w'.cell? ⟨g, off + k * 9 + 7, none⟩ = some (.bool b5) ∧ w'.cell? ⟨g, off + k * 9 + 8, none⟩ = some (.bool m)) ∧ (w'.cell? ⟨w.heap.size, 0, none⟩ = some (.int .u16 ya) ∧ w'.cell? ⟨w.heap.size, 1, none⟩ = some (.int .u8 yd) ∧ w'.cell? ⟨w.heap.size, 2, none⟩ = some (.bool yr) ∧ w'.cell? ⟨w.heap.size, 3, none⟩ = some (.bool yb1) ∧ w'.cell? ⟨w.heap.size, 4, none⟩ = some (.bool yb2) ∧ w'.cell? ⟨w.heap.size, 5, none⟩ = some (.bool yb3) ∧ w'.cell? ⟨w.heap.size, 6, none⟩ = some (.bool yb4) ∧ w'.cell? ⟨w.heap.size, 7, none⟩ = some (.bool yb5) ∧ w'.cell? ⟨w.heap.size, 8, none⟩ = some (.bool ym))) wr.drew) := Lib.hid ⟨⟨q0, q1, q2, q3, q4, q5, q6, q7, q8⟩, ⟨p0, p1, p2, p3, p4, p5, p6, p7, p8⟩⟩
        go_wp2
        have HBd := Lib.hid (Below.drew0 hB.out)
        have HNd := Lib.hid (Blk.drew hN.out)
        have HOd := Lib.hid (Blk.drew hO.out)
        refine wp_region_noPanic ?_
        refine wp_region_held_drew (S := (fun w' : World => (w'.cell? ⟨g, off + k * 9, none⟩ = some (.int .u16 a) ∧ w'.cell? ⟨g, off + k * 9 + 1, none⟩ = some (.int .u8 d) ∧ w'.cell? ⟨g, off + k * 9 + 2, none⟩ = some (.bool r) ∧ w'.cell? ⟨g, off + k * 9 + 3, none⟩ = some (.bool b1) ∧ w'.cell? ⟨g, off + k * 9 + 4, none⟩ = some (.bool b2) ∧ w'.cell? ⟨g, off + k * 9 + 5, none⟩ = some (.bool b3) ∧ w'.cell? ⟨g, off + k * 9 + 6, none⟩ = some (.bool b4) ∧ w'.cell? ⟨g, off + k * 9 + 7, none⟩ = some (.bool b5) ∧ w'.cell? ⟨g, off + k * 9 + 8, none⟩ = some (.bool m)) ∧ (w'.cell? ⟨w.heap.size, 0, none⟩ = some (.int .u16 ya) ∧ w'.cell? ⟨w.heap.size, 1, none⟩ = some (.int .u8 yd) ∧ w'.cell? ⟨w.heap.size, 2, none⟩ = some (.bool yr) ∧ w'.cell? ⟨w.heap.size, 3, none⟩ = some (.bool yb1) ∧ w'.cell? ⟨w.heap.size, 4, none⟩ = some (.bool yb2) ∧ w'.cell? ⟨w.heap.size, 5, none⟩ = some (.bool yb3) ∧ w'.cell? ⟨w.heap.size, 6, none⟩ = some (.bool yb4) ∧ w'.cell? ⟨w.heap.size, 7, none⟩ = some (.bool yb5) ∧ w'.cell? ⟨w.heap.size, 8, none⟩ = some (.bool ym)))) (by kernel_rfl) ?_ (fun hH0 => ?_)
        · (try dsimp only); with_reducible exact S0.out
        refine wpAnyH_take (i := 0) (oi := ({ dst := some 23, op := Op.move (Operand.tmp 0), type := 22, pos := "law.go:52", after := #[], guard := none } : Oper)) (v := ?_) rfl (by kernel_rfl) (by kernel_rfl) (by kernel_rfl) (fun _ _ _ h => h) (Or.inl ⟨by rfl, ?_⟩) (by assumption) ?_
        rotate_left 1
        · (intro w hSw; (try dsimp only at hSw); go_simp; (try with_reducible rfl))
        (try simp only [Act.put, List.setIfInBounds_toArray, List.set_cons_zero, List.set_cons_succ])
        refine wpAnyH_take (i := 1) (oi := ({ dst := some 24, op := Op.move (Operand.tmp 8), type := 3, pos := "law.go:52", after := #[], guard := none } : Oper)) (v := ?_) rfl (by kernel_rfl) (by kernel_rfl) (by kernel_rfl) (fun _ _ _ h => h) (Or.inl ⟨by rfl, ?_⟩) (by assumption) ?_
        rotate_left 1
        · (intro w hSw; (try dsimp only at hSw); go_simp; (try with_reducible rfl))
        (try simp only [Act.put, List.setIfInBounds_toArray, List.set_cons_zero, List.set_cons_succ])
        refine wpAnyH_take (i := 2) (oi := ({ dst := some 25, op := Op.indexAddr 22 (Operand.tmp 23) (Operand.tmp 24), type := 0, pos := "law.go:52", after := #[{ on := 0, ground := Ground.data }, { on := 1, ground := Ground.data }], guard := none } : Oper)) (v := ?_) rfl (by kernel_rfl) (by kernel_rfl) (by kernel_rfl) (fun _ _ _ h => h) (Or.inl ⟨by rfl, ?_⟩) (by assumption) ?_
        rotate_left 1
        · (intro w hSw; (try dsimp only at hSw); go_simp; (try with_reducible rfl))
        (try simp only [Act.put, List.setIfInBounds_toArray, List.set_cons_zero, List.set_cons_succ])
        refine wpAnyH_take (i := 3) (oi := ({ dst := some 26, op := Op.load 25 (Operand.tmp 25), type := 25, pos := "law.go:52", after := #[{ on := 2, ground := Ground.data }], guard := none } : Oper)) (v := ?_) rfl (by kernel_rfl) (by kernel_rfl) (by kernel_rfl) (fun _ _ _ h => h) (Or.inl ⟨by rfl, ?_⟩) (by assumption) ?_
        rotate_left 1
        · (intro w hSw; (try dsimp only at hSw); go_simp; (try with_reducible rfl))
        (try simp only [Act.put, List.setIfInBounds_toArray, List.set_cons_zero, List.set_cons_succ])
        refine wpAnyH_take (i := 4) (oi := ({ dst := some 27, op := Op.load 25 (Operand.tmp 5), type := 25, pos := "law.go:52", after := #[], guard := none } : Oper)) (v := ?_) rfl (by kernel_rfl) (by kernel_rfl) (by kernel_rfl) (fun _ _ _ h => h) (Or.inl ⟨by rfl, ?_⟩) (by assumption) ?_
        rotate_left 1
        · (intro w hSw; (try dsimp only at hSw); go_simp; (try with_reducible rfl))
        (try simp only [Act.put, List.setIfInBounds_toArray, List.set_cons_zero, List.set_cons_succ])
        refine wpAnyH_take (i := 5) (oi := ({ dst := some 28, op := Op.move (Operand.tmp 6), type := 4, pos := "law.go:52", after := #[], guard := none } : Oper)) (v := ?_) rfl (by kernel_rfl) (by kernel_rfl) (by kernel_rfl) (fun _ _ _ h => h) (Or.inl ⟨by rfl, ?_⟩) (by assumption) ?_
        rotate_left 1
        · (intro w hSw; (try dsimp only at hSw); go_simp; (try with_reducible rfl))
        (try simp only [Act.put, List.setIfInBounds_toArray, List.set_cons_zero, List.set_cons_succ])
        refine wpAnyH_ready (rs := [6]) (by kernel_rfl) (by simp) ?_
        refine AllReadyH.cons (o := ({ dst := some 29, op := Op.call { callee := Callee.value (Operand.func 7), args := #[Operand.tmp 26, Operand.tmp 27, Operand.tmp 28], argTypes := #[25, 25, 4] }, type := 3, pos := "law.go:52", after := #[{ on := 3, ground := Ground.data }, { on := 4, ground := Ground.data }, { on := 5, ground := Ground.data }], guard := none } : Oper)) rfl (fun K hK => ?_) ?_
        rotate_left 1
        · exact AllReadyH.nil
        go_simp
        go_at_call 7
        ((with_reducible refine (CW.out _).mono ?_); rintro e w1 ⟨rfl, hb⟩; have HB1 := Lib.hid (Below.trans0 HBd.out hb); have HN1 := Lib.hid (Blk.below HNd.out hb HNd.out.lt); have HO1 := Lib.hid (Blk.below HOd.out hb HOd.out.lt); have S1 := Lib.hid (show (fun w' : World => (w'.cell? ⟨g, off + k * 9, none⟩ = some (.int .u16 a) ∧ w'.cell? ⟨g, off + k * 9 + 1, none⟩ = some (.int .u8 d) ∧ w'.cell? ⟨g, off + k * 9 + 2, none⟩ = some (.bool r) ∧ w'.cell? ⟨g, off + k * 9 + 3, none⟩ = some (.bool b1) ∧ w'.cell? ⟨g, off + k * 9 + 4, none⟩ = some (.bool b2) ∧ w'.cell? ⟨g, off + k * 9 + 5, none⟩ = some (.bool b3) ∧ w'.cell? ⟨g, off + k * 9 + 6, none⟩ = some (.bool b4) ∧ w'.cell? ⟨g, off + k * 9 + 7, none⟩ = some (.bool b5) ∧ w'.cell? ⟨g, off + k * 9 + 8, none⟩ = some (.bool m)) ∧ (w'.cell? ⟨w.heap.size, 0, none⟩ = some (.int .u16 ya) ∧ w'.cell? ⟨w.heap.size, 1, none⟩ = some (.int .u8 yd) ∧ w'.cell? ⟨w.heap.size, 2, none⟩ = some (.bool yr) ∧ w'.cell? ⟨w.heap.size, 3, none⟩ = some (.bool yb1) ∧ w'.cell? ⟨w.heap.size, 4, none⟩ = some (.bool yb2) ∧ w'.cell? ⟨w.heap.size, 5, none⟩ = some (.bool yb3) ∧ w'.cell? ⟨w.heap.size, 6, none⟩ = some (.bool yb4) ∧ w'.cell? ⟨w.heap.size, 7, none⟩ = some (.bool yb5) ∧ w'.cell? ⟨w.heap.size, 8, none⟩ = some (.bool ym))) w1 from ⟨rc9_at (x := ⟨a, d, r, b1, b2, b3, b4, b5, m⟩) (off := off) (k := k) HB1.out HG.out HCK.out, Blk.c9 HO1.out⟩))
        first | (refine hK.out _ _ ?_ (fun hH1 => ?_)) | (go_wp2_with fail; refine hK.out _ _ ?_ (fun hH1 => ?_))
        · (try dsimp only); with_reducible exact S1.out
        clear hK K hH0
        (try simp only [Act.put, List.setIfInBounds_toArray, List.set_cons_zero, List.set_cons_succ])
        refine wpAnyH_take (i := 7) (oi := ({ dst := some 9, op := Op.assign (Operand.tmp 29), type := 3, pos := "law.go:52", after := #[{ on := 6, ground := Ground.data }, { on := 6, ground := Ground.chain }, { on := 0, ground := Ground.phase }, { on := 1, ground := Ground.phase }, { on := 2, ground := Ground.phase }, { on := 3, ground := Ground.phase }, { on := 4, ground := Ground.phase }, { on := 5, ground := Ground.phase }, { on := 6, ground := Ground.phase }], guard := none } : Oper)) (v := ?_) rfl (by kernel_rfl) (by kernel_rfl) (by kernel_rfl) (fun _ _ _ h => h) (Or.inl ⟨by rfl, ?_⟩) (by assumption) ?_
        rotate_left 1
        · (intro w hSw; (try dsimp only at hSw); go_simp; (try with_reducible rfl))
        (try simp only [Act.put, List.setIfInBounds_toArray, List.set_cons_zero, List.set_cons_succ])
        refine wpAnyH_done (by kernel_rfl) ?_ _
        refine NoPanic.normal ?_
        clear S0 q0 q1 q2 q3 q4 q5 q6 q7 q8 p0 p1 p2 p3 p4 p5 p6 p7 p8
        obtain ⟨⟨q0, q1, q2, q3, q4, q5, q6, q7, q8⟩, -⟩ := S1.out
        obtain ⟨⟨y0, y1, y2, y3⟩, f0, f1, f2, f3⟩ := Blk.b4 HN1.out
        obtain ⟨g0, g1, g2, g3, g4, g5, g6, g7, g8⟩ : w1.frozen? ⟨w.heap.size, 0, none⟩ = false ∧ w1.frozen? ⟨w.heap.size, 1, none⟩ = false ∧ w1.frozen? ⟨w.heap.size, 2, none⟩ = false ∧ w1.frozen? ⟨w.heap.size, 3, none⟩ = false ∧ w1.frozen? ⟨w.heap.size, 4, none⟩ = false ∧ w1.frozen? ⟨w.heap.size, 5, none⟩ = false ∧ w1.frozen? ⟨w.heap.size, 6, none⟩ = false ∧ w1.frozen? ⟨w.heap.size, 7, none⟩ = false ∧ w1.frozen? ⟨w.heap.size, 8, none⟩ = false := ⟨HO1.out.frozen _, HO1.out.frozen _, HO1.out.frozen _, HO1.out.frozen _, HO1.out.frozen _, HO1.out.frozen _, HO1.out.frozen _, HO1.out.frozen _, HO1.out.frozen _⟩
        clear S1
        by_cases he : E = 0
        · obtain ⟨at1, wh1⟩ := ST.out (.inl he)
          have AT1 := Lib.hid at1
          have WH1 := Lib.hid wh1
          clear at1 wh1 ST NW
          subst he
          cases m
          case true =>
            go_wp2
            go_roundw
            case rel => exact ⟨k + 1, by omega, by go_num, by rw [AT1.out], by rw [WH1.out], by rw [SN.out]; rfl, Lib.hid (by rw [LN.out]; exact Blk.far (Blk.set9R HO1.out) (by show w.heap.size ≠ w.heap.size + 1; omega) _), Lib.hid (by rw [TA.out]; simpa [kdR] using Blk.set_ (Blk.far9R (g := w.heap.size) (x0 := .int .u16 a) (x1 := .int .u8 d) (x2 := .bool r) (x3 := .bool b1) (x4 := .bool b2) (x5 := .bool b3) (x6 := .bool b4) (x7 := .bool b5) (x8 := .bool true) HN1.out (by show w.heap.size + 1 ≠ w.heap.size; omega)) 0 (.int .i64 ((c0 : Int) + 1))), Lib.hid (Below.set0 (Below.set9R HB1.out (Nat.le_refl _)) (by omega) _)⟩
            case measure => simp [intOf]; omega
          case false =>
            cases b3
            case true =>
              go_wp2
              go_roundw
              case rel => exact ⟨k + 1, by omega, by go_num, by rw [AT1.out], by rw [WH1.out], by rw [SN.out]; rfl, Lib.hid (by rw [LN.out]; exact Blk.far HO1.out (by show w.heap.size ≠ w.heap.size + 1; omega) _), Lib.hid (by rw [TA.out]; simpa [kdR] using Blk.set_ HN1.out 2 (.int .i64 ((c2 : Int) + 1))), Lib.hid (Below.set0 HB1.out (by omega) _)⟩
              case measure => simp [intOf]; omega
            case false =>
              cases b1
              case true =>
                go_wp2
                go_roundw
                case rel => exact ⟨k + 1, by omega, by go_num, by rw [AT1.out], by rw [WH1.out], by rw [SN.out]; rfl, Lib.hid (by rw [LN.out]; exact Blk.far HO1.out (by show w.heap.size ≠ w.heap.size + 1; omega) _), Lib.hid (by rw [TA.out]; simpa [kdR] using Blk.set_ HN1.out 1 (.int .i64 ((c1 : Int) + 1))), Lib.hid (Below.set0 HB1.out (by omega) _)⟩
                case measure => simp [intOf]; omega
              case false =>
                go_wp2
                go_roundw
                case rel => exact ⟨k + 1, by omega, by go_num, by rw [AT1.out], by rw [WH1.out], by rw [SN.out]; rfl, Lib.hid (by rw [LN.out]; exact Blk.far HO1.out (by show w.heap.size ≠ w.heap.size + 1; omega) _), Lib.hid (by rw [TA.out]; simpa [kdR] using Blk.set_ HN1.out 3 (.int .i64 ((c3 : Int) + 1))), Lib.hid (Below.set0 HB1.out (by omega) _)⟩
                case measure => simp [intOf]; omega
        · have hne : (E != 0) = true := by rw [bne_iff_ne]; exact he
          by_cases hq : Q = 0
          · obtain ⟨at1, wh1⟩ := NW.out he hq
            have AT1 := Lib.hid at1
            have WH1 := Lib.hid wh1
            subst hq
            clear at1 wh1 ST NW he
            cases m
            case true =>
              go_wp2
              go_roundw
              case rel => exact ⟨k + 1, by omega, by go_num, by rw [AT1.out], by rw [WH1.out], by rw [SN.out]; rfl, Lib.hid (by rw [LN.out]; exact Blk.far (Blk.set9R HO1.out) (by show w.heap.size ≠ w.heap.size + 1; omega) _), Lib.hid (by rw [TA.out]; simpa [kdR] using Blk.set_ (Blk.far9R (g := w.heap.size) (x0 := .int .u16 a) (x1 := .int .u8 d) (x2 := .bool r) (x3 := .bool b1) (x4 := .bool b2) (x5 := .bool b3) (x6 := .bool b4) (x7 := .bool b5) (x8 := .bool true) HN1.out (by show w.heap.size + 1 ≠ w.heap.size; omega)) 0 (.int .i64 ((c0 : Int) + 1))), Lib.hid (Below.set0 (Below.set9R HB1.out (Nat.le_refl _)) (by omega) _)⟩
              case measure => simp [intOf]; omega
            case false =>
              cases b3
              case true =>
                go_wp2
                go_roundw
                case rel => exact ⟨k + 1, by omega, by go_num, by rw [AT1.out], by rw [WH1.out], by rw [SN.out]; rfl, Lib.hid (by rw [LN.out]; exact Blk.far HO1.out (by show w.heap.size ≠ w.heap.size + 1; omega) _), Lib.hid (by rw [TA.out]; simpa [kdR] using Blk.set_ HN1.out 2 (.int .i64 ((c2 : Int) + 1))), Lib.hid (Below.set0 HB1.out (by omega) _)⟩
                case measure => simp [intOf]; omega
              case false =>
                cases b1
                case true =>
                  go_wp2
                  go_roundw
                  case rel => exact ⟨k + 1, by omega, by go_num, by rw [AT1.out], by rw [WH1.out], by rw [SN.out]; rfl, Lib.hid (by rw [LN.out]; exact Blk.far HO1.out (by show w.heap.size ≠ w.heap.size + 1; omega) _), Lib.hid (by rw [TA.out]; simpa [kdR] using Blk.set_ HN1.out 1 (.int .i64 ((c1 : Int) + 1))), Lib.hid (Below.set0 HB1.out (by omega) _)⟩
                  case measure => simp [intOf]; omega
                case false =>
                  go_wp2
                  go_roundw
                  case rel => exact ⟨k + 1, by omega, by go_num, by rw [AT1.out], by rw [WH1.out], by rw [SN.out]; rfl, Lib.hid (by rw [LN.out]; exact Blk.far HO1.out (by show w.heap.size ≠ w.heap.size + 1; omega) _), Lib.hid (by rw [TA.out]; simpa [kdR] using Blk.set_ HN1.out 3 (.int .i64 ((c3 : Int) + 1))), Lib.hid (Below.set0 HB1.out (by omega) _)⟩
                  case measure => simp [intOf]; omega
          · obtain ⟨at1, wh1⟩ := ST.out (.inr hq)
            have AT1 := Lib.hid at1
            have WH1 := Lib.hid wh1
            have hqn : (Q == 0) = false := by simpa using hq
            clear at1 wh1 ST NW he hq
            cases m
            case true =>
              go_wp2
              go_roundw
              case rel => exact ⟨k + 1, by omega, by go_num, by rw [AT1.out], by rw [WH1.out], by rw [SN.out]; rfl, Lib.hid (by rw [LN.out]; exact Blk.far (Blk.set9R HO1.out) (by show w.heap.size ≠ w.heap.size + 1; omega) _), Lib.hid (by rw [TA.out]; simpa [kdR] using Blk.set_ (Blk.far9R (g := w.heap.size) (x0 := .int .u16 a) (x1 := .int .u8 d) (x2 := .bool r) (x3 := .bool b1) (x4 := .bool b2) (x5 := .bool b3) (x6 := .bool b4) (x7 := .bool b5) (x8 := .bool true) HN1.out (by show w.heap.size + 1 ≠ w.heap.size; omega)) 0 (.int .i64 ((c0 : Int) + 1))), Lib.hid (Below.set0 (Below.set9R HB1.out (Nat.le_refl _)) (by omega) _)⟩
              case measure => simp [intOf]; omega
            case false =>
              cases b3
              case true =>
                go_wp2
                go_roundw
                case rel => exact ⟨k + 1, by omega, by go_num, by rw [AT1.out], by rw [WH1.out], by rw [SN.out]; rfl, Lib.hid (by rw [LN.out]; exact Blk.far HO1.out (by show w.heap.size ≠ w.heap.size + 1; omega) _), Lib.hid (by rw [TA.out]; simpa [kdR] using Blk.set_ HN1.out 2 (.int .i64 ((c2 : Int) + 1))), Lib.hid (Below.set0 HB1.out (by omega) _)⟩
                case measure => simp [intOf]; omega
              case false =>
                cases b1
                case true =>
                  go_wp2
                  go_roundw
                  case rel => exact ⟨k + 1, by omega, by go_num, by rw [AT1.out], by rw [WH1.out], by rw [SN.out]; rfl, Lib.hid (by rw [LN.out]; exact Blk.far HO1.out (by show w.heap.size ≠ w.heap.size + 1; omega) _), Lib.hid (by rw [TA.out]; simpa [kdR] using Blk.set_ HN1.out 1 (.int .i64 ((c1 : Int) + 1))), Lib.hid (Below.set0 HB1.out (by omega) _)⟩
                  case measure => simp [intOf]; omega
                case false =>
                  go_wp2
                  go_roundw
                  case rel => exact ⟨k + 1, by omega, by go_num, by rw [AT1.out], by rw [WH1.out], by rw [SN.out]; rfl, Lib.hid (by rw [LN.out]; exact Blk.far HO1.out (by show w.heap.size ≠ w.heap.size + 1; omega) _), Lib.hid (by rw [TA.out]; simpa [kdR] using Blk.set_ HN1.out 3 (.int .i64 ((c3 : Int) + 1))), Lib.hid (Below.set0 HB1.out (by omega) _)⟩
                  case measure => simp [intOf]; omega
      · obtain rfl : k = len0 := by omega
        rw [at_last]
        have ET : l.take k = l := List.take_of_length_le (by rw [HL.out]; exact Nat.le_refl _)
        rw [ET] at hN
        have HR1 := Lib.hid (Els.Rd.below HR.out hB.out)
        have CC := Lib.hid (fun v u (h : eR.Rd u v l) => check_any v l u h (by rw [HL.out]; omega))
        have CT := Lib.hid (fun v u (h : eR.Rd u v l) => tally_any v l u h (by rw [HL.out]; omega))
        rw [HL.out] at CC
        unfold tlA at hN CT
        generalize ctR 0 l = c0 at hN CT
        generalize ctR 1 l = c1 at hN CT
        generalize ctR 2 l = c2 at hN CT
        generalize ctR 3 l = c3 at hN CT
        generalize ckR l k = CK at CC ⊢
        obtain ⟨p, q⟩ := CK
        simp only at CC
        simp only
        have CA := Lib.hid (fun u => alive55 u)
        go_wp2_with fail
        refine (CC.out _ _ HR1.out).mono ?_
        rintro e w1 ⟨rfl, hb⟩
        have HR2 := Lib.hid (Els.Rd.below HR1.out hb)
        have HB2 := Lib.hid (Below.trans0 hB.out hb)
        have HN2 := Lib.hid (Blk.below hN.out hb hN.out.lt)
        clear hb
        have S0 := Lib.hid (show (fun w' : World => (w'.cell? ⟨w.heap.size + 1, 0, none⟩ = some (.int .i64 (c0 : Int)) ∧ w'.cell? ⟨w.heap.size + 1, 1, none⟩ = some (.int .i64 (c1 : Int)) ∧ w'.cell? ⟨w.heap.size + 1, 2, none⟩ = some (.int .i64 (c2 : Int)) ∧ w'.cell? ⟨w.heap.size + 1, 3, none⟩ = some (.int .i64 (c3 : Int)))) w1.drew from (Blk.b4 HN2.out).1)
        have hE := eql4 (c0 : Int) (c1 : Int) (c2 : Int) (c3 : Int)
        have t1 : ((p : Int) == (p : Int)) = true := by simp
        have t2 : (q == q) = true := by simp
        have HRd := Lib.hid (Els.Rd.drew HR2.out)
        have HBd := Lib.hid (Below.drew0 HB2.out)
        have HNd := Lib.hid (Blk.drew HN2.out)
        go_wp2
        refine wp_region_noPanic ?_
        refine wp_region_held_drew (S := (fun w' : World => (w'.cell? ⟨w.heap.size + 1, 0, none⟩ = some (.int .i64 (c0 : Int)) ∧ w'.cell? ⟨w.heap.size + 1, 1, none⟩ = some (.int .i64 (c1 : Int)) ∧ w'.cell? ⟨w.heap.size + 1, 2, none⟩ = some (.int .i64 (c2 : Int)) ∧ w'.cell? ⟨w.heap.size + 1, 3, none⟩ = some (.int .i64 (c3 : Int))))) (by kernel_rfl) ?_ (fun hH0 => ?_)
        · (try dsimp only); with_reducible exact S0.out
        refine wpAnyH_take (i := 0) (oi := ({ dst := some 78, op := Op.move (Operand.tmp 10), type := 3, pos := "law.go:68", after := #[], guard := none } : Oper)) (v := ?_) rfl (by kernel_rfl) (by kernel_rfl) (by kernel_rfl) (fun _ _ _ h => h) (Or.inl ⟨by rfl, ?_⟩) (by assumption) ?_
        rotate_left 1
        · (intro w hSw; (try dsimp only at hSw); go_simp; (try with_reducible rfl))
        (try simp only [Act.put, List.setIfInBounds_toArray, List.set_cons_zero, List.set_cons_succ])
        refine wpAnyH_take (i := 1) (oi := ({ dst := some 79, op := Op.move (Operand.tmp 3), type := 3, pos := "law.go:68", after := #[], guard := none } : Oper)) (v := ?_) rfl (by kernel_rfl) (by kernel_rfl) (by kernel_rfl) (fun _ _ _ h => h) (Or.inl ⟨by rfl, ?_⟩) (by assumption) ?_
        rotate_left 1
        · (intro w hSw; (try dsimp only at hSw); go_simp; (try with_reducible rfl))
        (try simp only [Act.put, List.setIfInBounds_toArray, List.set_cons_zero, List.set_cons_succ])
        refine wpAnyH_take (i := 2) (oi := ({ dst := some 80, op := Op.binOp BinOp.eql 3 (Operand.tmp 78) (Operand.tmp 79) 3, type := 4, pos := "law.go:68", after := #[{ on := 0, ground := Ground.data }, { on := 1, ground := Ground.data }], guard := none } : Oper)) (v := ?_) rfl (by kernel_rfl) (by kernel_rfl) (by kernel_rfl) (fun _ _ _ h => h) (Or.inl ⟨by rfl, ?_⟩) (by assumption) ?_
        rotate_left 1
        · (intro w hSw; (try dsimp only at hSw); go_simp; (try with_reducible rfl))
        (try simp only [Act.put, List.setIfInBounds_toArray, List.set_cons_zero, List.set_cons_succ])
        refine wpAnyH_take (i := 3) (oi := ({ dst := some 81, op := Op.move (Operand.tmp 80), type := 4, pos := "law.go:68", after := #[{ on := 2, ground := Ground.data }], guard := none } : Oper)) (v := ?_) rfl (by kernel_rfl) (by kernel_rfl) (by kernel_rfl) (fun _ _ _ h => h) (Or.inl ⟨by rfl, ?_⟩) (by assumption) ?_
        rotate_left 1
        · (intro w hSw; (try dsimp only at hSw); go_simp; (try with_reducible rfl))
        (try simp only [Act.put, List.setIfInBounds_toArray, List.set_cons_zero, List.set_cons_succ])
        refine wpAnyH_take (i := 4) (oi := ({ dst := some 82, op := Op.move (Operand.tmp 11), type := 3, pos := "law.go:68", after := #[{ on := 3, ground := Ground.guard }], guard := some (3, true) } : Oper)) (v := ?_) rfl (by kernel_rfl) (by kernel_rfl) (by kernel_rfl) (fun _ _ _ h => h) (Or.inl ⟨by rfl, ?_⟩) (by assumption) ?_
        rotate_left 1
        · (intro w hSw; (try dsimp only at hSw); go_simp; (try with_reducible rfl))
        (try simp only [Act.put, List.setIfInBounds_toArray, List.set_cons_zero, List.set_cons_succ])
        refine wpAnyH_take (i := 5) (oi := ({ dst := some 83, op := Op.move (Operand.tmp 4), type := 3, pos := "law.go:68", after := #[{ on := 3, ground := Ground.guard }], guard := some (3, true) } : Oper)) (v := ?_) rfl (by kernel_rfl) (by kernel_rfl) (by kernel_rfl) (fun _ _ _ h => h) (Or.inl ⟨by rfl, ?_⟩) (by assumption) ?_
        rotate_left 1
        · (intro w hSw; (try dsimp only at hSw); go_simp; (try with_reducible rfl))
        (try simp only [Act.put, List.setIfInBounds_toArray, List.set_cons_zero, List.set_cons_succ])
        refine wpAnyH_take (i := 6) (oi := ({ dst := some 84, op := Op.binOp BinOp.eql 3 (Operand.tmp 82) (Operand.tmp 83) 3, type := 4, pos := "law.go:68", after := #[{ on := 4, ground := Ground.data }, { on := 5, ground := Ground.data }, { on := 3, ground := Ground.guard }], guard := some (3, true) } : Oper)) (v := ?_) rfl (by kernel_rfl) (by kernel_rfl) (by kernel_rfl) (fun _ _ _ h => h) (Or.inl ⟨by rfl, ?_⟩) (by assumption) ?_
        rotate_left 1
        · (intro w hSw; (try dsimp only at hSw); go_simp; (try with_reducible rfl))
        (try simp only [Act.put, List.setIfInBounds_toArray, List.set_cons_zero, List.set_cons_succ])
        refine wpAnyH_take (i := 7) (oi := ({ dst := some 85, op := Op.pick (Operand.tmp 81) (Operand.tmp 84) (Operand.const (Value.bool false)), type := 4, pos := "law.go:68", after := #[{ on := 3, ground := Ground.data }, { on := 6, ground := Ground.data }], guard := none } : Oper)) (v := ?_) rfl (by kernel_rfl) (by kernel_rfl) (by kernel_rfl) (fun _ _ _ h => h) (Or.inl ⟨by rfl, ?_⟩) (by assumption) ?_
        rotate_left 1
        · (intro w hSw; (try dsimp only at hSw); go_simp; (try with_reducible rfl))
        (try simp only [Act.put, List.setIfInBounds_toArray, List.set_cons_zero, List.set_cons_succ])
        refine wpAnyH_take (i := 8) (oi := ({ dst := some 86, op := Op.move (Operand.tmp 85), type := 4, pos := "law.go:68", after := #[{ on := 7, ground := Ground.data }, { on := 3, ground := Ground.chain }], guard := none } : Oper)) (v := ?_) rfl (by kernel_rfl) (by kernel_rfl) (by kernel_rfl) (fun _ _ _ h => h) (Or.inl ⟨by rfl, ?_⟩) (by assumption) ?_
        rotate_left 1
        · (intro w hSw; (try dsimp only at hSw); go_simp; (try with_reducible rfl))
        (try simp only [Act.put, List.setIfInBounds_toArray, List.set_cons_zero, List.set_cons_succ])
        refine wpAnyH_take (i := 9) (oi := ({ dst := some 87, op := Op.move (Operand.tmp 0), type := 22, pos := "law.go:68", after := #[{ on := 8, ground := Ground.guard }], guard := some (8, true) } : Oper)) (v := ?_) rfl (by kernel_rfl) (by kernel_rfl) (by kernel_rfl) (fun _ _ _ h => h) (Or.inl ⟨by rfl, ?_⟩) (by assumption) ?_
        rotate_left 1
        · (intro w hSw; (try dsimp only at hSw); go_simp; (try with_reducible rfl))
        (try simp only [Act.put, List.setIfInBounds_toArray, List.set_cons_zero, List.set_cons_succ])
        refine wpAnyH_take (i := 11) (oi := ({ dst := some 89, op := Op.load 26 (Operand.tmp 7), type := 26, pos := "law.go:68", after := #[{ on := 8, ground := Ground.guard }], guard := some (8, true) } : Oper)) (v := ?_) rfl (by kernel_rfl) (by kernel_rfl) (by kernel_rfl) (fun _ _ _ h => h) (Or.inl ⟨by rfl, ?_⟩) (by assumption) ?_
        rotate_left 1
        · (intro w hSw; (try dsimp only at hSw); go_simp; (try with_reducible rfl))
        (try simp only [Act.put, List.setIfInBounds_toArray, List.set_cons_zero, List.set_cons_succ])
        refine wpAnyH_ready (rs := [10]) (by kernel_rfl) (by simp) ?_
        refine AllReadyH.cons (o := ({ dst := some 88, op := Op.call { callee := Callee.value (Operand.func 9), args := #[Operand.tmp 87], argTypes := #[22] }, type := 26, pos := "law.go:68", after := #[{ on := 9, ground := Ground.data }, { on := 8, ground := Ground.chain }, { on := 8, ground := Ground.guard }], guard := some (8, true) } : Oper)) rfl (fun K hK => ?_) ?_
        rotate_left 1
        · exact AllReadyH.nil
        go_simp
        go_at_call 9
        ((with_reducible refine (CT.out _ _ HRd.out).mono ?_); rintro e w2 ⟨rfl, hb⟩; have HB3 := Lib.hid (Below.trans0 HBd.out hb); have HN3 := Lib.hid (Blk.below HNd.out hb HNd.out.lt))
        first | (refine hK.out _ _ ?_ (fun hH1 => ?_)) | (go_wp2_with fail; refine hK.out _ _ ?_ (fun hH1 => ?_))
        · (try dsimp only); with_reducible exact (Blk.b4 HN3.out).1
        clear hK K hH0
        (try simp only [Act.put, List.setIfInBounds_toArray, List.set_cons_zero, List.set_cons_succ])
        refine wpAnyH_take (i := 12) (oi := ({ dst := some 90, op := Op.binOp BinOp.eql 26 (Operand.tmp 88) (Operand.tmp 89) 26, type := 4, pos := "law.go:68", after := #[{ on := 10, ground := Ground.data }, { on := 11, ground := Ground.data }, { on := 8, ground := Ground.guard }], guard := some (8, true) } : Oper)) (v := ?_) rfl (by kernel_rfl) (by kernel_rfl) (by kernel_rfl) (fun _ _ _ h => h) (Or.inl ⟨by rfl, ?_⟩) (by assumption) ?_
        rotate_left 1
        · (intro w hSw; (try dsimp only at hSw); go_simp; (try with_reducible rfl))
        (try simp only [Act.put, List.setIfInBounds_toArray, List.set_cons_zero, List.set_cons_succ])
        refine wpAnyH_take (i := 13) (oi := ({ dst := some 91, op := Op.pick (Operand.tmp 86) (Operand.tmp 90) (Operand.const (Value.bool false)), type := 4, pos := "law.go:68", after := #[{ on := 8, ground := Ground.data }, { on := 12, ground := Ground.data }], guard := none } : Oper)) (v := ?_) rfl (by kernel_rfl) (by kernel_rfl) (by kernel_rfl) (fun _ _ _ h => h) (Or.inl ⟨by rfl, ?_⟩) (by assumption) ?_
        rotate_left 1
        · (intro w hSw; (try dsimp only at hSw); go_simp; (try with_reducible rfl))
        (try simp only [Act.put, List.setIfInBounds_toArray, List.set_cons_zero, List.set_cons_succ])
        refine wpAnyH_take (i := 14) (oi := ({ dst := some 92, op := Op.move (Operand.tmp 91), type := 4, pos := "law.go:68", after := #[{ on := 13, ground := Ground.data }, { on := 10, ground := Ground.chain }], guard := none } : Oper)) (v := ?_) rfl (by kernel_rfl) (by kernel_rfl) (by kernel_rfl) (fun _ _ _ h => h) (Or.inl ⟨by rfl, ?_⟩) (by assumption) ?_
        rotate_left 1
        · (intro w hSw; (try dsimp only at hSw); go_simp; (try with_reducible rfl))
        (try simp only [Act.put, List.setIfInBounds_toArray, List.set_cons_zero, List.set_cons_succ])
        refine wpAnyH_ready (rs := [15]) (by kernel_rfl) (by simp) ?_
        refine AllReadyH.cons (o := ({ dst := some 93, op := Op.call { callee := Callee.value (Operand.func 10), args := #[], argTypes := #[] }, type := 4, pos := "law.go:68", after := #[{ on := 14, ground := Ground.chain }, { on := 14, ground := Ground.guard }], guard := some (14, true) } : Oper)) rfl (fun K hK => ?_) ?_
        rotate_left 1
        · exact AllReadyH.nil
        go_simp
        go_at_call 10
        ((with_reducible refine (CA.out _).mono ?_); rintro e w3 ⟨rfl, hb3⟩; have HB4 := Lib.hid (Below.trans0 HB3.out hb3); have HN4 := Lib.hid (Blk.below HN3.out hb3 HN3.out.lt))
        first | (refine hK.out _ _ ?_ (fun hH2 => ?_)) | (go_wp2_with fail; refine hK.out _ _ ?_ (fun hH2 => ?_))
        · (try dsimp only); with_reducible exact (Blk.b4 HN4.out).1
        clear hK K hH1
        (try simp only [Act.put, List.setIfInBounds_toArray, List.set_cons_zero, List.set_cons_succ])
        refine wpAnyH_take (i := 16) (oi := ({ dst := some 94, op := Op.pick (Operand.tmp 92) (Operand.tmp 93) (Operand.const (Value.bool false)), type := 4, pos := "law.go:68", after := #[{ on := 14, ground := Ground.data }, { on := 15, ground := Ground.data }], guard := none } : Oper)) (v := ?_) rfl (by kernel_rfl) (by kernel_rfl) (by kernel_rfl) (fun _ _ _ h => h) (Or.inl ⟨by rfl, ?_⟩) (by assumption) ?_
        rotate_left 1
        · (intro w hSw; (try dsimp only at hSw); go_simp; (try with_reducible rfl))
        (try simp only [Act.put, List.setIfInBounds_toArray, List.set_cons_zero, List.set_cons_succ])
        refine wpAnyH_take (i := 17) (oi := ({ dst := some 2, op := Op.assign (Operand.tmp 94), type := 4, pos := "law.go:68", after := #[{ on := 16, ground := Ground.data }, { on := 15, ground := Ground.chain }, { on := 0, ground := Ground.phase }, { on := 1, ground := Ground.phase }, { on := 2, ground := Ground.phase }, { on := 3, ground := Ground.phase }, { on := 4, ground := Ground.phase }, { on := 5, ground := Ground.phase }, { on := 6, ground := Ground.phase }, { on := 7, ground := Ground.phase }, { on := 8, ground := Ground.phase }, { on := 9, ground := Ground.phase }, { on := 10, ground := Ground.phase }, { on := 11, ground := Ground.phase }, { on := 12, ground := Ground.phase }, { on := 13, ground := Ground.phase }, { on := 14, ground := Ground.phase }, { on := 15, ground := Ground.phase }, { on := 16, ground := Ground.phase }], guard := none } : Oper)) (v := ?_) rfl (by kernel_rfl) (by kernel_rfl) (by kernel_rfl) (fun _ _ _ h => h) (Or.inl ⟨by rfl, ?_⟩) (by assumption) ?_
        rotate_left 1
        · (intro w hSw; (try dsimp only at hSw); go_simp; (try with_reducible rfl))
        (try simp only [Act.put, List.setIfInBounds_toArray, List.set_cons_zero, List.set_cons_succ])
        refine wpAnyH_done (by kernel_rfl) ?_ _
        refine NoPanic.normal ?_
        all_goals
          go_wp2
          go_ret
          exact ⟨rfl, HB4.out⟩
  · go_enter Try.func3, Try.ntmps3
    go_wp2
    go_ret
    exact ⟨rfl, Below.refl _ _⟩

set_option maxRecDepth 100000 in
theorem lifted (os : Os) (started : os.Started) (H : Type) (enc : TypeId × Value → H) :
    ReturnsInHanded {} Try.checked os 3 .any (Rows.auditChecksSpec.pre6 enc Try.prog Try.f3 Rows.auditChecksRow.domain false) (Rows.auditChecksSpec.post enc Try.prog Try.f3 false true false false) := by
  refine returnsInHanded_of_change (C := Try.checked) own started (by kernel_rfl) Try.func3
    (ChangeSpec.witness6 (enc := enc) (C := Try.checked) false ⟨#[], #[.slice none 0 0], []⟩ 8 (by kernel_rfl) (by kernel_rfl) (by kernel_rfl) (by kernel_rfl)) ?_
  intro W base args ds gs before hval0 hW hcnd _
  have hval : ∀ (j : Nat) t v, Try.f3.params[j]? = some t → args[j]? = some v → Value.okWide Try.prog W .any base t v := hval0
  have hW' := hW
  obtain ⟨p, q, hA0, hV, rfl, hfz, hnd⟩ := hW
  have hA : DataW.TrodAll enc Try.prog W 0 (fun _ => true) true Try.f3.params.toList args.toList ds p := hA0
  rw [Try.params3] at hA hval
  obtain ⟨v0, vs0, d0, ds0, p0, q0, hargs, rfl, rfl, h0, r0⟩ := trodAll_cons hA
  obtain ⟨rfl, rfl, rfl⟩ := trodAll_nil r0
  obtain rfl : args = #[v0] := by cases args; simp_all
  obtain ⟨rfl, rfl⟩ := trodVars_none hV
  obtain ⟨a0, len0, cap0, rfl⟩ := okWide_slice Try.underlying22 (hval 0 22 v0 rfl rfl)
  have k0 := h0
  have lt0 : ∀ x ∈ p0, x.block < W.heap.size := by obtain ⟨m, hm⟩ := k0; exact DataW.trod_lt m _ _ _ hm
  obtain ⟨z0, w0⟩ : ∃ zs, eR.In Rc.Ok W a0 len0 cap0 zs := by
    obtain ⟨fuel, hf⟩ := h0
    exact open_recs hf
  clear hA0 hval0
  refine (walk a0 len0 cap0 z0 W w0).mono fun e W' ⟨he, bel⟩ => ?_
  subst he
  exact ⟨_, rfl, _, _, _, [], _, [], hW', trodAll_mk1 (shut_bool Try.underlying4 _), (trodAll_cons_mk (Below.trod laidOut (by kernel_rfl) (of_decide_eq_true (by kernel_rfl)) k0 bel lt0) trodAll_mk0), rfl, bel.frame _, fun h => by cases h⟩

theorem over : Rows.auditChecksRow.holds Try.pinned (OpenSpec.ofChange Rows.auditChecksSpec) :=
  OpenClaim.holds_of_wide 3 Try.f3 rfl rfl rfl rfl rfl rfl rfl ⟨rfl, rfl, rfl, rfl, rfl⟩ rfl rfl rfl rfl rfl (by kernel_rfl) Try.func3 (by kernel_rfl)
    (of_decide_eq_true (by kernel_rfl)) (by unfold Func.isWrapper; first | (rw [if_pos (by decide +kernel)]; kernel_rfl) | (rw [if_neg (by decide +kernel)]; exact ⟨rfl, rfl⟩))
    (fun os started H enc _ => lifted os started H enc)

theorem proved : Rows.AuditChecksSaid := over
#print axioms proved
end Go.Proofs.Yteaajmoclgfhnaa.auditChecks
