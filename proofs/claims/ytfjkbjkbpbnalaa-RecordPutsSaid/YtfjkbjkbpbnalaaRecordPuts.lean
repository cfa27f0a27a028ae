/- The law RecordPuts answers true for every input, and each argument reads afterwards as it read before. Conditions: none. -/
import Derived.Test.YtfjkbjkbpbnalaaRows
import Derived.WalkKit
import Derived.ProofKit
import Derived.OpenShut
import Derived.ShutString
import Derived.ChangeOld
import Derived.Below
import Derived.Test.YtfjkbjkbpbnalaaRcL
import Derived.Test.YtfjkbjkbpbnalaaRcN
import Derived.Test.YtfjkbjkbpbnalaaRcU
namespace Go.Proofs.Ytfjkbjkbpbnalaa.recordPuts
open Go.ChangeShapes Go.WideShapes Go.ChangeAt Go.RowKit
open Go.ChangeMaps (open_string shut_string)
set_option linter.unusedVariables false

theorem own : ownKnob Try.prog.godebug = none := by kernel_rfl
theorem laidOut : laidOutB Try.prog = true := by kernel_rfl

set_option maxRecDepth 100000 in
set_option maxHeartbeats 1000000 in
theorem walk (a0 : Option Addr) (len0 cap0 : Nat) (z0 : List Rc) (w : World) (w0 : eR.In Rc.Ok w a0 len0 cap0 z0) :
    Calls Try.prog 5 #[.slice a0 len0 cap0] w fun e w' => e = .returned (.bool true) ∧ Below w.heap.size w w' := by
  -- open 0 : List Rc | eR.In Rc.Ok | open_recs
  obtain ⟨l, hL⟩ : ∃ l, eR.In Rc.Ok w a0 len0 cap0 l := ⟨_, w0⟩
  clear w0
  obtain ⟨hR, hln, hlm, hok⟩ := hL
  by_cases h1 : len0 ≤ 60
  · obtain ⟨A, c, hv, hc⟩ := hR.open_
    injection hv with e1 e2 e3
    subst e1
    subst e3
    rw [hln] at hc
    have HR := Lib.hid hR
    have HK := Lib.hid hok
    have HL := Lib.hid hln
    have HC := Lib.hid hc
    clear hR hok hln hc e2 hlm
    go_enter Try.func5, Try.ntmps5
    go_wp2
    go_loopw [3, 4, 5] (fun o s i wr => ∃ k : Nat, k ≤ len0 ∧ i = .int .i64 k ∧ s = .string (strOfNums ((l.take k).flatMap lnN)) ∧ Hid (eU.Own 5 wr w.heap.size o ((l.take k).flatMap puN)) ∧ Hid (Below w.heap.size w wr)) (fun _ _ i _ => len0 - (intOf i).toNat)
    case atStart => exact ⟨0, Nat.zero_le _, rfl, rfl, Lib.hid (Els.Own.nil_ _ _), Lib.hid (Below.refl _ _)⟩
    case round =>
      obtain ⟨k, hk, rfl, rfl, hO, hB⟩ := hrel
      by_cases hlt : k < len0
      · obtain ⟨g, off, rfl, hg, hcell⟩ := HC.out (by omega)
        have hkl : k < l.length := by rw [HL.out]; exact hlt
        have CE := hcell k _ (List.getElem?_eq_getElem hkl)
        have hxo := HK.out _ (List.getElem_mem hkl)
        have TP : Hid ((l.take (k + 1)).flatMap puN = (l.take k).flatMap puN ++ puN l[k]) := Lib.hid (by rw [List.take_succ_eq_append_getElem hkl, List.flatMap_append, List.flatMap_cons, List.flatMap_nil, List.append_nil])
        have TN : Hid ((l.take (k + 1)).flatMap lnN = (l.take k).flatMap lnN ++ lnN l[k]) := Lib.hid (by rw [List.take_succ_eq_append_getElem hkl, List.flatMap_append, List.flatMap_cons, List.flatMap_nil, List.append_nil])
        generalize l[k] = x at CE hxo TP TN
        have HXO := Lib.hid hxo
        have CP := Lib.hid (fun u => rcPut_any x HXO.out u)
        have CT := Lib.hid (fun u => rcText_any x HXO.out u)
        have CU := Lib.hid (fun u => rcRef_any x HXO.out u)
        have CR := Lib.hid (fun u => (rcRead_any (strOfNums (txN x)) u).mono (fun e w' H => rdPost_back x HXO.out u e w' H))
        have LK : Hid (((l.take k).flatMap puN).length ≤ 1000) := Lib.hid (by rw [flat_len, List.length_take]; omega)
        obtain ⟨S, hS⟩ : ∃ S, strOfNums (txN x) = S := ⟨_, rfl⟩
        rw [hS] at CT CU CR
        obtain ⟨q0, q1, q2, q3, q4, q5, q6, q7, q8⟩ := rc9_at hB.out hg CE
        have k0 : (0 : Int) ≤ (k : Int) := by omega
        have k1 : (k : Int) < (len0 : Int) := by omega
        have HCK := Lib.hid CE
        have HG := Lib.hid hg
        clear CE hcell hkl hxo
        go_wp2_with fail
        clear q0 q1 q2 q3 q4 q5 q6 q7 q8
        refine (CP.out _).mono ?_
        rintro e w2 ⟨vp, rfl, hr, hb⟩
        have HP := Lib.hid hr
        have HO2 := Lib.hid (Els.Own.below hO.out hb)
        have HB2 := Lib.hid (Below.trans0 hB.out hb)
        clear hr hb CP
        have LP : Hid ((puN x).length = 4) := Lib.hid rfl
        go_wp2_with (at_builtin; refine wpList_appU rfl _ (.tmp 21) (.tmp 26) rfl w.heap.size u3 vp ((l.take k).flatMap puN) (puN x) rfl HO2.out rfl HP.out (by have := LK.out; have := LP.out; omega) (by have := HB2.out.size; omega) ?_; intro v' w4 hown hbel hgr hwh; obtain ⟨q0, q1, q2, q3, q4, q5, q6, q7, q8⟩ := rc9_at (HB2.out.trans hbel) HG.out HCK.out)
        clear q0 q1 q2 q3 q4 q5 q6 q7 q8
        have HO4 : Hid (eU.Own 5 w4 w.heap.size v' ((l.take (k + 1)).flatMap puN)) := Lib.hid (by rw [TP.out]; exact hown)
        have HB4 := Lib.hid (HB2.out.trans hbel)
        clear hown hbel hgr hwh
        refine (CT.out _).mono ?_
        rintro e w5 ⟨rfl, hb⟩
        have HO5 := Lib.hid (Els.Own.below HO4.out hb)
        have HB5 := Lib.hid (Below.trans0 HB4.out hb)
        clear hb CT
        go_wp2_with fail
        refine (CR.out _).mono ?_
        rintro e w6 ⟨rfl, hb⟩
        have HO6 := Lib.hid (Els.Own.below HO5.out hb)
        have HB6 := Lib.hid (Below.trans0 HB5.out hb)
        clear hb CR
        have P1 : Hid (Blk (w6.alloc (Obj.cells x.cells 37)) w6.heap.size 37 x.cells) := Lib.hid (Blk.new _ _ _ (0, 0))
        go_wp2_with fail
        have HBW := Lib.hid (Below.drew0 (Below.alloc0 HB6.out (Obj.cells x.cells 37)))
        have HOW := Lib.hid ((HO6.out.alloc (Obj.cells x.cells 37)).drew)
        have S0 : Hid ((fun w' : World => (w'.cell? ⟨g, off + k * 9, none⟩ = some (.int .u16 x.a) ∧ w'.cell? ⟨g, off + k * 9 + 1, none⟩ = some (.int .u8 x.d) ∧ w'.cell? ⟨g, off + k * 9 + 2, none⟩ = some (.bool x.r) ∧ w'.cell? ⟨g, off + k * 9 + 3, none⟩ = some (.bool x.b1) ∧ w'.cell? ⟨g, off + k * 9 + 4, none⟩ = some (.bool x.b2) ∧ w'.cell? ⟨g, off + k * 9 + 5, none⟩ = some (.bool x.b3) ∧ w'.cell? ⟨g, off + k * 9 + 6, none⟩ = some (.bool x.b4) ∧ w'.cell? ⟨g, off + k * 9 + 7, none⟩ = some (.bool x.b5) ∧ w'.cell? ⟨g, off + k * 9 + 8, none⟩ = some (.bool x.m)) ∧ (w'.cell? ⟨w6.heap.size, 0, none⟩ = some (.int .u16 x.a) ∧ w'.cell? ⟨w6.heap.size, 1, none⟩ = some (.int .u8 x.d) ∧ w'.cell? ⟨w6.heap.size, 2, none⟩ = some (.bool x.r) ∧ w'.cell? ⟨w6.heap.size, 3, none⟩ = some (.bool x.b1) ∧ w'.cell? ⟨w6.heap.size, 4, none⟩ = some (.bool x.b2) ∧ w'.cell? ⟨w6.heap.size, 5, none⟩ = some (.bool x.b3) ∧ w'.cell? ⟨w6.heap.size, 6, none⟩ = some (.bool x.b4) ∧ w'.cell? ⟨w6.heap.size, 7, none⟩ = some (.bool x.b5) ∧ w'.cell? ⟨w6.heap.size, 8, none⟩ = some (.bool x.m))) (w6.alloc (Obj.cells x.cells 37)).drew) := Lib.hid ⟨rc9_at HBW.out HG.out HCK.out, Blk.c9 P1.out.drew⟩
        have hne : (S.toList != S.toList) = false := by simp
        have HE := neq_rcS x
        refine wp_region_noPanic ?_
        refine wp_region_held_drew (S := (fun w' : World => (w'.cell? ⟨g, off + k * 9, none⟩ = some (.int .u16 x.a) ∧ w'.cell? ⟨g, off + k * 9 + 1, none⟩ = some (.int .u8 x.d) ∧ w'.cell? ⟨g, off + k * 9 + 2, none⟩ = some (.bool x.r) ∧ w'.cell? ⟨g, off + k * 9 + 3, none⟩ = some (.bool x.b1) ∧ w'.cell? ⟨g, off + k * 9 + 4, none⟩ = some (.bool x.b2) ∧ w'.cell? ⟨g, off + k * 9 + 5, none⟩ = some (.bool x.b3) ∧ w'.cell? ⟨g, off + k * 9 + 6, none⟩ = some (.bool x.b4) ∧ w'.cell? ⟨g, off + k * 9 + 7, none⟩ = some (.bool x.b5) ∧ w'.cell? ⟨g, off + k * 9 + 8, none⟩ = some (.bool x.m)) ∧ (w'.cell? ⟨w6.heap.size, 0, none⟩ = some (.int .u16 x.a) ∧ w'.cell? ⟨w6.heap.size, 1, none⟩ = some (.int .u8 x.d) ∧ w'.cell? ⟨w6.heap.size, 2, none⟩ = some (.bool x.r) ∧ w'.cell? ⟨w6.heap.size, 3, none⟩ = some (.bool x.b1) ∧ w'.cell? ⟨w6.heap.size, 4, none⟩ = some (.bool x.b2) ∧ w'.cell? ⟨w6.heap.size, 5, none⟩ = some (.bool x.b3) ∧ w'.cell? ⟨w6.heap.size, 6, none⟩ = some (.bool x.b4) ∧ w'.cell? ⟨w6.heap.size, 7, none⟩ = some (.bool x.b5) ∧ w'.cell? ⟨w6.heap.size, 8, none⟩ = some (.bool x.m)))) (by kernel_rfl) ?_ (fun hH0 => ?_)
        · (try dsimp only); with_reducible exact S0.out
        refine wpAnyH_take (i := 0) (oi := ({ dst := some 38, op := Op.move (Operand.tmp 6), type := 9, pos := "law.go:64", after := #[], guard := none } : Oper)) (v := ?_) rfl (by kernel_rfl) (by kernel_rfl) (by kernel_rfl) (fun _ _ _ h => h) (Or.inl ⟨by rfl, ?_⟩) (by assumption) ?_
        rotate_left 1
        · (intro w hSw; (try dsimp only at hSw); go_simp; (try with_reducible rfl))
        (try simp only [Act.put, List.setIfInBounds_toArray, List.set_cons_zero, List.set_cons_succ])
        refine wpAnyH_take (i := 1) (oi := ({ dst := some 39, op := Op.move (Operand.tmp 0), type := 32, pos := "law.go:64", after := #[], guard := none } : Oper)) (v := ?_) rfl (by kernel_rfl) (by kernel_rfl) (by kernel_rfl) (fun _ _ _ h => h) (Or.inl ⟨by rfl, ?_⟩) (by assumption) ?_
        rotate_left 1
        · (intro w hSw; (try dsimp only at hSw); go_simp; (try with_reducible rfl))
        (try simp only [Act.put, List.setIfInBounds_toArray, List.set_cons_zero, List.set_cons_succ])
        refine wpAnyH_take (i := 2) (oi := ({ dst := some 40, op := Op.move (Operand.tmp 5), type := 3, pos := "law.go:64", after := #[], guard := none } : Oper)) (v := ?_) rfl (by kernel_rfl) (by kernel_rfl) (by kernel_rfl) (fun _ _ _ h => h) (Or.inl ⟨by rfl, ?_⟩) (by assumption) ?_
        rotate_left 1
        · (intro w hSw; (try dsimp only at hSw); go_simp; (try with_reducible rfl))
        (try simp only [Act.put, List.setIfInBounds_toArray, List.set_cons_zero, List.set_cons_succ])
        refine wpAnyH_take (i := 3) (oi := ({ dst := some 41, op := Op.indexAddr 32 (Operand.tmp 39) (Operand.tmp 40), type := 0, pos := "law.go:64", after := #[{ on := 1, ground := Ground.data }, { on := 2, ground := Ground.data }], guard := none } : Oper)) (v := ?_) rfl (by kernel_rfl) (by kernel_rfl) (by kernel_rfl) (fun _ _ _ h => h) (Or.inl ⟨by rfl, ?_⟩) (by assumption) ?_
        rotate_left 1
        · (intro w hSw; (try dsimp only at hSw); go_simp; (try with_reducible rfl))
        (try simp only [Act.put, List.setIfInBounds_toArray, List.set_cons_zero, List.set_cons_succ])
        refine wpAnyH_take (i := 4) (oi := ({ dst := some 42, op := Op.load 37 (Operand.tmp 41), type := 37, pos := "law.go:64", after := #[{ on := 3, ground := Ground.data }], guard := none } : Oper)) (v := ?_) rfl (by kernel_rfl) (by kernel_rfl) (by kernel_rfl) (fun _ _ _ h => h) (Or.inl ⟨by rfl, ?_⟩) (by assumption) ?_
        rotate_left 1
        · (intro w hSw; (try dsimp only at hSw); go_simp; (try with_reducible rfl))
        (try simp only [Act.put, List.setIfInBounds_toArray, List.set_cons_zero, List.set_cons_succ])
        refine wpAnyH_ready (rs := [5]) (by kernel_rfl) (by simp) ?_
        refine AllReadyH.cons (o := ({ dst := some 43, op := Op.call { callee := Callee.value (Operand.func 18), args := #[Operand.tmp 42], argTypes := #[37] }, type := 9, pos := "law.go:64", after := #[{ on := 4, ground := Ground.data }], guard := none } : Oper)) rfl (fun K hK => ?_) ?_
        rotate_left 1
        · exact AllReadyH.nil
        go_simp
        go_at_call 18
        ((with_reducible refine (CU.out _).mono ?_); rintro e v1 ⟨rfl, hb⟩; have HB7 := Lib.hid (Below.trans0 HBW.out hb); have HO7 := Lib.hid (Els.Own.below HOW.out hb); have S1 := Lib.hid (show (fun w' : World => (w'.cell? ⟨g, off + k * 9, none⟩ = some (.int .u16 x.a) ∧ w'.cell? ⟨g, off + k * 9 + 1, none⟩ = some (.int .u8 x.d) ∧ w'.cell? ⟨g, off + k * 9 + 2, none⟩ = some (.bool x.r) ∧ w'.cell? ⟨g, off + k * 9 + 3, none⟩ = some (.bool x.b1) ∧ w'.cell? ⟨g, off + k * 9 + 4, none⟩ = some (.bool x.b2) ∧ w'.cell? ⟨g, off + k * 9 + 5, none⟩ = some (.bool x.b3) ∧ w'.cell? ⟨g, off + k * 9 + 6, none⟩ = some (.bool x.b4) ∧ w'.cell? ⟨g, off + k * 9 + 7, none⟩ = some (.bool x.b5) ∧ w'.cell? ⟨g, off + k * 9 + 8, none⟩ = some (.bool x.m)) ∧ (w'.cell? ⟨w6.heap.size, 0, none⟩ = some (.int .u16 x.a) ∧ w'.cell? ⟨w6.heap.size, 1, none⟩ = some (.int .u8 x.d) ∧ w'.cell? ⟨w6.heap.size, 2, none⟩ = some (.bool x.r) ∧ w'.cell? ⟨w6.heap.size, 3, none⟩ = some (.bool x.b1) ∧ w'.cell? ⟨w6.heap.size, 4, none⟩ = some (.bool x.b2) ∧ w'.cell? ⟨w6.heap.size, 5, none⟩ = some (.bool x.b3) ∧ w'.cell? ⟨w6.heap.size, 6, none⟩ = some (.bool x.b4) ∧ w'.cell? ⟨w6.heap.size, 7, none⟩ = some (.bool x.b5) ∧ w'.cell? ⟨w6.heap.size, 8, none⟩ = some (.bool x.m))) v1 from ⟨rc9_at HB7.out HG.out HCK.out, Blk.c9 (Blk.below P1.out.drew hb P1.out.lt)⟩))
        first | (refine hK.out _ _ ?_ (fun hH1 => ?_)) | (go_wp2_with fail; refine hK.out _ _ ?_ (fun hH1 => ?_))
        · (try dsimp only); with_reducible exact S1.out
        clear hK K hH0
        (try simp only [Act.put, List.setIfInBounds_toArray, List.set_cons_zero, List.set_cons_succ])
        refine wpAnyH_take (i := 6) (oi := ({ dst := some 44, op := Op.binOp BinOp.neq 9 (Operand.tmp 38) (Operand.tmp 43) 9, type := 4, pos := "law.go:64", after := #[{ on := 0, ground := Ground.data }, { on := 5, ground := Ground.data }], guard := none } : Oper)) (v := ?_) rfl (by kernel_rfl) (by kernel_rfl) (by kernel_rfl) (fun _ _ _ h => h) (Or.inl ⟨by rfl, ?_⟩) (by assumption) ?_
        rotate_left 1
        · (intro w hSw; (try dsimp only at hSw); go_simp; (try with_reducible rfl))
        (try simp only [Act.put, List.setIfInBounds_toArray, List.set_cons_zero, List.set_cons_succ])
        refine wpAnyH_take (i := 7) (oi := ({ dst := some 45, op := Op.move (Operand.tmp 44), type := 4, pos := "law.go:64", after := #[{ on := 6, ground := Ground.data }, { on := 5, ground := Ground.chain }], guard := none } : Oper)) (v := ?_) rfl (by kernel_rfl) (by kernel_rfl) (by kernel_rfl) (fun _ _ _ h => h) (Or.inl ⟨by rfl, ?_⟩) (by assumption) ?_
        rotate_left 1
        · (intro w hSw; (try dsimp only at hSw); go_simp; (try with_reducible rfl))
        (try simp only [Act.put, List.setIfInBounds_toArray, List.set_cons_zero, List.set_cons_succ])
        refine wpAnyH_take (i := 8) (oi := ({ dst := some 46, op := Op.load 37 (Operand.tmp 7), type := 37, pos := "law.go:64", after := #[{ on := 7, ground := Ground.guard }], guard := some (7, false) } : Oper)) (v := ?_) rfl (by kernel_rfl) (by kernel_rfl) (by kernel_rfl) (fun _ _ _ h => h) (Or.inl ⟨by rfl, ?_⟩) (by assumption) ?_
        rotate_left 1
        · (intro w hSw; (try dsimp only at hSw); go_simp; (try with_reducible rfl))
        (try simp only [Act.put, List.setIfInBounds_toArray, List.set_cons_zero, List.set_cons_succ])
        refine wpAnyH_take (i := 9) (oi := ({ dst := some 47, op := Op.move (Operand.tmp 0), type := 32, pos := "law.go:64", after := #[{ on := 7, ground := Ground.guard }], guard := some (7, false) } : Oper)) (v := ?_) rfl (by kernel_rfl) (by kernel_rfl) (by kernel_rfl) (fun _ _ _ h => h) (Or.inl ⟨by rfl, ?_⟩) (by assumption) ?_
        rotate_left 1
        · (intro w hSw; (try dsimp only at hSw); go_simp; (try with_reducible rfl))
        (try simp only [Act.put, List.setIfInBounds_toArray, List.set_cons_zero, List.set_cons_succ])
        refine wpAnyH_take (i := 10) (oi := ({ dst := some 48, op := Op.move (Operand.tmp 5), type := 3, pos := "law.go:64", after := #[{ on := 7, ground := Ground.guard }], guard := some (7, false) } : Oper)) (v := ?_) rfl (by kernel_rfl) (by kernel_rfl) (by kernel_rfl) (fun _ _ _ h => h) (Or.inl ⟨by rfl, ?_⟩) (by assumption) ?_
        rotate_left 1
        · (intro w hSw; (try dsimp only at hSw); go_simp; (try with_reducible rfl))
        (try simp only [Act.put, List.setIfInBounds_toArray, List.set_cons_zero, List.set_cons_succ])
        refine wpAnyH_take (i := 11) (oi := ({ dst := some 49, op := Op.indexAddr 32 (Operand.tmp 47) (Operand.tmp 48), type := 0, pos := "law.go:64", after := #[{ on := 9, ground := Ground.data }, { on := 10, ground := Ground.data }, { on := 7, ground := Ground.guard }], guard := some (7, false) } : Oper)) (v := ?_) rfl (by kernel_rfl) (by kernel_rfl) (by kernel_rfl) (fun _ _ _ h => h) (Or.inl ⟨by rfl, ?_⟩) (by assumption) ?_
        rotate_left 1
        · (intro w hSw; (try dsimp only at hSw); go_simp; (try with_reducible rfl))
        (try simp only [Act.put, List.setIfInBounds_toArray, List.set_cons_zero, List.set_cons_succ])
        refine wpAnyH_take (i := 12) (oi := ({ dst := some 50, op := Op.load 37 (Operand.tmp 49), type := 37, pos := "law.go:64", after := #[{ on := 11, ground := Ground.data }, { on := 7, ground := Ground.guard }], guard := some (7, false) } : Oper)) (v := ?_) rfl (by kernel_rfl) (by kernel_rfl) (by kernel_rfl) (fun _ _ _ h => h) (Or.inl ⟨by rfl, ?_⟩) (by assumption) ?_
        rotate_left 1
        · (intro w hSw; (try dsimp only at hSw); go_simp; (try with_reducible rfl))
        (try simp only [Act.put, List.setIfInBounds_toArray, List.set_cons_zero, List.set_cons_succ])
        refine wpAnyH_take (i := 13) (oi := ({ dst := some 51, op := Op.binOp BinOp.neq 37 (Operand.tmp 46) (Operand.tmp 50) 37, type := 4, pos := "law.go:64", after := #[{ on := 8, ground := Ground.data }, { on := 12, ground := Ground.data }, { on := 7, ground := Ground.guard }], guard := some (7, false) } : Oper)) (v := ?_) rfl (by kernel_rfl) (by kernel_rfl) (by kernel_rfl) (fun _ _ _ h => h) (Or.inl ⟨by rfl, ?_⟩) (by assumption) ?_
        rotate_left 1
        · (intro w hSw; (try dsimp only at hSw); go_simp; (try with_reducible rfl))
        (try simp only [Act.put, List.setIfInBounds_toArray, List.set_cons_zero, List.set_cons_succ])
        refine wpAnyH_take (i := 14) (oi := ({ dst := some 52, op := Op.pick (Operand.tmp 45) (Operand.const (Value.bool true)) (Operand.tmp 51), type := 4, pos := "law.go:64", after := #[{ on := 7, ground := Ground.data }, { on := 13, ground := Ground.data }], guard := none } : Oper)) (v := ?_) rfl (by kernel_rfl) (by kernel_rfl) (by kernel_rfl) (fun _ _ _ h => h) (Or.inl ⟨by rfl, ?_⟩) (by assumption) ?_
        rotate_left 1
        · (intro w hSw; (try dsimp only at hSw); go_simp; (try with_reducible rfl))
        (try simp only [Act.put, List.setIfInBounds_toArray, List.set_cons_zero, List.set_cons_succ])
        refine wpAnyH_take (i := 15) (oi := ({ dst := some 53, op := Op.move (Operand.tmp 52), type := 4, pos := "law.go:64", after := #[{ on := 14, ground := Ground.data }, { on := 7, ground := Ground.chain }], guard := none } : Oper)) (v := ?_) rfl (by kernel_rfl) (by kernel_rfl) (by kernel_rfl) (fun _ _ _ h => h) (Or.inl ⟨by rfl, ?_⟩) (by assumption) ?_
        rotate_left 1
        · (intro w hSw; (try dsimp only at hSw); go_simp; (try with_reducible rfl))
        (try simp only [Act.put, List.setIfInBounds_toArray, List.set_cons_zero, List.set_cons_succ])
        refine wpAnyH_take (i := 16) (oi := ({ dst := some 54, op := Op.move (Operand.tmp 8), type := 24, pos := "law.go:64", after := #[{ on := 15, ground := Ground.guard }], guard := some (15, false) } : Oper)) (v := ?_) rfl (by kernel_rfl) (by kernel_rfl) (by kernel_rfl) (fun _ _ _ h => h) (Or.inl ⟨by rfl, ?_⟩) (by assumption) ?_
        rotate_left 1
        · (intro w hSw; (try dsimp only at hSw); go_simp; (try with_reducible rfl))
        (try simp only [Act.put, List.setIfInBounds_toArray, List.set_cons_zero, List.set_cons_succ])
        refine wpAnyH_take (i := 17) (oi := ({ dst := some 55, op := Op.binOp BinOp.neq 24 (Operand.tmp 54) (Operand.const (Value.int IntKind.i64 0)) 24, type := 4, pos := "law.go:64", after := #[{ on := 16, ground := Ground.data }, { on := 15, ground := Ground.guard }], guard := some (15, false) } : Oper)) (v := ?_) rfl (by kernel_rfl) (by kernel_rfl) (by kernel_rfl) (fun _ _ _ h => h) (Or.inl ⟨by rfl, ?_⟩) (by assumption) ?_
        rotate_left 1
        · (intro w hSw; (try dsimp only at hSw); go_simp; (try with_reducible rfl))
        (try simp only [Act.put, List.setIfInBounds_toArray, List.set_cons_zero, List.set_cons_succ])
        refine wpAnyH_take (i := 18) (oi := ({ dst := some 56, op := Op.pick (Operand.tmp 53) (Operand.const (Value.bool true)) (Operand.tmp 55), type := 4, pos := "law.go:64", after := #[{ on := 15, ground := Ground.data }, { on := 17, ground := Ground.data }], guard := none } : Oper)) (v := ?_) rfl (by kernel_rfl) (by kernel_rfl) (by kernel_rfl) (fun _ _ _ h => h) (Or.inl ⟨by rfl, ?_⟩) (by assumption) ?_
        rotate_left 1
        · (intro w hSw; (try dsimp only at hSw); go_simp; (try with_reducible rfl))
        (try simp only [Act.put, List.setIfInBounds_toArray, List.set_cons_zero, List.set_cons_succ])
        refine wpAnyH_done (by kernel_rfl) ?_ _
        refine NoPanic.normal ?_
        all_goals
          clear S0 S1 P1 CU HBW HOW HO6 HB6 HO5 HB5
          have TT : Hid (strOfNums ((l.take k).flatMap lnN) ++ (S ++ (⟨#[10]⟩ : ByteArray)) = strOfNums ((l.take (k + 1)).flatMap lnN)) := Lib.hid (by rw [TN.out, ← strOf_append, lnN, ← strOf_append, hS]; rfl)
          have sz : S.size = 17 := by rw [← hS]; exact txN_len x HXO.out
          have s1 : ¬ 9223372036854775807 < S.size + 1 := by omega
          have lz : (strOfNums ((l.take k).flatMap lnN)).size ≤ 2000 := by rw [size_strOf, ln_len _ (fun y hy => HK.out y (List.mem_of_mem_take hy)), List.length_take]; omega
          have s2 : ¬ 9223372036854775807 < (strOfNums ((l.take k).flatMap lnN)).size + (S.size + 1) := by omega
          go_wp2
          go_roundw
          case rel => exact ⟨k + 1, by omega, by go_num, by rw [← TT.out], HO7, HB7⟩
          case measure => simp [intOf]; omega
      · obtain rfl : k = len0 := by omega
        have ET : l.take k = l := List.take_of_length_le (by rw [HL.out]; exact Nat.le_refl _)
        rw [ET] at hO ⊢
        have HR1 := Lib.hid (Els.Rd.below HR.out hB.out)
        have CP := Lib.hid (fun v u (h : eR.Rd u v l) => rcPuts_any v l u h HK.out (by rw [HL.out]; omega))
        have k1 : ¬ ((k : Nat) : Int) < (k : Int) := by omega
        go_wp2_with fail
        refine (CP.out _ _ HR1.out).mono ?_
        rintro e w2 ⟨vp, rfl, hown, hb⟩
        obtain ⟨A2, c2, rfl, hI⟩ := hown.ints (pu_wf l HK.out)
        have hcap := ownU_cap hown _ _ _ rfl
        have FL : Hid ((l.flatMap puN).length = 4 * l.length) := Lib.hid (flat_len l)
        have CG := Lib.hid (fun u (h : Ints .u8 u u.heap.size A2 (l.flatMap puN).length (l.flatMap puN)) => (rcGet_any A2 (l.flatMap puN).length c2 hcap (by rw [FL.out, HL.out]; omega) (l.flatMap puN) u h).mono (fun e w' H => getPost_back l HK.out u e w' (by rw [FL.out] at H; exact H)))
        have HI := Lib.hid hI
        have HR2 := Lib.hid (Els.Rd.below HR1.out hb)
        have HB2 := Lib.hid (Below.trans0 hB.out hb)
        obtain ⟨A3, c3, rfl, hI3⟩ := (eU_own hO.out).ints (pu_wf l HK.out)
        have HI3 := Lib.hid (Ints.below hI3 hb.size hb)
        clear hown hI hb hI3 hO hcap FL
        obtain ⟨n4, hn4⟩ : ∃ n, (l.flatMap puN).length = n := ⟨_, rfl⟩
        rw [hn4] at CG HI HI3 ⊢
        obtain ⟨PB, hPB⟩ : ∃ PB, l.flatMap puN = PB := ⟨_, rfl⟩
        rw [hPB] at CG HI HI3
        clear hPB hn4
        go_wp2_with fail
        refine (CG.out _ HI.out).mono ?_
        rintro e w3 ⟨vg, rfl, hrg, hb⟩
        have HRG := Lib.hid hrg
        have HR3 := Lib.hid (Els.Rd.below HR2.out hb)
        have HB3 := Lib.hid (Below.trans0 HB2.out hb)
        have HJ := Lib.hid (Ints.below HI.out hb.size hb)
        have HJ3 := Lib.hid (Ints.below HI3.out hb.size hb)
        have hEq : (PB == PB) = true := by simp
        clear hrg hb CG
        go_wp2_with (go_at_call 21; refine (bytesEqual_any _ _ _ _ _ _ _ _ _ _ _ HJ.out HJ3.out).mono ?_; rintro e w' ⟨rfl, rfl⟩)
        refine (rcEq_same _ _ l _ HRG.out HR3.out (by rw [HL.out]; omega)).mono ?_
        rintro e w4 ⟨rfl, n5, rfl⟩
        have HD := Lib.hid (Below.drewN0 (Below.refl w3.heap.size w3) n5)
        have HR4 := Lib.hid (Els.Rd.below HR3.out HD.out)
        have HB4 := Lib.hid (Below.drewN0 HB3.out n5)
        generalize w3.drewN n5 = w4 at HD HR4 HB4 ⊢
        go_wp2_with fail
        refine (rcLines_any _ l _ HR4.out HK.out (by rw [HL.out]; omega) txN_rng).mono ?_
        rintro e w5 ⟨rfl, hb⟩
        have HB5 := Lib.hid (Below.trans0 HB4.out hb)
        have hEs : ((strOfNums (l.flatMap lnN)).toList == (strOfNums (l.flatMap lnN)).toList) = true := by simp
        clear hb
        go_wp2_with fail
        refine (alive26 _).mono ?_
        rintro e w9 ⟨rfl, hb⟩
        have HB9 := Lib.hid (Below.trans0 HB5.out hb)
        clear hb
        go_wp2
        go_ret
        exact ⟨rfl, HB9.out⟩
  · go_enter Try.func5, Try.ntmps5
    go_wp2
    go_ret
    exact ⟨rfl, Below.refl _ _⟩

set_option maxRecDepth 100000 in
theorem lifted (os : Os) (started : os.Started) (H : Type) (enc : TypeId × Value → H) :
    ReturnsInHanded {} Try.checked os 5 .any (Rows.recordPutsSpec.pre6 enc Try.prog Try.f5 Rows.recordPutsRow.domain false) (Rows.recordPutsSpec.post enc Try.prog Try.f5 false true false false) := by
  refine returnsInHanded_of_change (C := Try.checked) own started (by kernel_rfl) Try.func5
    (ChangeSpec.witness6 (enc := enc) (C := Try.checked) false ⟨#[], #[.slice none 0 0], []⟩ 8 (by kernel_rfl) (by kernel_rfl) (by kernel_rfl) (by kernel_rfl)) ?_
  intro W base args ds gs before hval0 hW hcnd _
  have hval : ∀ (j : Nat) t v, Try.f5.params[j]? = some t → args[j]? = some v → Value.okWide Try.prog W .any base t v := hval0
  have hW' := hW
  obtain ⟨p, q, hA0, hV, rfl, hfz, hnd⟩ := hW
  have hA : DataW.TrodAll enc Try.prog W 0 (fun _ => true) true Try.f5.params.toList args.toList ds p := hA0
  rw [Try.params5] at hA hval
  obtain ⟨v0, vs0, d0, ds0, p0, q0, hargs, rfl, rfl, h0, r0⟩ := trodAll_cons hA
  obtain ⟨rfl, rfl, rfl⟩ := trodAll_nil r0
  obtain rfl : args = #[v0] := by cases args; simp_all
  obtain ⟨rfl, rfl⟩ := trodVars_none hV
  obtain ⟨a0, len0, cap0, rfl⟩ := okWide_slice Try.underlying32 (hval 0 32 v0 rfl rfl)
  have k0 := h0
  have lt0 : ∀ x ∈ p0, x.block < W.heap.size := by obtain ⟨m, hm⟩ := k0; exact DataW.trod_lt m _ _ _ hm
  obtain ⟨z0, w0⟩ : ∃ zs, eR.In Rc.Ok W a0 len0 cap0 zs := by
    obtain ⟨fuel, hf⟩ := h0
    exact open_recs hf
  clear hA0 hval0
  refine (walk a0 len0 cap0 z0 W w0).mono fun e W' ⟨he, bel⟩ => ?_
  subst he
  exact ⟨_, rfl, _, _, _, [], _, [], hW', trodAll_mk1 (shut_bool Try.underlying4 _), (trodAll_cons_mk (Below.trod laidOut (by kernel_rfl) (of_decide_eq_true (by kernel_rfl)) k0 bel lt0) trodAll_mk0), rfl, bel.frame _, fun h => by cases h⟩

theorem over : Rows.recordPutsRow.holds Try.pinned (OpenSpec.ofChange Rows.recordPutsSpec) :=
  OpenClaim.holds_of_wide 5 Try.f5 rfl rfl rfl rfl rfl rfl rfl ⟨rfl, rfl, rfl, rfl, rfl⟩ rfl rfl rfl rfl rfl (by kernel_rfl) Try.func5 (by kernel_rfl)
    (of_decide_eq_true (by kernel_rfl)) (by unfold Func.isWrapper; first | (rw [if_pos (by decide +kernel)]; kernel_rfl) | (rw [if_neg (by decide +kernel)]; exact ⟨rfl, rfl⟩))
    (fun os started H enc _ => lifted os started H enc)

theorem proved : Rows.RecordPutsSaid := over
#print axioms proved
end Go.Proofs.Ytfjkbjkbpbnalaa.recordPuts
