/- The law PinsTexts answers true for every input, and each argument reads afterwards as it read before. Conditions: none. -/
import Derived.Test.YtnmgjgeniaheoaaDoorRows
import Derived.WalkKit
import Derived.ProofKit
import Derived.OpenShut
import Derived.ShutString
import Derived.ChangeOld
import Derived.Below
import Derived.Test.YtnmgjgeniaheoaaDoorPnY
import Derived.Deep.CutBlock
import Derived.Deep.RegionHeld3
import Derived.LaidMore
import Derived.Lay
import Derived.Test.YtnmgjgeniaheoaaDoorCards
import Derived.Test.YtnmgjgeniaheoaaDoorTie
import Derived.LaidMore
import Derived.Stop.Joined
import Derived.SevenTiedAt
namespace Go.Proofs.YtnmgjgeniaheoaaDoor.pinsTexts
open Go.ChangeShapes Go.WideShapes Go.ChangeAt Go.RowKit
open Go.ChangeMaps (open_string shut_string)
set_option linter.unusedVariables false

theorem own : ownKnob Tryd.prog.godebug = none := by kernel_rfl
theorem laidOut : laidOutB Tryd.prog = true := by kernel_rfl

set_option maxRecDepth 100000 in
set_option maxHeartbeats 4000000 in
theorem walk (a0 : Option Addr) (len0 cap0 : Nat) (z0 : List Pn) (w : World) (w0 : NIn w a0 len0 cap0 z0) (hL : laidMetH Tryd.prog Rows.pinsTextsRow.laid w) :
    Calls Tryd.prog 3 #[.slice a0 len0 cap0] w fun e w' => e = .returned (.bool true) ∧ Below w.heap.size w w' := by
  -- open 0 : List Pn | NIn | open_pinsC
  -- heartbeats 4000000
  obtain ⟨l, hL⟩ : ∃ l, NIn w a0 len0 cap0 l := ⟨_, w0⟩
  clear w0
  obtain ⟨⟨hR, hln, hlm, -⟩, hcap⟩ := hL
  by_cases h1 : len0 ≤ 300
  case neg =>
    go_enter Tryd.func3, Tryd.ntmps3
    go_wp2
    go_ret
    exact ⟨rfl, Below.refl _ _⟩
  have hl3 : l.length ≤ 300 := by omega
  obtain ⟨A, c, hv, hc⟩ := hR.open_
  injection hv with e1 e2 e3
  clear e2
  subst e1 e3
  have HC := Lib.hid hc
  have HLN := Lib.hid hln
  have HJs := jn_size l hl3
  have PJ := Lib.hid (pa_good (prs_jn l hl3))
  have CT := Lib.hid (fun u (q : Below w.heap.size w u) => text_any _ l u _ _ _ rfl (hR.below q) hcap hl3)
  have CR := Lib.hid (fun u (q : Below w.heap.size w u) => refText_any _ l u (hR.below q) hl3)
  have CP := Lib.hid (fun u => parse_any (jn (wdL l)) (by omega) u)
  have CW := Lib.hid (fun x u => pnWord_any x u)
  have CX := Lib.hid (fun x u => refPnWord_any x u)
  have CO := Lib.hid (fun x u => by have := one_any (pnW x) u; rw [show onP (pnW x) = x from by rw [onP, one_word]; rfl, show onB (pnW x) = true from by rw [onB, one_word]; rfl] at this; exact this)
  have CQ := Lib.hid (fun v u (h : eN.Rd u v l) (q : Below w.heap.size w u) => by have := pnEq_any v _ l l u h (hR.below q) (by omega); rw [eqB_self] at this; exact this)
  have CA := Lib.hid (fun u => alive31 u)
  generalize jn (wdL l) = T at CT CR CP PJ
  have PE := PJ.out.1
  have HPL := Lib.hid PJ.out.2
  clear hR hc hln hl3 HJs hcap hlm PJ
  go_enter Tryd.func3, Tryd.ntmps3
  go_wp2
  go_loopw [3] (fun i wr => ∃ k : Nat, k ≤ len0 ∧ i = .int .i64 k ∧ Hid (Below w.heap.size w wr)) (fun i _ => len0 - (intOf i).toNat)
  case atStart => exact ⟨0, Nat.zero_le _, rfl, Lib.hid (Below.refl _ _)⟩
  case round =>
    obtain ⟨k, hk, rfl, HB⟩ := hrel
    by_cases hlt : k < len0
    · obtain ⟨g, off, rfl, hg, hcell⟩ := HC.out (by rw [HLN.out]; omega)
      obtain ⟨x, hx⟩ : ∃ x, l[k]? = some x := ⟨_, List.getElem?_eq_getElem (by rw [HLN.out]; exact hlt)⟩
      have X6 := Lib.hid (fun u (q : Below w.heap.size w u) => pn6_at q hg (fun jj y hu => hcell k x hx jj y hu))
      obtain ⟨d0, d1, d2, d3, d4, d5⟩ := X6.out wr HB.out
      have k0 : (0 : Int) ≤ k := by omega
      have k1 : (k : Int) < len0 := by omega
      have CWs := Lib.hid (CW.out x)
      have CXs := Lib.hid (CX.out x)
      have COs := Lib.hid (CO.out x)
      have NE := neq_pns x
      clear hcell hg hx
      obtain ⟨S, hS⟩ : ∃ S, pnW x = S := ⟨_, rfl⟩
      rw [hS] at CWs CXs COs
      have e1 : (S.toList == S.toList) = true := by simp
      clear hS
      go_wp2_with fail
      refine (CWs.out _).mono ?_
      rintro e w1 ⟨rfl, hb1⟩
      have B1 := Lib.hid (Below.trans0 HB.out hb1)
      clear hb1
      go_wp2_with fail
      refine (COs.out _).mono ?_
      rintro e w2 ⟨rfl, hb2⟩
      obtain ⟨G, hG⟩ : ∃ G, w2.heap.size = G := ⟨_, rfl⟩
      obtain ⟨W, hW⟩ : ∃ W, w2.alloc (Obj.cells #[.bool x.p0, .bool x.p1, .bool x.p2, .bool x.p3, .bool x.p4, .bool x.p5] 24) = W := ⟨_, rfl⟩
      have PD : Hid (Blk W.drew G 24 #[.bool x.p0, .bool x.p1, .bool x.p2, .bool x.p3, .bool x.p4, .bool x.p5]) := Lib.hid (by rw [← hW, ← hG]; exact Blk.drew (Blk.new _ _ _ _))
      have BD : Hid (Below w.heap.size w W.drew) := Lib.hid (by rw [← hW]; exact Below.drew0 (Below.alloc0 (Below.trans0 B1.out hb2) _))
      have HS : Hid (∀ u : World, Blk u G 24 #[.bool x.p0, .bool x.p1, .bool x.p2, .bool x.p3, .bool x.p4, .bool x.p5] → Below w.heap.size w u → (fun w' : World => (w'.cell? ⟨g, off + k * 6, none⟩ = some (.bool x.p0) ∧ w'.cell? ⟨g, off + k * 6 + 1, none⟩ = some (.bool x.p1) ∧ w'.cell? ⟨g, off + k * 6 + 2, none⟩ = some (.bool x.p2) ∧ w'.cell? ⟨g, off + k * 6 + 3, none⟩ = some (.bool x.p3) ∧ w'.cell? ⟨g, off + k * 6 + 4, none⟩ = some (.bool x.p4) ∧ w'.cell? ⟨g, off + k * 6 + 5, none⟩ = some (.bool x.p5)) ∧ (w'.cell? ⟨G, 0, none⟩ = some (.bool x.p0) ∧ w'.cell? ⟨G, 1, none⟩ = some (.bool x.p1) ∧ w'.cell? ⟨G, 2, none⟩ = some (.bool x.p2) ∧ w'.cell? ⟨G, 3, none⟩ = some (.bool x.p3) ∧ w'.cell? ⟨G, 4, none⟩ = some (.bool x.p4) ∧ w'.cell? ⟨G, 5, none⟩ = some (.bool x.p5))) u) := Lib.hid (fun u p q => ⟨X6.out u q, p.c6⟩)
      have SW := Lib.hid (HS.out _ PD.out BD.out)
      clear hb2 d0 d1 d2 d3 d4 d5
      go_upto_region 7 with (fail)
      clear hG hW
      refine wp_region_noPanic ?_
      refine wp_region_held_drew (S := (fun w' : World => (w'.cell? ⟨g, off + k * 6, none⟩ = some (.bool x.p0) ∧ w'.cell? ⟨g, off + k * 6 + 1, none⟩ = some (.bool x.p1) ∧ w'.cell? ⟨g, off + k * 6 + 2, none⟩ = some (.bool x.p2) ∧ w'.cell? ⟨g, off + k * 6 + 3, none⟩ = some (.bool x.p3) ∧ w'.cell? ⟨g, off + k * 6 + 4, none⟩ = some (.bool x.p4) ∧ w'.cell? ⟨g, off + k * 6 + 5, none⟩ = some (.bool x.p5)) ∧ (w'.cell? ⟨G, 0, none⟩ = some (.bool x.p0) ∧ w'.cell? ⟨G, 1, none⟩ = some (.bool x.p1) ∧ w'.cell? ⟨G, 2, none⟩ = some (.bool x.p2) ∧ w'.cell? ⟨G, 3, none⟩ = some (.bool x.p3) ∧ w'.cell? ⟨G, 4, none⟩ = some (.bool x.p4) ∧ w'.cell? ⟨G, 5, none⟩ = some (.bool x.p5)))) (by kernel_rfl) ?_ (fun hH0 => ?_)
      · (try dsimp only); with_reducible exact SW.out
      refine wpAnyH_take (i := 0) (oi := ({ dst := some 27, op := Op.move (Operand.tmp 0), type := 22, pos := "law.go:25", after := #[], guard := none } : Oper)) (v := ?_) rfl (by kernel_rfl) (by kernel_rfl) (by kernel_rfl) (fun _ _ _ h => h) (Or.inl ⟨by rfl, ?_⟩) (by assumption) ?_
      rotate_left 1
      · (intro w hSw; (try dsimp only at hSw); go_simp; (try with_reducible rfl))
      (try simp only [Act.put, List.setIfInBounds_toArray, List.set_cons_zero, List.set_cons_succ])
      refine wpAnyH_take (i := 1) (oi := ({ dst := some 28, op := Op.move (Operand.tmp 3), type := 3, pos := "law.go:25", after := #[], guard := none } : Oper)) (v := ?_) rfl (by kernel_rfl) (by kernel_rfl) (by kernel_rfl) (fun _ _ _ h => h) (Or.inl ⟨by rfl, ?_⟩) (by assumption) ?_
      rotate_left 1
      · (intro w hSw; (try dsimp only at hSw); go_simp; (try with_reducible rfl))
      (try simp only [Act.put, List.setIfInBounds_toArray, List.set_cons_zero, List.set_cons_succ])
      refine wpAnyH_take (i := 2) (oi := ({ dst := some 29, op := Op.indexAddr 22 (Operand.tmp 27) (Operand.tmp 28), type := 0, pos := "law.go:25", after := #[{ on := 0, ground := Ground.data }, { on := 1, ground := Ground.data }], guard := none } : Oper)) (v := ?_) rfl (by kernel_rfl) (by kernel_rfl) (by kernel_rfl) (fun _ _ _ h => h) (Or.inl ⟨by rfl, ?_⟩) (by assumption) ?_
      rotate_left 1
      · (intro w hSw; (try dsimp only at hSw); go_simp; (try with_reducible rfl))
      (try simp only [Act.put, List.setIfInBounds_toArray, List.set_cons_zero, List.set_cons_succ])
      refine wpAnyH_take (i := 3) (oi := ({ dst := some 30, op := Op.load 24 (Operand.tmp 29), type := 24, pos := "law.go:25", after := #[{ on := 2, ground := Ground.data }], guard := none } : Oper)) (v := ?_) rfl (by kernel_rfl) (by kernel_rfl) (by kernel_rfl) (fun _ _ _ h => h) (Or.inl ⟨by rfl, ?_⟩) (by assumption) ?_
      rotate_left 1
      · (intro w hSw; (try dsimp only at hSw); go_simp; (try with_reducible rfl))
      (try simp only [Act.put, List.setIfInBounds_toArray, List.set_cons_zero, List.set_cons_succ])
      refine wpAnyH_take (i := 5) (oi := ({ dst := some 32, op := Op.move (Operand.tmp 0), type := 22, pos := "law.go:25", after := #[], guard := none } : Oper)) (v := ?_) rfl (by kernel_rfl) (by kernel_rfl) (by kernel_rfl) (fun _ _ _ h => h) (Or.inl ⟨by rfl, ?_⟩) (by assumption) ?_
      rotate_left 1
      · (intro w hSw; (try dsimp only at hSw); go_simp; (try with_reducible rfl))
      (try simp only [Act.put, List.setIfInBounds_toArray, List.set_cons_zero, List.set_cons_succ])
      refine wpAnyH_take (i := 6) (oi := ({ dst := some 33, op := Op.move (Operand.tmp 3), type := 3, pos := "law.go:25", after := #[], guard := none } : Oper)) (v := ?_) rfl (by kernel_rfl) (by kernel_rfl) (by kernel_rfl) (fun _ _ _ h => h) (Or.inl ⟨by rfl, ?_⟩) (by assumption) ?_
      rotate_left 1
      · (intro w hSw; (try dsimp only at hSw); go_simp; (try with_reducible rfl))
      (try simp only [Act.put, List.setIfInBounds_toArray, List.set_cons_zero, List.set_cons_succ])
      refine wpAnyH_take (i := 7) (oi := ({ dst := some 34, op := Op.indexAddr 22 (Operand.tmp 32) (Operand.tmp 33), type := 0, pos := "law.go:25", after := #[{ on := 5, ground := Ground.data }, { on := 6, ground := Ground.data }], guard := none } : Oper)) (v := ?_) rfl (by kernel_rfl) (by kernel_rfl) (by kernel_rfl) (fun _ _ _ h => h) (Or.inl ⟨by rfl, ?_⟩) (by assumption) ?_
      rotate_left 1
      · (intro w hSw; (try dsimp only at hSw); go_simp; (try with_reducible rfl))
      (try simp only [Act.put, List.setIfInBounds_toArray, List.set_cons_zero, List.set_cons_succ])
      refine wpAnyH_take (i := 8) (oi := ({ dst := some 35, op := Op.load 24 (Operand.tmp 34), type := 24, pos := "law.go:25", after := #[{ on := 7, ground := Ground.data }], guard := none } : Oper)) (v := ?_) rfl (by kernel_rfl) (by kernel_rfl) (by kernel_rfl) (fun _ _ _ h => h) (Or.inl ⟨by rfl, ?_⟩) (by assumption) ?_
      rotate_left 1
      · (intro w hSw; (try dsimp only at hSw); go_simp; (try with_reducible rfl))
      (try simp only [Act.put, List.setIfInBounds_toArray, List.set_cons_zero, List.set_cons_succ])
      refine wpAnyH_ready (rs := [4]) (by kernel_rfl) (by simp) ?_
      refine AllReadyH.cons (o := ({ dst := some 31, op := Op.call { callee := Callee.value (Operand.func 6), args := #[Operand.tmp 30], argTypes := #[24] }, type := 9, pos := "law.go:25", after := #[{ on := 3, ground := Ground.data }], guard := none } : Oper)) rfl (fun K hK => ?_) ?_
      rotate_left 1
      · exact AllReadyH.nil
      go_simp
      go_at_call 6
      ((with_reducible refine (CWs.out _).mono ?_); rintro e w8 ⟨rfl, hb8⟩; have P8 := Lib.hid (Blk.below PD.out hb8 PD.out.lt); have B8 := Lib.hid (Below.trans0 BD.out hb8); have S8 := Lib.hid (HS.out _ P8.out B8.out); clear hb8)
      first | (refine hK.out _ _ ?_ (fun hH1 => ?_)) | (go_wp2_with fail; refine hK.out _ _ ?_ (fun hH1 => ?_))
      · (try dsimp only); with_reducible exact S8.out
      clear hK K hH0
      (try simp only [Act.put, List.setIfInBounds_toArray, List.set_cons_zero, List.set_cons_succ])
      refine wpAnyH_ready (rs := [9]) (by kernel_rfl) (by simp) ?_
      refine AllReadyH.cons (o := ({ dst := some 36, op := Op.call { callee := Callee.value (Operand.func 7), args := #[Operand.tmp 35], argTypes := #[24] }, type := 9, pos := "law.go:25", after := #[{ on := 8, ground := Ground.data }, { on := 4, ground := Ground.chain }], guard := none } : Oper)) rfl (fun K hK => ?_) ?_
      rotate_left 1
      · exact AllReadyH.nil
      go_simp
      go_at_call 7
      ((with_reducible refine (CXs.out _).mono ?_); rintro e w9 ⟨rfl, hb9⟩; have P9 := Lib.hid (Blk.below P8.out hb9 P8.out.lt); have B9 := Lib.hid (Below.trans0 B8.out hb9); have S9 := Lib.hid (HS.out _ P9.out B9.out); clear hb9)
      first | (refine hK.out _ _ ?_ (fun hH2 => ?_)) | (go_wp2_with fail; refine hK.out _ _ ?_ (fun hH2 => ?_))
      · (try dsimp only); with_reducible exact S9.out
      clear hK K hH1
      (try simp only [Act.put, List.setIfInBounds_toArray, List.set_cons_zero, List.set_cons_succ])
      refine wpAnyH_take (i := 10) (oi := ({ dst := some 37, op := Op.binOp BinOp.neq 9 (Operand.tmp 31) (Operand.tmp 36) 9, type := 4, pos := "law.go:25", after := #[{ on := 4, ground := Ground.data }, { on := 9, ground := Ground.data }], guard := none } : Oper)) (v := ?_) rfl (by kernel_rfl) (by kernel_rfl) (by kernel_rfl) (fun _ _ _ h => h) (Or.inl ⟨by rfl, ?_⟩) (by assumption) ?_
      rotate_left 1
      · (intro w hSw; (try dsimp only at hSw); go_simp; (try with_reducible rfl))
      (try simp only [Act.put, List.setIfInBounds_toArray, List.set_cons_zero, List.set_cons_succ])
      refine wpAnyH_take (i := 11) (oi := ({ dst := some 38, op := Op.move (Operand.tmp 37), type := 4, pos := "law.go:25", after := #[{ on := 10, ground := Ground.data }, { on := 9, ground := Ground.chain }], guard := none } : Oper)) (v := ?_) rfl (by kernel_rfl) (by kernel_rfl) (by kernel_rfl) (fun _ _ _ h => h) (Or.inl ⟨by rfl, ?_⟩) (by assumption) ?_
      rotate_left 1
      · (intro w hSw; (try dsimp only at hSw); go_simp; (try with_reducible rfl))
      (try simp only [Act.put, List.setIfInBounds_toArray, List.set_cons_zero, List.set_cons_succ])
      refine wpAnyH_take (i := 12) (oi := ({ dst := some 39, op := Op.load 24 (Operand.tmp 4), type := 24, pos := "law.go:25", after := #[{ on := 11, ground := Ground.guard }], guard := some (11, false) } : Oper)) (v := ?_) rfl (by kernel_rfl) (by kernel_rfl) (by kernel_rfl) (fun _ _ _ h => h) (Or.inl ⟨by rfl, ?_⟩) (by assumption) ?_
      rotate_left 1
      · (intro w hSw; (try dsimp only at hSw); go_simp; (try with_reducible rfl))
      (try simp only [Act.put, List.setIfInBounds_toArray, List.set_cons_zero, List.set_cons_succ])
      refine wpAnyH_take (i := 13) (oi := ({ dst := some 40, op := Op.move (Operand.tmp 0), type := 22, pos := "law.go:25", after := #[{ on := 11, ground := Ground.guard }], guard := some (11, false) } : Oper)) (v := ?_) rfl (by kernel_rfl) (by kernel_rfl) (by kernel_rfl) (fun _ _ _ h => h) (Or.inl ⟨by rfl, ?_⟩) (by assumption) ?_
      rotate_left 1
      · (intro w hSw; (try dsimp only at hSw); go_simp; (try with_reducible rfl))
      (try simp only [Act.put, List.setIfInBounds_toArray, List.set_cons_zero, List.set_cons_succ])
      refine wpAnyH_take (i := 14) (oi := ({ dst := some 41, op := Op.move (Operand.tmp 3), type := 3, pos := "law.go:25", after := #[{ on := 11, ground := Ground.guard }], guard := some (11, false) } : Oper)) (v := ?_) rfl (by kernel_rfl) (by kernel_rfl) (by kernel_rfl) (fun _ _ _ h => h) (Or.inl ⟨by rfl, ?_⟩) (by assumption) ?_
      rotate_left 1
      · (intro w hSw; (try dsimp only at hSw); go_simp; (try with_reducible rfl))
      (try simp only [Act.put, List.setIfInBounds_toArray, List.set_cons_zero, List.set_cons_succ])
      refine wpAnyH_take (i := 15) (oi := ({ dst := some 42, op := Op.indexAddr 22 (Operand.tmp 40) (Operand.tmp 41), type := 0, pos := "law.go:25", after := #[{ on := 13, ground := Ground.data }, { on := 14, ground := Ground.data }, { on := 11, ground := Ground.guard }], guard := some (11, false) } : Oper)) (v := ?_) rfl (by kernel_rfl) (by kernel_rfl) (by kernel_rfl) (fun _ _ _ h => h) (Or.inl ⟨by rfl, ?_⟩) (by assumption) ?_
      rotate_left 1
      · (intro w hSw; (try dsimp only at hSw); go_simp; (try with_reducible rfl))
      (try simp only [Act.put, List.setIfInBounds_toArray, List.set_cons_zero, List.set_cons_succ])
      refine wpAnyH_take (i := 16) (oi := ({ dst := some 43, op := Op.load 24 (Operand.tmp 42), type := 24, pos := "law.go:25", after := #[{ on := 15, ground := Ground.data }, { on := 11, ground := Ground.guard }], guard := some (11, false) } : Oper)) (v := ?_) rfl (by kernel_rfl) (by kernel_rfl) (by kernel_rfl) (fun _ _ _ h => h) (Or.inl ⟨by rfl, ?_⟩) (by assumption) ?_
      rotate_left 1
      · (intro w hSw; (try dsimp only at hSw); go_simp; (try with_reducible rfl))
      (try simp only [Act.put, List.setIfInBounds_toArray, List.set_cons_zero, List.set_cons_succ])
      refine wpAnyH_take (i := 17) (oi := ({ dst := some 44, op := Op.binOp BinOp.neq 24 (Operand.tmp 39) (Operand.tmp 43) 24, type := 4, pos := "law.go:25", after := #[{ on := 12, ground := Ground.data }, { on := 16, ground := Ground.data }, { on := 11, ground := Ground.guard }], guard := some (11, false) } : Oper)) (v := ?_) rfl (by kernel_rfl) (by kernel_rfl) (by kernel_rfl) (fun _ _ _ h => h) (Or.inl ⟨by rfl, ?_⟩) (by assumption) ?_
      rotate_left 1
      · (intro w hSw; (try dsimp only at hSw); go_simp; (try with_reducible rfl))
      (try simp only [Act.put, List.setIfInBounds_toArray, List.set_cons_zero, List.set_cons_succ])
      refine wpAnyH_take (i := 18) (oi := ({ dst := some 45, op := Op.pick (Operand.tmp 38) (Operand.const (Value.bool true)) (Operand.tmp 44), type := 4, pos := "law.go:25", after := #[{ on := 11, ground := Ground.data }, { on := 17, ground := Ground.data }], guard := none } : Oper)) (v := ?_) rfl (by kernel_rfl) (by kernel_rfl) (by kernel_rfl) (fun _ _ _ h => h) (Or.inl ⟨by rfl, ?_⟩) (by assumption) ?_
      rotate_left 1
      · (intro w hSw; (try dsimp only at hSw); go_simp; (try with_reducible rfl))
      (try simp only [Act.put, List.setIfInBounds_toArray, List.set_cons_zero, List.set_cons_succ])
      refine wpAnyH_take (i := 19) (oi := ({ dst := some 46, op := Op.move (Operand.tmp 45), type := 4, pos := "law.go:25", after := #[{ on := 18, ground := Ground.data }, { on := 11, ground := Ground.chain }], guard := none } : Oper)) (v := ?_) rfl (by kernel_rfl) (by kernel_rfl) (by kernel_rfl) (fun _ _ _ h => h) (Or.inl ⟨by rfl, ?_⟩) (by assumption) ?_
      rotate_left 1
      · (intro w hSw; (try dsimp only at hSw); go_simp; (try with_reducible rfl))
      (try simp only [Act.put, List.setIfInBounds_toArray, List.set_cons_zero, List.set_cons_succ])
      refine wpAnyH_take (i := 20) (oi := ({ dst := some 47, op := Op.move (Operand.tmp 5), type := 4, pos := "law.go:25", after := #[{ on := 19, ground := Ground.guard }], guard := some (19, false) } : Oper)) (v := ?_) rfl (by kernel_rfl) (by kernel_rfl) (by kernel_rfl) (fun _ _ _ h => h) (Or.inl ⟨by rfl, ?_⟩) (by assumption) ?_
      rotate_left 1
      · (intro w hSw; (try dsimp only at hSw); go_simp; (try with_reducible rfl))
      (try simp only [Act.put, List.setIfInBounds_toArray, List.set_cons_zero, List.set_cons_succ])
      refine wpAnyH_take (i := 21) (oi := ({ dst := some 48, op := Op.unOp UnOp.not 4 (Operand.tmp 47), type := 4, pos := "law.go:25", after := #[{ on := 20, ground := Ground.data }, { on := 19, ground := Ground.guard }], guard := some (19, false) } : Oper)) (v := ?_) rfl (by kernel_rfl) (by kernel_rfl) (by kernel_rfl) (fun _ _ _ h => h) (Or.inl ⟨by rfl, ?_⟩) (by assumption) ?_
      rotate_left 1
      · (intro w hSw; (try dsimp only at hSw); go_simp; (try with_reducible rfl))
      (try simp only [Act.put, List.setIfInBounds_toArray, List.set_cons_zero, List.set_cons_succ])
      refine wpAnyH_take (i := 22) (oi := ({ dst := some 49, op := Op.pick (Operand.tmp 46) (Operand.const (Value.bool true)) (Operand.tmp 48), type := 4, pos := "law.go:25", after := #[{ on := 19, ground := Ground.data }, { on := 21, ground := Ground.data }], guard := none } : Oper)) (v := ?_) rfl (by kernel_rfl) (by kernel_rfl) (by kernel_rfl) (fun _ _ _ h => h) (Or.inl ⟨by rfl, ?_⟩) (by assumption) ?_
      rotate_left 1
      · (intro w hSw; (try dsimp only at hSw); go_simp; (try with_reducible rfl))
      (try simp only [Act.put, List.setIfInBounds_toArray, List.set_cons_zero, List.set_cons_succ])
      refine wpAnyH_done (by kernel_rfl) ?_ _
      refine NoPanic.normal ?_
      all_goals
        go_wp2
        go_roundw
        case rel => exact ⟨k + 1, by omega, by go_num, B9⟩
        case measure => simp [intOf]; omega
    · have k1 : ¬ (k : Int) < len0 := by omega
      have e1 : (T.toList == T.toList) = true := by simp
      clear hlt hk
      go_wp2_with fail
      refine (CT.out _ HB.out).mono ?_
      rintro e w1 ⟨rfl, hb1⟩
      have B1 := Lib.hid (Below.trans0 HB.out hb1)
      clear hb1
      go_wp2_with fail
      refine (CP.out _).mono ?_
      rintro e w2 ⟨v2, rfl, hr2, hb2⟩
      rw [HPL.out] at hr2
      have R2 := Lib.hid hr2
      have B2 := Lib.hid (Below.trans0 B1.out hb2)
      clear hb2 hr2
      go_wp2_with fail
      refine (CR.out _ B2.out).mono ?_
      rintro e w3 ⟨rfl, hb3⟩
      have R3 := Lib.hid (Els.Rd.below R2.out hb3)
      have B3 := Lib.hid (Below.trans0 B2.out hb3)
      clear hb3
      go_wp2_with fail
      refine (CQ.out _ _ R3.out B3.out).mono ?_
      rintro e w4 ⟨rfl, hk4⟩
      have B4 : Hid (Below w.heap.size w w4) := Lib.hid (by obtain ⟨q, hq⟩ := hk4; rw [hq]; exact Below.drewN0 B3.out q)
      clear hk4
      go_wp2_with fail
      refine (CA.out _).mono ?_
      rintro e w6 ⟨rfl, hb6⟩
      have B6 := Lib.hid (Below.trans0 B4.out hb6)
      clear hb6
      go_wp2
      go_ret
      exact ⟨rfl, B6.out⟩

set_option maxRecDepth 100000 in
theorem lifted (os : Os) (started : os.Started) (H : Type) (enc : TypeId × Value → H) :
    ReturnsInHanded {} Tryd.checked os 3 .any (fun w args => (Rows.pinsTextsSpec.pre enc Tryd.prog Tryd.f3 Rows.pinsTextsRow.domain false w args ∧ laidMetH Tryd.prog Rows.pinsTextsRow.laid w) ∧ sizedMet enc Tryd.prog Tryd.f3 (OpenSpec.ofChange Rows.pinsTextsSpec) false w args) (Rows.pinsTextsSpec.post enc Tryd.prog Tryd.f3 false true false false) := by
  refine returnsInHanded_of_change_and (C := Tryd.checked) (X := fun w _ => laidMetH Tryd.prog Rows.pinsTextsRow.laid w) (fun _ _ _ hh h => h.of_heap hh) own started (by kernel_rfl) Tryd.func3
    (ChangeSpec.witness_shaped (enc := enc) (C := Tryd.checked) (os := os) (X := fun w _ => laidMetH Tryd.prog Rows.pinsTextsRow.laid w) false (World.laidAll Tryd.prog os Rows.pinsTextsRow.laid) #[.slice none 0 0] 8 (World.laidAll_os _ _ _) (World.shaped_of_ZipB (by kernel_rfl) (by kernel_rfl)) (by kernel_rfl) (by kernel_rfl) (by kernel_rfl) (by rw [MakeChecks.laidMetH_plain _ _ _ (by kernel_rfl)]; exact laidMet_laidAll _ (by kernel_rfl) (by kernel_rfl))) ?_
  intro W base args ds gs before hval0 hW _ hZ hL _
  have hval : ∀ (j : Nat) t v, Tryd.f3.params[j]? = some t → args[j]? = some v → Value.okWide Tryd.prog W .any base t v := hval0
  have hW' := hW
  obtain ⟨p, q, hA0, hV, rfl, hfz, hnd⟩ := hW
  have hA : DataW.TrodAll enc Tryd.prog W 0 (fun _ => true) true Tryd.f3.params.toList args.toList ds p := hA0
  rw [Tryd.params3] at hA hval
  obtain ⟨v0, vs0, d0, ds0, p0, q0, hargs, rfl, rfl, h0, r0⟩ := trodAll_cons hA
  obtain ⟨rfl, rfl, rfl⟩ := trodAll_nil r0
  obtain rfl : args = #[v0] := by cases args; simp_all
  obtain ⟨rfl, rfl⟩ := trodVars_none hV
  obtain ⟨a0, len0, cap0, rfl⟩ := okWide_slice Tryd.underlying22 (hval 0 22 v0 rfl rfl)
  have k0 := h0
  have lt0 : ∀ x ∈ p0, x.block < W.heap.size := by obtain ⟨m, hm⟩ := k0; exact DataW.trod_lt m _ _ _ hm
  obtain ⟨z0, w0⟩ : ∃ zs, NIn W a0 len0 cap0 zs := by
    obtain ⟨fuel, hf⟩ := h0
    exact open_pinsC hf
  clear hA0 hval0
  refine (walk a0 len0 cap0 z0 W w0 hL).mono fun e W' ⟨he, bel⟩ => ?_
  subst he
  exact ⟨_, rfl, _, _, _, [], _, [], hW', trodAll_mk1 (shut_bool Tryd.underlying4 _), (trodAll_cons_mk (Below.trod laidOut (by kernel_rfl) (of_decide_eq_true (by kernel_rfl)) k0 bel lt0) trodAll_mk0), rfl, bel.frame _, fun h => by cases h⟩

theorem over : Rows.pinsTextsRow.holds Tryd.pinned (OpenSpec.ofChange Rows.pinsTextsSpec) :=
  OpenClaim.holds_of_wide 3 Tryd.f3 rfl rfl rfl rfl rfl rfl rfl ⟨rfl, rfl, rfl, rfl, rfl⟩ rfl rfl rfl rfl rfl (by kernel_rfl) Tryd.func3 (by kernel_rfl)
    (of_decide_eq_true (by kernel_rfl)) (by unfold Func.isWrapper; first | (rw [if_pos (by decide +kernel)]; kernel_rfl) | (rw [if_neg (by decide +kernel)]; exact ⟨rfl, rfl⟩))
    (fun os started H enc _ => lifted os started H enc)

theorem proved : Rows.PinsTextsCardSaid :=
  Claim7.holds_tied_plain_at .later [] [.data, .pinned] true (true, "64489b982535b69c804dc4870efc822d12acbc7a04bc5304b151d8f0995898b6") false
    over (fun _ h => by cases h) (by kernel_rfl) (fun _ h => by cases h) pinsTexts_row_tie rfl ⟨rfl, rfl⟩ (by kernel_rfl) rfl
    (fun f fn hf hfn => by
      obtain rfl : f = 3 := Option.some.inj ((show Tryd.prog.funcNamed "spinet/spinetlaw31.PinsTexts" = some 3 by kernel_rfl).symm.trans hf) |>.symm
      obtain rfl : fn = Tryd.f3 := (Option.some.inj (Tryd.func3.symm.trans hfn)).symm
      exact ⟨by kernel_rfl, fun j t ht => by
        rw [Tryd.params3] at ht
        have hm : t ∈ [22] := by have := Array.mem_of_getElem? ht; simp at this ⊢; omega
        have hall : ([22].all fun u => !Tryd.prog.wantsStandIn u) = true := by kernel_rfl
        exact (show Tryd.prog.wantsStandIn t = false by simpa using List.all_eq_true.1 hall t hm)⟩)
    (by kernel_rfl)
#print axioms proved
end Go.Proofs.YtnmgjgeniaheoaaDoor.pinsTexts
