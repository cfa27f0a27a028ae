/- Contract of the document's answer for layer 36 (a row of sixteen bools). -/
import Derived.Test.YtnhafficnomlbaaCrc
import Derived.Test.YtnhafficnomlbaaStc
import Derived.Deep.QuietTactic
import Derived.BigQuiet
import Derived.Deep.RegionHeld3
import Derived.IntWalk
namespace Go.Proofs.Ytnhafficnomlbaa
open Go.ChangeShapes Go.WideShapes Go.ChangeAt Go.RowKit
set_option linter.unusedVariables false
def initN (s k : Nat) : List Bool := (List.range 16).map fun i => if i < k then s.testBit (15 - i) else false
def csB (l : List Bool) : Array Value := (l.map Value.bool).toArray
theorem initN_len (s k : Nat) : (initN s k).length = 16 := by simp [initN]
theorem csB_at (l : List Bool) (i : Nat) (b : Bool) (h : l[i]? = some b) : (csB l)[i]? = some (Value.bool b) := by
  unfold csB
  rw [List.getElem?_toArray, List.getElem?_map, h]; rfl
theorem csB_set (l : List Bool) (i : Nat) (b : Bool) : (csB l).setIfInBounds i (Value.bool b) = csB (l.set i b) := by
  unfold csB
  rw [List.setIfInBounds_toArray, List.map_set]
theorem initN_set (s k : Nat) (hk : k < 16) : (initN s k).set k (s.testBit (15 - k)) = initN s (k + 1) := by
  apply List.ext_getElem?
  intro i
  unfold initN
  rw [List.getElem?_set]
  by_cases h : i < 16
  · by_cases hij : k = i
    · subst hij; rw [if_pos rfl, if_pos (by simp; omega)]; simp [h]
    · rw [if_neg hij]
      simp [h]
      by_cases h3 : i < k
      · simp [h3, show i < k + 1 by omega]
      · simp [h3, show ¬ i < k + 1 by omega]
  · rw [if_neg (by omega)]; simp [h]
theorem initN_all (s : Nat) : initN s 16 = bitsN s := by
  unfold initN bitsN
  apply List.map_congr_left
  intro i hi
  rw [if_pos (List.mem_range.1 hi)]
abbrev plB : List Bool := [false, false, false, true, false, false, false, false, false, false, true, false, false, false, false, true]
theorem plB_at (j : Nat) (h : j < 16) : plB[j]? = some (polyB j) := by
  have : ∀ j : Fin 16, plB[j.val]? = some (polyB j.val) := by decide
  exact this ⟨j, h⟩
theorem shr_bit (s e : Nat) : (((s : Int) / 2 ^ e).tmod 2 == 1) = s.testBit e := by
  have h : (s : Int) / 2 ^ e = ((s / 2 ^ e : Nat) : Int) := by rw [Int.natCast_ediv, Int.natCast_pow]; rfl
  rw [h, Nat.testBit_eq_decide_div_mod_eq]
  generalize s / 2 ^ e = q
  rw [Int.tmod_eq_emod_of_nonneg (by omega), Bool.eq_iff_iff, beq_iff_eq, decide_eq_true_eq]
  omega
set_option maxRecDepth 100000 in
set_option maxHeartbeats 1000000 in
theorem refOn_any (s0 : Nat) (h0 : s0 < 65536) (v : Value) (zs : List Int) (w : World) (h : eY.Rd w v zs) (hz : Byt zs) (hn : zs.length ≤ 1099511627776) :
    Calls Try.prog 10 #[.int .u16 (s0 : Int), v] w fun e w' => e = .returned (.int .u16 ((onN s0 zs : Nat) : Int)) ∧ Below w.heap.size w w' := by
  obtain ⟨A, c, rfl, hcl⟩ := rdY_open h
  have HC := Lib.hid hcl
  have HZ := Lib.hid hz
  obtain ⟨n, hl⟩ : ∃ n, zs.length = n := ⟨_, rfl⟩
  have HL := Lib.hid hl
  rw [hl] at HC hn ⊢
  have P0 : Hid (Blk (w.alloc (Obj.cells (csB (initN s0 0)) 60)) w.heap.size 60 (csB (initN s0 0))) := Lib.hid (Blk.new _ _ _ (0, 0))
  have B0 := Lib.hid (Below.alloc0 (Below.refl w.heap.size w) (Obj.cells (csB (initN s0 0)) 60))
  clear hcl hl h
  go_enter Try.func10, Try.ntmps10
  go_wp2
  go_loopw [6] (fun i wr => ∃ k : Nat, k ≤ 16 ∧ i = .int .i64 k ∧ Hid (Blk wr w.heap.size 60 (csB (initN s0 k))) ∧ Hid (Below w.heap.size w wr)) (fun i _ => 16 - (intOf i).toNat)
  case atStart => exact ⟨0, by omega, rfl, P0, B0⟩
  case round =>
    obtain ⟨k, hk, rfl, hP, hB⟩ := hrel
    by_cases hlt : k < 16
    · have hk0 : (0 : Int) ≤ k := by omega
      have hk1 : (k : Int) < 16 := by omega
      have cf := hP.out.frozen k
      have cu := hP.out.cell k
      obtain ⟨u, hu⟩ : ∃ u, (csB (initN s0 k))[k]? = some u := ⟨_, Array.getElem?_eq_getElem (by simp [csB, initN]; omega)⟩
      rw [hu] at cu
      have HS := Lib.hid (shr_bit s0 (15 - k))
      clear hu
      go_wp2
      go_roundw
      case rel => exact ⟨k + 1, by omega, by go_num, Lib.hid (by rw [HS.out, ← initN_set s0 k hlt, ← csB_set]; exact Blk.set_ hP.out k _), Lib.hid (Below.set0 hB.out (Nat.le_refl _) _)⟩
      case measure => simp [intOf] <;> omega
    · obtain rfl : k = 16 := by omega
      rw [initN_all] at hP
      have LT := Lib.hid hP.out.lt
      clear P0 B0
      have Q0 : Hid (Blk (wr.alloc (Obj.cells (csB plB) 60)) wr.heap.size 60 (csB plB)) := Lib.hid (Blk.new _ _ _ (0, 0))
      have P1 := Lib.hid (Blk.alloc hP.out (Obj.cells (csB plB) 60))
      have B1 := Lib.hid (Below.alloc0 hB.out (Obj.cells (csB plB) 60))
      obtain ⟨G, hG⟩ : ∃ G, w.heap.size = G := ⟨_, rfl⟩
      obtain ⟨H, hH⟩ : ∃ H, wr.heap.size = H := ⟨_, rfl⟩
      rw [hG] at P1 LT
      rw [hH] at Q0 LT
      have HG := Lib.hid hG
      have HH := Lib.hid hH
      clear hG hH hP hB
      go_wp2
      rw [HG.out, HH.out, show Value.int IntKind.i64 ((16 : Nat) : Int) = Value.int IntKind.i64 16 from rfl]
      clear HH
      generalize hW : wr.alloc _ = W
      have P2 : Hid (Blk W G 60 (csB (bitsN s0))) := by rw [← hW]; exact P1
      have Q2 : Hid (Blk W H 60 (csB plB)) := by rw [← hW]; exact Q0
      have B2 : Hid (Below w.heap.size w W) := by rw [← hW]; exact B1
      clear hW P1 Q0 B1
      go_loopw [8] (fun i wr => ∃ k : Nat, k ≤ n ∧ i = .int .i64 k ∧ Hid (Blk wr G 60 (csB (bitsN (onN s0 (zs.take k))))) ∧ Hid (Blk wr H 60 (csB plB)) ∧ Hid (Below w.heap.size w wr)) (fun i _ => n - (intOf i).toNat)
      case atStart => exact ⟨0, Nat.zero_le _, rfl, P2, Q2, B2⟩
      case round =>
        obtain ⟨k, hk, rfl, hP, hQ, hB⟩ := hrel
        by_cases hlt : k < n
        · obtain ⟨b, off, rfl, hb, hcell⟩ := HC.out (by omega)
          have hnx := Lib.hid (foldl_take (fun s z => crcByte s z.toNat) zs s0 k (by rw [HL.out]; exact hlt))
          have hcl : onN s0 (zs.take k) < 65536 := onN_lt _ _ h0 (fun z hz => HZ.out z (List.mem_of_mem_take hz))
          obtain ⟨C, hC⟩ : ∃ C, onN s0 (zs.take k) = C := ⟨_, rfl⟩
          rw [hC] at hcl hP
          obtain ⟨r0, r1⟩ := HZ.out.at_ k
          obtain ⟨x, hx⟩ := Int.eq_ofNat_of_zero_le r0
          have hx1 : x < 256 := by omega
          have hck := Lib.hid (hcell k hlt)
          rw [hx] at hck
          have HE : Hid (stTo C x 8 = onN s0 (zs.take (k + 1))) := Lib.hid (by
            unfold onN at hC ⊢
            rw [hnx.out, hC, hx]
            exact (byte_same C x hcl hx1).symm)
          have HB0 := Lib.hid hb
          obtain ⟨wo, rfl⟩ : ∃ wo : World, wo = wr := ⟨_, rfl⟩
          have hk0 : (0 : Int) ≤ k := by omega
          have hk1 : (k : Int) < n := by omega
          clear hcell hnx hC r0 r1 hx hb P2 Q2 B2
          go_wp2
          go_loopw [9] (fun i wr => ∃ (q : Nat) (y : Int), q ≤ 8 ∧ i = .int .i64 y ∧ Hid (y = 7 - (q : Int)) ∧ Hid (Blk wr G 60 (csB (bitsN (stTo C x q)))) ∧ Hid (Blk wr H 60 (csB plB)) ∧ Hid (Below w.heap.size w wr)) (fun i _ => (intOf i + 1).toNat)
          case atStart => exact ⟨0, _, Nat.zero_le _, rfl, Lib.hid rfl, hP, hQ, hB⟩
          case round =>
            obtain ⟨q, y, hq, rfl, hy, hP2, hQ2, hB2⟩ := hrel
            by_cases hq8 : q < 8
            · obtain ⟨m, hm⟩ : ∃ m, 7 - q = m := ⟨_, rfl⟩
              obtain rfl : y = (m : Int) := by have := hy.out; omega
              have hrl := stTo_lt C x hcl q
              obtain ⟨r, hr⟩ : ∃ r, stTo C x q = r := ⟨_, rfl⟩
              rw [hr] at hrl hP2
              obtain ⟨wp, rfl⟩ : ∃ wp : World, wp = wr := ⟨_, rfl⟩
              obtain ⟨t15, ht15⟩ : ∃ t15, r.testBit 15 = t15 := ⟨_, rfl⟩
              have c0 : wp.cell? ⟨G, 0, none⟩ = some (.bool t15) := by
                rw [hP2.out.cell, ← ht15]
                exact csB_at _ _ _ (by simp [bitsN])
              have c1 := (hB2.out.cell (p := ⟨b, off + k, none⟩) HB0.out).trans hck.out
              have HO : Hid ((!(t15 == (((x : Int) / 2 ^ m).tmod 2 == 1))) = outN r x q) := Lib.hid (by
                rw [shr_bit, ← ht15]; unfold outN; rw [hm]; rfl)
              have hm0 : (0 : Int) ≤ m := by omega
              have hm7 : (m : Int) < 8 := by omega
              have HM := Lib.hid hm
              have HR := Lib.hid hr
              have HT := Lib.hid ht15
              clear hm hr ht15
              go_wp2
              go_quiet (fail)
              go_wp2
              rw [HO.out]
              generalize hV : wp.drewN _ = V
              have P3 : Hid (Blk V G 60 (csB (midN r (outN r x q) 0))) := Lib.hid (by rw [midN_zero, ← hV]; exact Blk.drewN hP2.out _)
              have Q3 : Hid (Blk V H 60 (csB plB)) := Lib.hid (by rw [← hV]; exact Blk.drewN hQ2.out _)
              have B3 : Hid (Below w.heap.size w V) := Lib.hid (by rw [← hV]; exact Below.drewN0 hB2.out _)
              have HF := Lib.hid (show outN r x q = outN r x q from rfl)
              obtain ⟨F, hF⟩ : ∃ F, outN r x q = F := ⟨_, rfl⟩
              rw [hF] at P3 HO ⊢
              have HF := Lib.hid hF
              clear hV hP2 hQ2 hB2 c0 c1 hF
              go_loopw [11] (fun i wr => ∃ j : Nat, j ≤ 15 ∧ i = .int .i64 j ∧ Hid (Blk wr G 60 (csB (midN r F j))) ∧ Hid (Blk wr H 60 (csB plB)) ∧ Hid (Below w.heap.size w wr)) (fun i _ => 15 - (intOf i).toNat)
              case atStart => exact ⟨0, Nat.zero_le _, rfl, P3, Q3, B3⟩
              case round =>
                obtain ⟨j, hj, rfl, hP4, hQ4, hB4⟩ := hrel
                by_cases hj15 : j < 15
                · obtain ⟨t, ht⟩ : ∃ t, r.testBit (14 - j) = t := ⟨_, rfl⟩
                  obtain ⟨p, hp⟩ : ∃ p, polyB j = p := ⟨_, rfl⟩
                  have k1 : wr.cell? ⟨G, j + 1, none⟩ = some (.bool t) := by
                    rw [hP4.out.cell, ← ht]; exact csB_at _ _ _ (midN_at r F j hj15)
                  have k2 : wr.cell? ⟨H, j, none⟩ = some (.bool p) := by
                    rw [hQ4.out.cell, ← hp]; exact csB_at _ _ _ (plB_at j (by omega))
                  obtain ⟨u, hu⟩ : ∃ u, (csB (midN r F j))[j]? = some u := ⟨_, Array.getElem?_eq_getElem (by simp [csB, midN]; omega)⟩
                  have k3 : wr.cell? ⟨G, j, none⟩ = some u := by rw [hP4.out.cell, hu]
                  have kf := hP4.out.frozen j
                  have hj0 : (0 : Int) ≤ j := by omega
                  have hj1 : (j : Int) < 15 := by omega
                  have hj2 : (j : Int) + 1 < 16 := by omega
                  have hj3 : (j : Int) < 16 := by omega
                  have HS := Lib.hid (midN_set r F j hj15)
                  rw [ht, hp] at HS
                  have gt := LT.out
                  have hw1 : IntKind.i64.wrap ((j : Int) + 1) = (j : Int) + 1 := IntWalk.i64_in _ (by omega)
                  have hw2 : (0 : Int) ≤ (j : Int) + 1 := by omega
                  have hw3 : ((j : Int) + 1).toNat = j + 1 := by omega
                  clear ht hp hu
                  cases F
                  · skip
                    rw [show (t != (false && p)) = t by cases t <;> cases p <;> rfl] at HS
                    have S2 : Hid ((fun w' => w'.cell? ⟨G, j + 1, none⟩ = some (.bool t) ∧ w'.cell? ⟨H, j, none⟩ = some (.bool p)) (wr.setCell ⟨G, j, none⟩ (.bool (t))).drew) := Lib.hid ⟨by rw [← k1]; (apply World.cell?_setCell_other; intro h; injection h with h1 h2 h3; omega), by rw [← k2]; (apply World.cell?_setCell_other; intro h; injection h with h1 h2 h3; omega)⟩
                    have S1 : Hid ((fun w' => w'.cell? ⟨G, j + 1, none⟩ = some (.bool t) ∧ w'.cell? ⟨H, j, none⟩ = some (.bool p)) wr.drew) := Lib.hid ⟨k1, k2⟩
                    go_wp2
                    refine wp_region_noPanic ?_
                    refine wp_region_held_drew (S := (fun w' => w'.cell? ⟨G, j + 1, none⟩ = some (.bool t) ∧ w'.cell? ⟨H, j, none⟩ = some (.bool p))) (by kernel_rfl) ?_ (fun hH0 => ?_)
                    · (try dsimp only); with_reducible exact S1.out
                    refine wpAnyH_take (i := 0) (oi := ({ dst := some 52, op := Op.move (Operand.tmp 11), type := 3, pos := "ref.go:15", after := #[], guard := none } : Oper)) (v := ?_) rfl (by kernel_rfl) (by kernel_rfl) (by kernel_rfl) (fun _ _ _ h => h) (Or.inl ⟨by rfl, ?_⟩) (by assumption) ?_
                    rotate_left 1
                    · (intro w hSw; (try dsimp only at hSw); go_simp; (try with_reducible rfl))
                    (try simp only [Act.put, List.setIfInBounds_toArray, List.set_cons_zero, List.set_cons_succ])
                    refine wpAnyH_take (i := 1) (oi := ({ dst := some 53, op := Op.move (Operand.tmp 11), type := 3, pos := "ref.go:15", after := #[], guard := none } : Oper)) (v := ?_) rfl (by kernel_rfl) (by kernel_rfl) (by kernel_rfl) (fun _ _ _ h => h) (Or.inl ⟨by rfl, ?_⟩) (by assumption) ?_
                    rotate_left 1
                    · (intro w hSw; (try dsimp only at hSw); go_simp; (try with_reducible rfl))
                    (try simp only [Act.put, List.setIfInBounds_toArray, List.set_cons_zero, List.set_cons_succ])
                    refine wpAnyH_take (i := 2) (oi := ({ dst := some 54, op := Op.binOp BinOp.add 3 (Operand.tmp 53) (Operand.const (Value.int IntKind.i64 1)) 3, type := 3, pos := "ref.go:15", after := #[{ on := 1, ground := Ground.data }], guard := none } : Oper)) (v := ?_) rfl (by kernel_rfl) (by kernel_rfl) (by kernel_rfl) (fun _ _ _ h => h) (Or.inl ⟨by rfl, ?_⟩) (by assumption) ?_
                    rotate_left 1
                    · (intro w hSw; (try dsimp only at hSw); go_simp; (try with_reducible rfl))
                    (try simp only [Act.put, List.setIfInBounds_toArray, List.set_cons_zero, List.set_cons_succ])
                    refine wpAnyH_take (i := 3) (oi := ({ dst := some 55, op := Op.indexAddr 60 (Operand.tmp 5) (Operand.tmp 54), type := 0, pos := "ref.go:15", after := #[{ on := 2, ground := Ground.data }], guard := none } : Oper)) (v := ?_) rfl (by kernel_rfl) (by kernel_rfl) (by kernel_rfl) (fun _ _ _ h => h) (Or.inl ⟨by rfl, ?_⟩) (by assumption) ?_
                    rotate_left 1
                    · (intro w hSw; (try dsimp only at hSw); go_simp; (try with_reducible rfl))
                    (try simp only [Act.put, List.setIfInBounds_toArray, List.set_cons_zero, List.set_cons_succ])
                    refine wpAnyH_take (i := 4) (oi := ({ dst := some 56, op := Op.load 4 (Operand.tmp 55), type := 4, pos := "ref.go:15", after := #[{ on := 3, ground := Ground.data }], guard := none } : Oper)) (v := ?_) rfl (by kernel_rfl) (by kernel_rfl) (by kernel_rfl) (fun _ _ _ h => h) (Or.inl ⟨by rfl, ?_⟩) (by assumption) ?_
                    rotate_left 1
                    · (intro w hSw; (try dsimp only at hSw); go_simp; (try with_reducible rfl))
                    (try simp only [Act.put, List.setIfInBounds_toArray, List.set_cons_zero, List.set_cons_succ])
                    refine wpAnyH_take (i := 5) (oi := ({ dst := some 57, op := Op.move (Operand.tmp 10), type := 4, pos := "ref.go:15", after := #[], guard := none } : Oper)) (v := ?_) rfl (by kernel_rfl) (by kernel_rfl) (by kernel_rfl) (fun _ _ _ h => h) (Or.inl ⟨by rfl, ?_⟩) (by assumption) ?_
                    rotate_left 1
                    · (intro w hSw; (try dsimp only at hSw); go_simp; (try with_reducible rfl))
                    (try simp only [Act.put, List.setIfInBounds_toArray, List.set_cons_zero, List.set_cons_succ])
                    refine wpAnyH_take (i := 6) (oi := ({ dst := some 58, op := Op.move (Operand.tmp 57), type := 4, pos := "ref.go:15", after := #[{ on := 5, ground := Ground.data }], guard := none } : Oper)) (v := ?_) rfl (by kernel_rfl) (by kernel_rfl) (by kernel_rfl) (fun _ _ _ h => h) (Or.inl ⟨by rfl, ?_⟩) (by assumption) ?_
                    rotate_left 1
                    · (intro w hSw; (try dsimp only at hSw); go_simp; (try with_reducible rfl))
                    (try simp only [Act.put, List.setIfInBounds_toArray, List.set_cons_zero, List.set_cons_succ])
                    refine wpAnyH_take (i := 7) (oi := ({ dst := some 59, op := Op.move (Operand.tmp 11), type := 3, pos := "ref.go:15", after := #[{ on := 6, ground := Ground.guard }], guard := some (6, true) } : Oper)) (v := undef) rfl (by kernel_rfl) (by kernel_rfl) (by kernel_rfl) (fun _ _ _ h => h) (Or.inr ⟨by rfl, rfl⟩) (by assumption) ?_
                    (try simp only [Act.put, List.setIfInBounds_toArray, List.set_cons_zero, List.set_cons_succ])
                    refine wpAnyH_take (i := 8) (oi := ({ dst := some 60, op := Op.indexAddr 60 (Operand.tmp 7) (Operand.tmp 59), type := 0, pos := "ref.go:15", after := #[{ on := 7, ground := Ground.data }, { on := 6, ground := Ground.guard }], guard := some (6, true) } : Oper)) (v := undef) rfl (by kernel_rfl) (by kernel_rfl) (by kernel_rfl) (fun _ _ _ h => h) (Or.inr ⟨by rfl, rfl⟩) (by assumption) ?_
                    (try simp only [Act.put, List.setIfInBounds_toArray, List.set_cons_zero, List.set_cons_succ])
                    refine wpAnyH_take (i := 9) (oi := ({ dst := some 61, op := Op.load 4 (Operand.tmp 60), type := 4, pos := "ref.go:15", after := #[{ on := 8, ground := Ground.data }, { on := 6, ground := Ground.guard }], guard := some (6, true) } : Oper)) (v := undef) rfl (by kernel_rfl) (by kernel_rfl) (by kernel_rfl) (fun _ _ _ h => h) (Or.inr ⟨by rfl, rfl⟩) (by assumption) ?_
                    (try simp only [Act.put, List.setIfInBounds_toArray, List.set_cons_zero, List.set_cons_succ])
                    refine wpAnyH_take (i := 10) (oi := ({ dst := some 62, op := Op.pick (Operand.tmp 58) (Operand.tmp 61) (Operand.const (Value.bool false)), type := 4, pos := "ref.go:15", after := #[{ on := 6, ground := Ground.data }, { on := 9, ground := Ground.data }], guard := none } : Oper)) (v := ?_) rfl (by kernel_rfl) (by kernel_rfl) (by kernel_rfl) (fun _ _ _ h => h) (Or.inl ⟨by rfl, ?_⟩) (by assumption) ?_
                    rotate_left 1
                    · (intro w hSw; (try dsimp only at hSw); go_simp; (try with_reducible rfl))
                    (try simp only [Act.put, List.setIfInBounds_toArray, List.set_cons_zero, List.set_cons_succ])
                    refine wpAnyH_take (i := 11) (oi := ({ dst := some 63, op := Op.binOp BinOp.neq 4 (Operand.tmp 56) (Operand.tmp 62) 4, type := 4, pos := "ref.go:15", after := #[{ on := 4, ground := Ground.data }, { on := 10, ground := Ground.data }], guard := none } : Oper)) (v := ?_) rfl (by kernel_rfl) (by kernel_rfl) (by kernel_rfl) (fun _ _ _ h => h) (Or.inl ⟨by rfl, ?_⟩) (by assumption) ?_
                    rotate_left 1
                    · (intro w hSw; (try dsimp only at hSw); go_simp; (try with_reducible rfl))
                    (try simp only [Act.put, List.setIfInBounds_toArray, List.set_cons_zero, List.set_cons_succ])
                    refine wpAnyH_take (i := 12) (oi := ({ dst := some 64, op := Op.indexAddr 60 (Operand.tmp 5) (Operand.tmp 52), type := 0, pos := "ref.go:15", after := #[{ on := 0, ground := Ground.data }, { on := 0, ground := Ground.phase }, { on := 1, ground := Ground.phase }, { on := 2, ground := Ground.phase }, { on := 3, ground := Ground.phase }, { on := 4, ground := Ground.phase }, { on := 5, ground := Ground.phase }, { on := 6, ground := Ground.phase }, { on := 7, ground := Ground.phase }, { on := 8, ground := Ground.phase }, { on := 9, ground := Ground.phase }, { on := 10, ground := Ground.phase }, { on := 11, ground := Ground.phase }], guard := none } : Oper)) (v := ?_) rfl (by kernel_rfl) (by kernel_rfl) (by kernel_rfl) (fun _ _ _ h => h) (Or.inl ⟨by rfl, ?_⟩) (by assumption) ?_
                    rotate_left 1
                    · (intro w hSw; (try dsimp only at hSw); go_simp; (try with_reducible rfl))
                    (try simp only [Act.put, List.setIfInBounds_toArray, List.set_cons_zero, List.set_cons_succ])
                    refine wpAnyH_ready (rs := [13]) (by kernel_rfl) (by simp) ?_
                    refine AllReadyH.cons (o := ({ dst := none, op := Op.store 4 (Operand.tmp 64) (Operand.tmp 63), type := 0, pos := "ref.go:15", after := #[{ on := 12, ground := Ground.data }, { on := 11, ground := Ground.data }, { on := 6, ground := Ground.chain }, { on := 0, ground := Ground.phase }, { on := 1, ground := Ground.phase }, { on := 2, ground := Ground.phase }, { on := 3, ground := Ground.phase }, { on := 4, ground := Ground.phase }, { on := 5, ground := Ground.phase }, { on := 6, ground := Ground.phase }, { on := 7, ground := Ground.phase }, { on := 8, ground := Ground.phase }, { on := 9, ground := Ground.phase }, { on := 10, ground := Ground.phase }, { on := 11, ground := Ground.phase }], guard := none } : Oper)) rfl (fun K hK => ?_) ?_
                    rotate_left 1
                    · exact AllReadyH.nil
                    go_simp
                    first | (refine hK.out _ _ ?_ (fun hH1 => ?_)) | (go_wp2_with fail; refine hK.out _ _ ?_ (fun hH1 => ?_))
                    · (try dsimp only); with_reducible exact S2.out
                    clear hK K hH0
                    (try simp only [Act.put, List.setIfInBounds_toArray, List.set_cons_zero, List.set_cons_succ])
                    refine wpAnyH_done (by kernel_rfl) ?_ _
                    refine NoPanic.normal ?_
                    go_wp2
                    refine ⟨⟨j + 1, by omega, by go_num, Lib.hid (by rw [← HS.out, ← csB_set]; exact Blk.drew (Blk.set_ hP4.out j _)), Lib.hid (Blk.drew (Blk.far hQ4.out (by simp; omega) _)), Lib.hid (Below.drewN0 (Below.set0 hB4.out (by have := HG.out; omega) _) 1)⟩, ?_⟩
                    simp [intOf]; omega
                  · skip
                    rw [show (t != (true && p)) = !(t == p) by cases t <;> cases p <;> rfl] at HS
                    have S2 : Hid ((fun w' => w'.cell? ⟨G, j + 1, none⟩ = some (.bool t) ∧ w'.cell? ⟨H, j, none⟩ = some (.bool p)) (wr.setCell ⟨G, j, none⟩ (.bool (!(t == p)))).drew) := Lib.hid ⟨by rw [← k1]; (apply World.cell?_setCell_other; intro h; injection h with h1 h2 h3; omega), by rw [← k2]; (apply World.cell?_setCell_other; intro h; injection h with h1 h2 h3; omega)⟩
                    have S1 : Hid ((fun w' => w'.cell? ⟨G, j + 1, none⟩ = some (.bool t) ∧ w'.cell? ⟨H, j, none⟩ = some (.bool p)) wr.drew) := Lib.hid ⟨k1, k2⟩
                    go_wp2
                    refine wp_region_noPanic ?_
                    refine wp_region_held_drew (S := (fun w' => w'.cell? ⟨G, j + 1, none⟩ = some (.bool t) ∧ w'.cell? ⟨H, j, none⟩ = some (.bool p))) (by kernel_rfl) ?_ (fun hH0 => ?_)
                    · (try dsimp only); with_reducible exact S1.out
                    refine wpAnyH_take (i := 0) (oi := ({ dst := some 52, op := Op.move (Operand.tmp 11), type := 3, pos := "ref.go:15", after := #[], guard := none } : Oper)) (v := ?_) rfl (by kernel_rfl) (by kernel_rfl) (by kernel_rfl) (fun _ _ _ h => h) (Or.inl ⟨by rfl, ?_⟩) (by assumption) ?_
                    rotate_left 1
                    · (intro w hSw; (try dsimp only at hSw); go_simp; (try with_reducible rfl))
                    (try simp only [Act.put, List.setIfInBounds_toArray, List.set_cons_zero, List.set_cons_succ])
                    refine wpAnyH_take (i := 1) (oi := ({ dst := some 53, op := Op.move (Operand.tmp 11), type := 3, pos := "ref.go:15", after := #[], guard := none } : Oper)) (v := ?_) rfl (by kernel_rfl) (by kernel_rfl) (by kernel_rfl) (fun _ _ _ h => h) (Or.inl ⟨by rfl, ?_⟩) (by assumption) ?_
                    rotate_left 1
                    · (intro w hSw; (try dsimp only at hSw); go_simp; (try with_reducible rfl))
                    (try simp only [Act.put, List.setIfInBounds_toArray, List.set_cons_zero, List.set_cons_succ])
                    refine wpAnyH_take (i := 2) (oi := ({ dst := some 54, op := Op.binOp BinOp.add 3 (Operand.tmp 53) (Operand.const (Value.int IntKind.i64 1)) 3, type := 3, pos := "ref.go:15", after := #[{ on := 1, ground := Ground.data }], guard := none } : Oper)) (v := ?_) rfl (by kernel_rfl) (by kernel_rfl) (by kernel_rfl) (fun _ _ _ h => h) (Or.inl ⟨by rfl, ?_⟩) (by assumption) ?_
                    rotate_left 1
                    · (intro w hSw; (try dsimp only at hSw); go_simp; (try with_reducible rfl))
                    (try simp only [Act.put, List.setIfInBounds_toArray, List.set_cons_zero, List.set_cons_succ])
                    refine wpAnyH_take (i := 3) (oi := ({ dst := some 55, op := Op.indexAddr 60 (Operand.tmp 5) (Operand.tmp 54), type := 0, pos := "ref.go:15", after := #[{ on := 2, ground := Ground.data }], guard := none } : Oper)) (v := ?_) rfl (by kernel_rfl) (by kernel_rfl) (by kernel_rfl) (fun _ _ _ h => h) (Or.inl ⟨by rfl, ?_⟩) (by assumption) ?_
                    rotate_left 1
                    · (intro w hSw; (try dsimp only at hSw); go_simp; (try with_reducible rfl))
                    (try simp only [Act.put, List.setIfInBounds_toArray, List.set_cons_zero, List.set_cons_succ])
                    refine wpAnyH_take (i := 4) (oi := ({ dst := some 56, op := Op.load 4 (Operand.tmp 55), type := 4, pos := "ref.go:15", after := #[{ on := 3, ground := Ground.data }], guard := none } : Oper)) (v := ?_) rfl (by kernel_rfl) (by kernel_rfl) (by kernel_rfl) (fun _ _ _ h => h) (Or.inl ⟨by rfl, ?_⟩) (by assumption) ?_
                    rotate_left 1
                    · (intro w hSw; (try dsimp only at hSw); go_simp; (try with_reducible rfl))
                    (try simp only [Act.put, List.setIfInBounds_toArray, List.set_cons_zero, List.set_cons_succ])
                    refine wpAnyH_take (i := 5) (oi := ({ dst := some 57, op := Op.move (Operand.tmp 10), type := 4, pos := "ref.go:15", after := #[], guard := none } : Oper)) (v := ?_) rfl (by kernel_rfl) (by kernel_rfl) (by kernel_rfl) (fun _ _ _ h => h) (Or.inl ⟨by rfl, ?_⟩) (by assumption) ?_
                    rotate_left 1
                    · (intro w hSw; (try dsimp only at hSw); go_simp; (try with_reducible rfl))
                    (try simp only [Act.put, List.setIfInBounds_toArray, List.set_cons_zero, List.set_cons_succ])
                    refine wpAnyH_take (i := 6) (oi := ({ dst := some 58, op := Op.move (Operand.tmp 57), type := 4, pos := "ref.go:15", after := #[{ on := 5, ground := Ground.data }], guard := none } : Oper)) (v := ?_) rfl (by kernel_rfl) (by kernel_rfl) (by kernel_rfl) (fun _ _ _ h => h) (Or.inl ⟨by rfl, ?_⟩) (by assumption) ?_
                    rotate_left 1
                    · (intro w hSw; (try dsimp only at hSw); go_simp; (try with_reducible rfl))
                    (try simp only [Act.put, List.setIfInBounds_toArray, List.set_cons_zero, List.set_cons_succ])
                    refine wpAnyH_take (i := 7) (oi := ({ dst := some 59, op := Op.move (Operand.tmp 11), type := 3, pos := "ref.go:15", after := #[{ on := 6, ground := Ground.guard }], guard := some (6, true) } : Oper)) (v := ?_) rfl (by kernel_rfl) (by kernel_rfl) (by kernel_rfl) (fun _ _ _ h => h) (Or.inl ⟨by rfl, ?_⟩) (by assumption) ?_
                    rotate_left 1
                    · (intro w hSw; (try dsimp only at hSw); go_simp; (try with_reducible rfl))
                    (try simp only [Act.put, List.setIfInBounds_toArray, List.set_cons_zero, List.set_cons_succ])
                    refine wpAnyH_take (i := 8) (oi := ({ dst := some 60, op := Op.indexAddr 60 (Operand.tmp 7) (Operand.tmp 59), type := 0, pos := "ref.go:15", after := #[{ on := 7, ground := Ground.data }, { on := 6, ground := Ground.guard }], guard := some (6, true) } : Oper)) (v := ?_) rfl (by kernel_rfl) (by kernel_rfl) (by kernel_rfl) (fun _ _ _ h => h) (Or.inl ⟨by rfl, ?_⟩) (by assumption) ?_
                    rotate_left 1
                    · (intro w hSw; (try dsimp only at hSw); go_simp; (try with_reducible rfl))
                    (try simp only [Act.put, List.setIfInBounds_toArray, List.set_cons_zero, List.set_cons_succ])
                    refine wpAnyH_take (i := 9) (oi := ({ dst := some 61, op := Op.load 4 (Operand.tmp 60), type := 4, pos := "ref.go:15", after := #[{ on := 8, ground := Ground.data }, { on := 6, ground := Ground.guard }], guard := some (6, true) } : Oper)) (v := ?_) rfl (by kernel_rfl) (by kernel_rfl) (by kernel_rfl) (fun _ _ _ h => h) (Or.inl ⟨by rfl, ?_⟩) (by assumption) ?_
                    rotate_left 1
                    · (intro w hSw; (try dsimp only at hSw); go_simp; (try with_reducible rfl))
                    (try simp only [Act.put, List.setIfInBounds_toArray, List.set_cons_zero, List.set_cons_succ])
                    refine wpAnyH_take (i := 10) (oi := ({ dst := some 62, op := Op.pick (Operand.tmp 58) (Operand.tmp 61) (Operand.const (Value.bool false)), type := 4, pos := "ref.go:15", after := #[{ on := 6, ground := Ground.data }, { on := 9, ground := Ground.data }], guard := none } : Oper)) (v := ?_) rfl (by kernel_rfl) (by kernel_rfl) (by kernel_rfl) (fun _ _ _ h => h) (Or.inl ⟨by rfl, ?_⟩) (by assumption) ?_
                    rotate_left 1
                    · (intro w hSw; (try dsimp only at hSw); go_simp; (try with_reducible rfl))
                    (try simp only [Act.put, List.setIfInBounds_toArray, List.set_cons_zero, List.set_cons_succ])
                    refine wpAnyH_take (i := 11) (oi := ({ dst := some 63, op := Op.binOp BinOp.neq 4 (Operand.tmp 56) (Operand.tmp 62) 4, type := 4, pos := "ref.go:15", after := #[{ on := 4, ground := Ground.data }, { on := 10, ground := Ground.data }], guard := none } : Oper)) (v := ?_) rfl (by kernel_rfl) (by kernel_rfl) (by kernel_rfl) (fun _ _ _ h => h) (Or.inl ⟨by rfl, ?_⟩) (by assumption) ?_
                    rotate_left 1
                    · (intro w hSw; (try dsimp only at hSw); go_simp; (try with_reducible rfl))
                    (try simp only [Act.put, List.setIfInBounds_toArray, List.set_cons_zero, List.set_cons_succ])
                    refine wpAnyH_take (i := 12) (oi := ({ dst := some 64, op := Op.indexAddr 60 (Operand.tmp 5) (Operand.tmp 52), type := 0, pos := "ref.go:15", after := #[{ on := 0, ground := Ground.data }, { on := 0, ground := Ground.phase }, { on := 1, ground := Ground.phase }, { on := 2, ground := Ground.phase }, { on := 3, ground := Ground.phase }, { on := 4, ground := Ground.phase }, { on := 5, ground := Ground.phase }, { on := 6, ground := Ground.phase }, { on := 7, ground := Ground.phase }, { on := 8, ground := Ground.phase }, { on := 9, ground := Ground.phase }, { on := 10, ground := Ground.phase }, { on := 11, ground := Ground.phase }], guard := none } : Oper)) (v := ?_) rfl (by kernel_rfl) (by kernel_rfl) (by kernel_rfl) (fun _ _ _ h => h) (Or.inl ⟨by rfl, ?_⟩) (by assumption) ?_
                    rotate_left 1
                    · (intro w hSw; (try dsimp only at hSw); go_simp; (try with_reducible rfl))
                    (try simp only [Act.put, List.setIfInBounds_toArray, List.set_cons_zero, List.set_cons_succ])
                    refine wpAnyH_ready (rs := [13]) (by kernel_rfl) (by simp) ?_
                    refine AllReadyH.cons (o := ({ dst := none, op := Op.store 4 (Operand.tmp 64) (Operand.tmp 63), type := 0, pos := "ref.go:15", after := #[{ on := 12, ground := Ground.data }, { on := 11, ground := Ground.data }, { on := 6, ground := Ground.chain }, { on := 0, ground := Ground.phase }, { on := 1, ground := Ground.phase }, { on := 2, ground := Ground.phase }, { on := 3, ground := Ground.phase }, { on := 4, ground := Ground.phase }, { on := 5, ground := Ground.phase }, { on := 6, ground := Ground.phase }, { on := 7, ground := Ground.phase }, { on := 8, ground := Ground.phase }, { on := 9, ground := Ground.phase }, { on := 10, ground := Ground.phase }, { on := 11, ground := Ground.phase }], guard := none } : Oper)) rfl (fun K hK => ?_) ?_
                    rotate_left 1
                    · exact AllReadyH.nil
                    go_simp
                    first | (refine hK.out _ _ ?_ (fun hH1 => ?_)) | (go_wp2_with fail; refine hK.out _ _ ?_ (fun hH1 => ?_))
                    · (try dsimp only); with_reducible exact S2.out
                    clear hK K hH0
                    (try simp only [Act.put, List.setIfInBounds_toArray, List.set_cons_zero, List.set_cons_succ])
                    refine wpAnyH_done (by kernel_rfl) ?_ _
                    refine NoPanic.normal ?_
                    go_wp2
                    refine ⟨⟨j + 1, by omega, by go_num, Lib.hid (by rw [← HS.out, ← csB_set]; exact Blk.drew (Blk.set_ hP4.out j _)), Lib.hid (Blk.drew (Blk.far hQ4.out (by simp; omega) _)), Lib.hid (Below.drewN0 (Below.set0 hB4.out (by have := HG.out; omega) _) 1)⟩, ?_⟩
                    simp [intOf]; omega
                · obtain rfl : j = 15 := by omega
                  obtain ⟨u, hu⟩ : ∃ u, (csB (midN r F 15))[15]? = some u := ⟨_, Array.getElem?_eq_getElem (by simp [csB, midN])⟩
                  have k3 : wr.cell? ⟨G, 15, none⟩ = some u := by rw [hP4.out.cell, hu]
                  have k2 : wr.cell? ⟨H, 15, none⟩ = some (.bool true) := by
                    rw [hQ4.out.cell]; exact csB_at _ _ _ (plB_at 15 (by omega))
                  have kf := hP4.out.frozen 15
                  have gt := LT.out
                  have HS : Hid ((csB (midN r F 15)).setIfInBounds 15 (.bool F) = csB (bitsN (stTo C x (q + 1)))) := Lib.hid (by
                    rw [csB_set, midN_last, midN_all _ _ hrl]
                    show _ = csB (bitsN (stN (stTo C x q) (outN (stTo C x q) x q)))
                    rw [HR.out, HF.out])
                  clear hu
                  cases F
                  · go_wp2
                    go_roundw
                    case rel => exact ⟨q + 1, _, by omega, rfl, Lib.hid (by have := HM.out; omega), Lib.hid (by rw [← HS.out]; exact Blk.set_ hP4.out 15 _), Lib.hid (Blk.far hQ4.out (by simp; omega) _), Lib.hid (Below.set0 hB4.out (by have := HG.out; omega) _)⟩
                    case measure => simp [intOf] <;> omega
                  · go_wp2
                    go_roundw
                    case rel => exact ⟨q + 1, _, by omega, rfl, Lib.hid (by have := HM.out; omega), Lib.hid (by rw [← HS.out]; exact Blk.set_ hP4.out 15 _), Lib.hid (Blk.far hQ4.out (by simp; omega) _), Lib.hid (Below.set0 hB4.out (by have := HG.out; omega) _)⟩
                    case measure => simp [intOf] <;> omega
            · obtain rfl : q = 8 := by omega
              obtain rfl : y = -1 := by have := hy.out; omega
              rw [HE.out] at hP2
              go_wp2
              go_roundw
              case rel => exact ⟨k + 1, by omega, by go_num, hP2, hQ2, hB2⟩
              case measure => simp [intOf] <;> omega
        · obtain rfl : k = n := by omega
          have hE : zs.take k = zs := List.take_of_length_le (by rw [HL.out]; omega)
          rw [hE] at hP
          have hR := onN_lt s0 zs h0 HZ.out
          obtain ⟨R, hRR⟩ : ∃ R, onN s0 zs = R := ⟨_, rfl⟩
          rw [hRR] at hR hP
          have HRR := Lib.hid hRR
          obtain ⟨wo, rfl⟩ : ∃ wo : World, wo = wr := ⟨_, rfl⟩
          clear hE hRR P2 Q2 B2
          go_wp2
          go_loop [12, 13] (fun v i => ∃ k : Nat, k ≤ 16 ∧ i = .int .i64 k ∧ v = .int .i64 ((R / 2 ^ (16 - k) : Nat) : Int)) (fun _ i => 16 - (intOf i).toNat)
          case atStart => exact ⟨0, by omega, rfl, by rw [show R / 2 ^ (16 - 0) = 0 from Nat.div_eq_of_lt hR]; rfl⟩
          case round =>
            obtain ⟨i, hi, rfl, rfl⟩ := hrel
            by_cases hlt : i < 16
            · obtain ⟨t, ht⟩ : ∃ t, R.testBit (15 - i) = t := ⟨_, rfl⟩
              have k1 : wo.cell? ⟨G, i, none⟩ = some (.bool t) := by
                rw [hP.out.cell, ← ht]; exact csB_at _ _ _ (by simp [bitsN, hlt])
              have hi0 : (0 : Int) ≤ i := by omega
              have hi1 : (i : Int) < 16 := by omega
              have hv : R / 2 ^ (16 - (i + 1)) = 2 * (R / 2 ^ (16 - i)) + t.toNat := by
                rw [← ht, Nat.toNat_testBit, show 15 - i = 16 - (i + 1) by omega, show 16 - i = (16 - (i + 1)) + 1 by omega, Nat.pow_succ, ← Nat.div_div_eq_div_mul]
                omega
              have hb : R / 2 ^ (16 - i) < 65536 := Nat.lt_of_le_of_lt (Nat.div_le_self _ _) hR
              have HV := Lib.hid hv
              obtain ⟨z, hz2⟩ : ∃ z, R / 2 ^ (16 - i) = z := ⟨_, rfl⟩
              rw [hz2] at hb HV ⊢
              clear hv hz2 ht
              cases t
              · go_wp2
                go_round
                case rel => exact ⟨i + 1, by omega, by go_num, vint (by rw [HV.out]; simp)⟩
                case measure => simp [intOf] <;> omega
              · go_wp2
                go_round
                case rel => exact ⟨i + 1, by omega, by go_num, vint (by rw [HV.out]; simp)⟩
                case measure => simp [intOf] <;> omega
            · obtain rfl : i = 16 := by omega
              have e : R / 2 ^ (16 - 16) = R := by simp
              rw [e]
              go_wp2
              go_ret
              exact ⟨ret_int (by rw [HRR.out]), hB.out⟩
theorem ownY_cap {t : TypeId} {w : World} {base : Nat} {v : Value} {l : List Int} (h : eY.Own t w base v l) : ∃ A c, v = .slice A l.length c ∧ l.length ≤ c := by
  obtain ⟨hl, h2⟩ := h
  rcases h2 with ⟨rfl, hn⟩ | ⟨g, cap, cur, rfl, h3, h4, h5, _⟩
  · exact ⟨none, 0, by rw [hn], by omega⟩
  · exact ⟨_, cap, rfl, h5⟩
theorem ownY_lit0 (w : World) (t : TypeId) (base : Nat) (h : base ≤ w.heap.size) : eY.Own t (w.alloc (.cells #[] t)) base (.slice (some ⟨w.heap.size, 0, none⟩) 0 0) [] := World.ownsRow_made w #[] 0 h (Nat.zero_le _) rfl
theorem seal_len (xs : List Int) : (sealL xs).length = xs.length + 2 := by simp [sealL, sumL]
theorem seal_take (xs : List Int) : (sealL xs).take ((sealL xs).length - 2) = xs := by
  rw [seal_len, Nat.add_sub_cancel]
  unfold sealL
  rw [List.take_append_of_le_length (Nat.le_refl _), List.take_of_length_le (Nat.le_refl _)]
theorem open_seal (xs : List Int) : openOk (sealL xs) = true := by
  unfold openOk
  rw [seal_take, seal_len]
  simp
theorem open_iff (ys : List Int) (n : Nat) (hn : ys.length = n + 2) (hy : Byt ys) : openOk ys = (((onN 65535 (ys.take n) : Nat) : Int) == 256 * iat ys n + iat ys (n + 1)) := by
  have h1 := hy.at_ n
  have h2 := hy.at_ (n + 1)
  have e : ys = ys.take n ++ [iat ys n, iat ys (n + 1)] := by
    have a := List.take_succ_eq_append_getElem (l := ys) (i := n) (by omega)
    have b := List.take_succ_eq_append_getElem (l := ys) (i := n + 1) (by omega)
    rw [← iat_eq _ _ (by omega)] at a b
    rw [a, List.take_of_length_le (by omega), List.append_assoc] at b
    exact b
  unfold openOk
  rw [hn, Nat.add_sub_cancel]
  have e2 : (sealL (ys.take n) == ys) = (sumL (onN 65535 (ys.take n)) == [iat ys n, iat ys (n + 1)]) := by
    rw [Bool.eq_iff_iff, beq_iff_eq, beq_iff_eq]
    unfold sealL
    constructor
    · intro h
      conv at h => rhs; rw [e]
      exact List.append_cancel_left h
    · intro h
      rw [h, ← e]
  rw [e2, Bool.eq_iff_iff]
  simp only [sumL, Bool.and_eq_true, decide_eq_true_eq, beq_iff_eq, List.cons.injEq, and_true]
  omega
theorem alive36 (w : World) : Calls Try.prog 12 #[] w fun e w' => e = .returned (.bool true) ∧ Below w.heap.size w w' := by
  have h1 : onN 65535 [49, 50, 51, 52, 53, 54, 55, 56, 57] = 10673 := by decide +kernel
  have C := fun u (h : Ints .u8 u u.heap.size (some ⟨w.heap.size, 0, none⟩) 9 [49, 50, 51, 52, 53, 54, 55, 56, 57]) => crcOf_any (some ⟨w.heap.size, 0, none⟩) 9 9 [49, 50, 51, 52, 53, 54, 55, 56, 57] u.heap.size u h (by decide)
  rw [h1] at C
  have CC := Lib.hid C
  have P := Lib.hid (show Ints .u8 (w.alloc (Obj.cells #[.int .u8 49, .int .u8 50, .int .u8 51, .int .u8 52, .int .u8 53, .int .u8 54, .int .u8 55, .int .u8 56, .int .u8 57] 5)) (w.alloc (Obj.cells #[.int .u8 49, .int .u8 50, .int .u8 51, .int .u8 52, .int .u8 53, .int .u8 54, .int .u8 55, .int .u8 56, .int .u8 57] 5)).heap.size (some ⟨w.heap.size, 0, none⟩) 9 [49, 50, 51, 52, 53, 54, 55, 56, 57] from
    ⟨rfl, by decide, fun _ => ⟨w.heap.size, 0, rfl, by simp, fun i hi => by
      rw [Nat.zero_add, (Blk.new w _ _ (0, 0)).cell]
      have : ∀ i : Fin 9, (#[Value.int .u8 49, .int .u8 50, .int .u8 51, .int .u8 52, .int .u8 53, .int .u8 54, .int .u8 55, .int .u8 56, .int .u8 57] : Array Value)[i.val]? = some (Value.int .u8 (iat [49, 50, 51, 52, 53, 54, 55, 56, 57] i.val)) := by
        intro i; rcases i with ⟨i, hi⟩
        rcases (show i = 0 ∨ i = 1 ∨ i = 2 ∨ i = 3 ∨ i = 4 ∨ i = 5 ∨ i = 6 ∨ i = 7 ∨ i = 8 by omega) with rfl | rfl | rfl | rfl | rfl | rfl | rfl | rfl | rfl <;> rfl
      exact this ⟨i, hi⟩⟩⟩)
  clear C h1
  go_enter Try.func12, Try.ntmps12
  go_wp2_with (go_at_call 9; refine (CC.out _ P.out).mono ?_; rintro e w' ⟨rfl, rfl⟩)
  go_ret
  exact ⟨rfl, Below.alloc0 (Below.refl _ _) _⟩
end Go.Proofs.Ytnhafficnomlbaa
