/- Contract of the document's Unpack of layer 38. -/
import Derived.Test.YtnhafficnomlbaaPckV
import Derived.Test.YtnhafficnomlbaaPckR
namespace Go.Proofs.Ytnhafficnomlbaa
open Go.ChangeShapes Go.WideShapes Go.ChangeAt Go.RowKit
set_option linter.unusedVariables false
theorem pc_zero (l : List Int) (hb : Byt l) : ((pcB l).length = 0 → pcS l = 0) ∧ (pcS l = 0 → (pcB l).length = 0) := by
  have h0 := hb.at_ 0
  unfold pcS pcB
  by_cases h1 : 128 ≤ iat l 0
  · rw [if_pos h1, if_pos h1]
    by_cases h2 : 1 < l.length
    · rw [if_pos h2, if_pos h2, List.length_replicate]; omega
    · rw [if_neg h2, if_neg h2]; simp
  · rw [if_neg h1, if_neg h1]
    by_cases h2 : 0 < iat l 0 ∧ iat l 0 < l.length
    · rw [if_pos h2, if_pos h2, List.length_take, List.length_drop]; omega
    · rw [if_neg h2, if_neg h2]; simp
set_option maxRecDepth 100000 in
set_option maxHeartbeats 4000000 in
theorem refUnpack_any (A : Option Addr) (n c : Nat) (zs : List Int) (most : Int) (hmost : (Lit.int .i64 most).wf = true) (w : World) (h : eY.Rd w (.slice A n c) zs) (hc : n ≤ c) (hz : Byt zs) (hn : n ≤ 2000) :
    Calls Try.prog 20 #[.slice A n c, .int .i64 most] w (UnpPost most zs w) := by
  have HL := Lib.hid (rd_len h)
  have H := Lib.hid h
  have HZ := Lib.hid hz
  have HS := Lib.hid (fun h0 => Sl.of_rd h hz hc h0)
  have O0 : Hid (eY.Own 5 w w.heap.size (.slice none 0 0) []) := Lib.hid (Els.Own.nil_ _ _)
  have B0 := Lib.hid (Below.refl w.heap.size w)
  clear h hz
  go_enter Try.func20, Try.ntmps20
  go_wp2
  go_loopw [6, 7] (fun o i wr => ∃ (k : Nat) (P : List Int), k ≤ n ∧ i = .int .i64 k ∧ Hid (eY.Own 5 wr w.heap.size o P) ∧ Hid (Byt P ∧ P.length ≤ 64 * k) ∧ Hid (unpR most [] zs = unpR most P (zs.drop k)) ∧ Hid (Below w.heap.size w wr)) (fun _ i _ => n - (intOf i).toNat)
  case atStart => exact ⟨0, [], Nat.zero_le _, rfl, O0, Lib.hid ⟨Byt.nil_, Nat.zero_le _⟩, Lib.hid rfl, B0⟩
  case round =>
    obtain ⟨k, P, hk, rfl, hO, hP, hU, hB⟩ := hrel
    by_cases hlt : k < n
    · obtain ⟨g, off, rfl, hS⟩ := HS.out (by omega)
      obtain ⟨wo, rfl⟩ : ∃ wo : World, wo = wr := ⟨_, rfl⟩
      have hSw := hS.below hB.out
      have c0 := hSw.at_ k hlt
      have hD := (hS.drop k hk).1
      have HD := Lib.hid hD
      have HSw := Lib.hid hSw
      have hST := unpR_step most P (zs.drop k) (by omega)
      rw [← hU.out] at hST
      have HST0 := Lib.hid hST
      have hpc := pc_le (zs.drop k) (by omega) (HZ.out.drop k)
      rw [hD] at hpc
      have PC := Lib.hid hpc
      have HBY := Lib.hid (pcB_byt (zs.drop k) (HZ.out.drop k))
      have HZ0 := Lib.hid (pc_zero (zs.drop k) (HZ.out.drop k))
      obtain ⟨b0, b1⟩ := HZ.out.at_ k
      obtain ⟨x, hx⟩ := Int.eq_ofNat_of_zero_le b0
      have h00 : iat (zs.drop k) 0 = (x : Int) := by rw [iat_drop, Nat.add_zero, hx]
      rw [hx] at c0 b1
      have x1 : x < 256 := by omega
      have H00 := Lib.hid h00
      have k0 : (0 : Int) ≤ k := by omega
      have kn : (k : Int) < n := by omega
      clear hS hSw hD hST hpc hx b0 h00 HS
      have W0 : Hid (eY.Own 5 wo wo.heap.size (.slice none 0 0) []) := Lib.hid (Els.Own.nil_ _ _)
      have WB := Lib.hid (Below.refl wo.heap.size wo)
      by_cases h1 : 127 < x
      · by_cases h2 : k + 1 < n
        · have c1 := HSw.out.at_ (k + 1) h2
          obtain ⟨y, hy⟩ : ∃ y, iat zs (k + 1) = y := ⟨_, rfl⟩
          rw [hy] at c1
          obtain ⟨N, hN⟩ : ∃ N : Nat, N + x = 256 := ⟨256 - x, by omega⟩
          have HN := Lib.hid hN
          have eS : Hid (pcS (zs.drop k) = 2) := Lib.hid (by unfold pcS; rw [H00.out, if_pos (by omega), if_pos (by rw [HD.out]; omega)])
          have eB : Hid (pcB (zs.drop k) = List.replicate N y) := Lib.hid (by unfold pcB; rw [H00.out, if_pos (by omega), if_pos (by rw [HD.out]; omega), iat_drop, hy, show (256 - (x : Int)).toNat = N by omega])
          have C1 := Lib.hid c1
          have BS := Lib.hid (HSw.out.2.2.1)
          have d2 : (k : Int) + 1 < (n : Int) := by omega
          have t1 : (127 : Int) < (x : Int) := by omega
          have n1 : N ≤ 128 := by omega
          clear c1 hy hN
          go_wp2
          go_loopw [9, 10] (fun p i wr => ∃ q : Nat, q ≤ N ∧ i = .int .i64 q ∧ Hid (eY.Own 5 wr wo.heap.size p (List.replicate q y)) ∧ Hid (Below wo.heap.size wo wr)) (fun _ i _ => 256 - (intOf i).toNat)
          case atStart => exact ⟨0, Nat.zero_le _, rfl, W0, WB⟩
          case round =>
            obtain ⟨q, hq, rfl, OP, BW⟩ := hrel
            by_cases hqx : q < N
            · have c1 := (BW.out.cell (p := ⟨g, off + (k + 1), none⟩) BS.out).trans C1.out
              have d1 : (q : Int) < 256 - (x : Int) := by have := HN.out; omega
              go_wp2_with (at_builtin; refine wpList_appY rfl _ (.tmp 38) (.tmp 44) rfl wo.heap.size _ _ _ [y] rfl (Els.Own.alloc OP.out _) rfl (rdY_lit1 _ _ _) (by simp; omega) (by have := BW.out.size; simp; omega) ?_; intro v2 w2 ho2 hb2 hg2 _; have O2 := Lib.hid ho2; have B2 := Lib.hid ((BW.out.alloc BW.out.size _).trans hb2); clear ho2 hb2 hg2)
              go_roundw
              case rel => exact ⟨q + 1, by omega, by go_num, Lib.hid (by rw [List.replicate_succ']; exact O2.out), B2⟩
              case measure => simp [intOf] <;> omega
            · obtain rfl : q = N := by omega
              have d3 : decide ((q : Int) < 256 - (x : Int)) = false := by rw [decide_eq_false_iff_not]; have := HN.out; omega
              have eLL : Hid ((List.replicate q y).length = q) := Lib.hid (by simp)
              have HNZ : q ≠ 0 := by have := HN.out; omega
              have O1 := Lib.hid (Els.Own.below hO.out BW.out)
              have B1 := Lib.hid (Below.trans0 hB.out BW.out)
              have R1 := Lib.hid OP.out.rd
              obtain ⟨A1, c1, hv1, _⟩ := ownP_cap OP.out
              subst hv1
              have R2 : Hid (eY.Rd wr (.slice A1 q c1) (List.replicate q y)) := Lib.hid (by have h2 := R1.out; rw [eLL.out] at h2; exact h2)
              obtain ⟨A2, c2, hv2, _⟩ := ownP_cap hO.out
              subst hv2
              have hPl := hP.out.2
              obtain ⟨p1, p2, p3⟩ := PC.out
              have HBB := HBY.out
              rw [eS.out, eB.out] at p2
              rw [eS.out] at p1 p3
              rw [eB.out] at HBB
              have HST := Lib.hid HST0.out
              rw [eS.out, eB.out] at HST
              have HBB := Lib.hid HBB
              have hz0 := HZ0.out
              rw [eS.out, eB.out] at hz0
              have hs0 : q ≠ 0 := HNZ
              have hS0 : 2 ≠ 0 := fun e => hs0 (by rw [← eLL.out]; exact hz0.2 e)
              have s1 : ((q : Int) == 0) = false := by simp; omega
              rw [eLL.out] at p2
              have ww : IntKind.i64.wrap ((P.length : Int) + (q : Int)) = (P.length : Int) + (q : Int) := IntWalk.i64_in _ (by omega)
              by_cases hs1 : most < (P.length : Int) + (q : Int)
              · have HE : Hid (unpL most zs = ([], 12)) := Lib.hid (unpL_err most zs 12 (by decide) (by rw [HST.out, if_neg hS0, if_pos (by rw [eLL.out]; exact hs1)]))
                rw [eLL.out]
                clear hs0 hS0
                go_wp2
                go_ret2
                exact UnpPost.mk HE.out (.inl ⟨rfl, rfl⟩) B1.out
              · have HE : Hid (unpR most [] zs = unpR most (P ++ (List.replicate q y)) ((zs.drop k).drop 2)) := Lib.hid (by rw [HST.out, if_neg hS0, if_neg (by rw [eLL.out]; exact hs1)])
                have HS0 := Lib.hid (show 0 < 2 by omega)
                have HP1 := Lib.hid p1
                have HP2 := Lib.hid p2
                rw [eLL.out]
                clear hs0 hS0 p1 p2 p3
                go_wp2_with (at_builtin; refine wpList_appY rfl _ (.tmp 84) (.tmp 85) rfl w.heap.size _ _ P (List.replicate q y) rfl O1.out rfl R2.out (by have := HP2.out; have := eLL.out; omega) (by have := B1.out.size; omega) ?_; intro v2 w2 ho2 hb2 hg2 _; have O2 := Lib.hid ho2; have B2 := Lib.hid (B1.out.trans hb2); clear ho2 hb2 hg2)
                go_roundw
                case rel => exact ⟨k + 2, _, by have := HP1.out; omega, by go_num, O2, Lib.hid ⟨hP.out.1.app HBB.out, by rw [List.length_append]; have := HP2.out; have := eLL.out; omega⟩, Lib.hid (by rw [HE.out, List.drop_drop]), B2⟩
                case measure => have := HP1.out; have := HS0.out; simp [intOf] <;> omega
        · have eS : Hid (pcS (zs.drop k) = 0) := Lib.hid (by unfold pcS; rw [H00.out, if_pos (by omega), if_neg (by rw [HD.out]; omega)])
          have d2 : ¬ ((k : Int) + 1 < (n : Int)) := by omega
          have t1 : (127 : Int) < (x : Int) := by omega
          have t2 : (0 : Int) < 256 - (x : Int) := by omega
          have HE : Hid (unpL most zs = ([], 21)) := Lib.hid (unpL_err most zs 21 (by decide) (by rw [HST0.out, if_pos eS.out]))
          go_wp2
          go_loopw [9, 10] (fun p i wr => p = .slice none 0 0 ∧ i = .int .i64 0 ∧ wr = wo) (fun _ i _ => 0)
          case atStart => exact ⟨rfl, rfl, rfl⟩
          case round =>
            obtain ⟨rfl, rfl, rfl⟩ := hrel
            go_wp2
            go_ret2
            exact UnpPost.mk HE.out (.inl ⟨rfl, rfl⟩) hB.out
      · have t1 : ¬ ((127 : Int) < (x : Int)) := by omega
        by_cases h2 : 0 < x ∧ k + x < n
        · obtain ⟨h3, h4⟩ := h2
          have eS : Hid (pcS (zs.drop k) = 1 + x) := Lib.hid (by unfold pcS; rw [H00.out, if_neg (by omega), if_pos ⟨by omega, by rw [HD.out]; omega⟩]; rfl)
          have eB : Hid (pcB (zs.drop k) = (zs.drop (k + 1)).take x) := Lib.hid (by unfold pcB; rw [H00.out, if_neg (by omega), if_pos ⟨by omega, by rw [HD.out]; omega⟩, List.drop_drop]; rfl)
          have BS := Lib.hid (HSw.out.2.2.1)
          have d2 : decide ((k : Int) + (x : Int) < (n : Int)) = true := by rw [decide_eq_true_eq]; omega
          have hL : (zs.drop (k + 1)).length = n - (k + 1) := by rw [List.length_drop, HL.out]
          have HLL := Lib.hid hL
          clear hL
          go_wp2
          go_loopw [9, 11] (fun p i wr => ∃ q : Nat, q ≤ x ∧ i = .int .i64 ((q : Int) + 1) ∧ Hid (eY.Own 5 wr wo.heap.size p ((zs.drop (k + 1)).take q)) ∧ Hid (Below wo.heap.size wo wr)) (fun _ i _ => 256 - (intOf i).toNat)
          case atStart => exact ⟨0, Nat.zero_le _, rfl, W0, WB⟩
          case round =>
            obtain ⟨q, hq, rfl, OP, BW⟩ := hrel
            by_cases hqx : q < x
            · have c1 := (BW.out.cell (p := ⟨g, off + (k + (q + 1)), none⟩) BS.out).trans (HSw.out.at_ (k + (q + 1)) (by omega))
              have d1 : decide ((q : Int) + 1 ≤ (x : Int)) = true := by rw [decide_eq_true_eq]; omega
              have d4 : (0 : Int) ≤ (k : Int) + ((q : Int) + 1) := by omega
              have d5 : (k : Int) + ((q : Int) + 1) < (n : Int) := by omega
              have d6 : ((k : Int) + ((q : Int) + 1)).toNat = k + (q + 1) := by omega
              obtain ⟨y, hy⟩ : ∃ y, iat zs (k + (q + 1)) = y := ⟨_, rfl⟩
              rw [hy] at c1
              have HT : Hid ((zs.drop (k + 1)).take (q + 1) = (zs.drop (k + 1)).take q ++ [y]) := Lib.hid (by
                rw [List.take_succ_eq_append_getElem (by rw [HLL.out]; omega), ← iat_eq _ _ (by rw [HLL.out]; omega), iat_drop, show k + 1 + q = k + (q + 1) by omega, hy])
              have hTL : ((zs.drop (k + 1)).take q).length ≤ q := List.length_take_le _ _
              have HTL := Lib.hid hTL
              clear hy hTL
              go_wp2_with (at_builtin; refine wpList_appY rfl _ (.tmp 61) (.tmp 68) rfl wo.heap.size _ _ _ [y] rfl (Els.Own.alloc OP.out _) rfl (rdY_lit1 _ _ _) (by have := HTL.out; simp only [List.length_singleton]; omega) (by have := BW.out.size; simp; omega) ?_; intro v2 w2 ho2 hb2 hg2 _; have O2 := Lib.hid ho2; have B2 := Lib.hid ((BW.out.alloc BW.out.size _).trans hb2); clear ho2 hb2 hg2)
              go_roundw
              case rel => exact ⟨q + 1, by omega, by go_num, Lib.hid (by rw [HT.out]; exact O2.out), B2⟩
              case measure => simp [intOf] <;> omega
            · obtain rfl : q = x := by omega
              have d1 : decide ((q : Int) + 1 ≤ (q : Int)) = false := by rw [decide_eq_false_iff_not]; omega
              have eLL : Hid (((zs.drop (k + 1)).take q).length = q) := Lib.hid (by rw [List.length_take, HLL.out]; omega)
              have HNZ : q ≠ 0 := by omega
              have O1 := Lib.hid (Els.Own.below hO.out BW.out)
              have B1 := Lib.hid (Below.trans0 hB.out BW.out)
              have R1 := Lib.hid OP.out.rd
              obtain ⟨A1, c1, hv1, _⟩ := ownP_cap OP.out
              subst hv1
              have R2 : Hid (eY.Rd wr (.slice A1 q c1) ((zs.drop (k + 1)).take q)) := Lib.hid (by have h2 := R1.out; rw [eLL.out] at h2; exact h2)
              obtain ⟨A2, c2, hv2, _⟩ := ownP_cap hO.out
              subst hv2
              have hPl := hP.out.2
              obtain ⟨p1, p2, p3⟩ := PC.out
              have HBB := HBY.out
              rw [eS.out, eB.out] at p2
              rw [eS.out] at p1 p3
              rw [eB.out] at HBB
              have HST := Lib.hid HST0.out
              rw [eS.out, eB.out] at HST
              have HBB := Lib.hid HBB
              have hz0 := HZ0.out
              rw [eS.out, eB.out] at hz0
              have hs0 : q ≠ 0 := HNZ
              have hS0 : (1 + q) ≠ 0 := fun e => hs0 (by rw [← eLL.out]; exact hz0.2 e)
              have s1 : ((q : Int) == 0) = false := by simp; omega
              rw [eLL.out] at p2
              have ww : IntKind.i64.wrap ((P.length : Int) + (q : Int)) = (P.length : Int) + (q : Int) := IntWalk.i64_in _ (by omega)
              by_cases hs1 : most < (P.length : Int) + (q : Int)
              · have HE : Hid (unpL most zs = ([], 12)) := Lib.hid (unpL_err most zs 12 (by decide) (by rw [HST.out, if_neg hS0, if_pos (by rw [eLL.out]; exact hs1)]))
                rw [eLL.out]
                clear hs0 hS0
                go_wp2
                go_ret2
                exact UnpPost.mk HE.out (.inl ⟨rfl, rfl⟩) B1.out
              · have HE : Hid (unpR most [] zs = unpR most (P ++ ((zs.drop (k + 1)).take q)) ((zs.drop k).drop (1 + q))) := Lib.hid (by rw [HST.out, if_neg hS0, if_neg (by rw [eLL.out]; exact hs1)])
                have HS0 := Lib.hid (show 0 < (1 + q) by omega)
                have HP1 := Lib.hid p1
                have HP2 := Lib.hid p2
                rw [eLL.out]
                clear hs0 hS0 p1 p2 p3
                go_wp2_with (at_builtin; refine wpList_appY rfl _ (.tmp 84) (.tmp 85) rfl w.heap.size _ _ P ((zs.drop (k + 1)).take q) rfl O1.out rfl R2.out (by have := HP2.out; have := eLL.out; omega) (by have := B1.out.size; omega) ?_; intro v2 w2 ho2 hb2 hg2 _; have O2 := Lib.hid ho2; have B2 := Lib.hid (B1.out.trans hb2); clear ho2 hb2 hg2)
                go_roundw
                case rel => exact ⟨k + (1 + q), _, by have := HP1.out; omega, by go_num, O2, Lib.hid ⟨hP.out.1.app HBB.out, by rw [List.length_append]; have := HP2.out; have := eLL.out; omega⟩, Lib.hid (by rw [HE.out, List.drop_drop]), B2⟩
                case measure => have := HP1.out; have := HS0.out; simp [intOf] <;> omega
        · have eS : Hid (pcS (zs.drop k) = 0) := Lib.hid (by unfold pcS; rw [H00.out, if_neg (by omega), if_neg (by rw [HD.out]; omega)])
          have HE : Hid (unpL most zs = ([], 21)) := Lib.hid (unpL_err most zs 21 (by decide) (by rw [HST0.out, if_pos eS.out]))
          by_cases h3 : x = 0
          · subst h3
            go_wp2
            go_loopw [9, 11] (fun p i wr => p = .slice none 0 0 ∧ i = .int .i64 1 ∧ wr = wo) (fun _ i _ => 0)
            case atStart => exact ⟨rfl, rfl, rfl⟩
            case round =>
              obtain ⟨rfl, rfl, rfl⟩ := hrel
              go_wp2
              go_ret2
              exact UnpPost.mk HE.out (.inl ⟨rfl, rfl⟩) hB.out
          · have d2 : decide ((k : Int) + (x : Int) < (n : Int)) = false := by rw [decide_eq_false_iff_not]; omega
            have d3 : decide ((1 : Int) ≤ (x : Int)) = true := by rw [decide_eq_true_eq]; omega
            clear h2
            go_wp2
            go_loopw [9, 11] (fun p i wr => p = .slice none 0 0 ∧ i = .int .i64 1 ∧ wr = wo) (fun _ i _ => 0)
            case atStart => exact ⟨rfl, rfl, rfl⟩
            case round =>
              obtain ⟨rfl, rfl, rfl⟩ := hrel
              go_wp2
              go_ret2
              exact UnpPost.mk HE.out (.inl ⟨rfl, rfl⟩) hB.out
    · obtain rfl : k = n := by omega
      have hU2 := unpL_ok most zs P (by rw [hU.out, unpR_nil _ _ _ (by rw [List.length_drop, HL.out]; omega)])
      have HU2 := Lib.hid hU2
      obtain ⟨A2, c2, hv2, hc2⟩ := ownP_cap hO.out
      subst hv2
      have hPl := hP.out.2
      have CP := Lib.hid (refPack_any A2 P.length c2 P wr hO.out.rd hc2 hP.out.1 (by omega))
      clear hU2
      go_wp2_with fail
      refine CP.out.mono ?_
      rintro e w1 ⟨v1, rfl, ho, hb⟩
      have B1 := Lib.hid (hB.out.trans (hb.mono hB.out.size))
      have O1 := Lib.hid (Els.Own.below hO.out hb)
      obtain ⟨A3, c3, hv3, hc3⟩ := ownP_cap ho
      subst hv3
      have R3 := Lib.hid (rdY_open ho.rd)
      clear ho hb CP
      have HC0 : Hid (k = 0 → (packL P).length = 0) := Lib.hid (fun e => by rw [packL_nil P (by omega)]; rfl)
      have HCB := Lib.hid (packL_byt P.length P (Nat.le_refl _) hP.out.1)
      generalize packL P = C at *
      obtain ⟨L, hL⟩ : ∃ L, C.length = L := ⟨_, rfl⟩
      rw [hL] at R3 HC0 ⊢
      have HLL := Lib.hid hL
      have SZ := Lib.hid B1.out.size
      clear hL
      go_wp2
      go_loopw [13] (fun i wr => ∃ q : Nat, q ≤ k ∧ i = .int .i64 q ∧ Hid (∀ i, i < q → L = k ∧ iat C i = iat zs i) ∧ ∃ j, wr = w1.drewN j) (fun i _ => k - (intOf i).toNat)
      case atStart => exact ⟨0, Nat.zero_le _, rfl, Lib.hid (fun i hi => absurd hi (by omega)), 0, rfl⟩
      case round =>
        obtain ⟨q, hq, rfl, hE, j, rfl⟩ := hrel
        by_cases hqk : q < k
        · obtain ⟨g, off, rfl, hS⟩ := HS.out (by omega)
          have q0 : (0 : Int) ≤ q := by omega
          have qk : (q : Int) < k := by omega
          by_cases hLk : L = k
          · subst hLk
            obtain ⟨A4, c4, hv4, hcell⟩ := R3.out
            obtain ⟨rfl, _, rfl⟩ := Value.slice.inj hv4
            obtain ⟨g3, off3, rfl, hg3, hc3'⟩ := hcell (by omega)
            have e1 : w1.cell? ⟨g3, off3 + q, none⟩ = some (.int .u8 (iat C q)) := hc3' q hqk
            have e2 := (hS.below B1.out).at_ q hqk
            have n1 : ((L : Int) != (L : Int)) = false := by simp
            cases hqq : iat C q != iat zs q
            · have HE2 : Hid (∀ i, i < q + 1 → L = L ∧ iat C i = iat zs i) := Lib.hid (fun i hi => by
                rcases Nat.lt_or_ge i q with a | a
                · exact ⟨rfl, (hE.out i a).2⟩
                · obtain rfl : i = q := by omega
                  exact ⟨rfl, by simpa using hqq⟩)
              clear hS hv4 hcell hc3'
              go_wp2
              go_quiet (fail)
              go_wp2
              go_roundw
              case rel => exact ⟨q + 1, by omega, by go_num, HE2, by first | exact ⟨_, rfl⟩ | exact ⟨_, World.drewN_drewN _ _ _⟩⟩
              case measure => simp [intOf] <;> omega
            · have HF : Hid ((C == zs) = false) := Lib.hid (by
                rw [beq_eq_false_iff_ne]; rintro rfl; simp at hqq)
              rw [HF.out, if_neg (by decide)] at HU2
              clear hS hv4 hcell hc3'
              go_wp2
              go_quiet (fail)
              go_wp2
              go_ret2
              exact UnpPost.mk HU2.out (.inl ⟨rfl, rfl⟩) (by first | exact Below.drewN0 B1.out _ | exact Below.drewN0 (Below.drewN0 B1.out _) _)
          · have HF : Hid ((C == zs) = false) := Lib.hid (by
              rw [beq_eq_false_iff_ne]; rintro rfl; exact hLk (by rw [← HLL.out, HL.out]))
            rw [HF.out, if_neg (by decide)] at HU2
            have n1 : ((L : Int) != (k : Int)) = true := by simp; omega
            clear hS
            go_wp2
            go_quiet (fail)
            go_wp2
            go_ret2
            exact UnpPost.mk HU2.out (.inl ⟨rfl, rfl⟩) (by first | exact Below.drewN0 B1.out _ | exact Below.drewN0 (Below.drewN0 B1.out _) _)
        · obtain rfl : q = k := by omega
          have hLq : L = q := by
            rcases Nat.eq_zero_or_pos q with e | e
            · rw [HC0.out e, e]
            · exact (hE.out 0 e).1
          have HT : Hid ((C == zs) = true) := Lib.hid (by
            rw [beq_iff_eq]
            exact ext_iat _ _ (by rw [HLL.out, HL.out, hLq]) (fun i hi => (hE.out i (by rw [HLL.out] at hi; omega)).2))
          rw [HT.out, if_pos rfl] at HU2
          clear hLq
          go_wp2
          go_ret2
          exact UnpPost.mk HU2.out (Els.Rd.drewN O1.out.rd _) (Below.drewN0 B1.out _)
end Go.Proofs.Ytnhafficnomlbaa
