/- The law WaveDraws answers true for every input, and each argument reads afterwards as it read before. Conditions: none. -/
import Derived.Test.YtpleboogijgdcaaDoorRows
import Derived.WalkKit
import Derived.ProofKit
import Derived.OpenShut
import Derived.ShutString
import Derived.ChangeOld
import Derived.Below
import Derived.Test.YtpleboogijgdcaaDoorWvD
import Derived.Test.YtpleboogijgdcaaDoorRcA
import Derived.Deep.CutBlock
import Derived.LaidMore
import Derived.Lay
import Derived.Test.YtpleboogijgdcaaDoorCards
import Derived.Test.YtpleboogijgdcaaDoorTie
import Derived.LaidMore
import Derived.Stop.Joined
import Derived.SevenTiedAt
namespace Go.Proofs.YtpleboogijgdcaaDoor.waveDraws
open Go.ChangeShapes Go.WideShapes Go.ChangeAt Go.RowKit
open Go.ChangeMaps (open_string shut_string)
set_option linter.unusedVariables false

theorem own : ownKnob Tryd.prog.godebug = none := by kernel_rfl
theorem laidOut : laidOutB Tryd.prog = true := by kernel_rfl

set_option maxRecDepth 100000 in
set_option maxHeartbeats 20000000 in
theorem walk (a0 : Option Addr) (len0 cap0 : Nat) (z0 : List Rc) (a1 : Int) (w : World) (w0 : eR.In Rc.Ok w a0 len0 cap0 z0) (w1 : (Lit.int .i64 a1).wf = true) (hL : laidMetH Tryd.prog Rows.waveDrawsRow.laid w) :
    Calls Tryd.prog 4 #[.slice a0 len0 cap0, .int .i64 a1] w fun e w' => e = .returned (.bool true) ∧ Below w.heap.size w w' := by
  -- open 0 : List Rc | eR.In Rc.Ok | open_recs
  -- heartbeats 20000000
  obtain ⟨l, hL⟩ : ∃ l, eR.In Rc.Ok w a0 len0 cap0 l := ⟨_, w0⟩
  clear w0
  obtain ⟨hR, hln, hlm, hok⟩ := hL
  by_cases h1 : len0 ≤ 200
  case neg =>
    go_enter Tryd.func4, Tryd.ntmps4
    go_wp2
    go_ret
    exact ⟨rfl, Below.refl _ _⟩
  have hmo := bounds_i64 w1
  obtain ⟨A, c, hv, hc⟩ := hR.open_
  injection hv with e1 e2 e3
  subst e1
  subst e3
  clear e2
  rw [hln] at hc
  have HR := Lib.hid hR
  have HL := Lib.hid hln
  have HC := Lib.hid hc
  have CLk := Lib.hid (fun (k : Nat) (hk : k < 7) u (q : Below w.heap.size w u) => wvLine_any (k : Int) (by omega) (by omega) _ l u (hR.below q) (by omega))
  have CLa := Lib.hid (fun u (q : Below w.heap.size w u) => wvLine_any a1 hmo.1 hmo.2 _ l u (hR.below q) (by omega))
  have CRi := Lib.hid (fun u (q : Below w.heap.size w u) => wvRises_any a1 hmo.1 hmo.2 _ l u (hR.below q) (by omega))
  have CHi := Lib.hid (fun u (q : Below w.heap.size w u) => wvHigh_any a1 hmo.1 hmo.2 _ l u (hR.below q) (by omega))
  have CTx := Lib.hid (fun u (q : Below w.heap.size w u) => wvText_any _ l u (hR.below q) (by omega))
  have CON := Lib.hid (fun x k u => wvOn_any x k u)
  have CA := Lib.hid (fun u => alive50 u)
  have CQ := Lib.hid (fun v v' u (q : eR.Rd u v (l.map bareR)) (q' : eR.Rd u v' (l.map bareR)) => rcEq_any v v' (l.map bareR) (l.map bareR) u q q' (by rw [List.length_map]; omega))
  have eQ : eqB (l.map bareR) (l.map bareR) = true := eqB_self _
  rw [eQ] at CQ
  have BK := Lib.hid (rdF_back l (by omega))
  have CRd := Lib.hid (fun u => wvRead_any (wvT l 7) u (by rw [wvT_size l 7 (by omega)]; omega))
  have BT := Lib.hid (wvT_bare l 7)
  rw [hln] at BK CRi CHi
  have ZT := Lib.hid (fun (k : Nat) (hk : k ≤ 7) => wvT_size l k hk)
  rw [hln] at ZT
  have HMO := Lib.hid hmo
  clear hR hln hlm hok hc w1 eQ hmo
  have N0 : Hid (Blk (w.alloc (.cells #[.string ⟨#[82, 69, 65, 68, 32]⟩, .string ⟨#[66, 65, 32, 32, 32]⟩, .string ⟨#[66, 83, 32, 32, 32]⟩, .string ⟨#[76, 73, 67, 32, 32]⟩, .string ⟨#[65, 86, 77, 65, 32]⟩, .string ⟨#[66, 85, 83, 89, 32]⟩, .string ⟨#[77, 73, 78, 69, 32]⟩] 32)) w.heap.size 32 #[.string ⟨#[82, 69, 65, 68, 32]⟩, .string ⟨#[66, 65, 32, 32, 32]⟩, .string ⟨#[66, 83, 32, 32, 32]⟩, .string ⟨#[76, 73, 67, 32, 32]⟩, .string ⟨#[65, 86, 77, 65, 32]⟩, .string ⟨#[66, 85, 83, 89, 32]⟩, .string ⟨#[77, 73, 78, 69, 32]⟩]) := Lib.hid (Blk.new _ _ _ _)
  have W0 : Hid (Below w.heap.size w (w.alloc (.cells #[.string ⟨#[82, 69, 65, 68, 32]⟩, .string ⟨#[66, 65, 32, 32, 32]⟩, .string ⟨#[66, 83, 32, 32, 32]⟩, .string ⟨#[76, 73, 67, 32, 32]⟩, .string ⟨#[65, 86, 77, 65, 32]⟩, .string ⟨#[66, 85, 83, 89, 32]⟩, .string ⟨#[77, 73, 78, 69, 32]⟩] 32))) := Lib.hid (Below.alloc0 (Below.refl _ _) _)
  go_enter Tryd.func4, Tryd.ntmps4
  go_wp2
  generalize w.alloc (.cells #[.string ⟨#[82, 69, 65, 68, 32]⟩, .string ⟨#[66, 65, 32, 32, 32]⟩, .string ⟨#[66, 83, 32, 32, 32]⟩, .string ⟨#[76, 73, 67, 32, 32]⟩, .string ⟨#[65, 86, 77, 65, 32]⟩, .string ⟨#[66, 85, 83, 89, 32]⟩, .string ⟨#[77, 73, 78, 69, 32]⟩] 32) = w1 at N0 W0 ⊢
  go_loopw [6, 8] (fun s i wr => ∃ k : Nat, k ≤ 7 ∧ i = .int .i64 k ∧ s = .string (wvT l k) ∧ Hid (Blk wr w.heap.size 32 #[.string ⟨#[82, 69, 65, 68, 32]⟩, .string ⟨#[66, 65, 32, 32, 32]⟩, .string ⟨#[66, 83, 32, 32, 32]⟩, .string ⟨#[76, 73, 67, 32, 32]⟩, .string ⟨#[65, 86, 77, 65, 32]⟩, .string ⟨#[66, 85, 83, 89, 32]⟩, .string ⟨#[77, 73, 78, 69, 32]⟩]) ∧ Hid (Below w.heap.size w wr)) (fun _ i _ => 7 - (intOf i).toNat)
  case atStart => exact ⟨0, Nat.zero_le _, rfl, rfl, N0, W0⟩
  case round =>
    obtain ⟨k, hk, rfl, rfl, hN, hW⟩ := hrel
    obtain ⟨wo, rfl⟩ : ∃ wo : World, wo = wr := ⟨_, rfl⟩
    by_cases hlt : k < 7
    · have k0 : (0 : Int) ≤ k := by omega
      have k1 : (k : Int) < 7 := by omega
      have K7 := Lib.hid hlt
      have TN := Lib.hid (show wvT l (k + 1) = wvT l k ++ wvR l k from rfl)
      have RE : Hid (wvR l k = ((wvNm k ++ wvPd k) ++ strOfNums (wvL (k : Int) l)) ++ ⟨#[10]⟩) := Lib.hid rfl
      have zt := ZT.out k hk
      have km : k * (len0 + 6) ≤ 7 * (len0 + 6) := Nat.mul_le_mul_right _ (by omega)
      obtain ⟨T, hT⟩ : ∃ T, wvT l k = T := ⟨_, rfl⟩
      rw [hT] at TN zt ⊢
      have zT : T.size ≤ 2000 := by omega
      clear hT zt km
      go_wp2
      go_loopw [9, 10] (fun s i wr => ∃ j : Nat, j ≤ len0 ∧ i = .int .i64 j ∧ s = .string (strOfNums ((l.take j).map fun x => wvC x k)) ∧ Hid (Blk wr w.heap.size 32 #[.string ⟨#[82, 69, 65, 68, 32]⟩, .string ⟨#[66, 65, 32, 32, 32]⟩, .string ⟨#[66, 83, 32, 32, 32]⟩, .string ⟨#[76, 73, 67, 32, 32]⟩, .string ⟨#[65, 86, 77, 65, 32]⟩, .string ⟨#[66, 85, 83, 89, 32]⟩, .string ⟨#[77, 73, 78, 69, 32]⟩]) ∧ Hid (Below w.heap.size w wr)) (fun _ i _ => len0 - (intOf i).toNat)
      case atStart => exact ⟨0, Nat.zero_le _, rfl, rfl, hN, hW⟩
      case round =>
        obtain ⟨j, hj, rfl, rfl, hN2, hW2⟩ := hrel
        by_cases hlt2 : j < len0
        · obtain ⟨g, off, rfl, hg, hcell⟩ := HC.out (by omega)
          obtain ⟨x, hx⟩ : ∃ x, l[j]? = some x := ⟨_, List.getElem?_eq_getElem (by rw [HL.out]; exact hlt2)⟩
          obtain ⟨d0, d1, d2, d3, d4, d5, d6, d7, d8⟩ := rc9_at hW2.out hg (fun jj u hu => hcell j x hx jj u hu)
          have TK : Hid (strOfNums ((l.take (j + 1)).map fun x => wvC x k) = strOfNums ((l.take j).map fun x => wvC x k) ++ strOfNums [wvC x k]) := Lib.hid (by
            rw [List.take_add_one, hx, strOf_append, List.map_append]; rfl)
          have zj : (strOfNums ((l.take j).map fun x => wvC x k)).size ≤ 200 := by rw [strOf_size, List.length_map, List.length_take]; omega
          have j0 : (0 : Int) ≤ j := by omega
          have j1 : (j : Int) < len0 := by omega
          have CX := Lib.hid (fun u => CON.out x (k : Int) u)
          have EO : wvO x (k : Int) = wvB x k := by unfold wvO; rw [decide_eq_true (by omega)]; simp
          rw [EO] at CX
          have EC : wvC x k = if wvB x k then 35 else 95 := rfl
          rw [EC] at TK
          obtain ⟨s, hs⟩ : ∃ s, strOfNums ((l.take j).map fun x => wvC x k) = s := ⟨_, rfl⟩
          rw [hs] at TK zj ⊢
          have y1 : ¬ 9223372036854775807 < s.size + 1 := by omega
          have o35 : strOfNums [35] = ⟨#[35]⟩ := rfl
          have o95 : strOfNums [95] = ⟨#[95]⟩ := rfl
          generalize wvB x k = q at CX TK
          clear hcell hx EO EC hs
          cases q
          case true =>
            have TK2 : Hid (strOfNums ((l.take (j + 1)).map fun x => wvC x k) = s ++ ⟨#[35]⟩) := Lib.hid (by rw [TK.out, if_pos rfl, o35])
            clear TK o35 o95
            go_wp2_with fail
            refine (CX.out _).mono ?_
            rintro e w2 ⟨rfl, hb⟩
            have HN2 := Lib.hid (Blk.below hN2.out hb hN2.out.lt)
            have HW2 := Lib.hid (Below.trans0 hW2.out hb)
            clear hb d0 d1 d2 d3 d4 d5 d6 d7 d8
            go_wp2
            go_roundw
            case rel => exact ⟨j + 1, by omega, by go_num, by rw [TK2.out], HN2, HW2⟩
            case measure => simp [intOf]; omega
          case false =>
            have TK2 : Hid (strOfNums ((l.take (j + 1)).map fun x => wvC x k) = s ++ ⟨#[95]⟩) := Lib.hid (by rw [TK.out, if_neg (by decide), o95])
            clear TK o35 o95
            go_wp2_with fail
            refine (CX.out _).mono ?_
            rintro e w2 ⟨rfl, hb⟩
            have HN2 := Lib.hid (Blk.below hN2.out hb hN2.out.lt)
            have HW2 := Lib.hid (Below.trans0 hW2.out hb)
            clear hb d0 d1 d2 d3 d4 d5 d6 d7 d8
            go_wp2
            go_roundw
            case rel => exact ⟨j + 1, by omega, by go_num, by rw [TK2.out], HN2, HW2⟩
            case measure => simp [intOf]; omega
        · obtain rfl : j = len0 := by omega
          have ET : strOfNums ((l.take j).map fun x => wvC x k) = strOfNums (wvL (k : Int) l) := by
            rw [List.take_of_length_le (by rw [HL.out]; exact Nat.le_refl _), wvL_at k K7.out]
          have CK := Lib.hid (CLk.out k K7.out _ hW2.out)
          have zS : (strOfNums (wvL (k : Int) l)).size ≤ 200 := by rw [strOf_size, wvL_at k K7.out, List.length_map, HL.out]; omega
          rw [ET]
          obtain ⟨S, hS⟩ : ∃ S, strOfNums (wvL (k : Int) l) = S := ⟨_, rfl⟩
          rw [hS] at CK zS RE ⊢
          obtain ⟨N5, hN5⟩ : ∃ z, wvNm k ++ wvPd k = z := ⟨_, rfl⟩
          have z5 : N5.size = 5 := by rw [← hN5]; exact wvPre_size k K7.out
          have q5 : (#[.string ⟨#[82, 69, 65, 68, 32]⟩, .string ⟨#[66, 65, 32, 32, 32]⟩, .string ⟨#[66, 83, 32, 32, 32]⟩, .string ⟨#[76, 73, 67, 32, 32]⟩, .string ⟨#[65, 86, 77, 65, 32]⟩, .string ⟨#[66, 85, 83, 89, 32]⟩, .string ⟨#[77, 73, 78, 69, 32]⟩] : Array Value)[k]? = some (.string N5) := by
            rw [← hN5]
            have := K7.out
            rcases (show k = 0 ∨ k = 1 ∨ k = 2 ∨ k = 3 ∨ k = 4 ∨ k = 5 ∨ k = 6 by omega) with rfl | rfl | rfl | rfl | rfl | rfl | rfl <;> rfl
          rw [hN5] at RE
          have e1 : (S.toList == S.toList) = true := by simp
          have e2 : (S.toList != S.toList) = false := by rw [bne, e1]; rfl
          have y2 : ¬ 9223372036854775807 < N5.size + S.size := by omega
          have y3 : ¬ 9223372036854775807 < (N5 ++ S).size + 1 := by rw [ByteArray.size_append]; omega
          have c10 : (⟨#[10]⟩ : ByteArray).size = 1 := rfl
          have y4 : ¬ 9223372036854775807 < T.size + ((N5 ++ S) ++ ⟨#[10]⟩).size := by simp only [ByteArray.size_append]; omega
          have y3' : ¬ 9223372036854775807 < N5.size + S.size + 1 := by omega
          have TN2 : Hid (wvT l (k + 1) = T ++ ((N5 ++ S) ++ ⟨#[10]⟩)) := Lib.hid (by rw [TN.out, RE.out])
          clear ET hS hN5
          go_wp2_with fail
          refine CK.out.mono ?_
          rintro e w2 ⟨rfl, hb⟩
          have HN2 := Lib.hid (Blk.below hN2.out hb hN2.out.lt)
          have HW2 := Lib.hid (Below.trans0 hW2.out hb)
          have q0 : w2.cell? ⟨w.heap.size, k, none⟩ = some (.string N5) := (HN2.out.cell k).trans q5
          clear hb q5
          go_wp2
          go_roundw
          case rel => exact ⟨k + 1, by have := K7.out; omega, by go_num, by rw [TN2.out], HN2, HW2⟩
          case measure => have := K7.out; simp [intOf]; omega
    · obtain rfl : k = 7 := by omega
      rw [show (((7 : Nat) : Int)) = (7 : Int) from rfl]
      clear hlt hk hN
      obtain ⟨T, hT⟩ : ∃ T, wvT l 7 = T := ⟨_, rfl⟩
      rw [hT] at CRd CTx BK BT ⊢
      clear hT ZT
      go_wp2
      go_loopw [7, 11, 12, 13] (fun v r h i wr => ∃ j : Nat, j ≤ len0 ∧ i = .int .i64 j ∧ r = .int .i64 (riN (wvOn l a1) j : Nat) ∧ h = .int .i64 (hiN (wvOn l a1) j : Nat) ∧ Hid (eR.Own 30 wr w.heap.size v ((l.take j).map bareR)) ∧ Hid (Below w.heap.size w wr)) (fun _ _ _ i _ => len0 - (intOf i).toNat)
      case atStart => exact ⟨0, Nat.zero_le _, rfl, rfl, rfl, Lib.hid (Els.Own.nil_ _ _), hW⟩
      case round =>
        obtain ⟨j, hj, rfl, rfl, rfl, hO, hW2⟩ := hrel
        by_cases hlt2 : j < len0
        · obtain ⟨g, off, rfl, hg, hcell⟩ := HC.out (by omega)
          obtain ⟨x, hx⟩ : ∃ x, l[j]? = some x := ⟨_, List.getElem?_eq_getElem (by rw [HL.out]; exact hlt2)⟩
          have CE := fun u (hu : Below w.heap.size w u) => rc9_at hu hg (fun jj u hu => hcell j x hx jj u hu)
          obtain ⟨d0, d1, d2, d3, d4, d5, d6, d7, d8⟩ := CE wr hW2.out
          have TK : Hid ((l.take (j + 1)).map bareR = (l.take j).map bareR ++ [bareR x]) := Lib.hid (by
            rw [List.take_add_one, hx, List.map_append]; rfl)
          have LN : ((l.take j).map bareR).length ≤ 200 := by rw [List.length_map, List.length_take]; omega
          have j0 : (0 : Int) ≤ j := by omega
          have j1 : (j : Int) < len0 := by omega
          have CX := Lib.hid (fun u => CON.out x a1 u)
          have gx := wvOn_get l a1 j x hx
          have RN := Lib.hid (show riN (wvOn l a1) (j + 1) = riN (wvOn l a1) j + (if (wvOn l a1).getD j false && (j == 0 || !(wvOn l a1).getD (j - 1) false) then 1 else 0) from rfl)
          have HN := Lib.hid (show hiN (wvOn l a1) (j + 1) = hiN (wvOn l a1) j + (if (wvOn l a1).getD j false then 1 else 0) from rfl)
          rw [gx] at RN HN
          have rl := riN_le (wvOn l a1) j
          have hl := hiN_le (wvOn l a1) j
          have PRE : Hid (0 < j → ∃ y, l[j - 1]? = some y ∧ (wvOn l a1).getD (j - 1) false = wvO y a1) := Lib.hid (fun hp => by
            have hy : l[j - 1]? = some _ := List.getElem?_eq_getElem (by rw [HL.out]; omega)
            exact ⟨_, hy, wvOn_get l a1 (j - 1) _ hy⟩)
          obtain ⟨bv, hbv⟩ : ∃ z, (wvOn l a1).getD (j - 1) false = z := ⟨_, rfl⟩
          rw [hbv] at RN PRE
          obtain ⟨q, hq⟩ : ∃ q, wvO x a1 = q := ⟨_, rfl⟩
          rw [hq] at CX RN HN
          generalize riN (wvOn l a1) j = rr at *
          generalize hiN (wvOn l a1) j = hh at *
          obtain ⟨L, hLL⟩ : ∃ L, (l.take j).map bareR = L := ⟨_, rfl⟩
          rw [hLL] at hO TK LN
          have HCE := Lib.hid CE
          have HCell := Lib.hid hcell
          have HGB := Lib.hid hg
          clear hcell hx gx hbv hq hLL CE hg
          obtain ⟨a, d, r, b1, b2, b3, b4, b5, mn⟩ := x
          simp only at d0 d1 d2 d3 d4 d5 d6 d7 d8
          have HB2 := Lib.hid (Below.alloc0 (Below.alloc0 hW2.out (.cells #[.int .u16 0, .int .u8 0, .bool r, .bool b1, .bool b2, .bool b3, .bool b4, .bool b5, .bool mn] 30)) (.cells #[.int .u16 0, .int .u8 0, .bool r, .bool b1, .bool b2, .bool b3, .bool b4, .bool b5, .bool mn] 30))
          have HO2 := Lib.hid ((hO.out.alloc (.cells #[.int .u16 0, .int .u8 0, .bool r, .bool b1, .bool b2, .bool b3, .bool b4, .bool b5, .bool mn] 30)).alloc (.cells #[.int .u16 0, .int .u8 0, .bool r, .bool b1, .bool b2, .bool b3, .bool b4, .bool b5, .bool mn] 30))
          have HR2 : Hid (eR.Rd ((wr.alloc (.cells #[.int .u16 0, .int .u8 0, .bool r, .bool b1, .bool b2, .bool b3, .bool b4, .bool b5, .bool mn] 30)).alloc (.cells #[.int .u16 0, .int .u8 0, .bool r, .bool b1, .bool b2, .bool b3, .bool b4, .bool b5, .bool mn] 30)) (.slice (some ⟨wr.heap.size + 1, 0, none⟩) 1 1) [(⟨0, 0, r, b1, b2, b3, b4, b5, mn⟩ : Rc)]) := Lib.hid (Els.Rd.new (E := eR) (g := wr.heap.size + 1) (wr.alloc (.cells #[.int .u16 0, .int .u8 0, .bool r, .bool b1, .bool b2, .bool b3, .bool b4, .bool b5, .bool mn] 30)) (by simp) 30 [(⟨0, 0, r, b1, b2, b3, b4, b5, mn⟩ : Rc)] #[.int .u16 0, .int .u8 0, .bool r, .bool b1, .bool b2, .bool b3, .bool b4, .bool b5, .bool mn] 1 rfl rfl 1)
          have CEs : Hid (w.heap.size ≤ wr.heap.size) := Lib.hid hW2.out.size
          go_wp2_with (at_builtin; refine wpList_appRc rfl _ (.tmp 66) (.tmp 68) rfl w.heap.size u7 _ L [(⟨0, 0, r, b1, b2, b3, b4, b5, mn⟩ : Rc)] rfl HO2.out rfl HR2.out (by first | omega | (simp; omega)) (by have := CEs.out; first | omega | (simp; omega)) ?_; intro v' w2 hown hbel hgr hwh; have HO3 := Lib.hid hown; have HB3 := Lib.hid (Below.trans HB2.out hbel); obtain ⟨f0, f1, f2, f3, f4, f5, f6, f7, f8⟩ := HCE.out w2 HB3.out; clear hown hbel hgr hwh d0 d1 d2 d3 d4 d5 d6 d7 d8)
          refine (CX.out _).mono ?_
          rintro e w3 ⟨rfl, hb⟩
          have HB4 := Lib.hid (Below.trans0 HB3.out hb)
          have HO4 : Hid (eR.Own 30 w3 w.heap.size v' ((l.take (j + 1)).map bareR)) := Lib.hid (by rw [TK.out]; exact HO3.out.below hb)
          clear hb HO3 HO2 HR2 HB2 f0 f1 f2 f3 f4 f5 f6 f7 f8
          cases q
          case false =>
            go_wp2
            go_roundw
            case rel => exact ⟨j + 1, by omega, by go_num, by rw [RN.out]; simp, by rw [HN.out]; simp, HO4, HB4⟩
            case measure => simp [intOf]; omega
          case true =>
            by_cases hj0 : j = 0
            · subst hj0
              go_wp2
              go_roundw
              case rel => exact ⟨0 + 1, by omega, by go_num, by rw [RN.out]; simp, by rw [HN.out]; simp, HO4, HB4⟩
              case measure => simp [intOf]; omega
            · obtain ⟨y, hy, hyb⟩ := PRE.out (by omega)
              have hj00 : (j == 0) = false := by simpa using hj0
              rw [hj00] at RN
              have CY := Lib.hid (fun u => CON.out y a1 u)
              rw [← hyb] at CY
              obtain ⟨g0, g1, g2, g3, g4, g5, g6, g7, g8⟩ := rc9_at HB4.out HGB.out (fun jj u hu => HCell.out (j - 1) y hy jj u hu)
              obtain ⟨J, hJ⟩ : ∃ J, j - 1 = J := ⟨_, rfl⟩
              have hJ1 : (j : Int) - 1 = (J : Int) := by omega
              have hJ2 : (J : Int) < len0 := by omega
              have hJ3 : (0 : Int) ≤ J := by omega
              have hj01 : ((j : Int) == 0) = false := by rw [beq_eq_false_iff_ne]; omega
              rw [hJ] at g0 g1 g2 g3 g4 g5 g6 g7 g8
              clear hy hyb hJ hj0
              go_wp2_with fail
              refine (CY.out _).mono ?_
              rintro e w5 ⟨rfl, hb⟩
              have HB5 := Lib.hid (Below.trans0 HB4.out hb)
              have HO5 := Lib.hid (HO4.out.below hb)
              clear hb g0 g1 g2 g3 g4 g5 g6 g7 g8
              cases bv
              case false =>
                go_wp2
                go_roundw
                case rel => exact ⟨j + 1, by omega, by go_num, by rw [RN.out]; simp, by rw [HN.out]; simp, HO5, HB5⟩
                case measure => simp [intOf]; omega
              case true =>
                go_wp2
                go_roundw
                case rel => exact ⟨j + 1, by omega, by go_num, by rw [RN.out]; simp, by rw [HN.out]; simp, HO5, HB5⟩
                case measure => simp [intOf]; omega
        · obtain rfl : j = len0 := by omega
          have HO2 : Hid (eR.Own 30 wr w.heap.size u7 (l.map bareR)) := Lib.hid (by have := hO.out; rwa [List.take_of_length_le (by rw [HL.out]; exact Nat.le_refl _)] at this)
          have HR2 := Lib.hid HO2.out.rd
          clear hO HO2 hj hlt2
          generalize riN (wvOn l a1) j = rr at CRi ⊢
          generalize hiN (wvOn l a1) j = hh at CHi ⊢
          have q1 : (rr : Int) = rr := rfl
          have e1 : ((rr : Int) == (rr : Int)) = true := by simp
          have e2 : ((hh : Int) == (hh : Int)) = true := by simp
          have e3 : (T.toList == T.toList) = true := by simp
          clear q1
          obtain ⟨bk1, bk2⟩ := BK.out
          have FIN0 : Hid (∀ u e w', WvPost T u e w' → Below u.heap.size u w' ∧ ∃ v, e = .returned (.tuple #[v, .int .i64 0]) ∧ eR.Rd w' v (l.map bareR)) := Lib.hid (by
            rintro u e w' ⟨hb, h | ⟨_, _, v, he, hv⟩⟩
            · exfalso
              rcases h.2 with h | h
              · omega
              · rw [bk1, show j + 6 - 6 = j by omega, bk2] at h
                exact h BT.out
            · rw [bk1, show j + 6 - 6 = j by omega, bk2] at hv
              exact ⟨hb, v, he, hv⟩)
          clear bk1 bk2
          by_cases ho : a1 < 0 ∨ 6 < a1
          · have EL : wvL a1 l = [] := by unfold wvL; rw [if_pos ho]
            rw [EL] at CLa
            have o1 : strOfNums [] = ⟨#[]⟩ := rfl
            rw [o1] at CLa
            clear EL o1
            by_cases ho1 : a1 < 0
            · clear ho
              go_wp2_with fail
              refine (CLa.out _ hW2.out).mono ?_
              rintro e v0 ⟨rfl, hb⟩
              have HB0 := Lib.hid (Below.trans0 hW2.out hb)
              have HR0 := Lib.hid (HR2.out.below hb)
              clear hb
              go_wp2_with fail
              refine (CRd.out _).mono ?_
              rintro e v1 hp
              obtain ⟨hb, vv, rfl, hv⟩ := FIN0.out _ _ _ hp
              have HB1 := Lib.hid (Below.trans0 HB0.out hb)
              have HR1 := Lib.hid (HR0.out.below hb)
              have HV1 := Lib.hid hv
              clear hb hv hp
              go_wp2_with fail
              refine (CTx.out _ HB1.out).mono ?_
              rintro e v2 ⟨rfl, hb⟩
              have HB2 := Lib.hid (Below.trans0 HB1.out hb)
              have HR2x := Lib.hid (HR1.out.below hb)
              have HV2 := Lib.hid (HV1.out.below hb)
              clear hb
              go_wp2_with fail
              refine (CRi.out _ HB2.out).mono ?_
              rintro e v3 ⟨rfl, hb⟩
              have HB3 := Lib.hid (Below.trans0 HB2.out hb)
              have HR3 := Lib.hid (HR2x.out.below hb)
              have HV3 := Lib.hid (HV2.out.below hb)
              clear hb
              go_wp2_with fail
              refine (CHi.out _ HB3.out).mono ?_
              rintro e v4 ⟨rfl, hb⟩
              have HB4 := Lib.hid (Below.trans0 HB3.out hb)
              have HR4 := Lib.hid (HR3.out.below hb)
              have HV4 := Lib.hid (HV3.out.below hb)
              clear hb
              go_wp2_with fail
              refine (CQ.out _ _ _ HV4.out HR4.out).mono ?_
              rintro e v5 ⟨rfl, jj, hw⟩
              have HB5 : Hid (Below w.heap.size w v5) := Lib.hid (by rw [hw]; exact Below.drewN0 HB4.out _)
              clear hw
              go_wp2_with fail
              refine (CA.out _).mono ?_
              rintro e v6 ⟨rfl, hb⟩
              have HB6 := Lib.hid (Below.trans0 HB5.out hb)
              go_wp2
              go_ret
              exact ⟨rfl, HB6.out⟩
            · have ho2 : 6 < a1 := by omega
              clear ho
              go_wp2_with fail
              refine (CLa.out _ hW2.out).mono ?_
              rintro e v0 ⟨rfl, hb⟩
              have HB0 := Lib.hid (Below.trans0 hW2.out hb)
              have HR0 := Lib.hid (HR2.out.below hb)
              clear hb
              go_wp2_with fail
              refine (CRd.out _).mono ?_
              rintro e v1 hp
              obtain ⟨hb, vv, rfl, hv⟩ := FIN0.out _ _ _ hp
              have HB1 := Lib.hid (Below.trans0 HB0.out hb)
              have HR1 := Lib.hid (HR0.out.below hb)
              have HV1 := Lib.hid hv
              clear hb hv hp
              go_wp2_with fail
              refine (CTx.out _ HB1.out).mono ?_
              rintro e v2 ⟨rfl, hb⟩
              have HB2 := Lib.hid (Below.trans0 HB1.out hb)
              have HR2x := Lib.hid (HR1.out.below hb)
              have HV2 := Lib.hid (HV1.out.below hb)
              clear hb
              go_wp2_with fail
              refine (CRi.out _ HB2.out).mono ?_
              rintro e v3 ⟨rfl, hb⟩
              have HB3 := Lib.hid (Below.trans0 HB2.out hb)
              have HR3 := Lib.hid (HR2x.out.below hb)
              have HV3 := Lib.hid (HV2.out.below hb)
              clear hb
              go_wp2_with fail
              refine (CHi.out _ HB3.out).mono ?_
              rintro e v4 ⟨rfl, hb⟩
              have HB4 := Lib.hid (Below.trans0 HB3.out hb)
              have HR4 := Lib.hid (HR3.out.below hb)
              have HV4 := Lib.hid (HV3.out.below hb)
              clear hb
              go_wp2_with fail
              refine (CQ.out _ _ _ HV4.out HR4.out).mono ?_
              rintro e v5 ⟨rfl, jj, hw⟩
              have HB5 : Hid (Below w.heap.size w v5) := Lib.hid (by rw [hw]; exact Below.drewN0 HB4.out _)
              clear hw
              go_wp2_with fail
              refine (CA.out _).mono ?_
              rintro e v6 ⟨rfl, hb⟩
              have HB6 := Lib.hid (Below.trans0 HB5.out hb)
              go_wp2
              go_ret
              exact ⟨rfl, HB6.out⟩
          · have ho1 : ¬ a1 < 0 := fun q => ho (.inl q)
            have ho2 : ¬ 6 < a1 := fun q => ho (.inr q)
            clear ho
            go_wp2_with fail
            refine (CRd.out _).mono ?_
            rintro e v1 hp
            obtain ⟨hb, vv, rfl, hv⟩ := FIN0.out _ _ _ hp
            have HB1 := Lib.hid (Below.trans0 hW2.out hb)
            have HR1 := Lib.hid (HR2.out.below hb)
            have HV1 := Lib.hid hv
            clear hb hv hp
            go_wp2_with fail
            refine (CTx.out _ HB1.out).mono ?_
            rintro e v2 ⟨rfl, hb⟩
            have HB2 := Lib.hid (Below.trans0 HB1.out hb)
            have HR2x := Lib.hid (HR1.out.below hb)
            have HV2 := Lib.hid (HV1.out.below hb)
            clear hb
            go_wp2_with fail
            refine (CRi.out _ HB2.out).mono ?_
            rintro e v3 ⟨rfl, hb⟩
            have HB3 := Lib.hid (Below.trans0 HB2.out hb)
            have HR3 := Lib.hid (HR2x.out.below hb)
            have HV3 := Lib.hid (HV2.out.below hb)
            clear hb
            go_wp2_with fail
            refine (CHi.out _ HB3.out).mono ?_
            rintro e v4 ⟨rfl, hb⟩
            have HB4 := Lib.hid (Below.trans0 HB3.out hb)
            have HR4 := Lib.hid (HR3.out.below hb)
            have HV4 := Lib.hid (HV3.out.below hb)
            clear hb
            go_wp2_with fail
            refine (CQ.out _ _ _ HV4.out HR4.out).mono ?_
            rintro e v5 ⟨rfl, jj, hw⟩
            have HB5 : Hid (Below w.heap.size w v5) := Lib.hid (by rw [hw]; exact Below.drewN0 HB4.out _)
            clear hw
            go_wp2_with fail
            refine (CA.out _).mono ?_
            rintro e v6 ⟨rfl, hb⟩
            have HB6 := Lib.hid (Below.trans0 HB5.out hb)
            go_wp2
            go_ret
            exact ⟨rfl, HB6.out⟩

set_option maxRecDepth 100000 in
theorem lifted (os : Os) (started : os.Started) (H : Type) (enc : TypeId × Value → H) :
    ReturnsInHanded {} Tryd.checked os 4 .any (fun w args => (Rows.waveDrawsSpec.pre enc Tryd.prog Tryd.f4 Rows.waveDrawsRow.domain false w args ∧ laidMetH Tryd.prog Rows.waveDrawsRow.laid w) ∧ sizedMet enc Tryd.prog Tryd.f4 (OpenSpec.ofChange Rows.waveDrawsSpec) false w args) (Rows.waveDrawsSpec.post enc Tryd.prog Tryd.f4 false true false false) := by
  refine returnsInHanded_of_change_and (C := Tryd.checked) (X := fun w _ => laidMetH Tryd.prog Rows.waveDrawsRow.laid w) (fun _ _ _ hh h => h.of_heap hh) own started (by kernel_rfl) Tryd.func4
    (ChangeSpec.witness_shaped (enc := enc) (C := Tryd.checked) (os := os) (X := fun w _ => laidMetH Tryd.prog Rows.waveDrawsRow.laid w) false (World.laidAll Tryd.prog os Rows.waveDrawsRow.laid) #[.slice none 0 0, .int .i64 0] 8 (World.laidAll_os _ _ _) (World.shaped_of_ZipB (by kernel_rfl) (by kernel_rfl)) (by kernel_rfl) (by kernel_rfl) (by kernel_rfl) (by rw [MakeChecks.laidMetH_plain _ _ _ (by kernel_rfl)]; exact laidMet_laidAll _ (by kernel_rfl) (by kernel_rfl))) ?_
  intro W base args ds gs before hval0 hW _ hZ hL _
  have hval : ∀ (j : Nat) t v, Tryd.f4.params[j]? = some t → args[j]? = some v → Value.okWide Tryd.prog W .any base t v := hval0
  have hW' := hW
  obtain ⟨p, q, hA0, hV, rfl, hfz, hnd⟩ := hW
  have hA : DataW.TrodAll enc Tryd.prog W 0 (fun _ => true) true Tryd.f4.params.toList args.toList ds p := hA0
  rw [Tryd.params4] at hA hval
  obtain ⟨v0, vs0, d0, ds0, p0, q0, hargs, rfl, rfl, h0, r0⟩ := trodAll_cons hA
  obtain ⟨v1, vs1, d1, ds1, p1, q1, rfl, rfl, rfl, h1, r1⟩ := trodAll_cons r0
  obtain ⟨rfl, rfl, rfl⟩ := trodAll_nil r1
  obtain rfl : args = #[v0, v1] := by cases args; simp_all
  obtain ⟨rfl, rfl⟩ := trodVars_none hV
  obtain ⟨a0, len0, cap0, rfl⟩ := okWide_slice Tryd.underlying22 (hval 0 22 v0 rfl rfl)
  have k0 := h0
  have lt0 : ∀ x ∈ p0, x.block < W.heap.size := by obtain ⟨m, hm⟩ := k0; exact DataW.trod_lt m _ _ _ hm
  obtain ⟨z0, w0⟩ : ∃ zs, eR.In Rc.Ok W a0 len0 cap0 zs := by
    obtain ⟨fuel, hf⟩ := h0
    exact open_recs hf
  obtain ⟨a1, rfl, rfl, rfl, w1⟩ := open_int Tryd.underlying3 (hval 1 3 v1 rfl rfl) h1
  clear hA0 hval0
  refine (walk a0 len0 cap0 z0 a1 W w0 w1 hL).mono fun e W' ⟨he, bel⟩ => ?_
  subst he
  exact ⟨_, rfl, _, _, _, [], _, [], hW', trodAll_mk1 (shut_bool Tryd.underlying4 _), (trodAll_cons_mk (Below.trod laidOut (by kernel_rfl) (of_decide_eq_true (by kernel_rfl)) k0 bel lt0) (trodAll_cons_mk (shut_int Tryd.underlying3 w1) trodAll_mk0)), rfl, bel.frame _, fun h => by cases h⟩

theorem over : Rows.waveDrawsRow.holds Tryd.pinned (OpenSpec.ofChange Rows.waveDrawsSpec) :=
  OpenClaim.holds_of_wide 4 Tryd.f4 rfl rfl rfl rfl rfl rfl rfl ⟨rfl, rfl, rfl, rfl, rfl⟩ rfl rfl rfl rfl rfl (by kernel_rfl) Tryd.func4 (by kernel_rfl)
    (of_decide_eq_true (by kernel_rfl)) (by unfold Func.isWrapper; first | (rw [if_pos (by decide +kernel)]; kernel_rfl) | (rw [if_neg (by decide +kernel)]; exact ⟨rfl, rfl⟩))
    (fun os started H enc _ => lifted os started H enc)

theorem proved : Rows.WaveDrawsCardSaid :=
  Claim7.holds_tied_plain_at .later [] [.data, .pinned] true (true, "1119c0596124d8fc52523c80dcf893b996e4e019c20ae2c4690bdeabedf2d936") false
    over (fun _ h => by cases h) (by kernel_rfl) (fun _ h => by cases h) waveDraws_row_tie rfl ⟨rfl, rfl⟩ (by kernel_rfl) rfl
    (fun f fn hf hfn => by
      obtain rfl : f = 4 := Option.some.inj ((show Tryd.prog.funcNamed "spinet/spinetlaw50.WaveDraws" = some 4 by kernel_rfl).symm.trans hf) |>.symm
      obtain rfl : fn = Tryd.f4 := (Option.some.inj (Tryd.func4.symm.trans hfn)).symm
      exact ⟨by kernel_rfl, fun j t ht => by
        rw [Tryd.params4] at ht
        have hm : t ∈ [22, 3] := by have := Array.mem_of_getElem? ht; simp at this ⊢; omega
        have hall : ([22, 3].all fun u => !Tryd.prog.wantsStandIn u) = true := by kernel_rfl
        exact (show Tryd.prog.wantsStandIn t = false by simpa using List.all_eq_true.1 hall t hm)⟩)
    (by kernel_rfl)
#print axioms proved
end Go.Proofs.YtpleboogijgdcaaDoor.waveDraws
