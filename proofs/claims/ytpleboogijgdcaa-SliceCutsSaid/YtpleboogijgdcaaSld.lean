/- Parts of a trace: what the law asks of a part (told). -/
import Derived.Test.YtpleboogijgdcaaSlm
import Derived.Deep.RegionHeld3
import Derived.Deep.CutBlock
namespace Go.Proofs.Ytpleboogijgdcaa
open Go.ChangeShapes Go.WideShapes Go.ChangeAt Go.RowKit
set_option linter.unusedVariables false

set_option maxRecDepth 100000 in
set_option maxHeartbeats 20000000 in
theorem slTold_any (v : Value) (e : Bool) (l : List Rc) (w : World) (hr : eR.Rd w v l) (hok : ∀ x ∈ l, x.Ok) (hn : l.length ≤ 1000) :
    Calls Try.prog 18 #[.agg #[v, .bool e]] w fun e' w' => e' = .returned (.bool true) ∧ Below w.heap.size w w' := by
  have COwn := Lib.hid (fun u (q : Below w.heap.size w u) => slOwn_any v e l u (hr.below q) (by omega))
  have CLost := Lib.hid (fun u (q : Below w.heap.size w u) => slLost_any v e l u (hr.below q) (by omega))
  have CStart := Lib.hid (fun u (q : Below w.heap.size w u) => slStart_any v e l u (hr.below q) (by omega))
  have CVec := Lib.hid (fun u (q : Below w.heap.size w u) => slVector_any v e l u (hr.below q) (by omega))
  have CWr := Lib.hid (fun u (q : Below w.heap.size w u) => slWrites_any v e l u (hr.below q) (by omega))
  have CTx := Lib.hid (fun u (q : Below w.heap.size w u) => slText_any v e l u (hr.below q) hok hn)
  have CLn := Lib.hid (fun u (q : Below w.heap.size w u) => rcLines_any v l u (hr.below q) hok hn txN_rng)
  have CQ := Lib.hid (fun v v' u (q : eR.Rd u v (l.filter wrP)) (q' : eR.Rd u v' (l.filter wrP)) => rcEq_any v v' (l.filter wrP) (l.filter wrP) u q q' (Nat.le_trans (List.length_filter_le _ _) (by omega)))
  have eQ : eqB (l.filter wrP) (l.filter wrP) = true := eqB_self _
  rw [eQ] at CQ
  have ZL : (strOfNums (l.flatMap lnN)).size ≤ 18000 := by rw [strOfNums_size, ln_len2 l hok]; omega
  have OL : owN l ≤ l.length := by have := owN_le l l.length; rwa [List.take_length] at this
  clear eQ
  obtain ⟨A, c, hv, hc⟩ := hr.open_
  obtain ⟨n, hl⟩ : ∃ n, l.length = n := ⟨_, rfl⟩
  rw [hl] at hc hn hv OL CLost
  subst hv
  have HL := Lib.hid hl
  have HC := Lib.hid hc
  have B0 := Lib.hid (Below.alloc0 (Below.refl w.heap.size w) (.cells #[.slice A n c, .bool e] 39))
  have K0 := Lib.hid (Blk.new w 39 #[.slice A n c, .bool e] (0, 0))
  clear hr hc hl hok
  go_enter Try.func18, Try.ntmps18
  go_wp2
  generalize w.alloc (.cells #[.slice A n c, .bool e] 39) = w1 at B0 K0 ⊢
  go_loopw [3, 4, 5, 6, 7, 8, 9] (fun o st ve sm rd ws i wr => ∃ k : Nat, k ≤ n ∧ i = .int .i64 k ∧ o = .int .i64 (owN (l.take k) : Nat) ∧ st = .int .u16 (valO ((l.take k).find? stP)) ∧ ve = .int .u16 (valO ((l.take k).find? veP)) ∧ sm = .bool ((l.take k).find? stP).isSome ∧ rd = .bool ((l.take k).find? veP).isSome ∧ Hid (eR.Own 26 wr w.heap.size ws ((l.take k).filter wrP)) ∧ Hid (Blk wr w.heap.size 39 #[.slice A n c, .bool e]) ∧ Hid (Below w.heap.size w wr)) (fun _ _ _ _ _ _ i _ => n - (intOf i).toNat)
  case atStart => exact ⟨0, Nat.zero_le _, rfl, rfl, rfl, rfl, rfl, rfl, Lib.hid (Els.Own.nil_ _ _), K0, B0⟩
  case round =>
    obtain ⟨k, hk, rfl, rfl, rfl, rfl, rfl, rfl, hO, hK, hB⟩ := hrel
    obtain ⟨q0, q1⟩ := Blk.c2 hK.out
    by_cases hlt : k < n
    · have L0 := owN_le l k
      have LN := filt_len wrP l k
      obtain ⟨g, off, rfl, hg, hcell⟩ := HC.out (by omega)
      obtain ⟨x, hx⟩ : ∃ x, l[k]? = some x := ⟨_, List.getElem?_eq_getElem (by rw [HL.out]; exact hlt)⟩
      obtain ⟨d0, d1, d2, d3, d4, d5, d6, d7, d8⟩ := rc9_at hB.out hg (fun jj u hu => hcell k x hx jj u hu)
      have k0 : (0 : Int) ≤ k := by omega
      have k1 : (k : Int) < n := by omega
      have NO := Lib.hid (owN_next l k x hx)
      have NS := Lib.hid (find_next stP l k x hx)
      have NV := Lib.hid (find_next veP l k x hx)
      have NW := Lib.hid (filt_next wrP l k x hx)
      obtain ⟨L, hL⟩ : ∃ L, (l.take k).filter wrP = L := ⟨_, rfl⟩
      rw [hL] at hO NW LN
      generalize owN (l.take k) = z at *
      obtain ⟨So, hSo⟩ : ∃ S, (l.take k).find? stP = S := ⟨_, rfl⟩
      obtain ⟨Vo, hVo⟩ : ∃ S, (l.take k).find? veP = S := ⟨_, rfl⟩
      rw [hSo] at NS ⊢
      rw [hVo] at NV ⊢
      clear hcell hx hL hSo hVo
      obtain ⟨a, d, r, b1, b2, b3, b4, b5, m⟩ := x
      simp only at d0 d1 d2 d3 d4 d5 d6 d7 d8
      cases m
      case false =>
        have HB2 := Lib.hid (Below.alloc0 hB.out (.cells #[.int .u16 a, .int .u8 d, .bool r, .bool b1, .bool b2, .bool b3, .bool b4, .bool b5, .bool false] 26))
        have HK2 := Lib.hid (Blk.alloc hK.out (.cells #[.int .u16 a, .int .u8 d, .bool r, .bool b1, .bool b2, .bool b3, .bool b4, .bool b5, .bool false] 26))
        have HO2 := Lib.hid (hO.out.alloc (.cells #[.int .u16 a, .int .u8 d, .bool r, .bool b1, .bool b2, .bool b3, .bool b4, .bool b5, .bool false] 26))
        go_wp2
        go_roundw
        case rel => exact ⟨k + 1, by omega, by go_num, by rw [NO.out]; simp, by rw [NS.out]; simp [stP], by rw [NV.out]; simp [veP], by rw [NS.out]; simp [stP], by rw [NV.out]; simp [veP], by rw [NW.out, if_neg (by simp [wrP]), List.append_nil]; exact HO2, HK2, HB2⟩
        case measure => simp [intOf]; omega
      case true =>
        cases So with
        | none =>
          simp only [valO, Option.isSome_none]
          cases b2
          case false =>
            cases r
            case true =>
              have HB2 := Lib.hid (Below.alloc0 hB.out (.cells #[.int .u16 a, .int .u8 d, .bool true, .bool b1, .bool false, .bool b3, .bool b4, .bool b5, .bool true] 26))
              have HK2 := Lib.hid (Blk.alloc hK.out (.cells #[.int .u16 a, .int .u8 d, .bool true, .bool b1, .bool false, .bool b3, .bool b4, .bool b5, .bool true] 26))
              have HO2 := Lib.hid (hO.out.alloc (.cells #[.int .u16 a, .int .u8 d, .bool true, .bool b1, .bool false, .bool b3, .bool b4, .bool b5, .bool true] 26))
              go_wp2
              go_roundw
              case rel => exact ⟨k + 1, by omega, by go_num, by rw [NO.out]; simp, by rw [NS.out]; simp [stP], by rw [NV.out]; simp [veP], by rw [NS.out]; simp [stP], by rw [NV.out]; simp [veP], by rw [NW.out, if_neg (by simp [wrP]), List.append_nil]; exact HO2, HK2, HB2⟩
              case measure => simp [intOf]; omega
            case false =>
              have HB2 := Lib.hid (Below.alloc0 (Below.alloc0 hB.out (.cells #[.int .u16 a, .int .u8 d, .bool false, .bool b1, .bool false, .bool b3, .bool b4, .bool b5, .bool true] 26)) (.cells #[.int .u16 a, .int .u8 d, .bool false, .bool b1, .bool false, .bool b3, .bool b4, .bool b5, .bool true] 26))
              have HK2 := Lib.hid (Blk.alloc (Blk.alloc hK.out (.cells #[.int .u16 a, .int .u8 d, .bool false, .bool b1, .bool false, .bool b3, .bool b4, .bool b5, .bool true] 26)) (.cells #[.int .u16 a, .int .u8 d, .bool false, .bool b1, .bool false, .bool b3, .bool b4, .bool b5, .bool true] 26))
              have HO2 := Lib.hid ((hO.out.alloc (.cells #[.int .u16 a, .int .u8 d, .bool false, .bool b1, .bool false, .bool b3, .bool b4, .bool b5, .bool true] 26)).alloc (.cells #[.int .u16 a, .int .u8 d, .bool false, .bool b1, .bool false, .bool b3, .bool b4, .bool b5, .bool true] 26))
              have HR3 : Hid (eR.Rd ((wr.alloc (.cells #[.int .u16 a, .int .u8 d, .bool false, .bool b1, .bool false, .bool b3, .bool b4, .bool b5, .bool true] 26)).alloc (.cells #[.int .u16 a, .int .u8 d, .bool false, .bool b1, .bool false, .bool b3, .bool b4, .bool b5, .bool true] 26)) (.slice (some ⟨wr.heap.size + 1, 0, none⟩) 1 1) [(⟨a, d, false, b1, false, b3, b4, b5, true⟩ : Rc)]) := Lib.hid (Els.Rd.new (E := eR) (g := wr.heap.size + 1) (wr.alloc (.cells #[.int .u16 a, .int .u8 d, .bool false, .bool b1, .bool false, .bool b3, .bool b4, .bool b5, .bool true] 26)) (by simp) 26 [(⟨a, d, false, b1, false, b3, b4, b5, true⟩ : Rc)] #[.int .u16 a, .int .u8 d, .bool false, .bool b1, .bool false, .bool b3, .bool b4, .bool b5, .bool true] 1 rfl rfl 1)
              have CE : Hid (w.heap.size + 1 ≤ wr.heap.size) := Lib.hid hK.out.lt
              have NB : Hid (u8.ownBlock ≠ some w.heap.size) := Lib.hid (by
                intro q
                rcases hO.out.2 with ⟨rfl, _⟩ | ⟨g', cap', cur', rfl, h3, h4, _⟩
                · cases q
                · have e1 : g' = w.heap.size := by injection q
                  subst e1
                  have := h4.symm.trans (show _ = _ from hK.out)
                  simp at this)
              go_wp2_with (at_builtin; refine wpList_appRc rfl _ (.tmp 53) (.tmp 55) rfl w.heap.size u8 _ L _ rfl HO2.out rfl HR3.out (by first | omega | (simp; omega)) (by have := CE.out; first | omega | (simp; omega)) ?_; intro v' w2 hown hbel hgr hwh; have HO4 := Lib.hid hown; have HB4 := Lib.hid (Below.trans HB2.out hbel); have HK4 := Lib.hid (Blk.grown HK2.out hgr (fun e => NB.out e.symm)); clear hown hbel hgr hwh)
              go_roundw
              case rel => exact ⟨k + 1, by omega, by go_num, by rw [NO.out]; simp, by rw [NS.out]; simp [stP], by rw [NV.out]; simp [veP], by rw [NS.out]; simp [stP], by rw [NV.out]; simp [veP], by rw [NW.out]; exact HO4, HK4, HB4⟩
              case measure => simp [intOf]; omega
          case true =>
            cases b1
            case true =>
              cases r
              case true =>
                have HB2 := Lib.hid (Below.alloc0 hB.out (.cells #[.int .u16 a, .int .u8 d, .bool true, .bool true, .bool true, .bool b3, .bool b4, .bool b5, .bool true] 26))
                have HK2 := Lib.hid (Blk.alloc hK.out (.cells #[.int .u16 a, .int .u8 d, .bool true, .bool true, .bool true, .bool b3, .bool b4, .bool b5, .bool true] 26))
                have HO2 := Lib.hid (hO.out.alloc (.cells #[.int .u16 a, .int .u8 d, .bool true, .bool true, .bool true, .bool b3, .bool b4, .bool b5, .bool true] 26))
                go_wp2
                go_roundw
                case rel => exact ⟨k + 1, by omega, by go_num, by rw [NO.out]; simp, by rw [NS.out]; simp [stP], by rw [NV.out]; simp [veP], by rw [NS.out]; simp [stP], by rw [NV.out]; simp [veP], by rw [NW.out, if_neg (by simp [wrP]), List.append_nil]; exact HO2, HK2, HB2⟩
                case measure => simp [intOf]; omega
              case false =>
                have HB2 := Lib.hid (Below.alloc0 (Below.alloc0 hB.out (.cells #[.int .u16 a, .int .u8 d, .bool false, .bool true, .bool true, .bool b3, .bool b4, .bool b5, .bool true] 26)) (.cells #[.int .u16 a, .int .u8 d, .bool false, .bool true, .bool true, .bool b3, .bool b4, .bool b5, .bool true] 26))
                have HK2 := Lib.hid (Blk.alloc (Blk.alloc hK.out (.cells #[.int .u16 a, .int .u8 d, .bool false, .bool true, .bool true, .bool b3, .bool b4, .bool b5, .bool true] 26)) (.cells #[.int .u16 a, .int .u8 d, .bool false, .bool true, .bool true, .bool b3, .bool b4, .bool b5, .bool true] 26))
                have HO2 := Lib.hid ((hO.out.alloc (.cells #[.int .u16 a, .int .u8 d, .bool false, .bool true, .bool true, .bool b3, .bool b4, .bool b5, .bool true] 26)).alloc (.cells #[.int .u16 a, .int .u8 d, .bool false, .bool true, .bool true, .bool b3, .bool b4, .bool b5, .bool true] 26))
                have HR3 : Hid (eR.Rd ((wr.alloc (.cells #[.int .u16 a, .int .u8 d, .bool false, .bool true, .bool true, .bool b3, .bool b4, .bool b5, .bool true] 26)).alloc (.cells #[.int .u16 a, .int .u8 d, .bool false, .bool true, .bool true, .bool b3, .bool b4, .bool b5, .bool true] 26)) (.slice (some ⟨wr.heap.size + 1, 0, none⟩) 1 1) [(⟨a, d, false, true, true, b3, b4, b5, true⟩ : Rc)]) := Lib.hid (Els.Rd.new (E := eR) (g := wr.heap.size + 1) (wr.alloc (.cells #[.int .u16 a, .int .u8 d, .bool false, .bool true, .bool true, .bool b3, .bool b4, .bool b5, .bool true] 26)) (by simp) 26 [(⟨a, d, false, true, true, b3, b4, b5, true⟩ : Rc)] #[.int .u16 a, .int .u8 d, .bool false, .bool true, .bool true, .bool b3, .bool b4, .bool b5, .bool true] 1 rfl rfl 1)
                have CE : Hid (w.heap.size + 1 ≤ wr.heap.size) := Lib.hid hK.out.lt
                have NB : Hid (u8.ownBlock ≠ some w.heap.size) := Lib.hid (by
                  intro q
                  rcases hO.out.2 with ⟨rfl, _⟩ | ⟨g', cap', cur', rfl, h3, h4, _⟩
                  · cases q
                  · have e1 : g' = w.heap.size := by injection q
                    subst e1
                    have := h4.symm.trans (show _ = _ from hK.out)
                    simp at this)
                go_wp2_with (at_builtin; refine wpList_appRc rfl _ (.tmp 53) (.tmp 55) rfl w.heap.size u8 _ L _ rfl HO2.out rfl HR3.out (by first | omega | (simp; omega)) (by have := CE.out; first | omega | (simp; omega)) ?_; intro v' w2 hown hbel hgr hwh; have HO4 := Lib.hid hown; have HB4 := Lib.hid (Below.trans HB2.out hbel); have HK4 := Lib.hid (Blk.grown HK2.out hgr (fun e => NB.out e.symm)); clear hown hbel hgr hwh)
                go_roundw
                case rel => exact ⟨k + 1, by omega, by go_num, by rw [NO.out]; simp, by rw [NS.out]; simp [stP], by rw [NV.out]; simp [veP], by rw [NS.out]; simp [stP], by rw [NV.out]; simp [veP], by rw [NW.out]; exact HO4, HK4, HB4⟩
                case measure => simp [intOf]; omega
            case false =>
              cases Vo with
              | none =>
                simp only [Option.isSome_none]
                cases r
                case true =>
                  have HB2 := Lib.hid (Below.alloc0 hB.out (.cells #[.int .u16 a, .int .u8 d, .bool true, .bool false, .bool true, .bool b3, .bool b4, .bool b5, .bool true] 26))
                  have HK2 := Lib.hid (Blk.alloc hK.out (.cells #[.int .u16 a, .int .u8 d, .bool true, .bool false, .bool true, .bool b3, .bool b4, .bool b5, .bool true] 26))
                  have HO2 := Lib.hid (hO.out.alloc (.cells #[.int .u16 a, .int .u8 d, .bool true, .bool false, .bool true, .bool b3, .bool b4, .bool b5, .bool true] 26))
                  go_wp2
                  go_roundw
                  case rel => exact ⟨k + 1, by omega, by go_num, by rw [NO.out]; simp, by rw [NS.out]; simp [stP], by rw [NV.out]; simp [veP], by rw [NS.out]; simp [stP], by rw [NV.out]; simp [veP], by rw [NW.out, if_neg (by simp [wrP]), List.append_nil]; exact HO2, HK2, HB2⟩
                  case measure => simp [intOf]; omega
                case false =>
                  have HB2 := Lib.hid (Below.alloc0 (Below.alloc0 hB.out (.cells #[.int .u16 a, .int .u8 d, .bool false, .bool false, .bool true, .bool b3, .bool b4, .bool b5, .bool true] 26)) (.cells #[.int .u16 a, .int .u8 d, .bool false, .bool false, .bool true, .bool b3, .bool b4, .bool b5, .bool true] 26))
                  have HK2 := Lib.hid (Blk.alloc (Blk.alloc hK.out (.cells #[.int .u16 a, .int .u8 d, .bool false, .bool false, .bool true, .bool b3, .bool b4, .bool b5, .bool true] 26)) (.cells #[.int .u16 a, .int .u8 d, .bool false, .bool false, .bool true, .bool b3, .bool b4, .bool b5, .bool true] 26))
                  have HO2 := Lib.hid ((hO.out.alloc (.cells #[.int .u16 a, .int .u8 d, .bool false, .bool false, .bool true, .bool b3, .bool b4, .bool b5, .bool true] 26)).alloc (.cells #[.int .u16 a, .int .u8 d, .bool false, .bool false, .bool true, .bool b3, .bool b4, .bool b5, .bool true] 26))
                  have HR3 : Hid (eR.Rd ((wr.alloc (.cells #[.int .u16 a, .int .u8 d, .bool false, .bool false, .bool true, .bool b3, .bool b4, .bool b5, .bool true] 26)).alloc (.cells #[.int .u16 a, .int .u8 d, .bool false, .bool false, .bool true, .bool b3, .bool b4, .bool b5, .bool true] 26)) (.slice (some ⟨wr.heap.size + 1, 0, none⟩) 1 1) [(⟨a, d, false, false, true, b3, b4, b5, true⟩ : Rc)]) := Lib.hid (Els.Rd.new (E := eR) (g := wr.heap.size + 1) (wr.alloc (.cells #[.int .u16 a, .int .u8 d, .bool false, .bool false, .bool true, .bool b3, .bool b4, .bool b5, .bool true] 26)) (by simp) 26 [(⟨a, d, false, false, true, b3, b4, b5, true⟩ : Rc)] #[.int .u16 a, .int .u8 d, .bool false, .bool false, .bool true, .bool b3, .bool b4, .bool b5, .bool true] 1 rfl rfl 1)
                  have CE : Hid (w.heap.size + 1 ≤ wr.heap.size) := Lib.hid hK.out.lt
                  have NB : Hid (u8.ownBlock ≠ some w.heap.size) := Lib.hid (by
                    intro q
                    rcases hO.out.2 with ⟨rfl, _⟩ | ⟨g', cap', cur', rfl, h3, h4, _⟩
                    · cases q
                    · have e1 : g' = w.heap.size := by injection q
                      subst e1
                      have := h4.symm.trans (show _ = _ from hK.out)
                      simp at this)
                  go_wp2_with (at_builtin; refine wpList_appRc rfl _ (.tmp 53) (.tmp 55) rfl w.heap.size u8 _ L _ rfl HO2.out rfl HR3.out (by first | omega | (simp; omega)) (by have := CE.out; first | omega | (simp; omega)) ?_; intro v' w2 hown hbel hgr hwh; have HO4 := Lib.hid hown; have HB4 := Lib.hid (Below.trans HB2.out hbel); have HK4 := Lib.hid (Blk.grown HK2.out hgr (fun e => NB.out e.symm)); clear hown hbel hgr hwh)
                  go_roundw
                  case rel => exact ⟨k + 1, by omega, by go_num, by rw [NO.out]; simp, by rw [NS.out]; simp [stP], by rw [NV.out]; simp [veP], by rw [NS.out]; simp [stP], by rw [NV.out]; simp [veP], by rw [NW.out]; exact HO4, HK4, HB4⟩
                  case measure => simp [intOf]; omega
              | some vz =>
                simp only [Option.isSome_some]
                cases r
                case true =>
                  have HB2 := Lib.hid (Below.alloc0 hB.out (.cells #[.int .u16 a, .int .u8 d, .bool true, .bool false, .bool true, .bool b3, .bool b4, .bool b5, .bool true] 26))
                  have HK2 := Lib.hid (Blk.alloc hK.out (.cells #[.int .u16 a, .int .u8 d, .bool true, .bool false, .bool true, .bool b3, .bool b4, .bool b5, .bool true] 26))
                  have HO2 := Lib.hid (hO.out.alloc (.cells #[.int .u16 a, .int .u8 d, .bool true, .bool false, .bool true, .bool b3, .bool b4, .bool b5, .bool true] 26))
                  go_wp2
                  go_roundw
                  case rel => exact ⟨k + 1, by omega, by go_num, by rw [NO.out]; simp, by rw [NS.out]; simp [stP], by rw [NV.out]; simp [veP], by rw [NS.out]; simp [stP], by rw [NV.out]; simp [veP], by rw [NW.out, if_neg (by simp [wrP]), List.append_nil]; exact HO2, HK2, HB2⟩
                  case measure => simp [intOf]; omega
                case false =>
                  have HB2 := Lib.hid (Below.alloc0 (Below.alloc0 hB.out (.cells #[.int .u16 a, .int .u8 d, .bool false, .bool false, .bool true, .bool b3, .bool b4, .bool b5, .bool true] 26)) (.cells #[.int .u16 a, .int .u8 d, .bool false, .bool false, .bool true, .bool b3, .bool b4, .bool b5, .bool true] 26))
                  have HK2 := Lib.hid (Blk.alloc (Blk.alloc hK.out (.cells #[.int .u16 a, .int .u8 d, .bool false, .bool false, .bool true, .bool b3, .bool b4, .bool b5, .bool true] 26)) (.cells #[.int .u16 a, .int .u8 d, .bool false, .bool false, .bool true, .bool b3, .bool b4, .bool b5, .bool true] 26))
                  have HO2 := Lib.hid ((hO.out.alloc (.cells #[.int .u16 a, .int .u8 d, .bool false, .bool false, .bool true, .bool b3, .bool b4, .bool b5, .bool true] 26)).alloc (.cells #[.int .u16 a, .int .u8 d, .bool false, .bool false, .bool true, .bool b3, .bool b4, .bool b5, .bool true] 26))
                  have HR3 : Hid (eR.Rd ((wr.alloc (.cells #[.int .u16 a, .int .u8 d, .bool false, .bool false, .bool true, .bool b3, .bool b4, .bool b5, .bool true] 26)).alloc (.cells #[.int .u16 a, .int .u8 d, .bool false, .bool false, .bool true, .bool b3, .bool b4, .bool b5, .bool true] 26)) (.slice (some ⟨wr.heap.size + 1, 0, none⟩) 1 1) [(⟨a, d, false, false, true, b3, b4, b5, true⟩ : Rc)]) := Lib.hid (Els.Rd.new (E := eR) (g := wr.heap.size + 1) (wr.alloc (.cells #[.int .u16 a, .int .u8 d, .bool false, .bool false, .bool true, .bool b3, .bool b4, .bool b5, .bool true] 26)) (by simp) 26 [(⟨a, d, false, false, true, b3, b4, b5, true⟩ : Rc)] #[.int .u16 a, .int .u8 d, .bool false, .bool false, .bool true, .bool b3, .bool b4, .bool b5, .bool true] 1 rfl rfl 1)
                  have CE : Hid (w.heap.size + 1 ≤ wr.heap.size) := Lib.hid hK.out.lt
                  have NB : Hid (u8.ownBlock ≠ some w.heap.size) := Lib.hid (by
                    intro q
                    rcases hO.out.2 with ⟨rfl, _⟩ | ⟨g', cap', cur', rfl, h3, h4, _⟩
                    · cases q
                    · have e1 : g' = w.heap.size := by injection q
                      subst e1
                      have := h4.symm.trans (show _ = _ from hK.out)
                      simp at this)
                  go_wp2_with (at_builtin; refine wpList_appRc rfl _ (.tmp 53) (.tmp 55) rfl w.heap.size u8 _ L _ rfl HO2.out rfl HR3.out (by first | omega | (simp; omega)) (by have := CE.out; first | omega | (simp; omega)) ?_; intro v' w2 hown hbel hgr hwh; have HO4 := Lib.hid hown; have HB4 := Lib.hid (Below.trans HB2.out hbel); have HK4 := Lib.hid (Blk.grown HK2.out hgr (fun e => NB.out e.symm)); clear hown hbel hgr hwh)
                  go_roundw
                  case rel => exact ⟨k + 1, by omega, by go_num, by rw [NO.out]; simp, by rw [NS.out]; simp [stP], by rw [NV.out]; simp [veP], by rw [NS.out]; simp [stP], by rw [NV.out]; simp [veP], by rw [NW.out]; exact HO4, HK4, HB4⟩
                  case measure => simp [intOf]; omega
        | some sz =>
          simp only [valO, Option.isSome_some]
          cases b2
          case false =>
            cases r
            case true =>
              have HB2 := Lib.hid (Below.alloc0 hB.out (.cells #[.int .u16 a, .int .u8 d, .bool true, .bool b1, .bool false, .bool b3, .bool b4, .bool b5, .bool true] 26))
              have HK2 := Lib.hid (Blk.alloc hK.out (.cells #[.int .u16 a, .int .u8 d, .bool true, .bool b1, .bool false, .bool b3, .bool b4, .bool b5, .bool true] 26))
              have HO2 := Lib.hid (hO.out.alloc (.cells #[.int .u16 a, .int .u8 d, .bool true, .bool b1, .bool false, .bool b3, .bool b4, .bool b5, .bool true] 26))
              go_wp2
              go_roundw
              case rel => exact ⟨k + 1, by omega, by go_num, by rw [NO.out]; simp, by rw [NS.out]; simp [stP], by rw [NV.out]; simp [veP], by rw [NS.out]; simp [stP], by rw [NV.out]; simp [veP], by rw [NW.out, if_neg (by simp [wrP]), List.append_nil]; exact HO2, HK2, HB2⟩
              case measure => simp [intOf]; omega
            case false =>
              have HB2 := Lib.hid (Below.alloc0 (Below.alloc0 hB.out (.cells #[.int .u16 a, .int .u8 d, .bool false, .bool b1, .bool false, .bool b3, .bool b4, .bool b5, .bool true] 26)) (.cells #[.int .u16 a, .int .u8 d, .bool false, .bool b1, .bool false, .bool b3, .bool b4, .bool b5, .bool true] 26))
              have HK2 := Lib.hid (Blk.alloc (Blk.alloc hK.out (.cells #[.int .u16 a, .int .u8 d, .bool false, .bool b1, .bool false, .bool b3, .bool b4, .bool b5, .bool true] 26)) (.cells #[.int .u16 a, .int .u8 d, .bool false, .bool b1, .bool false, .bool b3, .bool b4, .bool b5, .bool true] 26))
              have HO2 := Lib.hid ((hO.out.alloc (.cells #[.int .u16 a, .int .u8 d, .bool false, .bool b1, .bool false, .bool b3, .bool b4, .bool b5, .bool true] 26)).alloc (.cells #[.int .u16 a, .int .u8 d, .bool false, .bool b1, .bool false, .bool b3, .bool b4, .bool b5, .bool true] 26))
              have HR3 : Hid (eR.Rd ((wr.alloc (.cells #[.int .u16 a, .int .u8 d, .bool false, .bool b1, .bool false, .bool b3, .bool b4, .bool b5, .bool true] 26)).alloc (.cells #[.int .u16 a, .int .u8 d, .bool false, .bool b1, .bool false, .bool b3, .bool b4, .bool b5, .bool true] 26)) (.slice (some ⟨wr.heap.size + 1, 0, none⟩) 1 1) [(⟨a, d, false, b1, false, b3, b4, b5, true⟩ : Rc)]) := Lib.hid (Els.Rd.new (E := eR) (g := wr.heap.size + 1) (wr.alloc (.cells #[.int .u16 a, .int .u8 d, .bool false, .bool b1, .bool false, .bool b3, .bool b4, .bool b5, .bool true] 26)) (by simp) 26 [(⟨a, d, false, b1, false, b3, b4, b5, true⟩ : Rc)] #[.int .u16 a, .int .u8 d, .bool false, .bool b1, .bool false, .bool b3, .bool b4, .bool b5, .bool true] 1 rfl rfl 1)
              have CE : Hid (w.heap.size + 1 ≤ wr.heap.size) := Lib.hid hK.out.lt
              have NB : Hid (u8.ownBlock ≠ some w.heap.size) := Lib.hid (by
                intro q
                rcases hO.out.2 with ⟨rfl, _⟩ | ⟨g', cap', cur', rfl, h3, h4, _⟩
                · cases q
                · have e1 : g' = w.heap.size := by injection q
                  subst e1
                  have := h4.symm.trans (show _ = _ from hK.out)
                  simp at this)
              go_wp2_with (at_builtin; refine wpList_appRc rfl _ (.tmp 53) (.tmp 55) rfl w.heap.size u8 _ L _ rfl HO2.out rfl HR3.out (by first | omega | (simp; omega)) (by have := CE.out; first | omega | (simp; omega)) ?_; intro v' w2 hown hbel hgr hwh; have HO4 := Lib.hid hown; have HB4 := Lib.hid (Below.trans HB2.out hbel); have HK4 := Lib.hid (Blk.grown HK2.out hgr (fun e => NB.out e.symm)); clear hown hbel hgr hwh)
              go_roundw
              case rel => exact ⟨k + 1, by omega, by go_num, by rw [NO.out]; simp, by rw [NS.out]; simp [stP], by rw [NV.out]; simp [veP], by rw [NS.out]; simp [stP], by rw [NV.out]; simp [veP], by rw [NW.out]; exact HO4, HK4, HB4⟩
              case measure => simp [intOf]; omega
          case true =>
            cases b1
            case true =>
              cases r
              case true =>
                have HB2 := Lib.hid (Below.alloc0 hB.out (.cells #[.int .u16 a, .int .u8 d, .bool true, .bool true, .bool true, .bool b3, .bool b4, .bool b5, .bool true] 26))
                have HK2 := Lib.hid (Blk.alloc hK.out (.cells #[.int .u16 a, .int .u8 d, .bool true, .bool true, .bool true, .bool b3, .bool b4, .bool b5, .bool true] 26))
                have HO2 := Lib.hid (hO.out.alloc (.cells #[.int .u16 a, .int .u8 d, .bool true, .bool true, .bool true, .bool b3, .bool b4, .bool b5, .bool true] 26))
                go_wp2
                go_roundw
                case rel => exact ⟨k + 1, by omega, by go_num, by rw [NO.out]; simp, by rw [NS.out]; simp [stP], by rw [NV.out]; simp [veP], by rw [NS.out]; simp [stP], by rw [NV.out]; simp [veP], by rw [NW.out, if_neg (by simp [wrP]), List.append_nil]; exact HO2, HK2, HB2⟩
                case measure => simp [intOf]; omega
              case false =>
                have HB2 := Lib.hid (Below.alloc0 (Below.alloc0 hB.out (.cells #[.int .u16 a, .int .u8 d, .bool false, .bool true, .bool true, .bool b3, .bool b4, .bool b5, .bool true] 26)) (.cells #[.int .u16 a, .int .u8 d, .bool false, .bool true, .bool true, .bool b3, .bool b4, .bool b5, .bool true] 26))
                have HK2 := Lib.hid (Blk.alloc (Blk.alloc hK.out (.cells #[.int .u16 a, .int .u8 d, .bool false, .bool true, .bool true, .bool b3, .bool b4, .bool b5, .bool true] 26)) (.cells #[.int .u16 a, .int .u8 d, .bool false, .bool true, .bool true, .bool b3, .bool b4, .bool b5, .bool true] 26))
                have HO2 := Lib.hid ((hO.out.alloc (.cells #[.int .u16 a, .int .u8 d, .bool false, .bool true, .bool true, .bool b3, .bool b4, .bool b5, .bool true] 26)).alloc (.cells #[.int .u16 a, .int .u8 d, .bool false, .bool true, .bool true, .bool b3, .bool b4, .bool b5, .bool true] 26))
                have HR3 : Hid (eR.Rd ((wr.alloc (.cells #[.int .u16 a, .int .u8 d, .bool false, .bool true, .bool true, .bool b3, .bool b4, .bool b5, .bool true] 26)).alloc (.cells #[.int .u16 a, .int .u8 d, .bool false, .bool true, .bool true, .bool b3, .bool b4, .bool b5, .bool true] 26)) (.slice (some ⟨wr.heap.size + 1, 0, none⟩) 1 1) [(⟨a, d, false, true, true, b3, b4, b5, true⟩ : Rc)]) := Lib.hid (Els.Rd.new (E := eR) (g := wr.heap.size + 1) (wr.alloc (.cells #[.int .u16 a, .int .u8 d, .bool false, .bool true, .bool true, .bool b3, .bool b4, .bool b5, .bool true] 26)) (by simp) 26 [(⟨a, d, false, true, true, b3, b4, b5, true⟩ : Rc)] #[.int .u16 a, .int .u8 d, .bool false, .bool true, .bool true, .bool b3, .bool b4, .bool b5, .bool true] 1 rfl rfl 1)
                have CE : Hid (w.heap.size + 1 ≤ wr.heap.size) := Lib.hid hK.out.lt
                have NB : Hid (u8.ownBlock ≠ some w.heap.size) := Lib.hid (by
                  intro q
                  rcases hO.out.2 with ⟨rfl, _⟩ | ⟨g', cap', cur', rfl, h3, h4, _⟩
                  · cases q
                  · have e1 : g' = w.heap.size := by injection q
                    subst e1
                    have := h4.symm.trans (show _ = _ from hK.out)
                    simp at this)
                go_wp2_with (at_builtin; refine wpList_appRc rfl _ (.tmp 53) (.tmp 55) rfl w.heap.size u8 _ L _ rfl HO2.out rfl HR3.out (by first | omega | (simp; omega)) (by have := CE.out; first | omega | (simp; omega)) ?_; intro v' w2 hown hbel hgr hwh; have HO4 := Lib.hid hown; have HB4 := Lib.hid (Below.trans HB2.out hbel); have HK4 := Lib.hid (Blk.grown HK2.out hgr (fun e => NB.out e.symm)); clear hown hbel hgr hwh)
                go_roundw
                case rel => exact ⟨k + 1, by omega, by go_num, by rw [NO.out]; simp, by rw [NS.out]; simp [stP], by rw [NV.out]; simp [veP], by rw [NS.out]; simp [stP], by rw [NV.out]; simp [veP], by rw [NW.out]; exact HO4, HK4, HB4⟩
                case measure => simp [intOf]; omega
            case false =>
              cases Vo with
              | none =>
                simp only [Option.isSome_none]
                cases r
                case true =>
                  have HB2 := Lib.hid (Below.alloc0 hB.out (.cells #[.int .u16 a, .int .u8 d, .bool true, .bool false, .bool true, .bool b3, .bool b4, .bool b5, .bool true] 26))
                  have HK2 := Lib.hid (Blk.alloc hK.out (.cells #[.int .u16 a, .int .u8 d, .bool true, .bool false, .bool true, .bool b3, .bool b4, .bool b5, .bool true] 26))
                  have HO2 := Lib.hid (hO.out.alloc (.cells #[.int .u16 a, .int .u8 d, .bool true, .bool false, .bool true, .bool b3, .bool b4, .bool b5, .bool true] 26))
                  go_wp2
                  go_roundw
                  case rel => exact ⟨k + 1, by omega, by go_num, by rw [NO.out]; simp, by rw [NS.out]; simp [stP], by rw [NV.out]; simp [veP], by rw [NS.out]; simp [stP], by rw [NV.out]; simp [veP], by rw [NW.out, if_neg (by simp [wrP]), List.append_nil]; exact HO2, HK2, HB2⟩
                  case measure => simp [intOf]; omega
                case false =>
                  have HB2 := Lib.hid (Below.alloc0 (Below.alloc0 hB.out (.cells #[.int .u16 a, .int .u8 d, .bool false, .bool false, .bool true, .bool b3, .bool b4, .bool b5, .bool true] 26)) (.cells #[.int .u16 a, .int .u8 d, .bool false, .bool false, .bool true, .bool b3, .bool b4, .bool b5, .bool true] 26))
                  have HK2 := Lib.hid (Blk.alloc (Blk.alloc hK.out (.cells #[.int .u16 a, .int .u8 d, .bool false, .bool false, .bool true, .bool b3, .bool b4, .bool b5, .bool true] 26)) (.cells #[.int .u16 a, .int .u8 d, .bool false, .bool false, .bool true, .bool b3, .bool b4, .bool b5, .bool true] 26))
                  have HO2 := Lib.hid ((hO.out.alloc (.cells #[.int .u16 a, .int .u8 d, .bool false, .bool false, .bool true, .bool b3, .bool b4, .bool b5, .bool true] 26)).alloc (.cells #[.int .u16 a, .int .u8 d, .bool false, .bool false, .bool true, .bool b3, .bool b4, .bool b5, .bool true] 26))
                  have HR3 : Hid (eR.Rd ((wr.alloc (.cells #[.int .u16 a, .int .u8 d, .bool false, .bool false, .bool true, .bool b3, .bool b4, .bool b5, .bool true] 26)).alloc (.cells #[.int .u16 a, .int .u8 d, .bool false, .bool false, .bool true, .bool b3, .bool b4, .bool b5, .bool true] 26)) (.slice (some ⟨wr.heap.size + 1, 0, none⟩) 1 1) [(⟨a, d, false, false, true, b3, b4, b5, true⟩ : Rc)]) := Lib.hid (Els.Rd.new (E := eR) (g := wr.heap.size + 1) (wr.alloc (.cells #[.int .u16 a, .int .u8 d, .bool false, .bool false, .bool true, .bool b3, .bool b4, .bool b5, .bool true] 26)) (by simp) 26 [(⟨a, d, false, false, true, b3, b4, b5, true⟩ : Rc)] #[.int .u16 a, .int .u8 d, .bool false, .bool false, .bool true, .bool b3, .bool b4, .bool b5, .bool true] 1 rfl rfl 1)
                  have CE : Hid (w.heap.size + 1 ≤ wr.heap.size) := Lib.hid hK.out.lt
                  have NB : Hid (u8.ownBlock ≠ some w.heap.size) := Lib.hid (by
                    intro q
                    rcases hO.out.2 with ⟨rfl, _⟩ | ⟨g', cap', cur', rfl, h3, h4, _⟩
                    · cases q
                    · have e1 : g' = w.heap.size := by injection q
                      subst e1
                      have := h4.symm.trans (show _ = _ from hK.out)
                      simp at this)
                  go_wp2_with (at_builtin; refine wpList_appRc rfl _ (.tmp 53) (.tmp 55) rfl w.heap.size u8 _ L _ rfl HO2.out rfl HR3.out (by first | omega | (simp; omega)) (by have := CE.out; first | omega | (simp; omega)) ?_; intro v' w2 hown hbel hgr hwh; have HO4 := Lib.hid hown; have HB4 := Lib.hid (Below.trans HB2.out hbel); have HK4 := Lib.hid (Blk.grown HK2.out hgr (fun e => NB.out e.symm)); clear hown hbel hgr hwh)
                  go_roundw
                  case rel => exact ⟨k + 1, by omega, by go_num, by rw [NO.out]; simp, by rw [NS.out]; simp [stP], by rw [NV.out]; simp [veP], by rw [NS.out]; simp [stP], by rw [NV.out]; simp [veP], by rw [NW.out]; exact HO4, HK4, HB4⟩
                  case measure => simp [intOf]; omega
              | some vz =>
                simp only [Option.isSome_some]
                cases r
                case true =>
                  have HB2 := Lib.hid (Below.alloc0 hB.out (.cells #[.int .u16 a, .int .u8 d, .bool true, .bool false, .bool true, .bool b3, .bool b4, .bool b5, .bool true] 26))
                  have HK2 := Lib.hid (Blk.alloc hK.out (.cells #[.int .u16 a, .int .u8 d, .bool true, .bool false, .bool true, .bool b3, .bool b4, .bool b5, .bool true] 26))
                  have HO2 := Lib.hid (hO.out.alloc (.cells #[.int .u16 a, .int .u8 d, .bool true, .bool false, .bool true, .bool b3, .bool b4, .bool b5, .bool true] 26))
                  go_wp2
                  go_roundw
                  case rel => exact ⟨k + 1, by omega, by go_num, by rw [NO.out]; simp, by rw [NS.out]; simp [stP], by rw [NV.out]; simp [veP], by rw [NS.out]; simp [stP], by rw [NV.out]; simp [veP], by rw [NW.out, if_neg (by simp [wrP]), List.append_nil]; exact HO2, HK2, HB2⟩
                  case measure => simp [intOf]; omega
                case false =>
                  have HB2 := Lib.hid (Below.alloc0 (Below.alloc0 hB.out (.cells #[.int .u16 a, .int .u8 d, .bool false, .bool false, .bool true, .bool b3, .bool b4, .bool b5, .bool true] 26)) (.cells #[.int .u16 a, .int .u8 d, .bool false, .bool false, .bool true, .bool b3, .bool b4, .bool b5, .bool true] 26))
                  have HK2 := Lib.hid (Blk.alloc (Blk.alloc hK.out (.cells #[.int .u16 a, .int .u8 d, .bool false, .bool false, .bool true, .bool b3, .bool b4, .bool b5, .bool true] 26)) (.cells #[.int .u16 a, .int .u8 d, .bool false, .bool false, .bool true, .bool b3, .bool b4, .bool b5, .bool true] 26))
                  have HO2 := Lib.hid ((hO.out.alloc (.cells #[.int .u16 a, .int .u8 d, .bool false, .bool false, .bool true, .bool b3, .bool b4, .bool b5, .bool true] 26)).alloc (.cells #[.int .u16 a, .int .u8 d, .bool false, .bool false, .bool true, .bool b3, .bool b4, .bool b5, .bool true] 26))
                  have HR3 : Hid (eR.Rd ((wr.alloc (.cells #[.int .u16 a, .int .u8 d, .bool false, .bool false, .bool true, .bool b3, .bool b4, .bool b5, .bool true] 26)).alloc (.cells #[.int .u16 a, .int .u8 d, .bool false, .bool false, .bool true, .bool b3, .bool b4, .bool b5, .bool true] 26)) (.slice (some ⟨wr.heap.size + 1, 0, none⟩) 1 1) [(⟨a, d, false, false, true, b3, b4, b5, true⟩ : Rc)]) := Lib.hid (Els.Rd.new (E := eR) (g := wr.heap.size + 1) (wr.alloc (.cells #[.int .u16 a, .int .u8 d, .bool false, .bool false, .bool true, .bool b3, .bool b4, .bool b5, .bool true] 26)) (by simp) 26 [(⟨a, d, false, false, true, b3, b4, b5, true⟩ : Rc)] #[.int .u16 a, .int .u8 d, .bool false, .bool false, .bool true, .bool b3, .bool b4, .bool b5, .bool true] 1 rfl rfl 1)
                  have CE : Hid (w.heap.size + 1 ≤ wr.heap.size) := Lib.hid hK.out.lt
                  have NB : Hid (u8.ownBlock ≠ some w.heap.size) := Lib.hid (by
                    intro q
                    rcases hO.out.2 with ⟨rfl, _⟩ | ⟨g', cap', cur', rfl, h3, h4, _⟩
                    · cases q
                    · have e1 : g' = w.heap.size := by injection q
                      subst e1
                      have := h4.symm.trans (show _ = _ from hK.out)
                      simp at this)
                  go_wp2_with (at_builtin; refine wpList_appRc rfl _ (.tmp 53) (.tmp 55) rfl w.heap.size u8 _ L _ rfl HO2.out rfl HR3.out (by first | omega | (simp; omega)) (by have := CE.out; first | omega | (simp; omega)) ?_; intro v' w2 hown hbel hgr hwh; have HO4 := Lib.hid hown; have HB4 := Lib.hid (Below.trans HB2.out hbel); have HK4 := Lib.hid (Blk.grown HK2.out hgr (fun e => NB.out e.symm)); clear hown hbel hgr hwh)
                  go_roundw
                  case rel => exact ⟨k + 1, by omega, by go_num, by rw [NO.out]; simp, by rw [NS.out]; simp [stP], by rw [NV.out]; simp [veP], by rw [NS.out]; simp [stP], by rw [NV.out]; simp [veP], by rw [NW.out]; exact HO4, HK4, HB4⟩
                  case measure => simp [intOf]; omega
    · obtain rfl : k = n := by omega
      rw [List.take_of_length_le (show l.length ≤ k by rw [HL.out]; exact Nat.le_refl _)] at hO ⊢
      have HRW := Lib.hid hO.out.rd
      clear hO hlt
      generalize owN l = z at *
      generalize l.find? stP = So at *
      generalize l.find? veP = Vo at *
      obtain ⟨S, hS⟩ : ∃ S, strOfNums (l.flatMap lnN) = S := ⟨_, rfl⟩
      have HT : Hid (slT l e = if e then S ++ ⟨#[45, 10]⟩ else S) := Lib.hid (by unfold slT; rw [hS])
      rw [hS] at CLn ZL
      rw [HT.out] at CTx
      clear hS HT
      have y1 : ¬ 9223372036854775807 < S.size + 2 := by omega
      go_wp2_with fail
      refine (CStart.out _ hB.out).mono ?_
      rintro e1 v1 ⟨rfl, hb⟩
      have B1 := Lib.hid (Below.trans0 hB.out hb)
      have K1 := Lib.hid (Blk.below hK.out hb hK.out.lt)
      have R1 := Lib.hid (HRW.out.below hb)
      clear hb q0 q1
      obtain ⟨q0, q1⟩ := Blk.c2 K1.out
      go_wp2_with fail
      refine (CVec.out _ B1.out).mono ?_
      rintro e2 v2 ⟨rfl, hb⟩
      have B2 := Lib.hid (Below.trans0 B1.out hb)
      have K2 := Lib.hid (Blk.below K1.out hb K1.out.lt)
      have R2 := Lib.hid (R1.out.below hb)
      clear hb q0 q1
      obtain ⟨q0, q1⟩ := Blk.c2 K2.out
      go_wp2_with fail
      refine (CLn.out _ B2.out).mono ?_
      rintro e3 v3 ⟨rfl, hb⟩
      have B3 := Lib.hid (Below.trans0 B2.out hb)
      have K3 := Lib.hid (Blk.below K2.out hb K2.out.lt)
      have R3 := Lib.hid (R2.out.below hb)
      clear hb q0 q1
      obtain ⟨q0, q1⟩ := Blk.c2 K3.out
      have S0 : Hid ((fun w' : World => (w'.cell? ⟨w.heap.size, 0, none⟩ = some (.slice A k c) ∧ w'.cell? ⟨w.heap.size, 1, none⟩ = some (.bool e))) v3.drew) := Lib.hid (Blk.c2 K3.out)
      have B3d := Lib.hid (Below.drew0 B3.out)
      have K3d := Lib.hid (Blk.drew K3.out)
      have R3d := Lib.hid (Els.Rd.drew R3.out)
      have w1r : IntKind.i64.wrap ((k : Int) - (z : Int)) = (k : Int) - (z : Int) := IntWalk.i64_in _ (by omega)
      have t1 : ((z : Int) == (z : Int)) = true := by simp
      have t2 : ((k : Int) - (z : Int) == (k : Int) - (z : Int)) = true := by simp
      have t3 : (valO So == valO So) = true := by simp
      have t4 : (So.isSome == So.isSome) = true := by simp
      have t5 : (valO Vo == valO Vo) = true := by simp
      have t6 : (Vo.isSome == Vo.isSome) = true := by simp
      generalize valO So = s1 at *
      generalize valO Vo = s2 at *
      generalize So.isSome = s3 at *
      generalize Vo.isSome = s4 at *
      cases e
      case false =>
        simp only [if_neg (show ¬ (false = true) by decide)] at CTx
        have t7 : (S.toList == S.toList) = true := by simp
        go_wp2
        refine wp_region_noPanic ?_
        refine wp_region_held_drew (S := (fun w' : World => (w'.cell? ⟨w.heap.size, 0, none⟩ = some (.slice A k c) ∧ w'.cell? ⟨w.heap.size, 1, none⟩ = some (.bool false)))) (by kernel_rfl) ?_ (fun hH0 => ?_)
        · (try dsimp only); with_reducible exact S0.out
        refine wpAnyH_take (i := 0) (oi := ({ dst := some 74, op := Op.load 39 (Operand.tmp 1), type := 39, pos := "law.go:50", after := #[], guard := none } : Oper)) (v := ?_) rfl (by kernel_rfl) (by kernel_rfl) (by kernel_rfl) (fun _ _ _ h => h) (Or.inl ⟨by rfl, ?_⟩) (by assumption) ?_
        rotate_left 1
        · (intro w hSw; (try dsimp only at hSw); go_simp; (try with_reducible rfl))
        (try simp only [Act.put, List.setIfInBounds_toArray, List.set_cons_zero, List.set_cons_succ])
        refine wpAnyH_take (i := 2) (oi := ({ dst := some 76, op := Op.move (Operand.tmp 3), type := 3, pos := "law.go:50", after := #[], guard := none } : Oper)) (v := ?_) rfl (by kernel_rfl) (by kernel_rfl) (by kernel_rfl) (fun _ _ _ h => h) (Or.inl ⟨by rfl, ?_⟩) (by assumption) ?_
        rotate_left 1
        · (intro w hSw; (try dsimp only at hSw); go_simp; (try with_reducible rfl))
        (try simp only [Act.put, List.setIfInBounds_toArray, List.set_cons_zero, List.set_cons_succ])
        refine wpAnyH_ready (rs := [1]) (by kernel_rfl) (by simp) ?_
        refine AllReadyH.cons (o := ({ dst := some 75, op := Op.call { callee := Callee.value (Operand.func 43), args := #[Operand.tmp 74], argTypes := #[39] }, type := 3, pos := "law.go:50", after := #[{ on := 0, ground := Ground.data }], guard := none } : Oper)) rfl (fun K hK => ?_) ?_
        rotate_left 1
        · exact AllReadyH.nil
        go_simp
        go_at_call 43
        ((with_reducible refine (COwn.out _ B3d.out).mono ?_); rintro e4 v4 ⟨rfl, hb⟩; have B4 := Lib.hid (Below.trans0 B3d.out hb); have K4 := Lib.hid (Blk.below K3d.out hb K3d.out.lt); have R4 := Lib.hid (R3d.out.below hb); clear hb)
        first | (refine hK.out _ _ ?_ (fun hH1 => ?_)) | (go_wp2_with fail; refine hK.out _ _ ?_ (fun hH1 => ?_))
        · (try dsimp only); with_reducible exact Blk.c2 K4.out
        clear hK K hH0
        (try simp only [Act.put, List.setIfInBounds_toArray, List.set_cons_zero, List.set_cons_succ])
        refine wpAnyH_take (i := 3) (oi := ({ dst := some 77, op := Op.binOp BinOp.eql 3 (Operand.tmp 75) (Operand.tmp 76) 3, type := 4, pos := "law.go:50", after := #[{ on := 1, ground := Ground.data }, { on := 2, ground := Ground.data }], guard := none } : Oper)) (v := ?_) rfl (by kernel_rfl) (by kernel_rfl) (by kernel_rfl) (fun _ _ _ h => h) (Or.inl ⟨by rfl, ?_⟩) (by assumption) ?_
        rotate_left 1
        · (intro w hSw; (try dsimp only at hSw); go_simp; (try with_reducible rfl))
        (try simp only [Act.put, List.setIfInBounds_toArray, List.set_cons_zero, List.set_cons_succ])
        refine wpAnyH_take (i := 4) (oi := ({ dst := some 78, op := Op.move (Operand.tmp 77), type := 4, pos := "law.go:50", after := #[{ on := 3, ground := Ground.data }, { on := 1, ground := Ground.chain }], guard := none } : Oper)) (v := ?_) rfl (by kernel_rfl) (by kernel_rfl) (by kernel_rfl) (fun _ _ _ h => h) (Or.inl ⟨by rfl, ?_⟩) (by assumption) ?_
        rotate_left 1
        · (intro w hSw; (try dsimp only at hSw); go_simp; (try with_reducible rfl))
        (try simp only [Act.put, List.setIfInBounds_toArray, List.set_cons_zero, List.set_cons_succ])
        refine wpAnyH_take (i := 5) (oi := ({ dst := some 79, op := Op.load 39 (Operand.tmp 1), type := 39, pos := "law.go:50", after := #[{ on := 4, ground := Ground.guard }], guard := some (4, true) } : Oper)) (v := ?_) rfl (by kernel_rfl) (by kernel_rfl) (by kernel_rfl) (fun _ _ _ h => h) (Or.inl ⟨by rfl, ?_⟩) (by assumption) ?_
        rotate_left 1
        · (intro w hSw; (try dsimp only at hSw); go_simp; (try with_reducible rfl))
        (try simp only [Act.put, List.setIfInBounds_toArray, List.set_cons_zero, List.set_cons_succ])
        refine wpAnyH_take (i := 7) (oi := ({ dst := some 81, op := Op.fieldAddr 39 (Operand.tmp 1) 0, type := 0, pos := "law.go:50", after := #[{ on := 4, ground := Ground.guard }], guard := some (4, true) } : Oper)) (v := ?_) rfl (by kernel_rfl) (by kernel_rfl) (by kernel_rfl) (fun _ _ _ h => h) (Or.inl ⟨by rfl, ?_⟩) (by assumption) ?_
        rotate_left 1
        · (intro w hSw; (try dsimp only at hSw); go_simp; (try with_reducible rfl))
        (try simp only [Act.put, List.setIfInBounds_toArray, List.set_cons_zero, List.set_cons_succ])
        refine wpAnyH_take (i := 8) (oi := ({ dst := some 82, op := Op.load 22 (Operand.tmp 81), type := 22, pos := "law.go:50", after := #[{ on := 7, ground := Ground.data }, { on := 4, ground := Ground.guard }], guard := some (4, true) } : Oper)) (v := ?_) rfl (by kernel_rfl) (by kernel_rfl) (by kernel_rfl) (fun _ _ _ h => h) (Or.inl ⟨by rfl, ?_⟩) (by assumption) ?_
        rotate_left 1
        · (intro w hSw; (try dsimp only at hSw); go_simp; (try with_reducible rfl))
        (try simp only [Act.put, List.setIfInBounds_toArray, List.set_cons_zero, List.set_cons_succ])
        refine wpAnyH_take (i := 9) (oi := ({ dst := some 83, op := Op.call { callee := Callee.builtin Builtin.len, args := #[Operand.tmp 82], argTypes := #[22] }, type := 3, pos := "law.go:50", after := #[{ on := 8, ground := Ground.data }, { on := 4, ground := Ground.guard }], guard := some (4, true) } : Oper)) (v := ?_) rfl (by kernel_rfl) (by kernel_rfl) (by kernel_rfl) (fun _ _ _ h => h) (Or.inl ⟨by rfl, ?_⟩) (by assumption) ?_
        rotate_left 1
        · (intro w hSw; (try dsimp only at hSw); go_simp; (try with_reducible rfl))
        (try simp only [Act.put, List.setIfInBounds_toArray, List.set_cons_zero, List.set_cons_succ])
        refine wpAnyH_take (i := 10) (oi := ({ dst := some 84, op := Op.move (Operand.tmp 3), type := 3, pos := "law.go:50", after := #[{ on := 4, ground := Ground.guard }], guard := some (4, true) } : Oper)) (v := ?_) rfl (by kernel_rfl) (by kernel_rfl) (by kernel_rfl) (fun _ _ _ h => h) (Or.inl ⟨by rfl, ?_⟩) (by assumption) ?_
        rotate_left 1
        · (intro w hSw; (try dsimp only at hSw); go_simp; (try with_reducible rfl))
        (try simp only [Act.put, List.setIfInBounds_toArray, List.set_cons_zero, List.set_cons_succ])
        refine wpAnyH_take (i := 11) (oi := ({ dst := some 85, op := Op.binOp BinOp.sub 3 (Operand.tmp 83) (Operand.tmp 84) 3, type := 3, pos := "law.go:50", after := #[{ on := 9, ground := Ground.data }, { on := 10, ground := Ground.data }, { on := 4, ground := Ground.guard }], guard := some (4, true) } : Oper)) (v := ?_) rfl (by kernel_rfl) (by kernel_rfl) (by kernel_rfl) (fun _ _ _ h => h) (Or.inl ⟨by rfl, ?_⟩) (by assumption) ?_
        rotate_left 1
        · (intro w hSw; (try dsimp only at hSw); go_simp; (try with_reducible rfl))
        (try simp only [Act.put, List.setIfInBounds_toArray, List.set_cons_zero, List.set_cons_succ])
        refine wpAnyH_ready (rs := [6]) (by kernel_rfl) (by simp) ?_
        refine AllReadyH.cons (o := ({ dst := some 80, op := Op.call { callee := Callee.value (Operand.func 44), args := #[Operand.tmp 79], argTypes := #[39] }, type := 3, pos := "law.go:50", after := #[{ on := 5, ground := Ground.data }, { on := 4, ground := Ground.chain }, { on := 4, ground := Ground.guard }], guard := some (4, true) } : Oper)) rfl (fun K hK => ?_) ?_
        rotate_left 1
        · exact AllReadyH.nil
        go_simp
        go_at_call 44
        ((with_reducible refine (CLost.out _ B4.out).mono ?_); rintro e5 v5 ⟨rfl, hb⟩; have B5 := Lib.hid (Below.trans0 B4.out hb); have K5 := Lib.hid (Blk.below K4.out hb K4.out.lt); have R5 := Lib.hid (R4.out.below hb); clear hb)
        first | (refine hK.out _ _ ?_ (fun hH2 => ?_)) | (go_wp2_with fail; refine hK.out _ _ ?_ (fun hH2 => ?_))
        · (try dsimp only); with_reducible exact Blk.c2 K5.out
        clear hK K hH1
        (try simp only [Act.put, List.setIfInBounds_toArray, List.set_cons_zero, List.set_cons_succ])
        refine wpAnyH_take (i := 12) (oi := ({ dst := some 86, op := Op.binOp BinOp.eql 3 (Operand.tmp 80) (Operand.tmp 85) 3, type := 4, pos := "law.go:50", after := #[{ on := 6, ground := Ground.data }, { on := 11, ground := Ground.data }, { on := 4, ground := Ground.guard }], guard := some (4, true) } : Oper)) (v := ?_) rfl (by kernel_rfl) (by kernel_rfl) (by kernel_rfl) (fun _ _ _ h => h) (Or.inl ⟨by rfl, ?_⟩) (by assumption) ?_
        rotate_left 1
        · (intro w hSw; (try dsimp only at hSw); go_simp; (try with_reducible rfl))
        (try simp only [Act.put, List.setIfInBounds_toArray, List.set_cons_zero, List.set_cons_succ])
        refine wpAnyH_take (i := 13) (oi := ({ dst := some 87, op := Op.pick (Operand.tmp 78) (Operand.tmp 86) (Operand.const (Value.bool false)), type := 4, pos := "law.go:50", after := #[{ on := 4, ground := Ground.data }, { on := 12, ground := Ground.data }], guard := none } : Oper)) (v := ?_) rfl (by kernel_rfl) (by kernel_rfl) (by kernel_rfl) (fun _ _ _ h => h) (Or.inl ⟨by rfl, ?_⟩) (by assumption) ?_
        rotate_left 1
        · (intro w hSw; (try dsimp only at hSw); go_simp; (try with_reducible rfl))
        (try simp only [Act.put, List.setIfInBounds_toArray, List.set_cons_zero, List.set_cons_succ])
        refine wpAnyH_take (i := 14) (oi := ({ dst := some 88, op := Op.move (Operand.tmp 87), type := 4, pos := "law.go:50", after := #[{ on := 13, ground := Ground.data }, { on := 6, ground := Ground.chain }], guard := none } : Oper)) (v := ?_) rfl (by kernel_rfl) (by kernel_rfl) (by kernel_rfl) (fun _ _ _ h => h) (Or.inl ⟨by rfl, ?_⟩) (by assumption) ?_
        rotate_left 1
        · (intro w hSw; (try dsimp only at hSw); go_simp; (try with_reducible rfl))
        (try simp only [Act.put, List.setIfInBounds_toArray, List.set_cons_zero, List.set_cons_succ])
        refine wpAnyH_take (i := 15) (oi := ({ dst := some 89, op := Op.move (Operand.tmp 11), type := 24, pos := "law.go:50", after := #[{ on := 14, ground := Ground.guard }], guard := some (14, true) } : Oper)) (v := ?_) rfl (by kernel_rfl) (by kernel_rfl) (by kernel_rfl) (fun _ _ _ h => h) (Or.inl ⟨by rfl, ?_⟩) (by assumption) ?_
        rotate_left 1
        · (intro w hSw; (try dsimp only at hSw); go_simp; (try with_reducible rfl))
        (try simp only [Act.put, List.setIfInBounds_toArray, List.set_cons_zero, List.set_cons_succ])
        refine wpAnyH_take (i := 16) (oi := ({ dst := some 90, op := Op.move (Operand.tmp 4), type := 24, pos := "law.go:50", after := #[{ on := 14, ground := Ground.guard }], guard := some (14, true) } : Oper)) (v := ?_) rfl (by kernel_rfl) (by kernel_rfl) (by kernel_rfl) (fun _ _ _ h => h) (Or.inl ⟨by rfl, ?_⟩) (by assumption) ?_
        rotate_left 1
        · (intro w hSw; (try dsimp only at hSw); go_simp; (try with_reducible rfl))
        (try simp only [Act.put, List.setIfInBounds_toArray, List.set_cons_zero, List.set_cons_succ])
        refine wpAnyH_take (i := 17) (oi := ({ dst := some 91, op := Op.binOp BinOp.eql 24 (Operand.tmp 89) (Operand.tmp 90) 24, type := 4, pos := "law.go:50", after := #[{ on := 15, ground := Ground.data }, { on := 16, ground := Ground.data }, { on := 14, ground := Ground.guard }], guard := some (14, true) } : Oper)) (v := ?_) rfl (by kernel_rfl) (by kernel_rfl) (by kernel_rfl) (fun _ _ _ h => h) (Or.inl ⟨by rfl, ?_⟩) (by assumption) ?_
        rotate_left 1
        · (intro w hSw; (try dsimp only at hSw); go_simp; (try with_reducible rfl))
        (try simp only [Act.put, List.setIfInBounds_toArray, List.set_cons_zero, List.set_cons_succ])
        refine wpAnyH_take (i := 18) (oi := ({ dst := some 92, op := Op.pick (Operand.tmp 88) (Operand.tmp 91) (Operand.const (Value.bool false)), type := 4, pos := "law.go:50", after := #[{ on := 14, ground := Ground.data }, { on := 17, ground := Ground.data }], guard := none } : Oper)) (v := ?_) rfl (by kernel_rfl) (by kernel_rfl) (by kernel_rfl) (fun _ _ _ h => h) (Or.inl ⟨by rfl, ?_⟩) (by assumption) ?_
        rotate_left 1
        · (intro w hSw; (try dsimp only at hSw); go_simp; (try with_reducible rfl))
        (try simp only [Act.put, List.setIfInBounds_toArray, List.set_cons_zero, List.set_cons_succ])
        refine wpAnyH_take (i := 19) (oi := ({ dst := some 93, op := Op.move (Operand.tmp 92), type := 4, pos := "law.go:50", after := #[{ on := 18, ground := Ground.data }, { on := 14, ground := Ground.chain }], guard := none } : Oper)) (v := ?_) rfl (by kernel_rfl) (by kernel_rfl) (by kernel_rfl) (fun _ _ _ h => h) (Or.inl ⟨by rfl, ?_⟩) (by assumption) ?_
        rotate_left 1
        · (intro w hSw; (try dsimp only at hSw); go_simp; (try with_reducible rfl))
        (try simp only [Act.put, List.setIfInBounds_toArray, List.set_cons_zero, List.set_cons_succ])
        refine wpAnyH_take (i := 20) (oi := ({ dst := some 94, op := Op.move (Operand.tmp 12), type := 4, pos := "law.go:50", after := #[{ on := 19, ground := Ground.guard }], guard := some (19, true) } : Oper)) (v := ?_) rfl (by kernel_rfl) (by kernel_rfl) (by kernel_rfl) (fun _ _ _ h => h) (Or.inl ⟨by rfl, ?_⟩) (by assumption) ?_
        rotate_left 1
        · (intro w hSw; (try dsimp only at hSw); go_simp; (try with_reducible rfl))
        (try simp only [Act.put, List.setIfInBounds_toArray, List.set_cons_zero, List.set_cons_succ])
        refine wpAnyH_take (i := 21) (oi := ({ dst := some 95, op := Op.move (Operand.tmp 6), type := 4, pos := "law.go:50", after := #[{ on := 19, ground := Ground.guard }], guard := some (19, true) } : Oper)) (v := ?_) rfl (by kernel_rfl) (by kernel_rfl) (by kernel_rfl) (fun _ _ _ h => h) (Or.inl ⟨by rfl, ?_⟩) (by assumption) ?_
        rotate_left 1
        · (intro w hSw; (try dsimp only at hSw); go_simp; (try with_reducible rfl))
        (try simp only [Act.put, List.setIfInBounds_toArray, List.set_cons_zero, List.set_cons_succ])
        refine wpAnyH_take (i := 22) (oi := ({ dst := some 96, op := Op.binOp BinOp.eql 4 (Operand.tmp 94) (Operand.tmp 95) 4, type := 4, pos := "law.go:50", after := #[{ on := 20, ground := Ground.data }, { on := 21, ground := Ground.data }, { on := 19, ground := Ground.guard }], guard := some (19, true) } : Oper)) (v := ?_) rfl (by kernel_rfl) (by kernel_rfl) (by kernel_rfl) (fun _ _ _ h => h) (Or.inl ⟨by rfl, ?_⟩) (by assumption) ?_
        rotate_left 1
        · (intro w hSw; (try dsimp only at hSw); go_simp; (try with_reducible rfl))
        (try simp only [Act.put, List.setIfInBounds_toArray, List.set_cons_zero, List.set_cons_succ])
        refine wpAnyH_take (i := 23) (oi := ({ dst := some 97, op := Op.pick (Operand.tmp 93) (Operand.tmp 96) (Operand.const (Value.bool false)), type := 4, pos := "law.go:50", after := #[{ on := 19, ground := Ground.data }, { on := 22, ground := Ground.data }], guard := none } : Oper)) (v := ?_) rfl (by kernel_rfl) (by kernel_rfl) (by kernel_rfl) (fun _ _ _ h => h) (Or.inl ⟨by rfl, ?_⟩) (by assumption) ?_
        rotate_left 1
        · (intro w hSw; (try dsimp only at hSw); go_simp; (try with_reducible rfl))
        (try simp only [Act.put, List.setIfInBounds_toArray, List.set_cons_zero, List.set_cons_succ])
        refine wpAnyH_take (i := 24) (oi := ({ dst := some 98, op := Op.move (Operand.tmp 97), type := 4, pos := "law.go:50", after := #[{ on := 23, ground := Ground.data }, { on := 19, ground := Ground.chain }], guard := none } : Oper)) (v := ?_) rfl (by kernel_rfl) (by kernel_rfl) (by kernel_rfl) (fun _ _ _ h => h) (Or.inl ⟨by rfl, ?_⟩) (by assumption) ?_
        rotate_left 1
        · (intro w hSw; (try dsimp only at hSw); go_simp; (try with_reducible rfl))
        (try simp only [Act.put, List.setIfInBounds_toArray, List.set_cons_zero, List.set_cons_succ])
        refine wpAnyH_take (i := 25) (oi := ({ dst := some 99, op := Op.move (Operand.tmp 13), type := 24, pos := "law.go:50", after := #[{ on := 24, ground := Ground.guard }], guard := some (24, true) } : Oper)) (v := ?_) rfl (by kernel_rfl) (by kernel_rfl) (by kernel_rfl) (fun _ _ _ h => h) (Or.inl ⟨by rfl, ?_⟩) (by assumption) ?_
        rotate_left 1
        · (intro w hSw; (try dsimp only at hSw); go_simp; (try with_reducible rfl))
        (try simp only [Act.put, List.setIfInBounds_toArray, List.set_cons_zero, List.set_cons_succ])
        refine wpAnyH_take (i := 26) (oi := ({ dst := some 100, op := Op.move (Operand.tmp 5), type := 24, pos := "law.go:50", after := #[{ on := 24, ground := Ground.guard }], guard := some (24, true) } : Oper)) (v := ?_) rfl (by kernel_rfl) (by kernel_rfl) (by kernel_rfl) (fun _ _ _ h => h) (Or.inl ⟨by rfl, ?_⟩) (by assumption) ?_
        rotate_left 1
        · (intro w hSw; (try dsimp only at hSw); go_simp; (try with_reducible rfl))
        (try simp only [Act.put, List.setIfInBounds_toArray, List.set_cons_zero, List.set_cons_succ])
        refine wpAnyH_take (i := 27) (oi := ({ dst := some 101, op := Op.binOp BinOp.eql 24 (Operand.tmp 99) (Operand.tmp 100) 24, type := 4, pos := "law.go:50", after := #[{ on := 25, ground := Ground.data }, { on := 26, ground := Ground.data }, { on := 24, ground := Ground.guard }], guard := some (24, true) } : Oper)) (v := ?_) rfl (by kernel_rfl) (by kernel_rfl) (by kernel_rfl) (fun _ _ _ h => h) (Or.inl ⟨by rfl, ?_⟩) (by assumption) ?_
        rotate_left 1
        · (intro w hSw; (try dsimp only at hSw); go_simp; (try with_reducible rfl))
        (try simp only [Act.put, List.setIfInBounds_toArray, List.set_cons_zero, List.set_cons_succ])
        refine wpAnyH_take (i := 28) (oi := ({ dst := some 102, op := Op.pick (Operand.tmp 98) (Operand.tmp 101) (Operand.const (Value.bool false)), type := 4, pos := "law.go:50", after := #[{ on := 24, ground := Ground.data }, { on := 27, ground := Ground.data }], guard := none } : Oper)) (v := ?_) rfl (by kernel_rfl) (by kernel_rfl) (by kernel_rfl) (fun _ _ _ h => h) (Or.inl ⟨by rfl, ?_⟩) (by assumption) ?_
        rotate_left 1
        · (intro w hSw; (try dsimp only at hSw); go_simp; (try with_reducible rfl))
        (try simp only [Act.put, List.setIfInBounds_toArray, List.set_cons_zero, List.set_cons_succ])
        refine wpAnyH_take (i := 29) (oi := ({ dst := some 103, op := Op.move (Operand.tmp 102), type := 4, pos := "law.go:50", after := #[{ on := 28, ground := Ground.data }, { on := 24, ground := Ground.chain }], guard := none } : Oper)) (v := ?_) rfl (by kernel_rfl) (by kernel_rfl) (by kernel_rfl) (fun _ _ _ h => h) (Or.inl ⟨by rfl, ?_⟩) (by assumption) ?_
        rotate_left 1
        · (intro w hSw; (try dsimp only at hSw); go_simp; (try with_reducible rfl))
        (try simp only [Act.put, List.setIfInBounds_toArray, List.set_cons_zero, List.set_cons_succ])
        refine wpAnyH_take (i := 30) (oi := ({ dst := some 104, op := Op.move (Operand.tmp 14), type := 4, pos := "law.go:50", after := #[{ on := 29, ground := Ground.guard }], guard := some (29, true) } : Oper)) (v := ?_) rfl (by kernel_rfl) (by kernel_rfl) (by kernel_rfl) (fun _ _ _ h => h) (Or.inl ⟨by rfl, ?_⟩) (by assumption) ?_
        rotate_left 1
        · (intro w hSw; (try dsimp only at hSw); go_simp; (try with_reducible rfl))
        (try simp only [Act.put, List.setIfInBounds_toArray, List.set_cons_zero, List.set_cons_succ])
        refine wpAnyH_take (i := 31) (oi := ({ dst := some 105, op := Op.move (Operand.tmp 7), type := 4, pos := "law.go:50", after := #[{ on := 29, ground := Ground.guard }], guard := some (29, true) } : Oper)) (v := ?_) rfl (by kernel_rfl) (by kernel_rfl) (by kernel_rfl) (fun _ _ _ h => h) (Or.inl ⟨by rfl, ?_⟩) (by assumption) ?_
        rotate_left 1
        · (intro w hSw; (try dsimp only at hSw); go_simp; (try with_reducible rfl))
        (try simp only [Act.put, List.setIfInBounds_toArray, List.set_cons_zero, List.set_cons_succ])
        refine wpAnyH_take (i := 32) (oi := ({ dst := some 106, op := Op.binOp BinOp.eql 4 (Operand.tmp 104) (Operand.tmp 105) 4, type := 4, pos := "law.go:50", after := #[{ on := 30, ground := Ground.data }, { on := 31, ground := Ground.data }, { on := 29, ground := Ground.guard }], guard := some (29, true) } : Oper)) (v := ?_) rfl (by kernel_rfl) (by kernel_rfl) (by kernel_rfl) (fun _ _ _ h => h) (Or.inl ⟨by rfl, ?_⟩) (by assumption) ?_
        rotate_left 1
        · (intro w hSw; (try dsimp only at hSw); go_simp; (try with_reducible rfl))
        (try simp only [Act.put, List.setIfInBounds_toArray, List.set_cons_zero, List.set_cons_succ])
        refine wpAnyH_take (i := 33) (oi := ({ dst := some 107, op := Op.pick (Operand.tmp 103) (Operand.tmp 106) (Operand.const (Value.bool false)), type := 4, pos := "law.go:50", after := #[{ on := 29, ground := Ground.data }, { on := 32, ground := Ground.data }], guard := none } : Oper)) (v := ?_) rfl (by kernel_rfl) (by kernel_rfl) (by kernel_rfl) (fun _ _ _ h => h) (Or.inl ⟨by rfl, ?_⟩) (by assumption) ?_
        rotate_left 1
        · (intro w hSw; (try dsimp only at hSw); go_simp; (try with_reducible rfl))
        (try simp only [Act.put, List.setIfInBounds_toArray, List.set_cons_zero, List.set_cons_succ])
        refine wpAnyH_take (i := 34) (oi := ({ dst := some 108, op := Op.move (Operand.tmp 107), type := 4, pos := "law.go:50", after := #[{ on := 33, ground := Ground.data }, { on := 29, ground := Ground.chain }], guard := none } : Oper)) (v := ?_) rfl (by kernel_rfl) (by kernel_rfl) (by kernel_rfl) (fun _ _ _ h => h) (Or.inl ⟨by rfl, ?_⟩) (by assumption) ?_
        rotate_left 1
        · (intro w hSw; (try dsimp only at hSw); go_simp; (try with_reducible rfl))
        (try simp only [Act.put, List.setIfInBounds_toArray, List.set_cons_zero, List.set_cons_succ])
        refine wpAnyH_take (i := 35) (oi := ({ dst := some 109, op := Op.load 39 (Operand.tmp 1), type := 39, pos := "law.go:50", after := #[{ on := 34, ground := Ground.guard }], guard := some (34, true) } : Oper)) (v := ?_) rfl (by kernel_rfl) (by kernel_rfl) (by kernel_rfl) (fun _ _ _ h => h) (Or.inl ⟨by rfl, ?_⟩) (by assumption) ?_
        rotate_left 1
        · (intro w hSw; (try dsimp only at hSw); go_simp; (try with_reducible rfl))
        (try simp only [Act.put, List.setIfInBounds_toArray, List.set_cons_zero, List.set_cons_succ])
        refine wpAnyH_take (i := 37) (oi := ({ dst := some 111, op := Op.move (Operand.tmp 8), type := 22, pos := "law.go:50", after := #[{ on := 34, ground := Ground.guard }], guard := some (34, true) } : Oper)) (v := ?_) rfl (by kernel_rfl) (by kernel_rfl) (by kernel_rfl) (fun _ _ _ h => h) (Or.inl ⟨by rfl, ?_⟩) (by assumption) ?_
        rotate_left 1
        · (intro w hSw; (try dsimp only at hSw); go_simp; (try with_reducible rfl))
        (try simp only [Act.put, List.setIfInBounds_toArray, List.set_cons_zero, List.set_cons_succ])
        refine wpAnyH_ready (rs := [36]) (by kernel_rfl) (by simp) ?_
        refine AllReadyH.cons (o := ({ dst := some 110, op := Op.call { callee := Callee.value (Operand.func 45), args := #[Operand.tmp 109], argTypes := #[39] }, type := 22, pos := "law.go:50", after := #[{ on := 35, ground := Ground.data }, { on := 34, ground := Ground.chain }, { on := 34, ground := Ground.guard }], guard := some (34, true) } : Oper)) rfl (fun K hK => ?_) ?_
        rotate_left 1
        · exact AllReadyH.nil
        go_simp
        go_at_call 45
        ((with_reducible refine (CWr.out _ B5.out).mono ?_); rintro e6 v6 ⟨vw, rfl, ho, hb⟩; have B6 := Lib.hid (Below.trans0 B5.out hb); have K6 := Lib.hid (Blk.below K5.out hb K5.out.lt); have R6 := Lib.hid (R5.out.below hb); have RW := Lib.hid ho.rd; clear hb ho)
        first | (refine hK.out _ _ ?_ (fun hH3 => ?_)) | (go_wp2_with fail; refine hK.out _ _ ?_ (fun hH3 => ?_))
        · (try dsimp only); with_reducible exact Blk.c2 K6.out
        clear hK K hH2
        (try simp only [Act.put, List.setIfInBounds_toArray, List.set_cons_zero, List.set_cons_succ])
        refine wpAnyH_ready (rs := [38]) (by kernel_rfl) (by simp) ?_
        refine AllReadyH.cons (o := ({ dst := some 112, op := Op.call { callee := Callee.value (Operand.func 7), args := #[Operand.tmp 110, Operand.tmp 111], argTypes := #[22, 22] }, type := 4, pos := "law.go:50", after := #[{ on := 36, ground := Ground.data }, { on := 37, ground := Ground.data }, { on := 36, ground := Ground.chain }, { on := 34, ground := Ground.guard }], guard := some (34, true) } : Oper)) rfl (fun K hK => ?_) ?_
        rotate_left 1
        · exact AllReadyH.nil
        go_simp
        go_at_call 7
        ((with_reducible refine (CQ.out _ _ _ RW.out R6.out).mono ?_); rintro e7 v7 ⟨rfl, jj, hw⟩; have B7 : Hid (Below w.heap.size w v7) := Lib.hid (by rw [hw]; exact Below.drewN0 B6.out _); have K7 : Hid (Blk v7 w.heap.size 39 #[.slice A k c, .bool false]) := Lib.hid (by rw [hw]; exact Blk.drewN K6.out _); clear hw)
        first | (refine hK.out _ _ ?_ (fun hH4 => ?_)) | (go_wp2_with fail; refine hK.out _ _ ?_ (fun hH4 => ?_))
        · (try dsimp only); with_reducible exact Blk.c2 K7.out
        clear hK K hH3
        (try simp only [Act.put, List.setIfInBounds_toArray, List.set_cons_zero, List.set_cons_succ])
        refine wpAnyH_take (i := 39) (oi := ({ dst := some 113, op := Op.pick (Operand.tmp 108) (Operand.tmp 112) (Operand.const (Value.bool false)), type := 4, pos := "law.go:50", after := #[{ on := 34, ground := Ground.data }, { on := 38, ground := Ground.data }], guard := none } : Oper)) (v := ?_) rfl (by kernel_rfl) (by kernel_rfl) (by kernel_rfl) (fun _ _ _ h => h) (Or.inl ⟨by rfl, ?_⟩) (by assumption) ?_
        rotate_left 1
        · (intro w hSw; (try dsimp only at hSw); go_simp; (try with_reducible rfl))
        (try simp only [Act.put, List.setIfInBounds_toArray, List.set_cons_zero, List.set_cons_succ])
        refine wpAnyH_take (i := 40) (oi := ({ dst := some 114, op := Op.move (Operand.tmp 113), type := 4, pos := "law.go:50", after := #[{ on := 39, ground := Ground.data }, { on := 38, ground := Ground.chain }], guard := none } : Oper)) (v := ?_) rfl (by kernel_rfl) (by kernel_rfl) (by kernel_rfl) (fun _ _ _ h => h) (Or.inl ⟨by rfl, ?_⟩) (by assumption) ?_
        rotate_left 1
        · (intro w hSw; (try dsimp only at hSw); go_simp; (try with_reducible rfl))
        (try simp only [Act.put, List.setIfInBounds_toArray, List.set_cons_zero, List.set_cons_succ])
        refine wpAnyH_take (i := 41) (oi := ({ dst := some 115, op := Op.load 39 (Operand.tmp 1), type := 39, pos := "law.go:50", after := #[{ on := 40, ground := Ground.guard }], guard := some (40, true) } : Oper)) (v := ?_) rfl (by kernel_rfl) (by kernel_rfl) (by kernel_rfl) (fun _ _ _ h => h) (Or.inl ⟨by rfl, ?_⟩) (by assumption) ?_
        rotate_left 1
        · (intro w hSw; (try dsimp only at hSw); go_simp; (try with_reducible rfl))
        (try simp only [Act.put, List.setIfInBounds_toArray, List.set_cons_zero, List.set_cons_succ])
        refine wpAnyH_take (i := 43) (oi := ({ dst := some 117, op := Op.move (Operand.tmp 15), type := 9, pos := "law.go:50", after := #[{ on := 40, ground := Ground.guard }], guard := some (40, true) } : Oper)) (v := ?_) rfl (by kernel_rfl) (by kernel_rfl) (by kernel_rfl) (fun _ _ _ h => h) (Or.inl ⟨by rfl, ?_⟩) (by assumption) ?_
        rotate_left 1
        · (intro w hSw; (try dsimp only at hSw); go_simp; (try with_reducible rfl))
        (try simp only [Act.put, List.setIfInBounds_toArray, List.set_cons_zero, List.set_cons_succ])
        refine wpAnyH_ready (rs := [42]) (by kernel_rfl) (by simp) ?_
        refine AllReadyH.cons (o := ({ dst := some 116, op := Op.call { callee := Callee.value (Operand.func 46), args := #[Operand.tmp 115], argTypes := #[39] }, type := 9, pos := "law.go:50", after := #[{ on := 41, ground := Ground.data }, { on := 40, ground := Ground.chain }, { on := 40, ground := Ground.guard }], guard := some (40, true) } : Oper)) rfl (fun K hK => ?_) ?_
        rotate_left 1
        · exact AllReadyH.nil
        go_simp
        go_at_call 46
        ((with_reducible refine (CTx.out _ B7.out).mono ?_); rintro e8 v8 ⟨rfl, hb⟩; have B8 := Lib.hid (Below.trans0 B7.out hb); have K8 := Lib.hid (Blk.below K7.out hb K7.out.lt); clear hb)
        first | (refine hK.out _ _ ?_ (fun hH5 => ?_)) | (go_wp2_with fail; refine hK.out _ _ ?_ (fun hH5 => ?_))
        · (try dsimp only); with_reducible exact Blk.c2 K8.out
        clear hK K hH4
        (try simp only [Act.put, List.setIfInBounds_toArray, List.set_cons_zero, List.set_cons_succ])
        refine wpAnyH_take (i := 44) (oi := ({ dst := some 118, op := Op.binOp BinOp.eql 9 (Operand.tmp 116) (Operand.tmp 117) 9, type := 4, pos := "law.go:50", after := #[{ on := 42, ground := Ground.data }, { on := 43, ground := Ground.data }, { on := 40, ground := Ground.guard }], guard := some (40, true) } : Oper)) (v := ?_) rfl (by kernel_rfl) (by kernel_rfl) (by kernel_rfl) (fun _ _ _ h => h) (Or.inl ⟨by rfl, ?_⟩) (by assumption) ?_
        rotate_left 1
        · (intro w hSw; (try dsimp only at hSw); go_simp; (try with_reducible rfl))
        (try simp only [Act.put, List.setIfInBounds_toArray, List.set_cons_zero, List.set_cons_succ])
        refine wpAnyH_take (i := 45) (oi := ({ dst := some 119, op := Op.pick (Operand.tmp 114) (Operand.tmp 118) (Operand.const (Value.bool false)), type := 4, pos := "law.go:50", after := #[{ on := 40, ground := Ground.data }, { on := 44, ground := Ground.data }], guard := none } : Oper)) (v := ?_) rfl (by kernel_rfl) (by kernel_rfl) (by kernel_rfl) (fun _ _ _ h => h) (Or.inl ⟨by rfl, ?_⟩) (by assumption) ?_
        rotate_left 1
        · (intro w hSw; (try dsimp only at hSw); go_simp; (try with_reducible rfl))
        (try simp only [Act.put, List.setIfInBounds_toArray, List.set_cons_zero, List.set_cons_succ])
        refine wpAnyH_take (i := 46) (oi := ({ dst := some 2, op := Op.assign (Operand.tmp 119), type := 4, pos := "law.go:50", after := #[{ on := 45, ground := Ground.data }, { on := 42, ground := Ground.chain }, { on := 0, ground := Ground.phase }, { on := 1, ground := Ground.phase }, { on := 2, ground := Ground.phase }, { on := 3, ground := Ground.phase }, { on := 4, ground := Ground.phase }, { on := 5, ground := Ground.phase }, { on := 6, ground := Ground.phase }, { on := 7, ground := Ground.phase }, { on := 8, ground := Ground.phase }, { on := 9, ground := Ground.phase }, { on := 10, ground := Ground.phase }, { on := 11, ground := Ground.phase }, { on := 12, ground := Ground.phase }, { on := 13, ground := Ground.phase }, { on := 14, ground := Ground.phase }, { on := 15, ground := Ground.phase }, { on := 16, ground := Ground.phase }, { on := 17, ground := Ground.phase }, { on := 18, ground := Ground.phase }, { on := 19, ground := Ground.phase }, { on := 20, ground := Ground.phase }, { on := 21, ground := Ground.phase }, { on := 22, ground := Ground.phase }, { on := 23, ground := Ground.phase }, { on := 24, ground := Ground.phase }, { on := 25, ground := Ground.phase }, { on := 26, ground := Ground.phase }, { on := 27, ground := Ground.phase }, { on := 28, ground := Ground.phase }, { on := 29, ground := Ground.phase }, { on := 30, ground := Ground.phase }, { on := 31, ground := Ground.phase }, { on := 32, ground := Ground.phase }, { on := 33, ground := Ground.phase }, { on := 34, ground := Ground.phase }, { on := 35, ground := Ground.phase }, { on := 36, ground := Ground.phase }, { on := 37, ground := Ground.phase }, { on := 38, ground := Ground.phase }, { on := 39, ground := Ground.phase }, { on := 40, ground := Ground.phase }, { on := 41, ground := Ground.phase }, { on := 42, ground := Ground.phase }, { on := 43, ground := Ground.phase }, { on := 44, ground := Ground.phase }, { on := 45, ground := Ground.phase }], guard := none } : Oper)) (v := ?_) rfl (by kernel_rfl) (by kernel_rfl) (by kernel_rfl) (fun _ _ _ h => h) (Or.inl ⟨by rfl, ?_⟩) (by assumption) ?_
        rotate_left 1
        · (intro w hSw; (try dsimp only at hSw); go_simp; (try with_reducible rfl))
        (try simp only [Act.put, List.setIfInBounds_toArray, List.set_cons_zero, List.set_cons_succ])
        refine wpAnyH_done (by kernel_rfl) ?_ _
        refine NoPanic.normal ?_
        all_goals
          go_wp2
          go_ret
          exact ⟨rfl, B8.out⟩
      case true =>
        simp only [if_true] at CTx
        have t7 : ((S ++ ⟨#[45, 10]⟩).toList == (S ++ ⟨#[45, 10]⟩).toList) = true := by simp
        go_wp2
        refine wp_region_noPanic ?_
        refine wp_region_held_drew (S := (fun w' : World => (w'.cell? ⟨w.heap.size, 0, none⟩ = some (.slice A k c) ∧ w'.cell? ⟨w.heap.size, 1, none⟩ = some (.bool true)))) (by kernel_rfl) ?_ (fun hH0 => ?_)
        · (try dsimp only); with_reducible exact S0.out
        refine wpAnyH_take (i := 0) (oi := ({ dst := some 74, op := Op.load 39 (Operand.tmp 1), type := 39, pos := "law.go:50", after := #[], guard := none } : Oper)) (v := ?_) rfl (by kernel_rfl) (by kernel_rfl) (by kernel_rfl) (fun _ _ _ h => h) (Or.inl ⟨by rfl, ?_⟩) (by assumption) ?_
        rotate_left 1
        · (intro w hSw; (try dsimp only at hSw); go_simp; (try with_reducible rfl))
        (try simp only [Act.put, List.setIfInBounds_toArray, List.set_cons_zero, List.set_cons_succ])
        refine wpAnyH_take (i := 2) (oi := ({ dst := some 76, op := Op.move (Operand.tmp 3), type := 3, pos := "law.go:50", after := #[], guard := none } : Oper)) (v := ?_) rfl (by kernel_rfl) (by kernel_rfl) (by kernel_rfl) (fun _ _ _ h => h) (Or.inl ⟨by rfl, ?_⟩) (by assumption) ?_
        rotate_left 1
        · (intro w hSw; (try dsimp only at hSw); go_simp; (try with_reducible rfl))
        (try simp only [Act.put, List.setIfInBounds_toArray, List.set_cons_zero, List.set_cons_succ])
        refine wpAnyH_ready (rs := [1]) (by kernel_rfl) (by simp) ?_
        refine AllReadyH.cons (o := ({ dst := some 75, op := Op.call { callee := Callee.value (Operand.func 43), args := #[Operand.tmp 74], argTypes := #[39] }, type := 3, pos := "law.go:50", after := #[{ on := 0, ground := Ground.data }], guard := none } : Oper)) rfl (fun K hK => ?_) ?_
        rotate_left 1
        · exact AllReadyH.nil
        go_simp
        go_at_call 43
        ((with_reducible refine (COwn.out _ B3d.out).mono ?_); rintro e4 v4 ⟨rfl, hb⟩; have B4 := Lib.hid (Below.trans0 B3d.out hb); have K4 := Lib.hid (Blk.below K3d.out hb K3d.out.lt); have R4 := Lib.hid (R3d.out.below hb); clear hb)
        first | (refine hK.out _ _ ?_ (fun hH1 => ?_)) | (go_wp2_with fail; refine hK.out _ _ ?_ (fun hH1 => ?_))
        · (try dsimp only); with_reducible exact Blk.c2 K4.out
        clear hK K hH0
        (try simp only [Act.put, List.setIfInBounds_toArray, List.set_cons_zero, List.set_cons_succ])
        refine wpAnyH_take (i := 3) (oi := ({ dst := some 77, op := Op.binOp BinOp.eql 3 (Operand.tmp 75) (Operand.tmp 76) 3, type := 4, pos := "law.go:50", after := #[{ on := 1, ground := Ground.data }, { on := 2, ground := Ground.data }], guard := none } : Oper)) (v := ?_) rfl (by kernel_rfl) (by kernel_rfl) (by kernel_rfl) (fun _ _ _ h => h) (Or.inl ⟨by rfl, ?_⟩) (by assumption) ?_
        rotate_left 1
        · (intro w hSw; (try dsimp only at hSw); go_simp; (try with_reducible rfl))
        (try simp only [Act.put, List.setIfInBounds_toArray, List.set_cons_zero, List.set_cons_succ])
        refine wpAnyH_take (i := 4) (oi := ({ dst := some 78, op := Op.move (Operand.tmp 77), type := 4, pos := "law.go:50", after := #[{ on := 3, ground := Ground.data }, { on := 1, ground := Ground.chain }], guard := none } : Oper)) (v := ?_) rfl (by kernel_rfl) (by kernel_rfl) (by kernel_rfl) (fun _ _ _ h => h) (Or.inl ⟨by rfl, ?_⟩) (by assumption) ?_
        rotate_left 1
        · (intro w hSw; (try dsimp only at hSw); go_simp; (try with_reducible rfl))
        (try simp only [Act.put, List.setIfInBounds_toArray, List.set_cons_zero, List.set_cons_succ])
        refine wpAnyH_take (i := 5) (oi := ({ dst := some 79, op := Op.load 39 (Operand.tmp 1), type := 39, pos := "law.go:50", after := #[{ on := 4, ground := Ground.guard }], guard := some (4, true) } : Oper)) (v := ?_) rfl (by kernel_rfl) (by kernel_rfl) (by kernel_rfl) (fun _ _ _ h => h) (Or.inl ⟨by rfl, ?_⟩) (by assumption) ?_
        rotate_left 1
        · (intro w hSw; (try dsimp only at hSw); go_simp; (try with_reducible rfl))
        (try simp only [Act.put, List.setIfInBounds_toArray, List.set_cons_zero, List.set_cons_succ])
        refine wpAnyH_take (i := 7) (oi := ({ dst := some 81, op := Op.fieldAddr 39 (Operand.tmp 1) 0, type := 0, pos := "law.go:50", after := #[{ on := 4, ground := Ground.guard }], guard := some (4, true) } : Oper)) (v := ?_) rfl (by kernel_rfl) (by kernel_rfl) (by kernel_rfl) (fun _ _ _ h => h) (Or.inl ⟨by rfl, ?_⟩) (by assumption) ?_
        rotate_left 1
        · (intro w hSw; (try dsimp only at hSw); go_simp; (try with_reducible rfl))
        (try simp only [Act.put, List.setIfInBounds_toArray, List.set_cons_zero, List.set_cons_succ])
        refine wpAnyH_take (i := 8) (oi := ({ dst := some 82, op := Op.load 22 (Operand.tmp 81), type := 22, pos := "law.go:50", after := #[{ on := 7, ground := Ground.data }, { on := 4, ground := Ground.guard }], guard := some (4, true) } : Oper)) (v := ?_) rfl (by kernel_rfl) (by kernel_rfl) (by kernel_rfl) (fun _ _ _ h => h) (Or.inl ⟨by rfl, ?_⟩) (by assumption) ?_
        rotate_left 1
        · (intro w hSw; (try dsimp only at hSw); go_simp; (try with_reducible rfl))
        (try simp only [Act.put, List.setIfInBounds_toArray, List.set_cons_zero, List.set_cons_succ])
        refine wpAnyH_take (i := 9) (oi := ({ dst := some 83, op := Op.call { callee := Callee.builtin Builtin.len, args := #[Operand.tmp 82], argTypes := #[22] }, type := 3, pos := "law.go:50", after := #[{ on := 8, ground := Ground.data }, { on := 4, ground := Ground.guard }], guard := some (4, true) } : Oper)) (v := ?_) rfl (by kernel_rfl) (by kernel_rfl) (by kernel_rfl) (fun _ _ _ h => h) (Or.inl ⟨by rfl, ?_⟩) (by assumption) ?_
        rotate_left 1
        · (intro w hSw; (try dsimp only at hSw); go_simp; (try with_reducible rfl))
        (try simp only [Act.put, List.setIfInBounds_toArray, List.set_cons_zero, List.set_cons_succ])
        refine wpAnyH_take (i := 10) (oi := ({ dst := some 84, op := Op.move (Operand.tmp 3), type := 3, pos := "law.go:50", after := #[{ on := 4, ground := Ground.guard }], guard := some (4, true) } : Oper)) (v := ?_) rfl (by kernel_rfl) (by kernel_rfl) (by kernel_rfl) (fun _ _ _ h => h) (Or.inl ⟨by rfl, ?_⟩) (by assumption) ?_
        rotate_left 1
        · (intro w hSw; (try dsimp only at hSw); go_simp; (try with_reducible rfl))
        (try simp only [Act.put, List.setIfInBounds_toArray, List.set_cons_zero, List.set_cons_succ])
        refine wpAnyH_take (i := 11) (oi := ({ dst := some 85, op := Op.binOp BinOp.sub 3 (Operand.tmp 83) (Operand.tmp 84) 3, type := 3, pos := "law.go:50", after := #[{ on := 9, ground := Ground.data }, { on := 10, ground := Ground.data }, { on := 4, ground := Ground.guard }], guard := some (4, true) } : Oper)) (v := ?_) rfl (by kernel_rfl) (by kernel_rfl) (by kernel_rfl) (fun _ _ _ h => h) (Or.inl ⟨by rfl, ?_⟩) (by assumption) ?_
        rotate_left 1
        · (intro w hSw; (try dsimp only at hSw); go_simp; (try with_reducible rfl))
        (try simp only [Act.put, List.setIfInBounds_toArray, List.set_cons_zero, List.set_cons_succ])
        refine wpAnyH_ready (rs := [6]) (by kernel_rfl) (by simp) ?_
        refine AllReadyH.cons (o := ({ dst := some 80, op := Op.call { callee := Callee.value (Operand.func 44), args := #[Operand.tmp 79], argTypes := #[39] }, type := 3, pos := "law.go:50", after := #[{ on := 5, ground := Ground.data }, { on := 4, ground := Ground.chain }, { on := 4, ground := Ground.guard }], guard := some (4, true) } : Oper)) rfl (fun K hK => ?_) ?_
        rotate_left 1
        · exact AllReadyH.nil
        go_simp
        go_at_call 44
        ((with_reducible refine (CLost.out _ B4.out).mono ?_); rintro e5 v5 ⟨rfl, hb⟩; have B5 := Lib.hid (Below.trans0 B4.out hb); have K5 := Lib.hid (Blk.below K4.out hb K4.out.lt); have R5 := Lib.hid (R4.out.below hb); clear hb)
        first | (refine hK.out _ _ ?_ (fun hH2 => ?_)) | (go_wp2_with fail; refine hK.out _ _ ?_ (fun hH2 => ?_))
        · (try dsimp only); with_reducible exact Blk.c2 K5.out
        clear hK K hH1
        (try simp only [Act.put, List.setIfInBounds_toArray, List.set_cons_zero, List.set_cons_succ])
        refine wpAnyH_take (i := 12) (oi := ({ dst := some 86, op := Op.binOp BinOp.eql 3 (Operand.tmp 80) (Operand.tmp 85) 3, type := 4, pos := "law.go:50", after := #[{ on := 6, ground := Ground.data }, { on := 11, ground := Ground.data }, { on := 4, ground := Ground.guard }], guard := some (4, true) } : Oper)) (v := ?_) rfl (by kernel_rfl) (by kernel_rfl) (by kernel_rfl) (fun _ _ _ h => h) (Or.inl ⟨by rfl, ?_⟩) (by assumption) ?_
        rotate_left 1
        · (intro w hSw; (try dsimp only at hSw); go_simp; (try with_reducible rfl))
        (try simp only [Act.put, List.setIfInBounds_toArray, List.set_cons_zero, List.set_cons_succ])
        refine wpAnyH_take (i := 13) (oi := ({ dst := some 87, op := Op.pick (Operand.tmp 78) (Operand.tmp 86) (Operand.const (Value.bool false)), type := 4, pos := "law.go:50", after := #[{ on := 4, ground := Ground.data }, { on := 12, ground := Ground.data }], guard := none } : Oper)) (v := ?_) rfl (by kernel_rfl) (by kernel_rfl) (by kernel_rfl) (fun _ _ _ h => h) (Or.inl ⟨by rfl, ?_⟩) (by assumption) ?_
        rotate_left 1
        · (intro w hSw; (try dsimp only at hSw); go_simp; (try with_reducible rfl))
        (try simp only [Act.put, List.setIfInBounds_toArray, List.set_cons_zero, List.set_cons_succ])
        refine wpAnyH_take (i := 14) (oi := ({ dst := some 88, op := Op.move (Operand.tmp 87), type := 4, pos := "law.go:50", after := #[{ on := 13, ground := Ground.data }, { on := 6, ground := Ground.chain }], guard := none } : Oper)) (v := ?_) rfl (by kernel_rfl) (by kernel_rfl) (by kernel_rfl) (fun _ _ _ h => h) (Or.inl ⟨by rfl, ?_⟩) (by assumption) ?_
        rotate_left 1
        · (intro w hSw; (try dsimp only at hSw); go_simp; (try with_reducible rfl))
        (try simp only [Act.put, List.setIfInBounds_toArray, List.set_cons_zero, List.set_cons_succ])
        refine wpAnyH_take (i := 15) (oi := ({ dst := some 89, op := Op.move (Operand.tmp 11), type := 24, pos := "law.go:50", after := #[{ on := 14, ground := Ground.guard }], guard := some (14, true) } : Oper)) (v := ?_) rfl (by kernel_rfl) (by kernel_rfl) (by kernel_rfl) (fun _ _ _ h => h) (Or.inl ⟨by rfl, ?_⟩) (by assumption) ?_
        rotate_left 1
        · (intro w hSw; (try dsimp only at hSw); go_simp; (try with_reducible rfl))
        (try simp only [Act.put, List.setIfInBounds_toArray, List.set_cons_zero, List.set_cons_succ])
        refine wpAnyH_take (i := 16) (oi := ({ dst := some 90, op := Op.move (Operand.tmp 4), type := 24, pos := "law.go:50", after := #[{ on := 14, ground := Ground.guard }], guard := some (14, true) } : Oper)) (v := ?_) rfl (by kernel_rfl) (by kernel_rfl) (by kernel_rfl) (fun _ _ _ h => h) (Or.inl ⟨by rfl, ?_⟩) (by assumption) ?_
        rotate_left 1
        · (intro w hSw; (try dsimp only at hSw); go_simp; (try with_reducible rfl))
        (try simp only [Act.put, List.setIfInBounds_toArray, List.set_cons_zero, List.set_cons_succ])
        refine wpAnyH_take (i := 17) (oi := ({ dst := some 91, op := Op.binOp BinOp.eql 24 (Operand.tmp 89) (Operand.tmp 90) 24, type := 4, pos := "law.go:50", after := #[{ on := 15, ground := Ground.data }, { on := 16, ground := Ground.data }, { on := 14, ground := Ground.guard }], guard := some (14, true) } : Oper)) (v := ?_) rfl (by kernel_rfl) (by kernel_rfl) (by kernel_rfl) (fun _ _ _ h => h) (Or.inl ⟨by rfl, ?_⟩) (by assumption) ?_
        rotate_left 1
        · (intro w hSw; (try dsimp only at hSw); go_simp; (try with_reducible rfl))
        (try simp only [Act.put, List.setIfInBounds_toArray, List.set_cons_zero, List.set_cons_succ])
        refine wpAnyH_take (i := 18) (oi := ({ dst := some 92, op := Op.pick (Operand.tmp 88) (Operand.tmp 91) (Operand.const (Value.bool false)), type := 4, pos := "law.go:50", after := #[{ on := 14, ground := Ground.data }, { on := 17, ground := Ground.data }], guard := none } : Oper)) (v := ?_) rfl (by kernel_rfl) (by kernel_rfl) (by kernel_rfl) (fun _ _ _ h => h) (Or.inl ⟨by rfl, ?_⟩) (by assumption) ?_
        rotate_left 1
        · (intro w hSw; (try dsimp only at hSw); go_simp; (try with_reducible rfl))
        (try simp only [Act.put, List.setIfInBounds_toArray, List.set_cons_zero, List.set_cons_succ])
        refine wpAnyH_take (i := 19) (oi := ({ dst := some 93, op := Op.move (Operand.tmp 92), type := 4, pos := "law.go:50", after := #[{ on := 18, ground := Ground.data }, { on := 14, ground := Ground.chain }], guard := none } : Oper)) (v := ?_) rfl (by kernel_rfl) (by kernel_rfl) (by kernel_rfl) (fun _ _ _ h => h) (Or.inl ⟨by rfl, ?_⟩) (by assumption) ?_
        rotate_left 1
        · (intro w hSw; (try dsimp only at hSw); go_simp; (try with_reducible rfl))
        (try simp only [Act.put, List.setIfInBounds_toArray, List.set_cons_zero, List.set_cons_succ])
        refine wpAnyH_take (i := 20) (oi := ({ dst := some 94, op := Op.move (Operand.tmp 12), type := 4, pos := "law.go:50", after := #[{ on := 19, ground := Ground.guard }], guard := some (19, true) } : Oper)) (v := ?_) rfl (by kernel_rfl) (by kernel_rfl) (by kernel_rfl) (fun _ _ _ h => h) (Or.inl ⟨by rfl, ?_⟩) (by assumption) ?_
        rotate_left 1
        · (intro w hSw; (try dsimp only at hSw); go_simp; (try with_reducible rfl))
        (try simp only [Act.put, List.setIfInBounds_toArray, List.set_cons_zero, List.set_cons_succ])
        refine wpAnyH_take (i := 21) (oi := ({ dst := some 95, op := Op.move (Operand.tmp 6), type := 4, pos := "law.go:50", after := #[{ on := 19, ground := Ground.guard }], guard := some (19, true) } : Oper)) (v := ?_) rfl (by kernel_rfl) (by kernel_rfl) (by kernel_rfl) (fun _ _ _ h => h) (Or.inl ⟨by rfl, ?_⟩) (by assumption) ?_
        rotate_left 1
        · (intro w hSw; (try dsimp only at hSw); go_simp; (try with_reducible rfl))
        (try simp only [Act.put, List.setIfInBounds_toArray, List.set_cons_zero, List.set_cons_succ])
        refine wpAnyH_take (i := 22) (oi := ({ dst := some 96, op := Op.binOp BinOp.eql 4 (Operand.tmp 94) (Operand.tmp 95) 4, type := 4, pos := "law.go:50", after := #[{ on := 20, ground := Ground.data }, { on := 21, ground := Ground.data }, { on := 19, ground := Ground.guard }], guard := some (19, true) } : Oper)) (v := ?_) rfl (by kernel_rfl) (by kernel_rfl) (by kernel_rfl) (fun _ _ _ h => h) (Or.inl ⟨by rfl, ?_⟩) (by assumption) ?_
        rotate_left 1
        · (intro w hSw; (try dsimp only at hSw); go_simp; (try with_reducible rfl))
        (try simp only [Act.put, List.setIfInBounds_toArray, List.set_cons_zero, List.set_cons_succ])
        refine wpAnyH_take (i := 23) (oi := ({ dst := some 97, op := Op.pick (Operand.tmp 93) (Operand.tmp 96) (Operand.const (Value.bool false)), type := 4, pos := "law.go:50", after := #[{ on := 19, ground := Ground.data }, { on := 22, ground := Ground.data }], guard := none } : Oper)) (v := ?_) rfl (by kernel_rfl) (by kernel_rfl) (by kernel_rfl) (fun _ _ _ h => h) (Or.inl ⟨by rfl, ?_⟩) (by assumption) ?_
        rotate_left 1
        · (intro w hSw; (try dsimp only at hSw); go_simp; (try with_reducible rfl))
        (try simp only [Act.put, List.setIfInBounds_toArray, List.set_cons_zero, List.set_cons_succ])
        refine wpAnyH_take (i := 24) (oi := ({ dst := some 98, op := Op.move (Operand.tmp 97), type := 4, pos := "law.go:50", after := #[{ on := 23, ground := Ground.data }, { on := 19, ground := Ground.chain }], guard := none } : Oper)) (v := ?_) rfl (by kernel_rfl) (by kernel_rfl) (by kernel_rfl) (fun _ _ _ h => h) (Or.inl ⟨by rfl, ?_⟩) (by assumption) ?_
        rotate_left 1
        · (intro w hSw; (try dsimp only at hSw); go_simp; (try with_reducible rfl))
        (try simp only [Act.put, List.setIfInBounds_toArray, List.set_cons_zero, List.set_cons_succ])
        refine wpAnyH_take (i := 25) (oi := ({ dst := some 99, op := Op.move (Operand.tmp 13), type := 24, pos := "law.go:50", after := #[{ on := 24, ground := Ground.guard }], guard := some (24, true) } : Oper)) (v := ?_) rfl (by kernel_rfl) (by kernel_rfl) (by kernel_rfl) (fun _ _ _ h => h) (Or.inl ⟨by rfl, ?_⟩) (by assumption) ?_
        rotate_left 1
        · (intro w hSw; (try dsimp only at hSw); go_simp; (try with_reducible rfl))
        (try simp only [Act.put, List.setIfInBounds_toArray, List.set_cons_zero, List.set_cons_succ])
        refine wpAnyH_take (i := 26) (oi := ({ dst := some 100, op := Op.move (Operand.tmp 5), type := 24, pos := "law.go:50", after := #[{ on := 24, ground := Ground.guard }], guard := some (24, true) } : Oper)) (v := ?_) rfl (by kernel_rfl) (by kernel_rfl) (by kernel_rfl) (fun _ _ _ h => h) (Or.inl ⟨by rfl, ?_⟩) (by assumption) ?_
        rotate_left 1
        · (intro w hSw; (try dsimp only at hSw); go_simp; (try with_reducible rfl))
        (try simp only [Act.put, List.setIfInBounds_toArray, List.set_cons_zero, List.set_cons_succ])
        refine wpAnyH_take (i := 27) (oi := ({ dst := some 101, op := Op.binOp BinOp.eql 24 (Operand.tmp 99) (Operand.tmp 100) 24, type := 4, pos := "law.go:50", after := #[{ on := 25, ground := Ground.data }, { on := 26, ground := Ground.data }, { on := 24, ground := Ground.guard }], guard := some (24, true) } : Oper)) (v := ?_) rfl (by kernel_rfl) (by kernel_rfl) (by kernel_rfl) (fun _ _ _ h => h) (Or.inl ⟨by rfl, ?_⟩) (by assumption) ?_
        rotate_left 1
        · (intro w hSw; (try dsimp only at hSw); go_simp; (try with_reducible rfl))
        (try simp only [Act.put, List.setIfInBounds_toArray, List.set_cons_zero, List.set_cons_succ])
        refine wpAnyH_take (i := 28) (oi := ({ dst := some 102, op := Op.pick (Operand.tmp 98) (Operand.tmp 101) (Operand.const (Value.bool false)), type := 4, pos := "law.go:50", after := #[{ on := 24, ground := Ground.data }, { on := 27, ground := Ground.data }], guard := none } : Oper)) (v := ?_) rfl (by kernel_rfl) (by kernel_rfl) (by kernel_rfl) (fun _ _ _ h => h) (Or.inl ⟨by rfl, ?_⟩) (by assumption) ?_
        rotate_left 1
        · (intro w hSw; (try dsimp only at hSw); go_simp; (try with_reducible rfl))
        (try simp only [Act.put, List.setIfInBounds_toArray, List.set_cons_zero, List.set_cons_succ])
        refine wpAnyH_take (i := 29) (oi := ({ dst := some 103, op := Op.move (Operand.tmp 102), type := 4, pos := "law.go:50", after := #[{ on := 28, ground := Ground.data }, { on := 24, ground := Ground.chain }], guard := none } : Oper)) (v := ?_) rfl (by kernel_rfl) (by kernel_rfl) (by kernel_rfl) (fun _ _ _ h => h) (Or.inl ⟨by rfl, ?_⟩) (by assumption) ?_
        rotate_left 1
        · (intro w hSw; (try dsimp only at hSw); go_simp; (try with_reducible rfl))
        (try simp only [Act.put, List.setIfInBounds_toArray, List.set_cons_zero, List.set_cons_succ])
        refine wpAnyH_take (i := 30) (oi := ({ dst := some 104, op := Op.move (Operand.tmp 14), type := 4, pos := "law.go:50", after := #[{ on := 29, ground := Ground.guard }], guard := some (29, true) } : Oper)) (v := ?_) rfl (by kernel_rfl) (by kernel_rfl) (by kernel_rfl) (fun _ _ _ h => h) (Or.inl ⟨by rfl, ?_⟩) (by assumption) ?_
        rotate_left 1
        · (intro w hSw; (try dsimp only at hSw); go_simp; (try with_reducible rfl))
        (try simp only [Act.put, List.setIfInBounds_toArray, List.set_cons_zero, List.set_cons_succ])
        refine wpAnyH_take (i := 31) (oi := ({ dst := some 105, op := Op.move (Operand.tmp 7), type := 4, pos := "law.go:50", after := #[{ on := 29, ground := Ground.guard }], guard := some (29, true) } : Oper)) (v := ?_) rfl (by kernel_rfl) (by kernel_rfl) (by kernel_rfl) (fun _ _ _ h => h) (Or.inl ⟨by rfl, ?_⟩) (by assumption) ?_
        rotate_left 1
        · (intro w hSw; (try dsimp only at hSw); go_simp; (try with_reducible rfl))
        (try simp only [Act.put, List.setIfInBounds_toArray, List.set_cons_zero, List.set_cons_succ])
        refine wpAnyH_take (i := 32) (oi := ({ dst := some 106, op := Op.binOp BinOp.eql 4 (Operand.tmp 104) (Operand.tmp 105) 4, type := 4, pos := "law.go:50", after := #[{ on := 30, ground := Ground.data }, { on := 31, ground := Ground.data }, { on := 29, ground := Ground.guard }], guard := some (29, true) } : Oper)) (v := ?_) rfl (by kernel_rfl) (by kernel_rfl) (by kernel_rfl) (fun _ _ _ h => h) (Or.inl ⟨by rfl, ?_⟩) (by assumption) ?_
        rotate_left 1
        · (intro w hSw; (try dsimp only at hSw); go_simp; (try with_reducible rfl))
        (try simp only [Act.put, List.setIfInBounds_toArray, List.set_cons_zero, List.set_cons_succ])
        refine wpAnyH_take (i := 33) (oi := ({ dst := some 107, op := Op.pick (Operand.tmp 103) (Operand.tmp 106) (Operand.const (Value.bool false)), type := 4, pos := "law.go:50", after := #[{ on := 29, ground := Ground.data }, { on := 32, ground := Ground.data }], guard := none } : Oper)) (v := ?_) rfl (by kernel_rfl) (by kernel_rfl) (by kernel_rfl) (fun _ _ _ h => h) (Or.inl ⟨by rfl, ?_⟩) (by assumption) ?_
        rotate_left 1
        · (intro w hSw; (try dsimp only at hSw); go_simp; (try with_reducible rfl))
        (try simp only [Act.put, List.setIfInBounds_toArray, List.set_cons_zero, List.set_cons_succ])
        refine wpAnyH_take (i := 34) (oi := ({ dst := some 108, op := Op.move (Operand.tmp 107), type := 4, pos := "law.go:50", after := #[{ on := 33, ground := Ground.data }, { on := 29, ground := Ground.chain }], guard := none } : Oper)) (v := ?_) rfl (by kernel_rfl) (by kernel_rfl) (by kernel_rfl) (fun _ _ _ h => h) (Or.inl ⟨by rfl, ?_⟩) (by assumption) ?_
        rotate_left 1
        · (intro w hSw; (try dsimp only at hSw); go_simp; (try with_reducible rfl))
        (try simp only [Act.put, List.setIfInBounds_toArray, List.set_cons_zero, List.set_cons_succ])
        refine wpAnyH_take (i := 35) (oi := ({ dst := some 109, op := Op.load 39 (Operand.tmp 1), type := 39, pos := "law.go:50", after := #[{ on := 34, ground := Ground.guard }], guard := some (34, true) } : Oper)) (v := ?_) rfl (by kernel_rfl) (by kernel_rfl) (by kernel_rfl) (fun _ _ _ h => h) (Or.inl ⟨by rfl, ?_⟩) (by assumption) ?_
        rotate_left 1
        · (intro w hSw; (try dsimp only at hSw); go_simp; (try with_reducible rfl))
        (try simp only [Act.put, List.setIfInBounds_toArray, List.set_cons_zero, List.set_cons_succ])
        refine wpAnyH_take (i := 37) (oi := ({ dst := some 111, op := Op.move (Operand.tmp 8), type := 22, pos := "law.go:50", after := #[{ on := 34, ground := Ground.guard }], guard := some (34, true) } : Oper)) (v := ?_) rfl (by kernel_rfl) (by kernel_rfl) (by kernel_rfl) (fun _ _ _ h => h) (Or.inl ⟨by rfl, ?_⟩) (by assumption) ?_
        rotate_left 1
        · (intro w hSw; (try dsimp only at hSw); go_simp; (try with_reducible rfl))
        (try simp only [Act.put, List.setIfInBounds_toArray, List.set_cons_zero, List.set_cons_succ])
        refine wpAnyH_ready (rs := [36]) (by kernel_rfl) (by simp) ?_
        refine AllReadyH.cons (o := ({ dst := some 110, op := Op.call { callee := Callee.value (Operand.func 45), args := #[Operand.tmp 109], argTypes := #[39] }, type := 22, pos := "law.go:50", after := #[{ on := 35, ground := Ground.data }, { on := 34, ground := Ground.chain }, { on := 34, ground := Ground.guard }], guard := some (34, true) } : Oper)) rfl (fun K hK => ?_) ?_
        rotate_left 1
        · exact AllReadyH.nil
        go_simp
        go_at_call 45
        ((with_reducible refine (CWr.out _ B5.out).mono ?_); rintro e6 v6 ⟨vw, rfl, ho, hb⟩; have B6 := Lib.hid (Below.trans0 B5.out hb); have K6 := Lib.hid (Blk.below K5.out hb K5.out.lt); have R6 := Lib.hid (R5.out.below hb); have RW := Lib.hid ho.rd; clear hb ho)
        first | (refine hK.out _ _ ?_ (fun hH3 => ?_)) | (go_wp2_with fail; refine hK.out _ _ ?_ (fun hH3 => ?_))
        · (try dsimp only); with_reducible exact Blk.c2 K6.out
        clear hK K hH2
        (try simp only [Act.put, List.setIfInBounds_toArray, List.set_cons_zero, List.set_cons_succ])
        refine wpAnyH_ready (rs := [38]) (by kernel_rfl) (by simp) ?_
        refine AllReadyH.cons (o := ({ dst := some 112, op := Op.call { callee := Callee.value (Operand.func 7), args := #[Operand.tmp 110, Operand.tmp 111], argTypes := #[22, 22] }, type := 4, pos := "law.go:50", after := #[{ on := 36, ground := Ground.data }, { on := 37, ground := Ground.data }, { on := 36, ground := Ground.chain }, { on := 34, ground := Ground.guard }], guard := some (34, true) } : Oper)) rfl (fun K hK => ?_) ?_
        rotate_left 1
        · exact AllReadyH.nil
        go_simp
        go_at_call 7
        ((with_reducible refine (CQ.out _ _ _ RW.out R6.out).mono ?_); rintro e7 v7 ⟨rfl, jj, hw⟩; have B7 : Hid (Below w.heap.size w v7) := Lib.hid (by rw [hw]; exact Below.drewN0 B6.out _); have K7 : Hid (Blk v7 w.heap.size 39 #[.slice A k c, .bool true]) := Lib.hid (by rw [hw]; exact Blk.drewN K6.out _); clear hw)
        first | (refine hK.out _ _ ?_ (fun hH4 => ?_)) | (go_wp2_with fail; refine hK.out _ _ ?_ (fun hH4 => ?_))
        · (try dsimp only); with_reducible exact Blk.c2 K7.out
        clear hK K hH3
        (try simp only [Act.put, List.setIfInBounds_toArray, List.set_cons_zero, List.set_cons_succ])
        refine wpAnyH_take (i := 39) (oi := ({ dst := some 113, op := Op.pick (Operand.tmp 108) (Operand.tmp 112) (Operand.const (Value.bool false)), type := 4, pos := "law.go:50", after := #[{ on := 34, ground := Ground.data }, { on := 38, ground := Ground.data }], guard := none } : Oper)) (v := ?_) rfl (by kernel_rfl) (by kernel_rfl) (by kernel_rfl) (fun _ _ _ h => h) (Or.inl ⟨by rfl, ?_⟩) (by assumption) ?_
        rotate_left 1
        · (intro w hSw; (try dsimp only at hSw); go_simp; (try with_reducible rfl))
        (try simp only [Act.put, List.setIfInBounds_toArray, List.set_cons_zero, List.set_cons_succ])
        refine wpAnyH_take (i := 40) (oi := ({ dst := some 114, op := Op.move (Operand.tmp 113), type := 4, pos := "law.go:50", after := #[{ on := 39, ground := Ground.data }, { on := 38, ground := Ground.chain }], guard := none } : Oper)) (v := ?_) rfl (by kernel_rfl) (by kernel_rfl) (by kernel_rfl) (fun _ _ _ h => h) (Or.inl ⟨by rfl, ?_⟩) (by assumption) ?_
        rotate_left 1
        · (intro w hSw; (try dsimp only at hSw); go_simp; (try with_reducible rfl))
        (try simp only [Act.put, List.setIfInBounds_toArray, List.set_cons_zero, List.set_cons_succ])
        refine wpAnyH_take (i := 41) (oi := ({ dst := some 115, op := Op.load 39 (Operand.tmp 1), type := 39, pos := "law.go:50", after := #[{ on := 40, ground := Ground.guard }], guard := some (40, true) } : Oper)) (v := ?_) rfl (by kernel_rfl) (by kernel_rfl) (by kernel_rfl) (fun _ _ _ h => h) (Or.inl ⟨by rfl, ?_⟩) (by assumption) ?_
        rotate_left 1
        · (intro w hSw; (try dsimp only at hSw); go_simp; (try with_reducible rfl))
        (try simp only [Act.put, List.setIfInBounds_toArray, List.set_cons_zero, List.set_cons_succ])
        refine wpAnyH_take (i := 43) (oi := ({ dst := some 117, op := Op.move (Operand.tmp 15), type := 9, pos := "law.go:50", after := #[{ on := 40, ground := Ground.guard }], guard := some (40, true) } : Oper)) (v := ?_) rfl (by kernel_rfl) (by kernel_rfl) (by kernel_rfl) (fun _ _ _ h => h) (Or.inl ⟨by rfl, ?_⟩) (by assumption) ?_
        rotate_left 1
        · (intro w hSw; (try dsimp only at hSw); go_simp; (try with_reducible rfl))
        (try simp only [Act.put, List.setIfInBounds_toArray, List.set_cons_zero, List.set_cons_succ])
        refine wpAnyH_ready (rs := [42]) (by kernel_rfl) (by simp) ?_
        refine AllReadyH.cons (o := ({ dst := some 116, op := Op.call { callee := Callee.value (Operand.func 46), args := #[Operand.tmp 115], argTypes := #[39] }, type := 9, pos := "law.go:50", after := #[{ on := 41, ground := Ground.data }, { on := 40, ground := Ground.chain }, { on := 40, ground := Ground.guard }], guard := some (40, true) } : Oper)) rfl (fun K hK => ?_) ?_
        rotate_left 1
        · exact AllReadyH.nil
        go_simp
        go_at_call 46
        ((with_reducible refine (CTx.out _ B7.out).mono ?_); rintro e8 v8 ⟨rfl, hb⟩; have B8 := Lib.hid (Below.trans0 B7.out hb); have K8 := Lib.hid (Blk.below K7.out hb K7.out.lt); clear hb)
        first | (refine hK.out _ _ ?_ (fun hH5 => ?_)) | (go_wp2_with fail; refine hK.out _ _ ?_ (fun hH5 => ?_))
        · (try dsimp only); with_reducible exact Blk.c2 K8.out
        clear hK K hH4
        (try simp only [Act.put, List.setIfInBounds_toArray, List.set_cons_zero, List.set_cons_succ])
        refine wpAnyH_take (i := 44) (oi := ({ dst := some 118, op := Op.binOp BinOp.eql 9 (Operand.tmp 116) (Operand.tmp 117) 9, type := 4, pos := "law.go:50", after := #[{ on := 42, ground := Ground.data }, { on := 43, ground := Ground.data }, { on := 40, ground := Ground.guard }], guard := some (40, true) } : Oper)) (v := ?_) rfl (by kernel_rfl) (by kernel_rfl) (by kernel_rfl) (fun _ _ _ h => h) (Or.inl ⟨by rfl, ?_⟩) (by assumption) ?_
        rotate_left 1
        · (intro w hSw; (try dsimp only at hSw); go_simp; (try with_reducible rfl))
        (try simp only [Act.put, List.setIfInBounds_toArray, List.set_cons_zero, List.set_cons_succ])
        refine wpAnyH_take (i := 45) (oi := ({ dst := some 119, op := Op.pick (Operand.tmp 114) (Operand.tmp 118) (Operand.const (Value.bool false)), type := 4, pos := "law.go:50", after := #[{ on := 40, ground := Ground.data }, { on := 44, ground := Ground.data }], guard := none } : Oper)) (v := ?_) rfl (by kernel_rfl) (by kernel_rfl) (by kernel_rfl) (fun _ _ _ h => h) (Or.inl ⟨by rfl, ?_⟩) (by assumption) ?_
        rotate_left 1
        · (intro w hSw; (try dsimp only at hSw); go_simp; (try with_reducible rfl))
        (try simp only [Act.put, List.setIfInBounds_toArray, List.set_cons_zero, List.set_cons_succ])
        refine wpAnyH_take (i := 46) (oi := ({ dst := some 2, op := Op.assign (Operand.tmp 119), type := 4, pos := "law.go:50", after := #[{ on := 45, ground := Ground.data }, { on := 42, ground := Ground.chain }, { on := 0, ground := Ground.phase }, { on := 1, ground := Ground.phase }, { on := 2, ground := Ground.phase }, { on := 3, ground := Ground.phase }, { on := 4, ground := Ground.phase }, { on := 5, ground := Ground.phase }, { on := 6, ground := Ground.phase }, { on := 7, ground := Ground.phase }, { on := 8, ground := Ground.phase }, { on := 9, ground := Ground.phase }, { on := 10, ground := Ground.phase }, { on := 11, ground := Ground.phase }, { on := 12, ground := Ground.phase }, { on := 13, ground := Ground.phase }, { on := 14, ground := Ground.phase }, { on := 15, ground := Ground.phase }, { on := 16, ground := Ground.phase }, { on := 17, ground := Ground.phase }, { on := 18, ground := Ground.phase }, { on := 19, ground := Ground.phase }, { on := 20, ground := Ground.phase }, { on := 21, ground := Ground.phase }, { on := 22, ground := Ground.phase }, { on := 23, ground := Ground.phase }, { on := 24, ground := Ground.phase }, { on := 25, ground := Ground.phase }, { on := 26, ground := Ground.phase }, { on := 27, ground := Ground.phase }, { on := 28, ground := Ground.phase }, { on := 29, ground := Ground.phase }, { on := 30, ground := Ground.phase }, { on := 31, ground := Ground.phase }, { on := 32, ground := Ground.phase }, { on := 33, ground := Ground.phase }, { on := 34, ground := Ground.phase }, { on := 35, ground := Ground.phase }, { on := 36, ground := Ground.phase }, { on := 37, ground := Ground.phase }, { on := 38, ground := Ground.phase }, { on := 39, ground := Ground.phase }, { on := 40, ground := Ground.phase }, { on := 41, ground := Ground.phase }, { on := 42, ground := Ground.phase }, { on := 43, ground := Ground.phase }, { on := 44, ground := Ground.phase }, { on := 45, ground := Ground.phase }], guard := none } : Oper)) (v := ?_) rfl (by kernel_rfl) (by kernel_rfl) (by kernel_rfl) (fun _ _ _ h => h) (Or.inl ⟨by rfl, ?_⟩) (by assumption) ?_
        rotate_left 1
        · (intro w hSw; (try dsimp only at hSw); go_simp; (try with_reducible rfl))
        (try simp only [Act.put, List.setIfInBounds_toArray, List.set_cons_zero, List.set_cons_succ])
        refine wpAnyH_done (by kernel_rfl) ?_ _
        refine NoPanic.normal ?_
        all_goals
          go_wp2
          go_ret
          exact ⟨rfl, B8.out⟩
end Go.Proofs.Ytpleboogijgdcaa
