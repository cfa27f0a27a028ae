/- The law of package symbols over lists. -/
import Derived.Test.YtopkjniegncokaaTbr
namespace Go.Proofs.Ytopkjniegncokaa
open Go.ChangeShapes Go.WideShapes Go.ChangeAt Go.RowKit
set_option linter.unusedVariables false
set_option maxRecDepth 100000 in
set_option maxHeartbeats 16000000 in
theorem law_symbols (A : Option Addr) (n cap : Nat) (l : List PrV) (a : Int) (ask : ByteArray) (a0 : 0 ≤ a) (a1 : a < 65536) (w : World) (hI : eP.In PrOk w A n cap l) :
    Calls Try.prog 3 #[.slice A n cap, .int .u16 a, .string ask] w fun e w' => e = .returned (.bool true) ∧ Below w.heap.size w w' := by
  obtain ⟨hR, hln, hmx, hok⟩ := hI
  by_cases h1 : 60 < n
  · have d1 : decide ((60 : Int) < (n : Int)) = true := decide_eq_true (by omega)
    have d2 : decide (60 < n) = true := decide_eq_true h1
    clear h1 hR hln hmx hok
    go_enter Try.func3, Try.ntmps3
    go_wp2
    go_ret
    exact ⟨rfl, Below.refl _ _⟩
  have d1 : decide ((60 : Int) < (n : Int)) = false := decide_eq_false (by omega)
  have d2 : decide (60 < n) = false := decide_eq_false h1
  have XL : (n : Int) ≤ 60 := by omega
  by_cases h2 : 100 < ask.size
  · have d3 : decide ((100 : Int) < (ask.size : Int)) = true := decide_eq_true (by omega)
    have d4 : decide (100 < ask.size) = true := decide_eq_true h2
    clear h1 h2 hR hln hmx hok
    go_enter Try.func3, Try.ntmps3
    go_wp2
    go_ret
    exact ⟨rfl, Below.refl _ _⟩
  have d3 : decide ((100 : Int) < (ask.size : Int)) = false := decide_eq_false (by omega)
  have d4 : decide (100 < ask.size) = false := decide_eq_false h2
  have HAsk := Lib.hid (show ask.size ≤ 100 by omega)
  obtain ⟨A', c', hv, hc⟩ := hR.open_
  injection hv with e1 e2 e3
  clear e2
  subst e1 e3
  rw [hln] at hc
  have HC := Lib.hid hc
  have HLn := Lib.hid hln
  have HOk := Lib.hid hok
  have HT0 := Lib.hid (TabP.new w)
  have HB0 := Lib.hid (Below.alloc0 (Below.refl w.heap.size w) (.cells #[.map none] 27 (0, 0)))
  clear h1 h2 hc hR hln hmx hok
  go_enter Try.func3, Try.ntmps3
  go_wp2
  generalize w.alloc (.cells #[.map none] 27 (0, 0)) = W0 at HT0 HB0 ⊢
  have HBg := Lib.hid HT0.out.lts.1
  go_loopw [8, 9] (fun u8 u9 wr => ∃ (i n2 : Nat) (ob : Option Nat) (M : PrL), i ≤ n ∧ u9 = .int .i64 i ∧ Hid (n2 ≤ i ∧ M.length ≤ i) ∧ Hid (StQ w wr W0.heap.size u8 ob n2 M)) (fun _ u9 _ => n - (intOf u9).toNat)
  case atStart => exact ⟨0, 0, none, [], Nat.zero_le _, rfl, Lib.hid ⟨Nat.le_refl _, Nat.le_refl _⟩, Lib.hid ⟨HT0.out, World.ownsRow_nil _ _ _ 3, by simp, by simp, HB0.out, HBg.out, Nat.le_refl _⟩⟩
  case round =>
    obtain ⟨i, n2, ob, M, hi, rfl, HNm, HS⟩ := hrel
    have k0 : (0 : Int) ≤ (i : Int) := by omega
    by_cases hlt : i < n
    · have hil : i < l.length := by rw [HLn.out]; exact hlt
      obtain ⟨g1, off, rfl, hg1, hcell⟩ := HC.out (by omega)
      obtain ⟨p, hp⟩ : ∃ p, l[i]? = some p := ⟨_, List.getElem?_eq_getElem hil⟩
      obtain ⟨x0, x1, x2⟩ := pr3_at HS.out.bel hg1 (hcell i p hp)
      have HpO := Lib.hid (HOk.out p (List.mem_of_getElem? hp))
      have HG1 := Lib.hid hg1
      have HCell : Hid (∀ wx, Below w.heap.size w wx → wx.cell? ⟨g1, off + i * 3, none⟩ = some (.string p.1) ∧ wx.cell? ⟨g1, off + i * 3 + 1, none⟩ = some (.int .u16 p.2.1) ∧ wx.cell? ⟨g1, off + i * 3 + 2, none⟩ = some (.bool p.2.2)) := Lib.hid (fun wx hb => pr3_at hb hg1 (hcell i p hp))
      have hlt' : (i : Int) < (n : Int) := by omega
      obtain ⟨s, v, d⟩ := p
      simp only at x0 x1 x2 HpO HCell
      clear hcell hil hp hg1
      by_cases hs : 100 < s.size
      · have q1 : decide ((100 : Int) < (s.size : Int)) = true := decide_eq_true (by omega)
        have q2 : decide (100 < s.size) = true := decide_eq_true hs
        clear hs
        go_wp2
        go_ret
        exact ⟨rfl, HS.out.bel⟩
      have q1 : decide ((100 : Int) < (s.size : Int)) = false := decide_eq_false (by omega)
      have q2 : decide (100 < s.size) = false := decide_eq_false hs
      have HSs := Lib.hid (show s.size ≤ 100 by omega)
      have CR1 := Lib.hid (fun u => symRight_any s u)
      have CR2 := Lib.hid (fun u => refRight_any s u)
      obtain ⟨R, hRr⟩ : ∃ R, rightL (nums s) = R := ⟨_, rfl⟩
      have HR := Lib.hid hRr
      rw [hRr] at CR1 CR2
      have qR : (R == R) = true := by simp
      have qR2 : (R != R) = false := by simp
      have hMl : Hid (M.length ≤ 60) := Lib.hid (by have := HNm.out; omega)
      have CF := Lib.hid (find_any _ (encM M) s wr HS.out.own.rd (by rw [encM_len]; have := hMl.out; omega))
      clear hs hRr
      go_wp2_with fail
      refine (CR1.out _).mono ?_
      rintro e w1 ⟨rfl, rfl⟩
      go_wp2_with fail
      refine (CR2.out _).mono ?_
      rintro e w1 ⟨rfl, rfl⟩
      go_wp2_with fail
      refine CF.out.mono ?_
      rintro e w1 ⟨⟨r, rfl, hf⟩, rfl⟩
      have HF := Lib.hid (find_look HS.out.tab.2.1 hf)
      clear hf CF
      cases d
      · have CS := Lib.hid (fun u ob2 n3 M2 (h : TabP u w.heap.size ob2 n3 M2) (hn : n3 ≤ 1000) => symSet_any u w.heap.size n3 ob2 M2 h s HSs.out v HpO.out hn)
        cases R
        · -- no name at all
          have hE : setE M s v = 40 := by unfold setE; rw [HR.out]; rfl
          have hM2 : setM M s v = M := by unfold setM; rw [HR.out]; rfl
          have CS0 := Lib.hid (CS.out wr ob n2 M HS.out.tab (by have := HNm.out; omega))
          rw [hE, hM2] at CS0
          clear hE hM2 HF
          go_wp2_with fail
          refine (CR2.out _).mono ?_
          rintro e w1 ⟨rfl, rfl⟩
          go_wp2_with fail
          refine CS0.out.mono ?_
          rintro e w2 ⟨rfl, ob', htu, htp⟩
          have HS2 := Lib.hid (HS.out.same htu htp)
          clear htu htp
          go_wp2
          go_roundw
          case rel => exact ⟨i + 1, n2 + 1, ob', M, by omega, by go_num, Lib.hid (by have := HNm.out; omega), HS2⟩
          case measure => simp [intOf]; omega
        · rcases HF.out with ⟨rfl, hno⟩ | ⟨k, v', rfl, hk, hkv, hlo⟩
          · -- a new name
            have hE : setE M s v = 0 := by unfold setE; rw [HR.out, hno]; rfl
            have hM2 : setM M s v = M ++ [(s, v)] := by unfold setM; rw [HR.out, hno]; rfl
            clear hno HF
            go_wp2_with fail
            refine (CR2.out _).mono ?_
            rintro e w1 ⟨rfl, rfl⟩
            go_wp2_with fail
            go_quiet (fail)
            generalize hV : wr.drewN _ = V
            have HSV : Hid (StQ w V W0.heap.size u8 ob n2 M) := Lib.hid (by rw [← hV]; exact HS.out.drewN _)
            clear hV
            obtain ⟨y0, y1, y2⟩ := HCell.out V HSV.out.bel
            have HOwn : Hid (eP.Own 29 V W0.heap.size u8 (encM M)) := Lib.hid HSV.out.own
            go_wp2_with (at_builtin; refine wpList_appP rfl _ _ _ rfl W0.heap.size u8 _ (encM M) [(s, v, false)] rfl (Els.Own.alloc HOwn.out _) rfl (Els.Rd.lit (E := eP) V 29 [(s, v, false)] #[.string s, .int .u16 v, .bool false] 1 rfl rfl 1) (by have := hMl.out; simp [encM]; omega) (by have := HSV.out.le; simp; omega) ?_)
            intro v3 w3 h3 hb3 hg3 ho3
            have O3 := Lib.hid h3
            have TT := Lib.hid (HSV.out.append (o := Obj.cells #[.string s, .int .u16 v, .bool false] 29) _ h3 hg3 (by rw [World.size_alloc]; exact ho3))
            clear h3 hb3 hg3 ho3 y0 y1 y2
            obtain ⟨y0, y1, y2⟩ := HCell.out w3 TT.out.2.2.1
            have CS0 := Lib.hid (CS.out w3 ob n2 M TT.out.1 (by have := HNm.out; omega))
            rw [hE, hM2] at CS0
            clear hE hM2
            go_wp2_with fail
            refine CS0.out.mono ?_
            rintro e w4 ⟨rfl, ob', htu, htp⟩
            have HO4 := Lib.hid (own_turned O3.out htu (fun e => by have := (O3.out.lt _ e).1; have := HBg.out; omega) TT.out.2.1)
            have HB4 := Lib.hid (below_turned TT.out.2.2.1 htu (Nat.le_refl _) HSV.out.at_)
            have HL4 : Hid (W0.heap.size ≤ w4.heap.size) := Lib.hid (by obtain ⟨row, hg, _⟩ := htu; exact Nat.le_trans TT.out.2.2.2 hg.size)
            have HS4 : Hid (StQ w w4 W0.heap.size v3 ob' (n2 + 1) (M ++ [(s, v)])) := Lib.hid ⟨htp, by have := HO4.out.1; unfold encM at this ⊢; rw [List.map_append]; exact this, HO4.out.2, HB4.out.2, HB4.out.1, HBg.out, HL4.out⟩
            clear htu htp
            go_wp2
            go_roundw
            case rel => exact ⟨i + 1, n2 + 1, ob', _, by omega, by go_num, Lib.hid (by have := HNm.out; simp; omega), HS4⟩
            case measure => simp [intOf]; omega
          · -- a name that is there
            have hM2 : setM M s v = M := by unfold setM; rw [HR.out, hlo]; rfl
            have hE : setE M s v = if v' = v then 0 else 41 := by unfold setE; rw [HR.out, hlo]; rfl
            obtain ⟨q, c8, rfl, hcl⟩ := HS.out.more (by omega)
            obtain ⟨m0, m1⟩ := hcl k _ hkv
            have hk0 : (0 : Int) ≤ (k : Int) := by omega
            obtain ⟨m8, hm8⟩ : ∃ m8, M.length = m8 := ⟨_, rfl⟩
            have HM8 := Lib.hid hm8
            rw [hm8] at hk HS ⊢
            have hkI : (k : Int) < (m8 : Int) := by omega
            simp only at m0 m1
            clear hcl hkv hlo HF hm8
            by_cases hvv : v' = v
            · have hq : (v' == v) = true := by simpa using hvv
              have hq2 : (v' != v) = false := by simp [bne, hq]
              rw [if_pos hvv] at hE
              clear hvv
              go_wp2_with fail
              refine (CR2.out _).mono ?_
              rintro e w1 ⟨rfl, rfl⟩
              go_wp2_with fail
              go_quiet (fail)
              generalize hV : wr.drewN _ = V
              have HSV : Hid (StQ w V W0.heap.size (.slice (some ⟨q, 0, none⟩) m8 c8) ob n2 M) := Lib.hid (by rw [← hV]; exact HS.out.drewN _)
              clear hV
              obtain ⟨y0, y1, y2⟩ := HCell.out V HSV.out.bel
              have CS0 := Lib.hid (CS.out V ob n2 M HSV.out.tab (by have := HNm.out; omega))
              rw [hE, hM2] at CS0
              clear hE hM2
              go_wp2_with fail
              refine CS0.out.mono ?_
              rintro e w2 ⟨rfl, ob', htu, htp⟩
              have HS2 := Lib.hid (HSV.out.same htu htp)
              clear htu htp
              go_wp2
              go_roundw
              case rel => exact ⟨i + 1, n2 + 1, ob', M, by omega, by go_num, Lib.hid (by have := HNm.out; omega), HS2⟩
              case measure => simp [intOf]; omega
            · have hq : (v' == v) = false := by simpa using hvv
              have hq2 : (v' != v) = true := by simp [bne, hq]
              rw [if_neg hvv] at hE
              clear hvv
              go_wp2_with fail
              refine (CR2.out _).mono ?_
              rintro e w1 ⟨rfl, rfl⟩
              go_wp2_with fail
              go_quiet (fail)
              generalize hV : wr.drewN _ = V
              have HSV : Hid (StQ w V W0.heap.size (.slice (some ⟨q, 0, none⟩) m8 c8) ob n2 M) := Lib.hid (by rw [← hV]; exact HS.out.drewN _)
              clear hV
              obtain ⟨y0, y1, y2⟩ := HCell.out V HSV.out.bel
              have CS0 := Lib.hid (CS.out V ob n2 M HSV.out.tab (by have := HNm.out; omega))
              rw [hE, hM2] at CS0
              clear hE hM2
              go_wp2_with fail
              refine CS0.out.mono ?_
              rintro e w2 ⟨rfl, ob', htu, htp⟩
              have HS2 := Lib.hid (HSV.out.same htu htp)
              clear htu htp
              go_wp2
              go_roundw
              case rel => exact ⟨i + 1, n2 + 1, ob', M, by omega, by go_num, Lib.hid (by have := HNm.out; omega), HS2⟩
              case measure => simp [intOf]; omega
      · -- a name that goes
        have CD := Lib.hid (symDrop_any wr w.heap.size n2 ob M HS.out.tab s HSs.out)
        rcases HF.out with ⟨rfl, hno⟩ | ⟨k, v', rfl, hk, hkv, hlo⟩
        · rw [hno] at CD
          rw [drop_none hno] at CD
          clear hno HF
          go_wp2_with fail
          refine CD.out.mono ?_
          rintro e w2 ⟨rfl, htu, htp⟩
          have HS2 := Lib.hid (HS.out.same htu htp)
          clear htu htp
          go_wp2
          go_roundw
          case rel => exact ⟨i + 1, n2, ob, M, by omega, by go_num, Lib.hid (by have := HNm.out; omega), HS2⟩
          case measure => simp [intOf]; omega
        · rw [hlo] at CD
          have hk0 : (0 : Int) ≤ (k : Int) := by omega
          obtain ⟨q, c8, rfl, hcap⟩ := own_val HS.out.own (by rw [encM_len]; omega)
          obtain ⟨m8, hm8⟩ : ∃ m8, (encM M).length = m8 := ⟨_, rfl⟩
          have HM8 := Lib.hid hm8
          rw [hm8] at hcap
          have hkm : k < m8 := by rw [← hm8, encM_len]; exact hk
          have hsl1 := fun u => slice_h41 u (some ⟨q, 0, none⟩) m8 c8 k (by omega)
          have hsl2 := fun u => slice_l41 u (some ⟨q, 0, none⟩) m8 c8 k (by omega) (by omega)
          have hww : IntKind.i64.wrap ((k : Int) + 1) = (k : Int) + 1 := IntWalk.i64_in _ (by have := hMl.out; omega)
          obtain ⟨SL1, hSL1⟩ : ∃ SL, sliced (some ⟨q, 0, none⟩) 0 k c8 3 = SL := ⟨_, rfl⟩
          obtain ⟨SL2, hSL2⟩ : ∃ SL, sliced (some ⟨q, 0, none⟩) (k + 1) m8 c8 3 = SL := ⟨_, rfl⟩
          have HRf : Hid (∀ u, eP.Own 29 u W0.heap.size (.slice (some ⟨q, 0, none⟩) m8 c8) (encM M) → eP.Rd u SL1 ((encM M).take k) ∧ eP.Rd u SL2 ((encM M).drop (k + 1))) := Lib.hid (fun u hu => by
            have e1 := hu.rd.windowP hcap 0 k (by omega) (by omega)
            have e2 := hu.rd.windowP hcap (k + 1) m8 (by omega) (by omega)
            rw [List.take_of_length_le (by rw [List.length_drop, HM8.out]; omega)] at e2
            rw [← hSL1, ← hSL2]
            exact ⟨e1, e2⟩)
          simp only [hSL1] at hsl1
          simp only [hSL2] at hsl2
          have HED := Lib.hid (encM_drop HS.out.tab.2.1 hkv)
          have HDl := Lib.hid (drop_length M s)
          rw [hm8]
          clear hSL1 hSL2 hcap hkm hlo hkv HF
          go_wp2_with fail
          refine CD.out.mono ?_
          rintro e w2 ⟨rfl, htu, htp⟩
          obtain ⟨z1, z2, z3, z4, z5, z6⟩ := HS.out.turned htu htp
          have T2 := Lib.hid z1
          rw [hm8] at z2
          have O2 := Lib.hid z2
          clear hm8
          have N2 := Lib.hid z4
          have B2 := Lib.hid z5
          have L2 := Lib.hid z6
          clear htu htp z1 z2 z3 z4 z5 z6
          go_wp2
          refine wp_region_noPanic ?_
          refine wp_region_held_drew (S := (fun _ => True)) (by kernel_rfl) ?_ (fun hH0 => ?_)
          · trivial
          refine wpAnyH_take (i := 1) (oi := ({ dst := some 72, op := Op.move (Operand.tmp 8), type := 22, pos := "law.go:58", after := #[], guard := none } : Oper)) (v := ?_) rfl (by kernel_rfl) (by kernel_rfl) (by kernel_rfl) (fun _ _ _ h => h) (Or.inl ⟨by rfl, ?_⟩) (by assumption) ?_
          rotate_left 1
          · (intro w hSw; (try dsimp only at hSw); go_simp; (try with_reducible rfl))
          (try simp only [Act.put, List.setIfInBounds_toArray, List.set_cons_zero, List.set_cons_succ])
          refine wpAnyH_take (i := 2) (oi := ({ dst := some 73, op := Op.move (Operand.tmp 11), type := 3, pos := "law.go:58", after := #[], guard := none } : Oper)) (v := ?_) rfl (by kernel_rfl) (by kernel_rfl) (by kernel_rfl) (fun _ _ _ h => h) (Or.inl ⟨by rfl, ?_⟩) (by assumption) ?_
          rotate_left 1
          · (intro w hSw; (try dsimp only at hSw); go_simp; (try with_reducible rfl))
          (try simp only [Act.put, List.setIfInBounds_toArray, List.set_cons_zero, List.set_cons_succ])
          refine wpAnyH_take (i := 3) (oi := ({ dst := some 74, op := Op.slice 22 (Operand.tmp 72) none (some (Operand.tmp 73)) none, type := 22, pos := "law.go:58", after := #[{ on := 1, ground := Ground.data }, { on := 2, ground := Ground.data }], guard := none } : Oper)) (v := ?_) rfl (by kernel_rfl) (by kernel_rfl) (by kernel_rfl) (fun _ _ _ h => h) (Or.inl ⟨by rfl, ?_⟩) (by assumption) ?_
          rotate_left 1
          · (intro w hSw; (try dsimp only at hSw); go_simp; (try with_reducible rfl))
          (try simp only [Act.put, List.setIfInBounds_toArray, List.set_cons_zero, List.set_cons_succ])
          refine wpAnyH_take (i := 5) (oi := ({ dst := some 76, op := Op.move (Operand.tmp 8), type := 22, pos := "law.go:58", after := #[], guard := none } : Oper)) (v := ?_) rfl (by kernel_rfl) (by kernel_rfl) (by kernel_rfl) (fun _ _ _ h => h) (Or.inl ⟨by rfl, ?_⟩) (by assumption) ?_
          rotate_left 1
          · (intro w hSw; (try dsimp only at hSw); go_simp; (try with_reducible rfl))
          (try simp only [Act.put, List.setIfInBounds_toArray, List.set_cons_zero, List.set_cons_succ])
          refine wpAnyH_take (i := 6) (oi := ({ dst := some 77, op := Op.move (Operand.tmp 11), type := 3, pos := "law.go:58", after := #[], guard := none } : Oper)) (v := ?_) rfl (by kernel_rfl) (by kernel_rfl) (by kernel_rfl) (fun _ _ _ h => h) (Or.inl ⟨by rfl, ?_⟩) (by assumption) ?_
          rotate_left 1
          · (intro w hSw; (try dsimp only at hSw); go_simp; (try with_reducible rfl))
          (try simp only [Act.put, List.setIfInBounds_toArray, List.set_cons_zero, List.set_cons_succ])
          refine wpAnyH_take (i := 7) (oi := ({ dst := some 78, op := Op.binOp BinOp.add 3 (Operand.tmp 77) (Operand.const (Value.int IntKind.i64 1)) 3, type := 3, pos := "law.go:58", after := #[{ on := 6, ground := Ground.data }], guard := none } : Oper)) (v := ?_) rfl (by kernel_rfl) (by kernel_rfl) (by kernel_rfl) (fun _ _ _ h => h) (Or.inl ⟨by rfl, ?_⟩) (by assumption) ?_
          rotate_left 1
          · (intro w hSw; (try dsimp only at hSw); go_simp; (try with_reducible rfl))
          (try simp only [Act.put, List.setIfInBounds_toArray, List.set_cons_zero, List.set_cons_succ])
          refine wpAnyH_take (i := 8) (oi := ({ dst := some 79, op := Op.slice 22 (Operand.tmp 76) (some (Operand.tmp 78)) none none, type := 22, pos := "law.go:58", after := #[{ on := 5, ground := Ground.data }, { on := 7, ground := Ground.data }], guard := none } : Oper)) (v := ?_) rfl (by kernel_rfl) (by kernel_rfl) (by kernel_rfl) (fun _ _ _ h => h) (Or.inl ⟨by rfl, ?_⟩) (by assumption) ?_
          rotate_left 1
          · (intro w hSw; (try dsimp only at hSw); go_simp; (try with_reducible rfl))
          (try simp only [Act.put, List.setIfInBounds_toArray, List.set_cons_zero, List.set_cons_succ])
          refine wpAnyH_ready (rs := [0]) (by kernel_rfl) (by simp) ?_
          refine AllReadyH.cons (o := ({ dst := some 71, op := Op.buildSlice 22 0 #[], type := 22, pos := "law.go:58", after := #[], guard := none } : Oper)) rfl (fun K hK => ?_) ?_
          rotate_left 1
          · exact AllReadyH.nil
          go_simp
          first | (refine hK.out _ _ ?_ (fun hH1 => ?_)) | (go_wp2_with fail; refine hK.out _ _ ?_ (fun hH1 => ?_))
          · trivial
          clear hK K hH0
          (try simp only [Act.put, List.setIfInBounds_toArray, List.set_cons_zero, List.set_cons_succ])
          refine wpAnyH_ready (rs := [4]) (by kernel_rfl) (by simp) ?_
          refine AllReadyH.cons (o := ({ dst := some 75, op := Op.call { callee := Callee.builtin Builtin.append, args := #[Operand.tmp 71, Operand.tmp 74], argTypes := #[22, 22] }, type := 22, pos := "law.go:58", after := #[{ on := 0, ground := Ground.data }, { on := 3, ground := Ground.data }], guard := none } : Oper)) rfl (fun K hK => ?_) ?_
          rotate_left 1
          · exact AllReadyH.nil
          (refine step_appP rfl _ (.tmp 71) (.tmp 74) rfl W0.heap.size _ _ [] ((encM M).take k) rfl (Els.Own.drew (own_lit0 29 w2 W0.heap.size L2.out)) rfl (Els.Rd.drew (Els.Rd.alloc (HRf.out w2 O2.out).1 _)) (by have := hMl.out; simp [encM]; omega) (by have := L2.out; simp; omega) ?_; intro v4 w4 ho4 hb4 hg4 hw4; have O4 := Lib.hid ho4; have G4 := Lib.hid hg4; have E4 := Lib.hid hw4; have Q4 := Lib.hid ((Els.Own.drew (Els.Own.alloc O2.out _)).grown hg4 (.inr (fun e => by have e9 : some q = some w2.heap.size := e; injection e9 with e9; have := (O2.out.lt q rfl).2; omega))); clear ho4 hb4 hg4 hw4)
          first | (refine hK.out _ _ ?_ (fun hH2 => ?_)) | (go_wp2_with fail; refine hK.out _ _ ?_ (fun hH2 => ?_))
          · trivial
          clear hK K hH1
          (try simp only [Act.put, List.setIfInBounds_toArray, List.set_cons_zero, List.set_cons_succ])
          refine wpAnyH_ready (rs := [9]) (by kernel_rfl) (by simp) ?_
          refine AllReadyH.cons (o := ({ dst := some 80, op := Op.call { callee := Callee.builtin Builtin.append, args := #[Operand.tmp 75, Operand.tmp 79], argTypes := #[22, 22] }, type := 22, pos := "law.go:58", after := #[{ on := 4, ground := Ground.data }, { on := 8, ground := Ground.data }, { on := 4, ground := Ground.chain }], guard := none } : Oper)) rfl (fun K hK => ?_) ?_
          rotate_left 1
          · exact AllReadyH.nil
          (refine step_appP rfl _ (.tmp 75) (.tmp 79) rfl W0.heap.size _ _ ([] ++ (encM M).take k) ((encM M).drop (k + 1)) rfl O4.out rfl (HRf.out w4 Q4.out).2 (by have := hMl.out; simp [encM]; omega) (by have := L2.out; have := G4.out.size; simp at this; omega) ?_; intro v5 w5 ho5 hb5 hg5 hw5; have O5 := Lib.hid ho5; have TT := Lib.hid (tab_two (B := W0.heap.size) T2.out N2.out B2.out L2.out G4.out E4.out hg5 hw5); clear ho5 hb5 hg5 hw5)
          first | (refine hK.out _ _ ?_ (fun hH3 => ?_)) | (go_wp2_with fail; refine hK.out _ _ ?_ (fun hH3 => ?_))
          · trivial
          clear hK K hH2
          (try simp only [Act.put, List.setIfInBounds_toArray, List.set_cons_zero, List.set_cons_succ])
          refine wpAnyH_take (i := 10) (oi := ({ dst := some 8, op := Op.assign (Operand.tmp 80), type := 22, pos := "law.go:58", after := #[{ on := 9, ground := Ground.data }, { on := 9, ground := Ground.chain }, { on := 0, ground := Ground.phase }, { on := 1, ground := Ground.phase }, { on := 2, ground := Ground.phase }, { on := 3, ground := Ground.phase }, { on := 4, ground := Ground.phase }, { on := 5, ground := Ground.phase }, { on := 6, ground := Ground.phase }, { on := 7, ground := Ground.phase }, { on := 8, ground := Ground.phase }, { on := 9, ground := Ground.phase }], guard := none } : Oper)) (v := ?_) rfl (by kernel_rfl) (by kernel_rfl) (by kernel_rfl) (fun _ _ _ h => h) (Or.inl ⟨by rfl, ?_⟩) (by assumption) ?_
          rotate_left 1
          · (intro w hSw; (try dsimp only at hSw); go_simp; (try with_reducible rfl))
          (try simp only [Act.put, List.setIfInBounds_toArray, List.set_cons_zero, List.set_cons_succ])
          refine wpAnyH_done (by kernel_rfl) ?_ _
          refine NoPanic.normal ?_
          have HS5 : Hid (StQ w w5 W0.heap.size v5 ob n2 (dropP M s)) := Lib.hid ⟨TT.out.1, by have := O5.out; rw [List.nil_append, HED.out] at this; exact this, TT.out.2.1, N2.out, TT.out.2.2.1, HBg.out, TT.out.2.2.2⟩
          clear hsl1 hsl2 hww
          go_wp2
          go_roundw
          case rel => exact ⟨i + 1, n2, ob, _, by omega, by go_num, Lib.hid (by have := HNm.out; have := HDl.out; omega), HS5⟩
          case measure => simp [intOf]; omega
    · obtain rfl : i = n := by omega
      obtain ⟨wo, rfl⟩ : ∃ wo : World, wo = wr := ⟨_, rfl⟩
      have hm60 : M.length ≤ 60 := by have := HNm.out; omega
      obtain ⟨A8, c8, hu8, hc8⟩ := HS.out.own.rd.open_
      have hrd8 := HS.out.own.rd
      have hlt8 := HS.out.own.lt
      rw [encM_len] at hu8 hc8
      rw [hu8] at hrd8
      have HTb := Lib.hid HS.out.tab
      have HBo := Lib.hid HS.out.bel
      obtain ⟨m8, hm8⟩ : ∃ m8, M.length = m8 := ⟨_, rfl⟩
      have HM8 := Lib.hid hm8
      rw [hm8] at hu8 hc8 hrd8 hm60
      have HRd := Lib.hid hrd8
      have HCm : Hid (0 < m8 → ∃ q off, A8 = some ⟨q, off, none⟩ ∧ q < wo.heap.size ∧ ∀ k p, M[k]? = some p → wo.cell? ⟨q, off + k * 3, none⟩ = some (.string p.1) ∧ wo.cell? ⟨q, off + k * 3 + 1, none⟩ = some (.int .u16 p.2)) := Lib.hid (fun h0 => by
        obtain ⟨q, off, e, hq, hcell⟩ := hc8 h0
        refine ⟨q, off, e, hq, fun k p hp => ?_⟩
        have hk : (encM M)[k]? = some (p.1, p.2, false) := by rw [encM_at, hp]; rfl
        obtain ⟨z0, z1, z2⟩ := pr3_at (Below.refl _ _) hq (hcell k _ hk)
        exact ⟨z0, z1⟩)
      have XM : (m8 : Int) ≤ 60 := by omega
      subst hu8
      clear HNm hc8 hrd8 hlt8 hm8 hm60
      go_wp2
      go_loopw [13, 14, 15, 16, 17, 18] (fun u13 u14 u15 u16 u17 u18 wr => ∃ (j : Nat) (S : ByteArray) (D : Int) (Fd : Bool), j ≤ m8 ∧ u18 = .int .i64 j ∧ u15 = .string S ∧ u16 = .int .i64 D ∧ u17 = .bool Fd ∧ Hid (nearL a (M.take j) = (S, D, Fd)) ∧
          Hid (eS.Own 9 wr wo.heap.size u13 (nmsP (M.take j))) ∧ Hid (eS.Own 9 wr wo.heap.size u14 (hereL a (M.take j))) ∧ Hid (∀ b, u13.ownBlock = some b → u14.ownBlock ≠ some b) ∧ Hid (Below wo.heap.size wo wr)) (fun _ _ _ _ _ u18 _ => m8 - (intOf u18).toNat)
      case atStart => exact ⟨0, _, _, _, Nat.zero_le _, rfl, rfl, rfl, rfl, Lib.hid rfl, Lib.hid (World.ownsRow_nil _ _ _ 1), Lib.hid (World.ownsRow_nil _ _ _ 1), Lib.hid (by intro b e; cases e), Lib.hid (Below.refl _ _)⟩
      case round =>
        obtain ⟨j, S, D, Fd, hj, rfl, rfl, rfl, rfl, HNr0, HO13a, HO14a, HApa, HBa⟩ := hrel
        have j0 : (0 : Int) ≤ (j : Int) := by omega
        by_cases hjt : j < m8
        · obtain ⟨q, off, rfl, hq, hcell⟩ := HCm.out (by omega)
          obtain ⟨p, hp⟩ : ∃ p, M[j]? = some p := ⟨_, List.getElem?_eq_getElem (by rw [HM8.out]; exact hjt)⟩
          obtain ⟨s, x⟩ := p
          obtain ⟨c0, c1⟩ := hcell j _ hp
          have y0 := (HBa.out.cell (p := ⟨q, off + j * 3, none⟩) hq).trans c0
          have y1 := (HBa.out.cell (p := ⟨q, off + j * 3 + 1, none⟩) hq).trans c1
          have HCell2 : Hid (∀ u, Below wo.heap.size wo u → u.cell? ⟨q, off + j * 3, none⟩ = some (.string s) ∧ u.cell? ⟨q, off + j * 3 + 1, none⟩ = some (.int .u16 x)) := Lib.hid (fun u hb => ⟨(hb.cell (p := ⟨q, off + j * 3, none⟩) hq).trans c0, (hb.cell (p := ⟨q, off + j * 3 + 1, none⟩) hq).trans c1⟩)
          have HNms := Lib.hid (nms_snoc M j _ hp)
          have HHr := Lib.hid (here_snoc a M j _ hp)
          have HNr : Hid (nearL a (M.take (j + 1)) = nearStepL a (S, D, Fd) (s, x)) := Lib.hid (by rw [near_snoc a M j _ hp, HNr0.out])
          have hxr := HTb.out.1 (s, x) (List.mem_of_getElem? hp)
          have x0 : 0 ≤ x := hxr.1
          have x1 : x < 65536 := hxr.2.1
          have hjt' : (j : Int) < (m8 : Int) := by omega
          have hw1 : wrap64 (a - x) = a - x := by unfold wrap64; omega
          have hw2 : IntKind.i64.wrap (a - x) = a - x := IntWalk.i64_in _ (by omega)
          have HLens : Hid ((nmsP (M.take j)).length ≤ 60 ∧ (hereL a (M.take j)).length ≤ 60) := Lib.hid (by
            have e1 := List.length_filter_le (fun p : ByteArray × Int => decide (p.2 = a)) (M.take j)
            unfold nmsP hereL
            rw [List.length_map, List.length_map]
            rw [List.length_take] at e1 ⊢
            omega)
          simp only at c0 c1 y0 y1
          clear hcell c0 c1 hp hxr HNr0
          generalize nmsP (M.take j) = NL at HO13a HNms HLens
          generalize hereL a (M.take j) = HL at HO14a HHr HLens
          go_wp2_with (at_builtin; refine wpList_appS rfl _ _ _ rfl wo.heap.size u13 _ NL [s] rfl (Els.Own.alloc HO13a.out _) rfl (Els.Rd.lit (E := eS) wr 9 [s] #[.string s] 1 rfl rfl 1) (by have := HLens.out.1; simp; omega) (by have := HBa.out.size; simp; omega) ?_)
          intro v13 wa h3 hb3 hg3 ho3
          have HO13 : Hid (eS.Own 9 wa wo.heap.size v13 (nmsP (M.take (j + 1)))) := Lib.hid (by rw [HNms.out]; exact h3)
          have HO14b := Lib.hid (own_apart (HO14a.out.alloc (.cells #[.string s] 9)) hg3 HApa.out)
          have HApb := Lib.hid (apart_grown (o := .cells #[.string s] 9) HO14a.out HApa.out (by rw [World.size_alloc]; exact ho3))
          have HBb := Lib.hid ((Below.alloc0 HBa.out (.cells #[.string s] 9)).trans hb3)
          clear h3 hb3 hg3 ho3 HO13a HO14a HApa HBa y0 y1 HNms
          obtain ⟨y0, y1⟩ := HCell2.out wa HBb.out
          by_cases hxa : x = a
          · have hbq : (x == a) = true := by simpa using hxa
            have HHr2 : Hid (hereL a (M.take (j + 1)) = HL ++ [s]) := Lib.hid (by rw [HHr.out, if_pos hxa])
            clear hxa HHr
            go_wp2_with (at_builtin; refine wpList_appS rfl _ _ _ rfl wo.heap.size u14 _ HL [s] rfl (Els.Own.alloc HO14b.out _) rfl (Els.Rd.lit (E := eS) wa 9 [s] #[.string s] 1 rfl rfl 1) (by have := HLens.out.2; simp; omega) (by have := HBb.out.size; simp; omega) ?_)
            intro v14 wb h3 hb3 hg3 ho3
            have HO14 : Hid (eS.Own 9 wb wo.heap.size v14 (hereL a (M.take (j + 1)))) := Lib.hid (by rw [HHr2.out]; exact h3)
            have HO13b := Lib.hid (own_apart (HO13.out.alloc (.cells #[.string s] 9)) hg3 (apart_symm HApb.out))
            have HAp := Lib.hid (apart_symm (apart_grown (o := .cells #[.string s] 9) HO13.out (apart_symm HApb.out) (by rw [World.size_alloc]; exact ho3)))
            have HB14 := Lib.hid ((Below.alloc0 HBb.out (.cells #[.string s] 9)).trans hb3)
            clear h3 hb3 hg3 ho3 HO13 HO14b HApb HBb y0 y1 HHr2
            rename Hid (eS.Own 9 wb wo.heap.size v13 (nmsP (M.take (j + 1)))) => HO13
            obtain ⟨y0, y1⟩ := HCell2.out wb HB14.out
            by_cases hd : 0 ≤ a - x
            · have f1 : decide (0 ≤ a - x) = true := decide_eq_true hd
              cases Fd
              · have HNx : Hid (nearL a (M.take (j + 1)) = (s, a - x, true)) := Lib.hid (by rw [HNr.out]; unfold nearStepL; rw [f1]; rfl)
                clear HNr
                go_wp2
                go_roundw
                case rel => exact ⟨j + 1, s, a - x, true, by omega, by go_num, rfl, rfl, rfl, HNx, HO13, HO14, HAp, HB14⟩
                case measure => simp [intOf]; omega
              · by_cases hlD : a - x < D
                · have f2 : decide (a - x < D) = true := decide_eq_true hlD
                  have HNx : Hid (nearL a (M.take (j + 1)) = (s, a - x, true)) := Lib.hid (by rw [HNr.out]; unfold nearStepL; rw [f1, if_pos (by simp [hlD])])
                  clear HNr
                  go_wp2
                  go_roundw
                  case rel => exact ⟨j + 1, s, a - x, true, by omega, by go_num, rfl, rfl, rfl, HNx, HO13, HO14, HAp, HB14⟩
                  case measure => simp [intOf]; omega
                · have f2 : decide (a - x < D) = false := decide_eq_false hlD
                  by_cases heD : a - x = D
                  · have f3 : (a - x == D) = true := by simpa using heD
                    have f3d : decide (a - x = D) = true := decide_eq_true heD
                    obtain ⟨BL, hBL⟩ : ∃ b, Op.bytesLess s.toList S.toList = b := ⟨_, rfl⟩
                    clear heD
                    cases BL
                    · have HNx : Hid (nearL a (M.take (j + 1)) = (S, D, true)) := Lib.hid (by rw [HNr.out]; unfold nearStepL; rw [f1, f2, f3d, hBL]; rfl)
                      clear HNr
                      go_wp2
                      go_roundw
                      case rel => exact ⟨j + 1, S, D, true, by omega, by go_num, rfl, rfl, rfl, HNx, HO13, HO14, HAp, HB14⟩
                      case measure => simp [intOf]; omega
                    · have HNx : Hid (nearL a (M.take (j + 1)) = (s, a - x, true)) := Lib.hid (by rw [HNr.out]; unfold nearStepL; rw [f1, f2, f3d, hBL]; rfl)
                      clear HNr
                      go_wp2
                      go_roundw
                      case rel => exact ⟨j + 1, s, a - x, true, by omega, by go_num, rfl, rfl, rfl, HNx, HO13, HO14, HAp, HB14⟩
                      case measure => simp [intOf]; omega
                  · have f3 : (a - x == D) = false := by simpa using heD
                    have f3d : decide (a - x = D) = false := decide_eq_false heD
                    clear heD
                    have HNx : Hid (nearL a (M.take (j + 1)) = (S, D, true)) := Lib.hid (by rw [HNr.out]; unfold nearStepL; rw [f1, f2, f3d]; rfl)
                    clear HNr
                    go_wp2
                    go_roundw
                    case rel => exact ⟨j + 1, S, D, true, by omega, by go_num, rfl, rfl, rfl, HNx, HO13, HO14, HAp, HB14⟩
                    case measure => simp [intOf]; omega
            · have f1 : decide (0 ≤ a - x) = false := decide_eq_false hd
              have HNx : Hid (nearL a (M.take (j + 1)) = (S, D, Fd)) := Lib.hid (by rw [HNr.out]; unfold nearStepL; rw [f1]; rfl)
              clear HNr
              go_wp2
              go_roundw
              case rel => exact ⟨j + 1, S, D, Fd, by omega, by go_num, rfl, rfl, rfl, HNx, HO13, HO14, HAp, HB14⟩
              case measure => simp [intOf]; omega
          · have hbq : (x == a) = false := by simpa using hxa
            have HO14 : Hid (eS.Own 9 wa wo.heap.size u14 (hereL a (M.take (j + 1)))) := Lib.hid (by rw [HHr.out, if_neg hxa, List.append_nil]; exact HO14b.out)
            have HAp := HApb
            have HB14 := HBb
            clear hxa HHr HO14b HApb HBb
            by_cases hd : 0 ≤ a - x
            · have f1 : decide (0 ≤ a - x) = true := decide_eq_true hd
              cases Fd
              · have HNx : Hid (nearL a (M.take (j + 1)) = (s, a - x, true)) := Lib.hid (by rw [HNr.out]; unfold nearStepL; rw [f1]; rfl)
                clear HNr
                go_wp2
                go_roundw
                case rel => exact ⟨j + 1, s, a - x, true, by omega, by go_num, rfl, rfl, rfl, HNx, HO13, HO14, HAp, HB14⟩
                case measure => simp [intOf]; omega
              · by_cases hlD : a - x < D
                · have f2 : decide (a - x < D) = true := decide_eq_true hlD
                  have HNx : Hid (nearL a (M.take (j + 1)) = (s, a - x, true)) := Lib.hid (by rw [HNr.out]; unfold nearStepL; rw [f1, if_pos (by simp [hlD])])
                  clear HNr
                  go_wp2
                  go_roundw
                  case rel => exact ⟨j + 1, s, a - x, true, by omega, by go_num, rfl, rfl, rfl, HNx, HO13, HO14, HAp, HB14⟩
                  case measure => simp [intOf]; omega
                · have f2 : decide (a - x < D) = false := decide_eq_false hlD
                  by_cases heD : a - x = D
                  · have f3 : (a - x == D) = true := by simpa using heD
                    have f3d : decide (a - x = D) = true := decide_eq_true heD
                    obtain ⟨BL, hBL⟩ : ∃ b, Op.bytesLess s.toList S.toList = b := ⟨_, rfl⟩
                    clear heD
                    cases BL
                    · have HNx : Hid (nearL a (M.take (j + 1)) = (S, D, true)) := Lib.hid (by rw [HNr.out]; unfold nearStepL; rw [f1, f2, f3d, hBL]; rfl)
                      clear HNr
                      go_wp2
                      go_roundw
                      case rel => exact ⟨j + 1, S, D, true, by omega, by go_num, rfl, rfl, rfl, HNx, HO13, HO14, HAp, HB14⟩
                      case measure => simp [intOf]; omega
                    · have HNx : Hid (nearL a (M.take (j + 1)) = (s, a - x, true)) := Lib.hid (by rw [HNr.out]; unfold nearStepL; rw [f1, f2, f3d, hBL]; rfl)
                      clear HNr
                      go_wp2
                      go_roundw
                      case rel => exact ⟨j + 1, s, a - x, true, by omega, by go_num, rfl, rfl, rfl, HNx, HO13, HO14, HAp, HB14⟩
                      case measure => simp [intOf]; omega
                  · have f3 : (a - x == D) = false := by simpa using heD
                    have f3d : decide (a - x = D) = false := decide_eq_false heD
                    clear heD
                    have HNx : Hid (nearL a (M.take (j + 1)) = (S, D, true)) := Lib.hid (by rw [HNr.out]; unfold nearStepL; rw [f1, f2, f3d]; rfl)
                    clear HNr
                    go_wp2
                    go_roundw
                    case rel => exact ⟨j + 1, S, D, true, by omega, by go_num, rfl, rfl, rfl, HNx, HO13, HO14, HAp, HB14⟩
                    case measure => simp [intOf]; omega
            · have f1 : decide (0 ≤ a - x) = false := decide_eq_false hd
              have HNx : Hid (nearL a (M.take (j + 1)) = (S, D, Fd)) := Lib.hid (by rw [HNr.out]; unfold nearStepL; rw [f1]; rfl)
              clear HNr
              go_wp2
              go_roundw
              case rel => exact ⟨j + 1, S, D, Fd, by omega, by go_num, rfl, rfl, rfl, HNx, HO13, HO14, HAp, HB14⟩
              case measure => simp [intOf]; omega
        · obtain rfl : j = m8 := by omega
          have HTk : Hid (M.take j = M) := Lib.hid (by rw [← HM8.out, List.take_length])
          have HN : Hid (nearL a M = (S, D, Fd)) := Lib.hid (by have := HNr0.out; rw [HTk.out] at this; exact this)
          have O13 : Hid (eS.Own 9 wr wo.heap.size u13 (nmsP M)) := Lib.hid (by have := HO13a.out; rw [HTk.out] at this; exact this)
          have O14 : Hid (eS.Own 9 wr wo.heap.size u14 (hereL a M)) := Lib.hid (by have := HO14a.out; rw [HTk.out] at this; exact this)
          have HL : Hid ((nmsP M).length ≤ 60 ∧ (hereL a M).length ≤ 60 ∧ M.length ≤ 60) := Lib.hid (by
            have e1 := List.length_filter_le (fun p : ByteArray × Int => decide (p.2 = a)) M
            have e2 := HM8.out
            unfold nmsP hereL
            rw [List.length_map, List.length_map]
            omega)
          have CS1 := Lib.hid (sortS_any u13 (nmsP M) wo.heap.size wr O13.out (by have := HL.out.1; omega))
          clear HNr0 HO13a HO14a HTk
          go_wp2_with fail
          refine CS1.out.mono ?_
          rintro e w5 ⟨rfl, hs, hg⟩
          have P13 := Lib.hid hs
          have P14 := Lib.hid (own_apart O14.out hg HApa.out)
          have B5 := Lib.hid (HBa.out.grown hg HBa.out.size (fun j e => (O13.out.lt j e).1))
          clear hs hg CS1 O13 O14
          have CS2 := Lib.hid (sortS_any u14 (hereL a M) wo.heap.size w5 P14.out (by have := HL.out.2.1; omega))
          go_wp2_with fail
          refine CS2.out.mono ?_
          rintro e w6 ⟨rfl, hs, hg⟩
          have Q14 := Lib.hid hs
          have Q13 := Lib.hid (own_apart P13.out hg (apart_symm HApa.out))
          have B6 := Lib.hid (B5.out.grown hg B5.out.size (fun j e => (P14.out.lt j e).1))
          clear hs hg CS2 P13 P14 B5
          have HT6 := Lib.hid (HTb.out.below B6.out)
          have HR6 := Lib.hid (HRd.out.below B6.out)
          have HB6 := Lib.hid (Below.trans0 HBo.out B6.out)
          have CG := Lib.hid (tabGet_any w6 0 w.heap.size n2 (lookP M) HT6.out.tab ask (by have := HAsk.out; unfold maxLen; omega))
          have CF := Lib.hid (find_any _ (encM M) ask w6 HR6.out (by rw [encM_len]; have := HL.out.2.2; omega))
          have CN := Lib.hid (by have := symNear_any w6 w.heap.size n2 ob M HT6.out (by have := HL.out.2.2; omega) a a0 a1; rw [near_eq HTb.out.2.1 a, HN.out] at this; exact this)
          have HCm6 : Hid (0 < j → ∃ q off, A8 = some ⟨q, off, none⟩ ∧ ∀ k p, M[k]? = some p → w6.cell? ⟨q, off + k * 3 + 1, none⟩ = some (.int .u16 p.2)) := Lib.hid (fun h0 => by
            obtain ⟨q, off, e, hq, hc⟩ := HCm.out h0
            exact ⟨q, off, e, fun k p hp => (B6.out.cell (p := ⟨q, off + k * 3 + 1, none⟩) hq).trans (hc k p hp).2⟩)
          have z1 : ((j : Int) == (j : Int)) = true := by simp
          have z2 : (S.toList == S.toList) = true := by simp
          have z3 : (D == D) = true := by simp
          have z4 : (Fd == Fd) = true := by simp
          cases hlk : lookP M ask with
          | none =>
            rw [hlk] at CG
            go_wp2_with fail
            refine CG.out.mono ?_
            rintro e w7 ⟨rfl, rfl⟩
            go_wp2_with fail
            refine CF.out.mono ?_
            rintro e w7 ⟨⟨r, rfl, hf⟩, rfl⟩
            rcases find_look HTb.out.2.1 hf with ⟨rfl, hno⟩ | ⟨k, v', rfl, hk, hkv, hlo⟩
            case' inr => exact absurd hlo (by rw [hlk]; simp)
            clear hf hno CF CG hlk
            go_wp2_with fail
            refine CN.out.mono ?_
            rintro e w8 ⟨rfl, hb8⟩
            have B8 := Lib.hid hb8
            have HT8 := Lib.hid (HT6.out.below hb8)
            have HB8 := Lib.hid (Below.trans0 HB6.out hb8)
            clear hb8
            have CL := Lib.hid (symLen_any w8 w.heap.size n2 ob M HT8.out)
            rw [HM8.out] at CL
            go_wp2_with fail
            refine CL.out.mono ?_
            rintro e w9 ⟨rfl, rfl⟩
            have CNm := Lib.hid (symNames_any w8 w.heap.size n2 ob M HT8.out (by have := HL.out.2.2; omega))
            go_wp2_with fail
            refine CNm.out.mono ?_
            rintro e w9 ⟨v9, rfl, ho9, hb9⟩
            have HT9 := Lib.hid (HT8.out.below hb9)
            have HB9 := Lib.hid (Below.trans0 HB8.out hb9)
            have R13 := Lib.hid ((Q13.out.rd.below B8.out).below hb9)
            have R14 := Lib.hid ((Q14.out.rd.below B8.out).below hb9)
            have CE := Lib.hid (eqSs_any v9 u13 (srtS (nmsP M)) (srtS (nmsP M)) w9 ho9.rd R13.out (by rw [srt_len]; have := HL.out.1; omega) (by rw [srt_len]; have := HL.out.1; omega) (by
              cases h : srtS (nmsP M) with
              | nil => exact .inl rfl
              | cons y t => exact .inr (by simp)))
            rw [decide_eq_true rfl] at CE
            clear ho9 hb9
            go_wp2_with fail
            refine CE.out.mono ?_
            rintro e wA ⟨rfl, kq, hwA⟩
            have HTA : Hid (TabP wA w.heap.size ob n2 M) := Lib.hid (by rw [hwA]; exact HT9.out.below (Below.drewN0 (Below.refl _ _) _))
            have HBA : Hid (Below w.heap.size w wA) := Lib.hid (by rw [hwA]; exact Below.drewN0 HB9.out _)
            have RA : Hid (eS.Rd wA u14 (srtS (hereL a M))) := Lib.hid (by rw [hwA]; exact R14.out.drewN _)
            clear hwA
            have CA := Lib.hid (symAt_any wA w.heap.size n2 ob M HTA.out (by have := HL.out.2.2; omega) a)
            rw [here_eq HTb.out.2.1 a] at CA
            go_wp2_with fail
            refine CA.out.mono ?_
            rintro e wB ⟨vB, rfl, hoB, hbB⟩
            have HBB := Lib.hid (Below.trans0 HBA.out hbB)
            have CE2 := Lib.hid (eqSs_any vB u14 (srtS (hereL a M)) (srtS (hereL a M)) wB hoB.rd (RA.out.below hbB) (by rw [srt_len]; have := HL.out.2.1; omega) (by rw [srt_len]; have := HL.out.2.1; omega) (by
              cases h : srtS (hereL a M) with
              | nil => exact .inl rfl
              | cons y t => exact .inr (by simp)))
            rw [decide_eq_true rfl] at CE2
            clear hoB hbB
            go_wp2_with fail
            refine CE2.out.mono ?_
            rintro e wC ⟨rfl, kq2, hwC⟩
            have HBC : Hid (Below w.heap.size w wC) := Lib.hid (by rw [hwC]; exact Below.drewN0 HBB.out _)
            clear hwC
            go_wp2_with fail
            refine (alive41 wC).mono ?_
            rintro e wD ⟨rfl, hbD⟩
            have HBD := Lib.hid (Below.trans0 HBC.out hbD)
            clear hbD
            go_wp2
            go_ret
            exact ⟨rfl, HBD.out⟩
          | some x =>
            rw [hlk] at CG
            go_wp2_with fail
            refine CG.out.mono ?_
            rintro e w7 ⟨rfl, rfl⟩
            go_wp2_with fail
            refine CF.out.mono ?_
            rintro e w7 ⟨⟨r, rfl, hf⟩, rfl⟩
            rcases find_look HTb.out.2.1 hf with ⟨rfl, hno⟩ | ⟨k, v', rfl, hk, hkv, hlo⟩
            case' inl => exact absurd hno (by rw [hlk]; simp)
            rw [hlk] at hlo
            injection hlo with hlo
            subst hlo
            obtain ⟨q, off, rfl, hcm⟩ := HCm6.out (by have := HM8.out; omega)
            have hck := hcm k _ hkv
            have hk0 : (0 : Int) ≤ (k : Int) := by omega
            have hkj : (k : Int) < (j : Int) := by have := HM8.out; omega
            have hxx : (x == x) = true := by simp
            have hxx2 : (x != x) = false := by simp
            simp only at hck
            clear hf hkv CF CG hlk hcm hk
            go_wp2_with fail
            refine CN.out.mono ?_
            rintro e w8 ⟨rfl, hb8⟩
            have B8 := Lib.hid hb8
            have HT8 := Lib.hid (HT6.out.below hb8)
            have HB8 := Lib.hid (Below.trans0 HB6.out hb8)
            clear hb8
            have CL := Lib.hid (symLen_any w8 w.heap.size n2 ob M HT8.out)
            rw [HM8.out] at CL
            go_wp2_with fail
            refine CL.out.mono ?_
            rintro e w9 ⟨rfl, rfl⟩
            have CNm := Lib.hid (symNames_any w8 w.heap.size n2 ob M HT8.out (by have := HL.out.2.2; omega))
            go_wp2_with fail
            refine CNm.out.mono ?_
            rintro e w9 ⟨v9, rfl, ho9, hb9⟩
            have HT9 := Lib.hid (HT8.out.below hb9)
            have HB9 := Lib.hid (Below.trans0 HB8.out hb9)
            have R13 := Lib.hid ((Q13.out.rd.below B8.out).below hb9)
            have R14 := Lib.hid ((Q14.out.rd.below B8.out).below hb9)
            have CE := Lib.hid (eqSs_any v9 u13 (srtS (nmsP M)) (srtS (nmsP M)) w9 ho9.rd R13.out (by rw [srt_len]; have := HL.out.1; omega) (by rw [srt_len]; have := HL.out.1; omega) (by
              cases h : srtS (nmsP M) with
              | nil => exact .inl rfl
              | cons y t => exact .inr (by simp)))
            rw [decide_eq_true rfl] at CE
            clear ho9 hb9
            go_wp2_with fail
            refine CE.out.mono ?_
            rintro e wA ⟨rfl, kq, hwA⟩
            have HTA : Hid (TabP wA w.heap.size ob n2 M) := Lib.hid (by rw [hwA]; exact HT9.out.below (Below.drewN0 (Below.refl _ _) _))
            have HBA : Hid (Below w.heap.size w wA) := Lib.hid (by rw [hwA]; exact Below.drewN0 HB9.out _)
            have RA : Hid (eS.Rd wA u14 (srtS (hereL a M))) := Lib.hid (by rw [hwA]; exact R14.out.drewN _)
            clear hwA
            have CA := Lib.hid (symAt_any wA w.heap.size n2 ob M HTA.out (by have := HL.out.2.2; omega) a)
            rw [here_eq HTb.out.2.1 a] at CA
            go_wp2_with fail
            refine CA.out.mono ?_
            rintro e wB ⟨vB, rfl, hoB, hbB⟩
            have HBB := Lib.hid (Below.trans0 HBA.out hbB)
            have CE2 := Lib.hid (eqSs_any vB u14 (srtS (hereL a M)) (srtS (hereL a M)) wB hoB.rd (RA.out.below hbB) (by rw [srt_len]; have := HL.out.2.1; omega) (by rw [srt_len]; have := HL.out.2.1; omega) (by
              cases h : srtS (hereL a M) with
              | nil => exact .inl rfl
              | cons y t => exact .inr (by simp)))
            rw [decide_eq_true rfl] at CE2
            clear hoB hbB
            go_wp2_with fail
            refine CE2.out.mono ?_
            rintro e wC ⟨rfl, kq2, hwC⟩
            have HBC : Hid (Below w.heap.size w wC) := Lib.hid (by rw [hwC]; exact Below.drewN0 HBB.out _)
            clear hwC
            go_wp2_with fail
            refine (alive41 wC).mono ?_
            rintro e wD ⟨rfl, hbD⟩
            have HBD := Lib.hid (Below.trans0 HBC.out hbD)
            clear hbD
            go_wp2
            go_ret
            exact ⟨rfl, HBD.out⟩
end Go.Proofs.Ytopkjniegncokaa
