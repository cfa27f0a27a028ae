/- The law of package prof: a row of counts with a part more. -/
import Derived.Test.YtlgaedhbgkhmeaaPfZ
import Derived.Test.YtlgaedhbgkhmeaaPfY
import Derived.Test.YtlgaedhbgkhmeaaOwS
import Derived.Deep.CutBlock
namespace Go.Proofs.Ytlgaedhbgkhmeaa
open Go.ChangeShapes Go.WideShapes Go.ChangeAt Go.RowKit
set_option linter.unusedVariables false
theorem drop_at {α : Type} (l : List α) (k : Nat) (x : α) (h : l[k]? = some x) : l.drop k = x :: l.drop (k + 1) := by
  have hk : k < l.length := by
    rcases Nat.lt_or_ge k l.length with a | a
    · exact a
    · rw [List.getElem?_eq_none a] at h; cases h
  rw [List.getElem?_eq_getElem hk] at h
  injection h with h
  rw [List.drop_eq_getElem_cons hk, h]
theorem owN_cons (x : Rc) (l : List Rc) : owN (x :: l) = owN l + (if x.m then 1 else 0) := by
  unfold owN
  rw [List.filter_cons]
  cases x.m <;> rfl
theorem owN_none {l : List Rc} : owN l = 0 ↔ l.find? stP = none := by
  unfold owN
  rw [List.length_eq_zero_iff, List.filter_eq_nil_iff, List.find?_eq_none]
  rfl
theorem addN_set {L : List SpN} (hd : DisN L) {k : Nat} {x : SpN} (hk : L[k]? = some x) (o l : Int) : addN L x.a o l = L.set k (incN o l x) := by
  have hx : x ∈ L := List.mem_of_getElem? hk
  unfold addN
  rw [if_pos (List.any_eq_true.2 ⟨x, hx, by simp⟩)]
  apply List.ext_getElem?
  intro i
  rw [List.getElem?_map]
  by_cases e : i = k
  · subst e
    have hl := (List.getElem?_eq_some_iff.1 hk).1
    rw [hk, List.getElem?_set_self hl]
    simp
  · rw [List.getElem?_set_ne (fun q => e q.symm)]
    cases hi : L[i]? with
    | none => rfl
    | some y =>
      have hne : y.a ≠ x.a := fun q => by
        have l1 := lkS_mem hd (List.mem_of_getElem? hi)
        have l2 := lkS_mem hd hx
        rw [q, l2] at l1
        obtain rfl := Option.some.inj l1
        obtain ⟨a1, a2⟩ := List.getElem?_eq_some_iff.1 hi
        obtain ⟨b1, b2⟩ := List.getElem?_eq_some_iff.1 hk
        have hn := hd.nodup
        exact e ((List.getElem?_inj a1 hn).1 (hi.trans hk.symm))
      simp [hne]
set_option maxRecDepth 100000 in
set_option maxHeartbeats 4000000 in
theorem lwAdd_any (v u : Value) (L : List SpN) (x : List Rc) (B : Nat) (w : World) (h : eSp.Own 35 w B v L) (hu : eR.Rd w u x) (hBw : B ≤ w.heap.size) (hx : x.length ≤ 30 ∧ ∀ r ∈ x, r.Ok) (hd : DisN L) (m : Int) (hm0 : 0 ≤ m) (hm : m ≤ 80) (hB : BndN m 30 L) (hL : L.length ≤ 1000) :
    Calls Try.prog 5 #[v, u] w fun e w' => ∃ v', e = .returned v' ∧ eSp.Own 35 w' B v' (addP L x) ∧ Below w.heap.size w w' := by
  obtain ⟨A, c, rfl, hc⟩ := hu.open_
  obtain ⟨n, hn⟩ : ∃ n, x.length = n := ⟨_, rfl⟩
  rw [hn] at hc
  have HN := Lib.hid hn
  have HC := Lib.hid hc
  have HX := Lib.hid hx
  have HO := Lib.hid h
  have HD := Lib.hid hd
  have HBd := Lib.hid hB
  have CC := Lib.hid (cloneSp v L w h.rd (by omega))
  have hn30 : n ≤ 30 := by omega
  have hw : wrap64 ((n : Int) - 1) = (n : Int) - 1 := by unfold wrap64; omega
  rw [hn]
  clear hc hu h hx hd hB hn
  go_enter Try.func5, Try.ntmps5
  go_wp2
  go_loopw [5, 6, 7] (fun u5 u6 u7 wr => wr = w ∧ ∃ (j : Nat) (i : Int), j ≤ n ∧ i = (j : Int) - 1 ∧ u7 = .int .i64 i ∧ u5 = .int .i64 ((owN (x.drop j) : Nat) : Int) ∧ u6 = .int .u16 (valO ((x.drop j).find? stP))) (fun _ _ u7 _ => (intOf u7 + 1).toNat)
  case atStart => exact ⟨rfl, n, _, Nat.le_refl _, rfl, rfl, by rw [List.drop_of_length_le (by rw [HN.out]; exact Nat.le_refl _)]; rfl, by rw [List.drop_of_length_le (by rw [HN.out]; exact Nat.le_refl _)]; rfl⟩
  case round =>
    obtain ⟨hwr, j, i, hj, hi, rfl, rfl, rfl⟩ := hrel
    subst hwr
    by_cases h0 : j = 0
    · subst h0
      obtain rfl : i = -1 := by omega
      simp only [List.drop_zero]
      clear hi hj
      cases hf : x.find? stP with
      | none =>
        have ho : owN x = 0 := owN_none.2 hf
        have hP : Hid (addP L x = L) := Lib.hid (by unfold addP; rw [hf])
        rw [ho]
        clear hf ho
        go_wp2
        go_ret
        exact ⟨_, rfl, by rw [hP.out]; exact HO.out, Below.refl _ _⟩
      | some r =>
        have hr := HX.out.2 r (List.mem_of_find?_eq_some hf)
        have hor : owN x ≠ 0 := fun e => by rw [owN_none.1 e] at hf; cases hf
        have hol : owN x ≤ n := by have := owN_le x x.length; rw [List.take_length, HN.out] at this; exact this
        have hP : Hid (addP L x = addN L r.a (owN x) ((n : Int) - owN x)) := Lib.hid (by unfold addP; rw [hf, HN.out])
        clear hf
        obtain ⟨ow, how⟩ : ∃ ow, owN x = ow := ⟨_, rfl⟩
        rw [how] at hor hol hP ⊢
        clear how
        obtain ⟨a, hra⟩ : ∃ a, r.a = a := ⟨_, rfl⟩
        obtain ⟨ha0, ha1⟩ : 0 ≤ a ∧ a < 65536 := by rw [← hra]; exact ⟨hr.a0, hr.a1⟩
        rw [hra] at hP
        simp only [valO, hra]
        clear hr hra
        have hne : ((ow : Int) == 0) = false := by rw [beq_eq_false_iff_ne]; omega
        have hw2 : wrap64 ((n : Int) - (ow : Int)) = (n : Int) - ow := by unfold wrap64; omega
        go_wp2_with fail
        refine CC.out.mono ?_
        rintro e w1 ⟨v8, rfl, ho8, hb8⟩
        have HB1 := Lib.hid hb8
        obtain ⟨A8, c8, hv8, hc8⟩ := own_cap ho8
        obtain ⟨N, hNl⟩ : ∃ N, L.length = N := ⟨_, rfl⟩
        rw [hNl] at hv8 hc8
        have HNL := Lib.hid hNl
        subst hv8
        have HQ := Lib.hid ho8.lt
        have HO8 := Lib.hid (ho8.more hBw)
        have HBw := Lib.hid hBw
        have hN1 : N ≤ 1000 := by omega
        have HL1 := Lib.hid hL
        clear ho8 hb8 hc8 hNl hL
        go_wp2
        obtain ⟨wo, hwo⟩ : ∃ wo, wo = wr := ⟨_, rfl⟩
        subst hwo
        go_loopw [9] (fun u9 wx => wx = w1 ∧ ∃ k : Nat, k ≤ N ∧ u9 = .int .i64 (k : Int) ∧ Hid (∀ (i : Nat) (y : SpN), i < k → L[i]? = some y → y.a ≠ a)) (fun u9 _ => N - (intOf u9).toNat)
        case atStart => exact ⟨rfl, 0, Nat.zero_le _, rfl, Lib.hid (fun i y h => by omega)⟩
        case round =>
          obtain ⟨hwr, k, hk, rfl, hno⟩ := hrel
          subst hwr
          by_cases hkN : k < N
          · obtain ⟨y, hy⟩ : ∃ y, L[k]? = some y := ⟨_, List.getElem?_eq_getElem (by rw [HNL.out]; exact hkN)⟩
            obtain ⟨q, rfl⟩ : ∃ q, A8 = some ⟨q, 0, none⟩ := by
              rcases HO8.out.2 with ⟨_, e⟩ | ⟨q, c', cur, e, _⟩
              · have := HNL.out; omega
              · injection e with e1; exact ⟨q, e1⟩
            have hq := Lib.hid ((HQ.out q rfl).1)
            obtain ⟨e0, _⟩ := HO8.out.at_ k y hy 0 _ rfl
            obtain ⟨e1, f1⟩ := HO8.out.at_ k y hy 1 _ rfl
            have e0' : wr.cell? ⟨q, k * 4, none⟩ = some (.int .u16 y.a) := e0
            have e1' : wr.cell? ⟨q, k * 4 + 1, none⟩ = some (.int .i64 y.t) := e1
            have f1' : wr.frozen? ⟨q, k * 4 + 1, none⟩ = false := f1
            have k0 : (0 : Int) ≤ (k : Int) := by omega
            have k1 : (k : Int) < (N : Int) := by omega
            have HY := Lib.hid hy
            clear e0 e1 f1
            by_cases hya : y.a = a
            · have hby := HBd.out y (List.mem_of_getElem? hy)
              have hyl : k < L.length := (List.getElem?_eq_some_iff.1 hy).1
              have O1 := Lib.hid (HO8.out.setAt k y ⟨y.a, y.t + 1, y.c, y.l⟩ hy 1 (.int .i64 (y.t + 1)) (by decide) rfl)
              have O2 := Lib.hid (O1.out.setAt k _ ⟨y.a, y.t + 1, y.c + ow, y.l⟩ (List.getElem?_set_self hyl) 2 (.int .i64 (y.c + ow)) (by decide) rfl)
              have O3 := Lib.hid (O2.out.setAt k _ ⟨y.a, y.t + 1, y.c + ow, y.l + ((n : Int) - ow)⟩ (List.getElem?_set_self (by rw [List.length_set]; exact hyl)) 3 (.int .i64 (y.l + ((n : Int) - ow))) (by decide) rfl)
              obtain ⟨e2, f2⟩ := O1.out.at_ k _ (List.getElem?_set_self hyl) 2 _ rfl
              obtain ⟨e3, f3⟩ := O2.out.at_ k _ (List.getElem?_set_self (by rw [List.length_set]; exact hyl)) 3 _ rfl
              have HF : Hid (addP L x = (((L.set k ⟨y.a, y.t + 1, y.c, y.l⟩).set k ⟨y.a, y.t + 1, y.c + ow, y.l⟩).set k ⟨y.a, y.t + 1, y.c + ow, y.l + ((n : Int) - ow)⟩)) := Lib.hid (by
                rw [hP.out, ← hya, addN_set HD.out hy, List.set_set, List.set_set]; rfl)
              have BB := Lib.hid (Below.set0 (i := k * 4 + 3) (Below.set0 (i := k * 4 + 2) (Below.set0 (i := k * 4 + 1) HB1.out hq.out (.int .i64 (y.t + 1))) hq.out (.int .i64 (y.c + ow))) hq.out (.int .i64 (y.l + ((n : Int) - ow))))
              clear hyl hP hy
              obtain ⟨ya, yt, yc, yl⟩ := y
              simp only at *
              have w1' : wrap64 (yt + 1) = yt + 1 := by unfold wrap64; omega
              have w2' : wrap64 (yc + (ow : Int)) = yc + ow := by unfold wrap64; omega
              have w3' : wrap64 (yl + ((n : Int) - (ow : Int))) = yl + ((n : Int) - ow) := by unfold wrap64; omega
              have e2' : (wr.setCell ⟨q, k * 4 + 1, none⟩ (.int .i64 (yt + 1))).cell? ⟨q, k * 4 + 2, none⟩ = some (.int .i64 yc) := e2
              have f2' : (wr.setCell ⟨q, k * 4 + 1, none⟩ (.int .i64 (yt + 1))).frozen? ⟨q, k * 4 + 2, none⟩ = false := f2
              have e3' : ((wr.setCell ⟨q, k * 4 + 1, none⟩ (.int .i64 (yt + 1))).setCell ⟨q, k * 4 + 2, none⟩ (.int .i64 (yc + ow))).cell? ⟨q, k * 4 + 3, none⟩ = some (.int .i64 yl) := e3
              have f3' : ((wr.setCell ⟨q, k * 4 + 1, none⟩ (.int .i64 (yt + 1))).setCell ⟨q, k * 4 + 2, none⟩ (.int .i64 (yc + ow))).frozen? ⟨q, k * 4 + 3, none⟩ = false := f3
              clear e2 f2 e3 f3 hby
              have hya2 : (ya == a) = true := by simpa using hya
              clear hya
              go_upto_region 16 with (fail)
              clear e0' e1' f1'
              generalize wr.setCell ⟨q, k * 4 + 1, none⟩ (.int .i64 (yt + 1)) = V1 at e2' f2' e3' f3' O1 O2 O3 BB ⊢
              go_upto_region 17 with (fail)
              clear e2' f2'
              generalize V1.setCell ⟨q, k * 4 + 2, none⟩ (.int .i64 (yc + ow)) = V2 at e3' f3' O2 O3 BB ⊢
              go_wp2
              go_ret
              exact ⟨_, rfl, by rw [HF.out]; exact O3.out, BB.out⟩
            · have hya2 : (y.a == a) = false := by simpa using hya
              have hno2 : Hid (∀ (i : Nat) (z : SpN), i < k + 1 → L[i]? = some z → z.a ≠ a) := Lib.hid (fun i z hi hz => by
                rcases (show i < k ∨ i = k by omega) with q | rfl
                · exact hno.out i z q hz
                · rw [hz] at hy; obtain rfl := Option.some.inj hy; exact hya)
              obtain ⟨ya, yt, yc, yl⟩ := y
              simp only at *
              clear hya hy
              go_wp2
              go_roundw
              case rel => exact ⟨by trivial, k + 1, by omega, by go_num, hno2⟩
              case measure => simp [intOf]; omega
          · obtain rfl : k = N := by omega
            have hF : Hid (addP L x = L ++ [⟨a, 1, ow, (n : Int) - ow⟩]) := Lib.hid (by
              rw [hP.out]
              unfold addN
              rw [if_neg]
              intro e
              obtain ⟨y, hy, hya⟩ := List.any_eq_true.1 e
              obtain ⟨i, hi⟩ := List.getElem?_of_mem hy
              have hil := (List.getElem?_eq_some_iff.1 hi).1
              exact hno.out i y (by rw [← HNL.out]; exact hil) hi (by simpa using hya))
            clear hP hno
            go_wp2_with (at_builtin; refine wpList_appSp rfl _ _ _ rfl B _ _ L [⟨a, 1, ow, (n : Int) - ow⟩] rfl (Els.Own.alloc HO8.out _) rfl (Els.Rd.lit (E := eSp) wr 35 [⟨a, 1, ow, (n : Int) - ow⟩] _ 1 rfl rfl 1) (by have := HL1.out; simp; omega) (by have := HBw.out; have := HB1.out.size; simp; omega) ?_; intro v7 w7 ho7 hb7 hg7 hh7)
            have HO7 := Lib.hid ho7
            have HB7 := Lib.hid ((Below.alloc0 HB1.out _).grown hg7 (by have := HB1.out.size; simp; omega) (fun j e => (HQ.out j e).1))
            clear ho7 hb7 hg7 hh7
            go_wp2
            go_ret
            exact ⟨_, rfl, by rw [hF.out]; exact HO7.out, HB7.out⟩
    · obtain ⟨k, rfl⟩ : ∃ k, j = k + 1 := ⟨j - 1, by omega⟩
      obtain rfl : i = (k : Int) := by omega
      clear hi
      have hkn : k < n := by omega
      obtain ⟨r, hr⟩ : ∃ r, x[k]? = some r := ⟨_, List.getElem?_eq_getElem (by rw [HN.out]; exact hkn)⟩
      obtain ⟨g, off, rfl, hg, hcell⟩ := HC.out (by omega)
      obtain ⟨d0, d1, d2, d3, d4, d5, d6, d7, d8⟩ := rc9_at (Below.refl wr.heap.size wr) hg (fun jj q hq => hcell k r hr jj q hq)
      have NX1 := Lib.hid ((congrArg owN (drop_at x k r hr)).trans (owN_cons _ _))
      have NX2 : Hid ((x.drop k).find? stP = if r.m then some r else (x.drop (k + 1)).find? stP) := Lib.hid (by
        rw [drop_at x k r hr, List.find?_cons]
        unfold stP
        cases r.m <;> rfl)
      have hob := owN_le (x.drop (k + 1)) (x.drop (k + 1)).length
      rw [List.take_length, List.length_drop, HN.out] at hob
      have k0 : (0 : Int) ≤ (k : Int) := by omega
      have k1 : (k : Int) < (n : Int) := by omega
      have HK := Lib.hid hkn
      generalize owN (x.drop (k + 1)) = ow at *
      generalize (x.drop (k + 1)).find? stP = fd at *
      clear hcell hr h0 hkn
      obtain ⟨a, d, rr, b1, b2, b3, b4, b5, mm⟩ := r
      simp only at d0 d1 d2 d3 d4 d5 d6 d7 d8 NX1 NX2
      clear d1 d2 d3 d4 d5 d6 d7
      cases mm
      case false =>
        go_wp2
        go_roundw
        case rel => exact ⟨by trivial, k, (k : Int) - 1, by omega, rfl, rfl, by rw [NX1.out]; rfl, by rw [NX2.out]; rfl⟩
        case measure => simp [intOf]
      case true =>
        go_wp2
        go_roundw
        case rel => exact ⟨by trivial, k, (k : Int) - 1, by omega, rfl, rfl, by rw [NX1.out]; rfl, by rw [NX2.out]; rfl⟩
        case measure => simp [intOf]
end Go.Proofs.Ytlgaedhbgkhmeaa
