/- The law InstPuts over numbers: the walk. -/
import Derived.Test.YtfkcogccbeolfabDoorInsZ
namespace Go.Proofs.YtfkcogccbeolfabDoor
open Go.ChangeShapes Go.WideShapes Go.ChangeAt Go.RowKit
set_option linter.unusedVariables false

theorem PutIs.no {w : World} {X : List Int} {e : Ending} {w' : World} (h : PutIs w X false e w') : ∃ A c, e = .returned (.tuple #[.slice A 0 c, .int .i64 10]) ∧ Below w.heap.size w w' := by
  obtain ⟨A, c, h1, _, h2⟩ := h
  exact ⟨A, c, h1, h2⟩
theorem insEq_iff (p c o m r b v l p' c' o' m' r' b' v' l' : Int) : insEq p c o m r b v l p' c' o' m' r' b' v' l' = true ↔ p = p' ∧ c = c' ∧ o = o' ∧ m = m' ∧ r = r' ∧ b = b' ∧ v = v' ∧ l = l' := by
  unfold insEq
  simp only [Bool.and_eq_true, beq_iff_eq]
  constructor
  · rintro ⟨a, b, ⟨c, d, e⟩, f, g, h⟩; exact ⟨a, b, c, d, e, f, g, h⟩
  · rintro ⟨a, b, c, d, e, f, g, h⟩; exact ⟨a, b, ⟨c, d, e⟩, f, g, h⟩
theorem putX_ne (p c m : Int) (b : Nat) (v : Int) : 1 ≤ (putX p c m b v).length := by
  unfold putX
  simp only [List.length_append, List.length_cons, List.length_nil]
  omega
/-- Bytes that Put makes, and that say what they are made of, are as many as they say. -/
theorem put_len {p c o m r : Int} {b : Nat} {v l : Int} (hb : b < 256) (hwf : ∀ z ∈ putX p c m b v, (Lit.int .u8 z).wf = true) (h : putOk p c o m r b v l (putX p c m b v) = true) :
    inOk (putX p c m b v) = true ∧ inLn (putX p c m b v) = (putX p c m b v).length ∧ l = ((putX p c m b v).length : Int) := by
  unfold putOk at h
  rw [Bool.and_eq_true] at h
  obtain ⟨h1, h2⟩ := h
  have hmd := inMd_le hwf
  have hpg : inPg (putX p c m b v) = 1 ∨ inPg (putX p c m b v) = 2 ∨ inPg (putX p c m b v) = 3 := by
    unfold inPg; split
    · omega
    · split <;> omega
  obtain ⟨e1, e2, e3, e4, e5, e6, e7, e8⟩ := (insEq_iff _ _ _ _ _ _ _ _ _ _ _ _ _ _ _ _).1 h2
  have hlen : (putX p c m b v).length = inLn (putX p c m b v) := by
    have hX : inLn (putX p c m b v) = inL1 (putX p c m b v) + (if pstd (inMd (putX p c m b v)) then 1 else 0) + inN (putX p c m b v) := rfl
    rw [hX]
    have e4' : (inMd (putX p c m b v) : Int) = m := e4
    have hN : inN (putX p c m b v) = widI m b := by
      have h1 := widI_nat (inMd (putX p c m b v)) b hmd
      rw [e4'] at h1
      rw [h1]
      unfold inN
      rw [e6]
    have hP : pstd (inMd (putX p c m b v)) = pstdI m := by
      have h1 := pstdI_nat (inMd (putX p c m b v))
      rw [e4'] at h1
      exact h1.symm
    have hL : inL1 (putX p c m b v) = (putA p).length + 1 := by
      unfold inL1
      generalize inPg (putX p c m b v) = q at e1 hpg ⊢
      subst e1
      rcases hpg with rfl | rfl | rfl <;> rfl
    have hw := widI_le m b hb
    rw [hN, hP, hL]
    have hC : (putC m b v).length = widI m b := by
      unfold putC
      rcases (show widI m b = 0 ∨ widI m b = 1 ∨ widI m b = 2 by omega) with hw | hw | hw <;> rw [hw] <;> rfl
    have hB : (putB m (b : Int)).length = if pstdI m then 1 else 0 := by unfold putB; split <;> rfl
    rw [← hC, ← hB]
    unfold putX
    simp only [List.length_append, List.length_cons, List.length_nil]
    try omega
  exact ⟨h1, hlen.symm, by rw [← e8, hlen]⟩
/-- What bytes say is what is written of it. -/
theorem put_of {xs : List Int} {p c o m r : Int} {b : Nat} {v l : Int} (h : ∀ z ∈ xs, (Lit.int .u8 z).wf = true) (hok : inOk xs = true)
    (he : insEq (inPg xs : Int) (inCo xs) (eOp (inE xs)) (eMode (inE xs)) (eReg (inE xs)) (inPo xs) (inVa xs) (inLn xs : Int) p c o m r b v l = true) :
    putOk p c o m r b v l (putX p c m b v) = true ∧ hasPre xs (putX p c m b v) = true := by
  obtain ⟨e1, e2, e3, e4, e5, e6, e7, e8⟩ := (insEq_iff _ _ _ _ _ _ _ _ _ _ _ _ _ _ _ _).1 he
  have hb : b = (inPo xs).toNat := by omega
  subst e1 e2 e3 e4 e5 e7 e8 hb
  have h1 := put_take h hok
  have h2 := putOk_self h hok
  rw [h1]
  exact ⟨h2, hasPre_take xs _ (of_decide_eq_true hok)⟩
set_option maxRecDepth 100000 in
set_option maxHeartbeats 8000000 in
theorem law_puts (p c o m r v l : Int) (b : Nat) (hc0 : 0 ≤ c) (hc1 : c < 256) (hb : b < 256) (v0 : 0 ≤ v) (v1 : v < 65536) (A : Option Addr) (n cap : Nat) (xs : List Int) (w : World) (hI : Ints .u8 w w.heap.size A n xs) (hA : A = none → n = 0 ∧ cap = 0) (hn : n ≤ cap) (hP : PagAt w) (hK : KindsAt w) :
    Calls Tryd.prog 5 #[.agg (iC p c o m r (b : Int) v l), .slice A n cap] w fun e w' => e = .returned (.bool true) ∧ Below w.heap.size w w' := by
  have hb0 := Below.alloc0 (Below.refl w.heap.size w) (Obj.cells (iC p c o m r (b : Int) v l) 36)
  have HB0 := Lib.hid hb0
  have HS0 := Lib.hid (Blk.new w 36 (iC p c o m r (b : Int) v l) (0, 0))
  by_cases hlen : 20 < n
  · have d1 : decide ((20 : Int) < (n : Int)) = true := decide_eq_true (by omega)
    have d2 : decide (20 < n) = true := decide_eq_true hlen
    clear hlen hI hA hn hP hK hb0
    go_enter Tryd.func5, Tryd.ntmps5
    go_wp2
    go_ret
    exact ⟨rfl, HB0.out⟩
  have d1 : decide ((20 : Int) < (n : Int)) = false := decide_eq_false (by omega)
  have d2 : decide (20 < n) = false := decide_eq_false hlen
  have hwf := putX_wf p c m b v hc0 hc1 hb v0 v1
  have hxl := putX_len p c m b v
  have hxn := putX_ne p c m b v
  have CP := Lib.hid (fun wx (hbx : Below w.heap.size w wx) => put_any p c o m r v l b hc0 hc1 hb v0 v1 wx (hP.below hbx) (kinds_below hK hbx))
  have CS := Lib.hid (fun wx (hbx : Below w.heap.size w wx) => same18_any p c o m r v l b hc0 hc1 hb v0 v1 A n cap xs wx (hI.below hbx.size hbx) hA hn (hP.below hbx) (kinds_below hK hbx))
  have CA := Lib.hid (fun wx (hb : Below w.heap.size w wx) => alive18 wx (hP.below hb) (kinds_below hK hb))
  have C2 := Lib.hid (fun wx (hb : Below w.heap.size w wx) => of18_any A n cap xs wx (hI.below hb.size hb) hA (by omega))
  have HHp : Hid (putOk p c o m r b v l (putX p c m b v) = false → inOk xs = true → insEq (inPg xs : Int) (inCo xs) (eOp (inE xs)) (eMode (inE xs)) (eReg (inE xs)) (inPo xs) (inVa xs) (inLn xs : Int) p c o m r b v l = false) := Lib.hid (fun h1 h2 => by
    cases h3 : insEq (inPg xs : Int) (inCo xs) (eOp (inE xs)) (eMode (inE xs)) (eReg (inE xs)) (inPo xs) (inVa xs) (inLn xs : Int) p c o m r b v l
    · rfl
    · have := (put_of hI.2.1 h2 h3).1
      rw [h1] at this; cases this)
  have HAg : Hid (inOk xs = true → inAgg xs = iC (inPg xs : Int) (inCo xs) (eOp (inE xs)) (eMode (inE xs)) (eReg (inE xs)) (inPo xs) (inVa xs) (inLn xs : Int)) := Lib.hid (fun h => by unfold inAgg insC; rw [if_pos h])
  have HAz : Hid (inOk xs = false → inAgg xs = zInst) := Lib.hid (fun h => by unfold inAgg; rw [h]; rfl)
  cases hok : putOk p c o m r b v l (putX p c m b v)
  · replace HHp := Lib.hid (HHp.out hok)
    rw [hok] at CP CS
    simp only [Bool.false_and] at CS
    generalize (inPg xs : Int) = p' at HHp HAg
    generalize inCo xs = c' at HHp HAg
    generalize (eOp (inE xs) : Int) = o' at HHp HAg
    generalize (eMode (inE xs) : Int) = m' at HHp HAg
    generalize (eReg (inE xs) : Int) = r' at HHp HAg
    generalize inPo xs = b' at HHp HAg
    generalize inVa xs = v' at HHp HAg
    generalize (inLn xs : Int) = l' at HHp HAg
    generalize inAgg xs = ag at C2 HAg HAz
    generalize inOk xs = ok at C2 HAg HAz HHp
    clear hI hA hn hP hK hb0 hlen hwf hxl hxn hok
    go_enter Tryd.func5, Tryd.ntmps5
    go_wp2_with fail
    refine (CP.out _ HB0.out).mono ?_
    intro e w1 hput
    obtain ⟨A1, c1, rfl, hb1⟩ := hput.no
    have HB1 := Lib.hid (Below.trans0 HB0.out hb1)
    have HS1 := Lib.hid (Blk.below HS0.out hb1 HS0.out.lt)
    clear hb1 hput
    obtain ⟨c0, c1, c2, c3, c4, c5, c6, c7⟩ := HS1.out.s8
    go_wp2_with fail
    refine (CS.out _ HB1.out).mono ?_
    rintro e w2 ⟨rfl, hb2⟩
    have HB2 := Lib.hid (Below.trans0 HB1.out hb2)
    have HS2 := Lib.hid (Blk.below HS1.out hb2 HS1.out.lt)
    clear hb2 c0 c1 c2 c3 c4 c5 c6 c7
    cases ok
    · obtain rfl := HAz.out rfl
      go_wp2_with fail
      refine (C2.out _ HB2.out).mono ?_
      rintro e w3 ⟨rfl, hb3⟩
      have HB3 := Lib.hid (Below.alloc0 (Below.trans0 HB2.out hb3) (Obj.cells zInst 36))
      clear hb3
      go_wp2_with fail
      refine (CA.out _ HB3.out).mono ?_
      rintro e w4 ⟨rfl, hb4⟩
      have HB4 := Lib.hid (Below.trans0 HB3.out hb4)
      clear hb4
      go_wp2
      go_ret
      exact ⟨rfl, HB4.out⟩
    · obtain rfl := HAg.out rfl
      have he := fun w => eql_ins w p' c' o' m' r' b' v' l' p c o m r b v l
      rw [HHp.out rfl] at he
      go_wp2_with fail
      refine (C2.out _ HB2.out).mono ?_
      rintro e w3 ⟨rfl, hb3⟩
      have HB3 := Lib.hid (Below.alloc0 (Below.trans0 HB2.out hb3) (Obj.cells (iC p' c' o' m' r' b' v' l') 36))
      have HS3 := Lib.hid (Blk.alloc (Blk.below HS2.out hb3 HS2.out.lt) (Obj.cells (iC p' c' o' m' r' b' v' l') 36))
      have HX3 := Lib.hid (Blk.new w3 36 (iC p' c' o' m' r' b' v' l') (0, 0))
      clear hb3
      go_upto_region 7 with (fail)
      obtain ⟨g, hg⟩ : ∃ g, w3.heap.size = g := ⟨_, rfl⟩
      rw [hg] at HX3 ⊢
      generalize w3.alloc (Obj.cells (iC p' c' o' m' r' b' v' l') 36) = W3 at HB3 HS3 HX3 ⊢
      obtain ⟨c0, c1, c2, c3, c4, c5, c6, c7⟩ := HS3.out.s8
      obtain ⟨e0, e1, e2, e3, e4, e5, e6, e7⟩ := HX3.out.s8
      go_wp2_with fail
      refine (CA.out _ HB3.out).mono ?_
      rintro e w4 ⟨rfl, hb4⟩
      have HB4 := Lib.hid (Below.trans0 HB3.out hb4)
      clear hb4
      go_wp2
      go_ret
      exact ⟨rfl, HB4.out⟩
  · obtain ⟨hx1, hx2, hx3⟩ := put_len hb hwf hok
    have hagX : inAgg (putX p c m b v) = iC p c o m r (b : Int) v l := by
      unfold putOk at hok
      rw [Bool.and_eq_true] at hok
      obtain ⟨f1, f2, f3, f4, f5, f6, f7, f8⟩ := (insEq_iff _ _ _ _ _ _ _ _ _ _ _ _ _ _ _ _).1 hok.2
      unfold inAgg insC
      rw [if_pos hx1, f1, f2, f3, f4, f5, f6, f7, f8]
    have C3 := Lib.hid (fun A' c' wx (h' : Ints .u8 wx wx.heap.size A' (putX p c m b v).length (putX p c m b v)) => of18_any A' (putX p c m b v).length c' (putX p c m b v) wx h' (fun e => by
      obtain ⟨_, _, e2, _⟩ := h'.2.2 (by omega)
      rw [e] at e2; cases e2) (by omega))
    rw [hagX, hx1] at C3
    have CE := Lib.hid (fun (hnx : (putX p c m b v).length ≤ n) A' c' c2 wx B' (hbx : Below w.heap.size w wx) (h' : Ints .u8 wx B' A' (putX p c m b v).length (putX p c m b v)) => bytesEqual_any A A' (putX p c m b v).length c2 (putX p c m b v).length c' (xs.take (putX p c m b v).length) (putX p c m b v) w.heap.size B' wx ((hI.below (Nat.le_refl _) hbx).take_ _ hnx) h')
    rw [hok] at CP CS
    simp only [Bool.true_and] at CS
    have hpre : hasPre xs (putX p c m b v) = (decide ((putX p c m b v).length ≤ n) && (xs.take (putX p c m b v).length == putX p c m b v)) := by unfold hasPre; rw [hI.1]
    have HPre := Lib.hid hpre
    have he := fun w => eql_ins w p c o m r b v l p c o m r b v l
    rw [insEq_self] at he
    have hAs : ∀ k, 1 ≤ k → k ≤ n → ∃ ad, A = some ad := fun k h1 h2 => by
      cases A with
      | none => have := hA rfl; omega
      | some ad => exact ⟨ad, rfl⟩
    have HAs := Lib.hid hAs
    have HNc := Lib.hid hn
    clear hok hx1 hx2 hagX hI hA hn hP hK hb0 hlen hwf HHp HAg HAz C2 hpre hAs
    subst hx3
    generalize putX p c m b v = X at CP CS C3 CE HPre hxl hxn he HB0 HS0 ⊢
    obtain ⟨L, hL⟩ : ∃ L, X.length = L := ⟨_, rfl⟩
    rw [hL] at C3 CE HPre hxl hxn he HB0 HS0 CS CP ⊢
    have HL := Lib.hid hL
    clear hL
    go_enter Tryd.func5, Tryd.ntmps5
    go_wp2_with fail
    refine (CP.out _ HB0.out).mono ?_
    intro e w1 hput
    obtain ⟨A1, c1, rfl, hi1, hb1⟩ := hput.yes
    rw [HL.out] at hi1 ⊢
    have HB1 := Lib.hid (Below.trans0 HB0.out hb1)
    have HS1 := Lib.hid (Blk.below HS0.out hb1 HS0.out.lt)
    have HI1 := Lib.hid hi1
    clear hb1 hput hi1
    obtain ⟨x0, x1, x2, x3, x4, x5, x6, x7⟩ := HS1.out.s8
    go_wp2_with fail
    refine (CS.out _ HB1.out).mono ?_
    rintro e w2 ⟨rfl, hb2⟩
    have HB2 := Lib.hid (Below.trans0 HB1.out hb2)
    have HS2 := Lib.hid (Blk.below HS1.out hb2 HS1.out.lt)
    have HI2 := Lib.hid (HI1.out.below hb2.size hb2)
    clear hb2 x0 x1 x2 x3 x4 x5 x6 x7
    go_wp2_with fail
    refine (C3.out A1 c1 _ HI2.out).mono ?_
    rintro e w3 ⟨rfl, hb3⟩
    have hb4 := Below.alloc0 hb3 (Obj.cells (iC p c o m r (b : Int) v (L : Int)) 36)
    have HB3 := Lib.hid (Below.trans0 HB2.out hb4)
    have HS3 := Lib.hid (Blk.below HS2.out hb4 HS2.out.lt)
    have HI3 := Lib.hid (HI2.out.below hb4.size hb4)
    have HX3 := Lib.hid (Blk.new w3 36 (iC p c o m r (b : Int) v (L : Int)) (0, 0))
    clear hb3 hb4
    go_upto_region 9 with (fail)
    obtain ⟨g, hg⟩ : ∃ g, w3.heap.size = g := ⟨_, rfl⟩
    rw [hg] at HX3 ⊢
    generalize w3.alloc (Obj.cells (iC p c o m r (b : Int) v (L : Int)) 36) = W3 at HB3 HS3 HX3 HI3 ⊢
    clear hg
    obtain ⟨x0, x1, x2, x3, x4, x5, x6, x7⟩ := HS3.out.s8
    obtain ⟨y0, y1, y2, y3, y4, y5, y6, y7⟩ := HX3.out.s8
    obtain ⟨J, hJ⟩ : ∃ J, hasPre xs X = J := ⟨_, rfl⟩
    rw [hJ] at HPre ⊢
    clear hJ CP CS C3
    by_cases hLn : L ≤ n
    · obtain ⟨ad, rfl⟩ := HAs.out L hxn hLn
      have q1 : decide ((L : Int) ≤ (n : Int)) = true := decide_eq_true (by omega)
      have q2 : decide (L ≤ n) = true := decide_eq_true hLn
      have q3 : (L : Int) ≤ (cap : Int) := by have := HNc.out; omega
      have q4 : L ≤ cap := by have := HNc.out; omega
      have CE2 := Lib.hid (fun c2 => CE.out hLn A1 c1 c2 W3 W3.heap.size HB3.out HI3.out)
      have hZ := HPre.out
      rw [q2, Bool.true_and] at hZ
      rw [← hZ] at CE2
      have bJ : (J == J) = true := by simp
      clear hZ hLn CE HPre
      go_wp2_with (go_at_call 18; refine (CE2.out _).mono ?_; rintro e w' ⟨rfl, rfl⟩)
      refine (CA.out _ HB3.out).mono ?_
      rintro e w4 ⟨rfl, hb4⟩
      have HB4 := Lib.hid (Below.trans0 HB3.out hb4)
      clear hb4
      go_wp2
      go_ret
      exact ⟨rfl, HB4.out⟩
    · have q1 : decide ((L : Int) ≤ (n : Int)) = false := decide_eq_false (by omega)
      have q2 : decide (L ≤ n) = false := decide_eq_false hLn
      have hZ := HPre.out
      rw [q2, Bool.false_and] at hZ
      subst hZ
      clear hLn CE HPre
      go_wp2_with fail
      refine (CA.out _ HB3.out).mono ?_
      rintro e w4 ⟨rfl, hb4⟩
      have HB4 := Lib.hid (Below.trans0 HB3.out hb4)
      clear hb4
      go_wp2
      go_ret
      exact ⟨rfl, HB4.out⟩
end Go.Proofs.YtfkcogccbeolfabDoor
