/- The law of package prof: parts counted, told together, in order. -/
import Derived.Test.YtlgaedhbgkhmeaaPfF
import Derived.Deep.QuietTactic
import Derived.BigQuiet
import Derived.Deep.CutBlock
import Derived.StillTailTactics
namespace Go.Proofs.Ytlgaedhbgkhmeaa
open Go.ChangeShapes Go.WideShapes Go.ChangeAt Go.RowKit
set_option linter.unusedVariables false
theorem ProP.len {w : World} {g n : Nat} {ob : Option Nat} {L : List SpN} (h : ProP w g ob n L) : L.length ≤ n := by
  rcases h.2.2 with ⟨_, rfl, _⟩ | ⟨b, D, _, _, _, q1, _, q3⟩
  · exact Nat.zero_le _
  · rw [← q3]; exact q1.size_le
/-- How the law stands in its first loop. -/
structure LwP (w0 wr : World) (k : Nat) (ob : Option Nat) (L : List SpN) : Prop where
  pp : ProP wr w0.heap.size ob k L
  bel : Below w0.heap.size w0 wr
  bnd : BndN (k : Int) 30 L
  at_ : ∀ b, ob = some b → w0.heap.size ≤ b
  le : w0.heap.size + 1 ≤ wr.heap.size
structure LwS (w0 wr : World) (k : Nat) (ob : Option Nat) (v : Value) (L : List SpN) : Prop extends LwP w0 wr k ob L where
  own : eSp.Own 35 wr (w0.heap.size + 1) v L
theorem LwP.below {w0 wr wx : World} {k : Nat} {ob : Option Nat} {L : List SpN} (h : LwP w0 wr k ob L) (hb : Below wr.heap.size wr wx) : LwP w0 wx k ob L :=
  ⟨h.pp.below hb, Below.trans0 h.bel hb, h.bnd, h.at_, Nat.le_trans h.le hb.size⟩
theorem LwS.below {w0 wr wx : World} {k : Nat} {ob : Option Nat} {v : Value} {L : List SpN} (h : LwS w0 wr k ob v L) (hb : Below wr.heap.size wr wx) : LwS w0 wx k ob v L :=
  ⟨h.toLwP.below hb, h.own.below hb⟩
/-- How the law stands in its second loop: two counts in blocks g and g + 1, a row in order. -/
structure LwU (w0 wr : World) (n : Nat) (ob : Option Nat) (v : Value) (L : List SpN) (g : Nat) (c1 c2 : Array Value) (u : Value) (Tp : List SpN) : Prop where
  st : LwS w0 wr n ob v L
  k1 : Blk wr g 35 c1
  k2 : Blk wr (g + 1) 35 c2
  top : eSp.Own 35 wr (g + 2) u Tp
  ge : w0.heap.size + 1 ≤ g
  sz : g + 2 ≤ wr.heap.size
  ne : ∀ q, v.ownBlock = some q → q < g
theorem LwU.below {w0 wr wx : World} {n : Nat} {ob : Option Nat} {v u : Value} {L Tp : List SpN} {g : Nat} {c1 c2 : Array Value} (h : LwU w0 wr n ob v L g c1 c2 u Tp) (hb : Below wr.heap.size wr wx) : LwU w0 wx n ob v L g c1 c2 u Tp :=
  ⟨h.st.below hb, h.k1.below hb (by have := h.sz; omega), h.k2.below hb (by have := h.sz; omega), h.top.below hb, h.ge, Nat.le_trans h.sz hb.size, h.ne⟩
theorem LwU.drew {w0 wr : World} {n : Nat} {ob : Option Nat} {v u : Value} {L Tp : List SpN} {g : Nat} {c1 c2 : Array Value} (h : LwU w0 wr n ob v L g c1 c2 u Tp) : LwU w0 wr.drew n ob v L g c1 c2 u Tp := h.below (Below.drew0 (Below.refl _ _))
theorem LwS.set {w0 wr : World} {n : Nat} {ob : Option Nat} {v : Value} {L : List SpN} (h : LwS w0 wr n ob v L) {g i : Nat} {c : Array Value} (hk : Blk wr g 35 c) (hg : w0.heap.size + 1 ≤ g) (hn : ∀ q, v.ownBlock = some q → q < g) (x : Value) : LwS w0 (wr.setCell ⟨g, i, none⟩ x) n ob v L := by
  have hgr := grown_cell wr g i x
  refine ⟨⟨h.pp.grown hgr (by intro e; injection e with e; omega) (fun b e e2 => ?_), h.bel.setCell (by show w0.heap.size ≤ g; omega) x, h.bnd, h.at_, by have := h.le; simpa using this⟩, h.own.grown hgr ?_⟩
  · injection e2 with e2
    subst e2
    rcases h.pp.2.2 with ⟨_, _, e3⟩ | ⟨b', D, e3, _, _, q, _⟩
    · rw [e] at e3; cases e3
    · rw [e] at e3; injection e3 with e3; subst e3
      obtain ⟨es, cl, hb, _⟩ := q
      unfold Blk at hk
      rw [hb] at hk; cases hk
  · by_cases e : v.ownBlock = none
    · exact .inl e
    · refine .inr fun e2 => ?_
      have := hn g e2; omega
theorem LwU.set1 {w0 wr : World} {n : Nat} {ob : Option Nat} {v u : Value} {L Tp : List SpN} {g : Nat} {c1 c2 : Array Value} (h : LwU w0 wr n ob v L g c1 c2 u Tp) (i : Nat) (x : Value) : LwU w0 (wr.setCell ⟨g, i, none⟩ x) n ob v L g (c1.setIfInBounds i x) c2 u Tp :=
  ⟨h.st.set h.k1 h.ge h.ne x, h.k1.set_ i x, h.k2.far (by show g + 1 ≠ g; omega) x, h.top.grown (grown_cell wr g i x) (by
    by_cases e : u.ownBlock = none
    · exact .inl e
    · refine .inr fun e2 => ?_
      have := (h.top.lt g e2).1; omega), h.ge, by have := h.sz; simpa using this, h.ne⟩
theorem LwU.set2 {w0 wr : World} {n : Nat} {ob : Option Nat} {v u : Value} {L Tp : List SpN} {g : Nat} {c1 c2 : Array Value} (h : LwU w0 wr n ob v L g c1 c2 u Tp) (i : Nat) (x : Value) : LwU w0 (wr.setCell ⟨g + 1, i, none⟩ x) n ob v L g c1 (c2.setIfInBounds i x) u Tp :=
  ⟨h.st.set h.k2 (by have := h.ge; omega) (fun q e => by have := h.ne q e; omega) x, h.k1.far (by show g ≠ g + 1; omega) x, h.k2.set_ i x, h.top.grown (grown_cell wr (g + 1) i x) (by
    by_cases e : u.ownBlock = none
    · exact .inl e
    · refine .inr fun e2 => ?_
      have := (h.top.lt _ e2).1; omega), h.ge, by have := h.sz; simpa using this, h.ne⟩
theorem LwU.row {w0 wr : World} {n : Nat} {ob : Option Nat} {u : Value} {L Tp : List SpN} {g q N c : Nat} {c1 c2 : Array Value} (h : LwU w0 wr n ob (.slice (some ⟨q, 0, none⟩) N c) L g c1 c2 u Tp) {j : Nat} {x : SpN} (hx : L[j]? = some x) :
    wr.cell? ⟨q, j * 4, none⟩ = some (.int .u16 x.a) ∧ wr.cell? ⟨q, j * 4 + 1, none⟩ = some (.int .i64 x.t) ∧ wr.cell? ⟨q, j * 4 + 2, none⟩ = some (.int .i64 x.c) ∧ wr.cell? ⟨q, j * 4 + 3, none⟩ = some (.int .i64 x.l) :=
  ⟨(h.st.own.at_ j x hx 0 _ rfl).1, (h.st.own.at_ j x hx 1 _ rfl).1, (h.st.own.at_ j x hx 2 _ rfl).1, (h.st.own.at_ j x hx 3 _ rfl).1⟩
theorem lkS_snoc {L : List SpN} {k : Nat} {x : SpN} (hd : DisN L) (hk : L[k]? = some x) (a : Int) : lkS (L.take (k + 1)) a = if x.a = a then some x else lkS (L.take k) a := by
  have e : L.take (k + 1) = L.take k ++ [x] := by rw [List.take_add_one, hk]; rfl
  unfold lkS
  rw [e, List.find?_append]
  by_cases h : x.a = a
  · rw [if_pos h]
    have h0 : (L.take k).find? (fun y => y.a == a) = none := by
      rw [List.find?_eq_none]
      intro y hy
      obtain ⟨i, hi⟩ := List.getElem?_of_mem hy
      rw [List.getElem?_take] at hi
      split at hi
      · rename_i hik
        obtain ⟨a1, a2⟩ := List.getElem?_eq_some_iff.1 hi
        obtain ⟨b1, b2⟩ := List.getElem?_eq_some_iff.1 hk
        have := List.pairwise_iff_getElem.1 hd i k a1 b1 hik
        rw [a2, b2, h] at this
        simpa using this
      · cases hi
    rw [h0]
    simp [h]
  · rw [if_neg h]
    have e2 : (x.a == a) = false := by simpa using h
    cases (L.take k).find? (fun y => y.a == a) <;> simp [e2]
set_option maxRecDepth 100000 in
set_option maxHeartbeats 8000000 in
theorem law_prof (A : Option Addr) (n c : Nat) (LS : List Sl3) (a many : Int) (ha : 0 ≤ a ∧ a < 65536) (w : World) (hIn : RrsIn w A n c LS) :
    Calls Try.prog 3 #[.slice A n c, .int .u16 a, .int .i64 many] w fun e w' => e = .returned (.bool true) ∧ Below w.heap.size w w' := by
  obtain ⟨hR, hLn, _, hWf⟩ := hIn
  by_cases hn60 : n ≤ 60
  case neg =>
    have d0 : decide ((60 : Int) < (n : Int)) = true := decide_eq_true (by omega)
    go_enter Try.func3, Try.ntmps3
    go_wp2
    go_ret
    exact ⟨rfl, Below.refl _ _⟩
  obtain ⟨PS, hPl, hP⟩ := rrs_list LS hWf
  have d0 : decide ((60 : Int) < (n : Int)) = false := decide_eq_false (by omega)
  obtain ⟨A', c', hv, hc⟩ := hR.open_
  injection hv with e1 e2 e3
  subst e1
  clear e2 e3
  rw [hLn] at hc
  have HC := Lib.hid hc
  have HP := Lib.hid hP
  have HPl := Lib.hid (hPl.symm.trans hLn)
  have HLn := Lib.hid hLn
  have HAL := Lib.hid (fun u => alive53 u)
  clear hR hWf hP hc hPl hLn
  have H0 := Lib.hid (show LwS w (w.alloc (.cells #[.map none] 27)) 0 none (.slice none 0 0) [] from
    ⟨⟨ProP.new w, Below.alloc0 (Below.refl _ _) _, fun x hx => (by simp at hx), fun b e => (by cases e), by simp⟩, Els.Own.nil_ _ _⟩)
  go_enter Try.func3, Try.ntmps3
  go_wp2
  go_loopw [8, 9] (fun u8 u9 wr => ∃ (k : Nat) (ob : Option Nat), k ≤ n ∧ u9 = .int .i64 (k : Int) ∧ Hid (LwS w wr k ob u8 ((PS.take k).foldl addP []))) (fun _ u9 _ => n - (intOf u9).toNat)
  case atStart => exact ⟨0, none, Nat.zero_le _, rfl, H0⟩
  case round =>
    obtain ⟨k, ob, hk, rfl, hS⟩ := hrel
    by_cases hlt : k < n
    · obtain ⟨g, off, rfl, hg, hcell⟩ := HC.out (by omega)
      obtain ⟨y, hy⟩ : ∃ y, LS[k]? = some y := ⟨_, List.getElem?_eq_getElem (by rw [HLn.out]; exact hlt)⟩
      obtain ⟨p, hp⟩ : ∃ p, PS[k]? = some p := ⟨_, List.getElem?_eq_getElem (by rw [HPl.out]; exact hlt)⟩
      obtain ⟨yA, yn, yc⟩ := y
      obtain ⟨i1, i2, i3, i4⟩ := HP.out k _ p hy hp
      simp only at i1 i2
      have d1 := hcell k _ hy 0 _ rfl
      have d1' : wr.cell? ⟨g, off + k, none⟩ = some (.slice yA yn yc) := (hS.out.bel.cell (p := ⟨g, off + k, none⟩) hg).trans (by
        have e : off + k = off + (k * 1 + 0) := by omega
        rw [e]; exact d1)
      have k0 : (0 : Int) ≤ (k : Int) := by omega
      have k1 : (k : Int) < (n : Int) := by omega
      by_cases h30 : yn ≤ 30
      case neg =>
        have d2 : decide ((30 : Int) < (yn : Int)) = true := decide_eq_true (by omega)
        clear d1 hcell i1 i2 i3 i4
        go_wp2
        go_ret
        exact ⟨rfl, hS.out.bel⟩
      have d2 : decide ((30 : Int) < (yn : Int)) = false := decide_eq_false (by omega)
      obtain ⟨q, hq⟩ : ∃ q, wr.heap.size = q := ⟨_, rfl⟩
      have NX : Hid ((PS.take (k + 1)).foldl addP [] = addP ((PS.take k).foldl addP []) p) := Lib.hid (by rw [List.take_add_one, hp, Option.toList, List.foldl_append]; rfl)
      obtain ⟨Lk, hLk⟩ : ∃ Lk, (PS.take k).foldl addP [] = Lk := ⟨_, rfl⟩
      rw [hLk] at hS NX
      have AD : Hid (∀ e : Bool, Calls Try.prog 4 #[.pointer (some ⟨w.heap.size, 0, none⟩), .slice (some ⟨q, 0, none⟩) 1 1] (wr.alloc (Obj.cells #[.slice yA yn yc, .bool e] 32)) fun en w2 => en = .returned (.tuple #[]) ∧ ∃ ob', LwP w w2 (k + 1) ob' (addP Lk p) ∧ eSp.Own 35 w2 (w.heap.size + 1) u8 Lk) := Lib.hid (fun e => by
        have hA := hS.out.below (Below.alloc0 (Below.refl _ _) (Obj.cells #[.slice yA yn yc, .bool e] 32))
        have hb := Blk.new wr 32 #[.slice yA yn yc, .bool e] (0, 0)
        rw [hq] at hb
        have hsz : (wr.alloc (Obj.cells #[.slice yA yn yc, .bool e] 32)).heap.size = q + 1 := by simp [hq]
        refine (proAdd_any _ w.heap.size k ob Lk hA.pp (.slice (some ⟨q, 0, none⟩) 1 1) [⟨yA, yn, yc, e⟩] [p] rfl (by simp) (fun w' hk' hs' => ?_) (fun x hx => ?_) (by omega) k (by omega) (by omega) hS.out.bnd).mono ?_
        · refine ⟨Els.Rd.blk (E := eC) _ _ (0, 0) ((hk' q (by omega) (by have := hS.out.le; omega) (fun e2 => by have := hS.out.pp.lts.2 q e2; omega)).trans hb) 1 rfl rfl 1, fun i p' x' hp' hx' => ?_⟩
          rcases i with _ | i
          · obtain rfl := Option.some.inj hp'
            obtain rfl := Option.some.inj hx'
            refine i1.keep (by have := hA.bel.size; omega) (fun g' o hg' => ?_)
            refine (World.cell?_of_block (a := ⟨g', o, none⟩) (hk' g' ?_ ?_ ?_)).trans (hA.bel.cell (p := ⟨g', o, none⟩) hg')
            · have := hA.bel.size; exact Nat.lt_of_lt_of_le hg' this
            · show g' ≠ _; omega
            · intro e2; have := hS.out.at_ g' e2; omega
          · simp at hp'
        · simp only [List.mem_singleton] at hx
          subst hx
          exact ⟨by omega, i4⟩
        · rintro en w2 ⟨rfl, ob', h1, h2, h3⟩
          obtain ⟨o1, o2⟩ := own_turned hA.own h2 (fun e2 => by have := (hA.own.lt _ e2).1; omega) (fun b e2 => own_no_map hA.pp hA.own b e2)
          obtain ⟨o3, o4⟩ := below_turned hA.bel h2 (Nat.le_refl _) hA.at_
          obtain ⟨row, hgr, _⟩ := h2
          refine ⟨rfl, ob', ⟨h1, o3, ?_, o4, by have := hgr.size; have := hA.le; omega⟩, o1⟩
          have e5 : ((k + 1 : Nat) : Int) = (k : Int) + ((([p] : List (List Rc)).length : Nat) : Int) := by simp
          rw [e5]
          exact h3)
      have HQ := Lib.hid hq
      have hrd : Hid (∀ wx, Below w.heap.size w wx → eR.Rd wx (.slice yA yn yc) p) := Lib.hid (fun wx hb => i1.below hb)
      have hp4 : Hid (p.length ≤ 30 ∧ ∀ r ∈ p, r.Ok) := Lib.hid ⟨by omega, i4⟩
      have hLk2 := Lib.hid hS.out
      have hwr2 := Lib.hid hS.out.bel
      clear d1 hcell i1 i2 i3 i4 hLk hp hy hS
      go_wp2_with fail
      refine (AD.out _).mono ?_
      rintro e w2 ⟨rfl, ob', hS2, hO2⟩
      have d3' : w2.cell? ⟨g, off + k, none⟩ = some (.slice yA yn yc) := (hS2.bel.cell (p := ⟨g, off + k, none⟩) hg).trans ((hwr2.out.cell (p := ⟨g, off + k, none⟩) hg).symm.trans d1')
      have CL := Lib.hid (lwAdd_any u8 (.slice yA yn yc) Lk p (w.heap.size + 1) w2 hO2 (hrd.out _ hS2.bel) hS2.le hp4.out hLk2.out.pp.2.1 k (by omega) (by omega) hLk2.out.bnd (by have := hLk2.out.pp.len; omega))
      have HS2 := Lib.hid hS2
      clear hS2 hO2 d1' hq
      go_wp2_with fail
      refine CL.out.mono ?_
      rintro e w3 ⟨v3, rfl, ho3, hb3⟩
      have HS3 : Hid (LwS w w3 (k + 1) ob' v3 ((PS.take (k + 1)).foldl addP [])) := Lib.hid (by
        rw [NX.out]
        have := HS2.out.below hb3
        exact ⟨this, ho3⟩)
      clear ho3 hb3 d3'
      go_wp2
      go_roundw
      case rel => exact ⟨k + 1, ob', by omega, by go_num, HS3⟩
      case measure => simp [intOf]; omega
    · obtain rfl : k = n := by omega
      have e0 : PS.take k = PS := List.take_of_length_le (by rw [HPl.out]; exact Nat.le_refl _)
      rw [e0] at hS
      obtain ⟨L, hL⟩ : ∃ L, PS.foldl addP [] = L := ⟨_, rfl⟩
      rw [hL] at hS
      obtain ⟨A8, c8, hv8, hc8⟩ := own_cap hS.out.own
      obtain ⟨N, hN⟩ : ∃ N, L.length = N := ⟨_, rfl⟩
      rw [hN] at hv8 hc8
      subst hv8
      have HN := Lib.hid hN
      have hN60 : N ≤ 60 := by have := hS.out.pp.len; omega
      obtain ⟨g, hg⟩ : ∃ g, wr.heap.size = g := ⟨_, rfl⟩
      have hs1 : ((wr.alloc (Obj.cells (cellsSp 0 0 0 0) 35)).alloc (Obj.cells (cellsSp 0 0 0 0) 35)).heap.size = g + 2 := by simp [hg]
      have HT0 : Hid (LwU w ((wr.alloc (Obj.cells (cellsSp 0 0 0 0) 35)).alloc (Obj.cells (cellsSp 0 0 0 0) 35)) k ob (.slice A8 N c8) L g (cellsSp 0 0 0 0) (cellsSp 0 0 0 0) (.slice none 0 0) []) := Lib.hid
        ⟨hS.out.below (Below.alloc0 (Below.alloc0 (Below.refl _ _) _) _), by rw [← hg]; exact Blk.alloc (Blk.new wr _ _ (0, 0)) _, by rw [← hg]; exact Blk.at1 _, Els.Own.nil_ _ _, by rw [← hg]; exact hS.out.le, by rw [hs1]; exact Nat.le_refl _, fun q e => by rw [← hg]; exact (hS.out.own.lt q e).2⟩
      clear hc8 hN hS hL e0 hs1 H0
      obtain ⟨wo, hwo⟩ : ∃ wo, wo = wr := ⟨_, rfl⟩
      subst hwo
      go_wp2
      go_loopw [12, 13, 14, 15] (fun u12 u13 u14 _ wx => ∃ (j : Nat) (F : Bool), j ≤ N ∧ u14 = .int .i64 (j : Int) ∧ u13 = .bool F ∧ (∃ Tp : List SpN, Hid (LwU w wx k ob (.slice A8 N c8) L g (cellsSp 0 (sumN (L.take j)).1 (sumN (L.take j)).2.1 (sumN (L.take j)).2.2) (cellsSp (ofN (L.take j) a).a (ofN (L.take j) a).t (ofN (L.take j) a).c (ofN (L.take j) a).l) u12 Tp) ∧ Hid (F = (lkS (L.take j) a).isSome) ∧ Hid (Tp.Perm (L.take j)) ∧ Hid (OrdN Tp))) (fun _ _ u14 _ _ => N - (intOf u14).toNat)
      case atStart => exact ⟨0, false, Nat.zero_le _, rfl, rfl, [], HT0, Lib.hid rfl, Lib.hid (List.Perm.refl _), Lib.hid List.Pairwise.nil⟩
      case round =>
        obtain ⟨j, F, hj, rfl, rfl, Tp, hU, hF, hTp, hOr⟩ := hrel
        by_cases hjN : j < N
        · obtain ⟨x, hx⟩ : ∃ x, L[j]? = some x := ⟨_, List.getElem?_eq_getElem (by rw [HN.out]; exact hjN)⟩
          obtain ⟨q8, rfl⟩ : ∃ q, A8 = some ⟨q, 0, none⟩ := by
            rcases hU.out.st.own.2 with ⟨_, e⟩ | ⟨q, c', cur, e, _⟩
            · have := HN.out; omega
            · injection e with e1; exact ⟨q, e1⟩
          have hS0 := Lib.hid hU.out.st
          have hbx := hS0.out.bnd x (List.mem_of_getElem? hx)
          have hsub : ∀ y ∈ L.take j, y ∈ L := fun y hy => List.mem_of_mem_take hy
          have hmb := sumN_le (L := L.take j) (fun y hy => by have := hS0.out.bnd y (hsub y hy); omega)
          have hlj : (L.take j).length ≤ 60 := by rw [List.length_take]; have := HN.out; omega
          have SN : Hid (sumN (L.take (j + 1)) = ((sumN (L.take j)).1 + x.t, (sumN (L.take j)).2.1 + x.c, (sumN (L.take j)).2.2 + x.l)) := Lib.hid (by
            rw [show L.take (j + 1) = L.take j ++ [x] by rw [List.take_add_one, hx]; rfl]
            exact sumN_snoc _ _)
          have LK := Lib.hid (lkS_snoc hS0.out.pp.2.1 hx a)
          have TK : Hid (L.take (j + 1) = L.take j ++ [x]) := Lib.hid (by rw [List.take_add_one, hx]; rfl)
          have HX := Lib.hid hx
          obtain ⟨sm, hsm⟩ : ∃ sm, sumN (L.take j) = sm := ⟨_, rfl⟩
          obtain ⟨m1, m2, m3⟩ := sm
          rw [hsm] at hU hmb SN
          simp only at hU hmb SN
          obtain ⟨o, ho⟩ : ∃ o, ofN (L.take j) a = o := ⟨_, rfl⟩
          rw [ho] at hU
          have HO := Lib.hid ho
          clear hsm ho hsub
          have k0 : (0 : Int) ≤ (j : Int) := by omega
          have k1 : (j : Int) < (N : Int) := by omega
          have wr1 : IntKind.i64.wrap (m1 + x.t) = m1 + x.t := IntWalk.i64_in _ (by omega)
          have wr2 : IntKind.i64.wrap (m2 + x.c) = m2 + x.c := IntWalk.i64_in _ (by omega)
          have wr3 : IntKind.i64.wrap (m3 + x.l) = m3 + x.l := IntWalk.i64_in _ (by omega)
          obtain ⟨d0, d1, d2, d3⟩ := hU.out.row hx
          obtain ⟨⟨x0, x1, x2, x3⟩, f0, f1, f2, f3⟩ := hU.out.k1.b4
          have d1w : ({ heap := wr.heap, tape := wr.tape, drawn := wr.drawn + 1, os := wr.os, output := wr.output } : World).cell? ⟨q8, j * 4 + 1, none⟩ = some (.int .i64 x.t) := d1
          have x1w : ({ heap := wr.heap, tape := wr.tape, drawn := wr.drawn + 1, os := wr.os, output := wr.output } : World).cell? ⟨g, 1, none⟩ = some (.int .i64 m1) := x1
          have d1d : wr.drew.cell? ⟨q8, j * 4 + 1, none⟩ = some (.int .i64 x.t) := d1
          have x1d : wr.drew.cell? ⟨g, 1, none⟩ = some (.int .i64 m1) := x1
          have f1d : wr.drew.frozen? ⟨g, 1, none⟩ = false := f1
          have HU1 := Lib.hid (hU.out.drew.set1 1 (.int .i64 (m1 + x.t)))
          clear hbx hmb hx hlj
          go_upto_region 18 with (fail)
          go_still_tail 9, (by kernel_rfl)
          change wpList _ _ _ _ _ wr.drew
          clear d1 x1 d1w x1w d0 d2 d3 x0 x2 x3 f0 f1 f2 f3 hU
          generalize wr.drew = w2 at HU1 d1d x1d f1d ⊢
          go_upto_region 19 with (fail)
          clear d1d x1d f1d
          generalize w2.setCell ⟨g, 1, none⟩ (.int .i64 (m1 + x.t)) = V1 at HU1 ⊢
          obtain ⟨d0, d1, d2, d3⟩ := HU1.out.row HX.out
          obtain ⟨⟨x0, x1, x2, x3⟩, f0, f1, f2, f3⟩ := HU1.out.k1.b4
          have d1w : ({ heap := V1.heap, tape := V1.tape, drawn := V1.drawn + 1, os := V1.os, output := V1.output } : World).cell? ⟨q8, j * 4 + 2, none⟩ = some (.int .i64 x.c) := d2
          have x1w : ({ heap := V1.heap, tape := V1.tape, drawn := V1.drawn + 1, os := V1.os, output := V1.output } : World).cell? ⟨g, 2, none⟩ = some (.int .i64 m2) := x2
          have d1d : V1.drew.cell? ⟨q8, j * 4 + 2, none⟩ = some (.int .i64 x.c) := d2
          have x1d : V1.drew.cell? ⟨g, 2, none⟩ = some (.int .i64 m2) := x2
          have f1d : V1.drew.frozen? ⟨g, 2, none⟩ = false := f2
          have HU2 := Lib.hid (HU1.out.drew.set1 2 (.int .i64 (m2 + x.c)))
          go_still_tail 9, (by kernel_rfl)
          change wpList _ _ _ _ _ V1.drew
          clear d1 x1 d1w x1w d0 d2 d3 x0 x2 x3 f0 f1 f2 f3 HU1
          generalize V1.drew = w2 at HU2 d1d x1d f1d ⊢
          go_upto_region 20 with (fail)
          clear d1d x1d f1d
          generalize w2.setCell ⟨g, 2, none⟩ (.int .i64 (m2 + x.c)) = V2 at HU2 ⊢
          obtain ⟨d0, d1, d2, d3⟩ := HU2.out.row HX.out
          obtain ⟨⟨x0, x1, x2, x3⟩, f0, f1, f2, f3⟩ := HU2.out.k1.b4
          have d1w : ({ heap := V2.heap, tape := V2.tape, drawn := V2.drawn + 1, os := V2.os, output := V2.output } : World).cell? ⟨q8, j * 4 + 3, none⟩ = some (.int .i64 x.l) := d3
          have x1w : ({ heap := V2.heap, tape := V2.tape, drawn := V2.drawn + 1, os := V2.os, output := V2.output } : World).cell? ⟨g, 3, none⟩ = some (.int .i64 m3) := x3
          have d1d : V2.drew.cell? ⟨q8, j * 4 + 3, none⟩ = some (.int .i64 x.l) := d3
          have x1d : V2.drew.cell? ⟨g, 3, none⟩ = some (.int .i64 m3) := x3
          have f1d : V2.drew.frozen? ⟨g, 3, none⟩ = false := f3
          have HU3 := Lib.hid (HU2.out.drew.set1 3 (.int .i64 (m3 + x.l)))
          go_still_tail 9, (by kernel_rfl)
          change wpList _ _ _ _ _ V2.drew
          clear d1 x1 d1w x1w d0 d2 d3 x0 x2 x3 f0 f1 f2 f3 HU2
          generalize V2.drew = w2 at HU3 d1d x1d f1d ⊢
          go_upto_region 21 with (fail)
          clear d1d x1d f1d
          generalize w2.setCell ⟨g, 3, none⟩ (.int .i64 (m3 + x.l)) = V3 at HU3 ⊢
          clear wr1 wr2 wr3
          have HU3' : Hid (LwU w V3 k ob (.slice (some ⟨q8, 0, none⟩) N c8) L g (cellsSp 0 (m1 + x.t) (m2 + x.c) (m3 + x.l)) (cellsSp o.a o.t o.c o.l) u12 Tp) := HU3
          clear HU3
          obtain ⟨d0, d1, d2, d3⟩ := HU3'.out.row HX.out
          obtain ⟨⟨x0, x1, x2, x3⟩, f0, f1, f2, f3⟩ := HU3'.out.k2.b4
          go_upto_if 93 with (fail)
          go_cut [13] (fun u13 wx => ∃ F' : Bool, u13 = .bool F' ∧ Hid (LwU w wx k ob (.slice (some ⟨q8, 0, none⟩) N c8) L g (cellsSp 0 (m1 + x.t) (m2 + x.c) (m3 + x.l)) (cellsSp (ofN (L.take (j + 1)) a).a (ofN (L.take (j + 1)) a).t (ofN (L.take (j + 1)) a).c (ofN (L.take (j + 1)) a).l) u12 Tp) ∧ Hid (F' = (lkS (L.take (j + 1)) a).isSome))
          case first =>
            by_cases hxa : x.a = a
            · have e1 : (x.a == a) = true := by simpa using hxa
              have EO : Hid (ofN (L.take (j + 1)) a = x) := Lib.hid (by unfold ofN; rw [LK.out, if_pos hxa]; rfl)
              have EF : Hid (true = (lkS (L.take (j + 1)) a).isSome) := Lib.hid (by rw [LK.out, if_pos hxa]; rfl)
              have HU4 := Lib.hid ((((HU3'.out.set2 0 (.int .u16 x.a)).set2 1 (.int .i64 x.t)).set2 2 (.int .i64 x.c)).set2 3 (.int .i64 x.l))
              clear hxa HU3'
              go_wp2
              go_meet
              case rel => exact ⟨true, rfl, Lib.hid (by rw [EO.out]; exact HU4.out), EF⟩
            · have e1 : (x.a == a) = false := by simpa using hxa
              have EO : Hid (ofN (L.take (j + 1)) a = o) := Lib.hid (by unfold ofN; rw [LK.out, if_neg hxa]; exact HO.out)
              have EF : Hid (F = (lkS (L.take (j + 1)) a).isSome) := Lib.hid (by rw [LK.out, if_neg hxa]; exact hF.out)
              clear hxa
              go_wp2
              go_meet
              case rel => exact ⟨F, rfl, Lib.hid (by rw [EO.out]; exact HU3'.out), EF⟩
          case rest =>
            obtain ⟨F', rfl, HU4, HF4⟩ := hcut
            clear HU3' hF LK HO
            obtain ⟨At, ct, hvt, hct⟩ := own_cap HU4.out.top
            obtain ⟨T, hT⟩ : ∃ T, Tp.length = T := ⟨_, rfl⟩
            rw [hT] at hvt hct
            subst hvt
            have HT := Lib.hid hT
            have hT60 : T ≤ 60 := by have := hTp.out.length_eq; rw [List.length_take, HN.out] at this; omega
            clear hT
            have CB := Lib.hid (fun (y : SpN) (u : World) => lwBefore_any x y u)
            go_upto_block 4 with (fail)
            go_cut [15] (fun u15 wx => ∃ kk : Nat, kk ≤ T ∧ u15 = .int .i64 (kk : Int) ∧ Hid (LwU w wx k ob (.slice (some ⟨q8, 0, none⟩) N c8) L g (cellsSp 0 (m1 + x.t) (m2 + x.c) (m3 + x.l)) (cellsSp (ofN (L.take (j + 1)) a).a (ofN (L.take (j + 1)) a).t (ofN (L.take (j + 1)) a).c (ofN (L.take (j + 1)) a).l) (.slice At T ct) Tp) ∧ Hid ((∀ (i : Nat) (y : SpN), kk ≤ i → Tp[i]? = some y → befN x y = true) ∧ (kk = 0 ∨ ∃ y, Tp[kk - 1]? = some y ∧ befN x y = false)))
            case first =>
              obtain ⟨wo2, hwo2⟩ : ∃ wo2, wo2 = wr := ⟨_, rfl⟩
              subst hwo2
              go_wp2_with fail
              go_loopw [15] (fun u15 wx => ∃ kk : Nat, kk ≤ T ∧ u15 = .int .i64 (kk : Int) ∧ Hid (LwU w wx k ob (.slice (some ⟨q8, 0, none⟩) N c8) L g (cellsSp 0 (m1 + x.t) (m2 + x.c) (m3 + x.l)) (cellsSp (ofN (L.take (j + 1)) a).a (ofN (L.take (j + 1)) a).t (ofN (L.take (j + 1)) a).c (ofN (L.take (j + 1)) a).l) (.slice At T ct) Tp) ∧ Hid (∀ (i : Nat) (y : SpN), kk ≤ i → Tp[i]? = some y → befN x y = true)) (fun u15 _ => (intOf u15).toNat)
              case atStart => exact ⟨T, Nat.le_refl _, rfl, HU4, Lib.hid (fun i y hi hy => by rw [List.getElem?_eq_none (by rw [HT.out]; exact hi)] at hy; cases hy)⟩
              case round =>
                obtain ⟨kk, hkk, rfl, hU, hAll⟩ := hrel
                by_cases h0 : kk = 0
                · subst h0
                  go_upto_region 24 with (fail)
                  refine wp_region_noPanic ?_
                  refine wp_region_held_drew (S := (fun _ => True)) (by kernel_rfl) ?_ (fun hH0 => ?_)
                  · trivial
                  refine wpAnyH_take (i := 0) (oi := ({ dst := some 100, op := Op.move (Operand.tmp 15), type := 3, pos := "law.go:75", after := #[], guard := none } : Oper)) (v := ?_) rfl (by kernel_rfl) (by kernel_rfl) (by kernel_rfl) (fun _ _ _ h => h) (Or.inl ⟨by rfl, ?_⟩) (by assumption) ?_
                  rotate_left 1
                  · (intro w hSw; (try dsimp only at hSw); go_simp; (try with_reducible rfl))
                  (try simp only [Act.put, List.setIfInBounds_toArray, List.set_cons_zero, List.set_cons_succ])
                  refine wpAnyH_take (i := 1) (oi := ({ dst := some 101, op := Op.binOp BinOp.gtr 3 (Operand.tmp 100) (Operand.const (Value.int IntKind.i64 0)) 3, type := 4, pos := "law.go:75", after := #[{ on := 0, ground := Ground.data }], guard := none } : Oper)) (v := ?_) rfl (by kernel_rfl) (by kernel_rfl) (by kernel_rfl) (fun _ _ _ h => h) (Or.inl ⟨by rfl, ?_⟩) (by assumption) ?_
                  rotate_left 1
                  · (intro w hSw; (try dsimp only at hSw); go_simp; (try with_reducible rfl))
                  (try simp only [Act.put, List.setIfInBounds_toArray, List.set_cons_zero, List.set_cons_succ])
                  refine wpAnyH_take (i := 2) (oi := ({ dst := some 102, op := Op.move (Operand.tmp 101), type := 4, pos := "law.go:75", after := #[{ on := 1, ground := Ground.data }], guard := none } : Oper)) (v := ?_) rfl (by kernel_rfl) (by kernel_rfl) (by kernel_rfl) (fun _ _ _ h => h) (Or.inl ⟨by rfl, ?_⟩) (by assumption) ?_
                  rotate_left 1
                  · (intro w hSw; (try dsimp only at hSw); go_simp; (try with_reducible rfl))
                  (try simp only [Act.put, List.setIfInBounds_toArray, List.set_cons_zero, List.set_cons_succ])
                  refine wpAnyH_take (i := 3) (oi := ({ dst := some 103, op := Op.move (Operand.tmp 8), type := 28, pos := "law.go:75", after := #[{ on := 2, ground := Ground.guard }], guard := some (2, true) } : Oper)) (v := undef) rfl (by kernel_rfl) (by kernel_rfl) (by kernel_rfl) (fun _ _ _ h => h) (Or.inr ⟨by rfl, rfl⟩) (by assumption) ?_
                  (try simp only [Act.put, List.setIfInBounds_toArray, List.set_cons_zero, List.set_cons_succ])
                  refine wpAnyH_take (i := 4) (oi := ({ dst := some 104, op := Op.move (Operand.tmp 14), type := 3, pos := "law.go:75", after := #[{ on := 2, ground := Ground.guard }], guard := some (2, true) } : Oper)) (v := undef) rfl (by kernel_rfl) (by kernel_rfl) (by kernel_rfl) (fun _ _ _ h => h) (Or.inr ⟨by rfl, rfl⟩) (by assumption) ?_
                  (try simp only [Act.put, List.setIfInBounds_toArray, List.set_cons_zero, List.set_cons_succ])
                  refine wpAnyH_take (i := 5) (oi := ({ dst := some 105, op := Op.indexAddr 28 (Operand.tmp 103) (Operand.tmp 104), type := 0, pos := "law.go:75", after := #[{ on := 3, ground := Ground.data }, { on := 4, ground := Ground.data }, { on := 2, ground := Ground.guard }], guard := some (2, true) } : Oper)) (v := undef) rfl (by kernel_rfl) (by kernel_rfl) (by kernel_rfl) (fun _ _ _ h => h) (Or.inr ⟨by rfl, rfl⟩) (by assumption) ?_
                  (try simp only [Act.put, List.setIfInBounds_toArray, List.set_cons_zero, List.set_cons_succ])
                  refine wpAnyH_take (i := 6) (oi := ({ dst := some 106, op := Op.load 35 (Operand.tmp 105), type := 35, pos := "law.go:75", after := #[{ on := 5, ground := Ground.data }, { on := 2, ground := Ground.guard }], guard := some (2, true) } : Oper)) (v := undef) rfl (by kernel_rfl) (by kernel_rfl) (by kernel_rfl) (fun _ _ _ h => h) (Or.inr ⟨by rfl, rfl⟩) (by assumption) ?_
                  (try simp only [Act.put, List.setIfInBounds_toArray, List.set_cons_zero, List.set_cons_succ])
                  refine wpAnyH_take (i := 7) (oi := ({ dst := some 107, op := Op.move (Operand.tmp 12), type := 28, pos := "law.go:75", after := #[{ on := 2, ground := Ground.guard }], guard := some (2, true) } : Oper)) (v := undef) rfl (by kernel_rfl) (by kernel_rfl) (by kernel_rfl) (fun _ _ _ h => h) (Or.inr ⟨by rfl, rfl⟩) (by assumption) ?_
                  (try simp only [Act.put, List.setIfInBounds_toArray, List.set_cons_zero, List.set_cons_succ])
                  refine wpAnyH_take (i := 8) (oi := ({ dst := some 108, op := Op.move (Operand.tmp 15), type := 3, pos := "law.go:75", after := #[{ on := 2, ground := Ground.guard }], guard := some (2, true) } : Oper)) (v := undef) rfl (by kernel_rfl) (by kernel_rfl) (by kernel_rfl) (fun _ _ _ h => h) (Or.inr ⟨by rfl, rfl⟩) (by assumption) ?_
                  (try simp only [Act.put, List.setIfInBounds_toArray, List.set_cons_zero, List.set_cons_succ])
                  refine wpAnyH_take (i := 9) (oi := ({ dst := some 109, op := Op.binOp BinOp.sub 3 (Operand.tmp 108) (Operand.const (Value.int IntKind.i64 1)) 3, type := 3, pos := "law.go:75", after := #[{ on := 8, ground := Ground.data }, { on := 2, ground := Ground.guard }], guard := some (2, true) } : Oper)) (v := undef) rfl (by kernel_rfl) (by kernel_rfl) (by kernel_rfl) (fun _ _ _ h => h) (Or.inr ⟨by rfl, rfl⟩) (by assumption) ?_
                  (try simp only [Act.put, List.setIfInBounds_toArray, List.set_cons_zero, List.set_cons_succ])
                  refine wpAnyH_take (i := 10) (oi := ({ dst := some 110, op := Op.indexAddr 28 (Operand.tmp 107) (Operand.tmp 109), type := 0, pos := "law.go:75", after := #[{ on := 7, ground := Ground.data }, { on := 9, ground := Ground.data }, { on := 2, ground := Ground.guard }], guard := some (2, true) } : Oper)) (v := undef) rfl (by kernel_rfl) (by kernel_rfl) (by kernel_rfl) (fun _ _ _ h => h) (Or.inr ⟨by rfl, rfl⟩) (by assumption) ?_
                  (try simp only [Act.put, List.setIfInBounds_toArray, List.set_cons_zero, List.set_cons_succ])
                  refine wpAnyH_take (i := 11) (oi := ({ dst := some 111, op := Op.load 35 (Operand.tmp 110), type := 35, pos := "law.go:75", after := #[{ on := 10, ground := Ground.data }, { on := 2, ground := Ground.guard }], guard := some (2, true) } : Oper)) (v := undef) rfl (by kernel_rfl) (by kernel_rfl) (by kernel_rfl) (fun _ _ _ h => h) (Or.inr ⟨by rfl, rfl⟩) (by assumption) ?_
                  (try simp only [Act.put, List.setIfInBounds_toArray, List.set_cons_zero, List.set_cons_succ])
                  refine wpAnyH_take (i := 12) (oi := ({ dst := some 112, op := Op.call { callee := Callee.value (Operand.func 6), args := #[Operand.tmp 106, Operand.tmp 111], argTypes := #[35, 35] }, type := 4, pos := "law.go:75", after := #[{ on := 6, ground := Ground.data }, { on := 11, ground := Ground.data }, { on := 2, ground := Ground.chain }, { on := 2, ground := Ground.guard }], guard := some (2, true) } : Oper)) (v := undef) rfl (by kernel_rfl) (by kernel_rfl) (by kernel_rfl) (fun _ _ _ h => h) (Or.inr ⟨by rfl, rfl⟩) (by assumption) ?_
                  (try simp only [Act.put, List.setIfInBounds_toArray, List.set_cons_zero, List.set_cons_succ])
                  refine wpAnyH_take (i := 13) (oi := ({ dst := some 113, op := Op.pick (Operand.tmp 102) (Operand.tmp 112) (Operand.const (Value.bool false)), type := 4, pos := "law.go:75", after := #[{ on := 2, ground := Ground.data }, { on := 12, ground := Ground.data }], guard := none } : Oper)) (v := ?_) rfl (by kernel_rfl) (by kernel_rfl) (by kernel_rfl) (fun _ _ _ h => h) (Or.inl ⟨by rfl, ?_⟩) (by assumption) ?_
                  rotate_left 1
                  · (intro w hSw; (try dsimp only at hSw); go_simp; (try with_reducible rfl))
                  (try simp only [Act.put, List.setIfInBounds_toArray, List.set_cons_zero, List.set_cons_succ])
                  refine wpAnyH_done (by kernel_rfl) ?_ _
                  refine NoPanic.normal ?_
                  go_wp2
                  go_meet
                  case rel => exact ⟨0, Nat.zero_le _, rfl, Lib.hid hU.out.drew, Lib.hid ⟨hAll.out, .inl rfl⟩⟩
                · obtain ⟨i, hi⟩ : ∃ i, kk = i + 1 := ⟨kk - 1, by omega⟩
                  have hiT : i < T := by omega
                  obtain ⟨qt, rfl⟩ : ∃ q, At = some ⟨q, 0, none⟩ := by
                    rcases hU.out.top.2 with ⟨_, e⟩ | ⟨q, c', cur, e, _⟩
                    · have := HT.out; omega
                    · injection e with e1; exact ⟨q, e1⟩
                  obtain ⟨y, hy⟩ : ∃ y, Tp[i]? = some y := ⟨_, List.getElem?_eq_getElem (by rw [HT.out]; exact hiT)⟩
                  have wq : IntKind.i64.wrap ((kk : Int) - 1) = (i : Int) := by rw [IntWalk.i64_in _ (by omega)]; omega
                  have wq2 : wrap64 ((kk : Int) - 1) = (i : Int) := by unfold wrap64; omega
                  have p1 : 0 < kk := by omega
                  have p2 : (0 : Int) < (kk : Int) := by omega
                  have p3 : (0 : Int) ≤ (i : Int) := by omega
                  have p4 : (i : Int) < (T : Int) := by omega
                  have HI := Lib.hid hi
                  have HY := Lib.hid hy
                  have HIT := Lib.hid hiT
                  have HBW := Lib.hid (CB.out y)
                  obtain ⟨bf, hbf⟩ : ∃ bf, befN x y = bf := ⟨_, rfl⟩
                  rw [hbf] at HBW
                  have HBF := Lib.hid hbf
                  have SX : Hid (∀ wx, Below wr.heap.size wr wx → (fun w' : World => (w'.cell? ⟨q8, j * 4, none⟩ = some (.int .u16 x.a) ∧ w'.cell? ⟨q8, j * 4 + 1, none⟩ = some (.int .i64 x.t) ∧ w'.cell? ⟨q8, j * 4 + 2, none⟩ = some (.int .i64 x.c) ∧ w'.cell? ⟨q8, j * 4 + 3, none⟩ = some (.int .i64 x.l)) ∧ (w'.cell? ⟨qt, i * 4, none⟩ = some (.int .u16 y.a) ∧ w'.cell? ⟨qt, i * 4 + 1, none⟩ = some (.int .i64 y.t) ∧ w'.cell? ⟨qt, i * 4 + 2, none⟩ = some (.int .i64 y.c) ∧ w'.cell? ⟨qt, i * 4 + 3, none⟩ = some (.int .i64 y.l))) wx) := Lib.hid (fun wx hb => by
                    have q := hU.out.below hb
                    exact ⟨q.row HX.out, (q.top.at_ i y HY.out 0 _ rfl).1, (q.top.at_ i y HY.out 1 _ rfl).1, (q.top.at_ i y HY.out 2 _ rfl).1, (q.top.at_ i y HY.out 3 _ rfl).1⟩)
                  clear hi hy hiT hbf h0
                  go_upto_region 24 with (fail)
                  refine wp_region_noPanic ?_
                  refine wp_region_held_drew (S := (fun w' : World => (w'.cell? ⟨q8, j * 4, none⟩ = some (.int .u16 x.a) ∧ w'.cell? ⟨q8, j * 4 + 1, none⟩ = some (.int .i64 x.t) ∧ w'.cell? ⟨q8, j * 4 + 2, none⟩ = some (.int .i64 x.c) ∧ w'.cell? ⟨q8, j * 4 + 3, none⟩ = some (.int .i64 x.l)) ∧ (w'.cell? ⟨qt, i * 4, none⟩ = some (.int .u16 y.a) ∧ w'.cell? ⟨qt, i * 4 + 1, none⟩ = some (.int .i64 y.t) ∧ w'.cell? ⟨qt, i * 4 + 2, none⟩ = some (.int .i64 y.c) ∧ w'.cell? ⟨qt, i * 4 + 3, none⟩ = some (.int .i64 y.l)))) (by kernel_rfl) ?_ (fun hH0 => ?_)
                  · (try dsimp only); with_reducible exact SX.out _ (Below.drew0 (Below.refl _ _))
                  refine wpAnyH_take (i := 0) (oi := ({ dst := some 100, op := Op.move (Operand.tmp 15), type := 3, pos := "law.go:75", after := #[], guard := none } : Oper)) (v := ?_) rfl (by kernel_rfl) (by kernel_rfl) (by kernel_rfl) (fun _ _ _ h => h) (Or.inl ⟨by rfl, ?_⟩) (by assumption) ?_
                  rotate_left 1
                  · (intro w hSw; (try dsimp only at hSw); go_simp; (try with_reducible rfl))
                  (try simp only [Act.put, List.setIfInBounds_toArray, List.set_cons_zero, List.set_cons_succ])
                  refine wpAnyH_take (i := 1) (oi := ({ dst := some 101, op := Op.binOp BinOp.gtr 3 (Operand.tmp 100) (Operand.const (Value.int IntKind.i64 0)) 3, type := 4, pos := "law.go:75", after := #[{ on := 0, ground := Ground.data }], guard := none } : Oper)) (v := ?_) rfl (by kernel_rfl) (by kernel_rfl) (by kernel_rfl) (fun _ _ _ h => h) (Or.inl ⟨by rfl, ?_⟩) (by assumption) ?_
                  rotate_left 1
                  · (intro w hSw; (try dsimp only at hSw); go_simp; (try with_reducible rfl))
                  (try simp only [Act.put, List.setIfInBounds_toArray, List.set_cons_zero, List.set_cons_succ])
                  refine wpAnyH_take (i := 2) (oi := ({ dst := some 102, op := Op.move (Operand.tmp 101), type := 4, pos := "law.go:75", after := #[{ on := 1, ground := Ground.data }], guard := none } : Oper)) (v := ?_) rfl (by kernel_rfl) (by kernel_rfl) (by kernel_rfl) (fun _ _ _ h => h) (Or.inl ⟨by rfl, ?_⟩) (by assumption) ?_
                  rotate_left 1
                  · (intro w hSw; (try dsimp only at hSw); go_simp; (try with_reducible rfl))
                  (try simp only [Act.put, List.setIfInBounds_toArray, List.set_cons_zero, List.set_cons_succ])
                  refine wpAnyH_take (i := 3) (oi := ({ dst := some 103, op := Op.move (Operand.tmp 8), type := 28, pos := "law.go:75", after := #[{ on := 2, ground := Ground.guard }], guard := some (2, true) } : Oper)) (v := ?_) rfl (by kernel_rfl) (by kernel_rfl) (by kernel_rfl) (fun _ _ _ h => h) (Or.inl ⟨by rfl, ?_⟩) (by assumption) ?_
                  rotate_left 1
                  · (intro w hSw; (try dsimp only at hSw); go_simp; (try with_reducible rfl))
                  (try simp only [Act.put, List.setIfInBounds_toArray, List.set_cons_zero, List.set_cons_succ])
                  refine wpAnyH_take (i := 4) (oi := ({ dst := some 104, op := Op.move (Operand.tmp 14), type := 3, pos := "law.go:75", after := #[{ on := 2, ground := Ground.guard }], guard := some (2, true) } : Oper)) (v := ?_) rfl (by kernel_rfl) (by kernel_rfl) (by kernel_rfl) (fun _ _ _ h => h) (Or.inl ⟨by rfl, ?_⟩) (by assumption) ?_
                  rotate_left 1
                  · (intro w hSw; (try dsimp only at hSw); go_simp; (try with_reducible rfl))
                  (try simp only [Act.put, List.setIfInBounds_toArray, List.set_cons_zero, List.set_cons_succ])
                  refine wpAnyH_take (i := 5) (oi := ({ dst := some 105, op := Op.indexAddr 28 (Operand.tmp 103) (Operand.tmp 104), type := 0, pos := "law.go:75", after := #[{ on := 3, ground := Ground.data }, { on := 4, ground := Ground.data }, { on := 2, ground := Ground.guard }], guard := some (2, true) } : Oper)) (v := ?_) rfl (by kernel_rfl) (by kernel_rfl) (by kernel_rfl) (fun _ _ _ h => h) (Or.inl ⟨by rfl, ?_⟩) (by assumption) ?_
                  rotate_left 1
                  · (intro w hSw; (try dsimp only at hSw); go_simp; (try with_reducible rfl))
                  (try simp only [Act.put, List.setIfInBounds_toArray, List.set_cons_zero, List.set_cons_succ])
                  refine wpAnyH_take (i := 6) (oi := ({ dst := some 106, op := Op.load 35 (Operand.tmp 105), type := 35, pos := "law.go:75", after := #[{ on := 5, ground := Ground.data }, { on := 2, ground := Ground.guard }], guard := some (2, true) } : Oper)) (v := ?_) rfl (by kernel_rfl) (by kernel_rfl) (by kernel_rfl) (fun _ _ _ h => h) (Or.inl ⟨by rfl, ?_⟩) (by assumption) ?_
                  rotate_left 1
                  · (intro w hSw; (try dsimp only at hSw); go_simp; (try with_reducible rfl))
                  (try simp only [Act.put, List.setIfInBounds_toArray, List.set_cons_zero, List.set_cons_succ])
                  refine wpAnyH_take (i := 7) (oi := ({ dst := some 107, op := Op.move (Operand.tmp 12), type := 28, pos := "law.go:75", after := #[{ on := 2, ground := Ground.guard }], guard := some (2, true) } : Oper)) (v := ?_) rfl (by kernel_rfl) (by kernel_rfl) (by kernel_rfl) (fun _ _ _ h => h) (Or.inl ⟨by rfl, ?_⟩) (by assumption) ?_
                  rotate_left 1
                  · (intro w hSw; (try dsimp only at hSw); go_simp; (try with_reducible rfl))
                  (try simp only [Act.put, List.setIfInBounds_toArray, List.set_cons_zero, List.set_cons_succ])
                  refine wpAnyH_take (i := 8) (oi := ({ dst := some 108, op := Op.move (Operand.tmp 15), type := 3, pos := "law.go:75", after := #[{ on := 2, ground := Ground.guard }], guard := some (2, true) } : Oper)) (v := ?_) rfl (by kernel_rfl) (by kernel_rfl) (by kernel_rfl) (fun _ _ _ h => h) (Or.inl ⟨by rfl, ?_⟩) (by assumption) ?_
                  rotate_left 1
                  · (intro w hSw; (try dsimp only at hSw); go_simp; (try with_reducible rfl))
                  (try simp only [Act.put, List.setIfInBounds_toArray, List.set_cons_zero, List.set_cons_succ])
                  refine wpAnyH_take (i := 9) (oi := ({ dst := some 109, op := Op.binOp BinOp.sub 3 (Operand.tmp 108) (Operand.const (Value.int IntKind.i64 1)) 3, type := 3, pos := "law.go:75", after := #[{ on := 8, ground := Ground.data }, { on := 2, ground := Ground.guard }], guard := some (2, true) } : Oper)) (v := ?_) rfl (by kernel_rfl) (by kernel_rfl) (by kernel_rfl) (fun _ _ _ h => h) (Or.inl ⟨by rfl, ?_⟩) (by assumption) ?_
                  rotate_left 1
                  · (intro w hSw; (try dsimp only at hSw); go_simp; (try with_reducible rfl))
                  (try simp only [Act.put, List.setIfInBounds_toArray, List.set_cons_zero, List.set_cons_succ])
                  refine wpAnyH_take (i := 10) (oi := ({ dst := some 110, op := Op.indexAddr 28 (Operand.tmp 107) (Operand.tmp 109), type := 0, pos := "law.go:75", after := #[{ on := 7, ground := Ground.data }, { on := 9, ground := Ground.data }, { on := 2, ground := Ground.guard }], guard := some (2, true) } : Oper)) (v := ?_) rfl (by kernel_rfl) (by kernel_rfl) (by kernel_rfl) (fun _ _ _ h => h) (Or.inl ⟨by rfl, ?_⟩) (by assumption) ?_
                  rotate_left 1
                  · (intro w hSw; (try dsimp only at hSw); go_simp; (try with_reducible rfl))
                  (try simp only [Act.put, List.setIfInBounds_toArray, List.set_cons_zero, List.set_cons_succ])
                  refine wpAnyH_take (i := 11) (oi := ({ dst := some 111, op := Op.load 35 (Operand.tmp 110), type := 35, pos := "law.go:75", after := #[{ on := 10, ground := Ground.data }, { on := 2, ground := Ground.guard }], guard := some (2, true) } : Oper)) (v := ?_) rfl (by kernel_rfl) (by kernel_rfl) (by kernel_rfl) (fun _ _ _ h => h) (Or.inl ⟨by rfl, ?_⟩) (by assumption) ?_
                  rotate_left 1
                  · (intro w hSw; (try dsimp only at hSw); go_simp; (try with_reducible rfl))
                  (try simp only [Act.put, List.setIfInBounds_toArray, List.set_cons_zero, List.set_cons_succ])
                  refine wpAnyH_ready (rs := [12]) (by kernel_rfl) (by simp) ?_
                  refine AllReadyH.cons (o := ({ dst := some 112, op := Op.call { callee := Callee.value (Operand.func 6), args := #[Operand.tmp 106, Operand.tmp 111], argTypes := #[35, 35] }, type := 4, pos := "law.go:75", after := #[{ on := 6, ground := Ground.data }, { on := 11, ground := Ground.data }, { on := 2, ground := Ground.chain }, { on := 2, ground := Ground.guard }], guard := some (2, true) } : Oper)) rfl (fun K hK => ?_) ?_
                  rotate_left 1
                  · exact AllReadyH.nil
                  go_simp
                  go_at_call 6
                  ((refine (HBW.out _).mono ?_); rintro e w5 ⟨rfl, hb5⟩; have B5 : Hid (Below wr.heap.size wr w5) := Lib.hid (Below.trans0 (Below.drew0 (Below.refl _ _)) hb5); clear hb5)
                  first | (refine hK.out _ _ ?_ (fun hH1 => ?_)) | (go_wp2_with fail; refine hK.out _ _ ?_ (fun hH1 => ?_))
                  · (try dsimp only); with_reducible exact SX.out _ B5.out
                  clear hK K hH0
                  (try simp only [Act.put, List.setIfInBounds_toArray, List.set_cons_zero, List.set_cons_succ])
                  refine wpAnyH_take (i := 13) (oi := ({ dst := some 113, op := Op.pick (Operand.tmp 102) (Operand.tmp 112) (Operand.const (Value.bool false)), type := 4, pos := "law.go:75", after := #[{ on := 2, ground := Ground.data }, { on := 12, ground := Ground.data }], guard := none } : Oper)) (v := ?_) rfl (by kernel_rfl) (by kernel_rfl) (by kernel_rfl) (fun _ _ _ h => h) (Or.inl ⟨by rfl, ?_⟩) (by assumption) ?_
                  rotate_left 1
                  · (intro w hSw; (try dsimp only at hSw); go_simp; (try with_reducible rfl))
                  (try simp only [Act.put, List.setIfInBounds_toArray, List.set_cons_zero, List.set_cons_succ])
                  refine wpAnyH_done (by kernel_rfl) ?_ _
                  refine NoPanic.normal ?_
                  have HU5 := Lib.hid (hU.out.below B5.out)
                  clear SX B5 HBW hU
                  cases bf
                  case false =>
                    go_wp2
                    go_meet
                    case rel => exact ⟨kk, hkk, rfl, HU5, Lib.hid ⟨hAll.out, .inr ⟨y, by rw [HI.out]; exact HY.out, HBF.out⟩⟩⟩
                  case true =>
                    go_wp2
                    go_roundw
                    case rel => exact ⟨i, by have := HIT.out; omega, rfl, HU5, Lib.hid (fun i' y' h1 h2 => by
                      rcases (show i' = i ∨ kk ≤ i' by have := HI.out; omega) with rfl | q
                      · rw [HY.out] at h2; obtain rfl := Option.some.inj h2; exact HBF.out
                      · exact hAll.out i' y' q h2)⟩
                    case measure => have := HI.out; simp [intOf]; omega
            case rest =>
              obtain ⟨kk, hkk, rfl, hU, hK⟩ := hcut
              obtain ⟨q1, hq1⟩ : ∃ q1, wc.heap.size = q1 := ⟨_, rfl⟩
              have hsl1 := fun u => slice_hSp u At T ct kk (by omega)
              have hsl2 := fun u => slice_lSp u At T ct kk hkk hct
              simp only [sliced_zero] at hsl1
              have hr1 := Els.Rd.windowP hU.out.top.rd hct 0 kk (Nat.zero_le _) hkk
              rw [show eSp.k = 4 from rfl, sliced_zero, List.drop_zero, Nat.sub_zero] at hr1
              have hr3 := Els.Rd.windowP hU.out.top.rd hct kk T hkk (Nat.le_refl _)
              rw [show eSp.k = 4 from rfl, List.take_of_length_le (by rw [List.length_drop, HT.out]; exact Nat.le_refl _)] at hr3
              obtain ⟨A3, n3, c3, hv3⟩ : ∃ A3 n3 c3, sliced At kk T ct 4 = .slice A3 n3 c3 := ⟨_, _, _, rfl⟩
              rw [hv3] at hr3
              simp only [hv3] at hsl2
              clear hv3
              have CCat : Hid (∀ (U : World) (q : Nat), Below wc.heap.size wc U → q < U.heap.size → U.cell? ⟨q, 0, none⟩ = some (.slice At kk ct) → U.cell? ⟨q, 1, none⟩ = some (.slice (some ⟨q1, 0, none⟩) 1 1) → U.cell? ⟨q, 2, none⟩ = some (.slice A3 n3 c3) → eSp.Rd U (.slice (some ⟨q1, 0, none⟩) 1 1) [x] →
                  Calls Try.prog 7 #[.slice (some ⟨q, 0, none⟩) 3 3] U fun e w' => ∃ v, e = .returned v ∧ eSp.Own 35 w' U.heap.size v (Tp.take kk ++ [x] ++ Tp.drop kk) ∧ Below U.heap.size U w') := Lib.hid (fun U q hb hq c0 c1 c2 hx =>
                spConcat_any q 3 _ _ _ (Tp.take kk) [x] (Tp.drop kk) U hq c0 c1 c2 (hr1.below hb) hx (hr3.below hb) (by rw [List.length_take]; omega) (by simp) (by rw [List.length_drop, HT.out]; omega))
              have HQ1 := Lib.hid hq1
              have k0' : (0 : Int) ≤ (kk : Int) := by omega
              have SX : Hid (∀ wx, Below wc.heap.size wc wx → (fun w' : World => w'.cell? ⟨q8, j * 4, none⟩ = some (.int .u16 x.a) ∧ w'.cell? ⟨q8, j * 4 + 1, none⟩ = some (.int .i64 x.t) ∧ w'.cell? ⟨q8, j * 4 + 2, none⟩ = some (.int .i64 x.c) ∧ w'.cell? ⟨q8, j * 4 + 3, none⟩ = some (.int .i64 x.l)) wx) := Lib.hid (fun wx hb => (hU.out.below hb).row HX.out)
              have PQ : Hid ((Tp.take kk ++ [x] ++ Tp.drop kk).Perm (L.take (j + 1)) ∧ OrdN (Tp.take kk ++ [x] ++ Tp.drop kk)) := Lib.hid (by
                have ep : Tp.take kk ++ [x] ++ Tp.drop kk = putN Tp x kk := by unfold putN; simp
                rw [ep]
                refine ⟨?_, putN_ord hOr.out (by rw [HT.out]; exact hkk) (fun y hy => ?_) hK.out.1 hK.out.2⟩
                · rw [TK.out]
                  exact (putN_perm Tp x kk).trans (((hTp.out.cons x)).trans (List.perm_append_singleton x (L.take j)).symm)
                · have hy2 := (hTp.out.mem_iff).1 hy
                  obtain ⟨i, hi⟩ := List.getElem?_of_mem hy2
                  rw [List.getElem?_take] at hi
                  split at hi
                  · rename_i hij
                    obtain ⟨a1, a2⟩ := List.getElem?_eq_some_iff.1 hi
                    obtain ⟨b1, b2⟩ := List.getElem?_eq_some_iff.1 HX.out
                    have := List.pairwise_iff_getElem.1 hU.out.st.pp.2.1 i j a1 b1 hij
                    rw [a2, b2] at this
                    exact this
                  · cases hi)
              have hg2 := Lib.hid (show g + 2 ≤ q1 from by rw [← hq1]; exact hU.out.sz)
              have CON : Hid (Calls Try.prog 7 #[.slice (some ⟨q1 + 1, 0, none⟩) 3 3] (((wc.alloc (Obj.cells (cellsSp x.a x.t x.c x.l) 35)).alloc (Obj.cells #[.slice At kk ct, .slice (some ⟨q1, 0, none⟩) 1 1, .slice A3 n3 c3] 28)).drew) fun e w' => ∃ v, e = .returned v ∧ eSp.Own 35 w' (((wc.alloc (Obj.cells (cellsSp x.a x.t x.c x.l) 35)).alloc (Obj.cells #[.slice At kk ct, .slice (some ⟨q1, 0, none⟩) 1 1, .slice A3 n3 c3] 28)).drew).heap.size v (Tp.take kk ++ [x] ++ Tp.drop kk) ∧ Below (((wc.alloc (Obj.cells (cellsSp x.a x.t x.c x.l) 35)).alloc (Obj.cells #[.slice At kk ct, .slice (some ⟨q1, 0, none⟩) 1 1, .slice A3 n3 c3] 28)).drew).heap.size (((wc.alloc (Obj.cells (cellsSp x.a x.t x.c x.l) 35)).alloc (Obj.cells #[.slice At kk ct, .slice (some ⟨q1, 0, none⟩) 1 1, .slice A3 n3 c3] 28)).drew) w') := Lib.hid (by
                have hU2 : Below wc.heap.size wc (((wc.alloc (Obj.cells (cellsSp x.a x.t x.c x.l) 35)).alloc (Obj.cells #[.slice At kk ct, .slice (some ⟨q1, 0, none⟩) 1 1, .slice A3 n3 c3] 28)).drew) := Below.drew0 (Below.alloc0 (Below.alloc0 (Below.refl _ _) _) _)
                have hb := Blk.drew (Blk.at1 (w := wc) (t := 28) (cs := #[.slice At kk ct, .slice (some ⟨q1, 0, none⟩) 1 1, .slice A3 n3 c3]) (Obj.cells (cellsSp x.a x.t x.c x.l) 35))
                rw [hq1] at hb
                obtain ⟨z0, z1, z2⟩ := hb.c3
                have hx := ((Els.Rd.lit (E := eSp) wc 35 [x] (cellsSp x.a x.t x.c x.l) 1 rfl rfl 1).alloc (Obj.cells #[.slice At kk ct, .slice (some ⟨q1, 0, none⟩) 1 1, .slice A3 n3 c3] 28)).drew
                rw [hq1] at hx
                exact CCat.out _ (q1 + 1) hU2 (by simp [hq1]) z0 z1 z2 hx)
              have HUB : Hid (Below wc.heap.size wc (((wc.alloc (Obj.cells (cellsSp x.a x.t x.c x.l) 35)).alloc (Obj.cells #[.slice At kk ct, .slice (some ⟨q1, 0, none⟩) 1 1, .slice A3 n3 c3] 28)).drew)) := Lib.hid (Below.drew0 (Below.alloc0 (Below.alloc0 (Below.refl _ _) _) _))
              clear hr1 hr3 hK hTp hOr CB CCat
              go_upto_region 26 with (fail)
              refine wp_region_noPanic ?_
              refine wp_region_held_drew (S := (fun w' : World => w'.cell? ⟨q8, j * 4, none⟩ = some (.int .u16 x.a) ∧ w'.cell? ⟨q8, j * 4 + 1, none⟩ = some (.int .i64 x.t) ∧ w'.cell? ⟨q8, j * 4 + 2, none⟩ = some (.int .i64 x.c) ∧ w'.cell? ⟨q8, j * 4 + 3, none⟩ = some (.int .i64 x.l))) (by kernel_rfl) ?_ (fun hH0 => ?_)
              · (try dsimp only); with_reducible exact SX.out _ (Below.drew0 (Below.refl _ _))
              refine wpAnyH_take (i := 0) (oi := ({ dst := some 116, op := Op.move (Operand.tmp 12), type := 28, pos := "law.go:78", after := #[], guard := none } : Oper)) (v := ?_) rfl (by kernel_rfl) (by kernel_rfl) (by kernel_rfl) (fun _ _ _ h => h) (Or.inl ⟨by rfl, ?_⟩) (by assumption) ?_
              rotate_left 1
              · (intro w hSw; (try dsimp only at hSw); go_simp; (try with_reducible rfl))
              (try simp only [Act.put, List.setIfInBounds_toArray, List.set_cons_zero, List.set_cons_succ])
              refine wpAnyH_take (i := 1) (oi := ({ dst := some 117, op := Op.move (Operand.tmp 15), type := 3, pos := "law.go:78", after := #[], guard := none } : Oper)) (v := ?_) rfl (by kernel_rfl) (by kernel_rfl) (by kernel_rfl) (fun _ _ _ h => h) (Or.inl ⟨by rfl, ?_⟩) (by assumption) ?_
              rotate_left 1
              · (intro w hSw; (try dsimp only at hSw); go_simp; (try with_reducible rfl))
              (try simp only [Act.put, List.setIfInBounds_toArray, List.set_cons_zero, List.set_cons_succ])
              refine wpAnyH_take (i := 2) (oi := ({ dst := some 118, op := Op.slice 28 (Operand.tmp 116) none (some (Operand.tmp 117)) none, type := 28, pos := "law.go:78", after := #[{ on := 0, ground := Ground.data }, { on := 1, ground := Ground.data }], guard := none } : Oper)) (v := ?_) rfl (by kernel_rfl) (by kernel_rfl) (by kernel_rfl) (fun _ _ _ h => h) (Or.inl ⟨by rfl, ?_⟩) (by assumption) ?_
              rotate_left 1
              · (intro w hSw; (try dsimp only at hSw); go_simp; (try with_reducible rfl))
              (try simp only [Act.put, List.setIfInBounds_toArray, List.set_cons_zero, List.set_cons_succ])
              refine wpAnyH_take (i := 3) (oi := ({ dst := some 119, op := Op.move (Operand.tmp 8), type := 28, pos := "law.go:78", after := #[], guard := none } : Oper)) (v := ?_) rfl (by kernel_rfl) (by kernel_rfl) (by kernel_rfl) (fun _ _ _ h => h) (Or.inl ⟨by rfl, ?_⟩) (by assumption) ?_
              rotate_left 1
              · (intro w hSw; (try dsimp only at hSw); go_simp; (try with_reducible rfl))
              (try simp only [Act.put, List.setIfInBounds_toArray, List.set_cons_zero, List.set_cons_succ])
              refine wpAnyH_take (i := 4) (oi := ({ dst := some 120, op := Op.move (Operand.tmp 14), type := 3, pos := "law.go:78", after := #[], guard := none } : Oper)) (v := ?_) rfl (by kernel_rfl) (by kernel_rfl) (by kernel_rfl) (fun _ _ _ h => h) (Or.inl ⟨by rfl, ?_⟩) (by assumption) ?_
              rotate_left 1
              · (intro w hSw; (try dsimp only at hSw); go_simp; (try with_reducible rfl))
              (try simp only [Act.put, List.setIfInBounds_toArray, List.set_cons_zero, List.set_cons_succ])
              refine wpAnyH_take (i := 5) (oi := ({ dst := some 121, op := Op.indexAddr 28 (Operand.tmp 119) (Operand.tmp 120), type := 0, pos := "law.go:78", after := #[{ on := 3, ground := Ground.data }, { on := 4, ground := Ground.data }], guard := none } : Oper)) (v := ?_) rfl (by kernel_rfl) (by kernel_rfl) (by kernel_rfl) (fun _ _ _ h => h) (Or.inl ⟨by rfl, ?_⟩) (by assumption) ?_
              rotate_left 1
              · (intro w hSw; (try dsimp only at hSw); go_simp; (try with_reducible rfl))
              (try simp only [Act.put, List.setIfInBounds_toArray, List.set_cons_zero, List.set_cons_succ])
              refine wpAnyH_take (i := 6) (oi := ({ dst := some 122, op := Op.load 35 (Operand.tmp 121), type := 35, pos := "law.go:78", after := #[{ on := 5, ground := Ground.data }], guard := none } : Oper)) (v := ?_) rfl (by kernel_rfl) (by kernel_rfl) (by kernel_rfl) (fun _ _ _ h => h) (Or.inl ⟨by rfl, ?_⟩) (by assumption) ?_
              rotate_left 1
              · (intro w hSw; (try dsimp only at hSw); go_simp; (try with_reducible rfl))
              (try simp only [Act.put, List.setIfInBounds_toArray, List.set_cons_zero, List.set_cons_succ])
              refine wpAnyH_take (i := 8) (oi := ({ dst := some 124, op := Op.move (Operand.tmp 12), type := 28, pos := "law.go:78", after := #[], guard := none } : Oper)) (v := ?_) rfl (by kernel_rfl) (by kernel_rfl) (by kernel_rfl) (fun _ _ _ h => h) (Or.inl ⟨by rfl, ?_⟩) (by assumption) ?_
              rotate_left 1
              · (intro w hSw; (try dsimp only at hSw); go_simp; (try with_reducible rfl))
              (try simp only [Act.put, List.setIfInBounds_toArray, List.set_cons_zero, List.set_cons_succ])
              refine wpAnyH_take (i := 9) (oi := ({ dst := some 125, op := Op.move (Operand.tmp 15), type := 3, pos := "law.go:78", after := #[], guard := none } : Oper)) (v := ?_) rfl (by kernel_rfl) (by kernel_rfl) (by kernel_rfl) (fun _ _ _ h => h) (Or.inl ⟨by rfl, ?_⟩) (by assumption) ?_
              rotate_left 1
              · (intro w hSw; (try dsimp only at hSw); go_simp; (try with_reducible rfl))
              (try simp only [Act.put, List.setIfInBounds_toArray, List.set_cons_zero, List.set_cons_succ])
              refine wpAnyH_take (i := 10) (oi := ({ dst := some 126, op := Op.slice 28 (Operand.tmp 124) (some (Operand.tmp 125)) none none, type := 28, pos := "law.go:78", after := #[{ on := 8, ground := Ground.data }, { on := 9, ground := Ground.data }], guard := none } : Oper)) (v := ?_) rfl (by kernel_rfl) (by kernel_rfl) (by kernel_rfl) (fun _ _ _ h => h) (Or.inl ⟨by rfl, ?_⟩) (by assumption) ?_
              rotate_left 1
              · (intro w hSw; (try dsimp only at hSw); go_simp; (try with_reducible rfl))
              (try simp only [Act.put, List.setIfInBounds_toArray, List.set_cons_zero, List.set_cons_succ])
              refine wpAnyH_ready (rs := [7]) (by kernel_rfl) (by simp) ?_
              refine AllReadyH.cons (o := ({ dst := some 123, op := Op.buildSlice 28 1 #[(0, Operand.tmp 122)], type := 28, pos := "law.go:78", after := #[{ on := 6, ground := Ground.data }], guard := none } : Oper)) rfl (fun K hK => ?_) ?_
              rotate_left 1
              · exact AllReadyH.nil
              go_simp
              first | (refine hK.out _ _ ?_ (fun hH1 => ?_)) | (go_wp2_with fail; refine hK.out _ _ ?_ (fun hH1 => ?_))
              · (try dsimp only); with_reducible exact SX.out _ (Below.drew0 (Below.alloc0 (Below.refl _ _) _))
              clear hK K hH0
              (try simp only [Act.put, List.setIfInBounds_toArray, List.set_cons_zero, List.set_cons_succ])
              refine wpAnyH_ready (rs := [11]) (by kernel_rfl) (by simp) ?_
              refine AllReadyH.cons (o := ({ dst := some 127, op := Op.buildSlice 53 3 #[(0, Operand.tmp 118), (1, Operand.tmp 123), (2, Operand.tmp 126)], type := 53, pos := "law.go:78", after := #[{ on := 2, ground := Ground.data }, { on := 7, ground := Ground.data }, { on := 10, ground := Ground.data }], guard := none } : Oper)) rfl (fun K hK => ?_) ?_
              rotate_left 1
              · exact AllReadyH.nil
              go_simp
              first | (refine hK.out _ _ ?_ (fun hH2 => ?_)) | (go_wp2_with fail; refine hK.out _ _ ?_ (fun hH2 => ?_))
              · (try dsimp only); with_reducible exact SX.out _ (Below.drew0 (Below.alloc0 (Below.alloc0 (Below.refl _ _) _) _))
              clear hK K hH1
              (try simp only [Act.put, List.setIfInBounds_toArray, List.set_cons_zero, List.set_cons_succ])
              refine wpAnyH_ready (rs := [12]) (by kernel_rfl) (by simp) ?_
              refine AllReadyH.cons (o := ({ dst := some 128, op := Op.call { callee := Callee.value (Operand.func 7), args := #[Operand.tmp 127], argTypes := #[53] }, type := 28, pos := "law.go:78", after := #[{ on := 11, ground := Ground.data }], guard := none } : Oper)) rfl (fun K hK => ?_) ?_
              rotate_left 1
              · exact AllReadyH.nil
              go_simp
              go_at_call 7
              ((refine CON.out.mono ?_); rintro e w5 ⟨v5, rfl, ho5, hb5⟩; have HU5 := Lib.hid (hU.out.below (Below.trans0 HUB.out hb5)); have HO5 := Lib.hid (ho5.more (show g + 2 ≤ _ from Nat.le_trans hU.out.sz HUB.out.size)); have S5 := Lib.hid (SX.out _ (Below.trans0 HUB.out hb5)); clear ho5 hb5)
              first | (refine hK.out _ _ ?_ (fun hH3 => ?_)) | (go_wp2_with fail; refine hK.out _ _ ?_ (fun hH3 => ?_))
              · (try dsimp only); with_reducible exact S5.out
              clear hK K hH2
              (try simp only [Act.put, List.setIfInBounds_toArray, List.set_cons_zero, List.set_cons_succ])
              refine wpAnyH_take (i := 13) (oi := ({ dst := some 12, op := Op.assign (Operand.tmp 128), type := 28, pos := "law.go:78", after := #[{ on := 12, ground := Ground.data }, { on := 12, ground := Ground.chain }, { on := 0, ground := Ground.phase }, { on := 1, ground := Ground.phase }, { on := 2, ground := Ground.phase }, { on := 3, ground := Ground.phase }, { on := 4, ground := Ground.phase }, { on := 5, ground := Ground.phase }, { on := 6, ground := Ground.phase }, { on := 7, ground := Ground.phase }, { on := 8, ground := Ground.phase }, { on := 9, ground := Ground.phase }, { on := 10, ground := Ground.phase }, { on := 11, ground := Ground.phase }, { on := 12, ground := Ground.phase }], guard := none } : Oper)) (v := ?_) rfl (by kernel_rfl) (by kernel_rfl) (by kernel_rfl) (fun _ _ _ h => h) (Or.inl ⟨by rfl, ?_⟩) (by assumption) ?_
              rotate_left 1
              · (intro w hSw; (try dsimp only at hSw); go_simp; (try with_reducible rfl))
              (try simp only [Act.put, List.setIfInBounds_toArray, List.set_cons_zero, List.set_cons_succ])
              refine wpAnyH_done (by kernel_rfl) ?_ _
              refine NoPanic.normal ?_
              clear SX CON HUB S5 hsl1 hsl2
              go_wp2
              go_roundw
              case rel => exact ⟨j + 1, F', by omega, by go_num, rfl, _, Lib.hid (by rw [SN.out]; exact ⟨HU5.out.st, HU5.out.k1, HU5.out.k2, HO5.out, HU5.out.ge, HU5.out.sz, HU5.out.ne⟩), HF4, Lib.hid PQ.out.1, Lib.hid PQ.out.2⟩
              case measure => simp [intOf]; omega
              --@endreg
        · obtain rfl : j = N := by omega
          have eL : L.take j = L := List.take_of_length_le (by rw [HN.out]; exact Nat.le_refl _)
          rw [eL] at hU hF hTp
          obtain ⟨sm, hsm⟩ : ∃ sm, sumN L = sm := ⟨_, rfl⟩
          obtain ⟨m1, m2, m3⟩ := sm
          rw [hsm] at hU
          simp only at hU
          obtain ⟨o, ho⟩ : ∃ o, ofN L a = o := ⟨_, rfl⟩
          rw [ho] at hU
          have hbL : Hid (∀ x ∈ L, (0 ≤ x.t ∧ x.t ≤ 1800) ∧ (0 ≤ x.c ∧ x.c ≤ 1800) ∧ (0 ≤ x.l ∧ x.l ≤ 1800)) := Lib.hid (fun y hy => by have := hU.out.st.bnd y hy; omega)
          have hL60 := Lib.hid (show L.length ≤ 60 by rw [HN.out]; exact hN60)
          obtain ⟨At, ct, hvt, hct⟩ := own_cap hU.out.top
          obtain ⟨T, hT⟩ : ∃ T, Tp.length = T := ⟨_, rfl⟩
          rw [hT] at hvt hct
          subst hvt
          have HT := Lib.hid hT
          have hTL := Lib.hid (hTp.out.length_eq.symm.trans hT)
          have COf := Lib.hid (proOf_any wr w.heap.size k ob L hU.out.st.pp a ha)
          rw [ho, ← hF.out] at COf
          have CSm := Lib.hid (fun (u : World) (q : Below wr.heap.size wr u) => proSum_any u w.heap.size k ob L (hU.out.st.pp.below q) hL60.out hbL.out)
          rw [hsm] at CSm
          simp only at CSm
          have CTp := Lib.hid (fun (u : World) (q : Below wr.heap.size wr u) => proTop_any u w.heap.size k ob L (hU.out.st.pp.below q) hL60.out many)
          have CCl := Lib.hid (fun (u : World) (q : Below wr.heap.size wr u) => proClear_any u w.heap.size k ob L (hU.out.st.pp.below q))
          have EQo := neq_sps o
          have EQs := neq_sps ⟨0, m1, m2, m3⟩
          have EQz := eql_sps ⟨0, 0, 0, 0⟩
          simp only [spV] at EQo EQs EQz
          have EQF : ∀ u : World, (binOp .neq 4 (.bool F) (.bool F)).run Try.prog u = .ok (.bool false) u := fun u => by cases F <;> kernel_rfl
          have hFF : (F != F) = false := by simp
          have hFF2 : (F == F) = true := by simp
          have hsl := fun u => slice_hSp u At T ct (topK many T) (by unfold topK; omega)
          rw [show ((topK many T : Nat) : Int) = min (max many 0) (T : Int) by unfold topK; omega] at hsl
          simp only [sliced_zero] at hsl
          clear eL hsm ho hT hF
          go_wp2_with fail
          refine COf.out.mono ?_
          rintro e w1 ⟨rfl, hb1⟩
          have HB1 := Lib.hid hb1
          obtain ⟨q16, hq16⟩ : ∃ q, w1.heap.size = q := ⟨_, rfl⟩
          have K16 := Blk.new w1 35 (cellsSp o.a o.t o.c o.l) (0, 0)
          rw [hq16] at K16
          have HK16 := Lib.hid K16
          have HBA := Lib.hid (Below.alloc0 hb1 (Obj.cells (cellsSp o.a o.t o.c o.l) 35))
          clear hb1 K16 COf
          go_upto_region 28 with (fail)
          clear hq16
          generalize w1.alloc (Obj.cells (cellsSp o.a o.t o.c o.l) 35) = W1 at HK16 HBA ⊢
          have HU1 := Lib.hid (hU.out.below HBA.out)
          have SX : Hid (∀ wx, Below W1.heap.size W1 wx → (fun w' : World => (w'.cell? ⟨q16, 0, none⟩ = some (.int .u16 o.a) ∧ w'.cell? ⟨q16, 1, none⟩ = some (.int .i64 o.t) ∧ w'.cell? ⟨q16, 2, none⟩ = some (.int .i64 o.c) ∧ w'.cell? ⟨q16, 3, none⟩ = some (.int .i64 o.l)) ∧ (w'.cell? ⟨g + 1, 0, none⟩ = some (.int .u16 o.a) ∧ w'.cell? ⟨g + 1, 1, none⟩ = some (.int .i64 o.t) ∧ w'.cell? ⟨g + 1, 2, none⟩ = some (.int .i64 o.c) ∧ w'.cell? ⟨g + 1, 3, none⟩ = some (.int .i64 o.l)) ∧ (w'.cell? ⟨g, 0, none⟩ = some (.int .u16 0) ∧ w'.cell? ⟨g, 1, none⟩ = some (.int .i64 m1) ∧ w'.cell? ⟨g, 2, none⟩ = some (.int .i64 m2) ∧ w'.cell? ⟨g, 3, none⟩ = some (.int .i64 m3))) wx) := Lib.hid (fun wx hb => by
            have q := HU1.out.below hb
            exact ⟨(HK16.out.below hb HK16.out.lt).c4, q.k2.c4, q.k1.c4⟩)
          have CEQ : Hid (∀ (u : World) (vt : Value) (top : List SpN), Below W1.heap.size W1 u → top.Perm L → OrdN top → eSp.Rd u vt (top.take (topK many L.length)) → Calls Try.prog 10 #[vt, .slice At (topK many T) ct] u fun e w' => e = .returned (.bool true) ∧ ∃ k, w' = u.drewN k) := Lib.hid (fun u vt top hb hp ho hr => by
            have e1 : top = Tp := OrdN.one ho hOr.out (hp.trans hTp.out.symm)
            subst e1
            rw [hTL.out] at hr
            have q := HU1.out.below hb
            have hr2 := Els.Rd.windowP q.top.rd hct 0 (topK many T) (Nat.zero_le _) (by unfold topK; omega)
            rw [show eSp.k = 4 from rfl, sliced_zero, List.drop_zero, Nat.sub_zero] at hr2
            have := spEq_any vt _ _ _ u hr hr2 (by rw [List.length_take]; have := hTL.out; have := hL60.out; unfold topK; omega)
            rw [eqB_self] at this
            exact this)
          have HTW : Hid (∀ u, Below W1.heap.size W1 u → Below wr.heap.size wr u) := Lib.hid (fun u hb => Below.trans0 HBA.out hb)
          refine wp_region_noPanic ?_
          refine wp_region_held_drew (S := (fun w' : World => (w'.cell? ⟨q16, 0, none⟩ = some (.int .u16 o.a) ∧ w'.cell? ⟨q16, 1, none⟩ = some (.int .i64 o.t) ∧ w'.cell? ⟨q16, 2, none⟩ = some (.int .i64 o.c) ∧ w'.cell? ⟨q16, 3, none⟩ = some (.int .i64 o.l)) ∧ (w'.cell? ⟨g + 1, 0, none⟩ = some (.int .u16 o.a) ∧ w'.cell? ⟨g + 1, 1, none⟩ = some (.int .i64 o.t) ∧ w'.cell? ⟨g + 1, 2, none⟩ = some (.int .i64 o.c) ∧ w'.cell? ⟨g + 1, 3, none⟩ = some (.int .i64 o.l)) ∧ (w'.cell? ⟨g, 0, none⟩ = some (.int .u16 0) ∧ w'.cell? ⟨g, 1, none⟩ = some (.int .i64 m1) ∧ w'.cell? ⟨g, 2, none⟩ = some (.int .i64 m2) ∧ w'.cell? ⟨g, 3, none⟩ = some (.int .i64 m3)))) (by kernel_rfl) ?_ (fun hH0 => ?_)
          · (try dsimp only); with_reducible exact SX.out _ (Below.drew0 (Below.refl _ _))
          refine wpAnyH_take (i := 0) (oi := ({ dst := some 135, op := Op.load 35 (Operand.tmp 16), type := 35, pos := "law.go:81", after := #[], guard := none } : Oper)) (v := ?_) rfl (by kernel_rfl) (by kernel_rfl) (by kernel_rfl) (fun _ _ _ h => h) (Or.inl ⟨by rfl, ?_⟩) (by assumption) ?_
          rotate_left 1
          · (intro w hSw; (try dsimp only at hSw); go_simp; (try with_reducible rfl))
          (try simp only [Act.put, List.setIfInBounds_toArray, List.set_cons_zero, List.set_cons_succ])
          refine wpAnyH_take (i := 1) (oi := ({ dst := some 136, op := Op.load 35 (Operand.tmp 11), type := 35, pos := "law.go:81", after := #[], guard := none } : Oper)) (v := ?_) rfl (by kernel_rfl) (by kernel_rfl) (by kernel_rfl) (fun _ _ _ h => h) (Or.inl ⟨by rfl, ?_⟩) (by assumption) ?_
          rotate_left 1
          · (intro w hSw; (try dsimp only at hSw); go_simp; (try with_reducible rfl))
          (try simp only [Act.put, List.setIfInBounds_toArray, List.set_cons_zero, List.set_cons_succ])
          refine wpAnyH_take (i := 2) (oi := ({ dst := some 137, op := Op.binOp BinOp.neq 35 (Operand.tmp 135) (Operand.tmp 136) 35, type := 4, pos := "law.go:81", after := #[{ on := 0, ground := Ground.data }, { on := 1, ground := Ground.data }], guard := none } : Oper)) (v := ?_) rfl (by kernel_rfl) (by kernel_rfl) (by kernel_rfl) (fun _ _ _ h => h) (Or.inl ⟨by rfl, ?_⟩) (by assumption) ?_
          rotate_left 1
          · (intro w hSw; (try dsimp only at hSw); go_simp; (try with_reducible rfl))
          (try simp only [Act.put, List.setIfInBounds_toArray, List.set_cons_zero, List.set_cons_succ])
          refine wpAnyH_take (i := 3) (oi := ({ dst := some 138, op := Op.move (Operand.tmp 137), type := 4, pos := "law.go:81", after := #[{ on := 2, ground := Ground.data }], guard := none } : Oper)) (v := ?_) rfl (by kernel_rfl) (by kernel_rfl) (by kernel_rfl) (fun _ _ _ h => h) (Or.inl ⟨by rfl, ?_⟩) (by assumption) ?_
          rotate_left 1
          · (intro w hSw; (try dsimp only at hSw); go_simp; (try with_reducible rfl))
          (try simp only [Act.put, List.setIfInBounds_toArray, List.set_cons_zero, List.set_cons_succ])
          refine wpAnyH_take (i := 4) (oi := ({ dst := some 139, op := Op.move (Operand.tmp 17), type := 4, pos := "law.go:81", after := #[{ on := 3, ground := Ground.guard }], guard := some (3, false) } : Oper)) (v := ?_) rfl (by kernel_rfl) (by kernel_rfl) (by kernel_rfl) (fun _ _ _ h => h) (Or.inl ⟨by rfl, ?_⟩) (by assumption) ?_
          rotate_left 1
          · (intro w hSw; (try dsimp only at hSw); go_simp; (try with_reducible rfl))
          (try simp only [Act.put, List.setIfInBounds_toArray, List.set_cons_zero, List.set_cons_succ])
          refine wpAnyH_take (i := 5) (oi := ({ dst := some 140, op := Op.move (Operand.tmp 13), type := 4, pos := "law.go:81", after := #[{ on := 3, ground := Ground.guard }], guard := some (3, false) } : Oper)) (v := ?_) rfl (by kernel_rfl) (by kernel_rfl) (by kernel_rfl) (fun _ _ _ h => h) (Or.inl ⟨by rfl, ?_⟩) (by assumption) ?_
          rotate_left 1
          · (intro w hSw; (try dsimp only at hSw); go_simp; (try with_reducible rfl))
          (try simp only [Act.put, List.setIfInBounds_toArray, List.set_cons_zero, List.set_cons_succ])
          refine wpAnyH_take (i := 6) (oi := ({ dst := some 141, op := Op.binOp BinOp.neq 4 (Operand.tmp 139) (Operand.tmp 140) 4, type := 4, pos := "law.go:81", after := #[{ on := 4, ground := Ground.data }, { on := 5, ground := Ground.data }, { on := 3, ground := Ground.guard }], guard := some (3, false) } : Oper)) (v := ?_) rfl (by kernel_rfl) (by kernel_rfl) (by kernel_rfl) (fun _ _ _ h => h) (Or.inl ⟨by rfl, ?_⟩) (by assumption) ?_
          rotate_left 1
          · (intro w hSw; (try dsimp only at hSw); go_simp; (try with_reducible rfl))
          (try simp only [Act.put, List.setIfInBounds_toArray, List.set_cons_zero, List.set_cons_succ])
          refine wpAnyH_take (i := 7) (oi := ({ dst := some 142, op := Op.pick (Operand.tmp 138) (Operand.const (Value.bool true)) (Operand.tmp 141), type := 4, pos := "law.go:81", after := #[{ on := 3, ground := Ground.data }, { on := 6, ground := Ground.data }], guard := none } : Oper)) (v := ?_) rfl (by kernel_rfl) (by kernel_rfl) (by kernel_rfl) (fun _ _ _ h => h) (Or.inl ⟨by rfl, ?_⟩) (by assumption) ?_
          rotate_left 1
          · (intro w hSw; (try dsimp only at hSw); go_simp; (try with_reducible rfl))
          (try simp only [Act.put, List.setIfInBounds_toArray, List.set_cons_zero, List.set_cons_succ])
          refine wpAnyH_take (i := 8) (oi := ({ dst := some 143, op := Op.move (Operand.tmp 142), type := 4, pos := "law.go:81", after := #[{ on := 7, ground := Ground.data }, { on := 3, ground := Ground.chain }], guard := none } : Oper)) (v := ?_) rfl (by kernel_rfl) (by kernel_rfl) (by kernel_rfl) (fun _ _ _ h => h) (Or.inl ⟨by rfl, ?_⟩) (by assumption) ?_
          rotate_left 1
          · (intro w hSw; (try dsimp only at hSw); go_simp; (try with_reducible rfl))
          (try simp only [Act.put, List.setIfInBounds_toArray, List.set_cons_zero, List.set_cons_succ])
          refine wpAnyH_take (i := 9) (oi := ({ dst := some 144, op := Op.move (Operand.tmp 7), type := 24, pos := "law.go:81", after := #[{ on := 8, ground := Ground.guard }], guard := some (8, false) } : Oper)) (v := ?_) rfl (by kernel_rfl) (by kernel_rfl) (by kernel_rfl) (fun _ _ _ h => h) (Or.inl ⟨by rfl, ?_⟩) (by assumption) ?_
          rotate_left 1
          · (intro w hSw; (try dsimp only at hSw); go_simp; (try with_reducible rfl))
          (try simp only [Act.put, List.setIfInBounds_toArray, List.set_cons_zero, List.set_cons_succ])
          refine wpAnyH_take (i := 11) (oi := ({ dst := some 146, op := Op.load 35 (Operand.tmp 10), type := 35, pos := "law.go:81", after := #[{ on := 8, ground := Ground.guard }], guard := some (8, false) } : Oper)) (v := ?_) rfl (by kernel_rfl) (by kernel_rfl) (by kernel_rfl) (fun _ _ _ h => h) (Or.inl ⟨by rfl, ?_⟩) (by assumption) ?_
          rotate_left 1
          · (intro w hSw; (try dsimp only at hSw); go_simp; (try with_reducible rfl))
          (try simp only [Act.put, List.setIfInBounds_toArray, List.set_cons_zero, List.set_cons_succ])
          refine wpAnyH_ready (rs := [10]) (by kernel_rfl) (by simp) ?_
          refine AllReadyH.cons (o := ({ dst := some 145, op := Op.call { callee := Callee.value (Operand.func 9), args := #[Operand.tmp 144], argTypes := #[24] }, type := 35, pos := "law.go:81", after := #[{ on := 9, ground := Ground.data }, { on := 8, ground := Ground.chain }, { on := 8, ground := Ground.guard }], guard := some (8, false) } : Oper)) rfl (fun K hK => ?_) ?_
          rotate_left 1
          · exact AllReadyH.nil
          go_simp
          go_at_call 9
          ((refine (CSm.out _ (HTW.out _ (Below.drew0 (Below.refl _ _)))).mono ?_); rintro e w2 ⟨rfl, hb2⟩; have B2 : Hid (Below W1.heap.size W1 w2) := Lib.hid (Below.trans0 (Below.drew0 (Below.refl _ _)) hb2); clear hb2)
          first | (refine hK.out _ _ ?_ (fun hH1 => ?_)) | (go_wp2_with fail; refine hK.out _ _ ?_ (fun hH1 => ?_))
          · (try dsimp only); with_reducible exact SX.out _ B2.out
          clear hK K hH0
          (try simp only [Act.put, List.setIfInBounds_toArray, List.set_cons_zero, List.set_cons_succ])
          refine wpAnyH_take (i := 12) (oi := ({ dst := some 147, op := Op.binOp BinOp.neq 35 (Operand.tmp 145) (Operand.tmp 146) 35, type := 4, pos := "law.go:81", after := #[{ on := 10, ground := Ground.data }, { on := 11, ground := Ground.data }, { on := 8, ground := Ground.guard }], guard := some (8, false) } : Oper)) (v := ?_) rfl (by kernel_rfl) (by kernel_rfl) (by kernel_rfl) (fun _ _ _ h => h) (Or.inl ⟨by rfl, ?_⟩) (by assumption) ?_
          rotate_left 1
          · (intro w hSw; (try dsimp only at hSw); go_simp; (try with_reducible rfl))
          (try simp only [Act.put, List.setIfInBounds_toArray, List.set_cons_zero, List.set_cons_succ])
          refine wpAnyH_take (i := 13) (oi := ({ dst := some 148, op := Op.pick (Operand.tmp 143) (Operand.const (Value.bool true)) (Operand.tmp 147), type := 4, pos := "law.go:81", after := #[{ on := 8, ground := Ground.data }, { on := 12, ground := Ground.data }], guard := none } : Oper)) (v := ?_) rfl (by kernel_rfl) (by kernel_rfl) (by kernel_rfl) (fun _ _ _ h => h) (Or.inl ⟨by rfl, ?_⟩) (by assumption) ?_
          rotate_left 1
          · (intro w hSw; (try dsimp only at hSw); go_simp; (try with_reducible rfl))
          (try simp only [Act.put, List.setIfInBounds_toArray, List.set_cons_zero, List.set_cons_succ])
          refine wpAnyH_take (i := 14) (oi := ({ dst := some 149, op := Op.move (Operand.tmp 148), type := 4, pos := "law.go:81", after := #[{ on := 13, ground := Ground.data }, { on := 10, ground := Ground.chain }], guard := none } : Oper)) (v := ?_) rfl (by kernel_rfl) (by kernel_rfl) (by kernel_rfl) (fun _ _ _ h => h) (Or.inl ⟨by rfl, ?_⟩) (by assumption) ?_
          rotate_left 1
          · (intro w hSw; (try dsimp only at hSw); go_simp; (try with_reducible rfl))
          (try simp only [Act.put, List.setIfInBounds_toArray, List.set_cons_zero, List.set_cons_succ])
          refine wpAnyH_take (i := 15) (oi := ({ dst := some 150, op := Op.move (Operand.tmp 7), type := 24, pos := "law.go:81", after := #[{ on := 14, ground := Ground.guard }], guard := some (14, false) } : Oper)) (v := ?_) rfl (by kernel_rfl) (by kernel_rfl) (by kernel_rfl) (fun _ _ _ h => h) (Or.inl ⟨by rfl, ?_⟩) (by assumption) ?_
          rotate_left 1
          · (intro w hSw; (try dsimp only at hSw); go_simp; (try with_reducible rfl))
          (try simp only [Act.put, List.setIfInBounds_toArray, List.set_cons_zero, List.set_cons_succ])
          refine wpAnyH_take (i := 16) (oi := ({ dst := some 151, op := Op.move (Operand.tmp 2), type := 3, pos := "law.go:81", after := #[{ on := 14, ground := Ground.guard }], guard := some (14, false) } : Oper)) (v := ?_) rfl (by kernel_rfl) (by kernel_rfl) (by kernel_rfl) (fun _ _ _ h => h) (Or.inl ⟨by rfl, ?_⟩) (by assumption) ?_
          rotate_left 1
          · (intro w hSw; (try dsimp only at hSw); go_simp; (try with_reducible rfl))
          (try simp only [Act.put, List.setIfInBounds_toArray, List.set_cons_zero, List.set_cons_succ])
          refine wpAnyH_take (i := 18) (oi := ({ dst := some 153, op := Op.move (Operand.tmp 12), type := 28, pos := "law.go:81", after := #[{ on := 14, ground := Ground.guard }], guard := some (14, false) } : Oper)) (v := ?_) rfl (by kernel_rfl) (by kernel_rfl) (by kernel_rfl) (fun _ _ _ h => h) (Or.inl ⟨by rfl, ?_⟩) (by assumption) ?_
          rotate_left 1
          · (intro w hSw; (try dsimp only at hSw); go_simp; (try with_reducible rfl))
          (try simp only [Act.put, List.setIfInBounds_toArray, List.set_cons_zero, List.set_cons_succ])
          refine wpAnyH_take (i := 19) (oi := ({ dst := some 154, op := Op.move (Operand.tmp 2), type := 3, pos := "law.go:81", after := #[{ on := 14, ground := Ground.guard }], guard := some (14, false) } : Oper)) (v := ?_) rfl (by kernel_rfl) (by kernel_rfl) (by kernel_rfl) (fun _ _ _ h => h) (Or.inl ⟨by rfl, ?_⟩) (by assumption) ?_
          rotate_left 1
          · (intro w hSw; (try dsimp only at hSw); go_simp; (try with_reducible rfl))
          (try simp only [Act.put, List.setIfInBounds_toArray, List.set_cons_zero, List.set_cons_succ])
          refine wpAnyH_take (i := 20) (oi := ({ dst := some 155, op := Op.call { callee := Callee.builtin Builtin.max, args := #[Operand.tmp 154, Operand.const (Value.int IntKind.i64 0)], argTypes := #[3, 3] }, type := 3, pos := "law.go:81", after := #[{ on := 19, ground := Ground.data }, { on := 14, ground := Ground.guard }], guard := some (14, false) } : Oper)) (v := ?_) rfl (by kernel_rfl) (by kernel_rfl) (by kernel_rfl) (fun _ _ _ h => h) (Or.inl ⟨by rfl, ?_⟩) (by assumption) ?_
          rotate_left 1
          · (intro w hSw; (try dsimp only at hSw); go_simp; (try with_reducible rfl))
          (try simp only [Act.put, List.setIfInBounds_toArray, List.set_cons_zero, List.set_cons_succ])
          refine wpAnyH_take (i := 21) (oi := ({ dst := some 156, op := Op.move (Operand.tmp 12), type := 28, pos := "law.go:81", after := #[{ on := 14, ground := Ground.guard }], guard := some (14, false) } : Oper)) (v := ?_) rfl (by kernel_rfl) (by kernel_rfl) (by kernel_rfl) (fun _ _ _ h => h) (Or.inl ⟨by rfl, ?_⟩) (by assumption) ?_
          rotate_left 1
          · (intro w hSw; (try dsimp only at hSw); go_simp; (try with_reducible rfl))
          (try simp only [Act.put, List.setIfInBounds_toArray, List.set_cons_zero, List.set_cons_succ])
          refine wpAnyH_take (i := 22) (oi := ({ dst := some 157, op := Op.call { callee := Callee.builtin Builtin.len, args := #[Operand.tmp 156], argTypes := #[28] }, type := 3, pos := "law.go:81", after := #[{ on := 21, ground := Ground.data }, { on := 14, ground := Ground.guard }], guard := some (14, false) } : Oper)) (v := ?_) rfl (by kernel_rfl) (by kernel_rfl) (by kernel_rfl) (fun _ _ _ h => h) (Or.inl ⟨by rfl, ?_⟩) (by assumption) ?_
          rotate_left 1
          · (intro w hSw; (try dsimp only at hSw); go_simp; (try with_reducible rfl))
          (try simp only [Act.put, List.setIfInBounds_toArray, List.set_cons_zero, List.set_cons_succ])
          refine wpAnyH_take (i := 23) (oi := ({ dst := some 158, op := Op.call { callee := Callee.builtin Builtin.min, args := #[Operand.tmp 155, Operand.tmp 157], argTypes := #[3, 3] }, type := 3, pos := "law.go:81", after := #[{ on := 20, ground := Ground.data }, { on := 22, ground := Ground.data }, { on := 14, ground := Ground.guard }], guard := some (14, false) } : Oper)) (v := ?_) rfl (by kernel_rfl) (by kernel_rfl) (by kernel_rfl) (fun _ _ _ h => h) (Or.inl ⟨by rfl, ?_⟩) (by assumption) ?_
          rotate_left 1
          · (intro w hSw; (try dsimp only at hSw); go_simp; (try with_reducible rfl))
          (try simp only [Act.put, List.setIfInBounds_toArray, List.set_cons_zero, List.set_cons_succ])
          refine wpAnyH_take (i := 24) (oi := ({ dst := some 159, op := Op.slice 28 (Operand.tmp 153) none (some (Operand.tmp 158)) none, type := 28, pos := "law.go:81", after := #[{ on := 18, ground := Ground.data }, { on := 23, ground := Ground.data }, { on := 14, ground := Ground.guard }], guard := some (14, false) } : Oper)) (v := ?_) rfl (by kernel_rfl) (by kernel_rfl) (by kernel_rfl) (fun _ _ _ h => h) (Or.inl ⟨by rfl, ?_⟩) (by assumption) ?_
          rotate_left 1
          · (intro w hSw; (try dsimp only at hSw); go_simp; (try with_reducible rfl))
          (try simp only [Act.put, List.setIfInBounds_toArray, List.set_cons_zero, List.set_cons_succ])
          refine wpAnyH_ready (rs := [17]) (by kernel_rfl) (by simp) ?_
          refine AllReadyH.cons (o := ({ dst := some 152, op := Op.call { callee := Callee.value (Operand.func 11), args := #[Operand.tmp 150, Operand.tmp 151], argTypes := #[24, 3] }, type := 28, pos := "law.go:81", after := #[{ on := 15, ground := Ground.data }, { on := 16, ground := Ground.data }, { on := 14, ground := Ground.chain }, { on := 14, ground := Ground.guard }], guard := some (14, false) } : Oper)) rfl (fun K hK => ?_) ?_
          rotate_left 1
          · exact AllReadyH.nil
          go_simp
          go_at_call 11
          ((refine (CTp.out _ (HTW.out _ B2.out)).mono ?_); rintro e w3 ⟨vt, top, rfl, hp3, ho3, hr3, hb3⟩; have B3 : Hid (Below W1.heap.size W1 w3) := Lib.hid (Below.trans0 B2.out hb3); have C3 := Lib.hid (CEQ.out w3 vt top B3.out hp3 ho3 hr3); clear hb3 hp3 ho3 hr3)
          first | (refine hK.out _ _ ?_ (fun hH2 => ?_)) | (go_wp2_with fail; refine hK.out _ _ ?_ (fun hH2 => ?_))
          · (try dsimp only); with_reducible exact SX.out _ B3.out
          clear hK K hH1
          (try simp only [Act.put, List.setIfInBounds_toArray, List.set_cons_zero, List.set_cons_succ])
          refine wpAnyH_ready (rs := [25]) (by kernel_rfl) (by simp) ?_
          refine AllReadyH.cons (o := ({ dst := some 160, op := Op.call { callee := Callee.value (Operand.func 10), args := #[Operand.tmp 152, Operand.tmp 159], argTypes := #[28, 28] }, type := 4, pos := "law.go:81", after := #[{ on := 17, ground := Ground.data }, { on := 24, ground := Ground.data }, { on := 17, ground := Ground.chain }, { on := 14, ground := Ground.guard }], guard := some (14, false) } : Oper)) rfl (fun K hK => ?_) ?_
          rotate_left 1
          · exact AllReadyH.nil
          go_simp
          go_at_call 10
          ((refine C3.out.mono ?_); rintro e w4 ⟨rfl, kd, rfl⟩; have B4 : Hid (Below W1.heap.size W1 (w3.drewN kd)) := Lib.hid (Below.drewN0 B3.out kd))
          first | (refine hK.out _ _ ?_ (fun hH3 => ?_)) | (go_wp2_with fail; refine hK.out _ _ ?_ (fun hH3 => ?_))
          · (try dsimp only); with_reducible exact SX.out _ B4.out
          clear hK K hH2
          (try simp only [Act.put, List.setIfInBounds_toArray, List.set_cons_zero, List.set_cons_succ])
          refine wpAnyH_take (i := 26) (oi := ({ dst := some 161, op := Op.unOp UnOp.not 4 (Operand.tmp 160), type := 4, pos := "law.go:81", after := #[{ on := 25, ground := Ground.data }, { on := 14, ground := Ground.guard }], guard := some (14, false) } : Oper)) (v := ?_) rfl (by kernel_rfl) (by kernel_rfl) (by kernel_rfl) (fun _ _ _ h => h) (Or.inl ⟨by rfl, ?_⟩) (by assumption) ?_
          rotate_left 1
          · (intro w hSw; (try dsimp only at hSw); go_simp; (try with_reducible rfl))
          (try simp only [Act.put, List.setIfInBounds_toArray, List.set_cons_zero, List.set_cons_succ])
          refine wpAnyH_take (i := 27) (oi := ({ dst := some 162, op := Op.pick (Operand.tmp 149) (Operand.const (Value.bool true)) (Operand.tmp 161), type := 4, pos := "law.go:81", after := #[{ on := 14, ground := Ground.data }, { on := 26, ground := Ground.data }], guard := none } : Oper)) (v := ?_) rfl (by kernel_rfl) (by kernel_rfl) (by kernel_rfl) (fun _ _ _ h => h) (Or.inl ⟨by rfl, ?_⟩) (by assumption) ?_
          rotate_left 1
          · (intro w hSw; (try dsimp only at hSw); go_simp; (try with_reducible rfl))
          (try simp only [Act.put, List.setIfInBounds_toArray, List.set_cons_zero, List.set_cons_succ])
          refine wpAnyH_done (by kernel_rfl) ?_ _
          refine NoPanic.normal ?_
          clear SX CEQ C3 B2 B3 CTp CSm EQo EQs EQF hsl
          generalize w3.drewN kd = w5 at B4 ⊢
          have CC := Lib.hid (CCl.out w5 (HTW.out _ B4.out))
          have HB5 := Lib.hid (Below.trans0 HU1.out.st.bel B4.out)
          have hat := Lib.hid hU.out.st.at_
          clear B4 HTW HU1 CCl hU hTp hOr HK16 HBA HB1
          go_wp2_with fail
          refine CC.out.mono ?_
          rintro e w6 ⟨rfl, hP6, hT6⟩
          have HB6 := Lib.hid (below_turned HB5.out hT6 (Nat.le_refl _) hat.out).1
          have COf2 := Lib.hid (proOf_any w6 w.heap.size k ob [] hP6 a ha)
          rw [show ofN [] a = ⟨0, 0, 0, 0⟩ from rfl, show (lkS [] a).isSome = false from rfl] at COf2
          simp only at COf2
          have CS2 := Lib.hid (fun (u : World) (q : Below w6.heap.size w6 u) => proSum_any u w.heap.size k ob [] (hP6.below q) (by decide) (fun x hx => by simp at hx))
          rw [show sumN [] = (0, 0, 0) from rfl] at CS2
          simp only at CS2
          have CT2 := Lib.hid (fun (u : World) (q : Below w6.heap.size w6 u) => proTop_any u w.heap.size k ob [] (hP6.below q) (by decide) 99)
          clear hP6 hT6 CC HB5
          go_wp2_with fail
          refine COf2.out.mono ?_
          rintro e w7 ⟨rfl, hb7⟩
          have B7 := Lib.hid (Below.alloc0 hb7 (Obj.cells (cellsSp 0 0 0 0) 35))
          have CSa := Lib.hid (CS2.out _ B7.out)
          clear hb7 COf2 CS2
          go_wp2_with fail
          refine CSa.out.mono ?_
          rintro e w8 ⟨rfl, hb8⟩
          have B8 := Lib.hid (Below.trans0 B7.out hb8)
          have CTa := Lib.hid (CT2.out _ B8.out)
          clear hb8 CSa B7 CT2
          go_wp2_with fail
          refine CTa.out.mono ?_
          rintro e w9 ⟨vt, top2, rfl, hp2, _, hr2, hb9⟩
          obtain rfl := List.Perm.eq_nil hp2
          obtain ⟨A9, c9, hv9, _⟩ := hr2.open_
          rw [List.take_nil] at hv9
          have hv9' : vt = .slice A9 0 c9 := hv9
          subst hv9'
          have B9 := Lib.hid (Below.trans0 B8.out hb9)
          have HAa := Lib.hid (HAL.out w9)
          clear hb9 hr2 hv9 hp2 B8 CTa
          go_wp2_with fail
          refine HAa.out.mono ?_
          rintro e w10 ⟨rfl, hb10⟩
          have B10 := Lib.hid (Below.trans0 HB6.out (Below.trans0 B9.out hb10))
          clear hb10
          go_wp2
          go_ret
          exact ⟨rfl, B10.out⟩
end Go.Proofs.Ytlgaedhbgkhmeaa
