/- Points at addresses: the law's hits; Cycle, Boundary; the library's Equal and Clone on points; All. -/
import Derived.Test.YteaajmoclgfhnaaWat
import Derived.Lib.SliceRun
namespace Go.Proofs.Yteaajmoclgfhnaa
open Go.ChangeShapes Go.WideShapes Go.ChangeAt Go.RowKit
set_option linter.unusedVariables false

set_option maxRecDepth 100000 in
set_option maxHeartbeats 4000000 in
theorem hits_any (v : Value) (P : List Pt) (kd a : Int) (w : World) (hr : eP.Rd w v P) (hn : P.length ≤ 1000) :
    Calls Try.prog 17 #[v, .int .i64 kd, .int .u16 a] w (GivesI (hitsL P kd a) w) := by
  obtain ⟨A, c, rfl, hc⟩ := hr.open_
  obtain ⟨n, hl⟩ : ∃ n, P.length = n := ⟨_, rfl⟩
  rw [hl] at hc hn ⊢
  have HL := Lib.hid hl
  have HC := Lib.hid hc
  clear hr hc hl
  go_enter Try.func17, Try.ntmps17
  go_wp2
  go_loopw [7, 8] (fun u7 i wr => ∃ k : Nat, k ≤ n ∧ i = .int .i64 k ∧ Hid (eI.Own 3 wr w.heap.size u7 (hitsL (P.take k) kd a)) ∧ Hid (Below w.heap.size w wr)) (fun _ i _ => n - (intOf i).toNat)
  case atStart => exact ⟨0, Nat.zero_le _, rfl, Lib.hid (Els.Own.nil_ _ _), Lib.hid (Below.refl _ _)⟩
  case round =>
    obtain ⟨k, hk, rfl, hO, hB⟩ := hrel
    by_cases hlt : k < n
    · obtain ⟨g, off, rfl, hg, hcell⟩ := HC.out (by omega)
      have hkl : k < P.length := by rw [HL.out]; exact hlt
      have CE := hcell k _ (List.getElem?_eq_getElem hkl)
      have NX := Lib.hid (show hitsL (P.take (k + 1)) kd a = _ from (by rw [takeP P k hkl] : hitsL (P.take (k + 1)) kd a = hitsL (P.take k ++ [P[k]]) kd a).trans (hitsL_next _ _ _ _))
      have LK : Hid ((hitsL (P.take k) kd a).length ≤ 1000) := Lib.hid (by have := hitsL_len (P.take k) kd a; rw [List.length_take] at this; omega)
      generalize P[k] = x at CE NX
      generalize hitsL (P.take k) kd a = H at hO NX LK
      obtain ⟨q0, q1, q2, q3⟩ := pt4_at hB.out hg CE
      have z0 := pt4_at (Below.alloc0 hB.out (Obj.cells #[.int .i64 x.n] 3)) hg CE
      have k0 : (0 : Int) ≤ (k : Int) := by omega
      have k1 : (k : Int) < (n : Int) := by omega
      obtain ⟨pn, pk, pf, pt⟩ := x
      simp only at q0 q1 q2 q3
      clear hcell hkl CE z0
      obtain ⟨T1, h1⟩ : ∃ T, (pk == kd) = T := ⟨_, rfl⟩
      obtain ⟨T2, h2⟩ : ∃ T, decide (pf ≤ a) = T := ⟨_, rfl⟩
      obtain ⟨T3, h3⟩ : ∃ T, decide (a ≤ pt) = T := ⟨_, rfl⟩
      have HH : Hid (hitB kd a ⟨pn, pk, pf, pt⟩ = (T1 && (T2 && T3))) := Lib.hid (by unfold hitB; rw [h1, h2, h3])
      rw [HH.out] at NX
      clear HH
      cases T1
      case false =>
        go_wp2
        go_roundw
        case rel => exact ⟨k + 1, by omega, by go_num, Lib.hid (by rw [NX.out]; simpa using hO.out), hB⟩
        case measure => simp [intOf]; omega
      case true =>
        cases T2
        case false =>
          go_wp2
          go_roundw
          case rel => exact ⟨k + 1, by omega, by go_num, Lib.hid (by rw [NX.out]; simpa using hO.out), hB⟩
          case measure => simp [intOf]; omega
        case true =>
          cases T3
          case false =>
            go_wp2
            go_roundw
            case rel => exact ⟨k + 1, by omega, by go_num, Lib.hid (by rw [NX.out]; simpa using hO.out), hB⟩
            case measure => simp [intOf]; omega
          case true =>
            have HO2 := Lib.hid (Els.Own.alloc hO.out (Obj.cells #[.int .i64 pn] 3))
            have HB2 := Lib.hid (Below.alloc0 hB.out (Obj.cells #[.int .i64 pn] 3))
            go_wp2_with (at_builtin; refine wpList_appI rfl _ (.tmp 40) (.tmp 46) rfl w.heap.size u7 _ H [pn] rfl HO2.out rfl (Els.Rd.new (E := eI) _ rfl 3 [pn] #[.int .i64 pn] 1 rfl rfl 1) (by have := LK.out; simp; omega) (by have := HB2.out.size; simpa using this) ?_; intro v' w4 hown hbel hgr hwh)
            have HO4 : Hid (eI.Own 3 w4 w.heap.size v' (hitsL (P.take (k + 1)) kd a)) := Lib.hid (by rw [NX.out]; exact hown)
            have HB4 := Lib.hid (HB2.out.trans hbel)
            clear hown hbel hgr hwh
            go_wp2
            go_roundw
            case rel => exact ⟨k + 1, by omega, by go_num, HO4, HB4⟩
            case measure => simp [intOf]; omega
    · obtain rfl : k = n := by omega
      rw [List.take_of_length_le (by rw [HL.out]; exact Nat.le_refl _)] at hO
      go_wp2
      go_ret
      exact ⟨_, rfl, hO.out, hB.out⟩
theorem givesI_more {L : List Int} {w w1 : World} {e : Ending} {w' : World} (h : GivesI L w1 e w') (hb : Below w.heap.size w w1) : GivesI L w e w' := by
  obtain ⟨v, rfl, ho, h2⟩ := h
  exact ⟨v, rfl, Els.Own.more ho hb.size, Below.trans0 hb h2⟩
set_option maxRecDepth 100000 in
set_option maxHeartbeats 2000000 in
theorem cycle_any (g : Nat) (v : Value) (la : Int) (P : List Pt) (x : Rc) (w : World) (hb : Blk w g 49 #[v, .int .i64 la]) (hr : eP.Rd w v P) (hn : P.length ≤ 1000) :
    Calls Try.prog 19 #[.pointer (some ⟨g, 0, none⟩), .agg x.cells] w (GivesI (bif x.m then (bif x.r then hitsL P 0 x.a else hitsL P 1 x.a) else []) w) := by
  have HB := Lib.hid (Below.alloc0 (Below.refl w.heap.size w) (Obj.cells x.cells 25))
  have CM := Lib.hid (fun kd => met_any g v la P kd x.a (w.alloc (Obj.cells x.cells 25)) (Blk.alloc hb _) (Els.Rd.alloc hr _) hn)
  obtain ⟨a, d, r, b1, b2, b3, b4, b5, m⟩ := x
  simp only at CM
  simp only
  clear hb hr
  cases m
  case false =>
    go_enter Try.func19, Try.ntmps19
    go_wp2
    go_ret
    exact ⟨_, rfl, Els.Own.nil_ _ _, HB.out⟩
  case true =>
    cases r
    all_goals
      go_enter Try.func19, Try.ntmps19
      go_wp2_with fail
      refine (CM.out _).mono ?_
      rintro e w2 h
      obtain ⟨v2, rfl, ho, hb⟩ := givesI_more h HB.out
      have HO := Lib.hid ho
      have HB2 := Lib.hid hb
      clear ho hb h
      go_wp2
      go_ret
      exact ⟨_, rfl, HO.out, HB2.out⟩
set_option maxRecDepth 100000 in
theorem boundary_any (g : Nat) (v : Value) (la : Int) (P : List Pt) (a : Int) (w : World) (hb : Blk w g 49 #[v, .int .i64 la]) (hr : eP.Rd w v P) (hn : P.length ≤ 1000) :
    Calls Try.prog 20 #[.pointer (some ⟨g, 0, none⟩), .int .u16 a] w (GivesI (hitsL P 2 a) w) := by
  have CM := Lib.hid (met_any g v la P 2 a w hb hr hn)
  clear hb hr
  go_enter Try.func20, Try.ntmps20
  go_wp2_with fail
  refine CM.out.mono ?_
  rintro e w2 ⟨v2, rfl, ho, hb⟩
  have HO := Lib.hid ho
  have HB2 := Lib.hid hb
  clear ho hb
  go_wp2
  go_ret
  exact ⟨_, rfl, HO.out, HB2.out⟩
theorem neq_ptS (n k f t : Int) (w : World) : (binOp .neq 88 (.agg #[.int .i64 n, .int .i64 k, .int .u16 f, .int .u16 t]) (.agg #[.int .i64 n, .int .i64 k, .int .u16 f, .int .u16 t])).run Try.prog w = .ok (.bool false) w := by
  have e1 : (n == n) = true := by simp
  have e2 : (k == k) = true := by simp
  have e3 : (f == f) = true := by simp
  have e4 : (t == t) = true := by simp
  go_simp
set_option maxRecDepth 100000 in
set_option maxHeartbeats 1000000 in
theorem eqP_same (v v' : Value) (l : List Pt) (w : World) (h : eP.Rd w v l) (h' : eP.Rd w v' l) (hn : l.length ≤ 1000000) :
    Calls Try.prog 44 #[v, v'] w fun e w' => e = .returned (.bool true) ∧ Below w.heap.size w w' := by
  obtain ⟨A, c, rfl, hc⟩ := h.open_
  obtain ⟨A', c', rfl, hc'⟩ := h'.open_
  obtain ⟨n, hl⟩ : ∃ n, l.length = n := ⟨_, rfl⟩
  rw [hl] at hc hc' hn ⊢
  have HL := Lib.hid hl
  have H := Lib.hid hc
  have H' := Lib.hid hc'
  clear h h' hc hc' hl
  go_enter Try.func44, Try.ntmps44
  go_wp2
  go_loopw [13] (fun i wr => ∃ k : Nat, k ≤ n ∧ i = .int .i64 k ∧ ∃ j, wr = w.drewN j) (fun i _ => n - (intOf i).toNat)
  case atStart => exact ⟨0, Nat.zero_le _, rfl, 0, rfl⟩
  case round =>
    obtain ⟨k, hk, rfl, j, rfl⟩ := hrel
    by_cases hlt : k < n
    · obtain ⟨b, off, rfl, hb, hcell⟩ := H.out (by omega)
      obtain ⟨b', off', rfl, hb', hcell'⟩ := H'.out (by omega)
      have hkl : k < l.length := by rw [HL.out]; exact hlt
      have CE := hcell k _ (List.getElem?_eq_getElem hkl)
      have CE' := hcell' k _ (List.getElem?_eq_getElem hkl)
      generalize l[k] = x at CE CE'
      obtain ⟨pn, pk, pf, pt⟩ := x
      obtain ⟨d0, d1, d2, d3⟩ := pt4_at (x := ⟨pn, pk, pf, pt⟩) (Below.refl w.heap.size w) hb CE
      obtain ⟨f0, f1, f2, f3⟩ := pt4_at (x := ⟨pn, pk, pf, pt⟩) (Below.refl w.heap.size w) hb' CE'
      simp only at d0 d1 d2 d3 f0 f1 f2 f3
      have hE := neq_ptS pn pk pf pt
      have k0 : (0 : Int) ≤ (k : Int) := by omega
      have k1 : (k : Int) < (n : Int) := by omega
      clear hcell hcell' CE CE' hkl
      go_wp2
      go_quiet (fail)
      go_wp2
      go_roundw
      case rel => exact ⟨k + 1, by omega, by go_num, _, rfl⟩
      case measure => simp [intOf]; omega
    · go_wp2
      go_ret
      exact ⟨rfl, Below.drewN0 (Below.refl _ _) _⟩
theorem infoP : (Try.prog.info? 88).map (fun i => (i.zero, i.size, i.bytes)) = some (some (.agg #[.int .i64 0, .int .i64 0, .int .u16 0, .int .u16 0]), 4, 24) := by kernel_rfl
theorem appP {o : Oper} {a : Act} {K : Act → World → Prop} {Q : Exit → Act → World → Prop} (w : World) (s x : Operand)
    (ho : o.op = .call { callee := .builtin .append, args := #[s, x], argTypes := #[47, 47] })
    (base : Nat) (v y : Value) (l m : List Pt) (hs : a.eval s = v) (hown : eP.Own 88 w base v l) (hx : a.eval x = y) (hr : eP.Rd w y m) (hn : l.length + m.length ≤ 1099511627776) (hbase : base ≤ w.heap.size)
    (h : ∀ v' w', eP.Own 88 w' base v' (l ++ m) → Below base w w' → w.grownBy w' v.ownBlock → (v'.ownBlock = v.ownBlock ∨ v'.ownBlock = some w.heap.size) → K (a.put o.dst v') w') : o.wp Try.prog a w K Q := by
  obtain ⟨i0, hi, hz0, hz1, hz2⟩ := info_parts infoP
  exact Els.app (E := eP) w s x 47 88 i0 _ 24 Try.underlying47 hi hz0 hz1 hz2 (by decide) rfl ho base v y l m hs hown hx hr hn hbase h
theorem wpList_appP {ops : Array Oper} {rest : List Oper} {o : Oper} {a : Act} {Q : Exit → Act → World → Prop} (hgd : o.guard = none) (w : World) (s x : Operand)
    (ho : o.op = .call { callee := .builtin .append, args := #[s, x], argTypes := #[47, 47] })
    (base : Nat) (v y : Value) (l m : List Pt) (hs : a.eval s = v) (hown : eP.Own 88 w base v l) (hx : a.eval x = y) (hr : eP.Rd w y m) (hn : l.length + m.length ≤ 1099511627776) (hbase : base ≤ w.heap.size)
    (h : ∀ v' w', eP.Own 88 w' base v' (l ++ m) → Below base w w' → w.grownBy w' v.ownBlock → (v'.ownBlock = v.ownBlock ∨ v'.ownBlock = some w.heap.size) → wpList Try.prog ops Q rest (a.put o.dst v') w') : wpList Try.prog ops Q (o :: rest) a w :=
  wpList_plain hgd fun _ hK => appP w s x ho base v y l m hs hown hx hr hn hbase fun v' w' h2 h3 h4 h5 => hK _ _ (h v' w' h2 h3 h4 h5)
theorem step_appP {ops : Array Oper} {o : Oper} {a : Act} {K : Act → World → Prop} {Q : Exit → Act → World → Prop} {E : Prop} (hgd : o.guard = none) (w : World) (s x : Operand)
    (ho : o.op = .call { callee := .builtin .append, args := #[s, x], argTypes := #[47, 47] })
    (base : Nat) (v y : Value) (l m : List Pt) (hs : a.eval s = v) (hown : eP.Own 88 w base v l) (hx : a.eval x = y) (hr : eP.Rd w y m) (hn : l.length + m.length ≤ 1099511627776) (hbase : base ≤ w.heap.size)
    (h : ∀ v' w', eP.Own 88 w' base v' (l ++ m) → Below base w w' → w.grownBy w' v.ownBlock → (v'.ownBlock = v.ownBlock ∨ v'.ownBlock = some w.heap.size) → K (a.put o.dst v') w') : if Region.wanted o (yielded ops a.tmps) = true then Oper.wp Try.prog o a w K Q else E := by
  rw [if_pos (by simp [Region.wanted, hgd])]
  exact appP w s x ho base v y l m hs hown hx hr hn hbase h
theorem isNilP (w : World) (A : Option Addr) (n c : Nat) : (binOp .eql 47 (.slice A n c) (.slice none 0 0)).run Try.prog w = .ok (.bool A.isNone) w := Lib.run_eql_slice_nil w _ _ A n c 0 0 Try.underlying47
theorem eP_nil {w : World} {v : Value} {l : List Pt} (h : eP.Rd w v l) : (v = .slice none 0 0 ∧ l = []) ∨ ∃ ad c, v = .slice (some ad) l.length c ∧ eP.Rd w (.slice (some ad) l.length c) l := by
  rcases h with h | ⟨ad, c, rfl, h1, h2⟩
  · exact .inl h
  · exact .inr ⟨ad, c, rfl, .inr ⟨ad, c, rfl, h1, h2⟩⟩
set_option maxRecDepth 100000 in
set_option maxHeartbeats 1000000 in
theorem cloneP (v : Value) (l : List Pt) (w : World) (h : eP.Rd w v l) (hn : l.length ≤ 1000000) :
    Calls Try.prog 60 #[v] w fun e w' => ∃ v', e = .returned v' ∧ eP.Own 88 w' w.heap.size v' l ∧ Below w.heap.size w w' := by
  rcases eP_nil h with ⟨rfl, rfl⟩ | ⟨ad, c, rfl, hr⟩
  · clear h
    have hnil := fun u => isNilP u none 0 0
    simp only [Option.isNone_none] at hnil
    go_enter Try.func60, Try.ntmps60
    go_wp2
    go_ret
    exact ⟨_, rfl, Els.Own.nil_ _ _, Below.refl _ _⟩
  · have HR := Lib.hid (Els.Rd.alloc hr (Obj.cells #[] 88))
    have HO : Hid (eP.Own 88 (w.alloc (Obj.cells #[] 88)) w.heap.size (.slice (some ⟨w.heap.size, 0, none⟩) 0 0) []) := Lib.hid (World.ownsRow_lit (base := w.heap.size) (size := 4) (e := 88) w #[] 0 (Nat.le_refl _) (by decide) (by rfl))
    have HB := Lib.hid (Below.alloc0 (Below.refl w.heap.size w) (Obj.cells #[] 88))
    obtain ⟨n, hl⟩ : ∃ n, l.length = n := ⟨_, rfl⟩
    rw [hl] at HR hn
    have HL := Lib.hid hl
    rw [hl]
    clear h hr hl
    have hnil := fun u => isNilP u (some ad) n c
    simp only [Option.isNone_some] at hnil
    go_enter Try.func60, Try.ntmps60
    go_wp2_with (at_builtin; refine wpList_appP rfl _ (.tmp 5) (.tmp 6) rfl w.heap.size _ _ [] l rfl HO.out rfl HR.out (by rw [HL.out]; simp; omega) (by simp) ?_; intro v' w4 hown hbel hgr hwh)
    have HO4 := Lib.hid hown
    have HB4 := Lib.hid (HB.out.trans hbel)
    clear hown hbel hgr hwh
    go_wp2
    go_ret
    exact ⟨_, rfl, HO4.out, HB4.out⟩
end Go.Proofs.Yteaajmoclgfhnaa
