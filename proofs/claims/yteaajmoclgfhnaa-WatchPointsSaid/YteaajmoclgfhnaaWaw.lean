/- Points at addresses: the library's DeleteFunc with the closure of Drop. -/
import Derived.Test.YteaajmoclgfhnaaWav
import Derived.Laws.IdiomCopy
namespace Go.Proofs.Yteaajmoclgfhnaa
open Go.ChangeShapes Go.WideShapes Go.ChangeAt Go.RowKit
set_option linter.unusedVariables false

/-- Those that stay. -/
def stay (id : Int) (P : List Pt) : List Pt := P.filter fun x => !(x.n == id)
theorem stay_next (id : Int) (P : List Pt) (x : Pt) : stay id (P ++ [x]) = stay id P ++ bif x.n == id then [] else [x] := by
  unfold stay
  rw [List.filter_append]
  congr 1
  cases h : x.n == id <;> simp [List.filter, h]
theorem stay_len (id : Int) (P : List Pt) : (stay id P).length ≤ P.length := List.length_filter_le _ _
theorem stay_all (id : Int) (P : List Pt) (h : ∀ q, q < P.length → nAt P q ≠ id) : stay id P = P := by
  unfold stay
  rw [List.filter_eq_self]
  intro x hx
  obtain ⟨q, hq, rfl⟩ := List.getElem_of_mem hx
  have := h q hq
  rw [nAt_eq P q hq] at this
  simpa using this
theorem stay_take (id : Int) (P : List Pt) (j : Nat) (hj : j ≤ P.length) (h : ∀ q, q < j → nAt P q ≠ id) : stay id (P.take j) = P.take j := by
  refine stay_all id _ fun q hq => ?_
  rw [List.length_take] at hq
  have := h q (by omega)
  rw [nAt_eq P q (by omega)] at this
  rw [nAt_eq _ q (by rw [List.length_take]; exact hq), List.getElem_take]
  exact this
theorem Blk.setCells {t : TypeId} {g : Nat} {fr : Nat × Nat} : ∀ (vs : List Value) (o : Nat) (w : World) (cs : Array Value), Blk w g t cs fr → ∃ cs', Blk (w.setCells g o vs) g t cs' fr ∧ cs'.size = cs.size ∧ ∀ q, q < o → cs'[q]? = cs[q]?
  | [], o, w, cs, h => ⟨cs, h, rfl, fun _ _ => rfl⟩
  | v :: vs, o, w, cs, h => by
    obtain ⟨cs', h1, h2, h3⟩ := Blk.setCells vs (o + 1) _ _ (Blk.set_ h o v)
    refine ⟨cs', h1, by rw [h2]; simp, fun q hq => ?_⟩
    rw [h3 q (by omega), Array.getElem?_setIfInBounds, if_neg (by omega)]
theorem grown_setCells (g : Nat) : ∀ (vs : List Value) (o : Nat) (w : World), w.grownBy (w.setCells g o vs) (some g)
  | [], o, w => World.grownBy.refl _ _
  | v :: vs, o, w => World.grownBy.trans (grown_cell w g o v) (grown_setCells g vs (o + 1) _)
theorem cellsP_push (F : List Pt) (x : Pt) (q : Nat) : (eP.cells (F ++ [x]))[q]? = if q < F.length * 4 then (eP.cells F)[q]? else (eP.enc x)[q - F.length * 4]? := by
  have hl : (eP.cells F).length = F.length * 4 := Els.cells_len eP F
  have e1 : eP.cells [x] = eP.enc x := by simp [Els.cells]
  rw [Els.cells_append eP, e1]
  split
  · rw [List.getElem?_append_left (by omega)]
  · rw [List.getElem?_append_right (by omega), hl]
theorem zeroPt (w : World) : (zeroValue 88).run Try.prog w = .ok (.agg #[.int .i64 0, .int .i64 0, .int .u16 0, .int .u16 0]) w := by kernel_rfl
theorem clearP (w : World) (ty : TypeId) (b o n c : Nat) (hn : 0 < n) (hc : ∀ j, j < n * 4 → (w.cell? ⟨b, o + j, none⟩).isSome = true) (hf : ∀ j, j < n * 4 → w.frozen? ⟨b, o + j, none⟩ = false) :
    ∃ L : List Value, (Builtin.clear_ #[47] ty #[.slice (some ⟨b, o, none⟩) n c]).run Try.prog w = .ok (.tuple #[]) (w.setCells b o L) := by
  obtain ⟨L, hL⟩ : ∃ L, (Builtin.zeroCells (Value.agg #[.int .i64 0, .int .i64 0, .int .u16 0, .int .u16 0]).cells n).toList = L := ⟨_, rfl⟩
  have hl : L.length = n * 4 := by rw [← hL]; simp [Builtin.zeroCells, Value.cells]
  have h1 : ∀ v ∈ L, v.oneCell' = true := by
    intro v hv
    rw [← hL] at hv
    simp only [Builtin.zeroCells, Value.cells, Array.toList_map, List.mem_map] at hv
    obtain ⟨i, _, rfl⟩ := hv
    have : i % 4 = 0 ∨ i % 4 = 1 ∨ i % 4 = 2 ∨ i % 4 = 3 := by omega
    show (#[Value.int .i64 0, Value.int .i64 0, Value.int .u16 0, Value.int .u16 0][i % 4]!).oneCell' = true
    rcases this with h | h | h | h <;> rw [h] <;> rfl
  have hst := run_storeCells_cells (P := Try.prog) b o L 0 w (by rw [hl]; simpa using hc) (by rw [hl]; simpa using hf) h1
  simp only [Nat.add_zero] at hst
  obtain ⟨m, rfl⟩ : ∃ m, n = m + 1 := ⟨n - 1, by omega⟩
  refine ⟨L, ?_⟩
  have hz := zeroPt w
  simp [Builtin.clear_, run_underlying Try.underlying47, hz, hL, hst]
/-- The row under way: its first m are those that stay, from the j-th on it is as it was. -/
def DB (w : World) (b : Nat) (cur0 : Array Value) (F : List Pt) (j : Nat) : Prop :=
  ∃ cur, Blk w b 88 cur ∧ cur.size = cur0.size ∧ (∀ q, q < F.length * 4 → cur[q]? = (eP.cells F)[q]?) ∧ ∀ q, j * 4 ≤ q → cur[q]? = cur0[q]?
theorem DB.below {w w' : World} {b j : Nat} {cur0 : Array Value} {F : List Pt} (h : DB w b cur0 F j) (hb : Below w.heap.size w w') : DB w' b cur0 F j := by
  obtain ⟨cur, h1, h2⟩ := h
  exact ⟨cur, Blk.below h1 hb h1.lt, h2⟩
theorem DB.skip {w : World} {b j : Nat} {cur0 : Array Value} {F : List Pt} (h : DB w b cur0 F j) : DB w b cur0 F (j + 1) := by
  obtain ⟨cur, h1, h2, h3, h4⟩ := h
  exact ⟨cur, h1, h2, h3, fun q hq => h4 q (by omega)⟩
theorem DB.push {w : World} {b j : Nat} {cur0 : Array Value} {F : List Pt} (x : Pt) (h : DB w b cur0 F j) (hj : F.length < j) (hs : j * 4 < cur0.size) :
    DB ((((w.setCell ⟨b, F.length * 4, none⟩ (.int .i64 x.n)).setCell ⟨b, F.length * 4 + 1, none⟩ (.int .i64 x.k)).setCell ⟨b, F.length * 4 + 2, none⟩ (.int .u16 x.f)).setCell ⟨b, F.length * 4 + 3, none⟩ (.int .u16 x.t)) b cur0 (F ++ [x]) (j + 1) := by
  obtain ⟨cur, h1, h2, h3, h4⟩ := h
  refine ⟨_, Blk.set_ (Blk.set_ (Blk.set_ (Blk.set_ h1 _ _) _ _) _ _) _ _, by simpa using h2, fun q hq => ?_, fun q hq => ?_⟩
  · rw [List.length_append, List.length_singleton] at hq
    rw [cellsP_push]
    simp only [Array.getElem?_setIfInBounds, Array.size_setIfInBounds]
    by_cases hq1 : q < F.length * 4
    · rw [if_pos hq1, if_neg (by omega), if_neg (by omega), if_neg (by omega), if_neg (by omega)]
      exact h3 q hq1
    · rw [if_neg hq1]
      rcases (show q = F.length * 4 ∨ q = F.length * 4 + 1 ∨ q = F.length * 4 + 2 ∨ q = F.length * 4 + 3 by omega) with rfl | rfl | rfl | rfl
      · rw [if_neg (by omega), if_neg (by omega), if_neg (by omega), if_pos rfl, if_pos (by omega), Nat.sub_self]; rfl
      · rw [if_neg (by omega), if_neg (by omega), if_pos rfl, if_pos (by omega), Nat.add_sub_cancel_left]; rfl
      · rw [if_neg (by omega), if_pos rfl, if_pos (by omega), Nat.add_sub_cancel_left]; rfl
      · rw [if_pos rfl, if_pos (by omega), Nat.add_sub_cancel_left]; rfl
  · simp only [Array.getElem?_setIfInBounds]
    rw [if_neg (by omega), if_neg (by omega), if_neg (by omega), if_neg (by omega)]
    exact h4 q (by omega)
theorem DB.at_ {w : World} {b j : Nat} {cur0 : Array Value} {F : List Pt} {P : List Pt} (h : DB w b cur0 F j) (hj : j < P.length) (htk : cur0.toList.take (P.length * 4) = eP.cells P) :
    w.cell? ⟨b, j * 4, none⟩ = some (.int .i64 P[j].n) ∧ w.cell? ⟨b, j * 4 + 1, none⟩ = some (.int .i64 P[j].k) ∧ w.cell? ⟨b, j * 4 + 2, none⟩ = some (.int .u16 P[j].f) ∧ w.cell? ⟨b, j * 4 + 3, none⟩ = some (.int .u16 P[j].t) := by
  obtain ⟨cur, h1, h2, h3, h4⟩ := h
  have key : ∀ r (hr : r < 4), w.cell? ⟨b, j * 4 + r, none⟩ = (eP.enc P[j])[r]? := fun r hr => by
    rw [h1.cell, h4 _ (by omega), ← Array.getElem?_toList, ← List.getElem?_take_of_lt (show j * 4 + r < P.length * 4 by omega), htk]
    exact Els.cells_at eP P j P[j] (List.getElem?_eq_getElem hj) r hr
  exact ⟨key 0 (by decide), key 1 (by decide), key 2 (by decide), key 3 (by decide)⟩
theorem DB.there {w : World} {b j q : Nat} {cur0 : Array Value} {F : List Pt} (h : DB w b cur0 F j) (hq : q < cur0.size) : (∃ v, w.cell? ⟨b, q, none⟩ = some v) ∧ w.frozen? ⟨b, q, none⟩ = false := by
  obtain ⟨cur, h1, h2, h3, h4⟩ := h
  exact ⟨⟨_, by rw [h1.cell]; exact Array.getElem?_eq_getElem (by omega)⟩, h1.frozen q⟩
theorem DB.lt {w : World} {b j : Nat} {cur0 : Array Value} {F : List Pt} (h : DB w b cur0 F j) : b < w.heap.size := by
  obtain ⟨cur, h1, -⟩ := h
  exact h1.lt
theorem grown_below {w w' : World} (h : Below w.heap.size w w') (b : Nat) : w.grownBy w' (some b) := ⟨h.os, h.tape, h.output, h.size, fun k hk _ => h.block k hk⟩
set_option maxRecDepth 100000 in
set_option maxHeartbeats 4000000 in
theorem delF_any (b n cap : Nat) (P : List Pt) (gi : Nat) (id : Int) (w : World) (cur0 : Array Value) (hbk : Blk w b 88 cur0) (hn : P.length = n) (hn2 : n ≤ 1000) (hnc : n ≤ cap) (hcap : cap ≤ maxLen) (hsz : cur0.size = cap * 4) (htk : cur0.toList.take (n * 4) = eP.cells P) (hgi : gi ≠ b) (hc0 : w.cell? ⟨gi, 0, none⟩ = some (.int .i64 id)) :
    Calls Try.prog 58 #[.slice (some ⟨b, 0, none⟩) n cap, .func (.func 59) #[] #[.pointer (some ⟨gi, 0, none⟩)]] w fun e w' =>
      e = .returned (.slice (some ⟨b, 0, none⟩) (stay id P).length cap) ∧ (∃ cur, Blk w' b 88 cur ∧ cur.size = cap * 4 ∧ cur.toList.take ((stay id P).length * 4) = eP.cells (stay id P)) ∧ w.grownBy w' (some b) := by
  have hRd : eP.Rd w (.slice (some ⟨b, 0, none⟩) n cap) P := .inr ⟨⟨b, 0, none⟩, cap, by rw [hn], fun _ => ⟨b, 0, rfl, hbk.lt⟩, fun j u hj => by
    rw [Els.add_pl, Nat.zero_add, hbk.cell, ← Array.getElem?_toList]
    have hl : j < n * 4 := by
      rcases Nat.lt_or_ge j (n * 4) with h | h
      · exact h
      · rw [List.getElem?_eq_none (by rw [Els.cells_len eP, hn]; exact h)] at hj; cases hj
    rw [← List.getElem?_take_of_lt hl, htk]
    exact hj⟩
  have CI := Lib.hid (idxF_any _ P gi id w hRd (by omega) hc0)
  have D0 : Hid (DB w b cur0 [] 0) := Lib.hid ⟨cur0, hbk, rfl, fun q hq => absurd hq (by simp), fun q hq => rfl⟩
  have HTK := Lib.hid htk
  have HN := Lib.hid hn
  have HSZ := Lib.hid hsz
  have HBK := Lib.hid hbk
  have HC0 := Lib.hid hc0
  clear hRd htk hsz hc0 hbk
  go_enter Try.func58, Try.ntmps58
  go_wp2_with fail
  refine CI.out.mono ?_
  rintro e w1 ⟨j0, hb, ⟨rfl, hj0, hj1, hj2⟩ | ⟨rfl, hj⟩⟩
  · have HB1 := Lib.hid hb
    have HJ1 := Lib.hid hj1
    have HJ2 := Lib.hid hj2
    have G1 := Lib.hid (grown_below hb b)
    have HC1 := Lib.hid (hb.cell (p := ⟨gi, 0, none⟩) (cell_lt HC0.out) |>.trans HC0.out)
    clear hb hj1 hj2 CI
    rw [HN.out] at hj0
    have hne1 : ((j0 : Int) == -1) = false := by simp
    go_wp2
    go_loopw [5, 6] (fun u5 u6 wr => ∃ j : Nat, j0 < j ∧ j ≤ n ∧ u6 = .int .i64 (j : Int) ∧ u5 = .int .i64 ((stay id (P.take j)).length : Int) ∧ Hid ((stay id (P.take j)).length < j ∧ DB wr b cur0 (stay id (P.take j)) j ∧ w.grownBy wr (some b) ∧ wr.cell? ⟨gi, 0, none⟩ = some (.int .i64 id))) (fun _ u6 _ => n - (intOf u6).toNat)
    case atStart =>
      have e : stay id (P.take (j0 + 1)) = P.take j0 := by
        rw [takeP P j0 (by rw [HN.out]; exact hj0), stay_next, stay_take id P j0 (by rw [HN.out]; omega) HJ2.out]
        have : (P[j0]'(by rw [HN.out]; exact hj0)).n = id := by rw [← nAt_eq]; exact HJ1.out
        rw [this]; simp
      have el : (P.take j0).length = j0 := by rw [List.length_take, HN.out]; omega
      refine ⟨j0 + 1, by omega, by omega, by go_num, by rw [e, el], Lib.hid ⟨by rw [e, el]; omega, ?_, G1.out, HC1.out⟩⟩
      rw [e]
      refine ⟨cur0, Blk.below HBK.out HB1.out HBK.out.lt, rfl, fun q hq => ?_, fun q hq => rfl⟩
      rw [el] at hq
      rw [← Array.getElem?_toList, ← List.getElem?_take_of_lt (show q < n * 4 by omega), HTK.out]
      have e2 : P = P.take j0 ++ P.drop j0 := (List.take_append_drop _ _).symm
      conv => lhs; rw [e2, Els.cells_append eP]
      rw [List.getElem?_append_left (by rw [Els.cells_len eP, el]; exact hq)]
    case round =>
      obtain ⟨j, hj0j, hjn, rfl, rfl, HD⟩ := hrel
      obtain ⟨hmj, hdb, hgr, hci⟩ := HD.out
      by_cases hlt : j < n
      · have hjl : j < P.length := by rw [HN.out]; exact hlt
        have NX := Lib.hid (show stay id (P.take (j + 1)) = stay id (P.take j) ++ bif P[j].n == id then [] else [P[j]] by rw [takeP P j hjl]; exact stay_next _ _ _)
        obtain ⟨q0, q1, q2, q3⟩ := hdb.at_ hjl (by rw [HN.out]; exact HTK.out)
        have CD := Lib.hid (fun u h => del_any P[j] gi id u h)
        generalize P[j] = x at q0 q1 q2 q3 NX CD
        generalize stay id (P.take j) = F at hmj hdb NX HD ⊢
        have hszj : j * 4 + 3 < cur0.size := by rw [HSZ.out]; omega
        have k0 : (0 : Int) ≤ (j : Int) := by omega
        have k1 : (j : Int) < (n : Int) := by omega
        have HDB := Lib.hid hdb
        have HGR := Lib.hid hgr
        have HCI := Lib.hid ((Below.alloc0 (Below.refl wr.heap.size wr) (Obj.cells x.cells 88)).cell (p := ⟨gi, 0, none⟩) (cell_lt hci) |>.trans hci)
        have HB1 := Lib.hid (Below.alloc0 (Below.refl wr.heap.size wr) (Obj.cells x.cells 88))
        have P1 := Lib.hid (Blk.new wr 88 x.cells (0, 0))
        clear hdb hgr hci HD hjl
        go_wp2_with fail
        clear q0 q1 q2 q3
        refine (CD.out _ HCI.out).mono ?_
        rintro e w2 ⟨rfl, hb⟩
        have HB2 := Lib.hid (Below.trans0 HB1.out hb)
        have P2 := Lib.hid (Blk.below P1.out hb P1.out.lt)
        have D2 := Lib.hid (DB.below HDB.out HB2.out)
        have G2 := Lib.hid (World.grownBy.trans HGR.out (grown_below HB2.out b))
        have HC2 := Lib.hid (hb.cell (p := ⟨gi, 0, none⟩) (cell_lt HCI.out) |>.trans HCI.out)
        clear hb CD
        cases hx : x.n == id
        · rw [hx] at NX
          obtain ⟨q0, q1, q2, q3⟩ := Blk.c4 P2.out
          obtain ⟨⟨v0, p0⟩, f0⟩ := D2.out.there (q := F.length * 4) (by omega)
          obtain ⟨⟨v1, p1⟩, f1⟩ := D2.out.there (q := F.length * 4 + 1) (by omega)
          obtain ⟨⟨v2, p2⟩, f2⟩ := D2.out.there (q := F.length * 4 + 2) (by omega)
          obtain ⟨⟨v3, p3⟩, f3⟩ := D2.out.there (q := F.length * 4 + 3) (by omega)
          have D3 := Lib.hid (D2.out.push x hmj (by omega))
          have G3 := Lib.hid (World.grownBy.trans G2.out (World.grownBy.trans (World.grownBy.trans (World.grownBy.trans (grown_cell w2 b (F.length * 4) (.int .i64 x.n)) (grown_cell _ b (F.length * 4 + 1) (.int .i64 x.k))) (grown_cell _ b (F.length * 4 + 2) (.int .u16 x.f))) (grown_cell _ b (F.length * 4 + 3) (.int .u16 x.t))))
          have m0 : (0 : Int) ≤ (F.length : Int) := by omega
          have m1 : (F.length : Int) < (n : Int) := by omega
          go_wp2
          go_roundw
          case rel =>
            refine ⟨j + 1, by omega, by omega, by go_num, by rw [NX.out]; simp, Lib.hid ⟨by rw [NX.out]; simp; omega, by rw [NX.out]; exact D3.out, G3.out, ?_⟩⟩
            rw [G3.out.cell HC0.out (by simpa using hgi)]
          case measure => simp [intOf]; omega
        · rw [hx] at NX
          go_wp2
          go_roundw
          case rel =>
            refine ⟨j + 1, by omega, by omega, by go_num, by rw [NX.out]; simp, Lib.hid ⟨by rw [NX.out]; simp; omega, by rw [NX.out]; simpa using D2.out.skip, G2.out, HC2.out⟩⟩
          case measure => simp [intOf]; omega
      · obtain rfl : j = n := by omega
        rw [List.take_of_length_le (by rw [HN.out]; exact Nat.le_refl _)] at hmj hdb ⊢
        have m0 : (0 : Int) ≤ ((stay id P).length : Int) := by omega
        have m1 : ((stay id P).length : Int) ≤ (j : Int) := by omega
        have m2 : ((stay id P).length : Int) ≤ (cap : Int) := by omega
        have m3 : (j : Int) ≤ (cap : Int) := by omega
        obtain ⟨L, hL⟩ := clearP wr 0 b ((stay id P).length * 4) (j - (stay id P).length) (cap - (stay id P).length) (by omega)
          (fun q hq => by obtain ⟨⟨v, hv⟩, -⟩ := hdb.there (q := (stay id P).length * 4 + q) (by rw [HSZ.out]; omega); rw [hv]; rfl)
          (fun q hq => (hdb.there (q := (stay id P).length * 4 + q) (by rw [HSZ.out]; omega)).2)
        obtain ⟨cur, c1, c2, c3, -⟩ := hdb
        obtain ⟨cur', d1, d2, d3⟩ := Blk.setCells L ((stay id P).length * 4) wr cur c1
        have HD1 := Lib.hid d1
        have HD2 : Hid (cur'.size = cap * 4) := Lib.hid (by rw [d2, c2, HSZ.out])
        have HG := Lib.hid (World.grownBy.trans hgr (grown_setCells b L ((stay id P).length * 4) wr))
        have HT : Hid (cur'.toList.take ((stay id P).length * 4) = eP.cells (stay id P)) := Lib.hid (by
          apply List.ext_getElem?
          intro q
          by_cases hq : q < (stay id P).length * 4
          · rw [List.getElem?_take_of_lt hq, Array.getElem?_toList, d3 q hq, c3 q hq]
          · rw [List.getElem?_eq_none (by rw [List.length_take]; omega), List.getElem?_eq_none (by rw [Els.cells_len eP]; exact (by omega : (stay id P).length * 4 ≤ q))])
        have HMJ := Lib.hid hmj
        clear c1 c2 c3 d1 d2 d3 hgr hci hmj HD
        go_wp2
        all_goals first
          | (exfalso; have := HMJ.out; omega)
          | (go_ret; exact ⟨rfl, ⟨cur', HD1.out, HD2.out, HT.out⟩, HG.out⟩)
  · have HJ : Hid (stay id P = P) := Lib.hid (stay_all id P hj)
    have HB1 := Lib.hid hb
    clear hb hj CI
    go_wp2
    go_ret
    refine ⟨by rw [HJ.out, HN.out]; rfl, ⟨cur0, Blk.below HBK.out HB1.out HBK.out.lt, HSZ.out, by rw [HJ.out, HN.out]; exact HTK.out⟩, grown_below HB1.out b⟩
end Go.Proofs.Yteaajmoclgfhnaa
