/- Parts of a trace: slice.Cut. -/
import Derived.Test.YtpleboogijgdcaaSlm
namespace Go.Proofs.Ytpleboogijgdcaa
open Go.ChangeShapes Go.WideShapes Go.ChangeAt Go.RowKit
set_option linter.unusedVariables false

/-- A part as it lies in memory: its slice, and was it at its end. -/
structure Pc where
  A : Option Addr
  n : Nat
  c : Nat
  e : Bool
abbrev eC : Els Pc := ⟨fun x => [.slice x.A x.n x.c, .bool x.e], 2, fun _ => rfl, fun x u h => by
  simp only [List.mem_cons, List.not_mem_nil, or_false] at h
  rcases h with rfl | rfl <;> rfl, by decide⟩
def endP (x : Rc) : Bool := x.m && x.b3
/-- What Cut has made of the first k records, f of them cut. -/
structure CutTo (l : List Rc) (k f : Nat) (xs : List (List Rc × Bool)) : Prop where
  fk : f ≤ k
  len : xs.length ≤ f
  all : xs.flatMap (·.1) = l.take f
  ends : ∀ x ∈ xs, x.2 = true ∧ x.1 ≠ [] ∧ ∀ j r, x.1[j]? = some r → endP r = decide (j + 1 = x.1.length)
  none : ∀ j r, f ≤ j → j < k → l[j]? = some r → endP r = false
theorem CutTo.start (l : List Rc) : CutTo l 0 0 [] := ⟨Nat.le_refl _, Nat.le_refl _, rfl, fun _ h => by (cases h), fun j r _ h => by omega⟩
theorem CutTo.on {l : List Rc} {k f : Nat} {xs : List (List Rc × Bool)} (h : CutTo l k f xs) {x : Rc} (hx : l[k]? = some x) (he : endP x = false) : CutTo l (k + 1) f xs :=
  ⟨Nat.le_trans h.fk (by omega), h.len, h.all, h.ends, fun j r h1 h2 h3 => by
    rcases Nat.lt_or_ge j k with q | q
    · exact h.none j r h1 q h3
    · obtain rfl : j = k := by omega
      rw [hx] at h3; injection h3 with h3; subst h3; exact he⟩
theorem drop_take_at (l : List Rc) (f t j : Nat) (hj : j < t - f) : ((l.drop f).take (t - f))[j]? = l[f + j]? := by
  rw [List.getElem?_take, if_pos hj, List.getElem?_drop]
theorem drop_take_len (l : List Rc) (f t : Nat) (ht : t ≤ l.length) : ((l.drop f).take (t - f)).length = t - f := by
  rw [List.length_take, List.length_drop]; omega
theorem take_more (l : List Rc) (f t : Nat) (h : f ≤ t) : l.take f ++ (l.drop f).take (t - f) = l.take t := by
  obtain ⟨d, rfl⟩ := Nat.le.dest h
  rw [Nat.add_sub_cancel_left, List.take_add]
theorem CutTo.cut {l : List Rc} {k f : Nat} {xs : List (List Rc × Bool)} (h : CutTo l k f xs) {x : Rc} (hx : l[k]? = some x) (he : endP x = true) :
    CutTo l (k + 1) (k + 1) (xs ++ [((l.drop f).take (k + 1 - f), true)]) := by
  have hk : k < l.length := by
    rcases Nat.lt_or_ge k l.length with a | a
    · exact a
    · rw [List.getElem?_eq_none a] at hx; cases hx
  have fk := h.fk
  have hl := drop_take_len l f (k + 1) hk
  refine ⟨Nat.le_refl _, ?_, ?_, fun y hy => ?_, fun j r h1 h2 => by omega⟩
  · have := h.len; rw [List.length_append]; simp; omega
  · rw [List.flatMap_append, h.all]
    simp only [List.flatMap_cons, List.flatMap_nil, List.append_nil]
    exact take_more l f (k + 1) (by omega)
  · rcases List.mem_append.1 hy with hy | hy
    · exact h.ends y hy
    · simp only [List.mem_singleton] at hy
      subst hy
      refine ⟨rfl, fun h0 => ?_, fun j r hj => ?_⟩
      · simp only at h0; rw [h0] at hl; simp at hl; omega
      · simp only at hj ⊢
        rw [hl]
        have hj2 : j < k + 1 - f := by
          rcases Nat.lt_or_ge j (k + 1 - f) with a | a
          · exact a
          · rw [List.getElem?_eq_none (by omega)] at hj; cases hj
        rw [drop_take_at l f (k + 1) j hj2] at hj
        by_cases hjk : j + 1 = k + 1 - f
        · have e : f + j = k := by omega
          rw [e, hx] at hj
          injection hj with hj; subst hj
          rw [he]; simp [hjk]
        · rw [h.none (f + j) r (by omega) (by omega) hj]; simp [hjk]
/-- What the law asks of the parts of l. -/
structure CutOf (l : List Rc) (xs : List (List Rc × Bool)) : Prop where
  len : xs.length ≤ l.length
  all : xs.flatMap (·.1) = l
  each : ∀ (i : Nat) (x : List Rc × Bool), xs[i]? = some x → x.1 ≠ [] ∧ (x.2 = false → i + 1 = xs.length) ∧ ∀ j r, x.1[j]? = some r → endP r = (x.2 && decide (j + 1 = x.1.length))
theorem CutTo.done {l : List Rc} {xs : List (List Rc × Bool)} (h : CutTo l l.length l.length xs) : CutOf l xs :=
  ⟨h.len, by rw [h.all, List.take_length], fun i x hx => by
    obtain ⟨h1, h2, h3⟩ := h.ends x (List.mem_of_getElem? hx)
    exact ⟨h2, fun h0 => (by rw [h1] at h0; cases h0), fun j r hj => by rw [h1, Bool.true_and]; exact h3 j r hj⟩⟩
theorem CutTo.rest {l : List Rc} {f : Nat} {xs : List (List Rc × Bool)} (h : CutTo l l.length f xs) (hf : f < l.length) : CutOf l (xs ++ [(l.drop f, false)]) := by
  refine ⟨by have := h.len; rw [List.length_append]; simp; omega, ?_, fun i x hx => ?_⟩
  · rw [List.flatMap_append, h.all]
    simp only [List.flatMap_cons, List.flatMap_nil, List.append_nil]
    exact List.take_append_drop f l
  · rcases Nat.lt_or_ge i xs.length with a | a
    · rw [List.getElem?_append_left a] at hx
      obtain ⟨h1, h2, h3⟩ := h.ends x (List.mem_of_getElem? hx)
      exact ⟨h2, fun h0 => (by rw [h1] at h0; cases h0), fun j r hj => by rw [h1, Bool.true_and]; exact h3 j r hj⟩
    · rw [List.getElem?_append_right a] at hx
      obtain ⟨d, hd⟩ : ∃ d, i - xs.length = d := ⟨_, rfl⟩
      rw [hd] at hx
      cases d with
      | succ d => simp at hx
      | zero =>
        simp only [List.getElem?_cons_zero] at hx
        injection hx with hx
        subst hx
        refine ⟨fun h0 => ?_, fun _ => by rw [List.length_append]; simp; omega, fun j r hj => ?_⟩
        · have := congrArg List.length h0; simp at this; omega
        · simp only [List.getElem?_drop] at hj
          have hj2 : f + j < l.length := by
            rcases Nat.lt_or_ge (f + j) l.length with q | q
            · exact q
            · rw [List.getElem?_eq_none q] at hj; cases hj
          rw [h.none (f + j) r (by omega) hj2 hj]; simp
/-- A window of a row. -/
theorem Els.Rd.window {α : Type} {E : Els α} {w : World} {A : Option Addr} {n c : Nat} {l : List α} (h : E.Rd w (.slice A n c) l) (hc : n ≤ c) (f t : Nat) (hf : f ≤ t) (ht : t ≤ n) :
    E.Rd w (sliced A f t c E.k) ((l.drop f).take (t - f)) := by
  rcases h with ⟨e, rfl⟩ | ⟨ad, c', e, hg, hcl⟩
  · injection e with e1 e2 e3
    subst e1 e2 e3
    obtain rfl : t = 0 := by omega
    obtain rfl : f = 0 := by omega
    exact .inl ⟨rfl, rfl⟩
  · injection e with e1 e2 e3
    subst e1 e2 e3
    have hl : ((l.drop f).take (t - f)).length = t - f := by rw [List.length_take, List.length_drop]; omega
    refine .inr ⟨if c = f then ad else ad.add (f * E.k), c - f, ?_, fun h0 => ?_, fun j u hj => ?_⟩
    · unfold sliced; rw [hl]; split <;> simp
    · obtain ⟨g, off, rfl, hlt⟩ := hg (by omega)
      rw [if_neg (by omega)]
      exact ⟨g, off + f * E.k, Els.add_pl _ _ _, hlt⟩
    · have h0 := E.cells_pos hj
      obtain ⟨g, off, rfl, hlt⟩ := hg (by omega)
      rw [if_neg (by omega), Els.add_pl, Els.add_pl]
      obtain ⟨x, h1, h2⟩ := E.cells_inv _ j u hj
      have hjt : j / E.k < t - f := by
        rcases Nat.lt_or_ge (j / E.k) (t - f) with q | q
        · exact q
        · rw [List.getElem?_eq_none (by omega)] at h1; cases h1
      rw [List.getElem?_take, if_pos hjt, List.getElem?_drop] at h1
      have := hcl ((f + j / E.k) * E.k + j % E.k) u (by rw [E.cells_at l _ x h1 _ (Nat.mod_lt _ E.pos)]; exact h2)
      rw [Els.add_pl] at this
      rw [← this]
      congr 2
      have := Nat.div_add_mod j E.k
      rw [Nat.add_mul, Nat.mul_comm (j / E.k)]; omega
theorem infoC : (Try.prog.info? 39).map (fun i => (i.zero, i.size, i.bytes)) = some (some (.agg #[.slice none 0 0, .bool false]), 2, 32) := by kernel_rfl
theorem wpList_appC {ops : Array Oper} {rest : List Oper} {o : Oper} {a : Act} {Q : Exit → Act → World → Prop} (hgd : o.guard = none) (w : World) (s x : Operand)
    (ho : o.op = .call { callee := .builtin .append, args := #[s, x], argTypes := #[36, 36] })
    (base : Nat) (v y : Value) (l m : List Pc) (hs : a.eval s = v) (hown : eC.Own 39 w base v l) (hx : a.eval x = y) (hr : eC.Rd w y m) (hn : l.length + m.length ≤ 1099511627776) (hbase : base ≤ w.heap.size)
    (h : ∀ v' w', eC.Own 39 w' base v' (l ++ m) → Below base w w' → w.grownBy w' v.ownBlock → (v'.ownBlock = v.ownBlock ∨ v'.ownBlock = some w.heap.size) → wpList Try.prog ops Q rest (a.put o.dst v') w') : wpList Try.prog ops Q (o :: rest) a w := by
  obtain ⟨i0, hi, hz0, hz1, hz2⟩ := info_parts infoC
  exact wpList_plain hgd fun _ hK => Els.app (E := eC) w s x 36 39 i0 _ 32 Try.underlying36 hi hz0 hz1 hz2 (by decide) rfl ho base v y l m hs hown hx hr hn hbase fun v' w' h2 h3 h4 h5 => hK _ _ (h v' w' h2 h3 h4 h5)
/-- One part: its slice is a row of the call's own, and not the block of the parts. -/
def PIn (w : World) (base : Nat) (o : Option Nat) (p : Pc) (x : List Rc × Bool) : Prop := p.e = x.2 ∧ p.n = x.1.length ∧ eR.Own 26 w base (.slice p.A p.n p.c) x.1 ∧ ∀ g, (Value.slice p.A p.n p.c).ownBlock = some g → o ≠ some g
def PsIn (w : World) (base : Nat) (o : Option Nat) (ps : List Pc) (xs : List (List Rc × Bool)) : Prop := ps.length = xs.length ∧ ∀ (i : Nat) (p : Pc) (x : List Rc × Bool), ps[i]? = some p → xs[i]? = some x → PIn w base o p x
theorem PIn.below {w w' : World} {base : Nat} {o : Option Nat} {p : Pc} {x : List Rc × Bool} (h : PIn w base o p x) (hb : Below w.heap.size w w') : PIn w' base o p x := ⟨h.1, h.2.1, h.2.2.1.below hb, h.2.2.2⟩
theorem PsIn.below {w w' : World} {base : Nat} {o : Option Nat} {ps : List Pc} {xs : List (List Rc × Bool)} (h : PsIn w base o ps xs) (hb : Below w.heap.size w w') : PsIn w' base o ps xs := ⟨h.1, fun i p x h1 h2 => (h.2 i p x h1 h2).below hb⟩
theorem PIn.grown {w w' : World} {base : Nat} {o o' : Option Nat} {p : Pc} {x : List Rc × Bool} (h : PIn w base o p x) (hg : w.grownBy w' o) (ho : o' = o ∨ o' = some w.heap.size) : PIn w' base o' p x := by
  obtain ⟨h1, h2, h3, h4⟩ := h
  refine ⟨h1, h2, h3.grown hg ?_, fun g hq => ?_⟩
  · cases hq : (Value.slice p.A p.n p.c).ownBlock with
    | none => exact .inl rfl
    | some g => exact .inr (fun e => h4 g hq e.symm)
  · rcases ho with rfl | rfl
    · exact h4 g hq
    · intro e; injection e with e
      have := (h3.lt g hq).2; omega
theorem PsIn.grown {w w' : World} {base : Nat} {o o' : Option Nat} {ps : List Pc} {xs : List (List Rc × Bool)} (h : PsIn w base o ps xs) (hg : w.grownBy w' o) (ho : o' = o ∨ o' = some w.heap.size) : PsIn w' base o' ps xs := ⟨h.1, fun i p x h1 h2 => (h.2 i p x h1 h2).grown hg ho⟩
theorem PsIn.snoc {w : World} {base : Nat} {o : Option Nat} {ps : List Pc} {xs : List (List Rc × Bool)} {p : Pc} {x : List Rc × Bool} (h : PsIn w base o ps xs) (hp : PIn w base o p x) : PsIn w base o (ps ++ [p]) (xs ++ [x]) := by
  obtain ⟨h1, h2⟩ := h
  refine ⟨by simp [h1], fun i q y hq hy => ?_⟩
  rcases Nat.lt_or_ge i ps.length with a | a
  · rw [List.getElem?_append_left a] at hq
    rw [List.getElem?_append_left (by omega)] at hy
    exact h2 i q y hq hy
  · rw [List.getElem?_append_right a] at hq
    rw [List.getElem?_append_right (by omega), ← h1] at hy
    obtain ⟨d, hd⟩ : ∃ d, i - ps.length = d := ⟨_, rfl⟩
    rw [hd] at hq hy
    cases d with
    | succ d => simp at hq
    | zero =>
      simp only [List.getElem?_cons_zero] at hq hy
      injection hq with hq; injection hy with hy
      subst hq hy; exact hp
theorem slice_lh (u : World) (A : Option Addr) (n c f k : Nat) (h1 : f ≤ k + 1) (h2 : k + 1 ≤ c) : (Instr.slice 22 (.slice A n c) (some (.int .i64 (f : Int))) (some (.int .i64 ((k : Int) + 1))) none).run Try.prog u = .ok (sliced A f (k + 1) c 9) u := by
  have hs : (sizeOf (Try.prog.elem 22)).run Try.prog u = .ok 9 u := by kernel_rfl
  have ht : Try.prog.underlying 22 = some (.slice (Try.prog.elem 22)) := by kernel_rfl
  rw [run_slice_lh u 22 A n c ht .i64 .i64 (f : Int) ((k : Int) + 1) (by omega) (by omega) (by omega), hs]
  rfl
theorem slice_l (u : World) (A : Option Addr) (n c f : Nat) (h1 : f ≤ n) (h2 : n ≤ c) : (Instr.slice 22 (.slice A n c) (some (.int .i64 (f : Int))) none none).run Try.prog u = .ok (sliced A f n c 9) u := by
  have hs : (sizeOf (Try.prog.elem 22)).run Try.prog u = .ok 9 u := by kernel_rfl
  have ht : Try.prog.underlying 22 = some (.slice (Try.prog.elem 22)) := by kernel_rfl
  rw [run_slice_l u 22 A n c ht .i64 (f : Int) (by omega) (by omega), hs]
  rfl
set_option maxRecDepth 100000 in
set_option maxHeartbeats 4000000 in
theorem slCut_any (A : Option Addr) (c : Nat) (l : List Rc) (w : World) (hr : eR.Rd w (.slice A l.length c) l) (hcap : l.length ≤ c) (hn : l.length ≤ 1000) :
    Calls Try.prog 17 #[.slice A l.length c] w fun e w' => ∃ v ps xs, e = .returned v ∧ CutOf l xs ∧ eC.Own 39 w' w.heap.size v ps ∧ PsIn w' w.heap.size v.ownBlock ps xs ∧ Below w.heap.size w w' := by
  obtain ⟨A', c', hv, hc⟩ := hr.open_
  injection hv with e1 e2 e3
  subst e1 e3
  clear e2
  have HRD := Lib.hid hr
  obtain ⟨n, hl⟩ : ∃ n, l.length = n := ⟨_, rfl⟩
  rw [hl] at hc hn hcap HRD
  have HL := Lib.hid hl
  have HC := Lib.hid hc
  rw [hl]
  clear hr hc hl
  go_enter Try.func17, Try.ntmps17
  go_wp2
  go_loopw [3, 4, 9] (fun s fr i wr => ∃ k f : Nat, k ≤ n ∧ i = .int .i64 k ∧ fr = .int .i64 f ∧ (∃ ps xs, Hid (CutTo l k f xs) ∧ Hid (eC.Own 39 wr w.heap.size s ps) ∧ Hid (PsIn wr w.heap.size s.ownBlock ps xs)) ∧ Hid (Below w.heap.size w wr)) (fun _ _ i _ => n - (intOf i).toNat)
  case atStart => exact ⟨0, 0, Nat.zero_le _, rfl, rfl, ⟨[], [], Lib.hid (CutTo.start l), Lib.hid (Els.Own.nil_ _ _), Lib.hid ⟨rfl, fun i p x h => by cases h⟩⟩, Lib.hid (Below.refl _ _)⟩
  case round =>
    obtain ⟨k, f, hk, rfl, rfl, ⟨ps, xs, hT, hO, hP⟩, hB⟩ := hrel
    by_cases hlt : k < n
    · obtain ⟨g, off, rfl, hg, hcell⟩ := HC.out (by omega)
      obtain ⟨x, hx⟩ : ∃ x, l[k]? = some x := ⟨_, List.getElem?_eq_getElem (by rw [HL.out]; exact hlt)⟩
      obtain ⟨d0, d1, d2, d3, d4, d5, d6, d7, d8⟩ := rc9_at hB.out hg (fun jj u hu => hcell k x hx jj u hu)
      have k0 : (0 : Int) ≤ k := by omega
      have k1 : (k : Int) < n := by omega
      have HX := Lib.hid hx
      clear hcell hx
      obtain ⟨a, d, r, b1, b2, b3, b4, b5, m⟩ := x
      simp only at d0 d1 d2 d3 d4 d5 d6 d7 d8
      have HB2 := Lib.hid (Below.alloc0 hB.out (.cells #[.int .u16 a, .int .u8 d, .bool r, .bool b1, .bool b2, .bool b3, .bool b4, .bool b5, .bool m] 26))
      have HO2 := Lib.hid (hO.out.alloc (.cells #[.int .u16 a, .int .u8 d, .bool r, .bool b1, .bool b2, .bool b3, .bool b4, .bool b5, .bool m] 26))
      have HP2 := Lib.hid (hP.out.below (Below.alloc0 (Below.refl wr.heap.size wr) (.cells #[.int .u16 a, .int .u8 d, .bool r, .bool b1, .bool b2, .bool b3, .bool b4, .bool b5, .bool m] 26)))
      cases m
      case false =>
        go_wp2
        go_roundw
        case rel => exact ⟨k + 1, f, by omega, by go_num, rfl, ⟨ps, xs, Lib.hid (hT.out.on HX.out rfl), HO2, HP2⟩, HB2⟩
        case measure => simp [intOf]; omega
      case true =>
        cases b3
        case false =>
          go_wp2
          go_roundw
          case rel => exact ⟨k + 1, f, by omega, by go_num, rfl, ⟨ps, xs, Lib.hid (hT.out.on HX.out rfl), HO2, HP2⟩, HB2⟩
          case measure => simp [intOf]; omega
        case true =>
          have FK := hT.out.fk
          have HT2 := Lib.hid (hT.out.cut HX.out rfl)
          have hsl := fun u => slice_lh u (some ⟨g, off, none⟩) n c f k (by omega) (by omega)
          have RS := Lib.hid (((HRD.out.window hcap f (k + 1) (by omega) (by omega)).below HB2.out))
          have LS : Hid (((l.drop f).take (k + 1 - f)).length ≤ 1000 ∧ ps.length ≤ 1000) := Lib.hid ⟨by rw [drop_take_len l f (k + 1) (by rw [HL.out]; omega)]; omega, by have := hT.out.len; have := hP.out.1; omega⟩
          have CE : Hid (w.heap.size ≤ wr.heap.size) := Lib.hid hB.out.size
          obtain ⟨SL, hSL⟩ : ∃ SL, sliced (some ⟨g, off, none⟩) f (k + 1) c 9 = SL := ⟨_, rfl⟩
          have RS2 : Hid (eR.Rd (wr.alloc (.cells #[.int .u16 a, .int .u8 d, .bool r, .bool b1, .bool b2, .bool true, .bool b4, .bool b5, .bool true] 26)) SL ((l.drop f).take (k + 1 - f))) := Lib.hid (by rw [← hSL]; exact RS.out)
          simp only [hSL] at hsl
          obtain ⟨M, hM⟩ : ∃ M, (l.drop f).take (k + 1 - f) = M := ⟨_, rfl⟩
          rw [hM] at RS2 LS HT2
          have CC := Lib.hid (fun u (q : Below (wr.heap.size + 1) (wr.alloc (.cells #[.int .u16 a, .int .u8 d, .bool r, .bool b1, .bool b2, .bool true, .bool b4, .bool b5, .bool true] 26)) u) => cloneR SL M u (RS2.out.below (by simpa using q)) (Nat.le_trans LS.out.1 (by omega)))
          clear RS hSL hM
          go_wp2_with fail
          refine (CC.out _ (by simpa using Below.refl (wr.alloc (.cells #[.int .u16 a, .int .u8 d, .bool r, .bool b1, .bool b2, .bool true, .bool b4, .bool b5, .bool true] 26)).heap.size _)).mono ?_
          rintro e w2 ⟨v', rfl, hown, hbel⟩
          obtain ⟨A', c', hv, _⟩ := hown.rd.open_
          obtain ⟨m, hm⟩ : ∃ m, M.length = m := ⟨_, rfl⟩
          rw [hm] at hv
          subst hv
          have HB3 := Lib.hid (Below.trans HB2.out (hbel.mono (by have := HB2.out.size; omega)))
          have HO3 := Lib.hid ((HO2.out.below hbel).alloc (.cells #[.slice A' m c', .bool true] 39))
          have HP3 := Lib.hid ((PsIn.snoc (p := ⟨A', m, c', true⟩) (x := (M, true)) (HP2.out.below hbel) ⟨rfl, hm.symm, hown.more (by have := HB2.out.size; omega), fun g hg e => by have q1 := (hown.lt g hg).1; have q2 := (HO2.out.lt g e).2; omega⟩).below (Below.alloc0 (Below.refl w2.heap.size w2) (.cells #[.slice A' m c', .bool true] 39)))
          have HB4 := Lib.hid (HB3.out.alloc HB3.out.size (.cells #[.slice A' m c', .bool true] 39))
          have HR4 := Lib.hid (Els.Rd.new (E := eC) (g := w2.heap.size) w2 rfl 39 [(⟨A', m, c', true⟩ : Pc)] #[.slice A' m c', .bool true] 1 rfl rfl 1)
          have CE2 : Hid (w.heap.size ≤ w2.heap.size) := Lib.hid HB3.out.size
          clear hown hbel hm
          go_wp2_with (at_builtin; refine wpList_appC rfl _ (.tmp 20) (.tmp 28) rfl w.heap.size u3 _ ps _ rfl HO3.out rfl HR4.out (by have := LS.out; first | omega | (simp; omega)) (by have := CE2.out; first | omega | (simp; omega)) ?_; intro v' w4 hown hbel hgr hwh; have HO5 := Lib.hid hown; have HP5 := Lib.hid (HP3.out.grown hgr hwh); have HB5 := Lib.hid (Below.trans HB4.out hbel); clear hown hbel hgr hwh)
          go_roundw
          case rel => exact ⟨k + 1, k + 1, by omega, by go_num, by go_num, ⟨_, _, HT2, HO5, HP5⟩, HB5⟩
          case measure => simp [intOf]; omega
    · obtain rfl : k = n := by omega
      by_cases hfn : f < k
      · have f0 : (f : Int) < k := by omega
        have HT2 := Lib.hid (CutTo.rest (l := l) (f := f) (xs := xs) (by rw [HL.out]; exact hT.out) (by rw [HL.out]; exact hfn))
        have hsl := fun u => slice_l u A k c f (by omega) hcap
        have RS := Lib.hid (((HRD.out.window hcap f k (by omega) (Nat.le_refl _)).below hB.out))
        have LS : Hid (((l.drop f).take (k - f)).length ≤ 1000 ∧ ps.length ≤ 1000) := Lib.hid ⟨by rw [drop_take_len l f k (by rw [HL.out]; omega)]; omega, by have := hT.out.len; have := hP.out.1; omega⟩
        obtain ⟨SL, hSL⟩ : ∃ SL, sliced A f k c 9 = SL := ⟨_, rfl⟩
        have RS2 : Hid (eR.Rd wr SL ((l.drop f).take (k - f))) := Lib.hid (by rw [← hSL]; exact RS.out)
        simp only [hSL] at hsl
        have eM : (l.drop f).take (k - f) = l.drop f := List.take_of_length_le (by rw [List.length_drop, HL.out]; omega)
        obtain ⟨M, hM⟩ : ∃ M, l.drop f = M := ⟨_, rfl⟩
        rw [eM, hM] at RS2 LS
        rw [hM] at HT2
        have CC := Lib.hid (cloneR SL M wr RS2.out (Nat.le_trans LS.out.1 (by omega)))
        clear RS hSL hM eM
        go_wp2_with fail
        refine CC.out.mono ?_
        rintro e w2 ⟨v', rfl, hown, hbel⟩
        obtain ⟨A', c', hv, _⟩ := hown.rd.open_
        obtain ⟨m, hm⟩ : ∃ m, M.length = m := ⟨_, rfl⟩
        rw [hm] at hv
        subst hv
        have HB3 := Lib.hid (Below.trans hB.out (hbel.mono (by have := hB.out.size; omega)))
        have HO3 := Lib.hid ((hO.out.below hbel).alloc (.cells #[.slice A' m c', .bool false] 39))
        have HP3 := Lib.hid ((PsIn.snoc (p := ⟨A', m, c', false⟩) (x := (M, false)) (hP.out.below hbel) ⟨rfl, hm.symm, hown.more (by have := hB.out.size; omega), fun g hg e => by have q1 := (hown.lt g hg).1; have q2 := (hO.out.lt g e).2; omega⟩).below (Below.alloc0 (Below.refl w2.heap.size w2) (.cells #[.slice A' m c', .bool false] 39)))
        have HB4 := Lib.hid (HB3.out.alloc HB3.out.size (.cells #[.slice A' m c', .bool false] 39))
        have HR4 := Lib.hid (Els.Rd.new (E := eC) (g := w2.heap.size) w2 rfl 39 [(⟨A', m, c', false⟩ : Pc)] #[.slice A' m c', .bool false] 1 rfl rfl 1)
        have CE2 : Hid (w.heap.size ≤ w2.heap.size) := Lib.hid HB3.out.size
        clear hown hbel hm
        go_wp2_with (at_builtin; refine wpList_appC rfl _ (.tmp 37) (.tmp 43) rfl w.heap.size u3 _ ps _ rfl HO3.out rfl HR4.out (by have := LS.out; first | omega | (simp; omega)) (by have := CE2.out; first | omega | (simp; omega)) ?_; intro v' w4 hown hbel hgr hwh; have HO5 := Lib.hid hown; have HP5 := Lib.hid (HP3.out.grown hgr hwh); have HB5 := Lib.hid (Below.trans HB4.out hbel); clear hown hbel hgr hwh)
        go_ret
        exact ⟨_, _, _, rfl, HT2.out, HO5.out, HP5.out, HB5.out⟩
      · have f0 : ¬ (f : Int) < k := by omega
        obtain rfl : f = k := by have := hT.out.fk; omega
        have HT2 := Lib.hid (CutTo.done (l := l) (xs := xs) (by rw [HL.out]; exact hT.out))
        go_wp2
        go_ret
        exact ⟨u3, rfl, ps, xs, HT2.out, hO.out, hP.out, hB.out⟩
end Go.Proofs.Ytpleboogijgdcaa
