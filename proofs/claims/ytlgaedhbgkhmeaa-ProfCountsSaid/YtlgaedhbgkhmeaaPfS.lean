/- Rows of counts: made, appended to, copied, compared; what the library's sort leaves of one. -/
import Derived.Test.YtlgaedhbgkhmeaaPfM
import Derived.Test.YtlgaedhbgkhmeaaRws
import Derived.Test.YtlgaedhbgkhmeaaStc
import Derived.Test.YtlgaedhbgkhmeaaRcB
import Derived.Sort.Row
import Derived.Lib.SliceRun
import Derived.Shelf.GgSortFunc.InsertionK
import Derived.BigQuiet
namespace Go.Proofs.Ytlgaedhbgkhmeaa
open Go.ChangeShapes Go.WideShapes Go.ChangeAt Go.RowKit
set_option linter.unusedVariables false
abbrev eSp : Els SpN := ⟨fun x => [.int .u16 x.a, .int .i64 x.t, .int .i64 x.c, .int .i64 x.l], 4, fun _ => rfl, fun x u h => by
  simp only [List.mem_cons, List.not_mem_nil, or_false] at h
  rcases h with rfl | rfl | rfl | rfl <;> rfl, by decide⟩
abbrev spV (x : SpN) : Value := .agg #[.int .u16 x.a, .int .i64 x.t, .int .i64 x.c, .int .i64 x.l]
theorem sp4_at {w wr : World} {B g off k : Nat} {x : SpN} (hB : Below B w wr) (hg : g < B)
    (CE : ∀ (j : Nat) (u : Value), [Value.int IntKind.u16 x.a, Value.int IntKind.i64 x.t, Value.int IntKind.i64 x.c, Value.int IntKind.i64 x.l][j]? = some u → w.cell? { block := g, off := off + (k * 4 + j) } = some u) :
    wr.cell? ⟨g, off + k * 4, none⟩ = some (.int .u16 x.a) ∧ wr.cell? ⟨g, off + k * 4 + 1, none⟩ = some (.int .i64 x.t) ∧ wr.cell? ⟨g, off + k * 4 + 2, none⟩ = some (.int .i64 x.c) ∧ wr.cell? ⟨g, off + k * 4 + 3, none⟩ = some (.int .i64 x.l) := by
  have key : ∀ (j : Nat) (u : Value), [Value.int IntKind.u16 x.a, Value.int IntKind.i64 x.t, Value.int IntKind.i64 x.c, Value.int IntKind.i64 x.l][j]? = some u → wr.cell? ⟨g, off + k * 4 + j, none⟩ = some u := fun j u h => by
    rw [Nat.add_assoc]
    exact (hB.cell (p := ⟨g, off + (k * 4 + j), none⟩) hg).trans (CE j u h)
  exact ⟨key 0 _ rfl, key 1 _ rfl, key 2 _ rfl, key 3 _ rfl⟩
theorem infoSp : (Try.prog.info? 35).map (fun i => (i.zero, i.size, i.bytes)) = some (some (.agg #[.int .u16 0, .int .i64 0, .int .i64 0, .int .i64 0]), 4, 32) := by kernel_rfl
theorem made_Sp (w : World) (c : Nat) (hc : c ≤ 1099511627776) : ∃ Z, (Instr.makeSlice 28 (.int .i64 0) (.int .i64 (c : Int))).run Try.prog w = .ok (.slice (some ⟨w.heap.size, 0, none⟩) 0 c) (w.alloc Z) ∧ ∀ base, base ≤ w.heap.size → eSp.Own 35 (w.alloc Z) base (.slice (some ⟨w.heap.size, 0, none⟩) 0 c) [] := by
  obtain ⟨i0, hi, hz0, hz1, hz2⟩ := info_parts infoSp
  exact Els.made (E := eSp) w 28 35 i0 _ 32 Try.underlying28 hi hz0 hz1 hz2 (by decide) (by decide) c hc
theorem step_appSp {ops : Array Oper} {o : Oper} {a : Act} {K : Act → World → Prop} {Q : Exit → Act → World → Prop} {E : Prop} (hgd : o.guard = none) (w : World) (s x : Operand)
    (ho : o.op = .call { callee := .builtin .append, args := #[s, x], argTypes := #[28, 28] })
    (base : Nat) (v y : Value) (l m : List SpN) (hs : a.eval s = v) (hown : eSp.Own 35 w base v l) (hx : a.eval x = y) (hr : eSp.Rd w y m) (hn : l.length + m.length ≤ 1099511627776) (hbase : base ≤ w.heap.size)
    (h : ∀ v' w', eSp.Own 35 w' base v' (l ++ m) → Below base w w' → w.grownBy w' v.ownBlock → (v'.ownBlock = v.ownBlock ∨ v'.ownBlock = some w.heap.size) → K (a.put o.dst v') w') : if Region.wanted o (yielded ops a.tmps) = true then Oper.wp Try.prog o a w K Q else E := by
  obtain ⟨i0, hi, hz0, hz1, hz2⟩ := info_parts infoSp
  rw [if_pos (by simp [Region.wanted, hgd])]
  exact Els.app (E := eSp) w s x 28 35 i0 _ 32 Try.underlying28 hi hz0 hz1 hz2 (by decide) rfl ho base v y l m hs hown hx hr hn hbase h
theorem wpList_appSp {ops : Array Oper} {rest : List Oper} {o : Oper} {a : Act} {Q : Exit → Act → World → Prop} (hgd : o.guard = none) (w : World) (s x : Operand)
    (ho : o.op = .call { callee := .builtin .append, args := #[s, x], argTypes := #[28, 28] })
    (base : Nat) (v y : Value) (l m : List SpN) (hs : a.eval s = v) (hown : eSp.Own 35 w base v l) (hx : a.eval x = y) (hr : eSp.Rd w y m) (hn : l.length + m.length ≤ 1099511627776) (hbase : base ≤ w.heap.size)
    (h : ∀ v' w', eSp.Own 35 w' base v' (l ++ m) → Below base w w' → w.grownBy w' v.ownBlock → (v'.ownBlock = v.ownBlock ∨ v'.ownBlock = some w.heap.size) → wpList Try.prog ops Q rest (a.put o.dst v') w') : wpList Try.prog ops Q (o :: rest) a w := by
  obtain ⟨i0, hi, hz0, hz1, hz2⟩ := info_parts infoSp
  exact wpList_plain hgd fun _ hK => Els.app (E := eSp) w s x 28 35 i0 _ 32 Try.underlying28 hi hz0 hz1 hz2 (by decide) rfl ho base v y l m hs hown hx hr hn hbase fun v' w' h2 h3 h4 h5 => hK _ _ (h v' w' h2 h3 h4 h5)
theorem isNilSp (w : World) (A : Option Addr) (n c : Nat) : (binOp .eql 28 (.slice A n c) (.slice none 0 0)).run Try.prog w = .ok (.bool A.isNone) w := Lib.run_eql_slice_nil w _ _ A n c 0 0 Try.underlying28
theorem eql_sps (x : SpN) (w : World) : (binOp .eql 35 (spV x) (spV x)).run Try.prog w = .ok (.bool true) w := by
  have e1 : (x.a == x.a) = true := by simp
  have e2 : (x.t == x.t) = true := by simp
  have e3 : (x.c == x.c) = true := by simp
  have e4 : (x.l == x.l) = true := by simp
  unfold spV
  go_simp
theorem neq_sps (x : SpN) (w : World) : (binOp .neq 35 (spV x) (spV x)).run Try.prog w = .ok (.bool false) w := by
  have e1 : (x.a == x.a) = true := by simp
  have e2 : (x.t == x.t) = true := by simp
  have e3 : (x.c == x.c) = true := by simp
  have e4 : (x.l == x.l) = true := by simp
  unfold spV
  go_simp
theorem sp_eql (x y : SpN) (w : World) : (binOp .eql 35 (spV x) (spV y)).run Try.prog w = .ok (.bool (eqB x y)) w ∧ (binOp .neq 35 (spV x) (spV y)).run Try.prog w = .ok (.bool (!eqB x y)) w := by
  by_cases h : x = y
  · subst h; rw [eqB_self]; exact ⟨eql_sps x w, neq_sps x w⟩
  · rw [eqB_no h]
    obtain ⟨a, t, c, l⟩ := x
    obtain ⟨a', t', c', l'⟩ := y
    unfold spV
    simp only
    by_cases h1 : a = a'
    · subst h1
      have t1 : (a == a) = true := by simp
      by_cases h2 : t = t'
      · subst h2
        have t2 : (t == t) = true := by simp
        by_cases h3 : c = c'
        · subst h3
          have t3 : (c == c) = true := by simp
          by_cases h4 : l = l'
          · subst h4; exact absurd rfl h
          · have e : (l == l') = false := by simpa using h4
            constructor <;> go_simp
        · have e : (c == c') = false := by simpa using h3
          constructor <;> go_simp
      · have e : (t == t') = false := by simpa using h2
        constructor <;> go_simp
    · have e : (a == a') = false := by simpa using h1
      constructor <;> go_simp
theorem eql_sp (x y : SpN) (w : World) : (binOp .eql 35 (.agg #[.int .u16 x.a, .int .i64 x.t, .int .i64 x.c, .int .i64 x.l]) (.agg #[.int .u16 y.a, .int .i64 y.t, .int .i64 y.c, .int .i64 y.l])).run Try.prog w = .ok (.bool (eqB x y)) w := (sp_eql x y w).1
theorem neq_sp (x y : SpN) (w : World) : (binOp .neq 35 (.agg #[.int .u16 x.a, .int .i64 x.t, .int .i64 x.c, .int .i64 x.l]) (.agg #[.int .u16 y.a, .int .i64 y.t, .int .i64 y.c, .int .i64 y.l])).run Try.prog w = .ok (.bool (!eqB x y)) w := (sp_eql x y w).2
set_option maxRecDepth 100000 in
set_option maxHeartbeats 1000000 in
theorem cloneSp (v : Value) (l : List SpN) (w : World) (h : eSp.Rd w v l) (hn : l.length ≤ 1000000) :
    Calls Try.prog 18 #[v] w fun e w' => ∃ v', e = .returned v' ∧ eSp.Own 35 w' w.heap.size v' l ∧ Below w.heap.size w w' := by
  rcases h with ⟨rfl, rfl⟩ | ⟨ad, c, rfl, h2⟩
  · have hnil := fun u => isNilSp u none 0 0
    simp only [Option.isNone_none] at hnil
    go_enter Try.func18, Try.ntmps18
    go_wp2
    go_ret
    exact ⟨_, rfl, Els.Own.nil_ _ _, Below.refl _ _⟩
  · have hr : eSp.Rd w (.slice (some ad) l.length c) l := .inr ⟨ad, c, rfl, h2⟩
    have HR := Lib.hid (Els.Rd.alloc hr (Obj.cells #[] 35))
    have HO : Hid (eSp.Own 35 (w.alloc (Obj.cells #[] 35)) w.heap.size (.slice (some ⟨w.heap.size, 0, none⟩) 0 0) []) := Lib.hid (World.ownsRow_lit (base := w.heap.size) (size := 4) (e := 35) w #[] 0 (Nat.le_refl _) (by decide) (by rfl))
    have HB := Lib.hid (Below.alloc0 (Below.refl w.heap.size w) (Obj.cells #[] 35))
    obtain ⟨n, hl⟩ : ∃ n, l.length = n := ⟨_, rfl⟩
    rw [hl] at HR hn
    have HL := Lib.hid hl
    rw [hl]
    clear h2 hr hl
    have hnil := fun u => isNilSp u (some ad) n c
    simp only [Option.isNone_some] at hnil
    go_enter Try.func18, Try.ntmps18
    go_wp2_with (at_builtin; refine wpList_appSp rfl _ (.tmp 5) (.tmp 6) rfl w.heap.size _ _ [] l rfl HO.out rfl HR.out (by rw [HL.out]; simp; omega) (by simp) ?_; intro v' w4 hown hbel hgr hwh)
    have HO4 := Lib.hid hown
    have HB4 := Lib.hid (HB.out.trans hbel)
    clear hown hbel hgr hwh
    go_wp2
    go_ret
    exact ⟨_, rfl, HO4.out, HB4.out⟩
theorem takeEq_nextS (l l' : List SpN) (k : Nat) (x : SpN) (h : l.take k = l'.take k) (hx : l[k]? = some x) (hy : l'[k]? = some x) : l.take (k + 1) = l'.take (k + 1) := by
  rw [List.take_add_one, List.take_add_one, h, hx, hy]
set_option maxRecDepth 100000 in
set_option maxHeartbeats 2000000 in
theorem spEq_any (v v' : Value) (l l' : List SpN) (w : World) (h : eSp.Rd w v l) (h' : eSp.Rd w v' l') (hn : l.length ≤ 1000000) :
    Calls Try.prog 10 #[v, v'] w fun e w' => e = .returned (.bool (eqB l l')) ∧ ∃ k, w' = w.drewN k := by
  obtain ⟨A, c, rfl, hc⟩ := h.open_
  obtain ⟨A', c', rfl, hc'⟩ := h'.open_
  obtain ⟨n, hl⟩ : ∃ n, l.length = n := ⟨_, rfl⟩
  obtain ⟨n', hl'⟩ : ∃ n', l'.length = n' := ⟨_, rfl⟩
  rw [hl] at hc hn ⊢
  rw [hl'] at hc' ⊢
  have HL := Lib.hid hl
  have HL' := Lib.hid hl'
  have H := Lib.hid hc
  have H' := Lib.hid hc'
  by_cases hnn : n = n'
  case neg =>
    have E0 := Lib.hid (eqB_no (show l ≠ l' from fun e => hnn (by rw [← hl, ← hl', e])))
    clear h h' hc hc' hl hl' H H' HL HL'
    go_enter Try.func10, Try.ntmps10
    have t : ((n : Int) != (n' : Int)) = true := by rw [bne_iff_ne]; omega
    go_wp2
    go_ret
    exact ⟨ret_bool E0.out.symm, 0, rfl⟩
  subst hnn
  clear h h' hc hc' hl hl'
  go_enter Try.func10, Try.ntmps10
  go_wp2
  go_loopw [13] (fun i wr => ∃ k : Nat, k ≤ n ∧ i = .int .i64 k ∧ Hid (l.take k = l'.take k) ∧ ∃ j, wr = w.drewN j) (fun i _ => n - (intOf i).toNat)
  case atStart => exact ⟨0, Nat.zero_le _, rfl, Lib.hid rfl, 0, rfl⟩
  case round =>
    obtain ⟨k, hk, rfl, HT, j, rfl⟩ := hrel
    by_cases hlt : k < n
    · obtain ⟨b, off, rfl, hb, hcell⟩ := H.out (by omega)
      obtain ⟨b', off', rfl, hb', hcell'⟩ := H'.out (by omega)
      obtain ⟨x, hx⟩ : ∃ x, l[k]? = some x := ⟨_, List.getElem?_eq_getElem (by rw [HL.out]; exact hlt)⟩
      obtain ⟨y, hy⟩ : ∃ y, l'[k]? = some y := ⟨_, List.getElem?_eq_getElem (by rw [HL'.out]; exact hlt)⟩
      obtain ⟨d0, d1, d2, d3⟩ := sp4_at (Below.refl w.heap.size w) hb (fun jj u hu => hcell k x hx jj u hu)
      obtain ⟨f0, f1, f2, f3⟩ := sp4_at (Below.refl w.heap.size w) hb' (fun jj u hu => hcell' k y hy jj u hu)
      have hk0 : (0 : Int) ≤ k := by omega
      have hkn : (k : Int) < n := by omega
      have HE := neq_sp x y
      have HN := Lib.hid (fun e : x = y => takeEq_nextS l l' k x HT.out hx (by rw [hy, e]))
      have HD := Lib.hid (fun e : x ≠ y => eqB_no (show l ≠ l' from fun q => e (by rw [q, hy] at hx; exact (Option.some.inj hx).symm)))
      by_cases hxy : x = y
      · rw [eqB_yes hxy] at HE
        have HN1 := Lib.hid (HN.out hxy)
        clear hcell hcell' hx hy hxy HN HD
        go_wp2
        go_quiet (fail)
        go_wp2
        go_roundw
        case rel => exact ⟨k + 1, by omega, by go_num, HN1, by first | exact ⟨_, rfl⟩ | exact ⟨_, World.drewN_drewN _ _ _⟩⟩
        case measure => simp [intOf]; omega
      · rw [eqB_no hxy] at HE
        have HD1 := Lib.hid (HD.out hxy)
        clear hcell hcell' hx hy hxy HN HD
        go_wp2
        go_quiet (fail)
        go_wp2
        go_ret
        exact ⟨ret_bool HD1.out.symm, by first | exact ⟨_, rfl⟩ | exact ⟨_, World.drewN_drewN _ _ _⟩⟩
    · obtain rfl : k = n := by omega
      have E0 := Lib.hid (eqB_yes (show l = l' by
        have := HT.out
        rwa [List.take_of_length_le (by rw [HL.out]; exact Nat.le_refl _), List.take_of_length_le (by rw [HL'.out]; exact Nat.le_refl _)] at this))
      clear HT
      go_wp2
      go_ret
      exact ⟨ret_bool E0.out.symm, j, rfl⟩
end Go.Proofs.Ytlgaedhbgkhmeaa
