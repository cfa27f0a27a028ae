/- Parts of a trace: the methods of slice.Part. -/
import Derived.Test.YtpleboogijgdcaaRcA
import Derived.Test.YtpleboogijgdcaaRcB
import Derived.Test.YtpleboogijgdcaaRcL
import Derived.Test.YtpleboogijgdcaaRcM
import Derived.Lib.SliceRun
import Derived.IntWalk
namespace Go.Proofs.Ytpleboogijgdcaa
open Go.ChangeShapes Go.WideShapes Go.ChangeAt Go.RowKit
set_option linter.unusedVariables false

def owN (l : List Rc) : Nat := (l.filter (·.m)).length
def stP (x : Rc) : Bool := x.m
def veP (x : Rc) : Bool := x.m && (x.b2 && !x.b1)
def wrP (x : Rc) : Bool := x.m && !x.r
def valO (o : Option Rc) : Int := match o with | some x => x.a | none => 0
theorem owN_next (l : List Rc) (k : Nat) (x : Rc) (h : l[k]? = some x) : owN (l.take (k + 1)) = owN (l.take k) + (if x.m then 1 else 0) := by
  unfold owN
  rw [List.take_add_one, h, List.filter_append, List.length_append]
  simp only [Option.toList, List.filter_cons, List.filter_nil]
  cases x.m <;> rfl
theorem owN_le (l : List Rc) (k : Nat) : owN (l.take k) ≤ k := by
  unfold owN
  refine Nat.le_trans (List.length_filter_le _ _) ?_
  rw [List.length_take]; omega
theorem find_next (p : Rc → Bool) (l : List Rc) (k : Nat) (x : Rc) (h : l[k]? = some x) : (l.take (k + 1)).find? p = ((l.take k).find? p).or (if p x then some x else none) := by
  rw [List.take_add_one, h, List.find?_append]
  simp only [Option.toList, List.find?_cons, List.find?_nil]
  cases p x <;> rfl
theorem filt_next (p : Rc → Bool) (l : List Rc) (k : Nat) (x : Rc) (h : l[k]? = some x) : (l.take (k + 1)).filter p = (l.take k).filter p ++ (if p x then [x] else []) := by
  rw [List.take_add_one, h, List.filter_append]
  simp only [Option.toList, List.filter_cons, List.filter_nil]
theorem filt_len (p : Rc → Bool) (l : List Rc) (k : Nat) : ((l.take k).filter p).length ≤ k := by
  refine Nat.le_trans (List.length_filter_le _ _) ?_
  rw [List.length_take]; omega
theorem find_all {p : Rc → Bool} {l : List Rc} {k : Nat} {x : Rc} (h0 : (l.take k).find? p = none) (h : l[k]? = some x) (hp : p x = true) : l.find? p = some x := by
  have e : l = l.take k ++ x :: l.drop (k + 1) := by
    have hk : k < l.length := by
      rcases Nat.lt_or_ge k l.length with a | a
      · exact a
      · rw [List.getElem?_eq_none a] at h; cases h
    rw [List.getElem?_eq_getElem hk] at h
    injection h with h
    subst h
    rw [← List.drop_eq_getElem_cons hk, List.take_append_drop]
  rw [e, List.find?_append, h0]
  simp [hp]
theorem isNilR (w : World) (A : Option Addr) (n c : Nat) : (binOp .eql 22 (.slice A n c) (.slice none 0 0)).run Try.prog w = .ok (.bool A.isNone) w := Lib.run_eql_slice_nil w _ _ A n c 0 0 Try.underlying22
set_option maxRecDepth 100000 in
set_option maxHeartbeats 1000000 in
theorem cloneR (v : Value) (l : List Rc) (w : World) (h : eR.Rd w v l) (hn : l.length ≤ 1000000) :
    Calls Try.prog 39 #[v] w fun e w' => ∃ v', e = .returned v' ∧ eR.Own 26 w' w.heap.size v' l ∧ Below w.heap.size w w' := by
  rcases h with ⟨rfl, rfl⟩ | ⟨ad, c, rfl, h2⟩
  · have hnil := fun u => isNilR u none 0 0
    simp only [Option.isNone_none] at hnil
    go_enter Try.func39, Try.ntmps39
    go_wp2
    go_ret
    exact ⟨_, rfl, Els.Own.nil_ _ _, Below.refl _ _⟩
  · have hr : eR.Rd w (.slice (some ad) l.length c) l := .inr ⟨ad, c, rfl, h2⟩
    have HR := Lib.hid (Els.Rd.alloc hr (Obj.cells #[] 26))
    have HO : Hid (eR.Own 26 (w.alloc (Obj.cells #[] 26)) w.heap.size (.slice (some ⟨w.heap.size, 0, none⟩) 0 0) []) := Lib.hid (World.ownsRow_lit (base := w.heap.size) (size := 9) (e := 26) w #[] 0 (Nat.le_refl _) (by decide) (by rfl))
    have HB := Lib.hid (Below.alloc0 (Below.refl w.heap.size w) (Obj.cells #[] 26))
    obtain ⟨n, hl⟩ : ∃ n, l.length = n := ⟨_, rfl⟩
    rw [hl] at HR hn
    have HL := Lib.hid hl
    rw [hl]
    clear h2 hr hl
    have hnil := fun u => isNilR u (some ad) n c
    simp only [Option.isNone_some] at hnil
    go_enter Try.func39, Try.ntmps39
    go_wp2_with (at_builtin; refine wpList_appRc rfl _ (.tmp 5) (.tmp 6) rfl w.heap.size _ _ [] l rfl HO.out rfl HR.out (by rw [HL.out]; simp; omega) (by simp) ?_; intro v' w4 hown hbel hgr hwh)
    have HO4 := Lib.hid hown
    have HB4 := Lib.hid (HB.out.trans hbel)
    clear hown hbel hgr hwh
    go_wp2
    go_ret
    exact ⟨_, rfl, HO4.out, HB4.out⟩
set_option maxRecDepth 100000 in
set_option maxHeartbeats 2000000 in
theorem slOwn_any (v : Value) (e : Bool) (l : List Rc) (w : World) (hr : eR.Rd w v l) (hn : l.length ≤ 1000000) :
    Calls Try.prog 43 #[.agg #[v, .bool e]] w fun e w' => e = .returned (.int .i64 (owN l : Nat)) ∧ Below w.heap.size w w' := by
  obtain ⟨A, c, hv, hc⟩ := hr.open_
  obtain ⟨n, hl⟩ : ∃ n, l.length = n := ⟨_, rfl⟩
  rw [hl] at hc hn hv
  subst hv
  have HL := Lib.hid hl
  have HC := Lib.hid hc
  have B0 := Lib.hid (Below.alloc0 (Below.refl w.heap.size w) (.cells #[.slice A n c, .bool e] 39))
  have K0 := Lib.hid (Blk.new w 39 #[.slice A n c, .bool e] (0, 0))
  clear hr hc hl
  go_enter Try.func43, Try.ntmps43
  go_wp2
  go_loopw [3, 9] (fun s i wr => ∃ k : Nat, k ≤ n ∧ i = .int .i64 k ∧ s = .int .i64 (owN (l.take k) : Nat) ∧ Hid (Below w.heap.size w wr)) (fun _ i _ => n - (intOf i).toNat)
  case atStart => exact ⟨0, Nat.zero_le _, rfl, rfl, B0⟩
  case round =>
    obtain ⟨k, hk, rfl, rfl, hB⟩ := hrel
    by_cases hlt : k < n
    · have L0 := owN_le l k
      obtain ⟨g, off, rfl, hg, hcell⟩ := HC.out (by omega)
      obtain ⟨x, hx⟩ : ∃ x, l[k]? = some x := ⟨_, List.getElem?_eq_getElem (by rw [HL.out]; exact hlt)⟩
      obtain ⟨d0, d1, d2, d3, d4, d5, d6, d7, d8⟩ := rc9_at hB.out hg (fun jj u hu => hcell k x hx jj u hu)
      have k0 : (0 : Int) ≤ k := by omega
      have k1 : (k : Int) < n := by omega
      have NX := Lib.hid (owN_next l k x hx)
      generalize owN (l.take k) = z at *
      clear hcell hx
      obtain ⟨a, d, r, b1, b2, b3, b4, b5, m⟩ := x
      simp only at d0 d1 d2 d3 d4 d5 d6 d7 d8 NX
      have HB2 := Lib.hid (Below.alloc0 hB.out (.cells #[.int .u16 a, .int .u8 d, .bool r, .bool b1, .bool b2, .bool b3, .bool b4, .bool b5, .bool m] 26))
      cases m
      case false =>
        go_wp2
        go_roundw
        case rel => exact ⟨k + 1, by omega, by go_num, by rw [NX.out]; simp, HB2⟩
        case measure => simp [intOf]; omega
      case true =>
        go_wp2
        go_roundw
        case rel => exact ⟨k + 1, by omega, by go_num, by rw [NX.out]; simp, HB2⟩
        case measure => simp [intOf]; omega
    · obtain rfl : k = n := by omega
      have E : Hid (owN (l.take k) = owN l) := Lib.hid (by rw [List.take_of_length_le (by rw [HL.out]; exact Nat.le_refl _)])
      go_wp2
      go_ret
      exact ⟨by rw [← E.out]; rfl, hB.out⟩
set_option maxRecDepth 100000 in
set_option maxHeartbeats 2000000 in
theorem slLost_any (v : Value) (e : Bool) (l : List Rc) (w : World) (hr : eR.Rd w v l) (hn : l.length ≤ 1000000) :
    Calls Try.prog 44 #[.agg #[v, .bool e]] w fun e w' => e = .returned (.int .i64 ((l.length : Int) - (owN l : Nat))) ∧ Below w.heap.size w w' := by
  have CO := Lib.hid (fun u (q : Below w.heap.size w u) => slOwn_any v e l u (hr.below q) hn)
  have L0 : owN l ≤ l.length := by have := owN_le l l.length; rwa [List.take_length] at this
  obtain ⟨A, c, hv, hc⟩ := hr.open_
  obtain ⟨n, hl⟩ : ∃ n, l.length = n := ⟨_, rfl⟩
  rw [hl] at hc hn hv L0 ⊢
  subst hv
  have HL := Lib.hid hl
  have HC := Lib.hid hc
  have B0 := Lib.hid (Below.alloc0 (Below.refl w.heap.size w) (.cells #[.slice A n c, .bool e] 39))
  have K0 := Lib.hid (Blk.new w 39 #[.slice A n c, .bool e] (0, 0))
  clear hr hc hl
  generalize owN l = z at *
  have wr1 : IntKind.i64.wrap ((n : Int) - (z : Int)) = (n : Int) - (z : Int) := IntWalk.i64_in _ (by omega)
  have q0 : (w.alloc (.cells #[.slice A n c, .bool e] 39)).cell? ⟨w.heap.size, 0, none⟩ = some (.slice A n c) := (K0.out.cell 0).trans rfl
  have S0 : Hid ((fun w' : World => (w'.cell? ⟨w.heap.size, 0, none⟩ = some (.slice A n c) ∧ w'.cell? ⟨w.heap.size, 1, none⟩ = some (.bool e))) (w.alloc (.cells #[.slice A n c, .bool e] 39)).drew) := Lib.hid (Blk.c2 K0.out)
  have B0d := Lib.hid (Below.drew0 B0.out)
  have K0d := Lib.hid (Blk.drew K0.out)
  go_enter Try.func44, Try.ntmps44
  go_wp2
  refine wp_region_noPanic ?_
  refine wp_region_held_drew (S := (fun w' : World => (w'.cell? ⟨w.heap.size, 0, none⟩ = some (.slice A n c) ∧ w'.cell? ⟨w.heap.size, 1, none⟩ = some (.bool e)))) (by kernel_rfl) ?_ (fun hH0 => ?_)
  · (try dsimp only); with_reducible exact S0.out
  refine wpAnyH_take (i := 0) (oi := ({ dst := some 3, op := Op.fieldAddr 39 (Operand.tmp 1) 0, type := 0, pos := "slice.go:48", after := #[], guard := none } : Oper)) (v := ?_) rfl (by kernel_rfl) (by kernel_rfl) (by kernel_rfl) (fun _ _ _ h => h) (Or.inl ⟨by rfl, ?_⟩) (by assumption) ?_
  rotate_left 1
  · (intro w hSw; (try dsimp only at hSw); go_simp; (try with_reducible rfl))
  (try simp only [Act.put, List.setIfInBounds_toArray, List.set_cons_zero, List.set_cons_succ])
  refine wpAnyH_take (i := 1) (oi := ({ dst := some 4, op := Op.load 22 (Operand.tmp 3), type := 22, pos := "slice.go:48", after := #[{ on := 0, ground := Ground.data }], guard := none } : Oper)) (v := ?_) rfl (by kernel_rfl) (by kernel_rfl) (by kernel_rfl) (fun _ _ _ h => h) (Or.inl ⟨by rfl, ?_⟩) (by assumption) ?_
  rotate_left 1
  · (intro w hSw; (try dsimp only at hSw); go_simp; (try with_reducible rfl))
  (try simp only [Act.put, List.setIfInBounds_toArray, List.set_cons_zero, List.set_cons_succ])
  refine wpAnyH_take (i := 2) (oi := ({ dst := some 5, op := Op.call { callee := Callee.builtin Builtin.len, args := #[Operand.tmp 4], argTypes := #[22] }, type := 3, pos := "slice.go:48", after := #[{ on := 1, ground := Ground.data }], guard := none } : Oper)) (v := ?_) rfl (by kernel_rfl) (by kernel_rfl) (by kernel_rfl) (fun _ _ _ h => h) (Or.inl ⟨by rfl, ?_⟩) (by assumption) ?_
  rotate_left 1
  · (intro w hSw; (try dsimp only at hSw); go_simp; (try with_reducible rfl))
  (try simp only [Act.put, List.setIfInBounds_toArray, List.set_cons_zero, List.set_cons_succ])
  refine wpAnyH_take (i := 3) (oi := ({ dst := some 6, op := Op.load 39 (Operand.tmp 1), type := 39, pos := "slice.go:48", after := #[], guard := none } : Oper)) (v := ?_) rfl (by kernel_rfl) (by kernel_rfl) (by kernel_rfl) (fun _ _ _ h => h) (Or.inl ⟨by rfl, ?_⟩) (by assumption) ?_
  rotate_left 1
  · (intro w hSw; (try dsimp only at hSw); go_simp; (try with_reducible rfl))
  (try simp only [Act.put, List.setIfInBounds_toArray, List.set_cons_zero, List.set_cons_succ])
  refine wpAnyH_ready (rs := [4]) (by kernel_rfl) (by simp) ?_
  refine AllReadyH.cons (o := ({ dst := some 7, op := Op.call { callee := Callee.value (Operand.func 43), args := #[Operand.tmp 6], argTypes := #[39] }, type := 3, pos := "slice.go:48", after := #[{ on := 3, ground := Ground.data }], guard := none } : Oper)) rfl (fun K hK => ?_) ?_
  rotate_left 1
  · exact AllReadyH.nil
  go_simp
  go_at_call 43
  ((with_reducible refine (CO.out _ B0d.out).mono ?_); rintro e1 w1 ⟨rfl, hb⟩; have B1 := Lib.hid (Below.trans0 B0d.out hb); have K1 := Lib.hid (Blk.below K0d.out hb K0d.out.lt); clear hb)
  first | (refine hK.out _ _ ?_ (fun hH1 => ?_)) | (go_wp2_with fail; refine hK.out _ _ ?_ (fun hH1 => ?_))
  · (try dsimp only); with_reducible exact Blk.c2 K1.out
  clear hK K hH0
  (try simp only [Act.put, List.setIfInBounds_toArray, List.set_cons_zero, List.set_cons_succ])
  refine wpAnyH_take (i := 5) (oi := ({ dst := some 8, op := Op.binOp BinOp.sub 3 (Operand.tmp 5) (Operand.tmp 7) 3, type := 3, pos := "slice.go:48", after := #[{ on := 2, ground := Ground.data }, { on := 4, ground := Ground.data }], guard := none } : Oper)) (v := ?_) rfl (by kernel_rfl) (by kernel_rfl) (by kernel_rfl) (fun _ _ _ h => h) (Or.inl ⟨by rfl, ?_⟩) (by assumption) ?_
  rotate_left 1
  · (intro w hSw; (try dsimp only at hSw); go_simp; (try with_reducible rfl))
  (try simp only [Act.put, List.setIfInBounds_toArray, List.set_cons_zero, List.set_cons_succ])
  refine wpAnyH_take (i := 6) (oi := ({ dst := some 2, op := Op.assign (Operand.tmp 8), type := 3, pos := "slice.go:48", after := #[{ on := 5, ground := Ground.data }, { on := 4, ground := Ground.chain }, { on := 0, ground := Ground.phase }, { on := 1, ground := Ground.phase }, { on := 2, ground := Ground.phase }, { on := 3, ground := Ground.phase }, { on := 4, ground := Ground.phase }, { on := 5, ground := Ground.phase }], guard := none } : Oper)) (v := ?_) rfl (by kernel_rfl) (by kernel_rfl) (by kernel_rfl) (fun _ _ _ h => h) (Or.inl ⟨by rfl, ?_⟩) (by assumption) ?_
  rotate_left 1
  · (intro w hSw; (try dsimp only at hSw); go_simp; (try with_reducible rfl))
  (try simp only [Act.put, List.setIfInBounds_toArray, List.set_cons_zero, List.set_cons_succ])
  refine wpAnyH_done (by kernel_rfl) ?_ _
  refine NoPanic.normal ?_
  all_goals
    go_wp2
    go_ret
    exact ⟨rfl, B1.out⟩
set_option maxRecDepth 100000 in
set_option maxHeartbeats 2000000 in
theorem slStart_any (v : Value) (e : Bool) (l : List Rc) (w : World) (hr : eR.Rd w v l) (hn : l.length ≤ 1000000) :
    Calls Try.prog 40 #[.agg #[v, .bool e]] w fun e w' => e = .returned (.tuple #[.int .u16 (valO (l.find? stP)), .bool (l.find? stP).isSome]) ∧ Below w.heap.size w w' := by
  obtain ⟨A, c, hv, hc⟩ := hr.open_
  obtain ⟨n, hl⟩ : ∃ n, l.length = n := ⟨_, rfl⟩
  rw [hl] at hc hn hv
  subst hv
  have HL := Lib.hid hl
  have HC := Lib.hid hc
  have B0 := Lib.hid (Below.alloc0 (Below.refl w.heap.size w) (.cells #[.slice A n c, .bool e] 39))
  have K0 := Lib.hid (Blk.new w 39 #[.slice A n c, .bool e] (0, 0))
  clear hr hc hl
  go_enter Try.func40, Try.ntmps40
  go_wp2
  go_loopw [9] (fun i wr => ∃ k : Nat, k ≤ n ∧ i = .int .i64 k ∧ Hid ((l.take k).find? stP = none) ∧ Hid (Below w.heap.size w wr)) (fun i _ => n - (intOf i).toNat)
  case atStart => exact ⟨0, Nat.zero_le _, rfl, Lib.hid rfl, B0⟩
  case round =>
    obtain ⟨k, hk, rfl, hF, hB⟩ := hrel
    by_cases hlt : k < n
    · obtain ⟨g, off, rfl, hg, hcell⟩ := HC.out (by omega)
      obtain ⟨x, hx⟩ : ∃ x, l[k]? = some x := ⟨_, List.getElem?_eq_getElem (by rw [HL.out]; exact hlt)⟩
      obtain ⟨d0, d1, d2, d3, d4, d5, d6, d7, d8⟩ := rc9_at hB.out hg (fun jj u hu => hcell k x hx jj u hu)
      have k0 : (0 : Int) ≤ k := by omega
      have k1 : (k : Int) < n := by omega
      have NX := Lib.hid (find_next stP l k x hx)
      have FA := Lib.hid (fun hp => find_all (p := stP) hF.out hx hp)
      rw [hF.out] at NX
      clear hcell hx
      obtain ⟨a, d, r, b1, b2, b3, b4, b5, m⟩ := x
      simp only at d0 d1 d2 d3 d4 d5 d6 d7 d8
      have HB2 := Lib.hid (Below.alloc0 hB.out (.cells #[.int .u16 a, .int .u8 d, .bool r, .bool b1, .bool b2, .bool b3, .bool b4, .bool b5, .bool m] 26))
      cases m
      case false =>
        go_wp2
        go_roundw
        case rel => exact ⟨k + 1, by omega, by go_num, Lib.hid (by rw [NX.out]; rfl), HB2⟩
        case measure => simp [intOf]; omega
      case true =>
        have E := Lib.hid (FA.out rfl)
        go_wp2
        go_ret2
        exact ⟨by rw [E.out]; rfl, HB2.out⟩
    · obtain rfl : k = n := by omega
      have E : Hid (l.find? stP = none) := Lib.hid (by have := hF.out; rwa [List.take_of_length_le (by rw [HL.out]; exact Nat.le_refl _)] at this)
      go_wp2
      go_ret2
      exact ⟨by rw [E.out]; rfl, hB.out⟩
set_option maxRecDepth 100000 in
set_option maxHeartbeats 2000000 in
theorem slVector_any (v : Value) (e : Bool) (l : List Rc) (w : World) (hr : eR.Rd w v l) (hn : l.length ≤ 1000000) :
    Calls Try.prog 41 #[.agg #[v, .bool e]] w fun e w' => e = .returned (.tuple #[.int .u16 (valO (l.find? veP)), .bool (l.find? veP).isSome]) ∧ Below w.heap.size w w' := by
  obtain ⟨A, c, hv, hc⟩ := hr.open_
  obtain ⟨n, hl⟩ : ∃ n, l.length = n := ⟨_, rfl⟩
  rw [hl] at hc hn hv
  subst hv
  have HL := Lib.hid hl
  have HC := Lib.hid hc
  have B0 := Lib.hid (Below.alloc0 (Below.refl w.heap.size w) (.cells #[.slice A n c, .bool e] 39))
  have K0 := Lib.hid (Blk.new w 39 #[.slice A n c, .bool e] (0, 0))
  clear hr hc hl
  go_enter Try.func41, Try.ntmps41
  go_wp2
  go_loopw [9] (fun i wr => ∃ k : Nat, k ≤ n ∧ i = .int .i64 k ∧ Hid ((l.take k).find? veP = none) ∧ Hid (Below w.heap.size w wr)) (fun i _ => n - (intOf i).toNat)
  case atStart => exact ⟨0, Nat.zero_le _, rfl, Lib.hid rfl, B0⟩
  case round =>
    obtain ⟨k, hk, rfl, hF, hB⟩ := hrel
    by_cases hlt : k < n
    · obtain ⟨g, off, rfl, hg, hcell⟩ := HC.out (by omega)
      obtain ⟨x, hx⟩ : ∃ x, l[k]? = some x := ⟨_, List.getElem?_eq_getElem (by rw [HL.out]; exact hlt)⟩
      obtain ⟨d0, d1, d2, d3, d4, d5, d6, d7, d8⟩ := rc9_at hB.out hg (fun jj u hu => hcell k x hx jj u hu)
      have k0 : (0 : Int) ≤ k := by omega
      have k1 : (k : Int) < n := by omega
      have NX := Lib.hid (find_next veP l k x hx)
      have FA := Lib.hid (fun hp => find_all (p := veP) hF.out hx hp)
      rw [hF.out] at NX
      clear hcell hx
      obtain ⟨a, d, r, b1, b2, b3, b4, b5, m⟩ := x
      simp only at d0 d1 d2 d3 d4 d5 d6 d7 d8
      have HB2 := Lib.hid (Below.alloc0 hB.out (.cells #[.int .u16 a, .int .u8 d, .bool r, .bool b1, .bool b2, .bool b3, .bool b4, .bool b5, .bool m] 26))
      cases m
      case false =>
        go_wp2
        go_roundw
        case rel => exact ⟨k + 1, by omega, by go_num, Lib.hid (by rw [NX.out]; rfl), HB2⟩
        case measure => simp [intOf]; omega
      case true =>
        cases b2
        case false =>
          go_wp2
          go_roundw
          case rel => exact ⟨k + 1, by omega, by go_num, Lib.hid (by rw [NX.out]; rfl), HB2⟩
          case measure => simp [intOf]; omega
        case true =>
          cases b1
          case false =>
            have E := Lib.hid (FA.out rfl)
            go_wp2
            go_ret2
            exact ⟨by rw [E.out]; rfl, HB2.out⟩
          case true =>
            go_wp2
            go_roundw
            case rel => exact ⟨k + 1, by omega, by go_num, Lib.hid (by rw [NX.out]; rfl), HB2⟩
            case measure => simp [intOf]; omega
    · obtain rfl : k = n := by omega
      have E : Hid (l.find? veP = none) := Lib.hid (by have := hF.out; rwa [List.take_of_length_le (by rw [HL.out]; exact Nat.le_refl _)] at this)
      go_wp2
      go_ret2
      exact ⟨by rw [E.out]; rfl, hB.out⟩
set_option maxRecDepth 100000 in
set_option maxHeartbeats 2000000 in
theorem slWrites_any (v : Value) (e : Bool) (l : List Rc) (w : World) (hr : eR.Rd w v l) (hn : l.length ≤ 1000000) :
    Calls Try.prog 45 #[.agg #[v, .bool e]] w fun e w' => ∃ v', e = .returned v' ∧ eR.Own 26 w' w.heap.size v' (l.filter wrP) ∧ Below w.heap.size w w' := by
  obtain ⟨A, c, hv, hc⟩ := hr.open_
  obtain ⟨n, hl⟩ : ∃ n, l.length = n := ⟨_, rfl⟩
  rw [hl] at hc hn hv
  subst hv
  have HL := Lib.hid hl
  have HC := Lib.hid hc
  have B0 := Lib.hid (Below.alloc0 (Below.refl w.heap.size w) (.cells #[.slice A n c, .bool e] 39))
  have K0 := Lib.hid (Blk.new w 39 #[.slice A n c, .bool e] (0, 0))
  clear hr hc hl
  go_enter Try.func45, Try.ntmps45
  go_wp2
  go_loopw [3, 9] (fun s i wr => ∃ k : Nat, k ≤ n ∧ i = .int .i64 k ∧ Hid (eR.Own 26 wr w.heap.size s ((l.take k).filter wrP)) ∧ Hid (Below w.heap.size w wr)) (fun _ i _ => n - (intOf i).toNat)
  case atStart => exact ⟨0, Nat.zero_le _, rfl, Lib.hid (Els.Own.nil_ _ _), B0⟩
  case round =>
    obtain ⟨k, hk, rfl, hO, hB⟩ := hrel
    by_cases hlt : k < n
    · have LN := filt_len wrP l k
      obtain ⟨g, off, rfl, hg, hcell⟩ := HC.out (by omega)
      obtain ⟨x, hx⟩ : ∃ x, l[k]? = some x := ⟨_, List.getElem?_eq_getElem (by rw [HL.out]; exact hlt)⟩
      obtain ⟨d0, d1, d2, d3, d4, d5, d6, d7, d8⟩ := rc9_at hB.out hg (fun jj u hu => hcell k x hx jj u hu)
      have k0 : (0 : Int) ≤ k := by omega
      have k1 : (k : Int) < n := by omega
      have NX := Lib.hid (filt_next wrP l k x hx)
      obtain ⟨L, hL⟩ : ∃ L, (l.take k).filter wrP = L := ⟨_, rfl⟩
      rw [hL] at hO NX LN
      clear hcell hx hL
      obtain ⟨a, d, r, b1, b2, b3, b4, b5, m⟩ := x
      simp only at d0 d1 d2 d3 d4 d5 d6 d7 d8 NX
      have HB2 := Lib.hid (Below.alloc0 hB.out (.cells #[.int .u16 a, .int .u8 d, .bool r, .bool b1, .bool b2, .bool b3, .bool b4, .bool b5, .bool m] 26))
      have HO2 := Lib.hid (hO.out.alloc (.cells #[.int .u16 a, .int .u8 d, .bool r, .bool b1, .bool b2, .bool b3, .bool b4, .bool b5, .bool m] 26))
      cases m
      case false =>
        go_wp2
        go_roundw
        case rel => exact ⟨k + 1, by omega, by go_num, by rw [NX.out]; first | exact HO2 | (rw [List.append_nil]; exact HO2) | (rw [if_neg (by simp [wrP]), List.append_nil]; exact HO2), HB2⟩
        case measure => simp [intOf]; omega
      case true =>
        cases r
        case true =>
          go_wp2
          go_roundw
          case rel => exact ⟨k + 1, by omega, by go_num, by rw [NX.out]; first | exact HO2 | (rw [List.append_nil]; exact HO2) | (rw [if_neg (by simp [wrP]), List.append_nil]; exact HO2), HB2⟩
          case measure => simp [intOf]; omega
        case false =>
          have HB3 := Lib.hid (Below.alloc0 HB2.out (.cells #[.int .u16 a, .int .u8 d, .bool false, .bool b1, .bool b2, .bool b3, .bool b4, .bool b5, .bool true] 26))
          have HO3 := Lib.hid (HO2.out.alloc (.cells #[.int .u16 a, .int .u8 d, .bool false, .bool b1, .bool b2, .bool b3, .bool b4, .bool b5, .bool true] 26))
          have HR3 : Hid (eR.Rd ((wr.alloc (.cells #[.int .u16 a, .int .u8 d, .bool false, .bool b1, .bool b2, .bool b3, .bool b4, .bool b5, .bool true] 26)).alloc (.cells #[.int .u16 a, .int .u8 d, .bool false, .bool b1, .bool b2, .bool b3, .bool b4, .bool b5, .bool true] 26)) (.slice (some ⟨wr.heap.size + 1, 0, none⟩) 1 1) [(⟨a, d, false, b1, b2, b3, b4, b5, true⟩ : Rc)]) := Lib.hid (Els.Rd.new (E := eR) (g := wr.heap.size + 1) (wr.alloc (.cells #[.int .u16 a, .int .u8 d, .bool false, .bool b1, .bool b2, .bool b3, .bool b4, .bool b5, .bool true] 26)) (by simp) 26 [(⟨a, d, false, b1, b2, b3, b4, b5, true⟩ : Rc)] #[.int .u16 a, .int .u8 d, .bool false, .bool b1, .bool b2, .bool b3, .bool b4, .bool b5, .bool true] 1 rfl rfl 1)
          have CE : Hid (w.heap.size ≤ wr.heap.size) := Lib.hid hB.out.size
          go_wp2_with (at_builtin; refine wpList_appRc rfl _ (.tmp 20) (.tmp 22) rfl w.heap.size u3 _ L _ rfl HO3.out rfl HR3.out (by first | omega | (simp; omega)) (by have := CE.out; first | omega | (simp; omega)) ?_; intro v' w2 hown hbel hgr hwh; have HO4 := Lib.hid hown; have HB4 := Lib.hid (Below.trans HB3.out hbel); clear hown hbel hgr hwh)
          go_roundw
          case rel => exact ⟨k + 1, by omega, by go_num, by rw [NX.out]; exact HO4, HB4⟩
          case measure => simp [intOf]; omega
    · obtain rfl : k = n := by omega
      have HO2 : Hid (eR.Own 26 wr w.heap.size u3 (l.filter wrP)) := Lib.hid (by have := hO.out; rwa [List.take_of_length_le (by rw [HL.out]; exact Nat.le_refl _)] at this)
      go_wp2
      go_ret
      exact ⟨u3, rfl, HO2.out, hB.out⟩
/-- A part's text. -/
noncomputable def slT (l : List Rc) (e : Bool) : ByteArray := if e then strOfNums (l.flatMap lnN) ++ ⟨#[45, 10]⟩ else strOfNums (l.flatMap lnN)
theorem ln_len2 (l : List Rc) (hok : ∀ x ∈ l, x.Ok) : (l.flatMap lnN).length = 18 * l.length := by
  induction l with
  | nil => rfl
  | cons y m ih =>
    rw [List.flatMap_cons, List.length_append, ih (fun z hz => hok z (List.mem_cons_of_mem _ hz)), List.length_cons]
    have h17 := txN_len y (hok y (List.mem_cons_self ..))
    rw [strOfNums_size] at h17
    unfold lnN
    rw [List.length_append, h17]; simp; omega
set_option maxRecDepth 100000 in
set_option maxHeartbeats 2000000 in
theorem slText_any (v : Value) (e : Bool) (l : List Rc) (w : World) (hr : eR.Rd w v l) (hok : ∀ x ∈ l, x.Ok) (hn : l.length ≤ 1000) :
    Calls Try.prog 46 #[.agg #[v, .bool e]] w fun e' w' => e' = .returned (.string (slT l e)) ∧ Below w.heap.size w w' := by
  have CL := Lib.hid (fun u (q : Below w.heap.size w u) => rcLines_any v l u (hr.below q) hok hn txN_rng)
  have ZL : (strOfNums (l.flatMap lnN)).size ≤ 18000 := by rw [strOfNums_size, ln_len2 l hok]; omega
  obtain ⟨A, c, hv, hc⟩ := hr.open_
  obtain ⟨n, hl⟩ : ∃ n, l.length = n := ⟨_, rfl⟩
  rw [hl] at hc hn hv
  subst hv
  have HL := Lib.hid hl
  have HC := Lib.hid hc
  have B0 := Lib.hid (Below.alloc0 (Below.refl w.heap.size w) (.cells #[.slice A n c, .bool e] 39))
  have K0 := Lib.hid (Blk.new w 39 #[.slice A n c, .bool e] (0, 0))
  clear hr hc hl
  obtain ⟨q0, q1⟩ := Blk.c2 K0.out
  unfold slT
  obtain ⟨S, hS⟩ : ∃ S, strOfNums (l.flatMap lnN) = S := ⟨_, rfl⟩
  rw [hS] at CL ZL ⊢
  clear hS
  have y1 : ¬ 9223372036854775807 < S.size + 2 := by omega
  cases e
  case false =>
    rw [if_neg (by decide)]
    go_enter Try.func46, Try.ntmps46
    go_wp2_with fail
    refine (CL.out _ B0.out).mono ?_
    rintro e w1 ⟨rfl, hb⟩
    have B1 := Lib.hid (Below.trans0 B0.out hb)
    clear hb
    go_wp2
    go_ret
    exact ⟨rfl, B1.out⟩
  case true =>
    rw [if_pos rfl]
    go_enter Try.func46, Try.ntmps46
    go_wp2_with fail
    refine (CL.out _ B0.out).mono ?_
    rintro e w1 ⟨rfl, hb⟩
    have B1 := Lib.hid (Below.trans0 B0.out hb)
    clear hb
    go_wp2
    go_ret
    exact ⟨rfl, B1.out⟩
end Go.Proofs.Ytpleboogijgdcaa
