/- Parts of a trace: how many own records, how many lost, where the first own one is (slice.Part's Own, Lost, Start). -/
import Derived.Test.YtlgaedhbgkhmeaaRec
import Derived.Deep.RegionHeld3
import Derived.Deep.QuietTactic
import Derived.BigQuiet
import Derived.IntWalk
namespace Go.Proofs.Ytlgaedhbgkhmeaa
open Go.ChangeShapes Go.WideShapes Go.ChangeAt Go.RowKit
set_option linter.unusedVariables false
def owN (l : List Rc) : Nat := (l.filter (·.m)).length
def stP (x : Rc) : Bool := x.m
def veP (x : Rc) : Bool := x.m && (x.b2 && !x.b1)
def wrP (x : Rc) : Bool := x.m && !x.r
def valO (o : Option Rc) : Int := match o with | some x => x.a | none => 0
theorem owN_next (l : List Rc) (k : Nat) (x : Rc) (h : l[k]? = some x) : owN (l.take (k + 1)) = owN (l.take k) + (if x.m then 1 else 0) := by
  unfold owN
  rw [List.take_add_one, h, List.filter_append, List.length_append]
  simp only [Option.toList, List.filter_cons, List.filter_nil]
  cases x.m <;> rfl
theorem owN_le (l : List Rc) (k : Nat) : owN (l.take k) ≤ k := by
  unfold owN
  refine Nat.le_trans (List.length_filter_le _ _) ?_
  rw [List.length_take]; omega
theorem find_next (p : Rc → Bool) (l : List Rc) (k : Nat) (x : Rc) (h : l[k]? = some x) : (l.take (k + 1)).find? p = ((l.take k).find? p).or (if p x then some x else none) := by
  rw [List.take_add_one, h, List.find?_append]
  simp only [Option.toList, List.find?_cons, List.find?_nil]
  cases p x <;> rfl
theorem filt_next (p : Rc → Bool) (l : List Rc) (k : Nat) (x : Rc) (h : l[k]? = some x) : (l.take (k + 1)).filter p = (l.take k).filter p ++ (if p x then [x] else []) := by
  rw [List.take_add_one, h, List.filter_append]
  simp only [Option.toList, List.filter_cons, List.filter_nil]
theorem filt_len (p : Rc → Bool) (l : List Rc) (k : Nat) : ((l.take k).filter p).length ≤ k := by
  refine Nat.le_trans (List.length_filter_le _ _) ?_
  rw [List.length_take]; omega
theorem find_all {p : Rc → Bool} {l : List Rc} {k : Nat} {x : Rc} (h0 : (l.take k).find? p = none) (h : l[k]? = some x) (hp : p x = true) : l.find? p = some x := by
  have e : l = l.take k ++ x :: l.drop (k + 1) := by
    have hk : k < l.length := by
      rcases Nat.lt_or_ge k l.length with a | a
      · exact a
      · rw [List.getElem?_eq_none a] at h; cases h
    rw [List.getElem?_eq_getElem hk] at h
    injection h with h
    subst h
    rw [← List.drop_eq_getElem_cons hk, List.take_append_drop]
  rw [e, List.find?_append, h0]
  simp [hp]
set_option maxRecDepth 100000 in
set_option maxHeartbeats 2000000 in
theorem slOwn_any (v : Value) (e : Bool) (l : List Rc) (w : World) (hr : eR.Rd w v l) (hn : l.length ≤ 1000000) :
    Calls Try.prog 16 #[.agg #[v, .bool e]] w fun e w' => e = .returned (.int .i64 (owN l : Nat)) ∧ Below w.heap.size w w' := by
  obtain ⟨A, c, hv, hc⟩ := hr.open_
  obtain ⟨n, hl⟩ : ∃ n, l.length = n := ⟨_, rfl⟩
  rw [hl] at hc hn hv
  subst hv
  have HL := Lib.hid hl
  have HC := Lib.hid hc
  have B0 := Lib.hid (Below.alloc0 (Below.refl w.heap.size w) (.cells #[.slice A n c, .bool e] 32))
  have K0 := Lib.hid (Blk.new w 32 #[.slice A n c, .bool e] (0, 0))
  clear hr hc hl
  go_enter Try.func16, Try.ntmps16
  go_wp2
  go_loopw [3, 9] (fun s i wr => ∃ k : Nat, k ≤ n ∧ i = .int .i64 k ∧ s = .int .i64 (owN (l.take k) : Nat) ∧ Hid (Below w.heap.size w wr)) (fun _ i _ => n - (intOf i).toNat)
  case atStart => exact ⟨0, Nat.zero_le _, rfl, rfl, B0⟩
  case round =>
    obtain ⟨k, hk, rfl, rfl, hB⟩ := hrel
    by_cases hlt : k < n
    · have L0 := owN_le l k
      obtain ⟨g, off, rfl, hg, hcell⟩ := HC.out (by omega)
      obtain ⟨x, hx⟩ : ∃ x, l[k]? = some x := ⟨_, List.getElem?_eq_getElem (by rw [HL.out]; exact hlt)⟩
      obtain ⟨d0, d1, d2, d3, d4, d5, d6, d7, d8⟩ := rc9_at hB.out hg (fun jj u hu => hcell k x hx jj u hu)
      have k0 : (0 : Int) ≤ k := by omega
      have k1 : (k : Int) < n := by omega
      have NX := Lib.hid (owN_next l k x hx)
      generalize owN (l.take k) = z at *
      clear hcell hx
      obtain ⟨a, d, r, b1, b2, b3, b4, b5, m⟩ := x
      simp only at d0 d1 d2 d3 d4 d5 d6 d7 d8 NX
      have HB2 := Lib.hid (Below.alloc0 hB.out (.cells #[.int .u16 a, .int .u8 d, .bool r, .bool b1, .bool b2, .bool b3, .bool b4, .bool b5, .bool m] 51))
      cases m
      case false =>
        go_wp2
        go_roundw
        case rel => exact ⟨k + 1, by omega, by go_num, by rw [NX.out]; simp, HB2⟩
        case measure => simp [intOf]; omega
      case true =>
        go_wp2
        go_roundw
        case rel => exact ⟨k + 1, by omega, by go_num, by rw [NX.out]; simp, HB2⟩
        case measure => simp [intOf]; omega
    · obtain rfl : k = n := by omega
      have E : Hid (owN (l.take k) = owN l) := Lib.hid (by rw [List.take_of_length_le (by rw [HL.out]; exact Nat.le_refl _)])
      go_wp2
      go_ret
      exact ⟨by rw [← E.out]; rfl, hB.out⟩
set_option maxRecDepth 100000 in
set_option maxHeartbeats 2000000 in
theorem slLost_any (v : Value) (e : Bool) (l : List Rc) (w : World) (hr : eR.Rd w v l) (hn : l.length ≤ 1000000) :
    Calls Try.prog 17 #[.agg #[v, .bool e]] w fun e w' => e = .returned (.int .i64 ((l.length : Int) - (owN l : Nat))) ∧ Below w.heap.size w w' := by
  have CO := Lib.hid (fun u (q : Below w.heap.size w u) => slOwn_any v e l u (hr.below q) hn)
  have L0 : owN l ≤ l.length := by have := owN_le l l.length; rwa [List.take_length] at this
  obtain ⟨A, c, hv, hc⟩ := hr.open_
  obtain ⟨n, hl⟩ : ∃ n, l.length = n := ⟨_, rfl⟩
  rw [hl] at hc hn hv L0 ⊢
  subst hv
  have HL := Lib.hid hl
  have HC := Lib.hid hc
  have B0 := Lib.hid (Below.alloc0 (Below.refl w.heap.size w) (.cells #[.slice A n c, .bool e] 32))
  have K0 := Lib.hid (Blk.new w 32 #[.slice A n c, .bool e] (0, 0))
  clear hr hc hl
  generalize owN l = z at *
  have wr1 : IntKind.i64.wrap ((n : Int) - (z : Int)) = (n : Int) - (z : Int) := IntWalk.i64_in _ (by omega)
  have q0 : (w.alloc (.cells #[.slice A n c, .bool e] 32)).cell? ⟨w.heap.size, 0, none⟩ = some (.slice A n c) := (K0.out.cell 0).trans rfl
  have S0 : Hid ((fun w' : World => (w'.cell? ⟨w.heap.size, 0, none⟩ = some (.slice A n c) ∧ w'.cell? ⟨w.heap.size, 1, none⟩ = some (.bool e))) (w.alloc (.cells #[.slice A n c, .bool e] 32)).drew) := Lib.hid (Blk.c2 K0.out)
  have B0d := Lib.hid (Below.drew0 B0.out)
  have K0d := Lib.hid (Blk.drew K0.out)
  go_enter Try.func17, Try.ntmps17
  go_wp2
  refine wp_region_noPanic ?_
  refine wp_region_held_drew (S := (fun w' : World => (w'.cell? ⟨w.heap.size, 0, none⟩ = some (.slice A n c) ∧ w'.cell? ⟨w.heap.size, 1, none⟩ = some (.bool e)))) (by kernel_rfl) ?_ (fun hH0 => ?_)
  · (try dsimp only); with_reducible exact S0.out
  refine wpAnyH_take (i := 0) (oi := ({ dst := some 3, op := Op.fieldAddr 32 (Operand.tmp 1) 0, type := 0, pos := "slice.go:48", after := #[], guard := none } : Oper)) (v := ?_) rfl (by kernel_rfl) (by kernel_rfl) (by kernel_rfl) (fun _ _ _ h => h) (Or.inl ⟨by rfl, ?_⟩) (by assumption) ?_
  rotate_left 1
  · (intro w hSw; (try dsimp only at hSw); go_simp; (try with_reducible rfl))
  (try simp only [Act.put, List.setIfInBounds_toArray, List.set_cons_zero, List.set_cons_succ])
  refine wpAnyH_take (i := 1) (oi := ({ dst := some 4, op := Op.load 29 (Operand.tmp 3), type := 29, pos := "slice.go:48", after := #[{ on := 0, ground := Ground.data }], guard := none } : Oper)) (v := ?_) rfl (by kernel_rfl) (by kernel_rfl) (by kernel_rfl) (fun _ _ _ h => h) (Or.inl ⟨by rfl, ?_⟩) (by assumption) ?_
  rotate_left 1
  · (intro w hSw; (try dsimp only at hSw); go_simp; (try with_reducible rfl))
  (try simp only [Act.put, List.setIfInBounds_toArray, List.set_cons_zero, List.set_cons_succ])
  refine wpAnyH_take (i := 2) (oi := ({ dst := some 5, op := Op.call { callee := Callee.builtin Builtin.len, args := #[Operand.tmp 4], argTypes := #[29] }, type := 3, pos := "slice.go:48", after := #[{ on := 1, ground := Ground.data }], guard := none } : Oper)) (v := ?_) rfl (by kernel_rfl) (by kernel_rfl) (by kernel_rfl) (fun _ _ _ h => h) (Or.inl ⟨by rfl, ?_⟩) (by assumption) ?_
  rotate_left 1
  · (intro w hSw; (try dsimp only at hSw); go_simp; (try with_reducible rfl))
  (try simp only [Act.put, List.setIfInBounds_toArray, List.set_cons_zero, List.set_cons_succ])
  refine wpAnyH_take (i := 3) (oi := ({ dst := some 6, op := Op.load 32 (Operand.tmp 1), type := 32, pos := "slice.go:48", after := #[], guard := none } : Oper)) (v := ?_) rfl (by kernel_rfl) (by kernel_rfl) (by kernel_rfl) (fun _ _ _ h => h) (Or.inl ⟨by rfl, ?_⟩) (by assumption) ?_
  rotate_left 1
  · (intro w hSw; (try dsimp only at hSw); go_simp; (try with_reducible rfl))
  (try simp only [Act.put, List.setIfInBounds_toArray, List.set_cons_zero, List.set_cons_succ])
  refine wpAnyH_ready (rs := [4]) (by kernel_rfl) (by simp) ?_
  refine AllReadyH.cons (o := ({ dst := some 7, op := Op.call { callee := Callee.value (Operand.func 16), args := #[Operand.tmp 6], argTypes := #[32] }, type := 3, pos := "slice.go:48", after := #[{ on := 3, ground := Ground.data }], guard := none } : Oper)) rfl (fun K hK => ?_) ?_
  rotate_left 1
  · exact AllReadyH.nil
  go_simp
  go_at_call 16
  ((with_reducible refine (CO.out _ B0d.out).mono ?_); rintro e1 w1 ⟨rfl, hb⟩; have B1 := Lib.hid (Below.trans0 B0d.out hb); have K1 := Lib.hid (Blk.below K0d.out hb K0d.out.lt); clear hb)
  first | (refine hK.out _ _ ?_ (fun hH1 => ?_)) | (go_wp2_with fail; refine hK.out _ _ ?_ (fun hH1 => ?_))
  · (try dsimp only); with_reducible exact Blk.c2 K1.out
  clear hK K hH0
  (try simp only [Act.put, List.setIfInBounds_toArray, List.set_cons_zero, List.set_cons_succ])
  refine wpAnyH_take (i := 5) (oi := ({ dst := some 8, op := Op.binOp BinOp.sub 3 (Operand.tmp 5) (Operand.tmp 7) 3, type := 3, pos := "slice.go:48", after := #[{ on := 2, ground := Ground.data }, { on := 4, ground := Ground.data }], guard := none } : Oper)) (v := ?_) rfl (by kernel_rfl) (by kernel_rfl) (by kernel_rfl) (fun _ _ _ h => h) (Or.inl ⟨by rfl, ?_⟩) (by assumption) ?_
  rotate_left 1
  · (intro w hSw; (try dsimp only at hSw); go_simp; (try with_reducible rfl))
  (try simp only [Act.put, List.setIfInBounds_toArray, List.set_cons_zero, List.set_cons_succ])
  refine wpAnyH_take (i := 6) (oi := ({ dst := some 2, op := Op.assign (Operand.tmp 8), type := 3, pos := "slice.go:48", after := #[{ on := 5, ground := Ground.data }, { on := 4, ground := Ground.chain }, { on := 0, ground := Ground.phase }, { on := 1, ground := Ground.phase }, { on := 2, ground := Ground.phase }, { on := 3, ground := Ground.phase }, { on := 4, ground := Ground.phase }, { on := 5, ground := Ground.phase }], guard := none } : Oper)) (v := ?_) rfl (by kernel_rfl) (by kernel_rfl) (by kernel_rfl) (fun _ _ _ h => h) (Or.inl ⟨by rfl, ?_⟩) (by assumption) ?_
  rotate_left 1
  · (intro w hSw; (try dsimp only at hSw); go_simp; (try with_reducible rfl))
  (try simp only [Act.put, List.setIfInBounds_toArray, List.set_cons_zero, List.set_cons_succ])
  refine wpAnyH_done (by kernel_rfl) ?_ _
  refine NoPanic.normal ?_
  all_goals
    go_wp2
    go_ret
    exact ⟨rfl, B1.out⟩
set_option maxRecDepth 100000 in
set_option maxHeartbeats 2000000 in
theorem slStart_any (v : Value) (e : Bool) (l : List Rc) (w : World) (hr : eR.Rd w v l) (hn : l.length ≤ 1000000) :
    Calls Try.prog 14 #[.agg #[v, .bool e]] w fun e w' => e = .returned (.tuple #[.int .u16 (valO (l.find? stP)), .bool (l.find? stP).isSome]) ∧ Below w.heap.size w w' := by
  obtain ⟨A, c, hv, hc⟩ := hr.open_
  obtain ⟨n, hl⟩ : ∃ n, l.length = n := ⟨_, rfl⟩
  rw [hl] at hc hn hv
  subst hv
  have HL := Lib.hid hl
  have HC := Lib.hid hc
  have B0 := Lib.hid (Below.alloc0 (Below.refl w.heap.size w) (.cells #[.slice A n c, .bool e] 32))
  have K0 := Lib.hid (Blk.new w 32 #[.slice A n c, .bool e] (0, 0))
  clear hr hc hl
  go_enter Try.func14, Try.ntmps14
  go_wp2
  go_loopw [9] (fun i wr => ∃ k : Nat, k ≤ n ∧ i = .int .i64 k ∧ Hid ((l.take k).find? stP = none) ∧ Hid (Below w.heap.size w wr)) (fun i _ => n - (intOf i).toNat)
  case atStart => exact ⟨0, Nat.zero_le _, rfl, Lib.hid rfl, B0⟩
  case round =>
    obtain ⟨k, hk, rfl, hF, hB⟩ := hrel
    by_cases hlt : k < n
    · obtain ⟨g, off, rfl, hg, hcell⟩ := HC.out (by omega)
      obtain ⟨x, hx⟩ : ∃ x, l[k]? = some x := ⟨_, List.getElem?_eq_getElem (by rw [HL.out]; exact hlt)⟩
      obtain ⟨d0, d1, d2, d3, d4, d5, d6, d7, d8⟩ := rc9_at hB.out hg (fun jj u hu => hcell k x hx jj u hu)
      have k0 : (0 : Int) ≤ k := by omega
      have k1 : (k : Int) < n := by omega
      have NX := Lib.hid (find_next stP l k x hx)
      have FA := Lib.hid (fun hp => find_all (p := stP) hF.out hx hp)
      rw [hF.out] at NX
      clear hcell hx
      obtain ⟨a, d, r, b1, b2, b3, b4, b5, m⟩ := x
      simp only at d0 d1 d2 d3 d4 d5 d6 d7 d8
      have HB2 := Lib.hid (Below.alloc0 hB.out (.cells #[.int .u16 a, .int .u8 d, .bool r, .bool b1, .bool b2, .bool b3, .bool b4, .bool b5, .bool m] 51))
      cases m
      case false =>
        go_wp2
        go_roundw
        case rel => exact ⟨k + 1, by omega, by go_num, Lib.hid (by rw [NX.out]; rfl), HB2⟩
        case measure => simp [intOf]; omega
      case true =>
        have E := Lib.hid (FA.out rfl)
        go_wp2
        go_ret2
        exact ⟨by rw [E.out]; rfl, HB2.out⟩
    · obtain rfl : k = n := by omega
      have E : Hid (l.find? stP = none) := Lib.hid (by have := hF.out; rwa [List.take_of_length_le (by rw [HL.out]; exact Nat.le_refl _)] at this)
      go_wp2
      go_ret2
      exact ⟨by rw [E.out]; rfl, hB.out⟩
end Go.Proofs.Ytlgaedhbgkhmeaa
