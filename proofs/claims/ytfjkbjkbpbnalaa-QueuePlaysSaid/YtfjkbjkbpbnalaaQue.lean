/- Contracts of package queue, at int. -/
import Derived.Test.YtfjkbjkbpbnalaaEqI
import Derived.Test.YtfjkbjkbpbnalaaStc
import Derived.Deep.RegionHeld3
import Derived.BigQuiet
import Derived.Deep.DeepCutAuto
namespace Go.Proofs.Ytfjkbjkbpbnalaa
open Go.ChangeShapes Go.WideShapes Go.ChangeAt Go.RowKit
set_option linter.unusedVariables false

/-- The cells of a queue: the ring, the first one's place, how many. -/
def quCs (R : List Int) (f m : Int) : Array Value := (R.map (Value.int .i64) ++ [Value.int .i64 f, Value.int .i64 m]).toArray
/-- Block g is a queue. -/
def QB (w : World) (g : Nat) (R : List Int) (f m : Nat) : Prop := Blk w g 111 (quCs R f m) ∧ R.length = 24 ∧ f < 24 ∧ m ≤ 24
/-- Its things are these. -/
def QL (R : List Int) (f : Nat) (L : List Int) : Prop := ∀ i, i < L.length → iat R ((f + i) % 24) = iat L i
def QAt (w : World) (g : Nat) (L : List Int) : Prop := ∃ R f, QB w g R f L.length ∧ QL R f L
section
variable {w w' : World} {g f m : Nat} {R : List Int}
theorem QB.lt (h : QB w g R f m) : g < w.heap.size := h.1.lt
theorem QB.ring (h : QB w g R f m) (i : Nat) (hi : i < 24) : w.cell? ⟨g, i, none⟩ = some (.int .i64 (iat R i)) := by
  rw [h.1.cell]
  unfold quCs
  have := h.2.1
  rw [List.getElem?_toArray, List.getElem?_append_left (by simp; omega), List.getElem?_map, List.getElem?_eq_getElem (by omega), iat_eq _ _ (by omega)]
  rfl
theorem QB.first (h : QB w g R f m) : w.cell? ⟨g, 24, none⟩ = some (.int .i64 f) := by
  rw [h.1.cell]
  unfold quCs
  have := h.2.1
  rw [List.getElem?_toArray, List.getElem?_append_right (by simp; omega)]
  simp [this]
theorem QB.many (h : QB w g R f m) : w.cell? ⟨g, 25, none⟩ = some (.int .i64 m) := by
  rw [h.1.cell]
  unfold quCs
  have := h.2.1
  rw [List.getElem?_toArray, List.getElem?_append_right (by simp; omega)]
  simp [this]
theorem QB.frozen (h : QB w g R f m) (i : Nat) : w.frozen? ⟨g, i, none⟩ = false := h.1.frozen i
theorem QB.drew (h : QB w g R f m) : QB w.drew g R f m := h
theorem QB.drewN (h : QB w g R f m) (n : Nat) : QB (w.drewN n) g R f m := h
theorem QB.below {B : Nat} (h : QB w g R f m) (hb : Below B w w') (hg : g < B) : QB w' g R f m := ⟨h.1.below hb hg, h.2⟩
theorem QB.alloc (h : QB w g R f m) (o : Obj) : QB (w.alloc o) g R f m := ⟨h.1.alloc o, h.2⟩
theorem set_left (R : List Int) (l : List Value) (p : Nat) (x : Int) (hp : p < R.length) : ((R.map (Value.int .i64) ++ l).toArray.setIfInBounds p (.int .i64 x)) = ((R.set p x).map (Value.int .i64) ++ l).toArray := by
  rw [List.setIfInBounds_toArray, List.set_append_left _ _ (by simpa using hp), List.map_set]
theorem QB.setR (h : QB w g R f m) (p : Nat) (hp : p < 24) (x : Int) : QB (w.setCell ⟨g, p, none⟩ (.int .i64 x)) g (R.set p x) f m := by
  refine ⟨?_, by rw [List.length_set]; exact h.2.1, h.2.2⟩
  have := h.1.set_ p (.int .i64 x)
  unfold quCs at this ⊢
  rw [set_left _ _ _ _ (by have := h.2.1; omega)] at this
  exact this
theorem QB.setF (h : QB w g R f m) (f' : Nat) (hf : f' < 24) : QB (w.setCell ⟨g, 24, none⟩ (.int .i64 f')) g R f' m := by
  refine ⟨?_, h.2.1, hf, h.2.2.2⟩
  have := h.1.set_ 24 (.int .i64 f')
  unfold quCs at this ⊢
  have hl := h.2.1
  rw [List.setIfInBounds_toArray, List.set_append_right _ _ (by simp; omega)] at this
  simpa [hl] using this
theorem QB.setM (h : QB w g R f m) (m' : Nat) (hm : m' ≤ 24) : QB (w.setCell ⟨g, 25, none⟩ (.int .i64 m')) g R f m' := by
  refine ⟨?_, h.2.1, h.2.2.1, hm⟩
  have := h.1.set_ 25 (.int .i64 m')
  unfold quCs at this ⊢
  have hl := h.2.1
  rw [List.setIfInBounds_toArray, List.set_append_right _ _ (by simp; omega)] at this
  simpa [hl] using this
theorem QAt.below {L : List Int} {B : Nat} (h : QAt w g L) (hb : Below B w w') (hg : g < B) : QAt w' g L := by
  obtain ⟨R, f, h1, h2⟩ := h
  exact ⟨R, f, h1.below hb hg, h2⟩
theorem QAt.lt {L : List Int} (h : QAt w g L) : g < w.heap.size := by
  obtain ⟨R, f, h1, h2⟩ := h
  exact h1.lt
theorem QAt.len {L : List Int} (h : QAt w g L) : L.length ≤ 24 := by
  obtain ⟨R, f, h1, h2⟩ := h
  exact h1.2.2.2
end
theorem iat_set_same (R : List Int) (p : Nat) (x : Int) (hp : p < R.length) : iat (R.set p x) p = x := by
  rw [iat_eq _ _ (by rw [List.length_set]; exact hp)]; simp
theorem iat_set_other (R : List Int) (p q : Nat) (x : Int) (h : p ≠ q) : iat (R.set p x) q = iat R q := by
  unfold iat
  rw [List.getD_eq_getElem?_getD, List.getD_eq_getElem?_getD, List.getElem?_set_ne h]
theorem iat_append_left (a b : List Int) (i : Nat) (h : i < a.length) : iat (a ++ b) i = iat a i := by
  unfold iat; rw [List.getD_eq_getElem?_getD, List.getD_eq_getElem?_getD, List.getElem?_append_left h]
theorem iat_append_right (a b : List Int) (i : Nat) (h : a.length ≤ i) : iat (a ++ b) i = iat b (i - a.length) := by
  unfold iat; rw [List.getD_eq_getElem?_getD, List.getD_eq_getElem?_getD, List.getElem?_append_right h]
/-- One more behind all others. -/
theorem QL.push {R : List Int} {f : Nat} {L : List Int} (h : QL R f L) (hR : R.length = 24) (hL : L.length < 24) (x : Int) : QL (R.set ((f + L.length) % 24) x) f (L ++ [x]) := by
  intro i hi
  rw [List.length_append, List.length_singleton] at hi
  by_cases e : i = L.length
  · subst e
    rw [iat_set_same _ _ _ (by omega), iat_append_right _ _ _ (Nat.le_refl _), Nat.sub_self]; rfl
  · rw [iat_set_other _ _ _ _ (by omega), iat_append_left _ _ _ (by omega)]
    exact h i (by omega)
theorem QL.tail {R : List Int} {f : Nat} {x : Int} {L : List Int} (h : QL R f (x :: L)) (y : Int) (hL : L.length < 24) (hf : f < 24) : QL (R.set f y) ((f + 1) % 24) L := by
  intro i hi
  rw [iat_set_other _ _ _ _ (by omega)]
  have := h (i + 1) (by simp; omega)
  rw [show ((f + 1) % 24 + i) % 24 = (f + (i + 1)) % 24 by omega, this]
  rfl
/-- The world behind: block g alone is another one, and there may be more blocks. -/
def Only (g : Nat) (w w' : World) : Prop := w.grownBy w' (some g)
theorem quPlace_any (g : Nat) (R : List Int) (f m : Nat) (n : Int) (w : World) (h : QB w g R f m) (h0 : 0 ≤ n) (h1 : n ≤ 100) :
    Calls Try.prog 65 #[.pointer (some ⟨g, 0, none⟩), .int .i64 n] w fun e w' => e = .returned (.int .i64 ((f + n) % 24)) ∧ w = w' := by
  have c0 := h.first
  have hf := h.2.2.1
  have t0 : Int.tmod ((f : Int) + n) 24 = ((f : Int) + n) % 24 := by rw [Int.tmod_eq_emod_of_nonneg (by omega)]
  clear h
  go_enter Try.func65, Try.ntmps65
  go_wp2
  go_ret
  exact ⟨rfl, rfl⟩
theorem quRoom_any (g : Nat) (R : List Int) (f m n : Nat) (w : World) (h : QB w g R f m) (h1 : n ≤ 1000000000000) :
    Calls Try.prog 64 #[.pointer (some ⟨g, 0, none⟩), .int .i64 n] w fun e w' => e = .returned (.bool (decide (m + n ≤ 24))) ∧ w = w' := by
  have c0 := h.many
  have hm := h.2.2.2
  clear h
  go_enter Try.func64, Try.ntmps64
  go_wp2
  go_ret
  refine ⟨ret_bool ?_, rfl⟩
  rw [decide_eq_decide]; omega
theorem quLen_any (g : Nat) (L : List Int) (w : World) (h : QAt w g L) :
    Calls Try.prog 45 #[.pointer (some ⟨g, 0, none⟩)] w fun e w' => e = .returned (.int .i64 L.length) ∧ w = w' := by
  obtain ⟨R, f, h1, h2⟩ := h
  have c0 := h1.many
  clear h1 h2
  go_enter Try.func45, Try.ntmps45
  go_wp2
  go_ret
  exact ⟨rfl, rfl⟩
theorem quPeek_any (g : Nat) (R : List Int) (f : Nat) (L : List Int) (w : World) (h1 : QB w g R f L.length) (h2 : QL R f L) :
    Calls Try.prog 44 #[.pointer (some ⟨g, 0, none⟩)] w fun e w' => e = .returned (.tuple #[.int .i64 (iat L 0), .bool (decide (0 < L.length))]) ∧ Below w.heap.size w w' := by
  cases L with
  | nil =>
    have c0 : w.cell? ⟨g, 25, none⟩ = some (.int .i64 0) := h1.many
    clear h1 h2
    go_enter Try.func44, Try.ntmps44
    go_wp2
    go_ret2
    exact ⟨rfl, by go_grown⟩
  | cons x L =>
    have hz := h2 0 (by simp)
    have hf := h1.2.2.1
    rw [show (f + 0) % 24 = f by omega] at hz
    have c0 : w.cell? ⟨g, 25, none⟩ = some (.int .i64 ((L.length : Int) + 1)) := by rw [h1.many]; simp
    have c1 := h1.first
    have c2 := h1.ring f hf
    rw [hz] at c2
    have hE : (((L.length : Int) + 1) == 0) = false := by simp; omega
    have k0 : (0 : Int) ≤ (f : Int) := by omega
    have k1 : (f : Int) < 24 := by omega
    have HZ : Hid (iat (x :: L) 0 = x) := Lib.hid rfl
    rw [HZ.out] at c2 ⊢
    have HD : Hid (decide (0 < (x :: L).length) = true) := Lib.hid (by simp)
    rw [HD.out]
    clear h1 h2 hz
    go_enter Try.func44, Try.ntmps44
    go_wp2
    go_quiet (fail)
    go_wp2
    go_ret2
    exact ⟨rfl, by first | exact Below.refl _ _ | exact Below.drewN0 (Below.refl _ _) _⟩
theorem grown_drew {w w' : World} {row : Option Nat} (h : w.grownBy w' row) : w.grownBy w'.drew row := ⟨h.os, h.tape, h.output, h.size, h.block⟩
/-- The slice does not lie in block g. -/
def Off (g : Nat) (v : Value) : Prop := ∀ b o n c, v = .slice (some ⟨b, o, none⟩) n c → 0 < n → b ≠ g
theorem place_nat (f n : Nat) : ((f : Int) + (n : Int)) % 24 = (((f + n) % 24 : Nat) : Int) := by omega
theorem quPush_any (g : Nat) (L : List Int) (w : World) (hq : QAt w g L) (v : Value) (xs : List Int) (hr : eI.Rd w v xs) (ho : Off g v) (hn : xs.length ≤ 1000000000000) :
    Calls Try.prog 43 #[.pointer (some ⟨g, 0, none⟩), v] w fun e w' => e = .returned (.bool (decide (L.length + xs.length ≤ 24))) ∧ w.grownBy w' (some g) ∧ QAt w' g (if L.length + xs.length ≤ 24 then L ++ xs else L) := by
  obtain ⟨R, f, hb, hl⟩ := hq
  obtain ⟨A, c, rfl, hc⟩ := Els.one_at (E := eI) (f := Value.int .i64) rfl (fun _ => rfl) hr
  have HO := Lib.hid ho
  have HC := Lib.hid hc
  have CR := Lib.hid (quRoom_any g R f L.length xs.length w hb (by omega))
  clear hr ho hc
  obtain ⟨n, hxn⟩ : ∃ n, xs.length = n := ⟨_, rfl⟩
  obtain ⟨m, hm⟩ : ∃ m, L.length = m := ⟨_, rfl⟩
  have HX := Lib.hid hxn
  have HM := Lib.hid hm
  by_cases hf : L.length + xs.length ≤ 24
  · rw [if_pos hf, decide_eq_true hf] at *
    rw [hm, hxn] at hf
    rw [hxn] at CR
    rw [hxn] at HC HO hn ⊢
    have HQ := Lib.hid (show QB w g R f m from hm ▸ hb)
    have HL := Lib.hid hl
    clear hb hl hxn hm
    go_enter Try.func43, Try.ntmps43
    go_wp2_with fail
    refine CR.out.mono ?_
    rintro e w' ⟨rfl, rfl⟩
    go_wp2
    go_loopw [14] (fun i wr => ∃ k : Nat, k ≤ n ∧ i = .int .i64 k ∧ Hid (w.grownBy wr (some g)) ∧ Hid (∃ Rk, QB wr g Rk f (m + k) ∧ QL Rk f (L ++ xs.take k))) (fun i _ => n - (intOf i).toNat)
    case atStart => exact ⟨0, Nat.zero_le _, rfl, Lib.hid (World.grownBy.refl _ _), Lib.hid ⟨R, HQ.out, by simpa using HL.out⟩⟩
    case round =>
      obtain ⟨k, hk, rfl, HG, HK⟩ := hrel
      by_cases hlt : k < n
      · obtain ⟨Rk, hqb, hql⟩ := HK.out
        obtain ⟨b, off, rfl, hb, hcell⟩ := HC.out (by omega)
        have hne := HO.out b off n c rfl (by omega)
        have c1 := HG.out.cell (hcell k (iat xs k) (by rw [iat_eq _ _ (by rw [HX.out]; exact hlt)]; exact List.getElem?_eq_getElem _)) (by simpa using hne)
        have t0 : (0 : Int) ≤ k := by omega
        have t1 : (k : Int) < n := by omega
        obtain ⟨p, hp⟩ : ∃ p, (f + (m + k)) % 24 = p := ⟨_, rfl⟩
        have hp24 : p < 24 := by omega
        have c2 := hqb.many
        have c3 := hqb.ring p hp24
        have f3 := hqb.frozen p
        have CP := Lib.hid (fun u (h : QB u g Rk f (m + k)) => quPlace_any g Rk f (m + k) ((m + k : Nat) : Int) u h (by omega) (by omega))
        rw [place_nat, hp] at CP
        have hq2 := hqb.setR p hp24 (iat xs k)
        have c4 := hq2.many
        have f4 := hq2.frozen 25
        have hq3 := Lib.hid (hq2.setM (m + k + 1) (by omega))
        have HLn : Hid (QL (Rk.set p (iat xs k)) f (L ++ xs.take (k + 1))) := Lib.hid (by
          have hlen : (L ++ xs.take k).length = m + k := by rw [List.length_append, List.length_take, HM.out, HX.out]; omega
          have := QL.push hql hqb.2.1 (by rw [hlen]; omega) (iat xs k)
          rw [hlen, hp] at this
          rw [List.take_succ_eq_append_getElem (by rw [HX.out]; exact hlt), ← iat_eq xs k (by rw [HX.out]; exact hlt), ← List.append_assoc]
          exact this)
        have p0 : (0 : Int) ≤ (p : Int) := by omega
        have p1 : (p : Int) < 24 := by omega
        have hn24 : n ≤ 24 := by omega
        have m0 : ((m + k : Nat) : Int) ≤ 24 := by omega
        have m1 : (0 : Int) ≤ ((m + k : Nat) : Int) := by omega
        have HQB := Lib.hid hqb
        generalize iat xs k = x at *
        obtain ⟨M, hM⟩ : ∃ M : Int, ((m + k : Nat) : Int) = M := ⟨_, rfl⟩
        rw [hM] at c2 c4 m0 m1 CP
        have HMM := Lib.hid hM
        have S0 : Hid (wr.drew.cell? ⟨g, 25, none⟩ = some (.int .i64 M)) := Lib.hid c2
        have S1 : Hid ((wr.setCell ⟨g, p, none⟩ (.int .i64 x)).drew.cell? ⟨g, 25, none⟩ = some (.int .i64 M)) := Lib.hid c4
        have HGn : Hid (w.grownBy ((wr.setCell ⟨g, p, none⟩ (.int .i64 x)).setCell ⟨g, 25, none⟩ (.int .i64 (M + 1))).drew (some g)) := Lib.hid (grown_drew (World.grownBy.trans (World.grownBy.trans HG.out (grown_cell wr g p (.int .i64 x))) (grown_cell _ g 25 (.int .i64 (M + 1)))))
        have HK2 : Hid (∃ Rk, QB ((wr.setCell ⟨g, p, none⟩ (.int .i64 x)).setCell ⟨g, 25, none⟩ (.int .i64 (M + 1))).drew g Rk f (m + (k + 1)) ∧ QL Rk f (L ++ xs.take (k + 1))) := Lib.hid ⟨Rk.set p x, by have := hq3.out; rw [show ((m + k + 1 : Nat) : Int) = M + 1 by omega] at this; exact this.drew, HLn.out⟩
        clear hqb hql hcell hq2 hM hp hp24 hne HC HO HQ HL CR hn hf HK hq3 HLn
        go_wp2
        refine wp_region_noPanic ?_
        refine wp_region_held_drew (S := (fun w' => w'.cell? ⟨g, 25, none⟩ = some (.int .i64 M))) (by kernel_rfl) ?_ (fun hH0 => ?_)
        · (try dsimp only); with_reducible exact S0.out
        refine wpAnyH_take (i := 0) (oi := ({ dst := some 18, op := Op.move (Operand.tmp 0), type := 68, pos := "queue.go:31", after := #[], guard := none } : Oper)) (v := ?_) rfl (by kernel_rfl) (by kernel_rfl) (by kernel_rfl) (fun _ _ _ h => h) (Or.inl ⟨by rfl, ?_⟩) (by assumption) ?_
        rotate_left 1
        · (intro w hSw; (try dsimp only at hSw); go_simp; (try with_reducible rfl))
        (try simp only [Act.put, List.setIfInBounds_toArray, List.set_cons_zero, List.set_cons_succ])
        refine wpAnyH_take (i := 1) (oi := ({ dst := some 19, op := Op.move (Operand.tmp 0), type := 68, pos := "queue.go:31", after := #[], guard := none } : Oper)) (v := ?_) rfl (by kernel_rfl) (by kernel_rfl) (by kernel_rfl) (fun _ _ _ h => h) (Or.inl ⟨by rfl, ?_⟩) (by assumption) ?_
        rotate_left 1
        · (intro w hSw; (try dsimp only at hSw); go_simp; (try with_reducible rfl))
        (try simp only [Act.put, List.setIfInBounds_toArray, List.set_cons_zero, List.set_cons_succ])
        refine wpAnyH_take (i := 2) (oi := ({ dst := some 20, op := Op.move (Operand.tmp 0), type := 68, pos := "queue.go:31", after := #[], guard := none } : Oper)) (v := ?_) rfl (by kernel_rfl) (by kernel_rfl) (by kernel_rfl) (fun _ _ _ h => h) (Or.inl ⟨by rfl, ?_⟩) (by assumption) ?_
        rotate_left 1
        · (intro w hSw; (try dsimp only at hSw); go_simp; (try with_reducible rfl))
        (try simp only [Act.put, List.setIfInBounds_toArray, List.set_cons_zero, List.set_cons_succ])
        refine wpAnyH_take (i := 3) (oi := ({ dst := some 21, op := Op.nilCheck (Operand.tmp 20), type := 0, pos := "queue.go:31", after := #[{ on := 2, ground := Ground.data }], guard := none } : Oper)) (v := ?_) rfl (by kernel_rfl) (by kernel_rfl) (by kernel_rfl) (fun _ _ _ h => h) (Or.inl ⟨by rfl, ?_⟩) (by assumption) ?_
        rotate_left 1
        · (intro w hSw; (try dsimp only at hSw); go_simp; (try with_reducible rfl))
        (try simp only [Act.put, List.setIfInBounds_toArray, List.set_cons_zero, List.set_cons_succ])
        refine wpAnyH_take (i := 4) (oi := ({ dst := some 22, op := Op.fieldAddr 111 (Operand.tmp 21) 2, type := 0, pos := "queue.go:31", after := #[{ on := 3, ground := Ground.data }], guard := none } : Oper)) (v := ?_) rfl (by kernel_rfl) (by kernel_rfl) (by kernel_rfl) (fun _ _ _ h => h) (Or.inl ⟨by rfl, ?_⟩) (by assumption) ?_
        rotate_left 1
        · (intro w hSw; (try dsimp only at hSw); go_simp; (try with_reducible rfl))
        (try simp only [Act.put, List.setIfInBounds_toArray, List.set_cons_zero, List.set_cons_succ])
        refine wpAnyH_take (i := 5) (oi := ({ dst := some 23, op := Op.load 3 (Operand.tmp 22), type := 3, pos := "queue.go:31", after := #[{ on := 4, ground := Ground.data }], guard := none } : Oper)) (v := ?_) rfl (by kernel_rfl) (by kernel_rfl) (by kernel_rfl) (fun _ _ _ h => h) (Or.inl ⟨by rfl, ?_⟩) (by assumption) ?_
        rotate_left 1
        · (intro w hSw; (try dsimp only at hSw); go_simp; (try with_reducible rfl))
        (try simp only [Act.put, List.setIfInBounds_toArray, List.set_cons_zero, List.set_cons_succ])
        refine wpAnyH_take (i := 7) (oi := ({ dst := some 25, op := Op.move (Operand.tmp 6), type := 3, pos := "queue.go:31", after := #[], guard := none } : Oper)) (v := ?_) rfl (by kernel_rfl) (by kernel_rfl) (by kernel_rfl) (fun _ _ _ h => h) (Or.inl ⟨by rfl, ?_⟩) (by assumption) ?_
        rotate_left 1
        · (intro w hSw; (try dsimp only at hSw); go_simp; (try with_reducible rfl))
        (try simp only [Act.put, List.setIfInBounds_toArray, List.set_cons_zero, List.set_cons_succ])
        refine wpAnyH_take (i := 8) (oi := ({ dst := some 26, op := Op.nilCheck (Operand.tmp 18), type := 0, pos := "queue.go:31", after := #[{ on := 0, ground := Ground.data }], guard := none } : Oper)) (v := ?_) rfl (by kernel_rfl) (by kernel_rfl) (by kernel_rfl) (fun _ _ _ h => h) (Or.inl ⟨by rfl, ?_⟩) (by assumption) ?_
        rotate_left 1
        · (intro w hSw; (try dsimp only at hSw); go_simp; (try with_reducible rfl))
        (try simp only [Act.put, List.setIfInBounds_toArray, List.set_cons_zero, List.set_cons_succ])
        refine wpAnyH_take (i := 9) (oi := ({ dst := some 27, op := Op.fieldAddr 111 (Operand.tmp 26) 0, type := 0, pos := "queue.go:31", after := #[{ on := 8, ground := Ground.data }], guard := none } : Oper)) (v := ?_) rfl (by kernel_rfl) (by kernel_rfl) (by kernel_rfl) (fun _ _ _ h => h) (Or.inl ⟨by rfl, ?_⟩) (by assumption) ?_
        rotate_left 1
        · (intro w hSw; (try dsimp only at hSw); go_simp; (try with_reducible rfl))
        (try simp only [Act.put, List.setIfInBounds_toArray, List.set_cons_zero, List.set_cons_succ])
        refine wpAnyH_ready (rs := [6]) (by kernel_rfl) (by simp) ?_
        refine AllReadyH.cons (o := ({ dst := some 24, op := Op.call { callee := Callee.value (Operand.func 65), args := #[Operand.tmp 19, Operand.tmp 23], argTypes := #[68, 3] }, type := 3, pos := "queue.go:31", after := #[{ on := 1, ground := Ground.data }, { on := 5, ground := Ground.data }], guard := none } : Oper)) rfl (fun K hK => ?_) ?_
        rotate_left 1
        · exact AllReadyH.nil
        go_simp
        go_at_call 65
        ((with_reducible refine (CP.out _ HQB.out.drew).mono ?_); rintro e w' ⟨rfl, rfl⟩)
        first | (refine hK.out _ _ ?_ (fun hH1 => ?_)) | (go_wp2_with fail; refine hK.out _ _ ?_ (fun hH1 => ?_))
        · (try dsimp only); with_reducible exact S0.out
        clear hK K hH0
        (try simp only [Act.put, List.setIfInBounds_toArray, List.set_cons_zero, List.set_cons_succ])
        refine wpAnyH_take (i := 10) (oi := ({ dst := some 28, op := Op.indexAddr 109 (Operand.tmp 27) (Operand.tmp 24), type := 0, pos := "queue.go:31", after := #[{ on := 9, ground := Ground.data }, { on := 6, ground := Ground.data }, { on := 0, ground := Ground.phase }, { on := 1, ground := Ground.phase }, { on := 2, ground := Ground.phase }, { on := 3, ground := Ground.phase }, { on := 4, ground := Ground.phase }, { on := 5, ground := Ground.phase }, { on := 6, ground := Ground.phase }, { on := 7, ground := Ground.phase }], guard := none } : Oper)) (v := ?_) rfl (by kernel_rfl) (by kernel_rfl) (by kernel_rfl) (fun _ _ _ h => h) (Or.inl ⟨by rfl, ?_⟩) (by assumption) ?_
        rotate_left 1
        · (intro w hSw; (try dsimp only at hSw); go_simp; (try with_reducible rfl))
        (try simp only [Act.put, List.setIfInBounds_toArray, List.set_cons_zero, List.set_cons_succ])
        refine wpAnyH_ready (rs := [11]) (by kernel_rfl) (by simp) ?_
        refine AllReadyH.cons (o := ({ dst := none, op := Op.store 3 (Operand.tmp 28) (Operand.tmp 25), type := 0, pos := "queue.go:31", after := #[{ on := 10, ground := Ground.data }, { on := 7, ground := Ground.data }, { on := 6, ground := Ground.chain }, { on := 0, ground := Ground.phase }, { on := 1, ground := Ground.phase }, { on := 2, ground := Ground.phase }, { on := 3, ground := Ground.phase }, { on := 4, ground := Ground.phase }, { on := 5, ground := Ground.phase }, { on := 6, ground := Ground.phase }, { on := 7, ground := Ground.phase }], guard := none } : Oper)) rfl (fun K hK => ?_) ?_
        rotate_left 1
        · exact AllReadyH.nil
        go_simp
        first | (refine hK.out _ _ ?_ (fun hH2 => ?_)) | (go_wp2_with fail; refine hK.out _ _ ?_ (fun hH2 => ?_))
        · (try dsimp only); with_reducible exact S1.out
        clear hK K hH1
        (try simp only [Act.put, List.setIfInBounds_toArray, List.set_cons_zero, List.set_cons_succ])
        refine wpAnyH_done (by kernel_rfl) ?_ _
        refine NoPanic.normal ?_
        go_wp2
        refine ⟨⟨k + 1, by omega, by go_num, HGn, HK2⟩, ?_⟩
        simp [intOf]; omega
      · have hkn : k = n := by omega
        have HR : Hid (QAt wr g (L ++ xs)) := Lib.hid (by
          obtain ⟨Rk, h1, h2⟩ := HK.out
          rw [List.take_of_length_le (by rw [HX.out]; omega)] at h2
          exact ⟨Rk, f, by rw [List.length_append, HM.out, HX.out, ← hkn]; exact h1, h2⟩)
        go_wp2
        go_ret
        exact ⟨rfl, HG.out, HR.out⟩
  · rw [if_neg hf, decide_eq_false hf] at *
    rw [hxn] at CR ⊢
    have HQ := Lib.hid (show QAt w g L from ⟨R, f, hb, hl⟩)
    clear hb hl hxn hm HC HO hf
    go_enter Try.func43, Try.ntmps43
    go_wp2_with fail
    refine CR.out.mono ?_
    rintro e w' ⟨rfl, rfl⟩
    go_wp2
    go_ret
    exact ⟨rfl, World.grownBy.refl _ _, HQ.out⟩
theorem front_ring (f n i : Nat) (hf : f < 24) (hn : n ≤ 24) : ((f + (24 - n)) % 24 + (n + i)) % 24 = (f + i) % 24 := by omega
theorem ql_front {R : List Int} {f n m : Nat} {xs L : List Int} (hn : xs.length = n) (hm : L.length = m) (h1 : ∀ i, i < n → iat R ((f + i) % 24) = iat xs i) (h2 : ∀ i, i < m → iat R ((f + (n + i)) % 24) = iat L i) : QL R f (xs ++ L) := by
  intro i hi
  rw [List.length_append] at hi
  by_cases e : i < n
  · rw [iat_append_left _ _ _ (by omega)]; exact h1 i e
  · rw [iat_append_right _ _ _ (by omega), hn]
    have := h2 (i - n) (by omega)
    rw [show f + (n + (i - n)) = f + i by omega] at this
    exact this
theorem quFront_any (g : Nat) (L : List Int) (w : World) (hq : QAt w g L) (v : Value) (xs : List Int) (hr : eI.Rd w v xs) (ho : Off g v) (hn : xs.length ≤ 1000000000000) :
    Calls Try.prog 40 #[.pointer (some ⟨g, 0, none⟩), v] w fun e w' => e = .returned (.bool (decide (L.length + xs.length ≤ 24))) ∧ w.grownBy w' (some g) ∧ QAt w' g (if L.length + xs.length ≤ 24 then xs ++ L else L) := by
  obtain ⟨R, f, hb, hl⟩ := hq
  obtain ⟨A, c, rfl, hc⟩ := Els.one_at (E := eI) (f := Value.int .i64) rfl (fun _ => rfl) hr
  have HO := Lib.hid ho
  have HC := Lib.hid hc
  have CR := Lib.hid (quRoom_any g R f L.length xs.length w hb (by omega))
  clear hr ho hc
  obtain ⟨n, hxn⟩ : ∃ n, xs.length = n := ⟨_, rfl⟩
  obtain ⟨m, hm⟩ : ∃ m, L.length = m := ⟨_, rfl⟩
  have HX := Lib.hid hxn
  have HM := Lib.hid hm
  by_cases hf : L.length + xs.length ≤ 24
  · rw [if_pos hf, decide_eq_true hf] at *
    rw [hm, hxn] at hf
    rw [hxn] at CR
    rw [hxn] at HC HO hn ⊢
    have HQ := Lib.hid (show QB w g R f m from hm ▸ hb)
    have HL := Lib.hid hl
    have hf24 := hb.2.2.1
    obtain ⟨f', hf'⟩ : ∃ f', (f + (24 - n)) % 24 = f' := ⟨_, rfl⟩
    have hf1 : f' < 24 := by omega
    have CP := Lib.hid (fun u (h : QB u g R f m) => quPlace_any g R f m (24 - (n : Int)) u h (by omega) (by omega))
    rw [show ((f : Int) + (24 - (n : Int))) % 24 = (f' : Int) by omega] at CP
    have HF : Hid (∀ i, (f' + (n + i)) % 24 = (f + i) % 24) := Lib.hid (fun i => by rw [← hf']; exact front_ring f n i hf24 (by omega))
    have HN := Lib.hid hf
    have c0 := HQ.out.first
    have f0 := HQ.out.frozen 24
    have q1 := HQ.out.setF f' hf1
    have c1 := q1.many
    have f1 := q1.frozen 25
    have hw : IntKind.i64.wrap (24 - (n : Int)) = 24 - (n : Int) := IntWalk.i64_in _ (by omega)
    have hw2 : IntKind.i64.wrap ((m : Int) + (n : Int)) = (m : Int) + (n : Int) := IntWalk.i64_in _ (by omega)
    have Q2 := Lib.hid (q1.setM (m + n) hf)
    rw [show ((m + n : Nat) : Int) = (m : Int) + (n : Int) by omega] at Q2
    have G2 := Lib.hid (World.grownBy.trans (grown_cell w g 24 (.int .i64 f')) (grown_cell _ g 25 (.int .i64 ((m : Int) + (n : Int)))))
    clear hb hl hxn hm hf hf' hf24 q1
    go_enter Try.func40, Try.ntmps40
    go_wp2_with fail
    refine CR.out.mono ?_
    rintro e w' ⟨rfl, rfl⟩
    go_wp2_with fail
    refine (CP.out _ HQ.out).mono ?_
    rintro e w' ⟨rfl, rfl⟩
    go_wp2
    generalize (w.setCell ⟨g, 24, none⟩ (.int .i64 f')).setCell ⟨g, 25, none⟩ (.int .i64 ((m : Int) + (n : Int))) = w2 at Q2 G2 ⊢
    clear c0 f0 c1 f1 hw hw2 CP CR
    go_loopw [31] (fun i wr => ∃ k : Nat, k ≤ n ∧ i = .int .i64 k ∧ Hid (w.grownBy wr (some g)) ∧ Hid (∃ Rk, QB wr g Rk f' (m + n) ∧ (∀ i, i < k → iat Rk ((f' + i) % 24) = iat xs i) ∧ ∀ i, i < m → iat Rk ((f' + (n + i)) % 24) = iat L i)) (fun i _ => n - (intOf i).toNat)
    case atStart => exact ⟨0, Nat.zero_le _, rfl, G2, Lib.hid ⟨R, Q2.out, fun i hi => absurd hi (by omega), fun i hi => by rw [HF.out]; exact HL.out i (by rw [HM.out]; exact hi)⟩⟩
    case round =>
      obtain ⟨k, hk, rfl, HG, HK⟩ := hrel
      by_cases hlt : k < n
      · obtain ⟨Rk, hqb, hq1, hq2⟩ := HK.out
        have hN := HN.out
        have hn24 : n ≤ 24 := by omega
        obtain ⟨b, off, rfl, hb, hcell⟩ := HC.out (by omega)
        have hne := HO.out b off n c rfl (by omega)
        have c1 := HG.out.cell (hcell k (iat xs k) (by rw [iat_eq _ _ (by rw [HX.out]; exact hlt)]; exact List.getElem?_eq_getElem _)) (by simpa using hne)
        have t0 : (0 : Int) ≤ k := by omega
        have t1 : (k : Int) < n := by omega
        obtain ⟨p, hp⟩ : ∃ p, (f' + k) % 24 = p := ⟨_, rfl⟩
        have hp24 : p < 24 := by omega
        have c3 := hqb.ring p hp24
        have f3 := hqb.frozen p
        have CP := Lib.hid (fun u (h : QB u g Rk f' (m + n)) => quPlace_any g Rk f' (m + n) (k : Int) u h (by omega) (by omega))
        rw [place_nat, hp] at CP
        have HK2 : Hid (∃ Rk', QB (wr.setCell ⟨g, p, none⟩ (.int .i64 (iat xs k))).drew g Rk' f' (m + n) ∧ (∀ i, i < k + 1 → iat Rk' ((f' + i) % 24) = iat xs i) ∧ ∀ i, i < m → iat Rk' ((f' + (n + i)) % 24) = iat L i) := Lib.hid ⟨Rk.set p (iat xs k), (hqb.setR p hp24 (iat xs k)).drew, fun i hi => by
          by_cases e : i = k
          · subst e; rw [hp, iat_set_same _ _ _ (by rw [hqb.2.1]; exact hp24)]
          · rw [iat_set_other _ _ _ _ (by omega)]; exact hq1 i (by omega), fun i hi => by
          rw [iat_set_other _ _ _ _ (by omega)]; exact hq2 i hi⟩
        have HGn : Hid (w.grownBy (wr.setCell ⟨g, p, none⟩ (.int .i64 (iat xs k))).drew (some g)) := Lib.hid (grown_drew (World.grownBy.trans HG.out (grown_cell wr g p (.int .i64 (iat xs k)))))
        have HQB := Lib.hid hqb
        have p0 : (0 : Int) ≤ (p : Int) := by omega
        have p1 : (p : Int) < 24 := by omega
        generalize iat xs k = x at *
        clear hqb hq1 hq2 hcell hp hp24 hne HC HO HL hn hN HN HK HF hf1
        go_wp2
        refine wp_region_noPanic ?_
        refine wp_region_held_drew (S := (fun _ => True)) (by kernel_rfl) ?_ (fun hH0 => ?_)
        · trivial
        refine wpAnyH_take (i := 0) (oi := ({ dst := some 36, op := Op.move (Operand.tmp 0), type := 68, pos := "queue.go:45", after := #[], guard := none } : Oper)) (v := ?_) rfl (by kernel_rfl) (by kernel_rfl) (by kernel_rfl) (fun _ _ _ h => h) (Or.inl ⟨by rfl, ?_⟩) (by assumption) ?_
        rotate_left 1
        · (intro w hSw; (try dsimp only at hSw); go_simp; (try with_reducible rfl))
        (try simp only [Act.put, List.setIfInBounds_toArray, List.set_cons_zero, List.set_cons_succ])
        refine wpAnyH_take (i := 1) (oi := ({ dst := some 37, op := Op.move (Operand.tmp 0), type := 68, pos := "queue.go:45", after := #[], guard := none } : Oper)) (v := ?_) rfl (by kernel_rfl) (by kernel_rfl) (by kernel_rfl) (fun _ _ _ h => h) (Or.inl ⟨by rfl, ?_⟩) (by assumption) ?_
        rotate_left 1
        · (intro w hSw; (try dsimp only at hSw); go_simp; (try with_reducible rfl))
        (try simp only [Act.put, List.setIfInBounds_toArray, List.set_cons_zero, List.set_cons_succ])
        refine wpAnyH_take (i := 2) (oi := ({ dst := some 38, op := Op.move (Operand.tmp 5), type := 3, pos := "queue.go:45", after := #[], guard := none } : Oper)) (v := ?_) rfl (by kernel_rfl) (by kernel_rfl) (by kernel_rfl) (fun _ _ _ h => h) (Or.inl ⟨by rfl, ?_⟩) (by assumption) ?_
        rotate_left 1
        · (intro w hSw; (try dsimp only at hSw); go_simp; (try with_reducible rfl))
        (try simp only [Act.put, List.setIfInBounds_toArray, List.set_cons_zero, List.set_cons_succ])
        refine wpAnyH_take (i := 4) (oi := ({ dst := some 40, op := Op.move (Operand.tmp 6), type := 3, pos := "queue.go:45", after := #[], guard := none } : Oper)) (v := ?_) rfl (by kernel_rfl) (by kernel_rfl) (by kernel_rfl) (fun _ _ _ h => h) (Or.inl ⟨by rfl, ?_⟩) (by assumption) ?_
        rotate_left 1
        · (intro w hSw; (try dsimp only at hSw); go_simp; (try with_reducible rfl))
        (try simp only [Act.put, List.setIfInBounds_toArray, List.set_cons_zero, List.set_cons_succ])
        refine wpAnyH_take (i := 5) (oi := ({ dst := some 41, op := Op.nilCheck (Operand.tmp 36), type := 0, pos := "queue.go:45", after := #[{ on := 0, ground := Ground.data }], guard := none } : Oper)) (v := ?_) rfl (by kernel_rfl) (by kernel_rfl) (by kernel_rfl) (fun _ _ _ h => h) (Or.inl ⟨by rfl, ?_⟩) (by assumption) ?_
        rotate_left 1
        · (intro w hSw; (try dsimp only at hSw); go_simp; (try with_reducible rfl))
        (try simp only [Act.put, List.setIfInBounds_toArray, List.set_cons_zero, List.set_cons_succ])
        refine wpAnyH_take (i := 6) (oi := ({ dst := some 42, op := Op.fieldAddr 111 (Operand.tmp 41) 0, type := 0, pos := "queue.go:45", after := #[{ on := 5, ground := Ground.data }], guard := none } : Oper)) (v := ?_) rfl (by kernel_rfl) (by kernel_rfl) (by kernel_rfl) (fun _ _ _ h => h) (Or.inl ⟨by rfl, ?_⟩) (by assumption) ?_
        rotate_left 1
        · (intro w hSw; (try dsimp only at hSw); go_simp; (try with_reducible rfl))
        (try simp only [Act.put, List.setIfInBounds_toArray, List.set_cons_zero, List.set_cons_succ])
        refine wpAnyH_ready (rs := [3]) (by kernel_rfl) (by simp) ?_
        refine AllReadyH.cons (o := ({ dst := some 39, op := Op.call { callee := Callee.value (Operand.func 65), args := #[Operand.tmp 37, Operand.tmp 38], argTypes := #[68, 3] }, type := 3, pos := "queue.go:45", after := #[{ on := 1, ground := Ground.data }, { on := 2, ground := Ground.data }], guard := none } : Oper)) rfl (fun K hK => ?_) ?_
        rotate_left 1
        · exact AllReadyH.nil
        go_simp
        go_at_call 65
        ((with_reducible refine (CP.out _ HQB.out.drew).mono ?_); rintro e w' ⟨rfl, rfl⟩)
        first | (refine hK.out _ _ ?_ (fun hH1 => ?_)) | (go_wp2_with fail; refine hK.out _ _ ?_ (fun hH1 => ?_))
        · trivial
        clear hK K hH0
        (try simp only [Act.put, List.setIfInBounds_toArray, List.set_cons_zero, List.set_cons_succ])
        refine wpAnyH_take (i := 7) (oi := ({ dst := some 43, op := Op.indexAddr 109 (Operand.tmp 42) (Operand.tmp 39), type := 0, pos := "queue.go:45", after := #[{ on := 6, ground := Ground.data }, { on := 3, ground := Ground.data }, { on := 0, ground := Ground.phase }, { on := 1, ground := Ground.phase }, { on := 2, ground := Ground.phase }, { on := 3, ground := Ground.phase }, { on := 4, ground := Ground.phase }], guard := none } : Oper)) (v := ?_) rfl (by kernel_rfl) (by kernel_rfl) (by kernel_rfl) (fun _ _ _ h => h) (Or.inl ⟨by rfl, ?_⟩) (by assumption) ?_
        rotate_left 1
        · (intro w hSw; (try dsimp only at hSw); go_simp; (try with_reducible rfl))
        (try simp only [Act.put, List.setIfInBounds_toArray, List.set_cons_zero, List.set_cons_succ])
        refine wpAnyH_ready (rs := [8]) (by kernel_rfl) (by simp) ?_
        refine AllReadyH.cons (o := ({ dst := none, op := Op.store 3 (Operand.tmp 43) (Operand.tmp 40), type := 0, pos := "queue.go:45", after := #[{ on := 7, ground := Ground.data }, { on := 4, ground := Ground.data }, { on := 3, ground := Ground.chain }, { on := 0, ground := Ground.phase }, { on := 1, ground := Ground.phase }, { on := 2, ground := Ground.phase }, { on := 3, ground := Ground.phase }, { on := 4, ground := Ground.phase }], guard := none } : Oper)) rfl (fun K hK => ?_) ?_
        rotate_left 1
        · exact AllReadyH.nil
        go_simp
        first | (refine hK.out _ _ ?_ (fun hH2 => ?_)) | (go_wp2_with fail; refine hK.out _ _ ?_ (fun hH2 => ?_))
        · trivial
        clear hK K hH1
        (try simp only [Act.put, List.setIfInBounds_toArray, List.set_cons_zero, List.set_cons_succ])
        refine wpAnyH_done (by kernel_rfl) ?_ _
        refine NoPanic.normal ?_
        go_wp2
        refine ⟨⟨k + 1, by omega, by go_num, HGn, HK2⟩, ?_⟩
        simp [intOf]; omega
      · have hkn : k = n := by omega
        have HR : Hid (QAt wr g (xs ++ L)) := Lib.hid (by
          obtain ⟨Rk, h1, h2, h3⟩ := HK.out
          rw [hkn] at h2
          exact ⟨Rk, f', by rw [List.length_append, HM.out, HX.out, Nat.add_comm]; exact h1, ql_front HX.out HM.out h2 h3⟩)
        go_wp2
        go_ret
        exact ⟨rfl, HG.out, HR.out⟩
  · rw [if_neg hf, decide_eq_false hf] at *
    rw [hxn] at CR ⊢
    have HQ := Lib.hid (show QAt w g L from ⟨R, f, hb, hl⟩)
    clear hb hl hxn hm HC HO hf
    go_enter Try.func40, Try.ntmps40
    go_wp2_with fail
    refine CR.out.mono ?_
    rintro e w' ⟨rfl, rfl⟩
    go_wp2
    go_ret
    exact ⟨rfl, World.grownBy.refl _ _, HQ.out⟩
theorem quPop_any (g : Nat) (L : List Int) (w : World) (hq : QAt w g L) :
    Calls Try.prog 41 #[.pointer (some ⟨g, 0, none⟩)] w fun e w' => e = .returned (.tuple #[.int .i64 (iat L 0), .bool (decide (0 < L.length))]) ∧ w.grownBy w' (some g) ∧ QAt w' g L.tail := by
  obtain ⟨R, f, hb, hl⟩ := hq
  have CP := Lib.hid (quPeek_any g R f L w hb hl)
  cases L with
  | nil =>
    have HQ := Lib.hid (show QAt w g [] from ⟨R, f, hb, hl⟩)
    clear hb hl
    have hd : decide (0 < ([] : List Int).length) = false := by simp
    rw [hd] at CP ⊢
    have hi : iat [] 0 = 0 := rfl
    rw [hi] at CP ⊢
    go_enter Try.func41, Try.ntmps41
    go_wp2_with fail
    refine CP.out.mono ?_
    rintro e w' ⟨rfl, hb⟩
    have HB := Lib.hid hb
    have H2 := Lib.hid (QAt.below HQ.out hb HQ.out.lt)
    have H3 : Hid (w.grownBy w' (some g)) := Lib.hid ⟨hb.os, hb.tape, hb.output, hb.size, fun k hk _ => hb.block k hk⟩
    clear hb
    go_wp2
    go_ret2
    exact ⟨rfl, H3.out, H2.out⟩
  | cons x L =>
    have hd : decide (0 < (x :: L).length) = true := by simp
    rw [hd] at CP ⊢
    have hi : iat (x :: L) 0 = x := rfl
    rw [hi] at CP ⊢
    have hf24 := hb.2.2.1
    have hL24 : L.length < 24 := by have := hb.2.2.2; simp at this; omega
    have HQB := Lib.hid hb
    have HQL := Lib.hid hl
    clear hb hl
    go_enter Try.func41, Try.ntmps41
    go_wp2_with fail
    refine CP.out.mono ?_
    rintro e w1 ⟨rfl, hb⟩
    have q1 := QB.below HQB.out hb HQB.out.lt
    have H3 : Hid (w.grownBy w1 (some g)) := Lib.hid ⟨hb.os, hb.tape, hb.output, hb.size, fun k hk _ => hb.block k hk⟩
    have c0 := q1.first
    have c1 := q1.ring f hf24
    have f1 := q1.frozen f
    have k0 : (0 : Int) ≤ (f : Int) := by omega
    have k1 : (f : Int) < 24 := by omega
    have q2 := q1.alloc (Obj.cells #[.int .i64 0] 3)
    have d0 := q2.first
    have d1 := q2.ring f hf24
    have e1 := q2.frozen f
    have q3 := Lib.hid (q2.setR f hf24 0)
    have S0 : Hid (w1.drew.cell? ⟨g, 24, none⟩ = some (.int .i64 f)) := Lib.hid c0
    have S1 : Hid ((w1.alloc (Obj.cells #[.int .i64 0] 3)).drew.cell? ⟨g, 24, none⟩ = some (.int .i64 f)) := Lib.hid d0
    have S2 : Hid (((w1.alloc (Obj.cells #[.int .i64 0] 3)).setCell ⟨g, f, none⟩ (.int .i64 0)).drew.cell? ⟨g, 24, none⟩ = some (.int .i64 f)) := Lib.hid q3.out.first
    have H4 := Lib.hid (grown_drew (World.grownBy.trans (World.grownBy.trans H3.out (World.grownBy_alloc w1 (Obj.cells #[.int .i64 0] 3) (some g))) (grown_cell _ g f (.int .i64 0))))
    clear hb
    go_wp2
    clear q1 q2
    refine wp_region_noPanic ?_
    refine wp_region_held_drew (S := (fun _ => True)) (by kernel_rfl) ?_ (fun hH0 => ?_)
    · trivial
    refine wpAnyH_take (i := 0) (oi := ({ dst := some 12, op := Op.move (Operand.tmp 0), type := 68, pos := "queue.go:63", after := #[], guard := none } : Oper)) (v := ?_) rfl (by kernel_rfl) (by kernel_rfl) (by kernel_rfl) (fun _ _ _ h => h) (Or.inl ⟨by rfl, ?_⟩) (by assumption) ?_
    rotate_left 1
    · (intro w hSw; (try dsimp only at hSw); go_simp; (try with_reducible rfl))
    (try simp only [Act.put, List.setIfInBounds_toArray, List.set_cons_zero, List.set_cons_succ])
    refine wpAnyH_take (i := 1) (oi := ({ dst := some 13, op := Op.move (Operand.tmp 0), type := 68, pos := "queue.go:63", after := #[], guard := none } : Oper)) (v := ?_) rfl (by kernel_rfl) (by kernel_rfl) (by kernel_rfl) (fun _ _ _ h => h) (Or.inl ⟨by rfl, ?_⟩) (by assumption) ?_
    rotate_left 1
    · (intro w hSw; (try dsimp only at hSw); go_simp; (try with_reducible rfl))
    (try simp only [Act.put, List.setIfInBounds_toArray, List.set_cons_zero, List.set_cons_succ])
    refine wpAnyH_take (i := 2) (oi := ({ dst := some 14, op := Op.nilCheck (Operand.tmp 13), type := 0, pos := "queue.go:63", after := #[{ on := 1, ground := Ground.data }], guard := none } : Oper)) (v := ?_) rfl (by kernel_rfl) (by kernel_rfl) (by kernel_rfl) (fun _ _ _ h => h) (Or.inl ⟨by rfl, ?_⟩) (by assumption) ?_
    rotate_left 1
    · (intro w hSw; (try dsimp only at hSw); go_simp; (try with_reducible rfl))
    (try simp only [Act.put, List.setIfInBounds_toArray, List.set_cons_zero, List.set_cons_succ])
    refine wpAnyH_take (i := 3) (oi := ({ dst := some 15, op := Op.fieldAddr 111 (Operand.tmp 14) 1, type := 0, pos := "queue.go:63", after := #[{ on := 2, ground := Ground.data }], guard := none } : Oper)) (v := ?_) rfl (by kernel_rfl) (by kernel_rfl) (by kernel_rfl) (fun _ _ _ h => h) (Or.inl ⟨by rfl, ?_⟩) (by assumption) ?_
    rotate_left 1
    · (intro w hSw; (try dsimp only at hSw); go_simp; (try with_reducible rfl))
    (try simp only [Act.put, List.setIfInBounds_toArray, List.set_cons_zero, List.set_cons_succ])
    refine wpAnyH_take (i := 8) (oi := ({ dst := some 20, op := Op.nilCheck (Operand.tmp 12), type := 0, pos := "queue.go:63", after := #[{ on := 0, ground := Ground.data }], guard := none } : Oper)) (v := ?_) rfl (by kernel_rfl) (by kernel_rfl) (by kernel_rfl) (fun _ _ _ h => h) (Or.inl ⟨by rfl, ?_⟩) (by assumption) ?_
    rotate_left 1
    · (intro w hSw; (try dsimp only at hSw); go_simp; (try with_reducible rfl))
    (try simp only [Act.put, List.setIfInBounds_toArray, List.set_cons_zero, List.set_cons_succ])
    refine wpAnyH_take (i := 9) (oi := ({ dst := some 21, op := Op.fieldAddr 111 (Operand.tmp 20) 0, type := 0, pos := "queue.go:63", after := #[{ on := 8, ground := Ground.data }], guard := none } : Oper)) (v := ?_) rfl (by kernel_rfl) (by kernel_rfl) (by kernel_rfl) (fun _ _ _ h => h) (Or.inl ⟨by rfl, ?_⟩) (by assumption) ?_
    rotate_left 1
    · (intro w hSw; (try dsimp only at hSw); go_simp; (try with_reducible rfl))
    (try simp only [Act.put, List.setIfInBounds_toArray, List.set_cons_zero, List.set_cons_succ])
    refine wpAnyH_ready (rs := [4, 5]) (by kernel_rfl) (by simp) ?_
    refine AllReadyH.cons (o := ({ dst := some 16, op := Op.load 3 (Operand.tmp 15), type := 3, pos := "queue.go:63", after := #[{ on := 3, ground := Ground.data }], guard := none } : Oper)) rfl (fun K hK => ?_) ?_
    · go_simp
      first | (refine hK.out _ _ ?_ (fun hH1 => ?_)) | (go_wp2_with fail; refine hK.out _ _ ?_ (fun hH1 => ?_))
      · trivial
      clear hK K hH0
      (try simp only [Act.put, List.setIfInBounds_toArray, List.set_cons_zero, List.set_cons_succ])
      refine wpAnyH_ready (rs := [5]) (by kernel_rfl) (by simp) ?_
      refine AllReadyH.cons (o := ({ dst := some 17, op := Op.alloc 3, type := 114, pos := "queue.go:63", after := #[], guard := none } : Oper)) rfl (fun K hK => ?_) ?_
      rotate_left 1
      · exact AllReadyH.nil
      go_simp
      first | (refine hK.out _ _ ?_ (fun hH2 => ?_)) | (go_wp2_with fail; refine hK.out _ _ ?_ (fun hH2 => ?_))
      · trivial
      clear hK K hH1
      (try simp only [Act.put, List.setIfInBounds_toArray, List.set_cons_zero, List.set_cons_succ])
      refine wpAnyH_take (i := 6) (oi := ({ dst := some 18, op := Op.nilCheck (Operand.tmp 17), type := 0, pos := "queue.go:63", after := #[{ on := 5, ground := Ground.data }], guard := none } : Oper)) (v := ?_) rfl (by kernel_rfl) (by kernel_rfl) (by kernel_rfl) (fun _ _ _ h => h) (Or.inl ⟨by rfl, ?_⟩) (by assumption) ?_
      rotate_left 1
      · (intro w hSw; (try dsimp only at hSw); go_simp; (try with_reducible rfl))
      (try simp only [Act.put, List.setIfInBounds_toArray, List.set_cons_zero, List.set_cons_succ])
      refine wpAnyH_ready (rs := [7]) (by kernel_rfl) (by simp) ?_
      refine AllReadyH.cons (o := ({ dst := some 19, op := Op.load 3 (Operand.tmp 18), type := 3, pos := "queue.go:63", after := #[{ on := 6, ground := Ground.data }], guard := none } : Oper)) rfl (fun K hK => ?_) ?_
      rotate_left 1
      · exact AllReadyH.nil
      go_simp
      first | (refine hK.out _ _ ?_ (fun hH3 => ?_)) | (go_wp2_with fail; refine hK.out _ _ ?_ (fun hH3 => ?_))
      · trivial
      clear hK K hH2
      (try simp only [Act.put, List.setIfInBounds_toArray, List.set_cons_zero, List.set_cons_succ])
      refine wpAnyH_take (i := 10) (oi := ({ dst := some 22, op := Op.indexAddr 109 (Operand.tmp 21) (Operand.tmp 16), type := 0, pos := "queue.go:63", after := #[{ on := 9, ground := Ground.data }, { on := 4, ground := Ground.data }, { on := 0, ground := Ground.phase }, { on := 1, ground := Ground.phase }, { on := 2, ground := Ground.phase }, { on := 3, ground := Ground.phase }, { on := 4, ground := Ground.phase }, { on := 5, ground := Ground.phase }, { on := 6, ground := Ground.phase }, { on := 7, ground := Ground.phase }], guard := none } : Oper)) (v := ?_) rfl (by kernel_rfl) (by kernel_rfl) (by kernel_rfl) (fun _ _ _ h => h) (Or.inl ⟨by rfl, ?_⟩) (by assumption) ?_
      rotate_left 1
      · (intro w hSw; (try dsimp only at hSw); go_simp; (try with_reducible rfl))
      (try simp only [Act.put, List.setIfInBounds_toArray, List.set_cons_zero, List.set_cons_succ])
      refine wpAnyH_ready (rs := [11]) (by kernel_rfl) (by simp) ?_
      refine AllReadyH.cons (o := ({ dst := none, op := Op.store 3 (Operand.tmp 22) (Operand.tmp 19), type := 0, pos := "queue.go:63", after := #[{ on := 10, ground := Ground.data }, { on := 7, ground := Ground.data }, { on := 0, ground := Ground.phase }, { on := 1, ground := Ground.phase }, { on := 2, ground := Ground.phase }, { on := 3, ground := Ground.phase }, { on := 4, ground := Ground.phase }, { on := 5, ground := Ground.phase }, { on := 6, ground := Ground.phase }, { on := 7, ground := Ground.phase }], guard := none } : Oper)) rfl (fun K hK => ?_) ?_
      rotate_left 1
      · exact AllReadyH.nil
      go_simp
      first | (refine hK.out _ _ ?_ (fun hH4 => ?_)) | (go_wp2_with fail; refine hK.out _ _ ?_ (fun hH4 => ?_))
      · trivial
      clear hK K hH3
      (try simp only [Act.put, List.setIfInBounds_toArray, List.set_cons_zero, List.set_cons_succ])
      refine wpAnyH_done (by kernel_rfl) ?_ _
      refine NoPanic.normal ?_
      have Q3 := Lib.hid q3.out.drew
      clear S0 S1 S2 c0 c1 f1 d0 d1 e1 q3 H3
      generalize ((w1.alloc (Obj.cells #[.int .i64 0] 3)).setCell ⟨g, f, none⟩ (.int .i64 0)).drew = W at Q3 H4 ⊢
      have CP := Lib.hid (fun u (h : QB u g (R.set f 0) f (x :: L).length) => quPlace_any g (R.set f 0) f (x :: L).length (((1 : Nat)) : Int) u h (by omega) (by omega))
      obtain ⟨p, hp⟩ : ∃ p, (f + 1) % 24 = p := ⟨_, rfl⟩
      rw [place_nat, hp] at CP
      have hp24 : p < 24 := by omega
      have c0 := Q3.out.first
      have f0 := Q3.out.frozen 24
      have q4 := Q3.out.setF p hp24
      have c1 : (W.setCell ⟨g, 24, none⟩ (.int .i64 p)).cell? ⟨g, 25, none⟩ = some (.int .i64 ((L.length : Int) + 1)) := by rw [q4.many]; simp
      have f1 := q4.frozen 25
      have q5 : Hid (QAt ((W.setCell ⟨g, 24, none⟩ (.int .i64 p)).setCell ⟨g, 25, none⟩ (.int .i64 (L.length : Int))) g L) := Lib.hid ⟨R.set f 0, p, q4.setM L.length (by omega), by rw [← hp]; exact QL.tail HQL.out 0 hL24 hf24⟩
      have H5 := Lib.hid (World.grownBy.trans (World.grownBy.trans H4.out (grown_cell W g 24 (.int .i64 p))) (grown_cell _ g 25 (.int .i64 (L.length : Int))))
      have tw : IntKind.i64.wrap ((L.length : Int) + 1 - 1) = (L.length : Int) := by rw [IntWalk.i64_in _ (by omega)]; omega
      clear q4 hp hp24
      go_wp2_with fail
      refine (CP.out _ Q3.out).mono ?_
      rintro e w' ⟨rfl, rfl⟩
      go_wp2
      go_ret2
      exact ⟨rfl, H5.out, q5.out⟩
    refine AllReadyH.cons (o := ({ dst := some 17, op := Op.alloc 3, type := 114, pos := "queue.go:63", after := #[], guard := none } : Oper)) rfl (fun K hK => ?_) ?_
    · go_simp
      first | (refine hK.out _ _ ?_ (fun hH1 => ?_)) | (go_wp2_with fail; refine hK.out _ _ ?_ (fun hH1 => ?_))
      · trivial
      clear hK K hH0
      (try simp only [Act.put, List.setIfInBounds_toArray, List.set_cons_zero, List.set_cons_succ])
      refine wpAnyH_take (i := 6) (oi := ({ dst := some 18, op := Op.nilCheck (Operand.tmp 17), type := 0, pos := "queue.go:63", after := #[{ on := 5, ground := Ground.data }], guard := none } : Oper)) (v := ?_) rfl (by kernel_rfl) (by kernel_rfl) (by kernel_rfl) (fun _ _ _ h => h) (Or.inl ⟨by rfl, ?_⟩) (by assumption) ?_
      rotate_left 1
      · (intro w hSw; (try dsimp only at hSw); go_simp; (try with_reducible rfl))
      (try simp only [Act.put, List.setIfInBounds_toArray, List.set_cons_zero, List.set_cons_succ])
      refine wpAnyH_ready (rs := [4, 7]) (by kernel_rfl) (by simp) ?_
      refine AllReadyH.cons (o := ({ dst := some 16, op := Op.load 3 (Operand.tmp 15), type := 3, pos := "queue.go:63", after := #[{ on := 3, ground := Ground.data }], guard := none } : Oper)) rfl (fun K hK => ?_) ?_
      · go_simp
        first | (refine hK.out _ _ ?_ (fun hH2 => ?_)) | (go_wp2_with fail; refine hK.out _ _ ?_ (fun hH2 => ?_))
        · trivial
        clear hK K hH1
        (try simp only [Act.put, List.setIfInBounds_toArray, List.set_cons_zero, List.set_cons_succ])
        refine wpAnyH_ready (rs := [7]) (by kernel_rfl) (by simp) ?_
        refine AllReadyH.cons (o := ({ dst := some 19, op := Op.load 3 (Operand.tmp 18), type := 3, pos := "queue.go:63", after := #[{ on := 6, ground := Ground.data }], guard := none } : Oper)) rfl (fun K hK => ?_) ?_
        rotate_left 1
        · exact AllReadyH.nil
        go_simp
        first | (refine hK.out _ _ ?_ (fun hH3 => ?_)) | (go_wp2_with fail; refine hK.out _ _ ?_ (fun hH3 => ?_))
        · trivial
        clear hK K hH2
        (try simp only [Act.put, List.setIfInBounds_toArray, List.set_cons_zero, List.set_cons_succ])
        refine wpAnyH_take (i := 10) (oi := ({ dst := some 22, op := Op.indexAddr 109 (Operand.tmp 21) (Operand.tmp 16), type := 0, pos := "queue.go:63", after := #[{ on := 9, ground := Ground.data }, { on := 4, ground := Ground.data }, { on := 0, ground := Ground.phase }, { on := 1, ground := Ground.phase }, { on := 2, ground := Ground.phase }, { on := 3, ground := Ground.phase }, { on := 4, ground := Ground.phase }, { on := 5, ground := Ground.phase }, { on := 6, ground := Ground.phase }, { on := 7, ground := Ground.phase }], guard := none } : Oper)) (v := ?_) rfl (by kernel_rfl) (by kernel_rfl) (by kernel_rfl) (fun _ _ _ h => h) (Or.inl ⟨by rfl, ?_⟩) (by assumption) ?_
        rotate_left 1
        · (intro w hSw; (try dsimp only at hSw); go_simp; (try with_reducible rfl))
        (try simp only [Act.put, List.setIfInBounds_toArray, List.set_cons_zero, List.set_cons_succ])
        refine wpAnyH_ready (rs := [11]) (by kernel_rfl) (by simp) ?_
        refine AllReadyH.cons (o := ({ dst := none, op := Op.store 3 (Operand.tmp 22) (Operand.tmp 19), type := 0, pos := "queue.go:63", after := #[{ on := 10, ground := Ground.data }, { on := 7, ground := Ground.data }, { on := 0, ground := Ground.phase }, { on := 1, ground := Ground.phase }, { on := 2, ground := Ground.phase }, { on := 3, ground := Ground.phase }, { on := 4, ground := Ground.phase }, { on := 5, ground := Ground.phase }, { on := 6, ground := Ground.phase }, { on := 7, ground := Ground.phase }], guard := none } : Oper)) rfl (fun K hK => ?_) ?_
        rotate_left 1
        · exact AllReadyH.nil
        go_simp
        first | (refine hK.out _ _ ?_ (fun hH4 => ?_)) | (go_wp2_with fail; refine hK.out _ _ ?_ (fun hH4 => ?_))
        · trivial
        clear hK K hH3
        (try simp only [Act.put, List.setIfInBounds_toArray, List.set_cons_zero, List.set_cons_succ])
        refine wpAnyH_done (by kernel_rfl) ?_ _
        refine NoPanic.normal ?_
        have Q3 := Lib.hid q3.out.drew
        clear S0 S1 S2 c0 c1 f1 d0 d1 e1 q3 H3
        generalize ((w1.alloc (Obj.cells #[.int .i64 0] 3)).setCell ⟨g, f, none⟩ (.int .i64 0)).drew = W at Q3 H4 ⊢
        have CP := Lib.hid (fun u (h : QB u g (R.set f 0) f (x :: L).length) => quPlace_any g (R.set f 0) f (x :: L).length (((1 : Nat)) : Int) u h (by omega) (by omega))
        obtain ⟨p, hp⟩ : ∃ p, (f + 1) % 24 = p := ⟨_, rfl⟩
        rw [place_nat, hp] at CP
        have hp24 : p < 24 := by omega
        have c0 := Q3.out.first
        have f0 := Q3.out.frozen 24
        have q4 := Q3.out.setF p hp24
        have c1 : (W.setCell ⟨g, 24, none⟩ (.int .i64 p)).cell? ⟨g, 25, none⟩ = some (.int .i64 ((L.length : Int) + 1)) := by rw [q4.many]; simp
        have f1 := q4.frozen 25
        have q5 : Hid (QAt ((W.setCell ⟨g, 24, none⟩ (.int .i64 p)).setCell ⟨g, 25, none⟩ (.int .i64 (L.length : Int))) g L) := Lib.hid ⟨R.set f 0, p, q4.setM L.length (by omega), by rw [← hp]; exact QL.tail HQL.out 0 hL24 hf24⟩
        have H5 := Lib.hid (World.grownBy.trans (World.grownBy.trans H4.out (grown_cell W g 24 (.int .i64 p))) (grown_cell _ g 25 (.int .i64 (L.length : Int))))
        have tw : IntKind.i64.wrap ((L.length : Int) + 1 - 1) = (L.length : Int) := by rw [IntWalk.i64_in _ (by omega)]; omega
        clear q4 hp hp24
        go_wp2_with fail
        refine (CP.out _ Q3.out).mono ?_
        rintro e w' ⟨rfl, rfl⟩
        go_wp2
        go_ret2
        exact ⟨rfl, H5.out, q5.out⟩
      refine AllReadyH.cons (o := ({ dst := some 19, op := Op.load 3 (Operand.tmp 18), type := 3, pos := "queue.go:63", after := #[{ on := 6, ground := Ground.data }], guard := none } : Oper)) rfl (fun K hK => ?_) ?_
      · go_simp
        first | (refine hK.out _ _ ?_ (fun hH2 => ?_)) | (go_wp2_with fail; refine hK.out _ _ ?_ (fun hH2 => ?_))
        · trivial
        clear hK K hH1
        (try simp only [Act.put, List.setIfInBounds_toArray, List.set_cons_zero, List.set_cons_succ])
        refine wpAnyH_ready (rs := [4]) (by kernel_rfl) (by simp) ?_
        refine AllReadyH.cons (o := ({ dst := some 16, op := Op.load 3 (Operand.tmp 15), type := 3, pos := "queue.go:63", after := #[{ on := 3, ground := Ground.data }], guard := none } : Oper)) rfl (fun K hK => ?_) ?_
        rotate_left 1
        · exact AllReadyH.nil
        go_simp
        first | (refine hK.out _ _ ?_ (fun hH3 => ?_)) | (go_wp2_with fail; refine hK.out _ _ ?_ (fun hH3 => ?_))
        · trivial
        clear hK K hH2
        (try simp only [Act.put, List.setIfInBounds_toArray, List.set_cons_zero, List.set_cons_succ])
        refine wpAnyH_take (i := 10) (oi := ({ dst := some 22, op := Op.indexAddr 109 (Operand.tmp 21) (Operand.tmp 16), type := 0, pos := "queue.go:63", after := #[{ on := 9, ground := Ground.data }, { on := 4, ground := Ground.data }, { on := 0, ground := Ground.phase }, { on := 1, ground := Ground.phase }, { on := 2, ground := Ground.phase }, { on := 3, ground := Ground.phase }, { on := 4, ground := Ground.phase }, { on := 5, ground := Ground.phase }, { on := 6, ground := Ground.phase }, { on := 7, ground := Ground.phase }], guard := none } : Oper)) (v := ?_) rfl (by kernel_rfl) (by kernel_rfl) (by kernel_rfl) (fun _ _ _ h => h) (Or.inl ⟨by rfl, ?_⟩) (by assumption) ?_
        rotate_left 1
        · (intro w hSw; (try dsimp only at hSw); go_simp; (try with_reducible rfl))
        (try simp only [Act.put, List.setIfInBounds_toArray, List.set_cons_zero, List.set_cons_succ])
        refine wpAnyH_ready (rs := [11]) (by kernel_rfl) (by simp) ?_
        refine AllReadyH.cons (o := ({ dst := none, op := Op.store 3 (Operand.tmp 22) (Operand.tmp 19), type := 0, pos := "queue.go:63", after := #[{ on := 10, ground := Ground.data }, { on := 7, ground := Ground.data }, { on := 0, ground := Ground.phase }, { on := 1, ground := Ground.phase }, { on := 2, ground := Ground.phase }, { on := 3, ground := Ground.phase }, { on := 4, ground := Ground.phase }, { on := 5, ground := Ground.phase }, { on := 6, ground := Ground.phase }, { on := 7, ground := Ground.phase }], guard := none } : Oper)) rfl (fun K hK => ?_) ?_
        rotate_left 1
        · exact AllReadyH.nil
        go_simp
        first | (refine hK.out _ _ ?_ (fun hH4 => ?_)) | (go_wp2_with fail; refine hK.out _ _ ?_ (fun hH4 => ?_))
        · trivial
        clear hK K hH3
        (try simp only [Act.put, List.setIfInBounds_toArray, List.set_cons_zero, List.set_cons_succ])
        refine wpAnyH_done (by kernel_rfl) ?_ _
        refine NoPanic.normal ?_
        have Q3 := Lib.hid q3.out.drew
        clear S0 S1 S2 c0 c1 f1 d0 d1 e1 q3 H3
        generalize ((w1.alloc (Obj.cells #[.int .i64 0] 3)).setCell ⟨g, f, none⟩ (.int .i64 0)).drew = W at Q3 H4 ⊢
        have CP := Lib.hid (fun u (h : QB u g (R.set f 0) f (x :: L).length) => quPlace_any g (R.set f 0) f (x :: L).length (((1 : Nat)) : Int) u h (by omega) (by omega))
        obtain ⟨p, hp⟩ : ∃ p, (f + 1) % 24 = p := ⟨_, rfl⟩
        rw [place_nat, hp] at CP
        have hp24 : p < 24 := by omega
        have c0 := Q3.out.first
        have f0 := Q3.out.frozen 24
        have q4 := Q3.out.setF p hp24
        have c1 : (W.setCell ⟨g, 24, none⟩ (.int .i64 p)).cell? ⟨g, 25, none⟩ = some (.int .i64 ((L.length : Int) + 1)) := by rw [q4.many]; simp
        have f1 := q4.frozen 25
        have q5 : Hid (QAt ((W.setCell ⟨g, 24, none⟩ (.int .i64 p)).setCell ⟨g, 25, none⟩ (.int .i64 (L.length : Int))) g L) := Lib.hid ⟨R.set f 0, p, q4.setM L.length (by omega), by rw [← hp]; exact QL.tail HQL.out 0 hL24 hf24⟩
        have H5 := Lib.hid (World.grownBy.trans (World.grownBy.trans H4.out (grown_cell W g 24 (.int .i64 p))) (grown_cell _ g 25 (.int .i64 (L.length : Int))))
        have tw : IntKind.i64.wrap ((L.length : Int) + 1 - 1) = (L.length : Int) := by rw [IntWalk.i64_in _ (by omega)]; omega
        clear q4 hp hp24
        go_wp2_with fail
        refine (CP.out _ Q3.out).mono ?_
        rintro e w' ⟨rfl, rfl⟩
        go_wp2
        go_ret2
        exact ⟨rfl, H5.out, q5.out⟩
      exact AllReadyH.nil
    exact AllReadyH.nil
theorem quClear_any (g : Nat) (L : List Int) (w : World) (hq : QAt w g L) :
    Calls Try.prog 42 #[.pointer (some ⟨g, 0, none⟩)] w fun e w' => e = .returned (.tuple #[]) ∧ w.grownBy w' (some g) ∧ QAt w' g [] := by
  obtain ⟨R, f, hb, hl⟩ := hq
  go_enter Try.func42, Try.ntmps42
  have HB := Lib.hid hb
  have ho : (quCs R f L.length).size = 26 := by unfold quCs; simp [hb.2.1]
  clear hb hl
  go_upto_region 0 with (fail)
  refine wp_region_lit ?_
  refine Great.wpList_readTo rfl (some 2) rfl (.pointer (some ⟨g, 0, none⟩)) (by rfl) ?_
  refine Great.wpList_readTo rfl (some 3) rfl (.agg (quCs (List.replicate 24 0) 0 0)) (by kernel_rfl) ?_
  refine Great.wpList_readTo rfl (some 4) rfl (.pointer (some ⟨g, 0, none⟩)) (by rfl) ?_
  refine wpList_store_rowTo rfl 111 _ _ rfl rfl g (quCs (List.replicate 24 0) 0 0) rfl rfl 111 (quCs R f L.length) HB.out.1 (by kernel_rfl) (by rw [ho]; rfl) (by kernel_rfl) ?_
  have H2 : Hid (QAt (w.setRow g (quCs (List.replicate 24 0) 0 0)) g []) := Lib.hid ⟨List.replicate 24 0, 0, ⟨Blk.row HB.out.1 _, by simp, by omega, by simp⟩, fun i hi => absurd hi (by simp)⟩
  have H3 : Hid (w.grownBy (w.setRow g (quCs (List.replicate 24 0) 0 0)) (some g)) := Lib.hid ⟨rfl, rfl, rfl, by simp, fun k hk hne => setRow_other w g k _ (fun e => hne (by rw [e]))⟩
  generalize w.setRow g (quCs (List.replicate 24 0) 0 0) = W at H2 H3 ⊢
  go_wp2
  exact Great.bodyPost_end0 rfl rfl ⟨rfl, H3.out, H2.out⟩
theorem step_appI {ops : Array Oper} {o : Oper} {a : Act} {K : Act → World → Prop} {Q : Exit → Act → World → Prop} {E : Prop} (hgd : o.guard = none) (w : World) (s x : Operand)
    (ho : o.op = .call { callee := .builtin .append, args := #[s, x], argTypes := #[62, 62] })
    (base : Nat) (v y : Value) (l m : List Int) (hs : a.eval s = v) (hown : eI.Own 3 w base v l) (hx : a.eval x = y) (hr : eI.Rd w y m) (hn : l.length + m.length ≤ 1099511627776) (hbase : base ≤ w.heap.size)
    (h : ∀ v' w', eI.Own 3 w' base v' (l ++ m) → Below base w w' → w.grownBy w' v.ownBlock → (v'.ownBlock = v.ownBlock ∨ v'.ownBlock = some w.heap.size) → K (a.put o.dst v') w') : if Region.wanted o (yielded ops a.tmps) = true then Oper.wp Try.prog o a w K Q else E := by
  obtain ⟨i0, hi, hz0, hz1, hz2⟩ := info_parts infoI
  rw [if_pos (by simp [Region.wanted, hgd])]
  exact Els.app (E := eI) w s x 62 3 i0 _ 8 Try.underlying62 hi hz0 hz1 hz2 (by decide) rfl ho base v y l m hs hown hx hr hn hbase h
theorem quAll_any (g : Nat) (L : List Int) (w : World) (hq : QAt w g L) :
    Calls Try.prog 46 #[.pointer (some ⟨g, 0, none⟩)] w fun e w' => ∃ v, e = .returned v ∧ eI.Own 3 w' w.heap.size v L ∧ Below w.heap.size w w' := by
  obtain ⟨R, f, hb, hl⟩ := hq
  have HQL := Lib.hid hl
  obtain ⟨m, hm⟩ : ∃ m, L.length = m := ⟨_, rfl⟩
  rw [hm] at hb
  have HM := Lib.hid hm
  have hm24 := hb.2.2.2
  obtain ⟨Z, hmk, hown⟩ := made_I w m (by omega)
  have HB := Lib.hid hb
  have HO := Lib.hid hown
  have c0 := hb.many
  have c1 := (hb.alloc Z).many
  have hg := hb.lt
  clear hb hl hm hown
  go_enter Try.func46, Try.ntmps46
  go_wp2
  clear hmk c0 c1
  go_loopw [3, 14] (fun u3 i wr => ∃ k : Nat, k ≤ m ∧ i = .int .i64 k ∧ Hid (eI.Own 3 wr w.heap.size u3 (L.take k)) ∧ Hid (Below w.heap.size w wr)) (fun _ i _ => m - (intOf i).toNat)
  case atStart => exact ⟨0, Nat.zero_le _, rfl, Lib.hid (HO.out _ (Nat.le_refl _)), Lib.hid (Below.alloc0 (Below.refl _ _) _)⟩
  case round =>
    obtain ⟨k, hk, rfl, HW, HBW⟩ := hrel
    by_cases hlt : k < m
    · have hqb := QB.below HB.out HBW.out hg
      have hf24 := hqb.2.2.1
      obtain ⟨p, hp⟩ : ∃ p, (f + k) % 24 = p := ⟨_, rfl⟩
      have hp24 : p < 24 := by omega
      have hz : iat R p = iat L k := by rw [← hp]; exact HQL.out k (by rw [HM.out]; exact hlt)
      have c3 := hqb.ring p hp24
      rw [hz] at c3
      have CP := Lib.hid (fun u (h : QB u g R f m) => quPlace_any g R f m (k : Int) u h (by omega) (by omega))
      rw [place_nat, hp] at CP
      have HT : Hid (L.take (k + 1) = L.take k ++ [iat L k]) := Lib.hid (by rw [List.take_succ_eq_append_getElem (by rw [HM.out]; exact hlt), ← iat_eq])
      have HLT : Hid ((L.take k).length ≤ 24) := Lib.hid (by rw [List.length_take, HM.out]; omega)
      have p0 : (0 : Int) ≤ (p : Int) := by omega
      have p1 : (p : Int) < 24 := by omega
      have t0 : (0 : Int) ≤ k := by omega
      have t1 : (k : Int) < m := by omega
      have HQB := Lib.hid hqb
      generalize iat L k = x at *
      have S0 : Hid (wr.drew.cell? ⟨g, p, none⟩ = some (.int .i64 x)) := Lib.hid c3
      have S1 : Hid ((wr.alloc (Obj.cells #[.int .i64 x] 3)).drew.cell? ⟨g, p, none⟩ = some (.int .i64 x)) := Lib.hid ((Below.alloc0 (Below.refl _ wr) (Obj.cells #[.int .i64 x] 3)).cell (p := ⟨g, p, none⟩) (by have := HQB.out.lt; exact this) |>.trans c3)
      clear hqb hp hp24 hz hf24
      go_wp2
      refine wp_region_noPanic ?_
      refine wp_region_held_drew (S := (fun w' => w'.cell? ⟨g, p, none⟩ = some (.int .i64 x))) (by kernel_rfl) ?_ (fun hH0 => ?_)
      · (try dsimp only); with_reducible exact S0.out
      refine wpAnyH_take (i := 0) (oi := ({ dst := some 17, op := Op.move (Operand.tmp 3), type := 62, pos := "queue.go:74", after := #[], guard := none } : Oper)) (v := ?_) rfl (by kernel_rfl) (by kernel_rfl) (by kernel_rfl) (fun _ _ _ h => h) (Or.inl ⟨by rfl, ?_⟩) (by assumption) ?_
      rotate_left 1
      · (intro w hSw; (try dsimp only at hSw); go_simp; (try with_reducible rfl))
      (try simp only [Act.put, List.setIfInBounds_toArray, List.set_cons_zero, List.set_cons_succ])
      refine wpAnyH_take (i := 1) (oi := ({ dst := some 18, op := Op.move (Operand.tmp 0), type := 68, pos := "queue.go:74", after := #[], guard := none } : Oper)) (v := ?_) rfl (by kernel_rfl) (by kernel_rfl) (by kernel_rfl) (fun _ _ _ h => h) (Or.inl ⟨by rfl, ?_⟩) (by assumption) ?_
      rotate_left 1
      · (intro w hSw; (try dsimp only at hSw); go_simp; (try with_reducible rfl))
      (try simp only [Act.put, List.setIfInBounds_toArray, List.set_cons_zero, List.set_cons_succ])
      refine wpAnyH_take (i := 2) (oi := ({ dst := some 19, op := Op.move (Operand.tmp 0), type := 68, pos := "queue.go:74", after := #[], guard := none } : Oper)) (v := ?_) rfl (by kernel_rfl) (by kernel_rfl) (by kernel_rfl) (fun _ _ _ h => h) (Or.inl ⟨by rfl, ?_⟩) (by assumption) ?_
      rotate_left 1
      · (intro w hSw; (try dsimp only at hSw); go_simp; (try with_reducible rfl))
      (try simp only [Act.put, List.setIfInBounds_toArray, List.set_cons_zero, List.set_cons_succ])
      refine wpAnyH_take (i := 3) (oi := ({ dst := some 20, op := Op.move (Operand.tmp 4), type := 3, pos := "queue.go:74", after := #[], guard := none } : Oper)) (v := ?_) rfl (by kernel_rfl) (by kernel_rfl) (by kernel_rfl) (fun _ _ _ h => h) (Or.inl ⟨by rfl, ?_⟩) (by assumption) ?_
      rotate_left 1
      · (intro w hSw; (try dsimp only at hSw); go_simp; (try with_reducible rfl))
      (try simp only [Act.put, List.setIfInBounds_toArray, List.set_cons_zero, List.set_cons_succ])
      refine wpAnyH_take (i := 5) (oi := ({ dst := some 22, op := Op.nilCheck (Operand.tmp 18), type := 0, pos := "queue.go:74", after := #[{ on := 1, ground := Ground.data }], guard := none } : Oper)) (v := ?_) rfl (by kernel_rfl) (by kernel_rfl) (by kernel_rfl) (fun _ _ _ h => h) (Or.inl ⟨by rfl, ?_⟩) (by assumption) ?_
      rotate_left 1
      · (intro w hSw; (try dsimp only at hSw); go_simp; (try with_reducible rfl))
      (try simp only [Act.put, List.setIfInBounds_toArray, List.set_cons_zero, List.set_cons_succ])
      refine wpAnyH_take (i := 6) (oi := ({ dst := some 23, op := Op.fieldAddr 111 (Operand.tmp 22) 0, type := 0, pos := "queue.go:74", after := #[{ on := 5, ground := Ground.data }], guard := none } : Oper)) (v := ?_) rfl (by kernel_rfl) (by kernel_rfl) (by kernel_rfl) (fun _ _ _ h => h) (Or.inl ⟨by rfl, ?_⟩) (by assumption) ?_
      rotate_left 1
      · (intro w hSw; (try dsimp only at hSw); go_simp; (try with_reducible rfl))
      (try simp only [Act.put, List.setIfInBounds_toArray, List.set_cons_zero, List.set_cons_succ])
      refine wpAnyH_ready (rs := [4]) (by kernel_rfl) (by simp) ?_
      refine AllReadyH.cons (o := ({ dst := some 21, op := Op.call { callee := Callee.value (Operand.func 65), args := #[Operand.tmp 19, Operand.tmp 20], argTypes := #[68, 3] }, type := 3, pos := "queue.go:74", after := #[{ on := 2, ground := Ground.data }, { on := 3, ground := Ground.data }], guard := none } : Oper)) rfl (fun K hK => ?_) ?_
      rotate_left 1
      · exact AllReadyH.nil
      go_simp
      go_at_call 65
      ((with_reducible refine (CP.out _ HQB.out.drew).mono ?_); rintro e w' ⟨rfl, rfl⟩)
      first | (refine hK.out _ _ ?_ (fun hH1 => ?_)) | (go_wp2_with fail; refine hK.out _ _ ?_ (fun hH1 => ?_))
      · (try dsimp only); with_reducible exact S0.out
      clear hK K hH0
      (try simp only [Act.put, List.setIfInBounds_toArray, List.set_cons_zero, List.set_cons_succ])
      refine wpAnyH_take (i := 7) (oi := ({ dst := some 24, op := Op.indexAddr 109 (Operand.tmp 23) (Operand.tmp 21), type := 0, pos := "queue.go:74", after := #[{ on := 6, ground := Ground.data }, { on := 4, ground := Ground.data }], guard := none } : Oper)) (v := ?_) rfl (by kernel_rfl) (by kernel_rfl) (by kernel_rfl) (fun _ _ _ h => h) (Or.inl ⟨by rfl, ?_⟩) (by assumption) ?_
      rotate_left 1
      · (intro w hSw; (try dsimp only at hSw); go_simp; (try with_reducible rfl))
      (try simp only [Act.put, List.setIfInBounds_toArray, List.set_cons_zero, List.set_cons_succ])
      refine wpAnyH_take (i := 8) (oi := ({ dst := some 25, op := Op.load 3 (Operand.tmp 24), type := 3, pos := "queue.go:74", after := #[{ on := 7, ground := Ground.data }], guard := none } : Oper)) (v := ?_) rfl (by kernel_rfl) (by kernel_rfl) (by kernel_rfl) (fun _ _ _ h => h) (Or.inl ⟨by rfl, ?_⟩) (by assumption) ?_
      rotate_left 1
      · (intro w hSw; (try dsimp only at hSw); go_simp; (try with_reducible rfl))
      (try simp only [Act.put, List.setIfInBounds_toArray, List.set_cons_zero, List.set_cons_succ])
      refine wpAnyH_ready (rs := [9]) (by kernel_rfl) (by simp) ?_
      refine AllReadyH.cons (o := ({ dst := some 26, op := Op.buildSlice 62 1 #[(0, Operand.tmp 25)], type := 62, pos := "queue.go:74", after := #[{ on := 8, ground := Ground.data }], guard := none } : Oper)) rfl (fun K hK => ?_) ?_
      rotate_left 1
      · exact AllReadyH.nil
      go_simp
      first | (refine hK.out _ _ ?_ (fun hH2 => ?_)) | (go_wp2_with fail; refine hK.out _ _ ?_ (fun hH2 => ?_))
      · (try dsimp only); with_reducible exact S1.out
      clear hK K hH1
      (try simp only [Act.put, List.setIfInBounds_toArray, List.set_cons_zero, List.set_cons_succ])
      refine wpAnyH_ready (rs := [10]) (by kernel_rfl) (by simp) ?_
      refine AllReadyH.cons (o := ({ dst := some 27, op := Op.call { callee := Callee.builtin Builtin.append, args := #[Operand.tmp 17, Operand.tmp 26], argTypes := #[62, 62] }, type := 62, pos := "queue.go:74", after := #[{ on := 0, ground := Ground.data }, { on := 9, ground := Ground.data }, { on := 4, ground := Ground.chain }], guard := none } : Oper)) rfl (fun K hK => ?_) ?_
      rotate_left 1
      · exact AllReadyH.nil
      (refine step_appI (by rfl) _ _ _ (by rfl) w.heap.size u3 _ (L.take k) [x] (by rfl) (HW.out.drew.alloc _) (by rfl) (Els.Rd.new (E := eI) _ rfl 3 [_] #[.int .i64 x] 1 rfl rfl 1) (by have := HLT.out; simp at this ⊢; omega) (by have := HBW.out.size; simp at this ⊢; omega) ?_; intro v' w4 hown hbel hgr hwh; have S3 : Hid (w4.cell? ⟨g, p, none⟩ = some (.int .i64 x)) := Lib.hid ((hbel.cell (p := ⟨g, p, none⟩) hg).trans S1.out))
      first | (refine hK.out _ _ ?_ (fun hH3 => ?_)) | (go_wp2_with fail; refine hK.out _ _ ?_ (fun hH3 => ?_))
      · (try dsimp only); with_reducible exact S3.out
      clear hK K hH2
      (try simp only [Act.put, List.setIfInBounds_toArray, List.set_cons_zero, List.set_cons_succ])
      refine wpAnyH_take (i := 11) (oi := ({ dst := some 3, op := Op.assign (Operand.tmp 27), type := 62, pos := "queue.go:74", after := #[{ on := 10, ground := Ground.data }, { on := 10, ground := Ground.chain }, { on := 0, ground := Ground.phase }, { on := 1, ground := Ground.phase }, { on := 2, ground := Ground.phase }, { on := 3, ground := Ground.phase }, { on := 4, ground := Ground.phase }, { on := 5, ground := Ground.phase }, { on := 6, ground := Ground.phase }, { on := 7, ground := Ground.phase }, { on := 8, ground := Ground.phase }, { on := 9, ground := Ground.phase }, { on := 10, ground := Ground.phase }], guard := none } : Oper)) (v := ?_) rfl (by kernel_rfl) (by kernel_rfl) (by kernel_rfl) (fun _ _ _ h => h) (Or.inl ⟨by rfl, ?_⟩) (by assumption) ?_
      rotate_left 1
      · (intro w hSw; (try dsimp only at hSw); go_simp; (try with_reducible rfl))
      (try simp only [Act.put, List.setIfInBounds_toArray, List.set_cons_zero, List.set_cons_succ])
      refine wpAnyH_done (by kernel_rfl) ?_ _
      refine NoPanic.normal ?_
      have HO4 : Hid (eI.Own 3 w4 w.heap.size v' (L.take (k + 1))) := Lib.hid (by rw [HT.out]; exact hown)
      have HB4 := Lib.hid ((Below.alloc0 (Below.drew0 HBW.out) _).trans hbel)
      clear hown hbel hgr hwh S0 S1 S3
      go_wp2
      refine ⟨⟨k + 1, by omega, by go_num, HO4, HB4⟩, ?_⟩
      simp [intOf]; omega
    · have HR : Hid (eI.Own 3 wr w.heap.size u3 L) := Lib.hid (by have := HW.out; rwa [List.take_of_length_le (by rw [HM.out]; omega)] at this)
      go_wp2
      go_ret
      exact ⟨_, rfl, HR.out, HBW.out⟩
theorem quOf_any (w : World) (v : Value) (xs : List Int) (hr : eI.Rd w v xs) (hn : xs.length ≤ 1000000000000) :
    Calls Try.prog 37 #[v] w fun e w' => Below w.heap.size w w' ∧ (24 < xs.length ∧ e = .returned (.tuple #[.pointer none, .bool false]) ∨ xs.length ≤ 24 ∧ e = .returned (.tuple #[.pointer (some ⟨w.heap.size, 0, none⟩), .bool true]) ∧ QAt w' w.heap.size xs) := by
  have HQ : Hid (QAt (w.alloc (Obj.cells (quCs (List.replicate 24 0) 0 0) 111)) w.heap.size []) := Lib.hid ⟨List.replicate 24 0, 0, ⟨Blk.new _ _ _ _, by simp, by omega, by simp⟩, fun i hi => absurd hi (by simp)⟩
  have CP := Lib.hid (quPush_any w.heap.size [] _ HQ.out v xs (hr.alloc _) (by
    intro b o n c e h0
    subst e
    obtain ⟨A, c', e, h⟩ := Els.one_at (E := eI) (f := Value.int .i64) rfl (fun _ => rfl) hr
    simp only [Value.slice.injEq] at e
    obtain ⟨rfl, rfl, rfl⟩ := e
    obtain ⟨g', off, e2, hlt, -⟩ := h h0
    simp at e2
    have := e2.1
    omega) hn)
  simp only [List.length_nil, Nat.zero_add, List.nil_append] at CP
  go_enter Try.func37, Try.ntmps37
  go_upto_region 1 with (fail)
  refine wp_region_lit ?_
  refine Great.wpList_allocTo rfl (some 5) rfl (.pointer (some ⟨w.heap.size, 0, none⟩)) (Obj.cells (quCs (List.replicate 24 0) 0 0) 111) (by kernel_rfl) ?_
  have HB0 := Lib.hid (Below.alloc0 (Below.refl _ w) (Obj.cells (quCs (List.replicate 24 0) 0 0) 111))
  have hs : (w.alloc (Obj.cells (quCs (List.replicate 24 0) 0 0) 111)).heap.size = w.heap.size + 1 := by simp
  have HS := Lib.hid hs
  generalize w.alloc (Obj.cells (quCs (List.replicate 24 0) 0 0) 111) = w1 at *
  clear hs
  go_wp2_with fail
  refine CP.out.mono ?_
  rintro e w2 ⟨rfl, hg, hq⟩
  have HB2 := Lib.hid (Below.trans HB0.out (below_own hg (by intro g e; simp at e; omega) (by rw [HS.out]; omega)))
  by_cases h : xs.length ≤ 24
  · rw [if_pos h] at hq
    have hd : decide (xs.length ≤ 24) = true := by simpa using h
    have H2 := Lib.hid hq
    have H3 := Lib.hid h
    rw [hd]
    clear hg hq h hd
    go_wp2
    go_ret2
    exact ⟨HB2.out, .inr ⟨H3.out, rfl, H2.out⟩⟩
  · have hd : decide (xs.length ≤ 24) = false := by simpa using h
    have H3 := Lib.hid h
    rw [hd]
    clear hg hq h hd
    go_wp2
    go_ret2
    exact ⟨HB2.out, .inl ⟨by have := H3.out; omega, rfl⟩⟩
theorem alive21 (w : World) : Calls Try.prog 38 #[] w fun e w' => e = .returned (.bool true) ∧ Below w.heap.size w w' := by
  go_enter Try.func38, Try.ntmps38
  go_upto_region 2 with (fail)
  generalize hW : w.alloc _ = W
  have HQ : Hid (QAt W w.heap.size []) := Lib.hid (by rw [← hW]; exact ⟨List.replicate 24 0, 0, ⟨Blk.new _ _ _ _, by simp, by omega, by simp⟩, fun i hi => absurd hi (by simp)⟩)
  have HB0 : Hid (Below w.heap.size w W) := Lib.hid (by rw [← hW]; exact Below.alloc0 (Below.refl _ w) _)
  have HS : Hid (W.heap.size = w.heap.size + 1) := Lib.hid (by rw [← hW]; simp)
  clear hW
  have CP := Lib.hid (quPush_any w.heap.size [] _ (HQ.out.below (Below.alloc0 (Below.refl _ _) (Obj.cells #[.int .i64 3] 3)) HQ.out.lt) _ [3] (Els.Rd.new (E := eI) W rfl 3 [3] #[.int .i64 3] 1 rfl rfl 1) (by
    intro b o n c e h0
    simp at e
    have := HS.out
    omega) (by decide))
  go_wp2_with fail
  refine CP.out.mono ?_
  rintro e w1 ⟨rfl, hg, hq⟩
  have HQ1 : Hid (QAt w1 w.heap.size [3]) := Lib.hid hq
  have HB1 := Lib.hid (Below.trans (Below.trans HB0.out (Below.alloc (Below.refl _ W) HB0.out.size (Obj.cells #[.int .i64 3] 3))) (below_own hg (by intro g e; simp at e; omega) (by have := HS.out; simp; omega)))
  clear hg hq CP
  have CF := Lib.hid (quFront_any w.heap.size [3] _ (HQ1.out.below (Below.alloc0 (Below.refl _ _) (Obj.cells #[.int .i64 1, .int .i64 2] 3)) HQ1.out.lt) _ [1, 2] (Els.Rd.new (E := eI) w1 rfl 3 [1, 2] #[.int .i64 1, .int .i64 2] 2 rfl rfl 2) (by
    intro b o n c e h0
    simp at e
    have := HQ1.out.lt
    omega) (by decide))
  go_wp2_with fail
  refine CF.out.mono ?_
  rintro e w2 ⟨rfl, hg, hq⟩
  have HQ2 : Hid (QAt w2 w.heap.size [1, 2, 3]) := Lib.hid hq
  have HB2 := Lib.hid (Below.trans (Below.trans HB1.out (Below.alloc (Below.refl _ w1) HB1.out.size (Obj.cells #[.int .i64 1, .int .i64 2] 3))) (below_own hg (by intro g e; simp at e; omega) (by have := HB1.out.size; simp; omega)))
  clear hg hq CF
  go_wp2_with fail
  refine (quAll_any w.heap.size [1, 2, 3] _ HQ2.out).mono ?_
  rintro e w3 ⟨v, rfl, hown, hb⟩
  have HO := Lib.hid hown
  have HB3 := Lib.hid (Below.trans0 HB2.out hb)
  clear hown hb
  have CE := Lib.hid (eqI_b v _ [1, 2, 3] [1, 2, 3] _ (HO.out.rd.alloc (Obj.cells #[.int .i64 1, .int .i64 2, .int .i64 3] 3)) (Els.Rd.new (E := eI) w3 rfl 3 [1, 2, 3] #[.int .i64 1, .int .i64 2, .int .i64 3] 3 rfl rfl 3) (by decide) (by decide))
  go_wp2_with fail
  refine CE.out.mono ?_
  rintro e w4 ⟨rfl, hb⟩
  have HB4 := Lib.hid (Below.trans0 (Below.alloc0 HB3.out _) hb)
  clear hb CE
  go_wp2
  go_ret
  exact ⟨rfl, HB4.out⟩
end Go.Proofs.Ytfjkbjkbpbnalaa
