/- The library's Reverse on parts of registers; package frame's order and Parts. -/
import Derived.Test.YtfjkbjkbpbnalabDoorLstO
import Derived.Test.YtfjkbjkbpbnalabDoorStc
import Derived.Deep.RegionHeld3
import Derived.BigQuiet
namespace Go.Proofs.YtfjkbjkbpbnalabDoor
open Go.ChangeShapes Go.WideShapes Go.ChangeAt Go.RowKit
set_option linter.unusedVariables false

/-- Block g begins with these parts, told by their places. -/
def PtB (w : World) (g cap n : Nat) (f : Nat → Pt) : Prop := ∃ cur, Blk w g 35 cur ∧ cur.size = cap * 2 ∧ n ≤ cap ∧ ∀ k, k < n → cur[k * 2]? = some (.int .i64 ((f k).1 : Int)) ∧ cur[k * 2 + 1]? = some (.bool (f k).2)
theorem PtB.of_pts {w : World} {base g cap n : Nat} {l : List Pt} (h : Pts 35 w base (.slice (some ⟨g, 0, none⟩) n cap) l) (hn : l.length = n) : PtB w g cap n (fun k => l.getD k (0, false)) ∧ cap ≤ maxLen ∧ base ≤ g := by
  obtain ⟨hl, h2⟩ := h
  rcases h2 with ⟨e, _⟩ | ⟨g', cap', cur, e, h3, h4, h5, h6, h7, h8⟩
  · simp at e
  · simp only [Value.slice.injEq, Option.some.injEq, Addr.mk.injEq, and_true] at e
    obtain ⟨rfl, rfl, rfl⟩ := e
    refine ⟨⟨cur, h4, h7, h5, fun k hk => ?_⟩, h6, h3⟩
    have key : ∀ j, j < 2 → cur[2 * k + j]? = (ptC (l.getD k (0, false)))[j]? := fun j hj => by
      have e : (cur.toList.take (l.length * 2))[2 * k + j]? = (pC l)[2 * k + j]? := by rw [h8]
      rw [List.getElem?_take_of_lt (by omega), Array.getElem?_toList, pC_at _ _ _ (by omega) hj] at e
      exact e
    have a := key 0 (by decide)
    have b := key 1 (by decide)
    rw [show k * 2 = 2 * k + 0 by omega, show 2 * k + 0 + 1 = 2 * k + 1 by omega, a, b]
    exact ⟨rfl, rfl⟩
theorem pC_len (l : List Pt) : (pC l).length = l.length * 2 := by
  induction l with
  | nil => rfl
  | cons x l ih => rw [show pC (x :: l) = ptC x ++ pC l from by simp [pC], List.length_append, ih, List.length_cons, Nat.succ_mul, Nat.add_comm]; rfl
theorem PtB.pts {w : World} {base g cap n : Nat} {f : Nat → Pt} {l : List Pt} (h : PtB w g cap n f) (hb : base ≤ g) (hc : cap ≤ maxLen) (hn : l.length = n) (hf : ∀ k, k < n → l.getD k (0, false) = f k) : Pts 35 w base (.slice (some ⟨g, 0, none⟩) n cap) l := by
  obtain ⟨cur, h1, h2, h3, h4⟩ := h
  refine ⟨pC_len l, .inr ⟨g, cap, cur, by rw [hn], hb, h1, by omega, hc, h2, ?_⟩⟩
  have hsz : l.length * 2 ≤ cur.size := by omega
  apply List.ext_getElem?
  intro i
  by_cases hi : i < l.length * 2
  · rw [List.getElem?_take_of_lt hi, Array.getElem?_toList]
    obtain ⟨k, j, hj, rfl⟩ : ∃ k j, j < 2 ∧ i = 2 * k + j := ⟨i / 2, i % 2, by omega, by omega⟩
    obtain ⟨a, b⟩ := h4 k (by omega)
    rw [pC_at _ _ _ (by omega) hj, hf k (by omega)]
    rcases (show j = 0 ∨ j = 1 by omega) with rfl | rfl
    · rw [show 2 * k + 0 = k * 2 by omega, a]; rfl
    · rw [show 2 * k + 1 = k * 2 + 1 by omega, b]; rfl
  · rw [List.getElem?_eq_none (by rw [List.length_take]; omega), List.getElem?_eq_none (by rw [pC_len]; omega)]
theorem PtB.at_ {w : World} {g cap n : Nat} {f : Nat → Pt} (h : PtB w g cap n f) (k : Nat) (hk : k < n) : w.cell? ⟨g, k * 2, none⟩ = some (.int .i64 ((f k).1 : Int)) ∧ w.cell? ⟨g, k * 2 + 1, none⟩ = some (.bool (f k).2) ∧ w.frozen? ⟨g, k * 2, none⟩ = false ∧ w.frozen? ⟨g, k * 2 + 1, none⟩ = false := by
  obtain ⟨cur, h1, h2, h3, h4⟩ := h
  obtain ⟨a, b⟩ := h4 k hk
  exact ⟨by rw [h1.cell, a], by rw [h1.cell, b], h1.frozen _, h1.frozen _⟩
theorem PtB.set_ {w : World} {g cap n : Nat} {f : Nat → Pt} (h : PtB w g cap n f) (k : Nat) (hk : k < n) (x : Pt) : PtB ((w.setCell ⟨g, k * 2, none⟩ (.int .i64 (x.1 : Int))).setCell ⟨g, k * 2 + 1, none⟩ (.bool x.2)) g cap n (fun i => if i = k then x else f i) := by
  obtain ⟨cur, h1, h2, h3, h4⟩ := h
  refine ⟨_, (h1.set_ (k * 2) (.int .i64 (x.1 : Int))).set_ (k * 2 + 1) (.bool x.2), by simpa using h2, h3, fun i hi => ?_⟩
  obtain ⟨a, b⟩ := h4 i hi
  by_cases e : i = k
  · subst e
    simp only [if_true]
    constructor
    · rw [Array.getElem?_setIfInBounds_ne (by omega), Array.getElem?_setIfInBounds_self_of_lt (by omega)]
    · rw [Array.getElem?_setIfInBounds_self_of_lt (by simp; omega)]
  · simp only [if_neg e]
    rw [Array.getElem?_setIfInBounds_ne (by omega), Array.getElem?_setIfInBounds_ne (by omega), Array.getElem?_setIfInBounds_ne (by omega), Array.getElem?_setIfInBounds_ne (by omega)]
    exact ⟨a, b⟩
theorem grown2 (w : World) (g i j : Nat) (u v : Value) : w.grownBy ((w.setCell ⟨g, i, none⟩ u).setCell ⟨g, j, none⟩ v) (some g) := World.grownBy.trans (grown_cell w g i u) (grown_cell _ g j v)
/-- The list, its first k and its last k exchanged. -/
def swF (l : List Pt) (n k : Nat) (i : Nat) : Pt := if i < k ∨ n ≤ i + k then l.getD (n - 1 - i) (0, false) else l.getD i (0, false)
theorem swF_next (l : List Pt) (n k : Nat) (h : 2 * k + 1 < n) : (fun i => if i = n - 1 - k then swF l n k k else (if i = k then swF l n k (n - 1 - k) else swF l n k i)) = swF l n (k + 1) := by
  funext i
  unfold swF
  by_cases h1 : i = n - 1 - k
  · subst h1
    rw [if_pos rfl, if_neg (by omega), if_pos (by omega)]
    congr 1; omega
  · rw [if_neg h1]
    by_cases h2 : i = k
    · subst h2
      rw [if_pos rfl, if_neg (by omega), if_pos (by omega)]
    · rw [if_neg h2]
      by_cases h3 : i < k ∨ n ≤ i + k
      · rw [if_pos h3, if_pos (by omega)]
      · rw [if_neg h3, if_neg (by omega)]
theorem swF_end (l : List Pt) (n k : Nat) (hn : l.length = n) (h : n ≤ 2 * k + 1) (i : Nat) (hi : i < n) : l.reverse.getD i (0, false) = swF l n k i := by
  rw [List.getD_eq_getElem?_getD, List.getElem?_reverse (by omega), hn]
  unfold swF
  split
  · rw [List.getD_eq_getElem?_getD]
  · rw [List.getD_eq_getElem?_getD]
    congr 2; omega
set_option maxRecDepth 100000 in
theorem rev_any (base : Nat) (v : Value) (l : List Pt) (w : World) (h : Pts 35 w base v l) (h0 : 0 < l.length) (hl : l.length ≤ 100) (hbase : base ≤ w.heap.size) :
    Calls Tryd.prog 38 #[v] w fun e w' => e = .returned (.tuple #[]) ∧ Pts 35 w' base v l.reverse ∧ Below base w w' := by
  obtain ⟨n, hn⟩ : ∃ n, l.length = n := ⟨_, rfl⟩
  obtain ⟨g, cap, rfl⟩ : ∃ g cap, v = .slice (some ⟨g, 0, none⟩) n cap := by
    obtain ⟨A, cap, e, h2⟩ := h.read
    obtain ⟨g, cur, rfl, _⟩ := h2 h0
    rw [hn] at e
    exact ⟨g, cap, e⟩
  obtain ⟨hp, hc, hb⟩ := PtB.of_pts h hn
  rw [hn] at h0 hl
  have HN := Lib.hid hn
  have HC := Lib.hid hc
  have HB := Lib.hid hb
  have HP : Hid (PtB w g cap n (swF l n 0)) := Lib.hid (by
    obtain ⟨cur, h1, h2, h3, h4⟩ := hp
    refine ⟨cur, h1, h2, h3, fun k hk => ?_⟩
    have : swF l n 0 k = l.getD k (0, false) := by unfold swF; rw [if_neg (by omega)]
    rw [this]
    exact h4 k hk)
  clear h hn hc hb hp
  go_enter Tryd.func38, Tryd.ntmps38
  go_wp2
  go_loopw [2, 3] (fun u2 u3 wr => ∃ k : Nat, 2 * k ≤ n ∧ u2 = .int .i64 k ∧ u3 = .int .i64 ((n : Int) - 1 - k) ∧ Hid (PtB wr g cap n (swF l n k)) ∧ Hid (w.grownBy wr (some g))) (fun u2 _ _ => n - (intOf u2).toNat)
  case atStart => exact ⟨0, Nat.zero_le _, rfl, by go_num, HP, Lib.hid (World.grownBy.refl _ _)⟩
  case round =>
    obtain ⟨k, hk, rfl, rfl, HK, HG⟩ := hrel
    by_cases hlt : 2 * k + 1 < n
    · obtain ⟨j, hj⟩ : ∃ j, n - 1 - k = j := ⟨_, rfl⟩
      have ej : (n : Int) - 1 - (k : Int) = (j : Int) := by omega
      rw [ej]
      obtain ⟨a0, a1, a2, a3⟩ := HK.out.at_ k (by omega)
      obtain ⟨b0, b1, b2, b3⟩ := HK.out.at_ j (by omega)
      have HK1 := HK.out.set_ k (by omega) (swF l n k j)
      obtain ⟨c0, c1, c2, c3⟩ := HK1.at_ j (by omega)
      rw [if_neg (by omega)] at c0 c1
      have HK2 := HK1.set_ j (by omega) (swF l n k k)
      rw [← hj, swF_next l n k hlt, hj] at HK2
      have HK3 := Lib.hid HK2
      have HG3 := Lib.hid (HG.out.trans ((grown2 wr g (k * 2) (k * 2 + 1) (.int .i64 ((swF l n k j).1 : Int)) (.bool (swF l n k j).2)).trans (grown2 _ g (j * 2) (j * 2 + 1) (.int .i64 ((swF l n k k).1 : Int)) (.bool (swF l n k k).2))))
      clear HK1 HK2 HK HG
      obtain ⟨x1, hx1⟩ : ∃ x : Int, ((swF l n k k).1 : Int) = x := ⟨_, rfl⟩
      obtain ⟨x2, hx2⟩ : ∃ x, (swF l n k k).2 = x := ⟨_, rfl⟩
      obtain ⟨y1, hy1⟩ : ∃ x : Int, ((swF l n k j).1 : Int) = x := ⟨_, rfl⟩
      obtain ⟨y2, hy2⟩ : ∃ x, (swF l n k j).2 = x := ⟨_, rfl⟩
      rw [hx1, hx2, hy1, hy2] at HG3 HK3
      rw [hx1] at a0
      rw [hx2] at a1
      rw [hy1] at b0
      rw [hy2] at b1
      rw [hy1, hy2] at c0 c1 c2 c3
      clear hx1 hx2 hy1 hy2
      have t0 : (0 : Int) ≤ k := by omega
      have t1 : (k : Int) < n := by omega
      have t2 : (0 : Int) ≤ j := by omega
      have t3 : (j : Int) < n := by omega
      have t4 : (k : Int) < j := by omega
      have hj2 : Hid ((n : Int) - 1 - ((k + 1 : Nat) : Int) = (j : Int) - 1) := Lib.hid (by omega)
      go_wp2
      refine wp_region_noPanic ?_
      refine wp_region_held_drew (S := (fun _ => True)) (by kernel_rfl) ?_ (fun hH0 => ?_)
      · trivial
      refine wpAnyH_take (i := 0) (oi := ({ dst := some 14, op := Op.move (Operand.tmp 0), type := 30, pos := "slices.go:485", after := #[], guard := none } : Oper)) (v := ?_) rfl (by kernel_rfl) (by kernel_rfl) (by kernel_rfl) (fun _ _ _ h => h) (Or.inl ⟨by rfl, ?_⟩) (by assumption) ?_
      rotate_left 1
      · (intro w hSw; (try dsimp only at hSw); go_simp; (try with_reducible rfl))
      (try simp only [Act.put, List.setIfInBounds_toArray, List.set_cons_zero, List.set_cons_succ])
      refine wpAnyH_take (i := 1) (oi := ({ dst := some 15, op := Op.move (Operand.tmp 2), type := 3, pos := "slices.go:485", after := #[], guard := none } : Oper)) (v := ?_) rfl (by kernel_rfl) (by kernel_rfl) (by kernel_rfl) (fun _ _ _ h => h) (Or.inl ⟨by rfl, ?_⟩) (by assumption) ?_
      rotate_left 1
      · (intro w hSw; (try dsimp only at hSw); go_simp; (try with_reducible rfl))
      (try simp only [Act.put, List.setIfInBounds_toArray, List.set_cons_zero, List.set_cons_succ])
      refine wpAnyH_take (i := 2) (oi := ({ dst := some 16, op := Op.move (Operand.tmp 0), type := 30, pos := "slices.go:485", after := #[{ on := 13, ground := Ground.gcOnly Departure.lateStores }], guard := none } : Oper)) (v := ?_) rfl (by kernel_rfl) (by kernel_rfl) (by kernel_rfl) (fun _ _ _ h => h) (Or.inl ⟨by rfl, ?_⟩) (by assumption) ?_
      rotate_left 1
      · (intro w hSw; (try dsimp only at hSw); go_simp; (try with_reducible rfl))
      (try simp only [Act.put, List.setIfInBounds_toArray, List.set_cons_zero, List.set_cons_succ])
      refine wpAnyH_take (i := 3) (oi := ({ dst := some 17, op := Op.move (Operand.tmp 3), type := 3, pos := "slices.go:485", after := #[{ on := 13, ground := Ground.gcOnly Departure.lateStores }], guard := none } : Oper)) (v := ?_) rfl (by kernel_rfl) (by kernel_rfl) (by kernel_rfl) (fun _ _ _ h => h) (Or.inl ⟨by rfl, ?_⟩) (by assumption) ?_
      rotate_left 1
      · (intro w hSw; (try dsimp only at hSw); go_simp; (try with_reducible rfl))
      (try simp only [Act.put, List.setIfInBounds_toArray, List.set_cons_zero, List.set_cons_succ])
      refine wpAnyH_take (i := 4) (oi := ({ dst := some 18, op := Op.move (Operand.tmp 0), type := 30, pos := "slices.go:485", after := #[], guard := none } : Oper)) (v := ?_) rfl (by kernel_rfl) (by kernel_rfl) (by kernel_rfl) (fun _ _ _ h => h) (Or.inl ⟨by rfl, ?_⟩) (by assumption) ?_
      rotate_left 1
      · (intro w hSw; (try dsimp only at hSw); go_simp; (try with_reducible rfl))
      (try simp only [Act.put, List.setIfInBounds_toArray, List.set_cons_zero, List.set_cons_succ])
      refine wpAnyH_take (i := 5) (oi := ({ dst := some 19, op := Op.move (Operand.tmp 3), type := 3, pos := "slices.go:485", after := #[], guard := none } : Oper)) (v := ?_) rfl (by kernel_rfl) (by kernel_rfl) (by kernel_rfl) (fun _ _ _ h => h) (Or.inl ⟨by rfl, ?_⟩) (by assumption) ?_
      rotate_left 1
      · (intro w hSw; (try dsimp only at hSw); go_simp; (try with_reducible rfl))
      (try simp only [Act.put, List.setIfInBounds_toArray, List.set_cons_zero, List.set_cons_succ])
      refine wpAnyH_take (i := 6) (oi := ({ dst := some 20, op := Op.indexAddr 30 (Operand.tmp 18) (Operand.tmp 19), type := 0, pos := "slices.go:485", after := #[{ on := 4, ground := Ground.data }, { on := 5, ground := Ground.data }], guard := none } : Oper)) (v := ?_) rfl (by kernel_rfl) (by kernel_rfl) (by kernel_rfl) (fun _ _ _ h => h) (Or.inl ⟨by rfl, ?_⟩) (by assumption) ?_
      rotate_left 1
      · (intro w hSw; (try dsimp only at hSw); go_simp; (try with_reducible rfl))
      (try simp only [Act.put, List.setIfInBounds_toArray, List.set_cons_zero, List.set_cons_succ])
      refine wpAnyH_take (i := 8) (oi := ({ dst := some 22, op := Op.move (Operand.tmp 0), type := 30, pos := "slices.go:485", after := #[], guard := none } : Oper)) (v := ?_) rfl (by kernel_rfl) (by kernel_rfl) (by kernel_rfl) (fun _ _ _ h => h) (Or.inl ⟨by rfl, ?_⟩) (by assumption) ?_
      rotate_left 1
      · (intro w hSw; (try dsimp only at hSw); go_simp; (try with_reducible rfl))
      (try simp only [Act.put, List.setIfInBounds_toArray, List.set_cons_zero, List.set_cons_succ])
      refine wpAnyH_take (i := 9) (oi := ({ dst := some 23, op := Op.move (Operand.tmp 2), type := 3, pos := "slices.go:485", after := #[], guard := none } : Oper)) (v := ?_) rfl (by kernel_rfl) (by kernel_rfl) (by kernel_rfl) (fun _ _ _ h => h) (Or.inl ⟨by rfl, ?_⟩) (by assumption) ?_
      rotate_left 1
      · (intro w hSw; (try dsimp only at hSw); go_simp; (try with_reducible rfl))
      (try simp only [Act.put, List.setIfInBounds_toArray, List.set_cons_zero, List.set_cons_succ])
      refine wpAnyH_take (i := 10) (oi := ({ dst := some 24, op := Op.indexAddr 30 (Operand.tmp 22) (Operand.tmp 23), type := 0, pos := "slices.go:485", after := #[{ on := 8, ground := Ground.data }, { on := 9, ground := Ground.data }], guard := none } : Oper)) (v := ?_) rfl (by kernel_rfl) (by kernel_rfl) (by kernel_rfl) (fun _ _ _ h => h) (Or.inl ⟨by rfl, ?_⟩) (by assumption) ?_
      rotate_left 1
      · (intro w hSw; (try dsimp only at hSw); go_simp; (try with_reducible rfl))
      (try simp only [Act.put, List.setIfInBounds_toArray, List.set_cons_zero, List.set_cons_succ])
      refine wpAnyH_ready (rs := [7, 11]) (by kernel_rfl) (by simp) ?_
      refine AllReadyH.cons (o := ({ dst := some 21, op := Op.load 35 (Operand.tmp 20), type := 35, pos := "slices.go:485", after := #[{ on := 6, ground := Ground.data }], guard := none } : Oper)) rfl (fun K hK => ?_) ?_
      · go_simp
        first | (refine hK.out _ _ ?_ (fun hH1 => ?_)) | (go_wp2_with fail; refine hK.out _ _ ?_ (fun hH1 => ?_))
        · trivial
        clear hK K hH0
        (try simp only [Act.put, List.setIfInBounds_toArray, List.set_cons_zero, List.set_cons_succ])
        refine wpAnyH_ready (rs := [11]) (by kernel_rfl) (by simp) ?_
        refine AllReadyH.cons (o := ({ dst := some 25, op := Op.load 35 (Operand.tmp 24), type := 35, pos := "slices.go:485", after := #[{ on := 10, ground := Ground.data }], guard := none } : Oper)) rfl (fun K hK => ?_) ?_
        rotate_left 1
        · exact AllReadyH.nil
        go_simp
        first | (refine hK.out _ _ ?_ (fun hH2 => ?_)) | (go_wp2_with fail; refine hK.out _ _ ?_ (fun hH2 => ?_))
        · trivial
        clear hK K hH1
        (try simp only [Act.put, List.setIfInBounds_toArray, List.set_cons_zero, List.set_cons_succ])
        refine wpAnyH_take (i := 12) (oi := ({ dst := some 26, op := Op.indexAddr 30 (Operand.tmp 14) (Operand.tmp 15), type := 0, pos := "slices.go:485", after := #[{ on := 0, ground := Ground.data }, { on := 1, ground := Ground.data }, { on := 0, ground := Ground.phase }, { on := 1, ground := Ground.phase }, { on := 2, ground := Ground.textOnly Departure.lateStores }, { on := 3, ground := Ground.textOnly Departure.lateStores }, { on := 4, ground := Ground.phase }, { on := 5, ground := Ground.phase }, { on := 6, ground := Ground.phase }, { on := 7, ground := Ground.phase }, { on := 8, ground := Ground.textOnly Departure.lateStores }, { on := 9, ground := Ground.textOnly Departure.lateStores }, { on := 10, ground := Ground.textOnly Departure.lateStoresUnsure }, { on := 11, ground := Ground.phase }], guard := none } : Oper)) (v := ?_) rfl (by kernel_rfl) (by kernel_rfl) (by kernel_rfl) (fun _ _ _ h => h) (Or.inl ⟨by rfl, ?_⟩) (by assumption) ?_
        rotate_left 1
        · (intro w hSw; (try dsimp only at hSw); go_simp; (try with_reducible rfl))
        (try simp only [Act.put, List.setIfInBounds_toArray, List.set_cons_zero, List.set_cons_succ])
        refine wpAnyH_ready (rs := [13]) (by kernel_rfl) (by simp) ?_
        refine AllReadyH.cons (o := ({ dst := none, op := Op.store 35 (Operand.tmp 26) (Operand.tmp 21), type := 0, pos := "slices.go:485", after := #[{ on := 12, ground := Ground.data }, { on := 7, ground := Ground.data }, { on := 0, ground := Ground.phase }, { on := 1, ground := Ground.phase }, { on := 2, ground := Ground.textOnly Departure.lateStores }, { on := 3, ground := Ground.textOnly Departure.lateStores }, { on := 4, ground := Ground.phase }, { on := 5, ground := Ground.phase }, { on := 6, ground := Ground.phase }, { on := 7, ground := Ground.phase }, { on := 8, ground := Ground.textOnly Departure.lateStores }, { on := 9, ground := Ground.textOnly Departure.lateStores }, { on := 10, ground := Ground.textOnly Departure.lateStoresUnsure }, { on := 11, ground := Ground.phase }], guard := none } : Oper)) rfl (fun K hK => ?_) ?_
        rotate_left 1
        · exact AllReadyH.nil
        go_simp
        first | (refine hK.out _ _ ?_ (fun hH3 => ?_)) | (go_wp2_with fail; refine hK.out _ _ ?_ (fun hH3 => ?_))
        · trivial
        clear hK K hH2
        (try simp only [Act.put, List.setIfInBounds_toArray, List.set_cons_zero, List.set_cons_succ])
        refine wpAnyH_take (i := 14) (oi := ({ dst := some 27, op := Op.indexAddr 30 (Operand.tmp 16) (Operand.tmp 17), type := 0, pos := "slices.go:485", after := #[{ on := 2, ground := Ground.data }, { on := 3, ground := Ground.data }, { on := 0, ground := Ground.phase }, { on := 1, ground := Ground.phase }, { on := 2, ground := Ground.phase }, { on := 3, ground := Ground.phase }, { on := 4, ground := Ground.phase }, { on := 5, ground := Ground.phase }, { on := 6, ground := Ground.phase }, { on := 7, ground := Ground.phase }, { on := 8, ground := Ground.phase }, { on := 9, ground := Ground.phase }, { on := 10, ground := Ground.phase }, { on := 11, ground := Ground.phase }, { on := 12, ground := Ground.phase }, { on := 13, ground := Ground.phase }], guard := none } : Oper)) (v := ?_) rfl (by kernel_rfl) (by kernel_rfl) (by kernel_rfl) (fun _ _ _ h => h) (Or.inl ⟨by rfl, ?_⟩) (by assumption) ?_
        rotate_left 1
        · (intro w hSw; (try dsimp only at hSw); go_simp; (try with_reducible rfl))
        (try simp only [Act.put, List.setIfInBounds_toArray, List.set_cons_zero, List.set_cons_succ])
        refine wpAnyH_ready (rs := [15]) (by kernel_rfl) (by simp) ?_
        refine AllReadyH.cons (o := ({ dst := none, op := Op.store 35 (Operand.tmp 27) (Operand.tmp 25), type := 0, pos := "slices.go:485", after := #[{ on := 14, ground := Ground.data }, { on := 11, ground := Ground.data }, { on := 13, ground := Ground.chain }, { on := 0, ground := Ground.phase }, { on := 1, ground := Ground.phase }, { on := 2, ground := Ground.phase }, { on := 3, ground := Ground.phase }, { on := 4, ground := Ground.phase }, { on := 5, ground := Ground.phase }, { on := 6, ground := Ground.phase }, { on := 7, ground := Ground.phase }, { on := 8, ground := Ground.phase }, { on := 9, ground := Ground.phase }, { on := 10, ground := Ground.phase }, { on := 11, ground := Ground.phase }, { on := 12, ground := Ground.phase }, { on := 13, ground := Ground.phase }], guard := none } : Oper)) rfl (fun K hK => ?_) ?_
        rotate_left 1
        · exact AllReadyH.nil
        go_simp
        first | (refine hK.out _ _ ?_ (fun hH4 => ?_)) | (go_wp2_with fail; refine hK.out _ _ ?_ (fun hH4 => ?_))
        · trivial
        clear hK K hH3
        (try simp only [Act.put, List.setIfInBounds_toArray, List.set_cons_zero, List.set_cons_succ])
        refine wpAnyH_done (by kernel_rfl) ?_ _
        refine NoPanic.normal ?_
        generalize (((wr.setCell ⟨g, k * 2, none⟩ (.int .i64 y1)).setCell ⟨g, k * 2 + 1, none⟩ (.bool y2)).setCell ⟨g, j * 2, none⟩ (.int .i64 x1)).setCell ⟨g, j * 2 + 1, none⟩ (.bool x2) = W at HK3 HG3 ⊢
        have HG4 : Hid (w.grownBy W.drew (some g)) := Lib.hid ⟨HG3.out.os, HG3.out.tape, HG3.out.output, HG3.out.size, HG3.out.block⟩
        have HK4 : Hid (PtB W.drew g cap n (swF l n (k + 1))) := HK3
        clear a0 a1 a2 a3 b0 b1 b2 b3 c0 c1 c2 c3
        go_wp2
        refine ⟨⟨k + 1, by omega, by go_num, by rw [hj2.out], HK4, HG4⟩, ?_⟩
        simp [intOf]; omega
      refine AllReadyH.cons (o := ({ dst := some 25, op := Op.load 35 (Operand.tmp 24), type := 35, pos := "slices.go:485", after := #[{ on := 10, ground := Ground.data }], guard := none } : Oper)) rfl (fun K hK => ?_) ?_
      · go_simp
        first | (refine hK.out _ _ ?_ (fun hH1 => ?_)) | (go_wp2_with fail; refine hK.out _ _ ?_ (fun hH1 => ?_))
        · trivial
        clear hK K hH0
        (try simp only [Act.put, List.setIfInBounds_toArray, List.set_cons_zero, List.set_cons_succ])
        refine wpAnyH_ready (rs := [7]) (by kernel_rfl) (by simp) ?_
        refine AllReadyH.cons (o := ({ dst := some 21, op := Op.load 35 (Operand.tmp 20), type := 35, pos := "slices.go:485", after := #[{ on := 6, ground := Ground.data }], guard := none } : Oper)) rfl (fun K hK => ?_) ?_
        rotate_left 1
        · exact AllReadyH.nil
        go_simp
        first | (refine hK.out _ _ ?_ (fun hH2 => ?_)) | (go_wp2_with fail; refine hK.out _ _ ?_ (fun hH2 => ?_))
        · trivial
        clear hK K hH1
        (try simp only [Act.put, List.setIfInBounds_toArray, List.set_cons_zero, List.set_cons_succ])
        refine wpAnyH_take (i := 12) (oi := ({ dst := some 26, op := Op.indexAddr 30 (Operand.tmp 14) (Operand.tmp 15), type := 0, pos := "slices.go:485", after := #[{ on := 0, ground := Ground.data }, { on := 1, ground := Ground.data }, { on := 0, ground := Ground.phase }, { on := 1, ground := Ground.phase }, { on := 2, ground := Ground.textOnly Departure.lateStores }, { on := 3, ground := Ground.textOnly Departure.lateStores }, { on := 4, ground := Ground.phase }, { on := 5, ground := Ground.phase }, { on := 6, ground := Ground.phase }, { on := 7, ground := Ground.phase }, { on := 8, ground := Ground.textOnly Departure.lateStores }, { on := 9, ground := Ground.textOnly Departure.lateStores }, { on := 10, ground := Ground.textOnly Departure.lateStoresUnsure }, { on := 11, ground := Ground.phase }], guard := none } : Oper)) (v := ?_) rfl (by kernel_rfl) (by kernel_rfl) (by kernel_rfl) (fun _ _ _ h => h) (Or.inl ⟨by rfl, ?_⟩) (by assumption) ?_
        rotate_left 1
        · (intro w hSw; (try dsimp only at hSw); go_simp; (try with_reducible rfl))
        (try simp only [Act.put, List.setIfInBounds_toArray, List.set_cons_zero, List.set_cons_succ])
        refine wpAnyH_ready (rs := [13]) (by kernel_rfl) (by simp) ?_
        refine AllReadyH.cons (o := ({ dst := none, op := Op.store 35 (Operand.tmp 26) (Operand.tmp 21), type := 0, pos := "slices.go:485", after := #[{ on := 12, ground := Ground.data }, { on := 7, ground := Ground.data }, { on := 0, ground := Ground.phase }, { on := 1, ground := Ground.phase }, { on := 2, ground := Ground.textOnly Departure.lateStores }, { on := 3, ground := Ground.textOnly Departure.lateStores }, { on := 4, ground := Ground.phase }, { on := 5, ground := Ground.phase }, { on := 6, ground := Ground.phase }, { on := 7, ground := Ground.phase }, { on := 8, ground := Ground.textOnly Departure.lateStores }, { on := 9, ground := Ground.textOnly Departure.lateStores }, { on := 10, ground := Ground.textOnly Departure.lateStoresUnsure }, { on := 11, ground := Ground.phase }], guard := none } : Oper)) rfl (fun K hK => ?_) ?_
        rotate_left 1
        · exact AllReadyH.nil
        go_simp
        first | (refine hK.out _ _ ?_ (fun hH3 => ?_)) | (go_wp2_with fail; refine hK.out _ _ ?_ (fun hH3 => ?_))
        · trivial
        clear hK K hH2
        (try simp only [Act.put, List.setIfInBounds_toArray, List.set_cons_zero, List.set_cons_succ])
        refine wpAnyH_take (i := 14) (oi := ({ dst := some 27, op := Op.indexAddr 30 (Operand.tmp 16) (Operand.tmp 17), type := 0, pos := "slices.go:485", after := #[{ on := 2, ground := Ground.data }, { on := 3, ground := Ground.data }, { on := 0, ground := Ground.phase }, { on := 1, ground := Ground.phase }, { on := 2, ground := Ground.phase }, { on := 3, ground := Ground.phase }, { on := 4, ground := Ground.phase }, { on := 5, ground := Ground.phase }, { on := 6, ground := Ground.phase }, { on := 7, ground := Ground.phase }, { on := 8, ground := Ground.phase }, { on := 9, ground := Ground.phase }, { on := 10, ground := Ground.phase }, { on := 11, ground := Ground.phase }, { on := 12, ground := Ground.phase }, { on := 13, ground := Ground.phase }], guard := none } : Oper)) (v := ?_) rfl (by kernel_rfl) (by kernel_rfl) (by kernel_rfl) (fun _ _ _ h => h) (Or.inl ⟨by rfl, ?_⟩) (by assumption) ?_
        rotate_left 1
        · (intro w hSw; (try dsimp only at hSw); go_simp; (try with_reducible rfl))
        (try simp only [Act.put, List.setIfInBounds_toArray, List.set_cons_zero, List.set_cons_succ])
        refine wpAnyH_ready (rs := [15]) (by kernel_rfl) (by simp) ?_
        refine AllReadyH.cons (o := ({ dst := none, op := Op.store 35 (Operand.tmp 27) (Operand.tmp 25), type := 0, pos := "slices.go:485", after := #[{ on := 14, ground := Ground.data }, { on := 11, ground := Ground.data }, { on := 13, ground := Ground.chain }, { on := 0, ground := Ground.phase }, { on := 1, ground := Ground.phase }, { on := 2, ground := Ground.phase }, { on := 3, ground := Ground.phase }, { on := 4, ground := Ground.phase }, { on := 5, ground := Ground.phase }, { on := 6, ground := Ground.phase }, { on := 7, ground := Ground.phase }, { on := 8, ground := Ground.phase }, { on := 9, ground := Ground.phase }, { on := 10, ground := Ground.phase }, { on := 11, ground := Ground.phase }, { on := 12, ground := Ground.phase }, { on := 13, ground := Ground.phase }], guard := none } : Oper)) rfl (fun K hK => ?_) ?_
        rotate_left 1
        · exact AllReadyH.nil
        go_simp
        first | (refine hK.out _ _ ?_ (fun hH4 => ?_)) | (go_wp2_with fail; refine hK.out _ _ ?_ (fun hH4 => ?_))
        · trivial
        clear hK K hH3
        (try simp only [Act.put, List.setIfInBounds_toArray, List.set_cons_zero, List.set_cons_succ])
        refine wpAnyH_done (by kernel_rfl) ?_ _
        refine NoPanic.normal ?_
        generalize (((wr.setCell ⟨g, k * 2, none⟩ (.int .i64 y1)).setCell ⟨g, k * 2 + 1, none⟩ (.bool y2)).setCell ⟨g, j * 2, none⟩ (.int .i64 x1)).setCell ⟨g, j * 2 + 1, none⟩ (.bool x2) = W at HK3 HG3 ⊢
        have HG4 : Hid (w.grownBy W.drew (some g)) := Lib.hid ⟨HG3.out.os, HG3.out.tape, HG3.out.output, HG3.out.size, HG3.out.block⟩
        have HK4 : Hid (PtB W.drew g cap n (swF l n (k + 1))) := HK3
        clear a0 a1 a2 a3 b0 b1 b2 b3 c0 c1 c2 c3
        go_wp2
        refine ⟨⟨k + 1, by omega, by go_num, by rw [hj2.out], HK4, HG4⟩, ?_⟩
        simp [intOf]; omega
      exact AllReadyH.nil
    · have HR : Hid (Pts 35 wr base (.slice (some ⟨g, 0, none⟩) n cap) l.reverse) := Lib.hid (HK.out.pts HB.out HC.out (by rw [List.length_reverse, HN.out]) (fun i hi => swF_end l n k HN.out (by omega) i hi))
      have HB3 := Lib.hid (below_own HG.out (base := base) (by intro g' e; simp at e; have := HB.out; omega) hbase)
      have hge : ¬ (k : Int) < (n : Int) - 1 - k := by omega
      go_wp2
      exact Great.bodyPost_end0 rfl rfl ⟨rfl, HR.out, HB3.out⟩
/-- The postbyte of what is pulled behind an interrupt. -/
def frP (whole : Bool) : Nat := if whole then 255 else 129
theorem frP_lt (b : Bool) : frP b < 256 := by cases b <;> decide
theorem frOrder_any (b : Bool) (w : World) (hT : LregAt w) :
    Calls Tryd.prog 37 #[.bool b] w fun e w' => ∃ v, e = .returned v ∧ Pts 35 w' w.heap.size v (ordL (frP b) false) ∧ Below w.heap.size w w' := by
  have CO := Lib.hid (order_any (frP b) (frP_lt b) 4 w hT)
  rw [show ((4 : Int) == 3) = false by decide] at CO
  clear hT
  cases b
  all_goals
    go_enter Tryd.func37, Tryd.ntmps37
    go_wp2_with fail
    refine CO.out.mono ?_
    rintro e w1 ⟨v, rfl, hp, hb⟩
    have HP := Lib.hid hp
    have HB := Lib.hid hb
    clear hp hb
    go_wp2
    go_ret
    exact ⟨_, rfl, HP.out, HB.out⟩
theorem frParts_any (b : Bool) (w : World) (hT : LregAt w) :
    Calls Tryd.prog 9 #[.bool b] w fun e w' => ∃ v, e = .returned v ∧ Pts 35 w' w.heap.size v (ordL (frP b) false).reverse ∧ Below w.heap.size w w' := by
  have CO := Lib.hid (frOrder_any b w hT)
  have hl : 0 < (ordL (frP b) false).length ∧ (ordL (frP b) false).length ≤ 100 := by cases b <;> decide +kernel
  clear hT
  go_enter Tryd.func9, Tryd.ntmps9
  go_wp2_with fail
  refine CO.out.mono ?_
  rintro e w1 ⟨v, rfl, hp, hb⟩
  have CR := Lib.hid (rev_any w.heap.size v _ w1 hp hl.1 hl.2 hb.size)
  have HB := Lib.hid hb
  clear hp hb hl
  go_wp2_with fail
  refine CR.out.mono ?_
  rintro e w2 ⟨rfl, hp, hb⟩
  have HP := Lib.hid hp
  have HB2 := Lib.hid (Below.trans HB.out hb)
  clear hp hb
  go_wp2
  go_ret
  exact ⟨_, rfl, HP.out, HB2.out⟩
end Go.Proofs.YtfjkbjkbpbnalabDoor
