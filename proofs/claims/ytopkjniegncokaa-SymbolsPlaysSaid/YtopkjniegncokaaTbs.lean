/- Contracts of package symbols' table, by the list of what it holds: Set, Drop, Len. -/
import Derived.Test.YtopkjniegncokaaTab
import Derived.Maps.RangeWalk
namespace Go.Proofs.Ytopkjniegncokaa
open Go.ChangeShapes Go.WideShapes Go.ChangeAt Go.RowKit
set_option linter.unusedVariables false
abbrev PrL := List (ByteArray × Int)
def lookP : PrL → ByteArray → Option Int
  | [], _ => none
  | p :: t, s => if s = p.1 then some p.2 else lookP t s
def nmsP (M : PrL) : List ByteArray := M.map (·.1)
theorem lookP_mem {s : ByteArray} {v : Int} : ∀ {M : PrL}, lookP M s = some v → (s, v) ∈ M
  | p :: t, h => by
    unfold lookP at h
    split at h
    · rename_i e
      injection h with h
      rw [e, ← h]; exact List.mem_cons_self ..
    · exact List.mem_cons_of_mem _ (lookP_mem h)
theorem lookP_none {s : ByteArray} : ∀ {M : PrL}, lookP M s = none ↔ s ∉ nmsP M
  | [] => by simp [lookP, nmsP]
  | p :: t => by
    unfold lookP
    split
    · rename_i e; simp [nmsP, e]
    · rename_i e
      rw [lookP_none (M := t)]
      simp [nmsP, e]
theorem lookP_of {s : ByteArray} {v : Int} : ∀ {M : PrL}, (nmsP M).Nodup → (s, v) ∈ M → lookP M s = some v
  | p :: t, hd, h => by
    unfold lookP
    rcases List.mem_cons.1 h with rfl | h
    · rw [if_pos rfl]
    · have hn : s ≠ p.1 := fun e => by
        have := (List.nodup_cons.1 hd).1
        apply this
        show p.1 ∈ _
        rw [← e]
        exact List.mem_map.2 ⟨(s, v), h, rfl⟩
      rw [if_neg hn]
      exact lookP_of (List.nodup_cons.1 hd).2 h
theorem lookP_add {M : PrL} {s : ByteArray} (v : Int) (h : lookP M s = none) : lookP (M ++ [(s, v)]) = fun t => if t = s then some v else lookP M t := by
  funext t
  induction M with
  | nil => rfl
  | cons p M ih =>
    have h2 : lookP M s = none := by unfold lookP at h; split at h <;> first | cases h | exact h
    have hp : s ≠ p.1 := by intro e; unfold lookP at h; rw [if_pos e] at h; cases h
    show (if t = p.1 then some p.2 else lookP (M ++ [(s, v)]) t) = if t = s then some v else (if t = p.1 then some p.2 else lookP M t)
    rw [ih h2]
    by_cases e : t = p.1
    · rw [if_pos e, if_pos e, if_neg (fun e2 => hp (e2.symm.trans e))]
    · rw [if_neg e, if_neg e]
/-- All but the one of this name. -/
def dropP (M : PrL) (s : ByteArray) : PrL := M.filter fun p => !decide (p.1 = s)
theorem lookP_drop (M : PrL) (s : ByteArray) : lookP (dropP M s) = fun t => if t = s then none else lookP M t := by
  funext t
  induction M with
  | nil => simp [dropP, lookP]
  | cons p M ih =>
    unfold dropP at ih ⊢
    rw [List.filter_cons]
    by_cases hp : p.1 = s
    · rw [if_neg (by simp [hp]), ih]
      by_cases ht : t = s
      · rw [if_pos ht, if_pos ht]
      · rw [if_neg ht, if_neg ht]
        show _ = if t = p.1 then some p.2 else lookP M t
        rw [if_neg (by rw [hp]; exact ht)]
    · rw [if_pos (by simp [hp])]
      show (if t = p.1 then some p.2 else lookP _ t) = if t = s then none else (if t = p.1 then some p.2 else lookP M t)
      rw [ih]
      by_cases e : t = p.1
      · rw [if_pos e, if_pos e, if_neg (fun e2 => hp (e.symm.trans e2))]
      · rw [if_neg e, if_neg e]
theorem drop_len {M : PrL} {s : ByteArray} (hd : (nmsP M).Nodup) : (dropP M s).length + (if (lookP M s).isSome then 1 else 0) = M.length := by
  induction M with
  | nil => rfl
  | cons p M ih =>
    have ih' := ih (List.nodup_cons.1 hd).2
    unfold dropP at ih' ⊢
    rw [List.filter_cons]
    by_cases hp : p.1 = s
    · have e2 : lookP (p :: M) s = some p.2 := by show (if s = p.1 then some p.2 else lookP M s) = _; rw [if_pos hp.symm]
      rw [if_neg (by simp [hp]), e2]
      have hn : lookP M s = none := lookP_none.2 (by rw [← hp]; exact (List.nodup_cons.1 hd).1)
      rw [hn] at ih'
      simp only [Option.isSome_none, Bool.false_eq_true, if_false, Option.isSome_some, if_true, List.length_cons] at ih' ⊢
      omega
    · have e2 : lookP (p :: M) s = lookP M s := by show (if s = p.1 then some p.2 else lookP M s) = _; rw [if_neg (fun e => hp e.symm)]
      rw [if_pos (by simp [hp]), e2]
      simp only [List.length_cons] at ih' ⊢
      omega
theorem drop_nodup {M : PrL} (s : ByteArray) (hd : (nmsP M).Nodup) : (nmsP (dropP M s)).Nodup := by
  unfold nmsP dropP
  exact List.Nodup.sublist (List.Sublist.map _ List.filter_sublist) hd
/-- The table in block g, its map in block ob: it holds M, and has at most n names' room. -/
def TabP (w : World) (g : Nat) (ob : Option Nat) (n : Nat) (M : PrL) : Prop :=
  (∀ p ∈ M, 0 ≤ p.2 ∧ p.2 < 65536 ∧ p.1.size ≤ 100) ∧ (nmsP M).Nodup ∧
  ((Blk w g 27 #[.map none] ∧ M = [] ∧ ob = none) ∨
   ∃ b D, ob = some b ∧ Blk w g 27 #[.map (some b)] ∧ b ≠ g ∧ w.ownsMap Try.prog 9 (plainElem Try.prog 23) b n D ∧ Looks D (lookP M) ∧ Maps.size D = M.length)
theorem TabP.blk {w : World} {g n : Nat} {ob : Option Nat} {M : PrL} (h : TabP w g ob n M) : Blk w g 27 #[.map ob] := by
  rcases h.2.2 with ⟨h1, h2, rfl⟩ | ⟨b, D, rfl, h1, _⟩
  · exact h1
  · exact h1
theorem TabP.range {w : World} {g n : Nat} {ob : Option Nat} {M : PrL} (h : TabP w g ob n M) : ∀ s v, lookP M s = some v → 0 ≤ v ∧ v < 65536 := fun s v e => ⟨(h.1 _ (lookP_mem e)).1, (h.1 _ (lookP_mem e)).2.1⟩
theorem TabP.tab {w : World} {g n : Nat} {ob : Option Nat} {M : PrL} (h : TabP w g ob n M) : Tab w 0 g n (lookP M) := by
  refine ⟨Nat.zero_le _, h.range, ?_⟩
  rcases h.2.2 with ⟨h1, rfl, rfl⟩ | ⟨b, D, rfl, h1, h2, h3, h4, h5⟩
  · exact .inl ⟨h1, fun s => rfl⟩
  · exact .inr ⟨b, D, h1, Nat.zero_le _, h2, h3, h4⟩
theorem TabP.new (w : World) : TabP (w.alloc (.cells #[.map none] 27 (0, 0))) w.heap.size none 0 [] :=
  ⟨fun p h => by simp at h, List.nodup_nil, .inl ⟨Blk.new w _ _ _, rfl, rfl⟩⟩
theorem TabP.grown {w w' : World} {g n : Nat} {ob : Option Nat} {M : PrL} {row : Option Nat} (h : TabP w g ob n M) (hg : w.grownBy w' row) (h1 : some g ≠ row) (h2 : ∀ b, ob = some b → some b ≠ row) : TabP w' g ob n M := by
  obtain ⟨a1, a2, a3⟩ := h
  refine ⟨a1, a2, ?_⟩
  rcases a3 with ⟨b1, b2, rfl⟩ | ⟨b, D, rfl, b1, b2, b3, b4⟩
  · exact .inl ⟨b1.grown hg h1, b2, rfl⟩
  · refine .inr ⟨b, D, rfl, b1.grown hg h1, b2, ?_, b4⟩
    obtain ⟨es, cl, e1, e2, e3, e4⟩ := b3
    exact ⟨es, cl, (hg.block b (Array.getElem?_eq_some_iff.1 e1).1 (h2 b rfl)).trans e1, e2, e3, e4⟩
theorem Below.grown0 {w w' : World} (h : Below w.heap.size w w') : w.grownBy w' none := ⟨h.os, h.tape, h.output, h.size, fun k hk _ => h.block k hk⟩
theorem TabP.below {w w' : World} {g n : Nat} {ob : Option Nat} {M : PrL} (h : TabP w g ob n M) (hb : Below w.heap.size w w') : TabP w' g ob n M := h.grown (Below.grown0 hb) (by simp) (by simp)
theorem TabP.lts {w : World} {g n : Nat} {ob : Option Nat} {M : PrL} (h : TabP w g ob n M) : g < w.heap.size ∧ ∀ b, ob = some b → b < w.heap.size := by
  refine ⟨h.blk.lt, fun b e => ?_⟩
  rcases h.2.2 with ⟨_, _, rfl⟩ | ⟨b', D, rfl, _, _, h3, _⟩
  · cases e
  · injection e with e
    subst e
    exact h3.lt
def setE (M : PrL) (s : ByteArray) (v : Int) : Int := if rightL (nums s) then (match lookP M s with | some x => if x = v then 0 else 41 | none => 0) else 40
def setM (M : PrL) (s : ByteArray) (v : Int) : PrL := if rightL (nums s) then (match lookP M s with | some _ => M | none => M ++ [(s, v)]) else M
/-- A call on the table in block g: no other block but its own is written. -/
def Turned (w w' : World) (g : Nat) (ob ob' : Option Nat) : Prop := ∃ row, w.grownBy w' row ∧ (∀ j, row = some j → j = g ∨ ob = some j) ∧ (∀ j, ob' = some j → ob = some j ∨ w.heap.size ≤ j)
theorem Turned.refl (w : World) (g : Nat) (ob : Option Nat) : Turned w w g ob ob := ⟨none, ⟨rfl, rfl, rfl, Nat.le_refl _, fun _ _ _ => rfl⟩, by simp, fun j h => .inl h⟩
theorem add_nodup {M : PrL} {s : ByteArray} {v : Int} (hd : (nmsP M).Nodup) (h : lookP M s = none) : (nmsP (M ++ [(s, v)])).Nodup := by
  unfold nmsP
  rw [List.map_append, List.nodup_append]
  refine ⟨hd, by simp, fun a ha b hb => ?_⟩
  simp only [List.map_cons, List.map_nil, List.mem_singleton] at hb
  subst hb
  exact fun e => (lookP_none.1 h) (by rw [← e]; exact ha)
set_option maxRecDepth 100000 in
set_option maxHeartbeats 1000000 in
theorem symSet_any (w : World) (g n : Nat) (ob : Option Nat) (M : PrL) (h : TabP w g ob n M) (s : ByteArray) (hs : s.size ≤ 100) (v : Int) (hv : 0 ≤ v ∧ v < 65536) (hn : n ≤ 1000) :
    Calls Try.prog 8 #[.pointer (some ⟨g, 0, none⟩), .string s, .int .u16 v] w fun e w' => e = .returned (.int .i64 (setE M s v)) ∧ ∃ ob', Turned w w' g ob ob' ∧ TabP w' g ob' (n + 1) (setM M s v) := by
  have hmax : s.size ≤ maxLen := by unfold maxLen; omega
  have RT := Lib.hid (fun u => symRight_any s u)
  have H := Lib.hid h
  have up : Hid (TabP w g ob (n + 1) M) := Lib.hid (by
    obtain ⟨a1, a2, a3⟩ := h
    refine ⟨a1, a2, ?_⟩
    rcases a3 with a3 | ⟨b, D, b1, b2, b3, ⟨es, cl, e1, e2, e3, e4⟩, b5⟩
    · exact .inl a3
    · exact .inr ⟨b, D, b1, b2, b3, ⟨es, cl, e1, e2, by omega, e4⟩, b5⟩)
  cases hR : rightL (nums s)
  · have he : setE M s v = 40 := by unfold setE; rw [hR]; rfl
    have hm : setM M s v = M := by unfold setM; rw [hR]; rfl
    rw [he, hm]
    rw [hR] at RT
    clear h he hm hv
    go_enter Try.func8, Try.ntmps8
    go_wp2_with fail
    refine (RT.out _).mono ?_
    rintro e w' ⟨rfl, rfl⟩
    go_wp2
    go_ret
    exact ⟨rfl, _, Turned.refl _ _ _, up.out⟩
  rw [hR] at RT
  have HS := Lib.hid hmax
  have HV := Lib.hid (plainElem_int (H := Unit) Try.underlying23 (a := v) (WalkArith.wf_u16 (by omega)))
  obtain ⟨m, hc, hlk⟩ := h.tab.cell
  have hl1 := hlk s hmax w rfl
  have hmob : m = ob := by
    rw [h.blk.cell] at hc
    simpa using hc.symm
  subst hmob
  have hmn := map_nil m w
  cases hl : lookP M s with
  | some x =>
    rw [hl] at hl1
    dsimp only [Option.isSome] at hl1
    by_cases hx : x = v
    · subst hx
      have he : setE M s x = 0 := by unfold setE; rw [hR, hl]; simp
      have hm : setM M s x = M := by unfold setM; rw [hR, hl]; rfl
      rw [he, hm]
      obtain ⟨a1, a2, a3⟩ := h
      rcases a3 with ⟨_, rfl, _⟩ | ⟨b, D, rfl, b1, b2, b3, b4, b5⟩
      · cases hl
      have HB := Lib.hid b3
      have hsame : Hid (∀ w1 : World, w1.ownsMap Try.prog 9 (plainElem Try.prog 23) b (n + 1) (D.put (keyL s) (.lit (.int .u16 x))) → w.mapTurned w1 b → Turned w w1 g (some b) (some b) ∧ TabP w1 g (some b) (n + 1) M) := Lib.hid (fun w1 h1 h2 => by
        refine ⟨⟨some b, h2.grown, fun j e => .inr e, fun j e => .inl e⟩, a1, a2, .inr ⟨b, _, rfl, b1.grown h2.grown (by intro e; injection e with e; exact b2 e.symm), b2, h1, ?_, ?_⟩⟩
        · have := b4.put s x
          have e : putL (lookP M) s x = lookP M := by
            funext t
            unfold putL
            split
            · rename_i e; rw [e, hl]
            · rfl
          rw [e] at this
          exact this
        · rw [Maps.size_put (b3.tidy tabLaw), ((b4.2 s).1 x hl).1, if_pos rfl]
          exact b5)
      have c0 : w.cell? ⟨g, 0, none⟩ = some (.map (some b)) := by rw [b1.cell]; rfl
      clear H up he hm hlk hl hc a1 a2 b1 b2 b3 b4 b5 hs hmax hR
      go_enter Try.func8, Try.ntmps8
      go_wp2_with (first
        | (go_at_call 4; refine (RT.out _).mono ?_; rintro e w' ⟨rfl, rfl⟩)
        | (at_mapUpdate; refine wpList_mapUpdate_in _ rfl _ _ _ 25 rfl 9 23 tabLaw Try.underlying25 _ b n D rfl HB.out (by unfold maxLen; omega) _ _ _ rfl rfl (tabKey s HS.out) _ [] HV.out ?_))
      intro w1 h1 h2
      have HT := Lib.hid (hsame.out w1 h1 h2)
      clear h1 h2
      go_wp2
      go_ret
      exact ⟨rfl, _, HT.out.1, HT.out.2⟩
    · have he : setE M s v = 41 := by unfold setE; rw [hR, hl]; simp [hx]
      have hm : setM M s v = M := by unfold setM; rw [hR, hl]; rfl
      rw [he, hm]
      have hxv : (x == v) = false := by simpa using hx
      have hxv2 : (x != v) = true := by simp [bne, hxv]
      clear h he hm hv hlk hl HV hx hs hmax hR
      go_enter Try.func8, Try.ntmps8
      go_wp2_with fail
      refine (RT.out _).mono ?_
      rintro e w' ⟨rfl, rfl⟩
      go_wp2
      go_ret
      exact ⟨rfl, _, Turned.refl _ _ _, up.out⟩
  | none =>
    rw [hl] at hl1
    dsimp only [Option.isSome] at hl1
    have he : setE M s v = 0 := by unfold setE; rw [hR, hl]; rfl
    have hm : setM M s v = M ++ [(s, v)] := by unfold setM; rw [hR, hl]; rfl
    rw [he, hm]
    have hnew : Hid (∀ (w1 : World) (b : Nat) (D : DataW Unit), Blk w1 g 27 #[.map (some b)] → b ≠ g → w1.ownsMap Try.prog 9 (plainElem Try.prog 23) b (n + 1) (D.put (keyL s) (.lit (.int .u16 v))) → Looks D (lookP M) → Maps.Tidy D → Maps.size D = M.length → TabP w1 g (some b) (n + 1) (M ++ [(s, v)])) := Lib.hid (fun w1 b D q1 q2 q3 q4 q5 q6 => by
      obtain ⟨a1, a2, _⟩ := h
      refine ⟨fun p hp => ?_, add_nodup a2 hl, .inr ⟨b, _, rfl, q1, q2, q3, ?_, ?_⟩⟩
      · rcases List.mem_append.1 hp with hp | hp
        · exact a1 p hp
        · simp only [List.mem_singleton] at hp
          subst hp
          exact ⟨hv.1, hv.2, hs⟩
      · rw [lookP_add v hl]
        exact q4.put s v
      · rw [Maps.size_put q5, ((q4.2 s).2 hl)]
        simp [q6])
    obtain ⟨a1, a2, a3⟩ := h
    rcases a3 with ⟨b1, rfl, rfl⟩ | ⟨b, D, rfl, b1, b2, b3, b4, b5⟩
    · have H4 := Lib.hid b1
      have f0 := b1.frozen 0
      have hlt := b1.lt
      have f1 := (b1.alloc (.map #[] 0)).frozen 0
      have c1 : (w.alloc (.map #[] 0)).cell? ⟨g, 0, none⟩ = some (.map none) := by rw [(b1.alloc (.map #[] 0)).cell]; rfl
      have hmm := @run_makeMap Try.prog
      obtain ⟨W, hW⟩ : ∃ W, (w.alloc (.map #[] 0)).setCell ⟨g, 0, none⟩ (.map (some w.heap.size)) = W := ⟨_, rfl⟩
      have HW1 : Hid (Blk W g 27 #[.map (some w.heap.size)]) := Lib.hid (by rw [← hW]; exact Blk.set_ (Blk.alloc b1 _) 0 _)
      have HW2 : Hid (W.ownsMap Try.prog 9 (plainElem Try.prog 23) w.heap.size n (.map [] : DataW Unit)) := Lib.hid (by
        rw [← hW]
        exact ((World.ownsMap_made w Try.prog 9 _).kept (grownBy_set1T _ g 0 _) (by intro e; injection e with e; omega)).mono (Nat.zero_le _))
      have HW3 : Hid (w.grownBy W (some g)) := Lib.hid (by
        rw [← hW]
        exact (World.grownBy_alloc w _ (some g)).andThen (grownBy_set1T _ g 0 _) (fun j e => .inr e))
      have hWs : Hid (w.heap.size ≠ g) := Lib.hid (by omega)
      have hWc : W.cell? ⟨g, 0, none⟩ = some (.map (some w.heap.size)) := by rw [Blk.cell HW1.out 0]; rfl
      have HEQ := Lib.hid hW
      clear H up he hm hlk hl a1 a2 b1 hs hmax hR hW hlt
      go_enter Try.func8, Try.ntmps8
      go_wp2_with (first
        | (go_at_call 4; refine (RT.out _).mono ?_; rintro e w' ⟨rfl, rfl⟩)
        | (at_mapUpdate; rw [HEQ.out]; refine wpList_mapUpdate_in _ rfl _ _ _ 25 rfl 9 23 tabLaw Try.underlying25 _ w.heap.size n (.map []) rfl HW2.out (by unfold maxLen; omega) _ _ _ rfl rfl (tabKey s HS.out) _ [] HV.out ?_))
      intro w1 h1 h2
      have HT := Lib.hid (hnew.out w1 w.heap.size (.map []) (Blk.grown HW1.out h2.grown (by intro e; injection e with e; exact hWs.out e.symm)) hWs.out h1 ⟨Maps.isMap_empty, fun t => ⟨fun u hu => by simp [lookP] at hu, fun _ => rfl⟩⟩ Maps.tidy_empty rfl)
      have HTu : Hid (Turned w w1 g none (some w.heap.size)) := Lib.hid ⟨some g, HW3.out.andThen h2.grown (fun j e => by injection e with e; subst e; exact .inl (Nat.le_refl _)), fun j e => by injection e with e; exact .inl e.symm, fun j e => by injection e with e; subst e; exact .inr (Nat.le_refl _)⟩
      clear h1 h2
      go_wp2
      go_ret
      exact ⟨rfl, _, HTu.out, HT.out⟩
    · have HB := Lib.hid b3
      have HX := Lib.hid b1
      have HN := Lib.hid b2
      have H5 := Lib.hid b4
      have H6 := Lib.hid b5
      have HTd := Lib.hid (b3.tidy tabLaw)
      have c0 : w.cell? ⟨g, 0, none⟩ = some (.map (some b)) := by rw [b1.cell]; rfl
      clear H up he hm hlk hl hc a1 a2 b1 b2 b3 b4 b5 hs hmax hR
      go_enter Try.func8, Try.ntmps8
      go_wp2_with (first
        | (go_at_call 4; refine (RT.out _).mono ?_; rintro e w' ⟨rfl, rfl⟩)
        | (at_mapUpdate; refine wpList_mapUpdate_in _ rfl _ _ _ 25 rfl 9 23 tabLaw Try.underlying25 _ b n D rfl HB.out (by unfold maxLen; omega) _ _ _ rfl rfl (tabKey s HS.out) _ [] HV.out ?_))
      intro w1 h1 h2
      have HT := Lib.hid (hnew.out w1 b D (Blk.grown HX.out h2.grown (by intro e; injection e with e; exact HN.out e.symm)) HN.out h1 H5.out HTd.out H6.out)
      have HTu : Hid (Turned w w1 g (some b) (some b)) := Lib.hid ⟨some b, h2.grown, fun j e => .inr e, fun j e => .inl e⟩
      clear h1 h2
      go_wp2
      go_ret
      exact ⟨rfl, _, HTu.out, HT.out⟩
theorem Looks.del {D : DataW Unit} {M : PrL} (h : Looks D (lookP M)) (s : ByteArray) : Looks (D.del (keyL s)) (lookP (dropP M s)) := by
  refine ⟨h.1.del _, fun t => ?_⟩
  rw [lookP_drop]
  dsimp only
  by_cases ht : t = s
  · subst ht
    rw [if_pos rfl]
    exact ⟨fun v e => (by cases e), fun _ => Maps.has_del_same⟩
  · have hne : keyL t ≠ keyL s := fun e => ht (keyL_inj e)
    rw [if_neg ht, Maps.has_del_other hne, Maps.atKey_del_other hne]
    exact h.2 t
set_option maxRecDepth 100000 in
set_option maxHeartbeats 1000000 in
theorem symDrop_any (w : World) (g n : Nat) (ob : Option Nat) (M : PrL) (h : TabP w g ob n M) (s : ByteArray) (hs : s.size ≤ 100) :
    Calls Try.prog 7 #[.pointer (some ⟨g, 0, none⟩), .string s] w fun e w' => e = .returned (.bool (lookP M s).isSome) ∧ Turned w w' g ob ob ∧ TabP w' g ob n (dropP M s) := by
  have hmax : s.size ≤ maxLen := by unfold maxLen; omega
  have HS := Lib.hid hmax
  obtain ⟨m, hc, hlk⟩ := h.tab.cell
  obtain ⟨V, hl1⟩ : ∃ V : Int, (Instr.lookup 25 (.map m) (.string s) true).run Try.prog w = .ok (.tuple #[.int .u16 V, .bool (lookP M s).isSome]) w := ⟨_, hlk s hmax w rfl⟩
  have hmob : m = ob := by
    rw [h.blk.cell] at hc
    simpa using hc.symm
  subst hmob
  have hx : Hid (∀ p ∈ dropP M s, 0 ≤ p.2 ∧ p.2 < 65536 ∧ p.1.size ≤ 100) := Lib.hid (fun p hp => h.1 p (List.mem_filter.1 hp).1)
  have hd := Lib.hid (drop_nodup s h.2.1)
  have hln := Lib.hid (drop_len (s := s) h.2.1)
  obtain ⟨a1, a2, a3⟩ := h
  rcases a3 with ⟨b1, rfl, rfl⟩ | ⟨b, D, rfl, b1, b2, b3, b4, b5⟩
  · have HX := Lib.hid b1
    have hdn := Maps.drop_nil (w := w) tabLaw Try.underlying25 (tabKey s hmax)
    clear hlk a1 a2 b1 hs hmax
    simp only [lookP, Option.isSome] at hl1 ⊢
    go_enter Try.func7, Try.ntmps7
    go_wp2
    go_ret
    exact ⟨rfl, Turned.refl _ _ _, hx.out, hd.out, .inl ⟨HX.out, rfl, rfl⟩⟩
  · have hfin : Hid (∀ w1 : World, w1.ownsMap Try.prog 9 (plainElem Try.prog 23) b n (D.del (keyL s)) → w.mapTurned w1 b → Turned w w1 g (some b) (some b) ∧ TabP w1 g (some b) n (dropP M s)) := Lib.hid (fun w1 h1 h2 => by
      refine ⟨⟨some b, h2.grown, fun j e => .inr e, fun j e => .inl e⟩, hx.out, hd.out, .inr ⟨b, _, rfl, b1.grown h2.grown (by intro e; injection e with e; exact b2 e.symm), b2, h1, b4.del s, ?_⟩⟩
      have e1 := Maps.size_del (k := keyL s) (b3.tidy tabLaw)
      have e2 := hln.out
      rw [b5] at e1
      have e3 : Maps.has D (keyL s) = (lookP M s).isSome := by
        cases hl : lookP M s with
        | none => exact (b4.2 s).2 hl
        | some x => exact ((b4.2 s).1 x hl).1
      rw [e3] at e1
      omega)
    have HB := Lib.hid b3
    have c0 : w.cell? ⟨g, 0, none⟩ = some (.map (some b)) := by rw [b1.cell]; rfl
    clear hlk hc a1 a2 b1 b2 b3 b4 b5 hs hmax hx hd hln
    generalize (lookP M s).isSome = F at hl1 ⊢
    go_enter Try.func7, Try.ntmps7
    go_wp2_with (at_delete; refine wpList_delete_own _ rfl _ _ 25 9 rfl 23 tabLaw Try.underlying25 _ b n D rfl HB.out _ _ rfl (tabKey s HS.out) ?_)
    intro w1 h1 h2
    have HT := Lib.hid (hfin.out w1 h1 h2)
    clear h1 h2
    go_wp2
    go_ret
    exact ⟨rfl, HT.out.1, HT.out.2⟩
theorem symLen_any (w : World) (g n : Nat) (ob : Option Nat) (M : PrL) (h : TabP w g ob n M) :
    Calls Try.prog 12 #[.pointer (some ⟨g, 0, none⟩)] w fun e w' => e = .returned (.int .i64 M.length) ∧ w = w' := by
  obtain ⟨a1, a2, a3⟩ := h
  rcases a3 with ⟨b1, rfl, rfl⟩ | ⟨b, D, rfl, b1, b2, b3, b4, b5⟩
  · have c0 : w.cell? ⟨g, 0, none⟩ = some (.map none) := by rw [b1.cell]; rfl
    have hdn := Maps.len_nil (w := w) Try.underlying25
    clear a1 a2 b1
    go_enter Try.func12, Try.ntmps12
    go_wp2
    go_ret
    exact ⟨rfl, rfl⟩
  · have HB := Lib.hid b3
    have c0 : w.cell? ⟨g, 0, none⟩ = some (.map (some b)) := by rw [b1.cell]; rfl
    rw [← b5]
    clear a1 a2 b1 b2 b3 b4 b5
    go_enter Try.func12, Try.ntmps12
    go_wp2_with (at_len; refine wpList_len_own _ rfl _ 25 rfl 9 23 Try.underlying25 _ b n D rfl HB.out ?_)
    go_wp2
    go_ret
    exact ⟨rfl, rfl⟩
end Go.Proofs.Ytopkjniegncokaa
