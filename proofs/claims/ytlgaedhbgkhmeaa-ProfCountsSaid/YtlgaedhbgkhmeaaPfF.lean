/- The law of package prof: its argument opened; the chapter's example. -/
import Derived.Test.YtlgaedhbgkhmeaaPfE
import Derived.Test.YtlgaedhbgkhmeaaPfC
import Derived.Test.YtlgaedhbgkhmeaaPfD
namespace Go.Proofs.Ytlgaedhbgkhmeaa
open Go.ChangeShapes Go.WideShapes Go.ChangeAt Go.RowKit
set_option linter.unusedVariables false
abbrev Sl3 := Option Addr × Nat × Nat
abbrev eSl : Els Sl3 := ⟨fun x => [.slice x.1 x.2.1 x.2.2], 1, fun _ => rfl, fun x u h => by simp only [List.mem_singleton] at h; subst h; rfl, by decide⟩
/-- What a call on the table leaves. -/
theorem own_turned {α : Type} {E : Els α} {t : TypeId} {w w' : World} {B g : Nat} {ob ob' : Option Nat} {v : Value} {l : List α} (h : E.Own t w B v l) (ht : Turned w w' g ob ob') (h1 : v.ownBlock ≠ some g) (h2 : ∀ b, ob = some b → v.ownBlock ≠ some b) :
    E.Own t w' B v l ∧ ∀ b, ob' = some b → v.ownBlock ≠ some b := by
  have hlt := h.lt
  obtain ⟨row, hg, hr, hb⟩ := ht
  refine ⟨h.grown hg ?_, fun b e e2 => ?_⟩
  · by_cases hn : v.ownBlock = none
    · exact .inl hn
    · refine .inr fun e => ?_
      cases row with
      | none => exact hn e
      | some j =>
        rcases hr j rfl with rfl | h3
        · exact h1 e
        · exact h2 j h3 e
  · rcases hb b e with h3 | h3
    · exact h2 b h3 e2
    · have := (hlt b e2).2; omega
theorem below_turned {w0 w w' : World} {g : Nat} {ob ob' : Option Nat} (h : Below w0.heap.size w0 w) (ht : Turned w w' g ob ob') (hg : w0.heap.size ≤ g) (ho : ∀ b, ob = some b → w0.heap.size ≤ b) :
    Below w0.heap.size w0 w' ∧ ∀ b, ob' = some b → w0.heap.size ≤ b := by
  obtain ⟨row, hgr, hr, hb⟩ := ht
  refine ⟨h.grown hgr h.size (fun j e => ?_), fun b e => ?_⟩
  · rcases hr j e with rfl | h3
    · exact hg
    · exact ho j h3
  · rcases hb b e with h3 | h3
    · exact ho b h3
    · exact Nat.le_trans h.size h3
def rrWf (W : World) (x : Sl3) : Prop := ∃ l, eR.In Rc.Ok W x.1 x.2.1 x.2.2 l
def RrsIn (W : World) (A : Option Addr) (n c : Nat) (L : List Sl3) : Prop := eSl.In (rrWf W) W A n c L
theorem open_rrs {H : Type} {ee : TypeId × Value → H} {W : World} {base : Nat} {sp : Nat → Bool} {held : Bool} {fuel : Nat} {A : Option Addr} {n c : Nat} {x : DataW H × List MemPlace} (h : DataW.trod ee Try.prog W base sp held fuel 22 (Value.slice A n c).cells.toList = some x) :
    ∃ L, RrsIn W A n c L :=
  Els.open_in (E := eSl) (rrWf W) Try.underlying22 (by kernel_rfl) (fun n cs x hl h => by
    match cs, hl with
    | [v], _ =>
      obtain ⟨A', n', c', rfl⟩ : ∃ A' n' c', v = .slice A' n' c' := by
        rcases Go.Deep.open_slice Try.underlying29 h with ⟨hcs, _⟩ | ⟨a, len, cap, _, _, _, _, hcs, _⟩
        · exact ⟨_, _, _, by simpa using hcs⟩
        · exact ⟨_, _, _, by simpa using hcs⟩
      obtain ⟨l, q⟩ := open_recs (A := A') (n := n') (c := c') h
      exact ⟨(A', n', c'), rfl, l, q⟩) h
theorem rrs_list {W : World} : ∀ (L : List Sl3), (∀ x ∈ L, rrWf W x) → ∃ l : List (List Rc), L.length = l.length ∧ ∀ (i : Nat) (x : Sl3) (p : List Rc), L[i]? = some x → l[i]? = some p → eR.In Rc.Ok W x.1 x.2.1 x.2.2 p
  | [], _ => ⟨[], rfl, fun i x p h => by simp at h⟩
  | y :: L, h => by
    obtain ⟨l, h1, h2⟩ := rrs_list L (fun x hx => h x (by simp [hx]))
    obtain ⟨p, hp⟩ := h y (by simp)
    refine ⟨p :: l, by simp [h1], fun i x q a b => ?_⟩
    cases i with
    | zero =>
      obtain rfl : y = x := by simpa using a
      obtain rfl : p = q := by simpa using b
      exact hp
    | succ i => exact h2 i x q (by simpa using a) (by simpa using b)
/-- A row of the call's own is no map. -/
theorem own_no_map {w : World} {g n B : Nat} {ob : Option Nat} {L : List SpN} {v : Value} {l : List SpN} (h : ProP w g ob n L) (ho : eSp.Own 35 w B v l) : ∀ b, ob = some b → v.ownBlock ≠ some b := fun b e e2 => by
  rcases h.2.2 with ⟨_, _, e3⟩ | ⟨b', D, e3, _, _, q, _⟩
  · rw [e] at e3; cases e3
  · rw [e] at e3; injection e3 with e3; subst e3
    obtain ⟨es, cl, hb, _⟩ := q
    rcases ho.2 with ⟨rfl, _⟩ | ⟨q, c, cur, rfl, _, hc, _⟩
    · cases e2
    · have : q = b := by simpa [Value.ownBlock] using e2
      rw [this, hb] at hc; cases hc
abbrev r5 : Rc := ⟨5, 0, false, false, false, false, false, false, true⟩
abbrev c5 : List Value := [.int .u16 5, .int .u8 0, .bool false, .bool false, .bool false, .bool false, .bool false, .bool false, .bool true]
set_option maxRecDepth 100000 in
set_option maxHeartbeats 4000000 in
theorem alive53 (w : World) : Calls Try.prog 13 #[] w fun e w' => e = .returned (.bool true) ∧ Below w.heap.size w w' := by
  have EQ := eql_sps ⟨5, 2, 5, 0⟩
  simp only [spV] at EQ
  obtain ⟨s, hs⟩ : ∃ s, w.heap.size = s := ⟨_, rfl⟩
  have HS := Lib.hid hs
  obtain ⟨W1, e1⟩ : ∃ W1, w.alloc (.cells #[.map none] 27) = W1 := ⟨_, rfl⟩
  have z1 : W1.heap.size = s + 1 := by rw [← e1, ← hs]; simp
  have p1 : Blk W1 s 27 #[.map none] := by rw [← e1, ← hs]; exact Blk.new w _ _ (0, 0)
  have b1 : Below s w W1 := by rw [← e1]; exact (Below.refl _ _).alloc (by omega) _
  obtain ⟨W2, e2⟩ : ∃ W2, W1.alloc (.cells (rc9 r5) 51) = W2 := ⟨_, rfl⟩
  have z2 : W2.heap.size = s + 1 + 1 := by rw [← e2, ← z1]; simp
  have p2 : Blk W2 s 27 #[.map none] := by rw [← e2]; exact Blk.alloc p1 _
  have r2 : Blk W2 (s + 1) 51 (rc9 r5) := by rw [← e2, ← z1]; exact Blk.new W1 _ _ (0, 0)
  have b2 : Below s w W2 := by rw [← e2]; exact b1.alloc (by omega) _
  obtain ⟨W3, e3⟩ : ∃ W3, W2.alloc (.cells (c5 ++ c5).toArray 51) = W3 := ⟨_, rfl⟩
  have z3 : W3.heap.size = s + 1 + 1 + 1 := by rw [← e3, ← z2]; simp
  have p3 : Blk W3 s 27 #[.map none] := by rw [← e3]; exact Blk.alloc p2 _
  have r3 : Blk W3 (s + 1) 51 (rc9 r5) := by rw [← e3]; exact Blk.alloc r2 _
  have q3 : Blk W3 (s + 1 + 1) 51 (c5 ++ c5).toArray := by rw [← e3, ← z2]; exact Blk.new W2 _ _ (0, 0)
  have b3 : Below s w W3 := by rw [← e3]; exact b2.alloc (by omega) _
  obtain ⟨W4, e4⟩ : ∃ W4, W3.alloc (.cells (c5 ++ c5 ++ c5).toArray 51) = W4 := ⟨_, rfl⟩
  have z4' : W4.heap.size = s + 1 + 1 + 1 + 1 := by rw [← e4, ← z3]; simp
  have p4 : Blk W4 s 27 #[.map none] := by rw [← e4]; exact Blk.alloc p3 _
  have q4 : Blk W4 (s + 1 + 1) 51 (c5 ++ c5).toArray := by rw [← e4]; exact Blk.alloc q3 _
  have t4 : Blk W4 (s + 1 + 1 + 1) 51 (c5 ++ c5 ++ c5).toArray := by rw [← e4, ← z3]; exact Blk.new W3 _ _ (0, 0)
  have b4 : Below s w W4 := by rw [← e4]; exact b3.alloc (by omega) _
  obtain ⟨W5, e5⟩ : ∃ W5, W4.alloc (.cells #[.slice (some ⟨s + 1 + 1, 0, none⟩) 2 2, .bool false, .slice (some ⟨s + 1 + 1 + 1, 0, none⟩) 3 3, .bool false] 32) = W5 := ⟨_, rfl⟩
  have z5 : W5.heap.size = s + 1 + 1 + 1 + 1 + 1 := by rw [← e5, ← z4']; simp
  have p5 : Blk W5 s 27 #[.map none] := by rw [← e5]; exact Blk.alloc p4 _
  have q5 : Blk W5 (s + 1 + 1) 51 (c5 ++ c5).toArray := by rw [← e5]; exact Blk.alloc q4 _
  have t5 : Blk W5 (s + 1 + 1 + 1) 51 (c5 ++ c5 ++ c5).toArray := by rw [← e5]; exact Blk.alloc t4 _
  have u5 : Blk W5 (s + 1 + 1 + 1 + 1) 32 #[.slice (some ⟨s + 1 + 1, 0, none⟩) 2 2, .bool false, .slice (some ⟨s + 1 + 1 + 1, 0, none⟩) 3 3, .bool false] := by rw [← e5, ← z4']; exact Blk.new W4 _ _ (0, 0)
  have b5 : Below s w W5 := by rw [← e5]; exact b4.alloc (by omega) _
  have B5 := Lib.hid b5
  have Z5 := Lib.hid z5
  have AD := Lib.hid (proAdd_any W5 s 0 none [] ⟨fun x hx => by simp at hx, List.Pairwise.nil, .inl ⟨p5, rfl, rfl⟩⟩ (.slice (some ⟨s + 1 + 1 + 1 + 1, 0, none⟩) 2 2) [⟨some ⟨s + 1 + 1, 0, none⟩, 2, 2, false⟩, ⟨some ⟨s + 1 + 1 + 1, 0, none⟩, 3, 3, false⟩] [[r5, r5], [r5, r5, r5]] rfl (by decide)
    (fun w' hk hsz => by
      have q6 : Blk w' (s + 1 + 1) 51 (c5 ++ c5).toArray := (hk _ (by omega) (by omega) (by simp)).trans q5
      have t6 : Blk w' (s + 1 + 1 + 1) 51 (c5 ++ c5 ++ c5).toArray := (hk _ (by omega) (by omega) (by simp)).trans t5
      have u6 : Blk w' (s + 1 + 1 + 1 + 1) 32 #[.slice (some ⟨s + 1 + 1, 0, none⟩) 2 2, .bool false, .slice (some ⟨s + 1 + 1 + 1, 0, none⟩) 3 3, .bool false] := (hk _ (by omega) (by omega) (by simp)).trans u5
      refine ⟨Els.Rd.blk (E := eC) _ _ (0, 0) u6 2 rfl rfl 2, fun i p x hp hx => ?_⟩
      rcases i with _ | _ | i
      · obtain rfl := Option.some.inj hp
        obtain rfl := Option.some.inj hx
        exact Els.Rd.blk (E := eR) _ _ (0, 0) q6 2 rfl rfl 2
      · obtain rfl := Option.some.inj hp
        obtain rfl := Option.some.inj hx
        exact Els.Rd.blk (E := eR) _ _ (0, 0) t6 3 rfl rfl 3
      · simp at hp)
    (fun x hx => by
      have h0 : r5.Ok := ⟨by decide, by decide, by decide, by decide⟩
      simp only [List.mem_cons, List.not_mem_nil, or_false] at hx
      rcases hx with rfl | rfl
      · exact ⟨by decide, fun r hr => by simp at hr; subst hr; exact h0⟩
      · exact ⟨by decide, fun r hr => by simp at hr; subst hr; exact h0⟩) (by decide) 0 (by decide) (by decide) (fun x hx => by simp at hx))
  have HF : ([[r5, r5], [r5, r5, r5]] : List (List Rc)).foldl addP [] = [⟨5, 2, 5, 0⟩] := by decide
  rw [HF] at AD
  obtain ⟨g0, g1, g2, g3, g4, g5, g6, g7, g8⟩ := r2.c9
  obtain ⟨k0, k1, k2, k3, k4, k5, k6, k7, k8⟩ := r3.c9
  clear p1 b1 p2 b2 p3 q3 b3 p4 q4 t4 b4 p5 q5 t5 u5 b5 HF r2 r3 z3 z4' z5
  subst e5
  subst e4
  subst e3
  go_enter Try.func13, Try.ntmps13
  go_wp2_with fail
  refine AD.out.mono ?_
  rintro e w6 ⟨rfl, ob, hP, hT, _⟩
  have HB6 := Lib.hid (below_turned (w0 := w) (by rw [hs]; exact B5.out) hT (by rw [hs]; exact Nat.le_refl _) (fun b e => by cases e)).1
  have OF := Lib.hid (proOf_any w6 s _ ob _ hP 5 (by decide))
  have e9 : ofN [⟨5, 2, 5, 0⟩] 5 = ⟨5, 2, 5, 0⟩ := by decide
  have e8 : lkS [⟨5, 2, 5, 0⟩] 5 = some ⟨5, 2, 5, 0⟩ := by decide
  rw [e9, e8] at OF
  clear hP hT e1 e2 z1 z2 e9 e8
  go_wp2_with fail
  refine OF.out.mono ?_
  rintro e w7 ⟨rfl, hb7⟩
  have HB7 := Lib.hid (Below.alloc0 (Below.trans0 HB6.out hb7) (Obj.cells (cellsSp 5 2 5 0) 35))
  clear hb7
  simp only [Option.isSome_some]
  go_wp2
  go_ret
  exact ⟨rfl, HB7.out⟩
end Go.Proofs.Ytlgaedhbgkhmeaa
