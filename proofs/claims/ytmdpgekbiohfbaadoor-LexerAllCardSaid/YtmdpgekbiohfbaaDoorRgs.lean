/- A range over strings.SplitSeq: the law of the statement, for an iterator that keeps its own text in one cell. -/
import Derived.Test.YtmdpgekbiohfbaaDoorMem
import Derived.RangeFuncNested
import Derived.RangeFuncBound
import Derived.RangeFuncCalls
import Derived.RangeFuncLeaves
import Derived.Shelf.Abstract
import Derived.Shelf.RegionOpen
import Derived.OwnWalkIn
import Derived.TacticsInMore
import Derived.LoopNIn
import Derived.LoopIn
namespace Go.Proofs.YtmdpgekbiohfbaaDoor
open Go.ChangeShapes Go.WideShapes Go.ChangeAt Go.RowKit
set_option linter.unusedVariables false

/-- The iterator's three boxes (from b on), and blocks D and D + 1 lie as they lay. -/
def Same3 (b D : Nat) (W W' : World) : Prop := ∀ k, (b ≤ k ∧ k < b + 3) ∨ k = D ∨ k = D + 1 → W'.heap[k]? = W.heap[k]?
/-- How a round may be left. -/
def RndPost (b D : Nat) (I : List ByteArray → World → Prop) (Ix : Code → List ByteArray → World → Prop) (xs : List ByteArray) (W : World) : Exit → Act → World → Prop
  | .normal, _, W' => Same3 b D W W' ∧ I xs W'
  | .ret, _, W' => Same3 b D W W' ∧ Ix .ret xs W'
  | .exit id, _, W' => Same3 b D W W' ∧ Ix (.exit id) xs W'
  | .goto t, _, W' => Same3 b D W W' ∧ Ix (.goto t) xs W'
  | .panic _, _, _ => False
  | .outgrown, _, _ => False
/-- The iterator: it hands on the texts xs, one by one; between rounds it makes new blocks and turns its own block b alone. -/
def SeqB (P : Program) (gf : Nat) (lb : Array Value) (b : Nat) (o : Nat → Option Obj) (xs : List ByteArray) : Prop :=
  ∀ (l : Nat) (J Jx : List ByteArray → World → Prop) (W : World), (∀ k, b ≤ k → k < b + 3 → W.heap[k]? = o k) →
    (∀ pre A B, J pre A → A.grownBy B (some b) → J pre B) → (∀ pre A B, Jx pre A → A.grownBy B (some b) → Jx pre B) →
    (∀ pre x rest W1, xs = pre ++ x :: rest → J pre W1 → YieldAt Fence.wide 0 P l #[.string x] W1 fun e W' =>
      (e = .returned (.bool true) ∧ J (pre ++ [x]) W' ∧ ∀ k, b ≤ k → k < b + 3 → W'.heap[k]? = W1.heap[k]?) ∨ (e = .returned (.bool false) ∧ Jx (pre ++ [x]) W')) →
    J [] W →
    Calls P gf (#[.func (.yield l) #[] #[]] ++ lb) W fun e W' => (∃ v, e = .returned v) ∧ (J xs W' ∨ ∃ pre rest, xs = pre ++ rest ∧ Jx pre W')
theorem grown_none {A B : World} {row : Option Nat} (h : A.grownBy B none) : A.grownBy B row := ⟨h.os, h.tape, h.output, h.size, fun k hk hne => h.block k hk (by simp)⟩
theorem grown_put (W : World) (l : Nat) (o : Obj) : W.grownBy (W.putObj l o) (some l) := ⟨rfl, rfl, rfl, by simp, fun k _ hk => World.putObj_heap_other (fun e => hk (by rw [e]))⟩
theorem grown_alloc (W : World) (o : Obj) (row : Option Nat) : W.grownBy (W.alloc o) row := grown_none (World.grownBy_alloc W o none)

theorem wp_rangeSeq {P : Program} {g : Operand} {ps : Array Tmp} {assign body : Code} {Q : Exit → Act → World → Prop} {a : Act} {w : World} {gf : Nat} {lb : Array Value} {b : Nat} {xs : List ByteArray}
    (hg : a.eval g = .func (.func gf) #[] lb) (eg : ∀ args w, (callFunc gf args).run P w = .ok (.enter gf args) w) (hb : b + 3 ≤ w.heap.size) (hseq : SeqB P gf lb b (fun k => w.heap[k]?) xs) (hps : ps.size = 1)
    (I : List ByteArray → World → Prop) (Ix : Code → List ByteArray → World → Prop)
    (hI : ∀ pre A B r, I pre A → A.grownBy B (some r) → (r = b ∨ r = w.heap.size ∨ r = w.heap.size + 1) → I pre B)
    (hIx : ∀ c pre A B r, Ix c pre A → A.grownBy B (some r) → (r = b ∨ r = w.heap.size ∨ r = w.heap.size + 1) → Ix c pre B)
    (h0 : I [] w) (a₁ : ByteArray → Act)
    (hassign : ∀ (l : Nat) (x : ByteArray) (W : World) (K : Act → World → Prop), K (a₁ x) W →
      assign.wpIn (Fence.wide.inRound l) 0 P (Exit.then K (fun _ _ _ => False)) { tmps := (ps.zip #[Value.string x]).foldl (fun t (p, v) => t.setIfInBounds p v) a.tmps, defers := [] } W)
    (hbody : ∀ (l : Nat) (pre : List ByteArray) (x : ByteArray) (rest : List ByteArray) (W : World), xs = pre ++ x :: rest → w.heap.size + 2 ≤ W.heap.size → I pre W →
      body.wpIn (Fence.wide.inRound l) 0 P (RndPost b w.heap.size I Ix (pre ++ [x]) W) (a₁ x) W)
    (hdone : ∀ (W : World), I xs W → W.heap[w.heap.size]? = some (.deferred (some [])) → Q .normal { a with defers := { target := .collected w.heap.size, args := #[] } :: a.defers } W)
    (hstop : ∀ (c : Code) (pre rest : List ByteArray) (W : World), xs = pre ++ rest → Ix c pre W → W.heap[w.heap.size]? = some (.deferred (some [])) →
      c.wpIn Fence.wide 0 P Q { a with defers := { target := .collected w.heap.size, args := #[] } :: a.defers } W) :
    (Code.rangeFunc g ps assign body).wpIn Fence.wide 0 P Q a w := by
  refine wpIn_rangeFunc ?_
  intro fn _
  obtain ⟨D, hD⟩ : ∃ D, w.heap.size = D := ⟨_, rfl⟩
  rw [hD] at hI hIx hdone hstop hb hbody
  obtain ⟨rc, hrc⟩ : ∃ rc : LoopState → Option Code → Loop, rc = fun st pe => { state := st, pending := pe, fn, tmps := a.tmps, params := ps, assign, body, defers := D } := ⟨_, rfl⟩
  obtain ⟨W0, hW0⟩ : ∃ W0, (w.alloc (.deferred (some []))).alloc (.loop (rc .ready none)) = W0 := ⟨_, rfl⟩
  have n1 : (w.alloc (.deferred (some []))).heap.size = D + 1 := by rw [World.size_alloc, hD]
  have nW : W0.heap.size = D + 2 := by rw [← hW0, World.size_alloc, n1]
  have hl0 : W0.heap[D + 1]? = some (.loop (rc .ready none)) := by
    rw [← hW0, ← n1]; exact World.alloc_heap_new _ _
  have hd0 : W0.heap[D]? = some (.deferred (some [])) := by
    rw [← hW0]; refine (Below.heap_alloc _ _ D (by rw [n1]; omega)).trans ?_
    rw [← hD]; exact World.alloc_heap_new w _
  have hb0 : ∀ k, b ≤ k → k < b + 3 → W0.heap[k]? = w.heap[k]? := fun k h1 h2 => by
    rw [← hW0]; exact (Below.heap_alloc _ _ k (by rw [n1]; omega)).trans (Below.heap_alloc _ _ k (by omega))
  have hI0 : I [] W0 := by
    rw [← hW0]
    exact hI _ _ _ D (hI _ _ _ D h0 (grown_alloc _ _ _) (.inr (.inl rfl))) (grown_alloc _ _ _) (.inr (.inl rfl))
  refine ⟨D + 1, [{ target := .collected D, args := #[] }], W0, { target := .fn (.func gf) lb, args := #[.func (.yield (D + 1)) #[] #[]] }, W0, gf, #[.func (.yield (D + 1)) #[] #[]] ++ lb, W0, ?_, ?_, fun _ _ => trivial, ?_, fun h => (by cases h), ?_⟩
  · rw [← hW0, hrc, ← hD]; exact run_enterLoop_outer _ _ _ _ _
  · simp only [resolve, hg]
    simp [go_sem]
  · simp [invoke, go_sem, eg]
  refine callsIn_wide.2 ((hseq (D + 1)
    (fun pre W => I pre W ∧ D + 2 ≤ W.heap.size ∧ W.heap[D + 1]? = some (.loop (rc .ready none)) ∧ W.heap[D]? = some (.deferred (some [])))
    (fun pre W => ∃ c, Ix c pre W ∧ W.heap[D + 1]? = some (.loop (rc .done (some c))) ∧ W.heap[D]? = some (.deferred (some [])))
    W0 hb0 ?_ ?_ ?_ ⟨hI0, by omega, hl0, hd0⟩).mono ?_)
  · rintro pre A B ⟨h1, h2, h3, h4⟩ hG
    have l3 := (Array.getElem?_eq_some_iff.1 h3).1
    exact ⟨hI _ _ _ b h1 hG (.inl rfl), Nat.le_trans h2 hG.size, (hG.block _ (by omega) (by simp; omega)).trans h3, (hG.block _ (by omega) (by simp; omega)).trans h4⟩
  · rintro pre A B ⟨c, h1, h3, h4⟩ hG
    have l3 := (Array.getElem?_eq_some_iff.1 h3).1
    exact ⟨c, hIx _ _ _ _ b h1 hG (.inl rfl), (hG.block _ (by omega) (by simp; omega)).trans h3, (hG.block _ (by omega) (by simp; omega)).trans h4⟩
  · rintro pre x rest W hxs ⟨hi, hn, hl, hk⟩
    have hlt : D + 1 < W.heap.size := by omega
    have hy := run_yield (P := P) (args := #[Value.string x]) hl (by rw [hrc]; simp [hps])
    obtain ⟨W2, hW2⟩ : ∃ W2, W.putObj (D + 1) (.loop { rc .ready none with state := .busy }) = W2 := ⟨_, rfl⟩
    have hl2 : W2.heap[D + 1]? = some (.loop { rc .ready none with state := .busy }) := by rw [← hW2]; exact World.putObj_heap_same hlt
    have hk2 : W2.heap[D]? = some (.deferred (some [])) := by rw [← hW2]; exact (World.putObj_heap_other (by omega)).trans hk
    have hb2 : ∀ k, b ≤ k → k < b + 3 → W2.heap[k]? = W.heap[k]? := fun k h1 h2 => by rw [← hW2]; exact World.putObj_heap_other (by omega)
    have hi2 : I pre W2 := by rw [← hW2]; exact hI _ _ _ (D + 1) hi (grown_put _ _ _) (.inr (.inr rfl))
    have hn2 : D + 2 ≤ W2.heap.size := by rw [← hW2, World.putObj_size]; exact hn
    refine ⟨_, _, _, _, hy, ?_⟩
    refine roundIn_of_wpIn trivial ?_
    have hs := hassign (D + 1) x W (fun a' W' => ∃ w₂, (Instr.beginRound (D + 1)).run P W' = .ok () w₂ ∧ body.wpIn (Fence.wide.inRound (D + 1)) 0 P (roundPost P (D + 1) (fun e W' =>
      (e = .returned (.bool true) ∧ (I (pre ++ [x]) W' ∧ D + 2 ≤ W'.heap.size ∧ W'.heap[D + 1]? = some (.loop (rc .ready none)) ∧ W'.heap[D]? = some (.deferred (some []))) ∧ ∀ k, b ≤ k → k < b + 3 → W'.heap[k]? = W.heap[k]?) ∨
      (e = .returned (.bool false) ∧ ∃ c, Ix c (pre ++ [x]) W' ∧ W'.heap[D + 1]? = some (.loop (rc .done (some c))) ∧ W'.heap[D]? = some (.deferred (some []))))) a' w₂) ?_
    · rw [hrc] at hs ⊢
      exact hs
    refine ⟨W2, by rw [← hW2]; exact run_beginRound hl (by rw [hrc]), ?_⟩
    refine wpIn_mono (hbody (D + 1) pre x rest W2 hxs hn2 hi2) ?_
    have fin : ∀ (jump : Option Code) (W3 : World), Same3 b D W2 W3 →
        (Instr.endRound (D + 1) jump).run P W3 = .ok (.bool jump.isNone) (W3.putObj (D + 1) (.loop (rc (if jump.isNone then .ready else .done) jump))) ∧
        D + 2 ≤ W3.heap.size ∧
        (W3.putObj (D + 1) (.loop (rc (if jump.isNone then .ready else .done) jump))).heap[D + 1]? = some (.loop (rc (if jump.isNone then .ready else .done) jump)) ∧
        (W3.putObj (D + 1) (.loop (rc (if jump.isNone then .ready else .done) jump))).heap[D]? = some (.deferred (some [])) ∧
        (∀ k, b ≤ k → k < b + 3 → (W3.putObj (D + 1) (.loop (rc (if jump.isNone then .ready else .done) jump))).heap[k]? = W.heap[k]?) := fun jump W3 hS => by
      have hl3 := (hS (D + 1) (.inr (.inr rfl))).trans hl2
      have hr := run_endRound (P := P) jump hl3
      rw [hrc] at hr ⊢
      have hlt3 := (Array.getElem?_eq_some_iff.1 hl3).1
      exact ⟨hr, by omega, World.putObj_heap_same hlt3, (World.putObj_heap_other (by omega)).trans ((hS D (.inr (.inl rfl))).trans hk2), fun k h1 h2 => (World.putObj_heap_other (by omega)).trans ((hS k (.inl ⟨h1, h2⟩)).trans (hb2 k h1 h2))⟩
    rintro e a3 W3 hp
    cases e with
    | normal =>
      obtain ⟨hS, hi3⟩ := hp
      obtain ⟨hr, hn3, hl4, hk4, hb4⟩ := fin none W3 hS
      exact ⟨_, _, hr, .inl ⟨rfl, ⟨hI _ _ _ (D + 1) hi3 (grown_put _ _ _) (.inr (.inr rfl)), by rw [World.putObj_size]; exact hn3, hl4, hk4⟩, hb4⟩⟩
    | ret =>
      obtain ⟨hS, hi3⟩ := hp
      obtain ⟨hr, hn3, hl4, hk4, hb4⟩ := fin (some .ret) W3 hS
      exact ⟨_, _, hr, .inr ⟨rfl, .ret, hIx _ _ _ _ (D + 1) hi3 (grown_put _ _ _) (.inr (.inr rfl)), hl4, hk4⟩⟩
    | exit id =>
      obtain ⟨hS, hi3⟩ := hp
      obtain ⟨hr, hn3, hl4, hk4, hb4⟩ := fin (some (.exit id)) W3 hS
      exact ⟨_, _, hr, .inr ⟨rfl, .exit id, hIx _ _ _ _ (D + 1) hi3 (grown_put _ _ _) (.inr (.inr rfl)), hl4, hk4⟩⟩
    | goto t =>
      obtain ⟨hS, hi3⟩ := hp
      obtain ⟨hr, hn3, hl4, hk4, hb4⟩ := fin (some (.goto t)) W3 hS
      exact ⟨_, _, hr, .inr ⟨rfl, .goto t, hIx _ _ _ _ (D + 1) hi3 (grown_put _ _ _) (.inr (.inr rfl)), hl4, hk4⟩⟩
    | panic ch => exact hp.elim
    | outgrown => exact hp.elim
  · rintro e W2 ⟨⟨v, rfl⟩, (⟨hi, hn, hl, hk⟩ | ⟨pre, rest, hx, c, hi, hl, hk⟩)⟩
    · exact ⟨none, _, by have := run_endLoop (P := P) hl (by rw [hrc]; simp); rw [hrc] at this; exact this,
        hdone _ (hI _ _ _ (D + 1) hi (grown_put _ _ _) (.inr (.inr rfl))) ((World.putObj_heap_other (by omega)).trans hk)⟩
    · exact ⟨some c, _, by have := run_endLoop (P := P) hl (by rw [hrc]; simp); rw [hrc] at this; exact this,
        hstop c pre rest _ hx (hIx _ _ _ _ (D + 1) hi (grown_put _ _ _) (.inr (.inr rfl))) ((World.putObj_heap_other (by omega)).trans hk)⟩
end Go.Proofs.YtmdpgekbiohfbaaDoor
