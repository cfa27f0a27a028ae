/- The document's list of opcodes (spinetref14): words for the list as it grows; its call add. -/
import Derived.Test.YtljhfalgplihhaaGreatDoorGLai
namespace Go.Proofs.YtljhfalgplihhaaGreatDoor
open Go.ChangeShapes Go.WideShapes Go.ChangeAt Go.RowKit
set_option linter.unusedVariables false

def k5C (x : K5) : List Value := [.int .i64 (x.1 : Int), .int .i64 (x.2.1 : Int), .int .i64 (x.2.2.1 : Int), .int .i64 (x.2.2.2.1 : Int), .int .i64 (x.2.2.2.2 : Int)]
def kC (l : List K5) : List Value := l.flatMap k5C
theorem kC_snoc (l : List K5) (x : K5) : kC (l ++ [x]) = kC l ++ k5C x := by simp [kC]
theorem kC_len (l : List K5) : (kC l).length = 5 * l.length := by
  induction l with
  | nil => rfl
  | cons x l ih =>
    rw [show kC (x :: l) = k5C x ++ kC l from rfl, List.length_append, ih, List.length_cons, show (k5C x).length = 5 from rfl]; omega
theorem kC_at (l : List K5) : ∀ (i j : Nat), i < l.length → j < 5 → (kC l)[5 * i + j]? = (k5C (l.getD i (0, 0, 0, 0, 0)))[j]? := by
  induction l with
  | nil => intro i j h; exact absurd h (by simp)
  | cons x l ih =>
    intro i j h hj
    cases i with
    | zero => simp only [kC, List.flatMap_cons]; rw [List.getElem?_append_left (by simp [k5C]; omega)]; simp
    | succ i =>
      have := ih i j (by simpa using h) hj
      simp only [kC, List.flatMap_cons] at this ⊢
      rw [List.getElem?_append_right (by simp [k5C]; omega)]
      simp only [List.getD_cons_succ]
      rw [← this]
      congr 1
      simp [k5C]; omega
theorem upK_len (f : Nat → List K5) (m : Nat) (h : ∀ j, (f j).length ≤ m) : ∀ k, (upK f k).length ≤ m * k
  | 0 => Nat.zero_le _
  | k + 1 => by
    have := upK_len f m h k
    have := h k
    simp only [upK, List.length_append]
    rw [Nat.mul_succ]; omega
theorem colK_len (k : Nat) : (colK k).length ≤ 4 := by
  unfold colK
  split <;> (simp only [List.length_append, List.length_cons, List.length_nil]; decide)
theorem chK_len (k : Nat) : (chK k).length ≤ 5 := by
  unfold chK
  split <;> (simp only [List.length_append, List.length_cons, List.length_nil]; decide)
theorem brK_len (k : Nat) : (brK k).length ≤ 2 := by
  unfold brK
  split <;> (simp only [List.length_append, List.length_cons, List.length_nil]; decide)
theorem othK_len (k : Nat) : (othK k).length ≤ 1 := by unfold othK; simp only [List.length_cons, List.length_nil]; decide
theorem pgC_lt (j : Nat) : (pgC j : Int) < 256 := by
  have h : pgC j < 256 := gB_lt 8 _ j
  omega
theorem pgH_lt (j : Nat) : (pgH j : Int) < 256 := by
  have h : pgH j < 256 := gB_lt 8 _ j
  omega
theorem pgO_lt (j : Nat) : (pgO j : Int) < 256 := by
  have h : pgO j < 256 := gB_lt 8 _ j
  omega
/-- The slice v is a list of the call's own, and reads as l. -/
def Lst (w : World) (base : Nat) (v : Value) (l : List K5) : Prop := w.ownsRow base 76 5 v l.length (kC l)
theorem Lst.nil_ (w : World) (base : Nat) : Lst w base (.slice none 0 0) [] := World.ownsRow_nil w base _ 5
theorem Lst.alloc {w : World} {base : Nat} {v : Value} {l : List K5} (h : Lst w base v l) (o : Obj) : Lst (w.alloc o) base v l := World.ownsRow.alloc h o
theorem Lst.drew {w : World} {base : Nat} {v : Value} {l : List K5} (h : Lst w base v l) : Lst w.drew base v l := h
theorem Lst.below {w w' : World} {base B : Nat} {v : Value} {l : List K5} (h : Lst w base v l) (hb : Below w.heap.size w w') : Lst w' base v l := by
  obtain ⟨hl, h2⟩ := h
  refine ⟨hl, ?_⟩
  rcases h2 with h2 | ⟨g, cap, cur, rfl, h3, h4, h5⟩
  · exact .inl h2
  · refine .inr ⟨g, cap, cur, rfl, h3, (hb.block g ?_).trans h4, h5⟩
    exact Blk.lt (t := _) (cs := cur) (fr := (0, 0)) h4
theorem add_l (w : World) (base : Nat) (v : Value) (l : List K5) (h : Lst w base v l) (hb : base ≤ w.heap.size) (hn : l.length ≤ 1000) (x : K5) (p c o m r : Int)
    (hx : k5C x = [.int .i64 p, .int .i64 c, .int .i64 o, .int .i64 m, .int .i64 r]) :
    Calls Tryz.prog 54 #[v, .int .i64 p, .int .i64 c, .int .i64 o, .int .i64 m, .int .i64 r] w fun e w' => ∃ v', e = .returned v' ∧ Lst w' base v' (l ++ [x]) ∧ Below base w w' ∧ Apart w w' v v' :=
  (add_any w base v l.length (kC l) h hb hn p c o m r).mono fun e w' ⟨v', h1, h2, h3, h4⟩ => ⟨v', h1, by
    unfold Lst
    rw [List.length_append, kC_snoc, hx]
    exact h2, h3, h4⟩
end Go.Proofs.YtljhfalgplihhaaGreatDoor
