/- Words for memory, and plain lemmas: a slice of integers that reads as a list; what is kept where the world grows. -/
import Derived.Test.YtlgaedhbgkhmeaaRows
import Derived.WalkKit
import Derived.ProofKit
import Derived.OpenShut
import Derived.ShutString
import Derived.Below
import Derived.Lib.Hide
import Derived.Laws.StructEq
import Derived.Lib.SlBytesConst
import Derived.Laws.OwnMore
import Derived.Deep.Draws
import Derived.Laws.Rows
import Derived.Laws.BytesArg
import Derived.Handy
import Derived.Laws.BitsAllLaws
import Derived.Laws.BitsLemmas
namespace Go.Proofs.Ytlgaedhbgkhmeaa
open Go.ChangeShapes Go.WideShapes Go.ChangeAt Go.RowKit
set_option linter.unusedVariables false

theorem ret_int {k : IntKind} {a b : Int} (h : a = b) : Ending.returned (.int k a) = .returned (.int k b) := by rw [h]
theorem vint {k : IntKind} {a b : Int} (h : a = b) : Value.int k a = .int k b := by rw [h]
theorem ret_bool {a b : Bool} (h : a = b) : Ending.returned (.bool a) = .returned (.bool b) := by rw [h]

/-- An element of a list, by its place; kept closed, so that a walk does not spell it otherwise. -/
def iat (zs : List Int) (k : Nat) : Int := zs.getD k 0
theorem iat_eq (zs : List Int) (k : Nat) (h : k < zs.length) : iat zs k = zs[k] := by simp [iat, List.getD_eq_getElem?_getD, h]
theorem iat_wf {k : IntKind} {zs : List Int} (h : ∀ z ∈ zs, (Lit.int k z).wf = true) (i : Nat) (hi : i < zs.length) : (Lit.int k (iat zs i)).wf = true := by
  rw [iat_eq _ _ hi]; exact h _ (List.getElem_mem hi)
/-- The slice value '.slice A n c' reads, in this world, as the integers zs of one kind; its cells lie below block B. -/
def Ints (k : IntKind) (w : World) (B : Nat) (A : Option Addr) (n : Nat) (zs : List Int) : Prop :=
  zs.length = n ∧ (∀ z ∈ zs, (Lit.int k z).wf = true) ∧
  (0 < n → ∃ b off, A = some ⟨b, off, none⟩ ∧ b < B ∧ ∀ i, i < n → w.cell? ⟨b, off + i, none⟩ = some (.int k (iat zs i)))

theorem Ints.nil_ (k : IntKind) (w : World) (B : Nat) (A : Option Addr) : Ints k w B A 0 [] := ⟨rfl, by simp, fun h => absurd h (by omega)⟩
theorem Ints.keep {k : IntKind} {w w' : World} {B B' n : Nat} {A : Option Addr} {zs : List Int} (h : Ints k w B A n zs) (hB : B ≤ B')
    (hk : ∀ b o, b < B → w'.cell? ⟨b, o, none⟩ = w.cell? ⟨b, o, none⟩) : Ints k w' B' A n zs :=
  ⟨h.1, h.2.1, fun hn => by
    obtain ⟨b, off, e, hb, hc⟩ := h.2.2 hn
    exact ⟨b, off, e, by omega, fun i hi => (hk b _ hb).trans (hc i hi)⟩⟩
theorem Ints.below {k : IntKind} {w w' : World} {B B' n : Nat} {A : Option Addr} {zs : List Int} (h : Ints k w B A n zs) (hB : B ≤ B') (hb : Below B w w') : Ints k w' B' A n zs :=
  h.keep hB fun b o hlt => hb.cell (p := ⟨b, o, none⟩) hlt
theorem Ints.alloc {k : IntKind} {w : World} {B n : Nat} {A : Option Addr} {zs : List Int} (h : Ints k w B A n zs) (hB : B ≤ w.heap.size) (o : Obj) : Ints k (w.alloc o) B A n zs :=
  h.keep (Nat.le_refl _) fun b o' hlt => World.cell?_alloc_lt w o ⟨b, o', none⟩ (by show b < _; omega)
theorem Ints.wf {k : IntKind} {w : World} {B n : Nat} {A : Option Addr} {zs : List Int} (h : Ints k w B A n zs) : ∀ z ∈ zs, (Lit.int k z).wf = true := h.2.1
theorem Ints.new1 {k : IntKind} {w : World} {x : Int} {t : TypeId} {g : Nat} (hg : w.heap.size = g) (hx : (Lit.int k x).wf = true) :
    Ints k (w.alloc (.cells #[.int k x] t)) (g + 1) (some ⟨g, 0, none⟩) 1 [x] := by
  subst hg
  exact ⟨rfl, by simpa using hx, fun _ => ⟨w.heap.size, 0, rfl, by omega, fun i hi => by
    obtain rfl : i = 0 := by omega
    go_simp
    rfl⟩⟩

/-- A slice of integers that came in: nil, or a row of 'cap' cells, of which the first 'len' are its elements. -/
def IsRow (k : IntKind) (w : World) (a : Option Addr) (len cap : Nat) (zs : List Int) : Prop :=
  (a = none ∧ len = 0 ∧ cap = 0 ∧ zs = []) ∨
  ∃ x, a = some x ∧ len ≤ cap ∧ cap ≤ maxLen ∧ zs.length = cap ∧ (∀ i, i < zs.length → w.cell? (x.add i) = some (.int k (zs.getD i 0))) ∧ ∀ n ∈ zs, (Lit.int k n).wf = true
theorem cell_lt {w : World} {b o : Nat} {v : Value} (h : w.cell? ⟨b, o, none⟩ = some v) : b < w.heap.size := by
  rcases Nat.lt_or_ge b w.heap.size with hlt | hge
  · exact hlt
  · simp [World.cell?, Array.getElem?_eq_none hge] at h
theorem Ints.of_row {k : IntKind} {w : World} {a : Option Addr} {len cap : Nat} {zs : List Int} (h : IsRow k w a len cap zs) :
    ∃ xs, Ints k w w.heap.size a len xs ∧ len ≤ maxLen := by
  rcases h with ⟨rfl, rfl, rfl, rfl⟩ | ⟨x, rfl, hl, hm, hz, hcell, hwf⟩
  · exact ⟨[], Ints.nil_ _ _ _ _, Nat.zero_le _⟩
  · refine ⟨zs.take len, ⟨by rw [List.length_take]; omega, fun z h => hwf z (List.mem_of_mem_take h), fun hn => ?_⟩, by omega⟩
    obtain ⟨b, off, spot⟩ := x
    have h0 := hcell 0 (by omega)
    have hspot : spot = none := by simpa [Addr.add] using World.cell?_spot h0
    subst hspot
    have hplain : ∀ i, (⟨b, off, none⟩ : Addr).add i = ⟨b, off + i, none⟩ := fun i => by unfold Addr.add; split <;> simp_all
    refine ⟨b, off, rfl, ?_, fun i hi => ?_⟩
    · rw [hplain] at h0; exact cell_lt h0
    · have hc := hcell i (by omega)
      rw [hplain] at hc
      rw [hc]
      simp [iat, List.getD_eq_getElem?_getD, hi]

theorem foldl_take {β : Type} (f : β → Int → β) (xs : List Int) (a : β) (k : Nat) (h : k < xs.length) :
    (xs.take (k + 1)).foldl f a = f ((xs.take k).foldl f a) (iat xs k) := by
  rw [List.take_succ_eq_append_getElem h, List.foldl_append, iat_eq _ _ h]
  rfl
theorem strOf_append (xs ys : List Int) : strOfNums xs ++ strOfNums ys = strOfNums (xs ++ ys) := by
  unfold strOfNums
  rw [List.map_append]
  apply ByteArray.ext
  simp
/-- A string's bytes as numbers. -/
def nums (s : ByteArray) : List Int := s.data.toList.map fun b => (b.toNat : Int)
theorem nums_len (s : ByteArray) : (nums s).length = s.size := by unfold nums; rw [List.length_map, Array.length_toList]; rfl
theorem get_nums (s : ByteArray) : ∀ (n : Nat) (h : n < s.size), ((s[n]'h).toNat : Int) = iat (nums s) n := fun n h => by
  rw [iat_eq _ _ (by rw [nums_len]; exact h)]
  simp [nums]
  rfl
theorem nums_str (s : ByteArray) : strOfNums (nums s) = s := by
  apply ByteArray.ext
  have e : ((fun n : Int => UInt8.ofNat n.toNat) ∘ fun b : UInt8 => (b.toNat : Int)) = id := by
    funext b
    simp only [Function.comp_apply, Int.toNat_natCast, id]
    exact UInt8.ofNat_toNat
  simp only [strOfNums, nums, List.map_map, e, List.map_id]
theorem str_nums (xs : List Int) (h : ∀ x ∈ xs, 0 ≤ x ∧ x < 256) : nums (strOfNums xs) = xs := by
  simp only [nums, strOfNums, List.map_map]
  conv => rhs; rw [← List.map_id xs]
  apply List.map_congr_left
  intro x hx
  have := h x hx
  simp [Nat.mod_eq_of_lt (show x.toNat < 256 by omega)]
  omega
theorem nums_range (s : ByteArray) : ∀ x ∈ nums s, 0 ≤ x ∧ x < 256 := by
  intro x hx
  simp only [nums, List.mem_map] at hx
  obtain ⟨b, _, rfl⟩ := hx
  have := b.toNat_lt
  omega
theorem iat_nums_range (s : ByteArray) (k : Nat) : 0 ≤ iat (nums s) k ∧ iat (nums s) k < 256 := by
  by_cases h : k < (nums s).length
  · rw [iat_eq _ _ h]; exact nums_range s _ (List.getElem_mem h)
  · simp [iat, List.getD_eq_getElem?_getD, List.getElem?_eq_none (show (nums s).length ≤ k by omega)]
theorem toList_same (s : ByteArray) : (s.toList == s.toList) = true := by simp
theorem toList_beq (xs : List Int) (s : ByteArray) (h : ∀ x ∈ xs, 0 ≤ x ∧ x < 256) : ((strOfNums xs).toList == s.toList) = (xs == nums s) := by
  rw [Bool.eq_iff_iff, beq_iff_eq, beq_iff_eq, ByteArray.toList_eq, ByteArray.toList_eq]
  constructor
  · intro e
    rw [← str_nums xs h]
    unfold nums
    rw [e]
  · rintro rfl
    rw [nums_str]
/-- Block g is just the cells cs of element type t; its frozen marks are fr. -/
def Blk (w : World) (g : Nat) (t : TypeId) (cs : Array Value) (fr : Nat × Nat := (0, 0)) : Prop := w.heap[g]? = some (.cells cs t fr)
section
variable {w w' : World} {g : Nat} {t : TypeId} {cs : Array Value} {fr : Nat × Nat}
theorem Blk.lt (h : Blk w g t cs fr) : g < w.heap.size := by
  rcases Nat.lt_or_ge g w.heap.size with hlt | hge
  · exact hlt
  · unfold Blk at h; rw [Array.getElem?_eq_none hge] at h; cases h
theorem Blk.cell (h : Blk w g t cs fr) (i : Nat) : w.cell? ⟨g, i, none⟩ = cs[i]? := cell_of_row w g i cs t fr h
theorem Blk.frozen (h : Blk w g t cs) (i : Nat) : w.frozen? ⟨g, i, none⟩ = false := by
  unfold Blk at h
  simp [World.frozen?, h]
theorem Blk.frozen' (h : Blk w g t cs fr) (i : Nat) (hi : i < fr.1) : w.frozen? ⟨g, i, none⟩ = false := by
  unfold Blk at h
  simp [World.frozen?, h]; omega
theorem Blk.new (w : World) (t : TypeId) (cs : Array Value) (fr : Nat × Nat) : Blk (w.alloc (.cells cs t fr)) w.heap.size t cs fr := heap_alloc_new w _
theorem Blk.drew (h : Blk w g t cs fr) : Blk w.drew g t cs fr := h
theorem Blk.drewN (h : Blk w g t cs fr) (n : Nat) : Blk (w.drewN n) g t cs fr := h
theorem Blk.alloc (h : Blk w g t cs fr) (o : Obj) : Blk (w.alloc o) g t cs fr := (Below.heap_alloc w o g h.lt).trans h
theorem Blk.set_ (h : Blk w g t cs fr) (i : Nat) (u : Value) : Blk (w.setCell ⟨g, i, none⟩ u) g t (cs.setIfInBounds i u) fr := by
  unfold Blk at h ⊢
  simp [World.setCell, Array.getElem?_modify, h]
theorem Blk.far (h : Blk w g t cs fr) {p : Addr} (hp : g ≠ p.block) (u : Value) : Blk (w.setCell p u) g t cs fr := (Below.heap_setCell w p u g hp).trans h
theorem Blk.below {B : Nat} (h : Blk w g t cs fr) (hb : Below B w w') (hg : g < B) : Blk w' g t cs fr := (hb.block g hg).trans h
theorem Blk.grown {row : Option Nat} (h : Blk w g t cs fr) (hb : w.grownBy w' row) (hg : some g ≠ row) : Blk w' g t cs fr := (hb.block g h.lt hg).trans h
end
theorem Below.alloc0 {w w1 : World} (h : Below w.heap.size w w1) (o : Obj) : Below w.heap.size w (w1.alloc o) := h.alloc h.size o
theorem Below.drew0 {w w1 : World} (h : Below w.heap.size w w1) : Below w.heap.size w w1.drew := ⟨h.os, h.tape, h.output, h.size, h.block⟩
theorem Below.drewN0 {w w1 : World} (h : Below w.heap.size w w1) (n : Nat) : Below w.heap.size w (w1.drewN n) := ⟨h.os, h.tape, h.output, h.size, h.block⟩
theorem Below.trans0 {w w1 w2 : World} (h : Below w.heap.size w w1) (h2 : Below w1.heap.size w1 w2) : Below w.heap.size w w2 := h.trans (h2.mono h.size)
end Go.Proofs.Ytlgaedhbgkhmeaa
