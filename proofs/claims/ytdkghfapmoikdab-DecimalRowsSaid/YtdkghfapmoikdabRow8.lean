/- A row of bytes of the call's own, made whole and then written cell by cell; numbers of many bytes, reckoned from the last byte on. -/
import Derived.Test.YtdkghfapmoikdabTake
import Derived.Test.YtdkghfapmoikdabOwn
import Derived.Deep.RegionHeld3
import Derived.Outline
namespace Go.Proofs.Ytdkghfapmoikdab
open Go.ChangeShapes Go.WideShapes Go.ChangeAt Go.RowKit
set_option linter.unusedVariables false

def cells8 (zs : List Int) : Array Value := (zs.map (Value.int .u8)).toArray
theorem cells8_get (zs : List Int) (i : Nat) (h : i < zs.length) : (cells8 zs)[i]? = some (.int .u8 (iat zs i)) := by
  unfold cells8
  rw [List.getElem?_toArray, List.getElem?_map, List.getElem?_eq_getElem h, iat_eq _ _ h]; rfl
theorem cells8_set (zs : List Int) (i : Nat) (x : Int) : (cells8 zs).setIfInBounds i (.int .u8 x) = cells8 (zs.set i x) := by
  unfold cells8
  rw [List.setIfInBounds_toArray, List.map_set]
theorem infoRow8 : (Try.prog.info? 5).map (fun i => (i.zero, i.size, i.bytes)) = some (some (.int .u8 0), 1, 1) := by kernel_rfl
theorem made8 (n : Nat) : madeCells (Value.int .u8 0).cells n = cells8 (List.replicate n 0) := by
  apply Array.ext
  · rw [size_madeCells]; simp [cells8]
  · intro i h1 h2
    simp [madeCells, cells8, Value.cells]
    rw [show i % 1 = 0 from Nat.mod_one i]
    rfl
theorem make_row8 (w : World) (n : Nat) (hn : n ≤ 1099511627776) :
    (Instr.makeSlice 29 (.int .i64 (n : Int)) (.int .i64 (n : Int))).run Try.prog w = .ok (.slice (some ⟨w.heap.size, 0, none⟩) n n) (w.alloc (.cells (cells8 (List.replicate n 0)) 5)) := by
  obtain ⟨i0, hi, hz0, hz1, hz2⟩ := info_parts infoRow8
  have hr := run_make (P := Try.prog) w 29 5 i0 (.int .u8 0) Try.underlying29 hi hz0 .i64 .i64 n n (by omega) (by omega) (by rw [hz2]; omega) (by omega)
  simp only [Int.toNat_natCast] at hr
  rw [hz1, Nat.mul_one, made8] at hr
  exact hr
/-- Block g holds just these bytes. -/
def Row8 (w : World) (g : Nat) (zs : List Int) : Prop := Blk w g 5 (cells8 zs)
section
variable {w w' : World} {g : Nat} {zs : List Int}
theorem Row8.cell (h : Row8 w g zs) (i : Nat) (hi : i < zs.length) : w.cell? ⟨g, i, none⟩ = some (.int .u8 (iat zs i)) := (Blk.cell h i).trans (cells8_get zs i hi)
theorem Row8.frozen (h : Row8 w g zs) (i : Nat) : w.frozen? ⟨g, i, none⟩ = false := Blk.frozen h i
theorem Row8.set_ (h : Row8 w g zs) (i : Nat) (x : Int) : Row8 (w.setCell ⟨g, i, none⟩ (.int .u8 x)) g (zs.set i x) := by
  have := Blk.set_ h i (.int .u8 x)
  rw [cells8_set] at this
  exact this
theorem Row8.below {B : Nat} (h : Row8 w g zs) (hb : Below B w w') (hg : g < B) : Row8 w' g zs := Blk.below h hb hg
theorem Row8.drew (h : Row8 w g zs) : Row8 w.drew g zs := h
theorem Row8.lt (h : Row8 w g zs) : g < w.heap.size := Blk.lt h
theorem Row8.ints (h : Row8 w g zs) (hwf : ∀ z ∈ zs, (Lit.int .u8 z).wf = true) (n : Nat) (hn : zs.length = n) : Ints .u8 w w.heap.size (some ⟨g, 0, none⟩) n zs :=
  ⟨hn, hwf, fun h0 => ⟨g, 0, rfl, h.lt, fun i hi => by rw [Nat.zero_add]; exact h.cell i (by omega)⟩⟩
end
/-- Numbers of n bytes, the last first: what is carried, the codes, the byte, behind m steps. -/
def chCC (K : Int → Int → Int → Int → Int) (xs ys : List Int) (n : Nat) (cc : Int) : Nat → Int
  | 0 => cc
  | m + 1 => K (chCC K xs ys n cc m) (iat xs (n - 1 - m)) (iat ys (n - 1 - m)) (if m = 0 then 0 else chCC K xs ys n cc m % 2)
def car (K : Int → Int → Int → Int → Int) (xs ys : List Int) (n : Nat) (cc : Int) (m : Nat) : Int := if m = 0 then 0 else chCC K xs ys n cc m % 2
def dig (K : Int → Int → Int → Int → Int) (D : Int → Int → Int → Int) (xs ys : List Int) (n : Nat) (cc : Int) (m : Nat) : Int :=
  D (iat xs (n - 1 - m)) (iat ys (n - 1 - m)) (car K xs ys n cc m)
def outL (f : Nat → Int) (n m : Nat) : List Int := (List.range n).map fun j => if n - m ≤ j then f (n - 1 - j) else 0
theorem outL_len (f : Nat → Int) (n m : Nat) : (outL f n m).length = n := by simp [outL]
theorem outL_zero (f : Nat → Int) (n : Nat) : outL f n 0 = List.replicate n 0 := by
  unfold outL
  apply List.ext_getElem
  · simp
  · intro i h1 h2
    simp at h1 h2
    simp; intro; omega
theorem outL_next (f : Nat → Int) (n m : Nat) (h : m < n) : (outL f n m).set (n - 1 - m) (f m) = outL f n (m + 1) := by
  unfold outL
  apply List.ext_getElem
  · simp
  · intro i h1 h2
    simp at h1 h2
    rw [List.getElem_set]
    simp only [List.getElem_map, List.getElem_range]
    by_cases e : n - 1 - m = i
    · subst e
      rw [if_pos rfl, if_pos (by omega), show n - 1 - (n - 1 - m) = m by omega]
    · rw [if_neg e]
      by_cases e2 : n - m ≤ i
      · rw [if_pos e2, if_pos (by omega)]
      · rw [if_neg e2, if_neg (by omega)]
theorem outL_at (f : Nat → Int) (n j : Nat) (h : j < n) : iat (outL f n n) j = f (n - 1 - j) := by
  rw [iat_eq _ _ (by rw [outL_len]; exact h)]
  simp [outL]
theorem chCC_ok {K : Int → Int → Int → Int → Int} (hK : ∀ cc a b c, CC cc → CC (K cc a b c)) (xs ys : List Int) (n : Nat) (cc : Int) (h : CC cc) : ∀ m, CC (chCC K xs ys n cc m)
  | 0 => h
  | m + 1 => hK _ _ _ _ (chCC_ok hK xs ys n cc h m)
theorem car_range {K : Int → Int → Int → Int → Int} (xs ys : List Int) (n : Nat) (cc : Int) (m : Nat) : 0 ≤ car K xs ys n cc m ∧ car K xs ys n cc m ≤ 1 := by
  unfold car; split <;> omega
theorem chCC_next (K : Int → Int → Int → Int → Int) (xs ys : List Int) (n : Nat) (cc : Int) (m : Nat) : chCC K xs ys n cc (m + 1) = K (chCC K xs ys n cc m) (iat xs (n - 1 - m)) (iat ys (n - 1 - m)) (car K xs ys n cc m) := rfl
theorem car_next (K : Int → Int → Int → Int → Int) (xs ys : List Int) (n : Nat) (cc : Int) (m : Nat) : car K xs ys n cc (m + 1) = chCC K xs ys n cc (m + 1) % 2 := by
  unfold car; rw [if_neg (by omega)]
theorem chCC_down (K : Int → Int → Int → Int → Int) (xs ys : List Int) (n : Nat) (cc : Int) (q : Nat) (h : q < n) :
    chCC K xs ys n cc (n - q) = K (chCC K xs ys n cc (n - (q + 1))) (iat xs q) (iat ys q) (car K xs ys n cc (n - (q + 1))) := by
  have e : n - q = n - (q + 1) + 1 := by omega
  have e2 : n - 1 - (n - (q + 1)) = q := by omega
  rw [e, chCC_next, e2]
theorem dig_down (K : Int → Int → Int → Int → Int) (D : Int → Int → Int → Int) (xs ys : List Int) (n : Nat) (cc : Int) (q : Nat) (h : q < n) :
    dig K D xs ys n cc (n - (q + 1)) = D (iat xs q) (iat ys q) (car K xs ys n cc (n - (q + 1))) := by
  have e2 : n - 1 - (n - (q + 1)) = q := by omega
  unfold dig
  rw [e2]
theorem outL_down (f : Nat → Int) (n q : Nat) (h : q < n) (x : Int) (hx : x = f (n - (q + 1))) : (outL f n (n - (q + 1))).set q x = outL f n (n - q) := by
  have e := outL_next f n (n - (q + 1)) (by omega)
  rw [show n - 1 - (n - (q + 1)) = q by omega, show n - (q + 1) + 1 = n - q by omega] at e
  rw [hx, e]
theorem car_zero (K : Int → Int → Int → Int → Int) (xs ys : List Int) (n : Nat) (cc : Int) (m : Nat) (h : m = 0) : car K xs ys n cc m = 0 := by unfold car; rw [if_pos h]
theorem car_pos (K : Int → Int → Int → Int → Int) (xs ys : List Int) (n : Nat) (cc : Int) (m : Nat) (h : 0 < m) : car K xs ys n cc m = chCC K xs ys n cc m % 2 := by unfold car; rw [if_neg (by omega)]
theorem row_step {wr w1 : World} {g n q : Nat} {f : Nat → Int} {x : Int} (hR : Row8 wr g (outL f n (n - (q + 1)))) (hb : Below wr.drew.heap.size wr.drew w1) (hq : q < n) (hx : x = f (n - (q + 1))) :
    Row8 (w1.setCell ⟨g, q, none⟩ (.int .u8 x)) g (outL f n (n - q)) := by
  have h1 : Row8 w1 g (outL f n (n - (q + 1))) := Row8.below (w := wr.drew) hR hb hR.lt
  have h2 := h1.set_ q x
  rw [outL_down f n q hq x hx] at h2
  exact h2
theorem row_put {wr : World} {g n q nq : Nat} {f : Nat → Int} {x : Int} (hR : Row8 wr g (outL f n (n - (q + 1)))) (hq : q < n) (hx : x = f (n - (q + 1))) :
    Row8 ((wr.drewN nq).setCell ⟨g, q, none⟩ (.int .u8 x)) g (outL f n (n - q)) := by
  have h2 := Row8.set_ (w := wr.drewN nq) (g := g) hR q x
  rw [outL_down f n q hq x hx] at h2
  exact h2
theorem below_step {w wr w1 : World} {q : Nat} {v : Value} (h : Below w.heap.size w wr) (hb : Below wr.drew.heap.size wr.drew w1) : Below w.heap.size w (w1.setCell ⟨w.heap.size, q, none⟩ v) :=
  (Below.trans0 (Below.drew0 h) hb).setCell (Nat.le_refl _) v
theorem outL_wfD (f : Nat → Int) (hf : ∀ m, 0 ≤ f m ∧ f m < 256) (n m : Nat) : ∀ z ∈ outL f n m, (Lit.int .u8 z).wf = true := by
  intro z hz
  simp only [outL, List.mem_map] at hz
  obtain ⟨j, _, rfl⟩ := hz
  have h := hf (n - 1 - j)
  split <;> simp [Lit.wf, IntKind.min, IntKind.max, IntKind.signed, IntKind.bits] <;> omega
end Go.Proofs.Ytdkghfapmoikdab
