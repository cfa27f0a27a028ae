/- Memory of package ram: a block of 256 pointers to pages, each page a block of its own, told as a function from addresses to bytes. -/
import Derived.Test.YtnhafficnomlbaaByt
import Derived.Test.YtnhafficnomlbaaOct
import Derived.Test.YtnhafficnomlbaaStc
import Derived.Deep.QuietTactic
import Derived.Deep.RegionHeld3
import Derived.BigQuiet
import Derived.IntWalk
import Derived.Deep.DeepCutAuto
namespace Go.Proofs.Ytnhafficnomlbaa
open Go.ChangeShapes Go.WideShapes Go.ChangeAt Go.RowKit
set_option linter.unusedVariables false

/-- The cells of page i. -/
def pgCs (f : Nat → Int) (i : Nat) : Array Value := ((List.range 256).map fun k => Value.int .u8 (f (256 * i + k))).toArray
def ptrTo (g : Option Nat) : Value := .pointer (g.map fun g => ⟨g, 0, none⟩)
/-- The cells of memory: where each page lies, and from where on nothing is written. -/
def raCs (p : Nat → Option Nat) (rom : Int) : Array Value := ((List.range 256).map (fun i => ptrTo (p i)) ++ [Value.int .i64 rom]).toArray
/-- Block m is memory, its pages are p, its bytes f. -/
structure Ra (w : World) (m : Nat) (p : Nat → Option Nat) (rom : Int) (f : Nat → Int) : Prop where
  blk : Blk w m 71 (raCs p rom)
  empty : ∀ i, i < 256 → p i = none → ∀ k, k < 256 → f (256 * i + k) = 0
  page : ∀ i g, i < 256 → p i = some g → g ≠ m ∧ Blk w g 73 (pgCs f i)
  inj : ∀ i j g, i < 256 → j < 256 → p i = some g → p j = some g → i = j
  byt : ∀ a, 0 ≤ f a ∧ f a < 256
/-- The blocks of memory. -/
def RS (m : Nat) (p : Nat → Option Nat) (b : Nat) : Prop := b = m ∨ ∃ i, i < 256 ∧ p i = some b
/-- A step of memory: every other block stands. -/
structure Rst (w w' : World) (m : Nat) (p p' : Nat → Option Nat) : Prop where
  os : w'.os = w.os
  tape : w'.tape = w.tape
  output : w'.output = w.output
  size : w.heap.size ≤ w'.heap.size
  block : ∀ b, b < w.heap.size → ¬ RS m p b → w'.heap[b]? = w.heap[b]?
  own : ∀ b, RS m p' b → RS m p b ∨ w.heap.size ≤ b
theorem Rst.refl (w : World) (m : Nat) (p : Nat → Option Nat) : Rst w w m p p := ⟨rfl, rfl, rfl, Nat.le_refl _, fun _ _ _ => rfl, fun _ h => .inl h⟩
theorem Rst.trans {w1 w2 w3 : World} {m : Nat} {p1 p2 p3 : Nat → Option Nat} (h : Rst w1 w2 m p1 p2) (h' : Rst w2 w3 m p2 p3) : Rst w1 w3 m p1 p3 := by
  refine ⟨h'.os.trans h.os, h'.tape.trans h.tape, h'.output.trans h.output, Nat.le_trans h.size h'.size, fun b hb hn => ?_, fun b hb => ?_⟩
  · refine (h'.block b (Nat.lt_of_lt_of_le hb h.size) (fun e => ?_)).trans (h.block b hb hn)
    rcases h.own b e with e | e
    · exact hn e
    · omega
  · rcases h'.own b hb with e | e
    · exact h.own b e
    · exact .inr (Nat.le_trans h.size e)
theorem Rst.drewN (w : World) (m : Nat) (p : Nat → Option Nat) (n : Nat) : Rst w (w.drewN n) m p p := ⟨rfl, rfl, rfl, Nat.le_refl _, fun _ _ _ => rfl, fun _ h => .inl h⟩
theorem Rst.of_below {w w' : World} (h : Below w.heap.size w w') (m : Nat) (p : Nat → Option Nat) : Rst w w' m p p := ⟨h.os, h.tape, h.output, h.size, fun b hb _ => h.block b hb, fun _ h => .inl h⟩
theorem Rst.below {w w' : World} {m base : Nat} {p p' : Nat → Option Nat} (h : Rst w w' m p p') (hb : base ≤ w.heap.size) (hr : ∀ b, RS m p b → base ≤ b) : Below base w w' :=
  ⟨h.os, h.tape, h.output, h.size, fun k hk => h.block k (by omega) (fun e => by have := hr k e; omega)⟩
section
variable {w w' : World} {m : Nat} {p p' : Nat → Option Nat} {rom : Int} {f : Nat → Int}
theorem pgCs_at (f : Nat → Int) (i k : Nat) (h : k < 256) : (pgCs f i)[k]? = some (.int .u8 (f (256 * i + k))) := by
  unfold pgCs
  rw [List.getElem?_toArray, List.getElem?_map, List.getElem?_range h]; rfl
theorem raCs_at (p : Nat → Option Nat) (rom : Int) (i : Nat) (h : i < 256) : (raCs p rom)[i]? = some (ptrTo (p i)) := by
  unfold raCs
  rw [List.getElem?_toArray, List.getElem?_append_left (by simpa using h), List.getElem?_map, List.getElem?_range h]; rfl
theorem raCs_rom (p : Nat → Option Nat) (rom : Int) : (raCs p rom)[256]? = some (.int .i64 rom) := by
  unfold raCs
  rw [List.getElem?_toArray, List.getElem?_append_right (by simp)]; simp
theorem Ra.lt (h : Ra w m p rom f) : m < w.heap.size := h.blk.lt
theorem Ra.ptr (h : Ra w m p rom f) (i : Nat) (hi : i < 256) : w.cell? ⟨m, i, none⟩ = some (ptrTo (p i)) := by rw [h.blk.cell, raCs_at p rom i hi]
theorem Ra.rom_ (h : Ra w m p rom f) : w.cell? ⟨m, 256, none⟩ = some (.int .i64 rom) := by rw [h.blk.cell, raCs_rom]
theorem Ra.byte (h : Ra w m p rom f) {i g : Nat} (hi : i < 256) (hp : p i = some g) (k : Nat) (hk : k < 256) : w.cell? ⟨g, k, none⟩ = some (.int .u8 (f (256 * i + k))) := by
  rw [(h.page i g hi hp).2.cell, pgCs_at f i k hk]
/-- Where the blocks of memory stand as they were. -/
theorem Ra.keep (h : Ra w m p rom f) (hk : ∀ b, RS m p b → w'.heap[b]? = w.heap[b]?) : Ra w' m p rom f :=
  ⟨(hk m (.inl rfl)).trans h.blk, h.empty, fun i g hi hg => ⟨(h.page i g hi hg).1, (hk g (.inr ⟨i, hi, hg⟩)).trans (h.page i g hi hg).2⟩, h.inj, h.byt⟩
theorem Ra.own_lt (h : Ra w m p rom f) (b : Nat) (hb : RS m p b) : b < w.heap.size := by
  rcases hb with rfl | ⟨i, hi, e⟩
  · exact h.blk.lt
  · exact (h.page i b hi e).2.lt
theorem Ra.drewN (h : Ra w m p rom f) (n : Nat) : Ra (w.drewN n) m p rom f := h.keep fun _ _ => rfl
theorem Ra.drew (h : Ra w m p rom f) : Ra w.drew m p rom f := h.keep fun _ _ => rfl
theorem Ra.alloc (h : Ra w m p rom f) (o : Obj) : Ra (w.alloc o) m p rom f := h.keep fun b hb => Below.heap_alloc w o b (h.own_lt b hb)
theorem Ra.below (h : Ra w m p rom f) (hb : Below w.heap.size w w') : Ra w' m p rom f := h.keep fun b hb' => hb.block b (h.own_lt b hb')
theorem Ra.grown {row : Option Nat} (h : Ra w m p rom f) (hb : w.grownBy w' row) (hn : ∀ b, RS m p b → some b ≠ row) : Ra w' m p rom f := h.keep fun b hb' => hb.block b (h.own_lt b hb') (hn b hb')
end
theorem raRom_any (m : Nat) (p : Nat → Option Nat) (rom : Int) (f : Nat → Int) (w : World) (h : Ra w m p rom f) :
    Calls Try.prog 46 #[.pointer (some ⟨m, 0, none⟩)] w fun e w' => e = .returned (.int .i64 rom) ∧ w = w' := by
  have c0 := h.rom_
  clear h
  go_enter Try.func46, Try.ntmps46
  go_wp2
  go_ret
  exact ⟨rfl, rfl⟩
theorem drewN_two (w : World) (a b : Nat) : (w.drewN a).drewN b = w.drewN (a + b) := by simp [World.drewN, Nat.add_assoc]
theorem raRead_any (m : Nat) (p : Nat → Option Nat) (rom : Int) (f : Nat → Int) (a : Nat) (w : World) (h : Ra w m p rom f) (ha : a < 65536) :
    Calls Try.prog 42 #[.pointer (some ⟨m, 0, none⟩), .int .u16 (a : Int)] w fun e w' => e = .returned (.int .u8 (f a)) ∧ ∃ k, w' = w.drewN k := by
  obtain ⟨i, hi⟩ : ∃ i, a / 256 = i := ⟨_, rfl⟩
  obtain ⟨k, hk⟩ : ∃ k, a % 256 = k := ⟨_, rfl⟩
  have i256 : i < 256 := by omega
  have k256 : k < 256 := by omega
  have hik : 256 * i + k = a := by omega
  have HH := Lib.hid (fun u => high_any (a : Int) u (by omega) (by omega))
  have HL := Lib.hid (fun u => low_any (a : Int) u (by omega) (by omega))
  rw [show (a : Int) / 256 = (i : Int) by omega] at HH
  rw [show (a : Int) % 256 = (k : Int) by omega] at HL
  have i0 : (0 : Int) ≤ (i : Int) := by omega
  have i1 : (i : Int) < 256 := by omega
  have k0 : (0 : Int) ≤ (k : Int) := by omega
  have k1 : (k : Int) < 256 := by omega
  have c0 := h.ptr i i256
  cases hp : p i with
  | none =>
    have hz := h.empty i i256 hp k k256
    rw [hik] at hz
    rw [hp] at c0
    simp only [ptrTo, Option.map_none] at c0
    have HZ := Lib.hid hz
    rw [HZ.out]
    clear h hp hz hik hi hk
    go_enter Try.func42, Try.ntmps42
    go_wp2
    go_quiet ((go_at_call 43; exact Calls.quiet_of ((HH.out _).mono (fun e w' h => ⟨h.1, 0, h.2.symm⟩))))
    go_wp2
    go_ret
    exact ⟨rfl, by first | exact ⟨_, rfl⟩ | exact ⟨_, drewN_two _ _ _⟩ | exact ⟨0, rfl⟩⟩
  | some g =>
    have c1 := h.byte i256 hp k k256
    rw [hik] at c1
    rw [hp] at c0
    simp only [ptrTo, Option.map_some] at c0
    generalize f a = F at *
    clear h hp hik hi hk
    go_enter Try.func42, Try.ntmps42
    go_wp2
    go_quiet ((go_at_call 43; exact Calls.quiet_of ((HH.out _).mono (fun e w' h => ⟨h.1, 0, h.2.symm⟩))))
    go_wp2
    go_quiet ((go_at_call 44; exact (HL.out _).mono (fun e w' h => ⟨h.1, _, h.2.symm⟩)))
    go_wp2
    go_ret
    exact ⟨rfl, by first | exact ⟨_, rfl⟩ | exact ⟨_, drewN_two _ _ _⟩ | exact ⟨0, rfl⟩⟩
def upd (f : Nat → Int) (a : Nat) (b : Int) : Nat → Int := fun x => if x = a then b else f x
def updP (p : Nat → Option Nat) (i g : Nat) : Nat → Option Nat := fun j => if j = i then some g else p j
theorem pgCs_same (f : Nat → Int) (i k : Nat) (b : Int) (hk : k < 256) : (pgCs f i).setIfInBounds k (.int .u8 b) = pgCs (upd f (256 * i + k) b) i := by
  unfold pgCs
  rw [List.setIfInBounds_toArray]
  congr 1
  apply List.ext_getElem (by simp)
  intro n h1 h2
  rw [List.getElem_set]
  simp only [List.getElem_map, List.getElem_range, upd]
  by_cases e : k = n
  · subst e; simp
  · rw [if_neg e, if_neg (by omega)]
theorem pgCs_other (f : Nat → Int) (i j k : Nat) (b : Int) (hk : k < 256) (h : j ≠ i) : pgCs (upd f (256 * i + k) b) j = pgCs f j := by
  unfold pgCs
  congr 1
  apply List.map_congr_left
  intro n hn
  rw [List.mem_range] at hn
  simp only [upd]
  rw [if_neg (by omega)]
theorem Ra.setByte {w : World} {m : Nat} {p : Nat → Option Nat} {rom : Int} {f : Nat → Int} (h : Ra w m p rom f) {i g : Nat} (hi : i < 256) (hp : p i = some g) (k : Nat) (hk : k < 256) (b : Int) (hb : 0 ≤ b ∧ b < 256) :
    Ra (w.setCell ⟨g, k, none⟩ (.int .u8 b)) m p rom (upd f (256 * i + k) b) ∧ Rst w (w.setCell ⟨g, k, none⟩ (.int .u8 b)) m p p := by
  obtain ⟨hgm, hbl⟩ := h.page i g hi hp
  refine ⟨⟨h.blk.far (Ne.symm hgm) _, fun j hj hn k' hk' => ?_, fun j g' hj hg' => ?_, h.inj, fun x => ?_⟩, ⟨rfl, rfl, rfl, by simp, fun b' hb' hn => ?_, fun _ h => .inl h⟩⟩
  · have hji : j ≠ i := fun e => by subst e; rw [hp] at hn; cases hn
    simp only [upd]
    rw [if_neg (by omega)]
    exact h.empty j hj hn k' hk'
  · by_cases e : j = i
    · subst e
      rw [hp] at hg'
      obtain rfl := Option.some.inj hg'
      refine ⟨hgm, ?_⟩
      rw [← pgCs_same f j k b hk]
      exact hbl.set_ k _
    · obtain ⟨a1, a2⟩ := h.page j g' hj hg'
      refine ⟨a1, ?_⟩
      rw [pgCs_other f i j k b hk e]
      exact a2.far (fun e2 => e (h.inj j i g' hj hi hg' (by rw [hp]; exact congrArg some e2.symm))) _
  · simp only [upd]
    split
    · exact hb
    · exact h.byt x
  · exact heap_setCell_other w _ b' _ (fun e => hn (.inr ⟨i, hi, by rw [hp, e]⟩))
theorem updP_here (p : Nat → Option Nat) (i g : Nat) : updP p i g i = some g := by simp [updP]
theorem updP_else (p : Nat → Option Nat) (i g j : Nat) (h : j ≠ i) : updP p i g j = p j := by simp [updP, h]
theorem raCs_set (p : Nat → Option Nat) (rom : Int) (i g : Nat) (hi : i < 256) : (raCs p rom).setIfInBounds i (.pointer (some ⟨g, 0, none⟩)) = raCs (updP p i g) rom := by
  unfold raCs
  rw [List.setIfInBounds_toArray, List.set_append_left _ _ (by simpa using hi)]
  congr 2
  apply List.ext_getElem (by simp)
  intro n h1 h2
  rw [List.getElem_set]
  simp only [List.getElem_map, List.getElem_range, updP]
  by_cases e : i = n
  · subst e; simp [ptrTo]
  · rw [if_neg e, if_neg (fun e2 => e e2.symm)]
theorem Ra.newPage {w : World} {m : Nat} {p : Nat → Option Nat} {rom : Int} {f : Nat → Int} (h : Ra w m p rom f) {i g : Nat} (hi : i < 256) (hp : p i = none) (hg : ¬ RS m p g) (hB : Blk w g 73 (pgCs f i)) :
    Ra (w.setCell ⟨m, i, none⟩ (.pointer (some ⟨g, 0, none⟩))) m (updP p i g) rom f := by
  have hgm : g ≠ m := fun e => hg (.inl e)
  refine ⟨?_, fun j hj hn k hk => ?_, fun j g' hj hg' => ?_, fun j j' g' hj hj' e e' => ?_, h.byt⟩
  · rw [← raCs_set p rom i g hi]; exact h.blk.set_ i _
  · by_cases e : j = i
    · subst e; rw [updP_here] at hn; cases hn
    · rw [updP_else p i g j e] at hn; exact h.empty j hj hn k hk
  · by_cases e : j = i
    · subst e
      rw [updP_here] at hg'
      obtain rfl := Option.some.inj hg'
      exact ⟨hgm, hB.far hgm _⟩
    · rw [updP_else p i g j e] at hg'
      obtain ⟨a1, a2⟩ := h.page j g' hj hg'
      exact ⟨a1, a2.far a1 _⟩
  · by_cases h1 : j = i
    · by_cases h2 : j' = i
      · rw [h1, h2]
      · rw [updP_else p i g j' h2] at e'
        rw [h1, updP_here] at e
        obtain rfl := Option.some.inj e
        exact absurd (.inr ⟨j', hj', e'⟩) hg
    · by_cases h2 : j' = i
      · rw [updP_else p i g j h1] at e
        rw [h2, updP_here] at e'
        obtain rfl := Option.some.inj e'
        exact absurd (.inr ⟨j, hj, e⟩) hg
      · rw [updP_else p i g j h1] at e
        rw [updP_else p i g j' h2] at e'
        exact h.inj j j' g' hj hj' e e'
/-- The cells of a page made anew. -/
theorem pgCs_zero (f : Nat → Int) (i : Nat) (h : ∀ k, k < 256 → f (256 * i + k) = 0) : pgCs f i = Array.replicate 256 (.int .u8 0) := by
  unfold pgCs
  apply Array.ext'
  rw [Array.toList_replicate]
  rw [List.toList_toArray]
  apply List.ext_getElem (by rw [List.length_map, List.length_range, List.length_replicate])
  intro n h1 h2
  simp only [List.getElem_map, List.getElem_range, List.getElem_replicate]
  rw [List.length_map, List.length_range] at h1
  rw [h n h1]
theorem Ra.putPage {w W0 : World} {m : Nat} {p : Nat → Option Nat} {rom : Int} {f : Nat → Int} {i g : Nat} (h : Ra W0 m p rom f ∧ Blk W0 g 73 (pgCs f i) ∧ Rst w W0 m p p ∧ ¬ RS m p g) (hi : i < 256) (hp : p i = none) (hg : w.heap.size ≤ g) :
    Ra (W0.setCell ⟨m, i, none⟩ (.pointer (some ⟨g, 0, none⟩))).drew m (updP p i g) rom f ∧ Rst w (W0.setCell ⟨m, i, none⟩ (.pointer (some ⟨g, 0, none⟩))).drew m p (updP p i g) := by
  obtain ⟨h1, h2, h3, h4⟩ := h
  refine ⟨(h1.newPage hi hp h4 h2).drew, ⟨h3.os, h3.tape, h3.output, Nat.le_trans h3.size (by simp [World.drew]), fun b hb hn => ?_, fun b hb => ?_⟩⟩
  · exact (heap_setCell_other W0 _ b _ (fun e => hn (.inl e))).trans (h3.block b hb hn)
  · rcases hb with e | ⟨j, hj, e⟩
    · exact .inl (.inl e)
    · by_cases hji : j = i
      · rw [hji, updP_here] at e
        obtain rfl := Option.some.inj e
        exact .inr hg
      · rw [updP_else p i g j hji] at e
        exact .inl (.inr ⟨j, hj, e⟩)
def PokePost (w : World) (m : Nat) (p : Nat → Option Nat) (rom : Int) (f' : Nat → Int) (e : Ending) (w' : World) : Prop := e = .returned (.tuple #[]) ∧ ∃ p', Ra w' m p' rom f' ∧ Rst w w' m p p'
set_option maxHeartbeats 2000000 in
theorem raPoke_any (m : Nat) (p : Nat → Option Nat) (rom : Int) (f : Nat → Int) (a : Nat) (b : Int) (w : World) (h : Ra w m p rom f) (ha : a < 65536) (hb : 0 ≤ b ∧ b < 256) :
    Calls Try.prog 24 #[.pointer (some ⟨m, 0, none⟩), .int .u16 (a : Int), .int .u8 b] w (PokePost w m p rom (upd f a b)) := by
  obtain ⟨i, hi⟩ : ∃ i, a / 256 = i := ⟨_, rfl⟩
  obtain ⟨k, hk⟩ : ∃ k, a % 256 = k := ⟨_, rfl⟩
  have i256 : i < 256 := by omega
  have k256 : k < 256 := by omega
  have hik : 256 * i + k = a := by omega
  have HH := Lib.hid (fun u => high_any (a : Int) u (by omega) (by omega))
  have HL := Lib.hid (fun u => low_any (a : Int) u (by omega) (by omega))
  rw [show (a : Int) / 256 = (i : Int) by omega] at HH
  rw [show (a : Int) % 256 = (k : Int) by omega] at HL
  have i0 : (0 : Int) ≤ (i : Int) := by omega
  have i1 : (i : Int) < 256 := by omega
  have k0 : (0 : Int) ≤ (k : Int) := by omega
  have k1 : (k : Int) < 256 := by omega
  have c0 := h.ptr i i256
  have HB := Lib.hid hb
  cases hp : p i with
  | some g =>
    rw [hp] at c0
    simp only [ptrTo, Option.map_some] at c0
    have HR := Lib.hid (fun n => (h.drewN n).setByte i256 hp k k256 b HB.out)
    rw [hik] at HR
    have c1 := h.byte i256 hp k k256
    have f1 := ((h.page i g i256 hp).2).frozen k
    rw [hik] at c1
    generalize f a = F at c1
    clear h hp hik hi hk hb
    go_enter Try.func24, Try.ntmps24
    go_wp2
    go_quiet ((go_at_call 43; exact Calls.quiet_of ((HH.out _).mono (fun e w' h => ⟨h.1, 0, h.2.symm⟩))))
    go_wp2
    refine wp_region_noPanic ?_
    refine wp_region_held_drew (S := (fun _ => True)) (by kernel_rfl) ?_ (fun hH0 => ?_)
    · trivial
    refine wpAnyH_take (i := 0) (oi := ({ dst := some 26, op := Op.move (Operand.tmp 6), type := 68, pos := "ram.go:51", after := #[], guard := none } : Oper)) (v := ?_) rfl (by kernel_rfl) (by kernel_rfl) (by kernel_rfl) (fun _ _ _ h => h) (Or.inl ⟨by rfl, ?_⟩) (by assumption) ?_
    rotate_left 1
    · (intro w hSw; (try dsimp only at hSw); go_simp; (try with_reducible rfl))
    (try simp only [Act.put, List.setIfInBounds_toArray, List.set_cons_zero, List.set_cons_succ])
    refine wpAnyH_take (i := 1) (oi := ({ dst := some 27, op := Op.move (Operand.tmp 1), type := 23, pos := "ram.go:51", after := #[], guard := none } : Oper)) (v := ?_) rfl (by kernel_rfl) (by kernel_rfl) (by kernel_rfl) (fun _ _ _ h => h) (Or.inl ⟨by rfl, ?_⟩) (by assumption) ?_
    rotate_left 1
    · (intro w hSw; (try dsimp only at hSw); go_simp; (try with_reducible rfl))
    (try simp only [Act.put, List.setIfInBounds_toArray, List.set_cons_zero, List.set_cons_succ])
    refine wpAnyH_take (i := 3) (oi := ({ dst := some 29, op := Op.move (Operand.tmp 2), type := 5, pos := "ram.go:51", after := #[], guard := none } : Oper)) (v := ?_) rfl (by kernel_rfl) (by kernel_rfl) (by kernel_rfl) (fun _ _ _ h => h) (Or.inl ⟨by rfl, ?_⟩) (by assumption) ?_
    rotate_left 1
    · (intro w hSw; (try dsimp only at hSw); go_simp; (try with_reducible rfl))
    (try simp only [Act.put, List.setIfInBounds_toArray, List.set_cons_zero, List.set_cons_succ])
    refine wpAnyH_take (i := 4) (oi := ({ dst := some 30, op := Op.nilCheck (Operand.tmp 26), type := 0, pos := "ram.go:51", after := #[{ on := 0, ground := Ground.data }], guard := none } : Oper)) (v := ?_) rfl (by kernel_rfl) (by kernel_rfl) (by kernel_rfl) (fun _ _ _ h => h) (Or.inl ⟨by rfl, ?_⟩) (by assumption) ?_
    rotate_left 1
    · (intro w hSw; (try dsimp only at hSw); go_simp; (try with_reducible rfl))
    (try simp only [Act.put, List.setIfInBounds_toArray, List.set_cons_zero, List.set_cons_succ])
    refine wpAnyH_ready (rs := [2]) (by kernel_rfl) (by simp) ?_
    refine AllReadyH.cons (o := ({ dst := some 28, op := Op.call { callee := Callee.value (Operand.func 44), args := #[Operand.tmp 27], argTypes := #[23] }, type := 5, pos := "ram.go:51", after := #[{ on := 1, ground := Ground.data }], guard := none } : Oper)) rfl (fun K hK => ?_) ?_
    rotate_left 1
    · exact AllReadyH.nil
    go_simp
    go_at_call 44
    ((with_reducible refine (HL.out _).mono ?_); rintro e w' ⟨rfl, rfl⟩)
    first | (refine hK.out _ _ ?_ (fun hH1 => ?_)) | (go_wp2_with fail; refine hK.out _ _ ?_ (fun hH1 => ?_))
    · trivial
    clear hK K hH0
    (try simp only [Act.put, List.setIfInBounds_toArray, List.set_cons_zero, List.set_cons_succ])
    refine wpAnyH_take (i := 5) (oi := ({ dst := some 31, op := Op.indexAddr 73 (Operand.tmp 30) (Operand.tmp 28), type := 0, pos := "ram.go:51", after := #[{ on := 4, ground := Ground.data }, { on := 2, ground := Ground.data }, { on := 0, ground := Ground.phase }, { on := 1, ground := Ground.phase }, { on := 2, ground := Ground.phase }, { on := 3, ground := Ground.phase }], guard := none } : Oper)) (v := ?_) rfl (by kernel_rfl) (by kernel_rfl) (by kernel_rfl) (fun _ _ _ h => h) (Or.inl ⟨by rfl, ?_⟩) (by assumption) ?_
    rotate_left 1
    · (intro w hSw; (try dsimp only at hSw); go_simp; (try with_reducible rfl))
    (try simp only [Act.put, List.setIfInBounds_toArray, List.set_cons_zero, List.set_cons_succ])
    refine wpAnyH_ready (rs := [6]) (by kernel_rfl) (by simp) ?_
    refine AllReadyH.cons (o := ({ dst := none, op := Op.store 5 (Operand.tmp 31) (Operand.tmp 29), type := 0, pos := "ram.go:51", after := #[{ on := 5, ground := Ground.data }, { on := 3, ground := Ground.data }, { on := 2, ground := Ground.chain }, { on := 0, ground := Ground.phase }, { on := 1, ground := Ground.phase }, { on := 2, ground := Ground.phase }, { on := 3, ground := Ground.phase }], guard := none } : Oper)) rfl (fun K hK => ?_) ?_
    rotate_left 1
    · exact AllReadyH.nil
    go_simp
    first | (refine hK.out _ _ ?_ (fun hH2 => ?_)) | (go_wp2_with fail; refine hK.out _ _ ?_ (fun hH2 => ?_))
    · trivial
    clear hK K hH1
    (try simp only [Act.put, List.setIfInBounds_toArray, List.set_cons_zero, List.set_cons_succ])
    refine wpAnyH_done (by kernel_rfl) ?_ _
    refine NoPanic.normal ?_
    go_wp2
    exact Great.bodyPost_end0 rfl rfl ⟨rfl, p, (HR.out _).1, (Rst.drewN _ _ _ _).trans (HR.out _).2⟩
  | none =>
    rw [hp] at c0
    simp only [ptrTo, Option.map_none] at c0
    have hz := h.empty i i256 hp
    by_cases hb0 : b = 0
    · subst hb0
      have hu : upd f a 0 = f := by
        funext x
        unfold upd
        split
        · rename_i e
          rw [e, ← hik, hz k k256]
        · rfl
      rw [hu]
      have HR := Lib.hid h
      clear h hp hz hik hi hk hb hu
      go_enter Try.func24, Try.ntmps24
      go_wp2
      go_quiet ((go_at_call 43; exact Calls.quiet_of ((HH.out _).mono (fun e w' h => ⟨h.1, 0, h.2.symm⟩))))
      go_wp2
      exact Great.bodyPost_end0 rfl rfl ⟨rfl, p, HR.out.drewN _, Rst.drewN _ _ _ _⟩
    · have hE : (b == 0) = false := by simpa using hb0
      have f0 := h.blk.frozen i
      have HR := Lib.hid h
      have HP := Lib.hid hp
      have HZ := Lib.hid hz
      have HIK := Lib.hid hik
      clear h hp hz hik hi hk hb hb0
      go_enter Try.func24, Try.ntmps24
      go_wp2
      go_quiet ((go_at_call 43; exact Calls.quiet_of ((HH.out _).mono (fun e w' h => ⟨h.1, 0, h.2.symm⟩))))
      go_upto_region 3 with (fail)
      refine wp_region_lit ?_
      refine Great.wpList_allocTo rfl (some 18) rfl (.pointer (some ⟨w.heap.size, 0, none⟩)) (.cells (Array.replicate 256 (.int .u8 0)) 73) (by kernel_rfl) ?_
      have R0 : Ra ((w.drewN nq).alloc (.cells (Array.replicate 256 (.int .u8 0)) 73)) m p rom f := (HR.out.drewN nq).alloc _
      have B0 : Blk ((w.drewN nq).alloc (.cells (Array.replicate 256 (.int .u8 0)) 73)) w.heap.size 73 (pgCs f i) := by
        rw [pgCs_zero f i HZ.out]
        exact Blk.new (w.drewN nq) 73 _ _
      have T0 : Rst w ((w.drewN nq).alloc (.cells (Array.replicate 256 (.int .u8 0)) 73)) m p p := Rst.of_below (Below.alloc0 (Below.drewN0 (Below.refl _ _) nq) _) m p
      have N0 : ¬ RS m p w.heap.size := fun e => by have := HR.out.own_lt _ e; omega
      have G0 : w.heap.size ≤ w.heap.size := Nat.le_refl _
      obtain ⟨g, hg⟩ : ∃ g, w.heap.size = g := ⟨_, rfl⟩
      rw [hg] at B0 N0 ⊢
      have HG := Lib.hid (show w.heap.size ≤ g by omega)
      generalize ((w.drewN nq).alloc (.cells (Array.replicate 256 (.int .u8 0)) 73)) = W0 at R0 B0 T0 ⊢
      have c0 := R0.ptr i i256
      rw [HP.out] at c0
      simp only [ptrTo, Option.map_none] at c0
      have f0 := R0.blk.frozen i
      have H0 := Lib.hid (And.intro R0 (And.intro B0 (And.intro T0 N0)))
      clear R0 B0 T0 N0 G0 hg
      go_wp2
      refine wp_region_noPanic ?_
      refine wp_region_held_drew (S := (fun _ => True)) (by kernel_rfl) ?_ (fun hH0 => ?_)
      · trivial
      refine wpAnyH_take (i := 0) (oi := ({ dst := some 19, op := Op.move (Operand.tmp 0), type := 43, pos := "ram.go:49", after := #[], guard := none } : Oper)) (v := ?_) rfl (by kernel_rfl) (by kernel_rfl) (by kernel_rfl) (fun _ _ _ h => h) (Or.inl ⟨by rfl, ?_⟩) (by assumption) ?_
      rotate_left 1
      · (intro w hSw; (try dsimp only at hSw); go_simp; (try with_reducible rfl))
      (try simp only [Act.put, List.setIfInBounds_toArray, List.set_cons_zero, List.set_cons_succ])
      refine wpAnyH_take (i := 1) (oi := ({ dst := some 20, op := Op.move (Operand.tmp 1), type := 23, pos := "ram.go:49", after := #[], guard := none } : Oper)) (v := ?_) rfl (by kernel_rfl) (by kernel_rfl) (by kernel_rfl) (fun _ _ _ h => h) (Or.inl ⟨by rfl, ?_⟩) (by assumption) ?_
      rotate_left 1
      · (intro w hSw; (try dsimp only at hSw); go_simp; (try with_reducible rfl))
      (try simp only [Act.put, List.setIfInBounds_toArray, List.set_cons_zero, List.set_cons_succ])
      refine wpAnyH_take (i := 3) (oi := ({ dst := some 22, op := Op.move (Operand.tmp 6), type := 68, pos := "ram.go:49", after := #[], guard := none } : Oper)) (v := ?_) rfl (by kernel_rfl) (by kernel_rfl) (by kernel_rfl) (fun _ _ _ h => h) (Or.inl ⟨by rfl, ?_⟩) (by assumption) ?_
      rotate_left 1
      · (intro w hSw; (try dsimp only at hSw); go_simp; (try with_reducible rfl))
      (try simp only [Act.put, List.setIfInBounds_toArray, List.set_cons_zero, List.set_cons_succ])
      refine wpAnyH_take (i := 4) (oi := ({ dst := some 23, op := Op.nilCheck (Operand.tmp 19), type := 0, pos := "ram.go:49", after := #[{ on := 0, ground := Ground.data }], guard := none } : Oper)) (v := ?_) rfl (by kernel_rfl) (by kernel_rfl) (by kernel_rfl) (fun _ _ _ h => h) (Or.inl ⟨by rfl, ?_⟩) (by assumption) ?_
      rotate_left 1
      · (intro w hSw; (try dsimp only at hSw); go_simp; (try with_reducible rfl))
      (try simp only [Act.put, List.setIfInBounds_toArray, List.set_cons_zero, List.set_cons_succ])
      refine wpAnyH_take (i := 5) (oi := ({ dst := some 24, op := Op.fieldAddr 71 (Operand.tmp 23) 0, type := 0, pos := "ram.go:49", after := #[{ on := 4, ground := Ground.data }], guard := none } : Oper)) (v := ?_) rfl (by kernel_rfl) (by kernel_rfl) (by kernel_rfl) (fun _ _ _ h => h) (Or.inl ⟨by rfl, ?_⟩) (by assumption) ?_
      rotate_left 1
      · (intro w hSw; (try dsimp only at hSw); go_simp; (try with_reducible rfl))
      (try simp only [Act.put, List.setIfInBounds_toArray, List.set_cons_zero, List.set_cons_succ])
      refine wpAnyH_ready (rs := [2]) (by kernel_rfl) (by simp) ?_
      refine AllReadyH.cons (o := ({ dst := some 21, op := Op.call { callee := Callee.value (Operand.func 43), args := #[Operand.tmp 20], argTypes := #[23] }, type := 5, pos := "ram.go:49", after := #[{ on := 1, ground := Ground.data }], guard := none } : Oper)) rfl (fun K hK => ?_) ?_
      rotate_left 1
      · exact AllReadyH.nil
      go_simp
      go_at_call 43
      ((with_reducible refine (HH.out _).mono ?_); rintro e w' ⟨rfl, rfl⟩)
      first | (refine hK.out _ _ ?_ (fun hH1 => ?_)) | (go_wp2_with fail; refine hK.out _ _ ?_ (fun hH1 => ?_))
      · trivial
      clear hK K hH0
      (try simp only [Act.put, List.setIfInBounds_toArray, List.set_cons_zero, List.set_cons_succ])
      refine wpAnyH_take (i := 6) (oi := ({ dst := some 25, op := Op.indexAddr 69 (Operand.tmp 24) (Operand.tmp 21), type := 0, pos := "ram.go:49", after := #[{ on := 5, ground := Ground.data }, { on := 2, ground := Ground.data }, { on := 0, ground := Ground.phase }, { on := 1, ground := Ground.phase }, { on := 2, ground := Ground.phase }, { on := 3, ground := Ground.phase }], guard := none } : Oper)) (v := ?_) rfl (by kernel_rfl) (by kernel_rfl) (by kernel_rfl) (fun _ _ _ h => h) (Or.inl ⟨by rfl, ?_⟩) (by assumption) ?_
      rotate_left 1
      · (intro w hSw; (try dsimp only at hSw); go_simp; (try with_reducible rfl))
      (try simp only [Act.put, List.setIfInBounds_toArray, List.set_cons_zero, List.set_cons_succ])
      refine wpAnyH_ready (rs := [7]) (by kernel_rfl) (by simp) ?_
      refine AllReadyH.cons (o := ({ dst := none, op := Op.store 68 (Operand.tmp 25) (Operand.tmp 22), type := 0, pos := "ram.go:49", after := #[{ on := 6, ground := Ground.data }, { on := 3, ground := Ground.data }, { on := 2, ground := Ground.chain }, { on := 0, ground := Ground.phase }, { on := 1, ground := Ground.phase }, { on := 2, ground := Ground.phase }, { on := 3, ground := Ground.phase }], guard := none } : Oper)) rfl (fun K hK => ?_) ?_
      rotate_left 1
      · exact AllReadyH.nil
      go_simp
      first | (refine hK.out _ _ ?_ (fun hH2 => ?_)) | (go_wp2_with fail; refine hK.out _ _ ?_ (fun hH2 => ?_))
      · trivial
      clear hK K hH1
      (try simp only [Act.put, List.setIfInBounds_toArray, List.set_cons_zero, List.set_cons_succ])
      refine wpAnyH_done (by kernel_rfl) ?_ _
      refine NoPanic.normal ?_
      have HW := Lib.hid (Ra.putPage H0.out i256 HP.out HG.out)
      clear H0 c0 f0
      generalize ((W0.setCell ⟨m, i, none⟩ (.pointer (some ⟨g, 0, none⟩))).drew) = W1 at HW ⊢
      have c1 := HW.out.1.byte i256 (updP_here p i g) k k256
      have f1 := ((HW.out.1.page i g i256 (updP_here p i g)).2).frozen k
      rw [HIK.out] at c1
      generalize f a = F at c1
      have HR := Lib.hid (HW.out.1.drew.setByte i256 (updP_here p i g) k k256 b HB.out)
      rw [HIK.out] at HR
      go_wp2
      refine wp_region_noPanic ?_
      refine wp_region_held_drew (S := (fun _ => True)) (by kernel_rfl) ?_ (fun hH0 => ?_)
      · trivial
      refine wpAnyH_take (i := 0) (oi := ({ dst := some 26, op := Op.move (Operand.tmp 6), type := 68, pos := "ram.go:51", after := #[], guard := none } : Oper)) (v := ?_) rfl (by kernel_rfl) (by kernel_rfl) (by kernel_rfl) (fun _ _ _ h => h) (Or.inl ⟨by rfl, ?_⟩) (by assumption) ?_
      rotate_left 1
      · (intro w hSw; (try dsimp only at hSw); go_simp; (try with_reducible rfl))
      (try simp only [Act.put, List.setIfInBounds_toArray, List.set_cons_zero, List.set_cons_succ])
      refine wpAnyH_take (i := 1) (oi := ({ dst := some 27, op := Op.move (Operand.tmp 1), type := 23, pos := "ram.go:51", after := #[], guard := none } : Oper)) (v := ?_) rfl (by kernel_rfl) (by kernel_rfl) (by kernel_rfl) (fun _ _ _ h => h) (Or.inl ⟨by rfl, ?_⟩) (by assumption) ?_
      rotate_left 1
      · (intro w hSw; (try dsimp only at hSw); go_simp; (try with_reducible rfl))
      (try simp only [Act.put, List.setIfInBounds_toArray, List.set_cons_zero, List.set_cons_succ])
      refine wpAnyH_take (i := 3) (oi := ({ dst := some 29, op := Op.move (Operand.tmp 2), type := 5, pos := "ram.go:51", after := #[], guard := none } : Oper)) (v := ?_) rfl (by kernel_rfl) (by kernel_rfl) (by kernel_rfl) (fun _ _ _ h => h) (Or.inl ⟨by rfl, ?_⟩) (by assumption) ?_
      rotate_left 1
      · (intro w hSw; (try dsimp only at hSw); go_simp; (try with_reducible rfl))
      (try simp only [Act.put, List.setIfInBounds_toArray, List.set_cons_zero, List.set_cons_succ])
      refine wpAnyH_take (i := 4) (oi := ({ dst := some 30, op := Op.nilCheck (Operand.tmp 26), type := 0, pos := "ram.go:51", after := #[{ on := 0, ground := Ground.data }], guard := none } : Oper)) (v := ?_) rfl (by kernel_rfl) (by kernel_rfl) (by kernel_rfl) (fun _ _ _ h => h) (Or.inl ⟨by rfl, ?_⟩) (by assumption) ?_
      rotate_left 1
      · (intro w hSw; (try dsimp only at hSw); go_simp; (try with_reducible rfl))
      (try simp only [Act.put, List.setIfInBounds_toArray, List.set_cons_zero, List.set_cons_succ])
      refine wpAnyH_ready (rs := [2]) (by kernel_rfl) (by simp) ?_
      refine AllReadyH.cons (o := ({ dst := some 28, op := Op.call { callee := Callee.value (Operand.func 44), args := #[Operand.tmp 27], argTypes := #[23] }, type := 5, pos := "ram.go:51", after := #[{ on := 1, ground := Ground.data }], guard := none } : Oper)) rfl (fun K hK => ?_) ?_
      rotate_left 1
      · exact AllReadyH.nil
      go_simp
      go_at_call 44
      ((with_reducible refine (HL.out _).mono ?_); rintro e w' ⟨rfl, rfl⟩)
      first | (refine hK.out _ _ ?_ (fun hH1 => ?_)) | (go_wp2_with fail; refine hK.out _ _ ?_ (fun hH1 => ?_))
      · trivial
      clear hK K hH0
      (try simp only [Act.put, List.setIfInBounds_toArray, List.set_cons_zero, List.set_cons_succ])
      refine wpAnyH_take (i := 5) (oi := ({ dst := some 31, op := Op.indexAddr 73 (Operand.tmp 30) (Operand.tmp 28), type := 0, pos := "ram.go:51", after := #[{ on := 4, ground := Ground.data }, { on := 2, ground := Ground.data }, { on := 0, ground := Ground.phase }, { on := 1, ground := Ground.phase }, { on := 2, ground := Ground.phase }, { on := 3, ground := Ground.phase }], guard := none } : Oper)) (v := ?_) rfl (by kernel_rfl) (by kernel_rfl) (by kernel_rfl) (fun _ _ _ h => h) (Or.inl ⟨by rfl, ?_⟩) (by assumption) ?_
      rotate_left 1
      · (intro w hSw; (try dsimp only at hSw); go_simp; (try with_reducible rfl))
      (try simp only [Act.put, List.setIfInBounds_toArray, List.set_cons_zero, List.set_cons_succ])
      refine wpAnyH_ready (rs := [6]) (by kernel_rfl) (by simp) ?_
      refine AllReadyH.cons (o := ({ dst := none, op := Op.store 5 (Operand.tmp 31) (Operand.tmp 29), type := 0, pos := "ram.go:51", after := #[{ on := 5, ground := Ground.data }, { on := 3, ground := Ground.data }, { on := 2, ground := Ground.chain }, { on := 0, ground := Ground.phase }, { on := 1, ground := Ground.phase }, { on := 2, ground := Ground.phase }, { on := 3, ground := Ground.phase }], guard := none } : Oper)) rfl (fun K hK => ?_) ?_
      rotate_left 1
      · exact AllReadyH.nil
      go_simp
      first | (refine hK.out _ _ ?_ (fun hH2 => ?_)) | (go_wp2_with fail; refine hK.out _ _ ?_ (fun hH2 => ?_))
      · trivial
      clear hK K hH1
      (try simp only [Act.put, List.setIfInBounds_toArray, List.set_cons_zero, List.set_cons_succ])
      refine wpAnyH_done (by kernel_rfl) ?_ _
      refine NoPanic.normal ?_
      go_wp2
      exact Great.bodyPost_end0 rfl rfl ⟨rfl, updP p i g, HR.out.1, HW.out.2.trans ((Rst.drewN _ _ _ 1).trans HR.out.2)⟩
end Go.Proofs.Ytnhafficnomlbaa
