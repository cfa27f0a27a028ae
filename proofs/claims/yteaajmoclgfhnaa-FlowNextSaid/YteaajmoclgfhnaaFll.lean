/- Flow: an instruction's numbers as Next asks for them; the chapter's example. -/
import Derived.Test.YteaajmoclgfhnaaFlr
import Derived.Test.YteaajmoclgfhnaaInsO
import Derived.Test.YteaajmoclgfhnaaEq
namespace Go.Proofs.Yteaajmoclgfhnaa
open Go.ChangeShapes Go.WideShapes Go.ChangeAt Go.RowKit
set_option linter.unusedVariables false

theorem inVa_rng {xs : List Int} (h : ∀ z ∈ xs, (Lit.int .u8 z).wf = true) : 0 ≤ inVa xs ∧ inVa xs < 65536 := by
  have a := iat_range8' h (inL2 xs)
  have b := iat_range8' h (inL2 xs + 1)
  unfold inVa
  split
  · split
    · unfold signOf; split <;> omega
    · omega
  · split <;> omega
theorem inLn_le {xs : List Int} (h : ∀ z ∈ xs, (Lit.int .u8 z).wf = true) : inLn xs ≤ 5 := by
  have := shN_le (inMd xs) (inPo xs) (inMd_le h) (inPo_range h)
  unfold inLn inN inL2 inL1
  split <;> split <;> omega
theorem inE_rel {xs : List Int} (h : ∀ z ∈ xs, (Lit.int .u8 z).wf = true) : (34 ≤ eOp (inE xs) → eOp (inE xs) ≤ 38 → eMode (inE xs) = 6 ∨ eMode (inE xs) = 7) ∧ (eOp (inE xs) = 35 → eReg (inE xs) ≠ 0) := by
  have := inCo_range h
  exact ofN_rel _ _ (by omega)
/-- What the instruction of bytes gives. -/
def fwL (xs : List Int) (a : Int) : List Int := flL (eOp (inE xs)) (eMode (inE xs)) (eReg (inE xs)) (inPo xs) (inVa xs) (inLn xs) a
def fwA (xs : List Int) : Bool := flA (eOp (inE xs)) (eMode (inE xs)) (inPo xs)
theorem fwL_len (xs : List Int) (a : Int) : (fwL xs a).length ≤ 2 := by
  unfold fwL flL
  repeat' split
  all_goals (cases pcB (eOp (inE xs)) (inPo xs) <;> simp)
theorem flowOf {xs : List Int} (h : ∀ z ∈ xs, (Lit.int .u8 z).wf = true) (hk : inOk xs = true) (a : Int) (a0 : 0 ≤ a) (a1 : a < 65536) (w : World) :
    Calls Try.prog 12 #[.agg (inAgg xs), .int .u16 a] w (GivesW (fwL xs a) (fwA xs) w) := by
  have v := inVa_rng h
  have b := inPo_range h
  have l := inLn_le h
  have e := inE_rel h
  unfold inAgg
  rw [if_pos hk]
  exact flowNext_any _ _ _ _ _ _ _ a _ (eOp (inE xs)) rfl (fun p q => by have := e.1 p q; omega) (fun p => by have := e.2 p; omega) b.1 b.2 (by omega) (by omega) v.1 v.2 a0 a1 w
theorem refOfF {xs : List Int} (h : ∀ z ∈ xs, (Lit.int .u8 z).wf = true) (hk : inOk xs = true) (a : Int) (a0 : 0 ≤ a) (a1 : a < 65536) (w : World) :
    Calls Try.prog 13 #[.agg (inAgg xs), .int .u16 a] w (GivesW (fwL xs a) (fwA xs) w) := by
  have v := inVa_rng h
  have b := inPo_range h
  have l := inLn_le h
  unfold inAgg
  rw [if_pos hk]
  exact refNext_any _ _ _ _ _ _ _ a _ (eOp (inE xs)) rfl b.1 b.2 (by omega) (by omega) v.1 v.2 a0 a1 w
theorem exF1 : inOk [57] = true ∧ fwL [57] 5 = [] ∧ fwA [57] = false := by decide +kernel
theorem exF2 : inOk [38, 2] = true ∧ fwL [38, 2] 5 = [9, 7] ∧ fwA [38, 2] = true := by decide +kernel
theorem wfF1 : ∀ z ∈ ([57] : List Int), (Lit.int .u8 z).wf = true := by decide +kernel
theorem wfF2 : ∀ z ∈ ([38, 2] : List Int), (Lit.int .u8 z).wf = true := by decide +kernel
theorem inAgg_ok {xs : List Int} (hk : inOk xs = true) : ∃ p c o m r b v l, inAgg xs = iD p c o m r b v l := ⟨_, _, _, _, _, _, _, _, if_pos hk⟩
theorem inAgg_no {xs : List Int} (hk : inOk xs = false) : inAgg xs = iD 0 0 0 0 0 0 0 0 := by
  unfold inAgg
  rw [if_neg (by rw [hk]; decide)]
  rfl
theorem ints_lit8 {w : World} {t : TypeId} {g : Nat} (xs : List Int) (cs : Array Value) (hcs : cs = (xs.map (Value.int .u8)).toArray) (h : Blk w g t cs) (hwf : ∀ z ∈ xs, (Lit.int .u8 z).wf = true) (n : Nat) (hn : xs.length = n) :
    Ints .u8 w w.heap.size (some ⟨g, 0, none⟩) n xs :=
  ⟨hn, hwf, fun _ => ⟨g, 0, rfl, h.lt, fun i hi => by
    subst hcs
    rw [Nat.zero_add, h.cell, List.getElem?_toArray, List.getElem?_map, List.getElem?_eq_getElem (by omega), iat_eq _ _ (by omega)]; rfl⟩⟩
theorem eqW {u : World} {A A' : Option Addr} {n c n' c' : Nat} {L : List Int} (h : Ints .u16 u u.heap.size A n L) (h' : Ints .u16 u u.heap.size A' n' L) (hn : L.length ≤ 2) :
    Calls Try.prog 14 #[.slice A n c, .slice A' n' c'] u fun e w' => e = .returned (.bool true) ∧ Below u.heap.size u w' := by
  have e1 := h.1
  have e2 := h'.1
  refine (eq16_any A A' n c n' c' L L _ _ u h h' (by omega) (by omega)).mono ?_
  rintro e w' ⟨rfl, k, rfl⟩
  exact ⟨by simp, Below.drewN0 (Below.refl _ _) k⟩
set_option maxRecDepth 100000 in
set_option maxHeartbeats 4000000 in
theorem alive54 (w : World) : Calls Try.prog 15 #[] w fun e w' => e = .returned (.bool true) ∧ Below w.heap.size w w' := by
  have C1 := fun (u : World) (g : Nat) (hg : u.heap.size = g) => of18_any (some ⟨g, 0, none⟩) 1 1 [57] (u.alloc (.cells #[.int .u8 57] 5)) (ints_lit8 [57] _ rfl (show Blk _ g 5 _ from hg ▸ Blk.new u 5 _ (0, 0)) wfF1 1 rfl) (fun h => by cases h) (by decide)
  have C2 := fun (u : World) (g : Nat) (hg : u.heap.size = g) => of18_any (some ⟨g, 0, none⟩) 2 2 [38, 2] (u.alloc (.cells #[.int .u8 38, .int .u8 2] 5)) (ints_lit8 [38, 2] _ rfl (show Blk _ g 5 _ from hg ▸ Blk.new u 5 _ (0, 0)) wfF2 2 rfl) (fun h => by cases h) (by decide)
  have F1 := fun u => flowOf wfF1 exF1.1 5 (by decide) (by decide) u
  have F2 := fun u => flowOf wfF2 exF2.1 5 (by decide) (by decide) u
  rw [exF1.2.1, exF1.2.2] at F1
  rw [exF2.2.1, exF2.2.2] at F2
  rw [exF1.1] at C1
  rw [exF2.1] at C2
  obtain ⟨p, c, o, m, r, b, v, l, hA⟩ := inAgg_ok exF1.1
  obtain ⟨p', c', o', m', r', b', v', l', hA'⟩ := inAgg_ok exF2.1
  rw [hA] at C1 F1
  rw [hA'] at C2 F2
  clear hA hA'
  have D1 := Lib.hid C1
  have D2 := Lib.hid C2
  have G1 := Lib.hid F1
  have G2 := Lib.hid F2
  clear C1 C2 F1 F2
  go_enter Try.func15, Try.ntmps15
  go_wp2_with fail
  refine (D1.out _ _ rfl).mono ?_
  rintro e w1 ⟨rfl, hb⟩
  have HB1 := Lib.hid (Below.trans0 (Below.alloc0 (Below.refl w.heap.size w) _) hb)
  have HS1 := Lib.hid (Blk.new w1 37 (iD p c o m r b v l) (0, 0))
  have HB1' := Lib.hid (Below.alloc0 HB1.out (Obj.cells (iD p c o m r b v l) 37))
  clear hb
  go_wp2_with fail
  refine (D2.out _ _ (by simp)).mono ?_
  rintro e w2 ⟨rfl, hb⟩
  have HB2 := Lib.hid (Below.trans0 (Below.alloc0 HB1'.out _) hb)
  have HS2 := Lib.hid (Blk.below (Blk.alloc HS1.out _) hb (Blk.alloc HS1.out _).lt)
  have HS2' := Lib.hid (Blk.alloc HS2.out (Obj.cells (iD p' c' o' m' r' b' v' l') 37))
  have HT2 := Lib.hid (Blk.new w2 37 (iD p' c' o' m' r' b' v' l') (0, 0))
  have HB2' := Lib.hid (Below.alloc0 HB2.out (Obj.cells (iD p' c' o' m' r' b' v' l') 37))
  clear hb
  obtain ⟨q0, q1, q2, q3, q4, q5, q6, q7⟩ := Blk.c8 HS2'.out
  go_wp2_with fail
  clear q0 q1 q2 q3 q4 q5 q6 q7
  refine (G1.out _).mono ?_
  rintro e w3 ⟨A1, c1, rfl, hi1, hb⟩
  have HB3 := Lib.hid (Below.trans0 HB2'.out hb)
  have HT3 := Lib.hid (Blk.below HT2.out hb HT2.out.lt)
  clear hb hi1
  obtain ⟨q0, q1, q2, q3, q4, q5, q6, q7⟩ := Blk.c8 HT3.out
  go_wp2_with fail
  clear q0 q1 q2 q3 q4 q5 q6 q7
  refine (G2.out _).mono ?_
  rintro e w4 ⟨A2, c2, rfl, hi2, hb⟩
  have HB4 := Lib.hid (Below.trans0 HB3.out hb)
  have HI4 := Lib.hid (show Ints .u16 (w4.alloc (Obj.cells #[.int .u16 9, .int .u16 7] 23)) (w4.alloc (Obj.cells #[.int .u16 9, .int .u16 7] 23)).heap.size A2 2 [9, 7] from Ints.below hi2 (by simp) (Below.alloc0 (Below.refl _ _) _))
  have HJ4 := Lib.hid (ints_lit16 [9, 7] _ rfl (Blk.new w4 23 _ (0, 0)) (by decide) 2 rfl)
  have HB5 := Lib.hid (Below.alloc0 HB4.out (Obj.cells #[.int .u16 9, .int .u16 7] 23))
  clear hb hi2
  go_wp2_with (go_at_call 14; refine (eqW HI4.out HJ4.out (by decide)).mono ?_; rintro e w5 ⟨rfl, hb⟩; have HB6 := Lib.hid (Below.trans0 HB5.out hb))
  go_wp2
  go_ret
  exact ⟨rfl, HB6.out⟩
end Go.Proofs.Yteaajmoclgfhnaa
