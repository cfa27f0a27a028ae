/- The contract of the document's list of opcodes (spinetref14.All). -/
import Derived.Test.YtljhfalgplihhaaGreatDoorPagB
import Derived.Test.YtljhfalgplihhaaGreatDoorPagC
import Derived.Outline
namespace Go.Proofs.YtljhfalgplihhaaGreatDoor
open Go.ChangeShapes Go.WideShapes Go.ChangeAt Go.RowKit
set_option linter.unusedVariables false

def AllIs (w : World) (e : Ending) (w' : World) : Prop := ∃ v, e = .returned v ∧ Lst w' w.heap.size v all5 ∧ Below w.heap.size w w'
theorem cols_blk {w : World} {base : Nat} {v : Value} (h : w.ownsRow base 114 5 v 40 (colsTo 11)) :
    ∃ g cap cur, v = .slice (some ⟨g, 0, none⟩) 40 cap ∧ base ≤ g ∧ Blk w g 114 cur ∧ 40 ≤ cap ∧ ∀ k j, k < 40 → j < 5 → cur[k * 5 + j]? = some (.int .i64 (pgC (5 * k + j) : Int)) := by
  obtain ⟨hl, h2⟩ := h
  rcases h2 with ⟨_, h2⟩ | ⟨g, cap, cur, rfl, h3, h4, h5, h6, h7, h8⟩
  · exact absurd h2 (by decide)
  · refine ⟨g, cap, cur, rfl, h3, h4, h5, fun k j hk hj => ?_⟩
    have e : (cur.toList.take (40 * 5))[5 * k + j]? = (colsTo 11)[5 * k + j]? := by rw [h8]
    rw [List.getElem?_take_of_lt (by omega), Array.getElem?_toList] at e
    rw [show k * 5 + j = 5 * k + j by omega, e]
    unfold colsTo
    rw [List.getElem?_map, List.getElem?_range (by omega)]
    rfl
def cells24 : Array Value := #[.int .i64 13, .int .i64 0, .int .i64 14, .int .i64 3, .int .i64 15, .int .i64 4, .int .i64 16, .int .i64 6, .int .i64 17, .int .i64 7, .int .i64 18, .int .i64 8, .int .i64 19, .int .i64 9, .int .i64 20, .int .i64 10, .int .i64 21, .int .i64 12, .int .i64 22, .int .i64 13, .int .i64 23, .int .i64 15, .int .i64 32, .int .i64 14]
def zero24 : Array Value := #[.int .i64 0, .int .i64 0, .int .i64 0, .int .i64 0, .int .i64 0, .int .i64 0, .int .i64 0, .int .i64 0, .int .i64 0, .int .i64 0, .int .i64 0, .int .i64 0, .int .i64 0, .int .i64 0, .int .i64 0, .int .i64 0, .int .i64 0, .int .i64 0, .int .i64 0, .int .i64 0, .int .i64 0, .int .i64 0, .int .i64 0, .int .i64 0]
def cells135 : Array Value := #[.int .i64 1, .int .i64 18, .int .i64 39, .int .i64 0, .int .i64 0, .int .i64 1, .int .i64 19, .int .i64 40, .int .i64 0, .int .i64 0, .int .i64 1, .int .i64 25, .int .i64 42, .int .i64 0, .int .i64 0, .int .i64 1, .int .i64 29, .int .i64 45, .int .i64 0, .int .i64 0, .int .i64 1, .int .i64 57, .int .i64 48, .int .i64 0, .int .i64 0, .int .i64 1, .int .i64 58, .int .i64 1, .int .i64 0, .int .i64 0, .int .i64 1, .int .i64 59, .int .i64 49, .int .i64 0, .int .i64 0, .int .i64 1, .int .i64 61, .int .i64 50, .int .i64 0, .int .i64 0, .int .i64 1, .int .i64 63, .int .i64 51, .int .i64 0, .int .i64 1, .int .i64 2, .int .i64 63, .int .i64 51, .int .i64 0, .int .i64 2, .int .i64 3, .int .i64 63, .int .i64 51, .int .i64 0, .int .i64 3, .int .i64 1, .int .i64 26, .int .i64 43, .int .i64 1, .int .i64 0, .int .i64 1, .int .i64 28, .int .i64 44, .int .i64 1, .int .i64 0, .int .i64 1, .int .i64 60, .int .i64 41, .int .i64 1, .int .i64 0, .int .i64 1, .int .i64 30, .int .i64 46, .int .i64 8, .int .i64 0, .int .i64 1, .int .i64 31, .int .i64 47, .int .i64 8, .int .i64 0, .int .i64 1, .int .i64 52, .int .i64 30, .int .i64 9, .int .i64 4, .int .i64 1, .int .i64 53, .int .i64 31, .int .i64 9, .int .i64 4, .int .i64 1, .int .i64 54, .int .i64 30, .int .i64 9, .int .i64 3, .int .i64 1, .int .i64 55, .int .i64 31, .int .i64 9, .int .i64 3, .int .i64 1, .int .i64 48, .int .i64 29, .int .i64 4, .int .i64 1, .int .i64 1, .int .i64 49, .int .i64 29, .int .i64 4, .int .i64 2, .int .i64 1, .int .i64 50, .int .i64 29, .int .i64 4, .int .i64 4, .int .i64 1, .int .i64 51, .int .i64 29, .int .i64 4, .int .i64 3, .int .i64 1, .int .i64 141, .int .i64 37, .int .i64 6, .int .i64 0, .int .i64 1, .int .i64 22, .int .i64 36, .int .i64 7, .int .i64 0, .int .i64 1, .int .i64 23, .int .i64 38, .int .i64 7, .int .i64 0]
def zero135 : Array Value := #[.int .i64 0, .int .i64 0, .int .i64 0, .int .i64 0, .int .i64 0, .int .i64 0, .int .i64 0, .int .i64 0, .int .i64 0, .int .i64 0, .int .i64 0, .int .i64 0, .int .i64 0, .int .i64 0, .int .i64 0, .int .i64 0, .int .i64 0, .int .i64 0, .int .i64 0, .int .i64 0, .int .i64 0, .int .i64 0, .int .i64 0, .int .i64 0, .int .i64 0, .int .i64 0, .int .i64 0, .int .i64 0, .int .i64 0, .int .i64 0, .int .i64 0, .int .i64 0, .int .i64 0, .int .i64 0, .int .i64 0, .int .i64 0, .int .i64 0, .int .i64 0, .int .i64 0, .int .i64 0, .int .i64 0, .int .i64 0, .int .i64 0, .int .i64 0, .int .i64 0, .int .i64 0, .int .i64 0, .int .i64 0, .int .i64 0, .int .i64 0, .int .i64 0, .int .i64 0, .int .i64 0, .int .i64 0, .int .i64 0, .int .i64 0, .int .i64 0, .int .i64 0, .int .i64 0, .int .i64 0, .int .i64 0, .int .i64 0, .int .i64 0, .int .i64 0, .int .i64 0, .int .i64 0, .int .i64 0, .int .i64 0, .int .i64 0, .int .i64 0, .int .i64 0, .int .i64 0, .int .i64 0, .int .i64 0, .int .i64 0, .int .i64 0, .int .i64 0, .int .i64 0, .int .i64 0, .int .i64 0, .int .i64 0, .int .i64 0, .int .i64 0, .int .i64 0, .int .i64 0, .int .i64 0, .int .i64 0, .int .i64 0, .int .i64 0, .int .i64 0, .int .i64 0, .int .i64 0, .int .i64 0, .int .i64 0, .int .i64 0, .int .i64 0, .int .i64 0, .int .i64 0, .int .i64 0, .int .i64 0, .int .i64 0, .int .i64 0, .int .i64 0, .int .i64 0, .int .i64 0, .int .i64 0, .int .i64 0, .int .i64 0, .int .i64 0, .int .i64 0, .int .i64 0, .int .i64 0, .int .i64 0, .int .i64 0, .int .i64 0, .int .i64 0, .int .i64 0, .int .i64 0, .int .i64 0, .int .i64 0, .int .i64 0, .int .i64 0, .int .i64 0, .int .i64 0, .int .i64 0, .int .i64 0, .int .i64 0, .int .i64 0, .int .i64 0, .int .i64 0, .int .i64 0, .int .i64 0, .int .i64 0, .int .i64 0, .int .i64 0]
theorem cells24_at (k : Nat) (hk : k < 12) : cells24[k * 2]? = some (.int .i64 (pgH (2 * k) : Int)) ∧ cells24[k * 2 + 1]? = some (.int .i64 (pgH (2 * k + 1) : Int)) := by
  rcases (show k = 0 ∨ k = 1 ∨ k = 2 ∨ k = 3 ∨ k = 4 ∨ k = 5 ∨ k = 6 ∨ k = 7 ∨ k = 8 ∨ k = 9 ∨ k = 10 ∨ k = 11 by omega) with rfl | rfl | rfl | rfl | rfl | rfl | rfl | rfl | rfl | rfl | rfl | rfl
  all_goals exact ⟨rfl, rfl⟩
theorem cells135_eq : cells135.toList = (List.range 135).map fun j => Value.int .i64 (pgO j : Int) := by rfl
theorem cells135_at (k j : Nat) (hk : k < 27) (hj : j < 5) : cells135[k * 5 + j]? = some (.int .i64 (pgO (5 * k + j) : Int)) := by
  rw [← Array.getElem?_toList, cells135_eq, show k * 5 + j = 5 * k + j by omega, List.getElem?_map, List.getElem?_range (by omega)]
  rfl
theorem colK_pos (k a0 a1 a2 a3 a4 : Nat) (h0 : pgC (5 * k) = a0) (h1 : pgC (5 * k + 1) = a1) (h2 : pgC (5 * k + 2) = a2) (h3 : pgC (5 * k + 3) = a3) (h4 : pgC (5 * k + 4) = a4) (h : 0 < a4) :
    colK k = [(a2, a3, a0, a4, a1), (a2, a3 + 16, a0, 3, a1), (a2, a3 + 32, a0, 4, a1), (a2, a3 + 48, a0, 5, a1)] := by
  unfold colK
  rw [h0, h1, h2, h3, h4, if_pos h]; rfl
theorem colK_no (k a0 a1 a2 a3 a4 : Nat) (h0 : pgC (5 * k) = a0) (h1 : pgC (5 * k + 1) = a1) (h2 : pgC (5 * k + 2) = a2) (h3 : pgC (5 * k + 3) = a3) (h4 : pgC (5 * k + 4) = a4) (h : ¬ 0 < a4) :
    colK k = [(a2, a3 + 16, a0, 3, a1), (a2, a3 + 32, a0, 4, a1), (a2, a3 + 48, a0, 5, a1)] := by
  unfold colK
  rw [h0, h1, h2, h3, h4, if_neg h]; rfl
theorem five4 {w : World} {g : Nat} {t : TypeId} {c0 c1 c2 c3 c4 : Value} (h : Blk w g t #[c0, c1, c2, c3, c4]) :
    w.cell? ⟨g, 0, none⟩ = some c0 ∧ w.cell? ⟨g, 1, none⟩ = some c1 ∧ w.cell? ⟨g, 2, none⟩ = some c2 ∧ w.cell? ⟨g, 3, none⟩ = some c3 := by
  refine ⟨?_, ?_, ?_, ?_⟩ <;> (rw [h.cell]; rfl)
theorem le500 {L : List K5} (h : L.length ≤ 500) : L.length ≤ 1000 := by omega
theorem snoc501 {L : List K5} {x : K5} (h : L.length ≤ 500) : (L ++ [x]).length ≤ 1000 := by simp; omega
theorem snoc502 {L : List K5} {x y : K5} (h : L.length ≤ 500) : ((L ++ [x]) ++ [y]).length ≤ 1000 := by simp; omega
theorem below_base {base : Nat} {w wr : World} (h : Below w.heap.size w wr) (hb : base = w.heap.size) : base ≤ wr.heap.size := by have := h.size; omega
set_option maxRecDepth 100000 in
set_option maxHeartbeats 8000000 in
theorem all_any (w : World) : Calls Tryz.prog 31 #[] w (AllIs w) := by
  go_enter Tryz.func31, Tryz.ntmps31
  go_wp2_with fail
  refine (columns_any _).mono ?_
  rintro e w1 ⟨v1, rfl, ho1, hb1⟩
  obtain ⟨gc, cap, cur, rfl, hgc, hcb, hcap, hcc⟩ := cols_blk ho1
  have HC1 := Lib.hid hcb
  have HCC := Lib.hid hcc
  have Hb1 := Lib.hid hb1
  have HGC := Lib.hid hgc
  have hgc1 := Lib.hid hcb.lt
  clear ho1 hb1 hcb hcc hgc
  go_wp2
  go_loopw [1, 3] (fun u1 u3 wr => ∃ k : Nat, k ≤ 40 ∧ u3 = .int .i64 k ∧ Hid (Lst wr w.heap.size u1 (upK colK k)) ∧ Hid (u1.ownBlock ≠ some gc) ∧ Hid (Blk wr gc 114 cur) ∧ Hid (Below w.heap.size w wr)) (fun _ u3 _ => 40 - (intOf u3).toNat)
  case atStart => exact ⟨0, Nat.zero_le _, rfl, Lib.hid (Lst.nil_ _ _), Lib.hid (by simp [Value.ownBlock]), HC1, Hb1⟩
  case round =>
    obtain ⟨k, hk, rfl, HL, HNe, HC, HBel⟩ := hrel
    by_cases hlt : k < 40
    · have C0 := (HC.out.cell (k * 5)).trans (HCC.out k 0 hlt (by decide))
      have C1 := (HC.out.cell (k * 5 + 1)).trans (HCC.out k 1 hlt (by decide))
      have C2 := (HC.out.cell (k * 5 + 2)).trans (HCC.out k 2 hlt (by decide))
      have C3 := (HC.out.cell (k * 5 + 3)).trans (HCC.out k 3 hlt (by decide))
      have C4 := (HC.out.cell (k * 5 + 4)).trans (HCC.out k 4 hlt (by decide))
      simp only [Nat.add_zero] at C0
      have HK := Lib.hid (show upK colK (k + 1) = upK colK k ++ colK k from rfl)
      have HLen := Lib.hid (upK_len colK 4 colK_len k)
      have l0 := pgC_lt (5 * k)
      have l1 := pgC_lt (5 * k + 1)
      have l2 := pgC_lt (5 * k + 2)
      have l3 := pgC_lt (5 * k + 3)
      have l4 := pgC_lt (5 * k + 4)
      obtain ⟨a0, ha0⟩ : ∃ a, pgC (5 * k) = a := ⟨_, rfl⟩
      obtain ⟨a1, ha1⟩ : ∃ a, pgC (5 * k + 1) = a := ⟨_, rfl⟩
      obtain ⟨a2, ha2⟩ : ∃ a, pgC (5 * k + 2) = a := ⟨_, rfl⟩
      obtain ⟨a3, ha3⟩ : ∃ a, pgC (5 * k + 3) = a := ⟨_, rfl⟩
      obtain ⟨a4, ha4⟩ : ∃ a, pgC (5 * k + 4) = a := ⟨_, rfl⟩
      rw [ha0] at C0 l0
      rw [ha1] at C1 l1
      rw [ha2] at C2 l2
      rw [ha3] at C3 l3
      rw [ha4] at C4 l4
      have HPos := Lib.hid (colK_pos k a0 a1 a2 a3 a4 ha0 ha1 ha2 ha3 ha4)
      have HNo := Lib.hid (colK_no k a0 a1 a2 a3 a4 ha0 ha1 ha2 ha3 ha4)
      clear ha0 ha1 ha2 ha3 ha4
      have k0 : (0 : Int) ≤ (k : Int) := by omega
      have k1 : (k : Int) < 40 := by omega
      have p3 : (0 : Int) ≤ (a3 : Int) := by omega
      have HBs := Lib.hid HBel.out.size
      have HXn := Lib.hid (Blk.new wr 114 #[.int .i64 (a0 : Int), .int .i64 (a1 : Int), .int .i64 (a2 : Int), .int .i64 (a3 : Int), .int .i64 (a4 : Int)] (0, 0))
      have HXne := Lib.hid (ownsRow_new HL.out)
      have HClt := Lib.hid HC.out.lt
      by_cases h4 : 0 < a4
      case' pos =>
        have d4 : decide (0 < a4) = true := decide_eq_true h4
        have HQ := Lib.hid (HPos.out h4)
        clear h4
        go_wp2_with fail
        refine (add_l _ w.heap.size _ (upK colK k) (Lst.alloc HL.out _) (by have := HBs.out; simp; omega) (by have := HLen.out; omega) (a2, a3, a0, a4, a1) _ _ _ _ _ rfl).mono ?_
        rintro e W ⟨V, rfl, h2, hb2, hap2⟩
        have HLw := Lib.hid h2
        have HBw := Lib.hid ((Below.alloc0 HBel.out _).trans hb2)
        have HXw := Lib.hid (hap2.blk HXn.out HXne.out)
        have HXv := Lib.hid (hap2.ne (by simp) HXne.out)
        have HCw := Lib.hid (hap2.blk (Blk.alloc HC.out _) HNe.out)
        have HCv := Lib.hid (hap2.ne (by have := HClt.out; simp; omega) HNe.out)
        obtain ⟨L, hL⟩ : ∃ L, upK colK k ++ [(a2, a3, a0, a4, a1)] = L := ⟨_, rfl⟩
        have HFin := Lib.hid (show upK colK (k + 1) = ((L ++ [(a2, a3 + 16, a0, 3, a1)]) ++ [(a2, a3 + 32, a0, 4, a1)]) ++ [(a2, a3 + 48, a0, 5, a1)] by rw [HK.out, HQ.out, ← hL]; simp only [List.append_assoc, List.cons_append, List.nil_append])
        have HLl := Lib.hid (show L.length ≤ 500 by rw [← hL]; have := HLen.out; simp only [List.length_append, List.length_cons, List.length_nil]; omega)
        rw [hL] at HLw
        clear h2 hb2 hap2 d4 hL HQ
        go_wp2
      case' neg =>
        have d4 : decide (0 < a4) = false := decide_eq_false h4
        have HQ := Lib.hid (HNo.out h4)
        clear h4
        go_wp2
        have HLw := Lib.hid (Lst.alloc HL.out (Obj.cells #[.int .i64 (a0 : Int), .int .i64 (a1 : Int), .int .i64 (a2 : Int), .int .i64 (a3 : Int), .int .i64 (a4 : Int)] 114))
        have HBw := Lib.hid (Below.alloc0 HBel.out (Obj.cells #[.int .i64 (a0 : Int), .int .i64 (a1 : Int), .int .i64 (a2 : Int), .int .i64 (a3 : Int), .int .i64 (a4 : Int)] 114))
        have HXw := HXn
        have HXv := HXne
        have HCw := Lib.hid (Blk.alloc HC.out (Obj.cells #[.int .i64 (a0 : Int), .int .i64 (a1 : Int), .int .i64 (a2 : Int), .int .i64 (a3 : Int), .int .i64 (a4 : Int)] 114))
        have HCv := HNe
        obtain ⟨V, hV⟩ : ∃ V, u1 = V := ⟨_, rfl⟩
        obtain ⟨L, hL⟩ : ∃ L, upK colK k = L := ⟨_, rfl⟩
        have HFin := Lib.hid (show upK colK (k + 1) = ((L ++ [(a2, a3 + 16, a0, 3, a1)]) ++ [(a2, a3 + 32, a0, 4, a1)]) ++ [(a2, a3 + 48, a0, 5, a1)] by rw [HK.out, HQ.out, ← hL]; simp only [List.append_assoc, List.cons_append, List.nil_append])
        have HLl := Lib.hid (show L.length ≤ 500 by rw [← hL]; have := HLen.out; omega)
        obtain ⟨W, hW⟩ : ∃ W : World, wr.alloc (Obj.cells #[.int .i64 (a0 : Int), .int .i64 (a1 : Int), .int .i64 (a2 : Int), .int .i64 (a3 : Int), .int .i64 (a4 : Int)] 114) = W := ⟨_, rfl⟩
        rw [hW] at HLw HBw HXw HCw
        rw [hL, hV] at HLw
        rw [hV] at HXv HCv
        rw [hW, hV]
        clear d4 hL HQ hW hV
      all_goals
        have HXd := Lib.hid (Blk.drew HXw.out)
        have HCd := Lib.hid (Blk.drew HCw.out)
        have HLd := Lib.hid (Lst.drew HLw.out)
        have HBd := Lib.hid (show w.heap.size ≤ W.drew.heap.size from HBw.out.size)
        have HXlt := Lib.hid (Blk.lt HXd.out)
        have HCdlt := Lib.hid (Blk.lt HCd.out)
        have t1 : IntKind.i64.wrap ((a3 : Int) + 16) = (a3 : Int) + 16 := IntWalk.i64_in _ (by omega)
        have t2 : IntKind.i64.wrap ((a3 : Int) + 32) = (a3 : Int) + 32 := IntWalk.i64_in _ (by omega)
        have t3 : IntKind.i64.wrap ((a3 : Int) + 48) = (a3 : Int) + 48 := IntWalk.i64_in _ (by omega)
        clear HXn HXne C0 C1 C2 C3 C4 HC HL HK HLen HPos HNo HClt
        go_region_held3 (fun w' => w'.cell? ⟨wr.heap.size, 0, none⟩ = some (.int .i64 (a0 : Int)) ∧ w'.cell? ⟨wr.heap.size, 1, none⟩ = some (.int .i64 (a1 : Int)) ∧ w'.cell? ⟨wr.heap.size, 2, none⟩ = some (.int .i64 (a2 : Int)) ∧ w'.cell? ⟨wr.heap.size, 3, none⟩ = some (.int .i64 (a3 : Int)))
          (first
            | (with_reducible exact five4 HXd.out)
            | (with_reducible exact five4 HX2.out)
            | (with_reducible exact five4 HX3.out)
            | (with_reducible exact five4 HX4.out))
          (first
            | (go_at_call 54; ((with_reducible refine (add_l _ w.heap.size V L HLd.out HBd.out (le500 HLl.out) (a2, a3 + 16, a0, 3, a1) _ _ _ _ _ rfl).mono ?_); rintro e W2 ⟨V2, rfl, h2, hb2, hap2⟩; have HL2 := Lib.hid h2; have Hb2 := Lib.hid (Below.trans (Below.drew0 HBw.out) hb2); have HX2 := Lib.hid (hap2.blk HXd.out HXv.out); have HXv2 := Lib.hid (hap2.ne HXlt.out HXv.out); have HC2 := Lib.hid (hap2.blk HCd.out HCv.out); have HCv2 := Lib.hid (hap2.ne HCdlt.out HCv.out); clear h2 hb2 hap2))
            | (go_at_call 54; ((with_reducible refine (add_l _ w.heap.size V2 _ HL2.out Hb2.out.size (snoc501 HLl.out) (a2, a3 + 32, a0, 4, a1) _ _ _ _ _ rfl).mono ?_); rintro e W3 ⟨V3, rfl, h2, hb2, hap2⟩; have HL3 := Lib.hid h2; have Hb3 := Lib.hid (Below.trans Hb2.out hb2); have HX3 := Lib.hid (hap2.blk HX2.out HXv2.out); have HXv3 := Lib.hid (hap2.ne HX2.out.lt HXv2.out); have HC3 := Lib.hid (hap2.blk HC2.out HCv2.out); have HCv3 := Lib.hid (hap2.ne HC2.out.lt HCv2.out); clear h2 hb2 hap2))
            | (go_at_call 54; ((with_reducible refine (add_l _ w.heap.size V3 _ HL3.out Hb3.out.size (snoc502 HLl.out) (a2, a3 + 48, a0, 5, a1) _ _ _ _ _ rfl).mono ?_); rintro e W4 ⟨V4, rfl, h2, hb2, hap2⟩; have HL4 := Lib.hid h2; have Hb4 := Lib.hid (Below.trans Hb3.out hb2); have HX4 := Lib.hid (hap2.blk HX3.out HXv3.out); have HC4 := Lib.hid (hap2.blk HC3.out HCv3.out); have HCv4 := Lib.hid (hap2.ne HC3.out.lt HCv3.out); clear h2 hb2 hap2)))
        clear t1 t2 t3
        go_wp2
        go_roundw
        case rel => exact ⟨k + 1, by omega, by go_num, Lib.hid (by rw [HFin.out]; exact HL4.out), HCv4, HC4, Hb4⟩
        case measure => simp [intOf]; omega
    · obtain rfl : k = 40 := by omega
      clear HC HNe hk hlt
      obtain ⟨wo, rfl⟩ : ∃ wo : World, wo = wr := ⟨_, rfl⟩
      go_upto_region 10 with (fail)
      refine wp_region_lit ?_
      refine Great.wpList_readTo rfl (some 70) rfl (.agg #[.int .i64 13, .int .i64 0]) (by kernel_rfl) ?_
      refine Great.wpList_readTo rfl (some 71) rfl (.agg #[.int .i64 14, .int .i64 3]) (by kernel_rfl) ?_
      refine Great.wpList_readTo rfl (some 72) rfl (.agg #[.int .i64 15, .int .i64 4]) (by kernel_rfl) ?_
      refine Great.wpList_readTo rfl (some 73) rfl (.agg #[.int .i64 16, .int .i64 6]) (by kernel_rfl) ?_
      refine Great.wpList_readTo rfl (some 74) rfl (.agg #[.int .i64 17, .int .i64 7]) (by kernel_rfl) ?_
      refine Great.wpList_readTo rfl (some 75) rfl (.agg #[.int .i64 18, .int .i64 8]) (by kernel_rfl) ?_
      refine Great.wpList_readTo rfl (some 76) rfl (.agg #[.int .i64 19, .int .i64 9]) (by kernel_rfl) ?_
      refine Great.wpList_readTo rfl (some 77) rfl (.agg #[.int .i64 20, .int .i64 10]) (by kernel_rfl) ?_
      refine Great.wpList_readTo rfl (some 78) rfl (.agg #[.int .i64 21, .int .i64 12]) (by kernel_rfl) ?_
      refine Great.wpList_readTo rfl (some 79) rfl (.agg #[.int .i64 22, .int .i64 13]) (by kernel_rfl) ?_
      refine Great.wpList_readTo rfl (some 80) rfl (.agg #[.int .i64 23, .int .i64 15]) (by kernel_rfl) ?_
      refine Great.wpList_readTo rfl (some 81) rfl (.agg #[.int .i64 32, .int .i64 14]) (by kernel_rfl) ?_
      refine Great.wpList_readTo rfl (some 82) rfl (.agg cells24) (by kernel_rfl) ?_
      refine Great.wpList_allocTo rfl (some 5) rfl (.pointer (some ⟨wo.heap.size, 0, none⟩)) (.cells zero24 117) (by kernel_rfl) ?_
      refine wpList_store_rowTo rfl 117 _ _ rfl rfl wo.heap.size cells24 (by kernel_rfl) (by kernel_rfl) 117 zero24 (heap_alloc_last wo (.cells zero24 117)) (by kernel_rfl) (by kernel_rfl) (by kernel_rfl) ?_
      refine wpList_nil ?_
      rw [World.setRow_alloc_new]
      simp only [Act.put, List.setIfInBounds_toArray, List.set_cons_zero, List.set_cons_succ]
      have HB0 := Lib.hid (Blk.new wo 117 cells24 (0, 0))
      have HL0 := Lib.hid (Lst.alloc HL.out (Obj.cells cells24 117))
      have HN0 := Lib.hid (ownsRow_new HL.out)
      have HBel0 := Lib.hid (Below.alloc0 HBel.out (Obj.cells cells24 117))
      obtain ⟨gh, hgh⟩ : ∃ gh, wo.heap.size = gh := ⟨_, rfl⟩
      obtain ⟨W, hW⟩ : ∃ W : World, wo.alloc (Obj.cells cells24 117) = W := ⟨_, rfl⟩
      rw [hgh, hW] at HB0
      rw [hW] at HL0 HBel0
      rw [hgh] at HN0
      rw [hgh, hW]
      clear hgh hW HL HBel
      go_wp2
      go_loopw [1, 6] (fun u1 u6 wr => ∃ q : Nat, q ≤ 12 ∧ u6 = .int .i64 q ∧ Hid (Lst wr w.heap.size u1 (upK colK 40 ++ upK chK q)) ∧ Hid (u1.ownBlock ≠ some gh) ∧ Hid (Blk wr gh 117 cells24) ∧ Hid (Below w.heap.size w wr)) (fun _ u6 _ => 12 - (intOf u6).toNat)
      case atStart => exact ⟨0, Nat.zero_le _, rfl, Lib.hid (by rw [show upK chK 0 = [] from rfl, List.append_nil]; exact HL0.out), HN0, HB0, HBel0⟩
      case round =>
        clear HB0 HL0 HN0 HBel0
        obtain ⟨q, hq, rfl, HL, HNe, HB, HBel⟩ := hrel
        by_cases hlt : q < 12
        · obtain ⟨m0, m1⟩ := cells24_at q hlt
          have HK := Lib.hid (show upK chK (q + 1) = upK chK q ++ chK q from rfl)
          have HLen := Lib.hid (upK_len colK 4 colK_len 40)
          have HLen2 := Lib.hid (upK_len chK 5 chK_len q)
          have l0 := pgH_lt (2 * q)
          have l1 := pgH_lt (2 * q + 1)
          have hch : chK q = [(1, pgH (2 * q + 1), pgH (2 * q), 3, 0), (1, pgH (2 * q + 1) + 96, pgH (2 * q), 4, 0), (1, pgH (2 * q + 1) + 112, pgH (2 * q), 5, 0)] ++ if pgH (2 * q) = 32 then [] else [(1, pgH (2 * q + 1) + 64, pgH (2 * q), 0, 8), (1, pgH (2 * q + 1) + 80, pgH (2 * q), 0, 9)] := rfl
          obtain ⟨a0, ha0⟩ : ∃ a, pgH (2 * q) = a := ⟨_, rfl⟩
          obtain ⟨a1, ha1⟩ : ∃ a, pgH (2 * q + 1) = a := ⟨_, rfl⟩
          rw [ha0] at m0 l0 hch
          rw [ha1] at m1 l1 hch
          have HM := Lib.hid (And.intro ((HB.out.cell (q * 2)).trans m0) ((HB.out.cell (q * 2 + 1)).trans m1))
          have HCH := Lib.hid hch
          have HQ := Lib.hid hq
          clear m0 m1 ha0 ha1 hch hq
          have q0 : (0 : Int) ≤ (q : Int) := by omega
          have q1 : (q : Int) < 12 := by omega
          have p1 : (0 : Int) ≤ (a1 : Int) := by omega
          rcases (show (((a0 : Int) != 32) = true ∧ a0 ≠ 32) ∨ (((a0 : Int) != 32) = false ∧ a0 = 32) by
            by_cases h : a0 = 32
            · right; exact ⟨by subst h; rfl, h⟩
            · left; exact ⟨by rw [bne_iff_ne]; omega, h⟩) with ⟨g0, g1⟩ | ⟨g0, g1⟩
          all_goals
            have HG := Lib.hid g1
            clear g1
            go_wp2
            go_region_held3 (fun w' => w'.cell? ⟨gh, q * 2, none⟩ = some (.int .i64 (a0 : Int)) ∧ w'.cell? ⟨gh, q * 2 + 1, none⟩ = some (.int .i64 (a1 : Int)))
              (exact ⟨HM.out.1, HM.out.2⟩) (fail)
            go_wp2_with fail
            refine (add_l _ w.heap.size _ _ (Lst.drew HL.out) (show w.heap.size ≤ wr.heap.size from HBel.out.size) (by have := HLen.out; have := HLen2.out; simp; omega) (1, a1, a0, 3, 0) _ _ _ _ _ rfl).mono ?_
            rintro e W2 ⟨V2, rfl, h2, hb2, hap2⟩
            have HL2 := Lib.hid h2
            have Hb2 := Lib.hid (Below.trans (Below.drew0 HBel.out) hb2)
            have HC2 := Lib.hid (hap2.blk (Blk.drew HB.out) HNe.out)
            have HCv2 := Lib.hid (hap2.ne (show gh < wr.heap.size from HB.out.lt) HNe.out)
            clear h2 hb2 hap2
            go_wp2_with fail
            refine (add_l _ w.heap.size _ _ HL2.out Hb2.out.size (by have := HLen.out; have := HLen2.out; simp; omega) (1, a1 + 96, a0, 4, 0) _ _ _ _ _ rfl).mono ?_
            rintro e W3 ⟨V3, rfl, h2, hb2, hap2⟩
            have HL3 := Lib.hid h2
            have Hb3 := Lib.hid (Below.trans Hb2.out hb2)
            have HC3 := Lib.hid (hap2.blk HC2.out HCv2.out)
            have HCv3 := Lib.hid (hap2.ne HC2.out.lt HCv2.out)
            clear h2 hb2 hap2
            go_wp2_with fail
            refine (add_l _ w.heap.size _ _ HL3.out Hb3.out.size (by have := HLen.out; have := HLen2.out; simp; omega) (1, a1 + 112, a0, 5, 0) _ _ _ _ _ rfl).mono ?_
            rintro e W4 ⟨V4, rfl, h2, hb2, hap2⟩
            have HL4 := Lib.hid h2
            have Hb4 := Lib.hid (Below.trans Hb3.out hb2)
            have HC4 := Lib.hid (hap2.blk HC3.out HCv3.out)
            have HCv4 := Lib.hid (hap2.ne HC3.out.lt HCv3.out)
            clear h2 hb2 hap2
          · go_wp2_with fail
            refine (add_l _ w.heap.size _ _ HL4.out Hb4.out.size (by have := HLen.out; have := HLen2.out; simp; omega) (1, a1 + 64, a0, 0, 8) _ _ _ _ _ rfl).mono ?_
            rintro e W5 ⟨V5, rfl, h2, hb2, hap2⟩
            have HL5 := Lib.hid h2
            have Hb5 := Lib.hid (Below.trans Hb4.out hb2)
            have HC5 := Lib.hid (hap2.blk HC4.out HCv4.out)
            have HCv5 := Lib.hid (hap2.ne HC4.out.lt HCv4.out)
            clear h2 hb2 hap2
            go_wp2_with fail
            refine (add_l _ w.heap.size _ _ HL5.out Hb5.out.size (by have := HLen.out; have := HLen2.out; simp; omega) (1, a1 + 80, a0, 0, 9) _ _ _ _ _ rfl).mono ?_
            rintro e W6 ⟨V6, rfl, h2, hb2, hap2⟩
            have HL6 := Lib.hid h2
            have Hb6 := Lib.hid (Below.trans Hb5.out hb2)
            have HC6 := Lib.hid (hap2.blk HC5.out HCv5.out)
            have HCv6 := Lib.hid (hap2.ne HC5.out.lt HCv5.out)
            clear h2 hb2 hap2 g0
            go_wp2
            go_roundw
            case rel => ((repeat apply Exists.intro); exact ⟨⟨q + 1, by omega, by go_num, Lib.hid (by rw [HK.out, HCH.out, if_neg HG.out]; have := HL6.out; simp only [List.append_assoc, List.cons_append, List.nil_append] at this ⊢; exact this), HCv6, HC6, Hb6⟩, rfl⟩)
            case measure => simp [intOf]; omega
          · go_wp2
            go_roundw
            case rel => ((repeat apply Exists.intro); exact ⟨⟨q + 1, by omega, by go_num, Lib.hid (by rw [HK.out, HCH.out, if_pos HG.out]; have := HL4.out; simp only [List.append_assoc, List.append_nil] at this ⊢; exact this), HCv4, HC4, Hb4⟩, rfl⟩)
            case measure => simp [intOf]; omega
        · obtain rfl : q = 12 := by omega
          clear HB HNe hq hlt
          obtain ⟨L2, hL2⟩ : ∃ L, upK colK 40 ++ upK chK 12 = L := ⟨_, rfl⟩
          rw [hL2] at HL
          have HL2len := Lib.hid (show L2.length ≤ 220 by rw [← hL2]; have := upK_len colK 4 colK_len 40; have := upK_len chK 5 chK_len 12; simp; omega)
          have HE2 := Lib.hid hL2
          clear hL2
          obtain ⟨wo, rfl⟩ : ∃ wo : World, wo = wr := ⟨_, rfl⟩
          go_wp2
          go_loopw [1, 9] (fun u1 u9 wr => ∃ q : Nat, q ≤ 16 ∧ u9 = .int .i64 q ∧ Hid (Lst wr w.heap.size u1 (L2 ++ upK brK q)) ∧ Hid (Below w.heap.size w wr)) (fun _ u9 _ => 16 - (intOf u9).toNat)
          case atStart => exact ⟨0, Nat.zero_le _, rfl, Lib.hid (by rw [show upK brK 0 = [] from rfl, List.append_nil]; exact HL.out), HBel⟩
          case round =>
            clear HL HBel
            obtain ⟨q, hq, rfl, HL, HBel⟩ := hrel
            by_cases hlt : q < 16
            · have HK := Lib.hid (show upK brK (q + 1) = upK brK q ++ ([(1, 32 + q, 34, 6, q)] ++ if 0 < q then [(2, 32 + q, 35, 7, q)] else []) from rfl)
              have HLen2 := Lib.hid (upK_len brK 2 brK_len q)
              have HQ := Lib.hid hq
              clear hq
              have q0 : (0 : Int) ≤ (q : Int) := by omega
              have q1 : (q : Int) < 16 := by omega
              rcases (show (decide (0 < q) = true ∧ 0 < q) ∨ (decide (0 < q) = false ∧ ¬ 0 < q) by
                by_cases h : 0 < q
                · left; exact ⟨decide_eq_true h, h⟩
                · right; exact ⟨decide_eq_false h, h⟩) with ⟨g0, g1⟩ | ⟨g0, g1⟩
              all_goals
                have HG := Lib.hid g1
                clear g1
                go_wp2_with fail
                refine (add_l _ w.heap.size _ _ HL.out HBel.out.size (by have := HL2len.out; have := HLen2.out; simp; omega) (1, 32 + q, 34, 6, q) _ _ _ _ _ rfl).mono ?_
                rintro e W2 ⟨V2, rfl, h2, hb2, hap2⟩
                have HL2 := Lib.hid h2
                have Hb2 := Lib.hid (Below.trans HBel.out hb2)
                clear h2 hb2 hap2
              · go_wp2_with fail
                refine (add_l _ w.heap.size _ _ HL2.out Hb2.out.size (by have := HL2len.out; have := HLen2.out; simp; omega) (2, 32 + q, 35, 7, q) _ _ _ _ _ rfl).mono ?_
                rintro e W3 ⟨V3, rfl, h2, hb2, hap2⟩
                have HL3 := Lib.hid h2
                have Hb3 := Lib.hid (Below.trans Hb2.out hb2)
                clear h2 hb2 hap2 g0
                go_wp2
                go_roundw
                case rel => ((repeat apply Exists.intro); exact ⟨⟨q + 1, by omega, by go_num, Lib.hid (by rw [HK.out, if_pos HG.out]; have := HL3.out; simp only [List.append_assoc, List.cons_append, List.nil_append] at this ⊢; exact this), Hb3⟩, rfl⟩)
                case measure => simp [intOf]; omega
              · go_wp2
                go_roundw
                case rel => ((repeat apply Exists.intro); exact ⟨⟨q + 1, by omega, by go_num, Lib.hid (by rw [HK.out, if_neg HG.out]; have := HL2.out; simp only [List.append_assoc, List.append_nil] at this ⊢; exact this), Hb2⟩, rfl⟩)
                case measure => simp [intOf]; omega
            · obtain rfl : q = 16 := by omega
              clear hq hlt
              obtain ⟨L3, hL3⟩ : ∃ L, L2 ++ upK brK 16 = L := ⟨_, rfl⟩
              rw [hL3] at HL
              have HL3len := Lib.hid (show L3.length ≤ 252 by rw [← hL3]; have := HL2len.out; have := upK_len brK 2 brK_len 16; simp; omega)
              have HE3 := Lib.hid hL3
              clear hL3
              obtain ⟨wo, rfl⟩ : ∃ wo : World, wo = wr := ⟨_, rfl⟩
              go_upto_region 24 with (fail)
              refine wp_region_lit ?_
              refine Great.wpList_readTo rfl (some 134) rfl (.agg #[.int .i64 1, .int .i64 18, .int .i64 39, .int .i64 0, .int .i64 0]) (by kernel_rfl) ?_
              refine Great.wpList_readTo rfl (some 135) rfl (.agg #[.int .i64 1, .int .i64 19, .int .i64 40, .int .i64 0, .int .i64 0]) (by kernel_rfl) ?_
              refine Great.wpList_readTo rfl (some 136) rfl (.agg #[.int .i64 1, .int .i64 25, .int .i64 42, .int .i64 0, .int .i64 0]) (by kernel_rfl) ?_
              refine Great.wpList_readTo rfl (some 137) rfl (.agg #[.int .i64 1, .int .i64 29, .int .i64 45, .int .i64 0, .int .i64 0]) (by kernel_rfl) ?_
              refine Great.wpList_readTo rfl (some 138) rfl (.agg #[.int .i64 1, .int .i64 57, .int .i64 48, .int .i64 0, .int .i64 0]) (by kernel_rfl) ?_
              refine Great.wpList_readTo rfl (some 139) rfl (.agg #[.int .i64 1, .int .i64 58, .int .i64 1, .int .i64 0, .int .i64 0]) (by kernel_rfl) ?_
              refine Great.wpList_readTo rfl (some 140) rfl (.agg #[.int .i64 1, .int .i64 59, .int .i64 49, .int .i64 0, .int .i64 0]) (by kernel_rfl) ?_
              refine Great.wpList_readTo rfl (some 141) rfl (.agg #[.int .i64 1, .int .i64 61, .int .i64 50, .int .i64 0, .int .i64 0]) (by kernel_rfl) ?_
              refine Great.wpList_readTo rfl (some 142) rfl (.agg #[.int .i64 1, .int .i64 63, .int .i64 51, .int .i64 0, .int .i64 1]) (by kernel_rfl) ?_
              refine Great.wpList_readTo rfl (some 143) rfl (.agg #[.int .i64 2, .int .i64 63, .int .i64 51, .int .i64 0, .int .i64 2]) (by kernel_rfl) ?_
              refine Great.wpList_readTo rfl (some 144) rfl (.agg #[.int .i64 3, .int .i64 63, .int .i64 51, .int .i64 0, .int .i64 3]) (by kernel_rfl) ?_
              refine Great.wpList_readTo rfl (some 145) rfl (.agg #[.int .i64 1, .int .i64 26, .int .i64 43, .int .i64 1, .int .i64 0]) (by kernel_rfl) ?_
              refine Great.wpList_readTo rfl (some 146) rfl (.agg #[.int .i64 1, .int .i64 28, .int .i64 44, .int .i64 1, .int .i64 0]) (by kernel_rfl) ?_
              refine Great.wpList_readTo rfl (some 147) rfl (.agg #[.int .i64 1, .int .i64 60, .int .i64 41, .int .i64 1, .int .i64 0]) (by kernel_rfl) ?_
              refine Great.wpList_readTo rfl (some 148) rfl (.agg #[.int .i64 1, .int .i64 30, .int .i64 46, .int .i64 8, .int .i64 0]) (by kernel_rfl) ?_
              refine Great.wpList_readTo rfl (some 149) rfl (.agg #[.int .i64 1, .int .i64 31, .int .i64 47, .int .i64 8, .int .i64 0]) (by kernel_rfl) ?_
              refine Great.wpList_readTo rfl (some 150) rfl (.agg #[.int .i64 1, .int .i64 52, .int .i64 30, .int .i64 9, .int .i64 4]) (by kernel_rfl) ?_
              refine Great.wpList_readTo rfl (some 151) rfl (.agg #[.int .i64 1, .int .i64 53, .int .i64 31, .int .i64 9, .int .i64 4]) (by kernel_rfl) ?_
              refine Great.wpList_readTo rfl (some 152) rfl (.agg #[.int .i64 1, .int .i64 54, .int .i64 30, .int .i64 9, .int .i64 3]) (by kernel_rfl) ?_
              refine Great.wpList_readTo rfl (some 153) rfl (.agg #[.int .i64 1, .int .i64 55, .int .i64 31, .int .i64 9, .int .i64 3]) (by kernel_rfl) ?_
              refine Great.wpList_readTo rfl (some 154) rfl (.agg #[.int .i64 1, .int .i64 48, .int .i64 29, .int .i64 4, .int .i64 1]) (by kernel_rfl) ?_
              refine Great.wpList_readTo rfl (some 155) rfl (.agg #[.int .i64 1, .int .i64 49, .int .i64 29, .int .i64 4, .int .i64 2]) (by kernel_rfl) ?_
              refine Great.wpList_readTo rfl (some 156) rfl (.agg #[.int .i64 1, .int .i64 50, .int .i64 29, .int .i64 4, .int .i64 4]) (by kernel_rfl) ?_
              refine Great.wpList_readTo rfl (some 157) rfl (.agg #[.int .i64 1, .int .i64 51, .int .i64 29, .int .i64 4, .int .i64 3]) (by kernel_rfl) ?_
              refine Great.wpList_readTo rfl (some 158) rfl (.agg #[.int .i64 1, .int .i64 141, .int .i64 37, .int .i64 6, .int .i64 0]) (by kernel_rfl) ?_
              refine Great.wpList_readTo rfl (some 159) rfl (.agg #[.int .i64 1, .int .i64 22, .int .i64 36, .int .i64 7, .int .i64 0]) (by kernel_rfl) ?_
              refine Great.wpList_readTo rfl (some 160) rfl (.agg #[.int .i64 1, .int .i64 23, .int .i64 38, .int .i64 7, .int .i64 0]) (by kernel_rfl) ?_
              refine Great.wpList_readTo rfl (some 161) rfl (.agg cells135) (by kernel_rfl) ?_
              refine Great.wpList_allocTo rfl (some 10) rfl (.pointer (some ⟨wo.heap.size, 0, none⟩)) (.cells zero135 118) (by kernel_rfl) ?_
              refine wpList_store_rowTo rfl 118 _ _ rfl rfl wo.heap.size cells135 (by kernel_rfl) (by kernel_rfl) 118 zero135 (heap_alloc_last wo (.cells zero135 118)) (by kernel_rfl) (by kernel_rfl) (by kernel_rfl) ?_
              refine wpList_nil ?_
              rw [World.setRow_alloc_new]
              simp only [Act.put, List.setIfInBounds_toArray, List.set_cons_zero, List.set_cons_succ]
              have HB0 := Lib.hid (Blk.new wo 118 cells135 (0, 0))
              have HL0 := Lib.hid (Lst.alloc HL.out (Obj.cells cells135 118))
              have HN0 := Lib.hid (ownsRow_new HL.out)
              have HBel0 := Lib.hid (Below.alloc0 HBel.out (Obj.cells cells135 118))
              obtain ⟨gh, hgh⟩ : ∃ gh, wo.heap.size = gh := ⟨_, rfl⟩
              obtain ⟨W, hW⟩ : ∃ W : World, wo.alloc (Obj.cells cells135 118) = W := ⟨_, rfl⟩
              rw [hgh, hW] at HB0
              rw [hW] at HL0 HBel0
              rw [hgh] at HN0
              rw [hgh, hW]
              clear hgh hW HL HBel
              go_wp2
              go_loopw [1, 11] (fun u1 u11 wr => ∃ q : Nat, q ≤ 27 ∧ u11 = .int .i64 q ∧ Hid (Lst wr w.heap.size u1 (L3 ++ upK othK q)) ∧ Hid (u1.ownBlock ≠ some gh) ∧ Hid (Blk wr gh 118 cells135) ∧ Hid (Below w.heap.size w wr)) (fun _ u11 _ => 27 - (intOf u11).toNat)
              case atStart => exact ⟨0, Nat.zero_le _, rfl, Lib.hid (by rw [show upK othK 0 = [] from rfl, List.append_nil]; exact HL0.out), HN0, HB0, HBel0⟩
              case round =>
                clear HB0 HL0 HN0 HBel0
                obtain ⟨q, hq, rfl, HL, HNe, HB, HBel⟩ := hrel
                by_cases hlt : q < 27
                · have C0 := (HB.out.cell (q * 5)).trans (cells135_at q 0 hlt (by decide))
                  have C1 := (HB.out.cell (q * 5 + 1)).trans (cells135_at q 1 hlt (by decide))
                  have C2 := (HB.out.cell (q * 5 + 2)).trans (cells135_at q 2 hlt (by decide))
                  have C3 := (HB.out.cell (q * 5 + 3)).trans (cells135_at q 3 hlt (by decide))
                  have C4 := (HB.out.cell (q * 5 + 4)).trans (cells135_at q 4 hlt (by decide))
                  simp only [Nat.add_zero] at C0
                  have hk := (show upK othK (q + 1) = upK othK q ++ [(pgO (5 * q), pgO (5 * q + 1), pgO (5 * q + 2), pgO (5 * q + 3), pgO (5 * q + 4))] from rfl)
                  have HLen2 := Lib.hid (upK_len othK 1 othK_len q)
                  obtain ⟨a0, ha0⟩ : ∃ a, pgO (5 * q) = a := ⟨_, rfl⟩
                  obtain ⟨a1, ha1⟩ : ∃ a, pgO (5 * q + 1) = a := ⟨_, rfl⟩
                  obtain ⟨a2, ha2⟩ : ∃ a, pgO (5 * q + 2) = a := ⟨_, rfl⟩
                  obtain ⟨a3, ha3⟩ : ∃ a, pgO (5 * q + 3) = a := ⟨_, rfl⟩
                  obtain ⟨a4, ha4⟩ : ∃ a, pgO (5 * q + 4) = a := ⟨_, rfl⟩
                  rw [ha0] at C0
                  rw [ha1] at C1
                  rw [ha2] at C2
                  rw [ha3] at C3
                  rw [ha4] at C4
                  rw [ha0, ha1, ha2, ha3, ha4] at hk
                  have HK := Lib.hid hk
                  have HQ := Lib.hid hq
                  clear ha0 ha1 ha2 ha3 ha4 hk hq
                  have q0 : (0 : Int) ≤ (q : Int) := by omega
                  have q1 : (q : Int) < 27 := by omega
                  go_wp2_with fail
                  refine (add_l _ w.heap.size _ _ (Lst.alloc HL.out _) (by have := HBel.out.size; simp; omega) (by have := HL3len.out; have := HLen2.out; simp; omega) (a0, a1, a2, a3, a4) _ _ _ _ _ rfl).mono ?_
                  rintro e W2 ⟨V2, rfl, h2, hb2, hap2⟩
                  have HL2 := Lib.hid h2
                  have Hb2 := Lib.hid ((Below.alloc0 HBel.out _).trans hb2)
                  have HC2 := Lib.hid (hap2.blk (Blk.alloc HB.out _) HNe.out)
                  have HCv2 := Lib.hid (hap2.ne (by have := HB.out.lt; simp; omega) HNe.out)
                  clear h2 hb2 hap2 C0 C1 C2 C3 C4
                  go_wp2
                  go_roundw
                  case rel => ((repeat apply Exists.intro); exact ⟨⟨q + 1, by omega, by go_num, Lib.hid (by rw [HK.out]; have := HL2.out; simp only [List.append_assoc] at this ⊢; exact this), HCv2, HC2, Hb2⟩, rfl⟩)
                  case measure => simp [intOf]; omega
                · obtain rfl : q = 27 := by omega
                  go_wp2
                  go_ret
                  exact ⟨_, rfl, by have := HL.out; rw [← HE3.out, ← HE2.out] at this; exact this, HBel.out⟩
end Go.Proofs.YtljhfalgplihhaaGreatDoor
