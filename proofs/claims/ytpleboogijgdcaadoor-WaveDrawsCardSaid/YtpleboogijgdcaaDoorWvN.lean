/- Wave: the levels of a record's lines (numbers), and the contract of wave.Line. -/
import Derived.Test.YtpleboogijgdcaaDoorRcB
import Derived.Test.YtpleboogijgdcaaDoorRwF
namespace Go.Proofs.YtpleboogijgdcaaDoor
open Go.ChangeShapes Go.WideShapes Go.ChangeAt Go.RowKit
set_option linter.unusedVariables false

def wvB (x : Rc) (k : Nat) : Bool := match k with | 0 => x.r | 1 => x.b1 | 2 => x.b2 | 3 => x.b3 | 4 => x.b4 | 5 => x.b5 | 6 => x.m | _ => false
def wvC (x : Rc) (k : Nat) : Int := if wvB x k then 35 else 95
/-- A line: its levels; none, if there is no such. -/
def wvL (k : Int) (l : List Rc) : List Int := if k < 0 ∨ 6 < k then [] else l.map fun x => wvC x k.toNat
def wvQ (k : Nat) (l : List Rc) (n i : Nat) : Int := if i < n then (match l[i]? with | some x => wvC x k | none => 0) else 0
theorem wvQ_next (k : Nat) (l : List Rc) (n : Nat) (x : Rc) (h : l[n]? = some x) : rwU (wvQ k l n) n (wvC x k) = wvQ k l (n + 1) := by
  funext j
  unfold rwU wvQ
  by_cases e : j = n
  · subst e; rw [if_pos rfl, if_pos (by omega), h]
  · rw [if_neg e]
    by_cases e2 : j < n
    · rw [if_pos e2, if_pos (by omega)]
    · rw [if_neg e2, if_neg (by omega)]
theorem wvQ_all (k : Nat) (l : List Rc) : rwL (wvQ k l l.length) l.length = l.map fun x => wvC x k := by
  apply List.ext_getElem (by rw [rwL_len, List.length_map])
  intro j h1 h2
  rw [rwL_len] at h1
  simp only [rwL, List.getElem_map, List.getElem_range, wvQ, if_pos h1, List.getElem?_eq_getElem h1]
theorem wvL_at (k : Nat) (hk : k < 7) (l : List Rc) : wvL (k : Int) l = l.map fun x => wvC x k := by
  unfold wvL
  rw [if_neg (by omega), Int.toNat_natCast]
set_option maxRecDepth 100000 in
theorem wvOf_any (x : Rc) (w : World) : Calls Tryd.prog 19 #[.agg x.cells] w fun e w' => e = .returned (.agg x.lv) ∧ Below w.heap.size w w' := by
  go_enter Tryd.func19, Tryd.ntmps19
  go_wp2
  refine bodyPost_ret (v := .agg x.lv) (by simp [results, Tryd.results19, go_sem]) rfl ⟨rfl, by repeat (first | exact Below.refl _ _ | apply Below.alloc0)⟩
theorem wv_index (x : Rc) (K : Nat) (hK : K < 7) (u : World) : (Instr.index 39 (.agg x.lv) (.int .i64 (K : Int))).run Tryd.prog u = .ok (.bool (wvB x K)) u := by
  rcases (show K = 0 ∨ K = 1 ∨ K = 2 ∨ K = 3 ∨ K = 4 ∨ K = 5 ∨ K = 6 by omega) with rfl | rfl | rfl | rfl | rfl | rfl | rfl
  all_goals go_simp
  all_goals rfl
set_option maxRecDepth 100000 in
set_option maxHeartbeats 4000000 in
theorem wvLine_any (k : Int) (hk0 : -9223372036854775808 ≤ k) (hk1 : k ≤ 9223372036854775807) (v : Value) (l : List Rc) (w : World) (h : eR.Rd w v l) (hn : l.length ≤ 1000000) :
    Calls Tryd.prog 9 #[.int .i64 k, v] w fun e w' => e = .returned (.string (strOfNums (wvL k l))) ∧ Below w.heap.size w w' := by
  obtain ⟨A, c, rfl, hc⟩ := h.open_
  unfold wvL
  by_cases hk : k < 0 ∨ 6 < k
  · rw [if_pos hk]
    generalize l.length = n at *
    clear h hc
    by_cases h1 : k < 0
    · go_enter Tryd.func9, Tryd.ntmps9
      go_wp2
      go_ret
      exact ⟨rfl, Below.refl _ _⟩
    · have h2 : 7 ≤ k := by omega
      go_enter Tryd.func9, Tryd.ntmps9
      go_wp2
      go_ret
      exact ⟨rfl, Below.refl _ _⟩
  · obtain ⟨K, rfl⟩ : ∃ K : Nat, k = (K : Int) := ⟨k.toNat, by omega⟩
    have hK : K < 7 := by omega
    rw [if_neg hk, Int.toNat_natCast]
    have EA := Lib.hid (wvQ_all K l)
    obtain ⟨n, hl⟩ : ∃ n, l.length = n := ⟨_, rfl⟩
    rw [hl] at hc hn EA ⊢
    have HL := Lib.hid hl
    have HC := Lib.hid hc
    have HMK := rwMade w n hn
    have t1 : ¬ (K : Int) < 0 := by omega
    have t2 : ¬ (7 : Int) ≤ K := by omega
    have t3 : (0 : Int) ≤ K := by omega
    have t4 : (K : Int) < 7 := by omega
    have B0 : Hid (Blk (w.alloc (.cells (rwF (fun _ => 0) n) 5)) w.heap.size 5 (rwF (wvQ K l 0) n)) := Lib.hid (Blk.new w _ _ _)
    have W0 : Hid (Below w.heap.size w (w.alloc (.cells (rwF (fun _ => 0) n) 5))) := Lib.hid (Below.alloc0 (Below.refl _ _) _)
    clear h hc hl hk hk0 hk1
    go_enter Tryd.func9, Tryd.ntmps9
    go_wp2
    generalize w.alloc (.cells (rwF (fun _ => 0) n) 5) = w1 at B0 W0 ⊢
    go_loopw [19] (fun i wr => ∃ k : Nat, k ≤ n ∧ i = .int .i64 k ∧ Hid (Blk wr w.heap.size 5 (rwF (wvQ K l k) n)) ∧ Hid (Below w.heap.size w wr)) (fun i _ => n - (intOf i).toNat)
    case atStart => exact ⟨0, Nat.zero_le _, rfl, B0, W0⟩
    case round =>
      obtain ⟨k, hk, rfl, hB, hW⟩ := hrel
      by_cases hlt : k < n
      · obtain ⟨g, off, rfl, hg, hcell⟩ := HC.out (by omega)
        obtain ⟨x, hx⟩ : ∃ x, l[k]? = some x := ⟨_, List.getElem?_eq_getElem (by rw [HL.out]; exact hlt)⟩
        obtain ⟨d0, d1, d2, d3, d4, d5, d6, d7, d8⟩ := rc9_at hW.out hg (fun jj u hu => hcell k x hx jj u hu)
        have NX := Lib.hid (wvQ_next K l k x hx)
        have CO := Lib.hid (fun u => wvOf_any x u)
        have IX := wv_index x K hK
        have k0 : (0 : Int) ≤ k := by omega
        have k1 : (k : Int) < n := by omega
        have H1 : Hid (Blk (wr.alloc (.cells x.cells 30)) w.heap.size 5 (rwF (wvQ K l k) n)) := Lib.hid (Blk.alloc hB.out _)
        have X0 : (wr.alloc (.cells x.cells 30)).cell? ⟨w.heap.size, k, none⟩ = some (.int .u8 (wvQ K l k k)) := by rw [H1.out.cell]; exact rwF_at _ _ _ hlt
        have X1 := H1.out.frozen k
        have H2 : Hid (Blk ((wr.alloc (.cells x.cells 30)).setCell ⟨w.heap.size, k, none⟩ (.int .u8 95)) w.heap.size 5 (rwF (rwU (wvQ K l k) k 95) n)) := Lib.hid (by rw [← rwF_set _ _ _ _ hlt]; exact Blk.set_ H1.out _ _)
        have W2 : Hid (Below w.heap.size w ((wr.alloc (.cells x.cells 30)).setCell ⟨w.heap.size, k, none⟩ (.int .u8 95))) := Lib.hid (Below.set0 (Below.alloc0 hW.out _) (Nat.le_refl _) _)
        have SL : Hid (w.heap.size < wr.heap.size) := Lib.hid hB.out.lt
        have K2 : Hid (Blk ((wr.alloc (.cells x.cells 30)).setCell ⟨w.heap.size, k, none⟩ (.int .u8 95)) wr.heap.size 30 x.cells) := Lib.hid (Blk.far (Blk.new _ _ _ _) (by have := SL.out; show wr.heap.size ≠ w.heap.size; omega) _)
        obtain ⟨p0, p1, p2, p3, p4, p5, p6, p7, p8⟩ := Blk.c9 K2.out
        clear hcell hx
        go_wp2_with fail
        refine (CO.out _).mono ?_
        rintro e w3 ⟨rfl, hb3⟩
        have W3 := Lib.hid (Below.trans0 W2.out hb3)
        have H3 := Lib.hid (Blk.below H2.out hb3 H2.out.lt)
        clear hb3 d0 d1 d2 d3 d4 d5 d6 d7 d8 p0 p1 p2 p3 p4 p5 p6 p7 p8 X0 X1
        have q3 : w3.cell? ⟨w.heap.size, k, none⟩ = some (.int .u8 95) := by rw [H3.out.cell, rwF_at _ _ _ hlt]; simp [rwU]
        have f3 := H3.out.frozen k
        obtain ⟨q, hq⟩ : ∃ q, wvB x K = q := ⟨_, rfl⟩
        have EC : Hid (wvC x K = if q then 35 else 95) := Lib.hid (by unfold wvC; rw [hq])
        simp only [hq] at IX
        clear hq
        cases q
        case false =>
          have H4 : Hid (Blk w3 w.heap.size 5 (rwF (wvQ K l (k + 1)) n)) := Lib.hid (by rw [← NX.out, EC.out]; exact H3.out)
          go_wp2
          go_roundw
          case rel => exact ⟨k + 1, by omega, by go_num, H4, W3⟩
          case measure => simp [intOf]; omega
        case true =>
          have H4 : Hid (Blk (w3.setCell ⟨w.heap.size, k, none⟩ (.int .u8 35)) w.heap.size 5 (rwF (wvQ K l (k + 1)) n)) := Lib.hid (by
            have := Blk.set_ H3.out k (.int .u8 35)
            rw [rwF_set _ _ _ _ hlt] at this
            rw [← NX.out, EC.out]
            have e : rwU (rwU (wvQ K l k) k 95) k 35 = rwU (wvQ K l k) k (if true = true then 35 else 95) := by funext j; unfold rwU; by_cases z : j = k <;> simp [z]
            rw [← e]; exact this)
          have W4 : Hid (Below w.heap.size w (w3.setCell ⟨w.heap.size, k, none⟩ (.int .u8 35))) := Lib.hid (Below.set0 W3.out (Nat.le_refl _) _)
          go_wp2
          go_roundw
          case rel => exact ⟨k + 1, by omega, by go_num, H4, W4⟩
          case measure => simp [intOf]; omega
      · obtain rfl : k = n := by omega
        have ST := rwStr (c := k) hB.out
        rw [EA.out] at ST
        go_wp2
        go_ret
        exact ⟨rfl, hW.out⟩
end Go.Proofs.YtpleboogijgdcaaDoor
