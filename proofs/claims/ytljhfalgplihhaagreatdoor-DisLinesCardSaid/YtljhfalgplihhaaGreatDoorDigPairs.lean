/- The contracts of package digit's Pairs and Unpair. -/
import Derived.Test.YtljhfalgplihhaaGreatDoorGDig
import Derived.Test.YtljhfalgplihhaaGreatDoorEq
import Derived.Deep.RegionHeld3
import Derived.Deep.AppendLies
import Derived.Outline
namespace Go.Proofs.YtljhfalgplihhaaGreatDoor
open Go.ChangeShapes Go.WideShapes Go.ChangeAt Go.RowKit
set_option linter.unusedVariables false
def pairsTo (zs : List Int) (k : Nat) : List Int := (zs.take k).flatMap fun x => [sg (x / 16), sg (x % 16)]
def pairsOf (zs : List Int) : List Int := zs.flatMap fun x => [sg (x / 16), sg (x % 16)]
theorem pairsTo_next (zs : List Int) (k : Nat) (h : k < zs.length) : pairsTo zs (k + 1) = pairsTo zs k ++ [sg (iat zs k / 16), sg (iat zs k % 16)] := by
  unfold pairsTo
  rw [List.take_succ_eq_append_getElem h, List.flatMap_append, iat_eq _ _ h]; simp
theorem pairsTo_len (zs : List Int) (k : Nat) (h : k ≤ zs.length) : (pairsTo zs k).length = 2 * k := by
  induction k with
  | zero => simp [pairsTo]
  | succ k ih => rw [pairsTo_next zs k (by omega), List.length_append, ih (by omega)]; simp; omega
theorem and15 (x : Int) (h0 : 0 ≤ x) (h1 : x < 256) : bits .and .u8 x 15 = x % 16 := by
  have := bits_mask .u8 8 (by decide) (fun n h0 h1 => by rw [IntKind.wrap_u8]; omega) 4 (by omega) x h0 (by omega)
  simpa using this
theorem pairsOf_wf (zs : List Int) (h : ∀ z ∈ zs, (Lit.int .u8 z).wf = true) : ∀ z ∈ pairsOf zs, (Lit.int .u8 z).wf = true := by
  intro z hz
  simp only [pairsOf, List.mem_flatMap] at hz
  obtain ⟨y, hy, hz⟩ := hz
  have := bounds_u8 (h y hy)
  have key : ∀ d, 0 ≤ d → d < 16 → (Lit.int .u8 (sg d)).wf = true := fun d h0 h1 => by
    have := sg_val d h0 h1
    simp [Lit.wf, IntKind.min, IntKind.max, IntKind.signed, IntKind.bits]; omega
  simp at hz
  rcases hz with rfl | rfl
  · exact key _ (by omega) (by omega)
  · exact key _ (by omega) (by omega)
set_option maxRecDepth 100000 in
set_option maxHeartbeats 1000000 in
theorem pairs_any (A : Option Addr) (n c : Nat) (zs : List Int) (w : World) (h : Ints .u8 w w.heap.size A n zs) (hn : n ≤ 1099511627) :
    Calls Tryz.prog 25 #[.slice A n c] w fun e w' => e = .returned (.string (strOfNums (pairsOf zs))) ∧ Below w.heap.size w w' := by
  have HL := Lib.hid h.1
  have H := Lib.hid h
  clear h
  obtain ⟨wm, vm, hmk, hown0, hg0, hsz0⟩ := make_own8 w w.heap.size (2 * n) (by omega) (Nat.le_refl _)
  have hmk' : (Instr.makeSlice 22 (.int .i64 0) (.int .i64 (2 * (n : Int)))).run Tryz.prog w = .ok vm wm := by
    rw [← hmk]; congr 1
  have hb0 : Below w.heap.size w wm := below_own hg0 (fun g hg => by cases hg) (Nat.le_refl _)
  have O0 := Lib.hid hown0
  clear hmk hown0 hg0
  go_enter Tryz.func25, Tryz.ntmps25
  go_wp2
  clear hmk'
  go_loopw [3, 12] (fun v i wr => ∃ k : Nat, k ≤ n ∧ i = .int .i64 k ∧ Hid (Own .u8 5 wr w.heap.size v (pairsTo zs k)) ∧ Below w.heap.size w wr) (fun _ i _ => n - (intOf i).toNat)
  case atStart => exact ⟨0, by omega, rfl, O0, hb0⟩
  case round =>
    obtain ⟨k, hk, rfl, hown, hbel⟩ := hrel
    have hsz := hbel.size
    by_cases hlt : k < n
    · obtain ⟨b, off, rfl, hb, hcell⟩ := H.out.2.2 (by omega)
      have hk1 := (hbel.cell (p := ⟨b, off + k, none⟩) hb).trans (hcell k hlt)
      have r1 := bounds_u8 (iat_wf H.out.2.1 k (by rw [HL.out]; exact hlt))
      obtain ⟨r10, r11⟩ := r1
      have hwn := Lib.hid (pairsTo_next zs k (by rw [HL.out]; exact hlt))
      have HWL := Lib.hid (pairsTo_len zs k (by rw [HL.out]; omega))
      have hsg := sign_at
      have ha := and15 (iat zs k) r10 (by omega)
      have m1 : max (iat zs k / 16) 0 = iat zs k / 16 := by omega
      have m2 : max (iat zs k % 16) 0 = iat zs k % 16 := by omega
      clear hcell
      go_wp2
      go_region_held3 (fun _ => True) (exact trivial)
        ((refine step_app8 (by rfl) _ _ _ (by rfl) w.heap.size u3 (pairsTo zs k) (by rfl) ((hown.out.alloc _).drew)
            ⟨wr.heap.size, 0, none⟩ 2 2 [sg (iat zs k / 16), sg (iat zs k % 16)] (by rfl) (by rfl) (cells_new _ _ _ _ _ _ rfl (heap_alloc_new wr _)) (by rw [HWL.out]; simp; omega) (by simp; omega) ?_; intro v1 w1 ho1 hb1 hg1))
      all_goals
        have HO : Hid (Own .u8 5 w1 w.heap.size v1 (pairsTo zs (k + 1))) := Lib.hid (by rw [hwn.out]; exact ho1)
        clear ho1
        go_wp2
        go_roundw
        case rel => exact ⟨k + 1, by omega, by go_num, HO, ((hbel.alloc hsz _).drew).trans hb1⟩
        case measure => simp [intOf]; omega
    · have hfin : Hid (pairsTo zs k = pairsOf zs) := Lib.hid (by unfold pairsTo pairsOf; rw [List.take_of_length_le (by rw [HL.out]; omega)])
      rw [hfin.out] at hown
      have hwf : ∀ z ∈ pairsOf zs, (Lit.int .u8 z).wf = true := pairsOf_wf zs H.out.2.1
      obtain ⟨A1, c1, rfl, hI⟩ := hown.out.ints hwf
      have hcv := bytes_str A1 _ c1 _ _ wr hI
      go_wp2
      go_ret
      exact ⟨rfl, hbel⟩
theorem Ints.lit {k : IntKind} (w : World) (xs : List Int) (t : TypeId) (cs : Array Value) (hcs : cs = (xs.map (Value.int k)).toArray) (hwf : ∀ z ∈ xs, (Lit.int k z).wf = true) (g B n : Nat) (hg : g = w.heap.size) (hB : g < B) (hn : n = xs.length) :
    Ints k (w.alloc (.cells cs t)) B (some ⟨g, 0, none⟩) n xs := by
  subst hn
  refine ⟨rfl, hwf, fun _ => ⟨g, 0, rfl, hB, fun i hi => ?_⟩⟩
  have := cells_lit w xs k t g hg cs hcs i (.int k (iat xs i)) (by rw [List.getElem?_map, List.getElem?_eq_getElem hi, iat_eq _ _ hi]; rfl)
  rw [← this]
  unfold Addr.add; split <;> simp_all
end Go.Proofs.YtljhfalgplihhaaGreatDoor
