/- The contract of package adder's Chain: any two numbers of as many bytes. -/
import Derived.Test.YtdkghfapmoikdaaRow8
namespace Go.Proofs.Ytdkghfapmoikdaa
open Go.ChangeShapes Go.WideShapes Go.ChangeAt Go.RowKit
set_option linter.unusedVariables false

def addD (a b c : Int) : Int := (a + b + c) % 256
/-- A call that answers a new row of bytes, codes and an error's number, and writes nothing that was there. -/
def GivesCh (w : World) (n : Nat) (zs : List Int) (cc er : Int) (e : Ending) (w' : World) : Prop :=
  ∃ g, e = .returned (.tuple #[.slice (some ⟨g, 0, none⟩) n n, .int .u8 cc, .int .i64 er]) ∧ w.heap.size ≤ g ∧ Row8 w' g zs ∧ Below w.heap.size w w'
theorem chainA_no (A A' : Option Addr) (n c n' c' : Nat) (cc : Int) (w : World) (hne : n ≠ n') (hn : n ≤ 60) (hn' : n' ≤ 60) :
    Calls Try.prog 19 #[.slice A n c, .slice A' n' c', .int .u8 cc] w fun e w' => e = .returned (.tuple #[.slice none 0 0, .int .u8 0, .int .i64 12]) ∧ w = w' := by
  have h1 : ((n : Int) != (n' : Int)) = true := by simp; omega
  go_enter Try.func19, Try.ntmps19
  go_wp2
  go_ret3
  exact ⟨rfl, rfl⟩
set_option maxRecDepth 100000 in
set_option maxHeartbeats 4000000 in
theorem chainA_any (A A' : Option Addr) (n c c' : Nat) (xs ys : List Int) (cc : Int) (w : World) (h : Ints .u8 w w.heap.size A n xs) (h' : Ints .u8 w w.heap.size A' n ys) (hn : n ≤ 60) (hcc : CC cc) :
    Calls Try.prog 19 #[.slice A n c, .slice A' n c', .int .u8 cc] w (GivesCh w n (outL (dig addC addD xs ys n cc) n n) (chCC addC xs ys n cc n) 0) := by
  have HL := Lib.hid h.1
  have HL' := Lib.hid h'.1
  have H := Lib.hid h
  have H' := Lib.hid h'
  clear h h'
  have hmk := make_row8 w n (by omega)
  have h1 : ((n : Int) != (n : Int)) = false := by simp
  have hg : Hid (w.heap.size ≤ w.heap.size) := Lib.hid (Nat.le_refl _)
  have hrow : Hid (Row8 (w.alloc (.cells (cells8 (List.replicate n 0)) 5)) w.heap.size (outL (dig addC addD xs ys n cc) n 0)) := Lib.hid (by rw [outL_zero]; exact Blk.new w _ _ _)
  go_enter Try.func19, Try.ntmps19
  go_wp2
  clear hmk
  go_loopw [2, 10, 11] (fun f s i wr => ∃ (p : Nat) (x : Int), p ≤ n ∧ i = .int .i64 x ∧ Hid (x = (p : Int) - 1) ∧ f = .int .u8 (chCC addC xs ys n cc (n - p)) ∧ ((p = n ∧ s = .func (.func 15) #[] #[]) ∨ (p < n ∧ s = .func (.func 17) #[] #[])) ∧ Hid (Row8 wr w.heap.size (outL (dig addC addD xs ys n cc) n (n - p))) ∧ Below w.heap.size w wr) (fun _ _ i _ => (intOf i + 1).toNat)
  case atStart => exact ⟨n, _, Nat.le_refl _, rfl, Lib.hid rfl, by rw [Nat.sub_self]; rfl, .inl ⟨rfl, rfl⟩, by rw [Nat.sub_self]; exact hrow, Below.alloc0 (Below.refl _ _) _⟩
  case round =>
    obtain ⟨p, x, hm, rfl, hx, rfl, hs, hR, hbel⟩ := hrel
    have hok := chCC_ok (K := addC) (fun _ _ _ _ h => CC.add h _ _ _) xs ys n cc hcc (n - p)
    rcases p with _ | q
    · obtain rfl : x = -1 := by have := hx.out; omega
      have hR' : Row8 wr w.heap.size (outL (dig addC addD xs ys n cc) n n) := hR.out
      have HR := Lib.hid hR'
      clear hR' hR hrow
      go_wp2
      go_ret3
      exact ⟨w.heap.size, rfl, Nat.le_refl _, HR.out, hbel⟩
    · obtain rfl : x = (q : Int) := by have := hx.out; omega
      obtain ⟨b, off, rfl, hb, hcell⟩ := H.out.2.2 (by omega)
      obtain ⟨b', off', rfl, hb', hcell'⟩ := H'.out.2.2 (by omega)
      have hk1 := (hbel.cell (p := ⟨b, off + q, none⟩) hb).trans (hcell q (by omega))
      have hk2 := (hbel.cell (p := ⟨b', off' + q, none⟩) hb').trans (hcell' q (by omega))
      obtain ⟨x0, x1⟩ := bounds_u8 (iat_wf H.out.2.1 q (by rw [HL.out]; omega))
      obtain ⟨y0, y1⟩ := bounds_u8 (iat_wf H'.out.2.1 q (by rw [HL'.out]; omega))
      have hk3 := hR.out.cell q (by rw [outL_len]; omega)
      have hf3 := hR.out.frozen q
      have hbsz := hbel.size
      have hlt3 := hR.out.lt
      have hn1 : w.heap.size ≠ b := by omega
      have hn2 : w.heap.size ≠ b' := by omega
      have hn3 : b ≠ w.heap.size := by omega
      have hn4 : b' ≠ w.heap.size := by omega
      have hq0 : (0 : Int) ≤ (q : Int) := by omega
      have hq1 : (q : Int) < (n : Int) := by omega
      clear hcell hcell'
      rcases hs with ⟨hs0, rfl⟩ | ⟨hs0, rfl⟩
      ·
        have HM := Lib.hid hs0
        clear hs0
        have HC := Lib.hid (car_zero addC xs ys n cc (n - (q + 1)) (by have := HM.out; omega))
        go_wp2
        go_region_held3 (fun w' => w'.cell? ⟨b, off + q, none⟩ = some (.int .u8 (iat xs q)) ∧ w'.cell? ⟨b', off' + q, none⟩ = some (.int .u8 (iat ys q)))
          (first
            | go_keep
            | (refine ⟨?_, ?_⟩ <;> first
              | (rw [hb1.cell (p := ⟨b, off + q, none⟩) (by show b < _; simp; omega)]; go_simp; done)
              | (rw [hb1.cell (p := ⟨b', off' + q, none⟩) (by show b' < _; simp; omega)]; go_simp; done)
              | (go_simp; done)))
          ((go_at_call 15; refine (add_any _ _ _ _ x0 (by omega) y0 (by omega) hok).mono ?_; rintro e w1 ⟨rfl, hb1⟩; have hc3 := (hb1.cell (p := ⟨w.heap.size, q, none⟩) hlt3).trans hk3; have hf4 := (hb1.frozen (p := ⟨w.heap.size, q, none⟩) hlt3).trans hf3))
        all_goals go_wp2
        all_goals
          go_roundw
          case rel => exact ⟨q, _, by omega, rfl, Lib.hid rfl, by rw [chCC_down addC xs ys n cc q (by omega), HC.out], .inr ⟨by omega, rfl⟩, Lib.hid (row_step hR.out hb1 (by omega) (by rw [dig_down _ _ _ _ _ _ q (by omega), HC.out]; unfold addD; rw [Int.add_zero])), below_step hbel hb1⟩
          case measure => simp [intOf]; try omega
      ·
        have HM := Lib.hid hs0
        clear hs0
        have HC := Lib.hid (car_pos addC xs ys n cc (n - (q + 1)) (by have := HM.out; omega))
        go_wp2
        go_region_held3 (fun w' => w'.cell? ⟨b, off + q, none⟩ = some (.int .u8 (iat xs q)) ∧ w'.cell? ⟨b', off' + q, none⟩ = some (.int .u8 (iat ys q)))
          (first
            | go_keep
            | (refine ⟨?_, ?_⟩ <;> first
              | (rw [hb1.cell (p := ⟨b, off + q, none⟩) (by show b < _; simp; omega)]; go_simp; done)
              | (rw [hb1.cell (p := ⟨b', off' + q, none⟩) (by show b' < _; simp; omega)]; go_simp; done)
              | (go_simp; done)))
          ((go_at_call 17; refine (adc_any _ _ _ _ x0 (by omega) y0 (by omega) hok).mono ?_; rintro e w1 ⟨rfl, hb1⟩; have hc3 := (hb1.cell (p := ⟨w.heap.size, q, none⟩) hlt3).trans hk3; have hf4 := (hb1.frozen (p := ⟨w.heap.size, q, none⟩) hlt3).trans hf3))
        all_goals go_wp2
        all_goals
          go_roundw
          case rel => exact ⟨q, _, by omega, rfl, Lib.hid rfl, by rw [chCC_down addC xs ys n cc q (by omega), HC.out], .inr ⟨by omega, rfl⟩, Lib.hid (row_step hR.out hb1 (by omega) (by rw [dig_down _ _ _ _ _ _ q (by omega), HC.out]; rfl)), below_step hbel hb1⟩
          case measure => simp [intOf]; try omega
end Go.Proofs.Ytdkghfapmoikdaa
