/- The contract of package decimal's Sum: decimal numbers of any length; and what the sum of two decimal bytes is. -/
import Derived.Test.YtdkghfapmoikdabDaa9
import Derived.Test.YtdkghfapmoikdabRow8
namespace Go.Proofs.Ytdkghfapmoikdab
open Go.ChangeShapes Go.WideShapes Go.ChangeAt Go.RowKit
set_option linter.unusedVariables false

def decR (a b c : Int) : Int := (a + b + c) % 256
def decS (a b c : Int) : Bool := decide (9 < decR a b c % 16) || decide (15 < a % 16 + b % 16 + c)
def decT (a b c : Int) : Bool := decide (153 < decR a b c) || decide (255 < a + b + c)
def decD (a b c : Int) : Int := daaN (decR a b c) (decS a b c) (decT a b c)
def decK (cc a b c : Int) : Int := daaC (addC cc a b c) (decR a b c)
theorem addC_bit32 (cc a b c : Int) (h : CC cc) : hasRef (addC cc a b c) 32 = decide (15 < a % 16 + b % 16 + c) ∧ hasRef (addC cc a b c) 1 = decide (255 < a + b + c) := by
  unfold addC
  have h0 := h.nz ((a + b + c) % 256) 128
  have h1 := h0.put 32 (decide (15 < a % 16 + b % 16 + c))
  have h2 := h1.put 2 (outOf (-128) 127 (sg a + sg b + c))
  constructor
  · rw [hasRef_putN _ 1 32 _ h2.1 h2.2 bit1 bit32 (by decide), hasRef_putN _ 2 32 _ h1.1 h1.2 bit2 bit32 (by decide), hasRef_put _ 32 _ h0.1 h0.2 bit32]
  · rw [hasRef_put _ 1 _ h2.1 h2.2 bit1]
theorem daaR_dec (cc a b c : Int) (h : CC cc) : daaR (decR a b c) (addC cc a b c) = decD a b c := by
  have := addC_bit32 cc a b c h
  unfold daaR decD six sixty decS decT
  rw [this.1, this.2]
theorem CC.dec' {cc : Int} (h : CC cc) (a b c : Int) : CC (decK cc a b c) := CC.daa (CC.add h _ _ _) _
theorem decK_bit (cc a b c : Int) (h : CC cc) : hasRef (decK cc a b c) 1 = decT a b c ∧ decK cc a b c % 2 = if decT a b c then 1 else 0 := by
  have hf := CC.add h a b c
  have e : sixty (decR a b c) (addC cc a b c) = decT a b c := by
    unfold sixty decT; rw [(addC_bit32 cc a b c h).2]
  unfold decK daaC
  rw [e]
  have h0 := hf.nz (daaR (decR a b c) (addC cc a b c)) 128
  have h1 := h0.put 1 (decT a b c)
  constructor
  · rw [hasRef_putN _ 2 1 _ h1.1 h1.2 bit2 bit1 (by decide), hasRef_put _ 1 _ h0.1 h0.2 bit1]
  · rw [low_put _ 2 _ h1.1 h1.2 bit2 (by decide), low_put1 _ _ h0.1 h0.2]
theorem decD_range (a b c : Int) : 0 ≤ decD a b c ∧ decD a b c < 256 := by unfold decD daaN; omega
def twoOf (n : Int) : Int := n / 10 * 16 + n % 10
/-- Two decimal digits each, all of them, with a carry and without. -/
theorem dec_fin : ∀ (x y : Fin 100) (c : Fin 2),
    decD (twoOf (x.val : Int)) (twoOf (y.val : Int)) (c.val : Int) = twoOf (((x.val : Int) + (y.val : Int) + (c.val : Int)) % 100) ∧
    (if decT (twoOf (x.val : Int)) (twoOf (y.val : Int)) (c.val : Int) then (1 : Int) else 0) = ((x.val : Int) + (y.val : Int) + (c.val : Int)) / 100 := by decide +kernel
theorem dec_two (x y c : Int) (hx : 0 ≤ x) (hx' : x < 100) (hy : 0 ≤ y) (hy' : y < 100) (hc : 0 ≤ c) (hc' : c ≤ 1) :
    decD (twoOf x) (twoOf y) c = twoOf ((x + y + c) % 100) ∧ (if decT (twoOf x) (twoOf y) c then (1 : Int) else 0) = (x + y + c) / 100 := by
  obtain ⟨n, rfl⟩ := Int.eq_ofNat_of_zero_le hx
  obtain ⟨m, rfl⟩ := Int.eq_ofNat_of_zero_le hy
  obtain ⟨k, rfl⟩ := Int.eq_ofNat_of_zero_le hc
  exact dec_fin ⟨n, by omega⟩ ⟨m, by omega⟩ ⟨k, by omega⟩
def valOf (a : Int) : Int := a / 16 * 10 + a % 16
theorem twoOf_val (a : Int) (h : digits a = true) (h0 : 0 ≤ a) : twoOf (valOf a) = a ∧ 0 ≤ valOf a ∧ valOf a < 100 := by
  unfold digits at h
  simp at h
  unfold twoOf valOf
  omega
theorem allDigits_at (zs : List Int) (h : allDigits zs = true) (k : Nat) (hk : k < zs.length) : digits (iat zs k) = true := by
  unfold allDigits at h
  rw [List.all_eq_true] at h
  rw [iat_eq _ _ hk]
  exact h _ (List.getElem_mem hk)
theorem dec_more (xs ys : List Int) (n : Nat) : hasRef (chCC decK xs ys n 0 n) 1 = (car decK xs ys n 0 n == 1) := by
  have e : ∀ cc : Int, hasRef cc 1 = (cc % 2 == 1) := fun cc => by unfold hasRef; rw [Int.ediv_one]
  rcases Nat.eq_zero_or_pos n with h0 | h0
  · subst h0; rfl
  · rw [car_pos _ _ _ _ _ _ h0, e]
/-- One step of the sum, as the two digits' values say it. -/
theorem dec_step (xs ys : List Int) (n q : Nat) (hq : q < n) (hx : digits (iat xs q) = true) (hy : digits (iat ys q) = true) (x0 : 0 ≤ iat xs q) (y0 : 0 ≤ iat ys q) (u : Int) (hu : u = car decK xs ys n 0 (n - (q + 1))) :
    dig decK decD xs ys n 0 (n - (q + 1)) = twoOf ((iat xs q / 16 * 10 + iat xs q % 16 + (iat ys q / 16 * 10 + iat ys q % 16) + u) % 100) ∧
    car decK xs ys n 0 (n - q) = (iat xs q / 16 * 10 + iat xs q % 16 + (iat ys q / 16 * 10 + iat ys q % 16) + u) / 100 := by
  obtain ⟨a1, a2, a3⟩ := twoOf_val _ hx x0
  obtain ⟨b1, b2, b3⟩ := twoOf_val _ hy y0
  have hc := car_range (K := decK) xs ys n 0 (n - (q + 1))
  obtain ⟨d1, d2⟩ := dec_two (valOf (iat xs q)) (valOf (iat ys q)) u a2 a3 b2 b3 (by omega) (by omega)
  rw [a1, b1] at d1 d2
  constructor
  · rw [dig_down _ _ _ _ _ _ q hq, ← hu, d1]; rfl
  · rw [car_pos _ _ _ _ _ (n - q) (by omega), chCC_down _ _ _ _ _ q hq, ← hu, (decK_bit _ _ _ _ (chCC_ok (fun _ _ _ _ h => CC.dec' h _ _ _) xs ys n 0 (CC.mk' (by omega) (by omega)) _)).2, d2]; rfl
def GivesSum (w : World) (n : Nat) (zs : List Int) (more : Bool) (e : Ending) (w' : World) : Prop :=
  ∃ g, e = .returned (.tuple #[.slice (some ⟨g, 0, none⟩) n n, .bool more, .int .i64 0]) ∧ w.heap.size ≤ g ∧ Row8 w' g zs ∧ Below w.heap.size w w'
theorem sum_arg (A A' : Option Addr) (n c n' c' : Nat) (xs ys : List Int) (w : World) (h : Ints .u8 w w.heap.size A n xs) (h' : Ints .u8 w w.heap.size A' n' ys) (hn : n ≤ 60) (hn' : n' ≤ 60) (hd : (allDigits xs && allDigits ys) = false) :
    Calls Try.prog 17 #[.slice A n c, .slice A' n' c'] w fun e w' => e = .returned (.tuple #[.slice none 0 0, .bool false, .int .i64 10]) ∧ w = w' := by
  cases hx : allDigits xs
  · go_enter Try.func17, Try.ntmps17
    go_wp2_with (go_at_call 16; refine (right_digits _ _ _ _ _ _ h (by omega)).mono ?_; rintro e w' ⟨rfl, rfl⟩)
    go_ret3
    exact ⟨rfl, rfl⟩
  · have hy : allDigits ys = false := by rw [hx] at hd; simpa using hd
    have H := Lib.hid h
    have H' := Lib.hid h'
    clear h h' hd
    go_enter Try.func17, Try.ntmps17
    go_wp2_with fail
    refine (right_digits _ _ _ _ _ _ H.out (by omega)).mono ?_
    rintro e w' ⟨rfl, rfl⟩
    go_wp2_with fail
    refine (right_digits _ _ _ _ _ _ H'.out (by omega)).mono ?_
    rintro e w' ⟨rfl, rfl⟩
    go_wp2
    go_ret3
    exact ⟨rfl, rfl⟩
theorem sum_no (A A' : Option Addr) (n c n' c' : Nat) (xs ys : List Int) (w : World) (h : Ints .u8 w w.heap.size A n xs) (h' : Ints .u8 w w.heap.size A' n' ys) (hn : n ≤ 60) (hn' : n' ≤ 60) (hx : allDigits xs = true) (hy : allDigits ys = true) (hne : n ≠ n') :
    Calls Try.prog 17 #[.slice A n c, .slice A' n' c'] w fun e w' => e = .returned (.tuple #[.slice none 0 0, .bool false, .int .i64 12]) ∧ w = w' := by
  have h1 : ((n : Int) != (n' : Int)) = true := by simp; omega
  have H := Lib.hid h
  have H' := Lib.hid h'
  clear h h'
  go_enter Try.func17, Try.ntmps17
  go_wp2_with fail
  refine (right_digits _ _ _ _ _ _ H.out (by omega)).mono ?_
  rintro e w' ⟨rfl, rfl⟩
  go_wp2_with fail
  refine (right_digits _ _ _ _ _ _ H'.out (by omega)).mono ?_
  rintro e w' ⟨rfl, rfl⟩
  go_wp2
  go_ret3
  exact ⟨rfl, rfl⟩
set_option maxRecDepth 100000 in
set_option maxHeartbeats 4000000 in
theorem sum_any (A A' : Option Addr) (n c c' : Nat) (xs ys : List Int) (w : World) (h : Ints .u8 w w.heap.size A n xs) (h' : Ints .u8 w w.heap.size A' n ys) (hn : n ≤ 60) (hx : allDigits xs = true) (hy : allDigits ys = true) :
    Calls Try.prog 17 #[.slice A n c, .slice A' n c'] w (GivesSum w n (outL (dig decK decD xs ys n 0) n n) (hasRef (chCC decK xs ys n 0 n) 1)) := by
  have HL := Lib.hid h.1
  have HL' := Lib.hid h'.1
  have H := Lib.hid h
  have H' := Lib.hid h'
  clear h h'
  have c0 : CC 0 := CC.mk' (by omega) (by omega)
  have hmk := make_row8 w n (by omega)
  have h1 : ((n : Int) != (n : Int)) = false := by simp
  have hrow : Hid (Row8 (w.alloc (.cells (cells8 (List.replicate n 0)) 5)) w.heap.size (outL (dig decK decD xs ys n 0) n 0)) := Lib.hid (by rw [outL_zero]; exact Blk.new w _ _ _)
  go_enter Try.func17, Try.ntmps17
  go_wp2_with fail
  refine (right_digits _ _ _ _ _ _ H.out (by omega)).mono ?_
  rintro e w' ⟨rfl, rfl⟩
  go_wp2_with fail
  refine (right_digits _ _ _ _ _ _ H'.out (by omega)).mono ?_
  rintro e w' ⟨rfl, rfl⟩
  go_wp2
  clear hmk
  go_loopw [8, 9] (fun f i wr => ∃ (p : Nat) (x : Int), p ≤ n ∧ i = .int .i64 x ∧ Hid (x = (p : Int) - 1) ∧ f = .int .u8 (chCC decK xs ys n 0 (n - p)) ∧ Hid (Row8 wr w.heap.size (outL (dig decK decD xs ys n 0) n (n - p))) ∧ Below w.heap.size w wr) (fun _ i _ => (intOf i + 1).toNat)
  case atStart => exact ⟨n, _, Nat.le_refl _, rfl, Lib.hid rfl, by rw [Nat.sub_self]; rfl, by rw [Nat.sub_self]; exact hrow, Below.alloc0 (Below.refl _ _) _⟩
  case round =>
    obtain ⟨p, x, hm, rfl, hx, rfl, hR, hbel⟩ := hrel
    have hok := chCC_ok (K := decK) (fun _ _ _ _ h => CC.dec' h _ _ _) xs ys n 0 c0 (n - p)
    rcases p with _ | q
    · obtain rfl : x = -1 := by have := hx.out; omega
      have hR' : Row8 wr w.heap.size (outL (dig decK decD xs ys n 0) n n) := hR.out
      have HR := Lib.hid hR'
      have hok' : CC (chCC decK xs ys n 0 n) := hok
      clear hR' hR hrow
      go_wp2_with (go_at_call 42; refine (has_bit _ _ _ _ _ _ _ hok' bit1 (Ints.new1 (by simp) (by decide)) (by omega)).mono ?_; rintro e w' ⟨rfl, rfl⟩)
      go_ret3
      exact ⟨w.heap.size, rfl, Nat.le_refl _, Blk.alloc HR.out _, Below.alloc0 hbel _⟩
    · obtain rfl : x = (q : Int) := by have := hx.out; omega
      obtain ⟨b, off, rfl, hb, hcell⟩ := H.out.2.2 (by omega)
      obtain ⟨b', off', rfl, hb', hcell'⟩ := H'.out.2.2 (by omega)
      have hk1 := (hbel.cell (p := ⟨b, off + q, none⟩) hb).trans (hcell q (by omega))
      have hk2 := (hbel.cell (p := ⟨b', off' + q, none⟩) hb').trans (hcell' q (by omega))
      obtain ⟨x0, x1⟩ := bounds_u8 (iat_wf H.out.2.1 q (by rw [HL.out]; omega))
      obtain ⟨y0, y1⟩ := bounds_u8 (iat_wf H'.out.2.1 q (by rw [HL'.out]; omega))
      have hlt3 := hR.out.lt
      have hk3 := hR.out.cell q (by rw [outL_len]; omega)
      have hf3 := hR.out.frozen q
      have hbsz := hbel.size
      have hn1 : w.heap.size ≠ b := by omega
      have hn2 : w.heap.size ≠ b' := by omega
      have hn3 : b ≠ w.heap.size := by omega
      have hn4 : b' ≠ w.heap.size := by omega
      have hq0 : (0 : Int) ≤ (q : Int) := by omega
      have hq1 : (q : Int) < (n : Int) := by omega
      have HC : Hid (car decK xs ys n 0 (n - (q + 1)) = chCC decK xs ys n 0 (n - (q + 1)) % 2) := Lib.hid (by
        rcases Nat.eq_zero_or_pos (n - (q + 1)) with h0 | h0
        · rw [h0]; rfl
        · exact car_pos _ _ _ _ _ _ h0)
      obtain ⟨u, hu⟩ : ∃ u, u = chCC decK xs ys n 0 (n - (q + 1)) := ⟨_, rfl⟩
      rw [← hu] at hok ⊢ HC
      have HU := Lib.hid hu
      have cadd := CC.add hok (iat xs q) (iat ys q) (u % 2)
      have HD := Lib.hid (daaR_dec u (iat xs q) (iat ys q) (u % 2) hok)
      clear hcell hcell' hu
      go_wp2
      go_region_held3 (fun w' => w'.cell? ⟨b, off + q, none⟩ = some (.int .u8 (iat xs q)) ∧ w'.cell? ⟨b', off' + q, none⟩ = some (.int .u8 (iat ys q)))
        (first
          | go_keep
          | (refine ⟨?_, ?_⟩ <;> first
            | (rw [hb1.cell (p := ⟨b, off + q, none⟩) (by show b < _; simp; omega)]; go_simp; done)
            | (rw [hb1.cell (p := ⟨b', off' + q, none⟩) (by show b' < _; simp; omega)]; go_simp; done)
            | (go_simp; done)))
        ((go_at_call 14; refine (adc_any _ _ _ _ x0 (by omega) y0 (by omega) hok).mono ?_; rintro e w1 ⟨rfl, hb1⟩; have hc3 := (hb1.cell (p := ⟨w.heap.size, q, none⟩) hlt3).trans hk3; have hf4 := (hb1.frozen (p := ⟨w.heap.size, q, none⟩) hlt3).trans hf3))
      all_goals
        have hR1 := (Row8.below (w := wr.drew) hR.out hb1 hlt3).set_ q ((iat xs q + iat ys q + u % 2) % 256)
        have HR1 := Lib.hid hR1
        have hlt4 := hR1.lt
        clear hR1
        go_wp2_with (go_at_call 11; refine (daa_any _ _ _ (by omega) (by omega) cadd).mono ?_; rintro e w2 ⟨rfl, hb2⟩; have hc5 := (hb2.cell (p := ⟨w.heap.size, q, none⟩) hlt4).trans (HR1.out.cell q (by rw [List.length_set, outL_len]; omega)); have hf5 := (hb2.frozen (p := ⟨w.heap.size, q, none⟩) hlt4).trans (HR1.out.frozen q))
        have hrow2 : Row8 (w2.setCell ⟨w.heap.size, q, none⟩ (.int .u8 (daaR ((iat xs q + iat ys q + u % 2) % 256) (addC u (iat xs q) (iat ys q) (u % 2))))) w.heap.size (outL (dig decK decD xs ys n 0) n (n - q)) := by
          have h2 := (Row8.below HR1.out hb2 hlt4).set_ q (daaR ((iat xs q + iat ys q + u % 2) % 256) (addC u (iat xs q) (iat ys q) (u % 2)))
          rw [List.set_set, outL_down _ n q (by omega) _ (by rw [dig_down _ _ _ _ _ _ q (by omega), HC.out]; exact HD.out)] at h2
          exact h2
        have HROW := Lib.hid hrow2
        have HK : Hid (daaC (addC u (iat xs q) (iat ys q) (u % 2)) ((iat xs q + iat ys q + u % 2) % 256) = chCC decK xs ys n 0 (n - q)) := Lib.hid (by rw [chCC_down _ _ _ _ _ q (by omega), HC.out, ← HU.out]; rfl)
        clear hrow2
        go_roundw
        case rel => exact ⟨q, _, by omega, rfl, Lib.hid rfl, vint HK.out, HROW, (Below.trans0 ((Below.trans0 (Below.drew0 hbel) hb1).setCell (Nat.le_refl _) _) hb2).setCell (Nat.le_refl _) _⟩
        case measure => simp [intOf]; try omega
theorem Ints.more {k : IntKind} {w : World} {B B' n : Nat} {A : Option Addr} {zs : List Int} (h : Ints k w B A n zs) (hB : B ≤ B') : Ints k w B' A n zs := h.keep hB fun _ _ _ => rfl
set_option maxRecDepth 100000 in
theorem alive09 (w : World) : Calls Try.prog 13 #[] w fun e w' => e = .returned (.bool true) ∧ Below w.heap.size w w' := by
  have h1 : daaR 154 0 = 0 := by decide
  have h2 : daaC 0 154 = 5 := by decide
  have h3 : Hid (outL (dig decK decD [25] [8] 1 0) 1 1 = [39]) := Lib.hid (by decide)
  have h4 : hasRef (chCC decK [25] [8] 1 0 1) 1 = false := by decide
  have c0 : CC 0 := CC.mk' (by omega) (by omega)
  go_enter Try.func13, Try.ntmps13
  go_wp2_with fail
  refine (daa_any _ _ _ (by omega) (by omega) c0).mono ?_
  rintro e w1 ⟨rfl, hb1⟩
  go_wp2_with fail
  refine (sum_any (some ⟨w1.heap.size, 0, none⟩) (some ⟨w1.heap.size + 1, 0, none⟩) 1 1 1 [25] [8] _ ?_ ?_ (by omega) (by decide) (by decide)).mono ?_
  · exact Ints.more (((Ints.new1 (g := w1.heap.size) rfl (by decide)).alloc (by simp) _)) (by simp)
  · exact Ints.more (Ints.new1 (g := w1.heap.size + 1) (by simp) (by decide)) (by simp)
  rintro e w2 ⟨g, rfl, hg, hR, hb2⟩
  have hR' : Row8 w2 g [39] := by rw [← h3.out]; exact hR
  have HR := Lib.hid hR'
  clear hR hR'
  go_wp2_with fail
  refine (bytesEqual_any _ _ _ _ _ _ [39] [39] _ _ _ ((HR.out.ints (by decide) 1 rfl).alloc (Nat.le_refl _) _) (Ints.new1 (g := w2.heap.size) rfl (by decide))).mono ?_
  rintro e w' ⟨rfl, rfl⟩
  have e3 : ([39] == ([39] : List Int)) = true := by decide
  go_wp2
  go_ret
  exact ⟨rfl, Below.alloc0 (Below.trans0 (Below.alloc0 (Below.alloc0 hb1 _) _) hb2) _⟩
end Go.Proofs.Ytdkghfapmoikdab
