/- Contracts of package pack: Pack. -/
import Derived.Test.YtnhafficnomlbaaPckN
import Derived.Test.YtnhafficnomlbaaByt
import Derived.Deep.QuietTactic
import Derived.BigQuiet
import Derived.IntWalk
namespace Go.Proofs.Ytnhafficnomlbaa
open Go.ChangeShapes Go.WideShapes Go.ChangeAt Go.RowKit
set_option linter.unusedVariables false
/-- A slice of bytes that has an address. -/
def Sl (w : World) (g off n c : Nat) (zs : List Int) : Prop := zs.length = n ∧ n ≤ c ∧ g < w.heap.size ∧ (∀ i, i < n → w.cell? ⟨g, off + i, none⟩ = some (.int .u8 (iat zs i))) ∧ Byt zs
section
variable {w w' : World} {g off n c : Nat} {zs : List Int}
theorem Sl.below (h : Sl w g off n c zs) (hb : Below w.heap.size w w') : Sl w' g off n c zs :=
  ⟨h.1, h.2.1, Nat.lt_of_lt_of_le h.2.2.1 hb.size, fun i hi => (hb.cell (p := ⟨g, off + i, none⟩) h.2.2.1).trans (h.2.2.2.1 i hi), h.2.2.2.2⟩
theorem Sl.drew (h : Sl w g off n c zs) : Sl w.drew g off n c zs := h
theorem Sl.drewN (h : Sl w g off n c zs) (k : Nat) : Sl (w.drewN k) g off n c zs := h
theorem Sl.alloc (h : Sl w g off n c zs) (o : Obj) : Sl (w.alloc o) g off n c zs := h.below (Below.alloc0 (Below.refl _ _) o)
theorem Sl.rd (h : Sl w g off n c zs) : eY.Rd w (.slice (some ⟨g, off, none⟩) n c) zs := rdY_mk h.1 h.2.2.1 (fun i hi => h.2.2.2.1 i (by rw [← h.1]; exact hi))
theorem Sl.drop (h : Sl w g off n c zs) (k : Nat) (hk : k ≤ n) : Sl w g (off + k) (n - k) (c - k) (zs.drop k) :=
  ⟨by rw [List.length_drop, h.1], by have := h.2.1; omega, h.2.2.1, fun i hi => by
    rw [Nat.add_assoc, h.2.2.2.1 (k + i) (by omega), iat_drop], h.2.2.2.2.drop k⟩
theorem Sl.take (h : Sl w g off n c zs) (k : Nat) (hk : k ≤ n) : Sl w g off k c (zs.take k) :=
  ⟨by rw [List.length_take, h.1]; omega, by have := h.2.1; omega, h.2.2.1, fun i hi => by
    rw [h.2.2.2.1 i (by omega)]
    unfold iat
    rw [List.getD_eq_getElem?_getD, List.getD_eq_getElem?_getD, List.getElem?_take_of_lt hi], h.2.2.2.2.take k⟩
theorem Sl.of_rd {A : Option Addr} (h : eY.Rd w (.slice A n c) zs) (hb : Byt zs) (hc : n ≤ c) (h0 : 0 < n) : ∃ g off, A = some ⟨g, off, none⟩ ∧ Sl w g off n c zs := by
  obtain ⟨A', c', hv, hcl⟩ := rdY_open h
  obtain ⟨rfl, hl, rfl⟩ := Value.slice.inj hv
  obtain ⟨g, off, rfl, hg, hcell⟩ := hcl (by omega)
  exact ⟨g, off, rfl, hl.symm, hc, hg, fun i hi => hcell i (by omega), hb⟩
theorem Sl.at_ (h : Sl w g off n c zs) (i : Nat) (hi : i < n) : w.cell? ⟨g, off + i, none⟩ = some (.int .u8 (iat zs i)) := h.2.2.2.1 i hi
end
theorem Sl.cut {w : World} {g off n c : Nat} {zs : List Int} (h : Sl w g off n c zs) (a : Nat) (ha : a ≤ n) : eY.Rd w (.slice (if c = a then some ⟨g, off, none⟩ else some ⟨g, off + a, none⟩) (n - a) (c - a)) (zs.drop a) := by
  have h2 := h.2.1
  by_cases e : c = a
  · rw [if_pos e, show n - a = 0 by omega, List.drop_of_length_le (by rw [h.1]; omega)]
    exact rdY_empty _ _ _
  · rw [if_neg e]
    exact (h.drop a ha).rd
theorem rd_len {w : World} {A : Option Addr} {n c : Nat} {zs : List Int} (h : eY.Rd w (.slice A n c) zs) : zs.length = n := by
  obtain ⟨A', c', hv, hcl⟩ := rdY_open h
  obtain ⟨rfl, hl, rfl⟩ := Value.slice.inj hv
  exact hl.symm
set_option maxRecDepth 100000 in
set_option maxHeartbeats 1000000 in
theorem alike_any (g off n c : Nat) (zs : List Int) (w : World) (h : Sl w g off n c zs) (h0 : 0 < n) (hn : n ≤ 1099511627776) :
    Calls Try.prog 36 #[.slice (some ⟨g, off, none⟩) n c] w fun e w' => e = .returned (.int .i64 (aN zs)) ∧ ∃ k, w' = w.drewN k := by
  have H := Lib.hid h
  have HL := Lib.hid h.1
  have hA : Hid (aN zs = scan (fun k => iat zs k == iat zs 0) (min n 128) 1) := Lib.hid (by unfold aN; rw [h.1])
  obtain ⟨m, hm⟩ : ∃ m, min n 128 = m := ⟨_, rfl⟩
  have hm1 : m ≤ n ∧ m ≤ 128 ∧ 1 ≤ m := by omega
  have hmi : (if (128 : Int) < (n : Int) then (128 : Int) else (n : Int)) = (m : Int) := by split <;> omega
  obtain ⟨m1, m2, m3⟩ := hm1
  rw [hm] at hA
  clear h hm
  go_enter Try.func36, Try.ntmps36
  go_wp2
  go_loopw [3] (fun i wr => ∃ k : Nat, 1 ≤ k ∧ k ≤ m ∧ i = .int .i64 k ∧ Hid (aN zs = scan (fun k => iat zs k == iat zs 0) m k) ∧ ∃ j, wr = w.drewN j) (fun i _ => m - (intOf i).toNat)
  case atStart => exact ⟨1, Nat.le_refl _, m3, rfl, hA, 0, rfl⟩
  case round =>
    obtain ⟨k, hk1, hk, rfl, hS, j, rfl⟩ := hrel
    by_cases hlt : k < m
    · have c1 := H.out.at_ k (by omega)
      have c0 := H.out.at_ 0 h0
      rw [Nat.add_zero] at c0
      have k0 : (0 : Int) ≤ k := by omega
      have kn : (k : Int) < n := by omega
      have km : (k : Int) < m := by omega
      have n0 : (0 : Int) < n := by omega
      cases hq : iat zs k == iat zs 0
      · have HE : Hid (aN zs = k) := Lib.hid (by rw [hS.out, scan_stop _ _ _ (by simp [hq])])
        go_wp2
        go_quiet (fail)
        go_wp2
        go_ret
        exact ⟨ret_int (by rw [HE.out]), by first | exact ⟨_, rfl⟩ | exact ⟨_, World.drewN_drewN _ _ _⟩⟩
      · have HE : Hid (aN zs = scan (fun k => iat zs k == iat zs 0) m (k + 1)) := Lib.hid (by rw [hS.out, scan_go _ _ _ hlt hq])
        go_wp2
        go_quiet (fail)
        go_wp2
        go_roundw
        case rel => exact ⟨k + 1, by omega, by omega, by go_num, HE, by first | exact ⟨_, rfl⟩ | exact ⟨_, World.drewN_drewN _ _ _⟩⟩
        case measure => simp [intOf] <;> omega
    · obtain rfl : k = m := by omega
      have HE : Hid (aN zs = k) := Lib.hid (by rw [hS.out, scan_stop _ _ _ (by omega)])
      go_wp2
      go_quiet (fail)
      go_wp2
      go_ret
      exact ⟨ret_int (by rw [HE.out]), by first | exact ⟨_, rfl⟩ | exact ⟨_, World.drewN_drewN _ _ _⟩⟩
set_option maxRecDepth 100000 in
set_option maxHeartbeats 1000000 in
theorem unlike_any (g off n c : Nat) (zs : List Int) (w : World) (h : Sl w g off n c zs) (h0 : 0 < n) (hn : n ≤ 1099511627776) :
    Calls Try.prog 37 #[.slice (some ⟨g, off, none⟩) n c] w fun e w' => e = .returned (.int .i64 (uN zs)) ∧ ∃ k, w' = w.drewN k := by
  have H := Lib.hid h
  have HL := Lib.hid h.1
  have hA : Hid (uN zs = scan (fun k => !three (zs.drop k)) (min n 127) 1) := Lib.hid (by unfold uN; rw [h.1])
  obtain ⟨m, hm⟩ : ∃ m, min n 127 = m := ⟨_, rfl⟩
  have hm1 : m ≤ n ∧ m ≤ 127 ∧ 1 ≤ m := by omega
  have hmi : (if (127 : Int) < (n : Int) then (127 : Int) else (n : Int)) = (m : Int) := by split <;> omega
  obtain ⟨m1, m2, m3⟩ := hm1
  have hnc := h.2.1
  rw [hm] at hA
  clear h hm
  go_enter Try.func37, Try.ntmps37
  go_wp2
  go_loopw [3] (fun i wr => ∃ k : Nat, 1 ≤ k ∧ k ≤ m ∧ i = .int .i64 k ∧ Hid (uN zs = scan (fun k => !three (zs.drop k)) m k) ∧ ∃ j, wr = w.drewN j) (fun i _ => m - (intOf i).toNat)
  case atStart => exact ⟨1, Nat.le_refl _, m3, rfl, hA, 0, rfl⟩
  case round =>
    obtain ⟨k, hk1, hk, rfl, hS, j, rfl⟩ := hrel
    by_cases hlt : k < m
    · have hD := H.out.drop k (by omega)
      have CA := Lib.hid (alike_any g (off + k) (n - k) (c - k) (zs.drop k) (w.drewN j) (hD.drewN j) (by omega) (by omega))
      have T3 := Lib.hid (three_iff (zs.drop k) (by rw [hD.1]; omega))
      have HR := Lib.hid (aN_range (zs.drop k) (by rw [hD.1]; omega))
      obtain ⟨a, ha⟩ : ∃ a, aN (zs.drop k) = a := ⟨_, rfl⟩
      rw [ha] at CA T3 HR
      have a2 := HR.out.2.2
      have k0 : (0 : Int) ≤ k := by omega
      have kn : (k : Int) ≤ n := by omega
      have kc : k ≤ c := by omega
      have kn' : k ≤ n := by omega
      have km : (k : Int) < m := by omega
      clear hD ha
      by_cases hq : 3 ≤ a
      · have HE : Hid (uN zs = k) := Lib.hid (by
          have := T3.out
          rw [decide_eq_true hq] at this
          rw [hS.out, scan_stop _ _ _ (by rw [← this]; simp)])
        have e3 : ¬ ((a : Int) < 3) := by omega
        go_wp2_with fail
        refine CA.out.mono ?_
        rintro e w1 ⟨rfl, j1, rfl⟩
        go_wp2
        go_ret
        exact ⟨ret_int (by rw [HE.out]), by first | exact ⟨_, rfl⟩ | exact ⟨_, World.drewN_drewN _ _ _⟩⟩
      · have HE : Hid (uN zs = scan (fun k => !three (zs.drop k)) m (k + 1)) := Lib.hid (by
          have := T3.out
          rw [decide_eq_false hq] at this
          rw [hS.out, scan_go _ _ _ hlt (by rw [← this]; rfl)])
        have e3 : (a : Int) < 3 := by omega
        go_wp2_with fail
        refine CA.out.mono ?_
        rintro e w1 ⟨rfl, j1, rfl⟩
        go_wp2
        go_roundw
        case rel => exact ⟨k + 1, by omega, by omega, by go_num, HE, by first | exact ⟨_, rfl⟩ | exact ⟨_, World.drewN_drewN _ _ _⟩⟩
        case measure => simp [intOf] <;> omega
    · obtain rfl : k = m := by omega
      have HE : Hid (uN zs = k) := Lib.hid (by rw [hS.out, scan_stop _ _ _ (by omega)])
      go_wp2
      go_ret
      exact ⟨ret_int (by rw [HE.out]), _, rfl⟩
def lenV : Value → Nat
  | .slice _ n _ => n
  | _ => 0
set_option maxRecDepth 100000 in
set_option maxHeartbeats 1000000 in
theorem pack_any (A : Option Addr) (n c : Nat) (zs : List Int) (w : World) (h : eY.Rd w (.slice A n c) zs) (hc : n ≤ c) (hz : Byt zs) (hn : n ≤ 1000000) :
    Calls Try.prog 16 #[.slice A n c] w (GivesY w (packL zs)) := by
  have HL := Lib.hid (rd_len h)
  have H := Lib.hid h
  have HZ := Lib.hid hz
  have HP := Lib.hid (pack_long zs.length zs (Nat.le_refl _))
  have O0 : Hid (eY.Own 5 w w.heap.size (.slice none 0 0) []) := Lib.hid (Els.Own.nil_ _ _)
  have B0 := Lib.hid (Below.refl w.heap.size w)
  clear h hz
  go_enter Try.func16, Try.ntmps16
  go_wp2
  go_loopw [0, 3] (fun b o wr => ∃ (k : Nat) (A' : Option Addr) (n' c' : Nat) (P : List Int), k ≤ n ∧ b = .slice A' n' c' ∧ Hid (n' = n - k ∧ n' ≤ c') ∧ Hid (eY.Rd w (.slice A' n' c') (zs.drop k)) ∧ Hid (eY.Own 5 wr w.heap.size o P) ∧ Hid (P ++ packL (zs.drop k) = packL zs) ∧ Hid (Below w.heap.size w wr)) (fun b _ _ => lenV b)
  case atStart => exact ⟨0, A, n, c, [], Nat.zero_le _, rfl, Lib.hid ⟨rfl, hc⟩, H, O0, Lib.hid rfl, B0⟩
  case round =>
    obtain ⟨k, A', n', c', P, hk, rfl, hnn, hR, hO, hP, hB⟩ := hrel
    obtain ⟨hn1, hn2⟩ := hnn.out
    have hn3 : n' ≤ n := by omega
    have hn4 : k + n' = n := by omega
    have HN4 := Lib.hid hn4
    clear hn1 hn4
    by_cases hlt : 0 < n'
    · obtain ⟨g, off, rfl, hS⟩ := Sl.of_rd hR.out (HZ.out.drop k) hn2 hlt
      have CA := Lib.hid (alike_any g off n' c' (zs.drop k) wr (hS.below hB.out) hlt (by omega))
      have T3 := Lib.hid (three_iff (zs.drop k) (by rw [hS.1]; omega))
      have RA := Lib.hid (aN_range (zs.drop k) (by rw [hS.1]; omega))
      have RU := Lib.hid (uN_range (zs.drop k) (by rw [hS.1]; omega))
      have CU := Lib.hid (fun j => unlike_any g off n' c' (zs.drop k) (wr.drewN j) ((hS.below hB.out).drewN j) hlt (by omega))
      have HS := Lib.hid hS
      have c0 := (hS.below hB.out).at_ 0 hlt
      rw [Nat.add_zero] at c0
      have b0 := hS.2.2.2.2.at_ 0
      have hPl : P.length ≤ 3000000 := by
        have e1 := congrArg List.length hP.out
        rw [List.length_append] at e1
        have := HP.out; have := HL.out; omega
      have HPl := Lib.hid hPl
      have n0 : (0 : Int) < n' := by omega
      clear hS hR hPl
      cases ht : three (zs.drop k)
      · have hE := packL_lit (zs.drop k) (by rw [HS.out.1]; exact hlt) ht
        rw [ht] at T3
        obtain ⟨u, hu⟩ : ∃ u, uN (zs.drop k) = u := ⟨_, rfl⟩
        obtain ⟨a, ha⟩ : ∃ a, aN (zs.drop k) = a := ⟨_, rfl⟩
        rw [ha] at T3 CA
        rw [hu] at hE RU CU
        have r1 := RU.out
        rw [HS.out.1] at r1
        have r3 : ¬ 3 ≤ a := by have := T3.out; simpa using this
        have HE := Lib.hid hE
        have a3 : (a : Int) < 3 := by omega
        have a4 : (u : Int) % 256 = (u : Int) := by omega
        have a5 : u ≤ c' := by omega
        have a6 : u ≤ n' := by omega
        have a7 : (u : Int) ≤ n' := by omega
        have a8 : (u : Int) ≤ 127 := by omega
        have a9 : (0 : Int) ≤ u := by omega
        clear hE ht hu ha RA b0 c0
        go_wp2_with fail
        refine CA.out.mono ?_
        rintro e w1 ⟨rfl, j1, rfl⟩
        go_wp2_with fail
        refine (CU.out _).mono ?_
        rintro e w1 ⟨rfl, j2, rfl⟩
        go_wp2_with (first
          | (at_builtin; refine wpList_appY rfl _ (.tmp 23) (.tmp 26) rfl w.heap.size _ _ P [(u : Int)] rfl (Els.Own.alloc (Els.Own.drewN hO.out _) _) rfl (rdY_lit1 _ _ _) (by have := HPl.out; simp; omega) (by have := hB.out.size; simp; omega) ?_; intro v2 w2 ho2 hb2 hg2 _; have O2 := Lib.hid ho2; have B2 := Lib.hid ((Below.alloc (Below.drewN0 hB.out _) (by have := hB.out.size; simp; omega) _).trans hb2); clear ho2 hb2 hg2)
          | (at_builtin; refine wpList_appY rfl _ (.tmp 28) (.tmp 31) rfl w.heap.size _ _ _ ((zs.drop k).take u) rfl O2.out rfl ((HS.out.below B2.out).take u (by omega)).rd (by have := HPl.out; have := HS.out.1; simp; omega) (by have := B2.out.size; omega) ?_; intro v3 w3 ho3 hb3 hg3 _; have O3 := Lib.hid ho3; have B3 := Lib.hid (B2.out.trans hb3); clear ho3 hb3 hg3)
          | fail)
        go_roundw
        case rel => exact ⟨k + u, _, n' - u, c' - u, _, by have := HN4.out; omega, rfl, Lib.hid ⟨by have := HN4.out; omega, by omega⟩, Lib.hid (by rw [← List.drop_drop]; exact HS.out.cut u (by omega)), O3, Lib.hid (by rw [← hP.out, HE.out, ← List.drop_drop]; simp [List.append_assoc]), B3⟩
        case measure => simp [lenV]; omega
      · have hE := packL_run (zs.drop k) (by rw [HS.out.1]; exact hlt) ht
        rw [ht] at T3
        obtain ⟨a, ha⟩ : ∃ a, aN (zs.drop k) = a := ⟨_, rfl⟩
        rw [ha] at hE T3 RA CA
        have r1 := RA.out
        rw [HS.out.1] at r1
        have r3 : 3 ≤ a := by have := T3.out; simpa using this
        obtain ⟨x, hx⟩ : ∃ x, iat (zs.drop k) 0 = x := ⟨_, rfl⟩
        rw [hx] at hE c0 b0
        have HE := Lib.hid hE
        have a3 : ¬ ((a : Int) < 3) := by omega
        have a4 : (256 - (a : Int)) % 256 = 256 - (a : Int) := by omega
        have a5 : a ≤ c' := by omega
        have a6 : a ≤ n' := by omega
        have a7 : (a : Int) ≤ n' := by omega
        have a8 : (a : Int) ≤ 128 := by omega
        clear hE ht hx ha CU RU
        go_wp2_with fail
        refine CA.out.mono ?_
        rintro e w1 ⟨rfl, j1, rfl⟩
        go_wp2_with (at_builtin; refine wpList_appY rfl _ (.tmp 12) (.tmp 19) rfl w.heap.size _ _ P [256 - (a : Int), x] rfl (Els.Own.alloc (Els.Own.drewN hO.out _) _) rfl (rdY_lit2 _ _ _ _) (by have := HPl.out; simp; omega) (by have := hB.out.size; simp; omega) ?_; intro v2 w2 ho2 hb2 hg2 _; have O2 := Lib.hid ho2; have B2 := Lib.hid ((Below.alloc (Below.drewN0 hB.out _) (by have := hB.out.size; simp; omega) _).trans hb2); clear ho2 hb2 hg2)
        go_roundw
        case rel => exact ⟨k + a, _, n' - a, c' - a, _, by have := HN4.out; omega, rfl, Lib.hid ⟨by have := HN4.out; omega, by omega⟩, Lib.hid (by rw [← List.drop_drop]; exact HS.out.cut a (by omega)), O2, Lib.hid (by rw [← hP.out, HE.out, ← List.drop_drop]; simp [List.append_assoc]), B2⟩
        case measure => simp [lenV]; omega
    · obtain rfl : n' = 0 := by omega
      have HE : Hid (P = packL zs) := Lib.hid (by
        have e1 := hP.out
        rw [packL_nil (zs.drop k) (rd_len hR.out), List.append_nil] at e1
        exact e1)
      go_wp2
      go_ret
      exact ⟨_, rfl, by rw [← HE.out]; exact hO.out, hB.out⟩
end Go.Proofs.Ytnhafficnomlbaa
