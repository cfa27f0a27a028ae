/- Contracts of package crc. -/
import Derived.Test.YtnhafficnomlbaaCrcN
import Derived.Test.YtnhafficnomlbaaByt
import Derived.Test.YtnhafficnomlbaaShelf
import Derived.Test.YtnhafficnomlbaaOctRow
namespace Go.Proofs.Ytnhafficnomlbaa
open Go.ChangeShapes Go.WideShapes Go.ChangeAt Go.RowKit
set_option linter.unusedVariables false
theorem crcShifted_any (s : Nat) (h : s < 65536) (w : World) : Calls Try.prog 34 #[.int .u16 (s : Int)] w fun e w' => e = .returned (.int .u16 ((shN s : Nat) : Int)) ∧ w = w' := by
  have hA := bits16_top s h
  by_cases h2 : 32768 ≤ s
  · rw [if_pos h2] at hA
    have hX := bits16_sh s h
    have hE : Hid (((2 * s % 65536 ^^^ 4129 : Nat) : Int) = ((shN s : Nat) : Int)) := Lib.hid (by unfold shN; rw [if_pos h2])
    have hW : IntKind.u16.wrap ((s : Int) * 2) = (((2 * s % 65536 : Nat) : Nat) : Int) := by rw [IntKind.wrap_u16]; omega
    go_enter Try.func34, Try.ntmps34
    go_wp2
    go_ret
    exact ⟨ret_int (by rw [← hE.out, ← hX]; congr 1 <;> omega), rfl⟩
  · rw [if_neg h2] at hA
    have hE : Hid ((s : Int) * 2 = ((shN s : Nat) : Int)) := Lib.hid (by unfold shN; rw [if_neg h2, Nat.xor_zero]; omega)
    go_enter Try.func34, Try.ntmps34
    go_wp2
    go_ret
    exact ⟨ret_int hE.out, rfl⟩
def onN (s : Nat) (zs : List Int) : Nat := zs.foldl (fun s z => crcByte s z.toNat) s
theorem onN_lt (s : Nat) (zs : List Int) (h : s < 65536) (hz : ∀ z ∈ zs, 0 ≤ z ∧ z < 256) : onN s zs < 65536 := by
  induction zs generalizing s with
  | nil => exact h
  | cons z zs ih =>
    have hz1 := hz z (by simp)
    exact ih (crcByte s z.toNat) (shTo_lt _ (Nat.xor_lt_two_pow (n := 16) h (by omega)) 8) (fun y hy => hz y (by simp [hy]))
set_option maxRecDepth 100000 in
set_option maxHeartbeats 1000000 in
theorem crcOn_any (s0 : Nat) (h0 : s0 < 65536) (A : Option Addr) (n c : Nat) (zs : List Int) (B : Nat) (w : World) (h : Ints .u8 w B A n zs) (hn : n ≤ 1099511627776) :
    Calls Try.prog 11 #[.int .u16 (s0 : Int), .slice A n c] w fun e w' => e = .returned (.int .u16 ((onN s0 zs : Nat) : Int)) ∧ w = w' := by
  have HL := Lib.hid h.1
  have H := Lib.hid h
  have HZ := Lib.hid (fun z hz => (by have := bounds_u8 (h.2.1 z hz); omega : 0 ≤ z ∧ z < 256) : ∀ z ∈ zs, 0 ≤ z ∧ z < 256)
  clear h
  go_enter Try.func11, Try.ntmps11
  go_wp2
  go_loop [0, 9] (fun v i => ∃ k : Nat, k ≤ n ∧ i = .int .i64 k ∧ v = .int .u16 ((onN s0 (zs.take k) : Nat) : Int)) (fun _ i => n - (intOf i).toNat)
  case atStart => exact ⟨0, Nat.zero_le _, rfl, rfl⟩
  case round =>
    obtain ⟨k, hk, rfl, rfl⟩ := hrel
    by_cases hlt : k < n
    · obtain ⟨b, off, rfl, hb, hcell⟩ := H.out.2.2 (by omega)
      have hck := hcell k hlt
      obtain ⟨r0, r1⟩ := bounds_u8 (iat_wf H.out.2.1 k (by rw [HL.out]; exact hlt))
      have hnx := Lib.hid (foldl_take (fun s z => crcByte s z.toNat) zs s0 k (by rw [HL.out]; exact hlt))
      have hcl : onN s0 (zs.take k) < 65536 := onN_lt _ _ h0 (fun z hz => HZ.out z (List.mem_of_mem_take hz))
      obtain ⟨C, hC⟩ : ∃ C, onN s0 (zs.take k) = C := ⟨_, rfl⟩
      rw [hC] at hcl ⊢
      obtain ⟨x, hx⟩ := Int.eq_ofNat_of_zero_le r0
      rw [hx] at hck r1
      have hx1 : x < 256 := by omega
      obtain ⟨D, hD⟩ : ∃ D, C ^^^ (x * 256) = D := ⟨_, rfl⟩
      have hDl : D < 65536 := by rw [← hD]; exact Nat.xor_lt_two_pow (n := 16) hcl (by omega)
      have hX : bits .xor .u16 (C : Int) ((x : Int) * 256) = (D : Int) := by
        rw [← hD]; exact u16_xor_nat C (x * 256) hcl (by omega)
      have HE : Hid (shTo D 8 = onN s0 (zs.take (k + 1))) := Lib.hid (by
        unfold onN at hC ⊢
        rw [hnx.out, hC, hx]
        show _ = crcByte C x
        unfold crcByte
        rw [hD])
      clear hcell hnx hC hD r0 hx
      go_wp2
      go_loop [0, 18] (fun v i => ∃ j : Nat, j ≤ 8 ∧ i = .int .i64 j ∧ v = .int .u16 ((shTo D j : Nat) : Int)) (fun _ i => 8 - (intOf i).toNat)
      case atStart => exact ⟨0, Nat.zero_le _, rfl, rfl⟩
      case round =>
        obtain ⟨j, hj, rfl, rfl⟩ := hrel
        have hsl := shTo_lt D hDl j
        by_cases hj8 : j < 8
        · go_wp2_with (go_at_call 34; refine (crcShifted_any _ hsl _).mono ?_; rintro e w' ⟨rfl, rfl⟩)
          go_round
          case rel => exact ⟨j + 1, by omega, by go_num, rfl⟩
          case measure => simp [intOf]; omega
        · obtain rfl : j = 8 := by omega
          go_wp2
          go_round
          case rel => exact ⟨k + 1, by omega, by go_num, by rw [HE.out]⟩
          case measure => simp [intOf]; omega
    · have HE : Hid (zs.take k = zs) := Lib.hid (List.take_of_length_le (by rw [HL.out]; omega))
      go_wp2
      go_ret
      exact ⟨ret_int (by rw [HE.out]), rfl⟩
theorem crcOf_any (A : Option Addr) (n c : Nat) (zs : List Int) (B : Nat) (w : World) (h : Ints .u8 w B A n zs) (hn : n ≤ 1099511627776) :
    Calls Try.prog 9 #[.slice A n c] w fun e w' => e = .returned (.int .u16 ((onN 65535 zs : Nat) : Int)) ∧ w = w' := by
  have H := Lib.hid h
  clear h
  go_enter Try.func9, Try.ntmps9
  go_wp2_with (go_at_call 11; refine (crcOn_any 65535 (by decide) _ _ _ _ _ _ H.out hn).mono ?_; rintro e w' ⟨rfl, rfl⟩)
  go_ret
  exact ⟨rfl, rfl⟩
/-- The two bytes of a sum. -/
def sumL (s : Nat) : List Int := [(s : Int) / 256, (s : Int) % 256]
def sealL (zs : List Int) : List Int := zs ++ sumL (onN 65535 zs)
set_option maxRecDepth 100000 in
set_option maxHeartbeats 1000000 in
theorem crcSeal_any (v : Value) (zs : List Int) (w : World) (h : eY.Rd w v zs) (hz : Byt zs) (hn : zs.length ≤ 1000000) :
    Calls Try.prog 14 #[v] w (GivesY w (sealL zs)) := by
  obtain ⟨A, c, rfl, hI⟩ := rdY_ints h hz
  obtain ⟨n, hl⟩ : ∃ n, zs.length = n := ⟨_, rfl⟩
  obtain ⟨Z, hmk, hown0⟩ := made_Y w (n + 2) (by omega)
  have hmk' : (Instr.makeSlice 22 (.int .i64 0) (.int .i64 ((n : Int) + 2))).run Try.prog w = .ok (.slice (some ⟨w.heap.size, 0, none⟩) 0 (n + 2)) (w.alloc Z) := by
    rw [← hmk]; congr 1
  have O0 := Lib.hid (hown0 w.heap.size (Nat.le_refl _))
  have R0 := Lib.hid (Els.Rd.alloc h Z)
  have H := Lib.hid hI
  have HL := Lib.hid hl
  have hsl : onN 65535 zs < 65536 := onN_lt _ _ (by decide) hz
  have HE : Hid (sealL zs = zs ++ sumL (onN 65535 zs)) := Lib.hid rfl
  obtain ⟨s, hs⟩ : ∃ s, onN 65535 zs = s := ⟨_, rfl⟩
  rw [hs] at hsl HE
  have CO := Lib.hid (crcOf_any A n c zs w.heap.size w (by rw [← hl]; exact hI) (by omega))
  rw [hs] at CO
  rw [hl] at H R0 hn ⊢
  clear hmk h hown0 hs hl hI
  go_enter Try.func14, Try.ntmps14
  go_wp2_with (first
    | (go_at_call 9; refine CO.out.mono ?_; rintro e w' ⟨rfl, rfl⟩)
    | (at_builtin; refine wpList_appY rfl _ (.tmp 11) (.tmp 12) rfl w.heap.size _ _ [] zs rfl O0.out rfl R0.out (by have := HL.out; simp; omega) (by simp) ?_; intro v1 w1 ho1 hb1 hg1 _; have O1 := Lib.hid ho1; have B1 := Lib.hid hb1; clear ho1 hb1 hg1)
    | (at_builtin; refine wpList_appY rfl _ (.tmp 14) (.tmp 20) rfl w.heap.size _ _ zs [(s : Int) / 256, (s : Int) % 256] rfl (O1.out.alloc _) rfl (rdY_lit2 _ _ _ _) (by have := HL.out; simp; omega) (by have := B1.out.size; simp at this ⊢; omega) ?_; intro v2 w2 ho2 hb2 hg2 _; have O2 := Lib.hid ho2; have B2 := Lib.hid hb2; clear ho2 hb2 hg2))
  go_ret
  exact ⟨_, rfl, by rw [HE.out]; exact O2.out, ((Below.alloc0 (Below.refl _ _) Z).trans (B1.out.alloc (by have := B1.out.size; simp at this ⊢; omega) _)).trans B2.out⟩
/-- What Open answers: the bytes ahead of their sum, or none. -/
def openOk (zs : List Int) : Bool := decide (2 ≤ zs.length) && (sealL (zs.take (zs.length - 2)) == zs)
def OpenPost (zs : List Int) (w : World) (e : Ending) (w' : World) : Prop :=
  ∃ v, e = .returned (.tuple #[v, .bool (openOk zs)]) ∧ eY.Rd w' v (if openOk zs then zs.take (zs.length - 2) else []) ∧ Below w.heap.size w w'
theorem sumL_byt (s : Nat) (h : s < 65536) : Byt (sumL s) := fun x hx => by
  simp only [sumL, List.mem_cons, List.not_mem_nil, or_false] at hx
  omega
theorem sealL_byt (zs : List Int) (h : Byt zs) : Byt (sealL zs) := Byt.app h (sumL_byt _ (onN_lt _ _ (by decide) h))
set_option maxRecDepth 100000 in
set_option maxHeartbeats 1000000 in
theorem crcOpen_any (A : Option Addr) (n c : Nat) (zs : List Int) (w : World) (h : eY.Rd w (.slice A n c) zs) (hc : n ≤ c) (hz : Byt zs) (hn : zs.length ≤ 1000000) :
    Calls Try.prog 13 #[.slice A n c] w (OpenPost zs w) := by
  obtain ⟨A', c', hv, hI⟩ := rdY_ints h hz
  obtain ⟨rfl, hl', rfl⟩ := Value.slice.inj hv
  have hl := hl'.symm
  clear hl'
  by_cases h2 : 2 ≤ n
  · obtain ⟨A', c', hv, hcl⟩ := rdY_open h
    obtain ⟨rfl, hl2, rfl⟩ := Value.slice.inj hv
    clear hl2
    obtain ⟨g, off, rfl, hg, hcell⟩ := hcl (by omega)
    have hT : (zs.take (n - 2)).length = n - 2 := by rw [List.length_take]; omega
    have RT := rdY_take (m := n - 2) (c' := c) h (by omega)
    have hD : Hid (openOk zs = (sealL (zs.take (n - 2)) == zs)) := Lib.hid (by unfold openOk; rw [hl, show decide (2 ≤ n) = true by simpa using h2]; rfl)
    have CS := Lib.hid (crcSeal_any _ _ w RT (hz.take _) (by rw [hT]; omega))
    have CE := Lib.hid (fun v1 (w1 : World) (hb : Below w.heap.size w w1) (ho : eY.Own 5 w1 w.heap.size v1 (sealL (zs.take (n - 2)))) => eqY_any v1 (.slice (some ⟨g, off, none⟩) n c) _ zs w1 ho.rd (Els.Rd.below h hb) (sealL_byt _ (hz.take _)) hz)
    have CC := Lib.hid (fun (w1 : World) (hb : Below w.heap.size w w1) => Try.bytes_Clone_at ⟨g, off, none⟩ (n - 2) c (zs.take (n - 2)) w1 hT (by omega) (fun i hi => by
      rw [Els.add_pl, hb.cell (p := ⟨g, off + i, none⟩) hg, hcell i (by omega)]
      unfold iat
      rw [List.getD_eq_getElem?_getD, List.getD_eq_getElem?_getD, List.getElem?_take_of_lt hi]))
    have e2 : ¬ ((n : Int) < 2) := by omega
    have HL := Lib.hid hl
    have HT := Lib.hid hT
    have ts : ((n : Int) - 2).toNat = n - 2 := by omega
    have hcc : n - 2 ≤ c := by omega
    clear RT hcell hv hcl h hI hT hl
    cases hk : sealL (zs.take (n - 2)) == zs
    · rw [hk] at hD
      have HK := Lib.hid hk
      clear hk
      go_enter Try.func13, Try.ntmps13
      go_wp2_with (first
        | (go_at_call 14; refine CS.out.mono ?_; rintro e w1 ⟨v1, rfl, ho1, hb1⟩)
        | (go_at_call 15; refine (CE.out _ _ hb1 ho1).mono ?_; rintro e w' ⟨rfl, rfl⟩; rw [HK.out]))
      go_ret2
      unfold OpenPost
      rw [hD.out]
      exact ⟨_, rfl, .inl ⟨rfl, rfl⟩, hb1⟩
    · rw [hk] at hD
      have HK := Lib.hid hk
      clear hk
      go_enter Try.func13, Try.ntmps13
      go_wp2_with (first
        | (go_at_call 14; refine CS.out.mono ?_; rintro e w1 ⟨v1, rfl, ho1, hb1⟩)
        | (go_at_call 15; refine (CE.out _ _ hb1 ho1).mono ?_; rintro e w' ⟨rfl, rfl⟩; rw [HK.out])
        | (go_at_call 35; refine (CC.out _ hb1).mono ?_; rintro e w2 ⟨v2, rfl, ho2, _, hb2⟩))
      go_ret2
      unfold OpenPost
      first | rw [hD.out, if_pos rfl, HL.out] | rw [hD.out, if_pos rfl]
      refine ⟨_, rfl, ?_, Below.trans0 hb1 hb2⟩
      have ho3 : eY.Own 5 w2 w1.heap.size v2 (zs.take (zs.length - 2)) := by
        unfold Els.Own
        rw [eY_cells, HT.out]
        exact ho2
      exact ho3.rd
  · have HO : Hid (openOk zs = false) := Lib.hid (by unfold openOk; rw [show decide (2 ≤ zs.length) = false by simp; omega]; rfl)
    have hlt : (n : Int) < 2 := by omega
    clear hI h
    go_enter Try.func13, Try.ntmps13
    go_wp2
    go_ret2
    unfold OpenPost
    rw [HO.out]
    exact ⟨_, rfl, .inl ⟨rfl, rfl⟩, Below.refl _ _⟩
end Go.Proofs.Ytnhafficnomlbaa
