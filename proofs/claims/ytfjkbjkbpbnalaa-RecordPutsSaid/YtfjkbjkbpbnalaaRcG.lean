/- Records: contract of record.Get. -/
import Derived.Test.YtfjkbjkbpbnalaaRcT
import Derived.Test.YtfjkbjkbpbnalaaOct
namespace Go.Proofs.Ytfjkbjkbpbnalaa
open Go.ChangeShapes Go.WideShapes Go.ChangeAt Go.RowKit
set_option linter.unusedVariables false

theorem World.cell?_alloc_of {w : World} (o : Obj) (g i : Nat) {v : Value} (h : w.cell? ⟨g, i, none⟩ = some v) : (w.alloc o).cell? ⟨g, i, none⟩ = some v := (World.cell?_alloc_lt w o ⟨g, i, none⟩ (cell_lt h)).trans h
abbrev eR : Els Rc := ⟨fun x => [.int .u16 x.a, .int .u8 x.d, .bool x.r, .bool x.b1, .bool x.b2, .bool x.b3, .bool x.b4, .bool x.b5, .bool x.m], 9, fun _ => rfl, fun x u h => by
  simp only [List.mem_cons, List.not_mem_nil, or_false] at h
  rcases h with rfl | rfl | rfl | rfl | rfl | rfl | rfl | rfl | rfl <;> rfl, by decide⟩
/-- Is bit i of the sum on? -/
def sbB (s : Int) (i : Nat) : Bool := s / 2 ^ i % 2 == 1
theorem sb_fin : ∀ (s : Fin 256) (i : Fin 7), decide (0 < bits .and .u8 ((s.val : Int) / 2 ^ i.val) 1) = sbB (s.val : Int) i.val := by decide +kernel
theorem sb_any (s : Int) (i : Nat) (h0 : 0 ≤ s) (h1 : s < 256) (hi : i < 7) : decide (0 < bits .and .u8 (s / 2 ^ i) 1) = sbB s i := by
  have := sb_fin ⟨s.toNat, by omega⟩ ⟨i, hi⟩
  simpa [Int.toNat_of_nonneg h0] using this
/-- Levels of which the first i are told. -/
def lvK (s : Int) (i : Nat) : Array Value := #[.bool (decide (0 < i) && sbB s 0), .bool (decide (1 < i) && sbB s 1), .bool (decide (2 < i) && sbB s 2), .bool (decide (3 < i) && sbB s 3), .bool (decide (4 < i) && sbB s 4), .bool (decide (5 < i) && sbB s 5), .bool (decide (6 < i) && sbB s 6)]
theorem lvK_set (s : Int) (i : Nat) (h : i < 7) : (lvK s i).setIfInBounds i (.bool (sbB s i)) = lvK s (i + 1) := by
  rcases (show i = 0 ∨ i = 1 ∨ i = 2 ∨ i = 3 ∨ i = 4 ∨ i = 5 ∨ i = 6 by omega) with rfl | rfl | rfl | rfl | rfl | rfl | rfl <;> simp [lvK]
theorem lvK_at (s : Int) (i j : Nat) (hj : j < 7) : ∃ v, (lvK s i)[j]? = some v := by
  rcases (show j = 0 ∨ j = 1 ∨ j = 2 ∨ j = 3 ∨ j = 4 ∨ j = 5 ∨ j = 6 by omega) with rfl | rfl | rfl | rfl | rfl | rfl | rfl <;> exact ⟨_, rfl⟩
/-- The k-th record that bytes tell. -/
def gtR (xs : List Int) (k : Nat) : Rc := ⟨256 * iat xs (4 * k) + iat xs (4 * k + 1), iat xs (4 * k + 2), sbB (iat xs (4 * k + 3)) 0, sbB (iat xs (4 * k + 3)) 1, sbB (iat xs (4 * k + 3)) 2, sbB (iat xs (4 * k + 3)) 3, sbB (iat xs (4 * k + 3)) 4, sbB (iat xs (4 * k + 3)) 5, sbB (iat xs (4 * k + 3)) 6⟩
theorem lvK_7 (xs : List Int) (k : Nat) : lvK (iat xs (4 * k + 3)) 7 = (gtR xs k).lv := by simp [lvK, gtR]
def gtL (xs : List Int) (k : Nat) : List Rc := (List.range k).map (gtR xs)
theorem gtL_next (xs : List Int) (k : Nat) : gtL xs (k + 1) = gtL xs k ++ [gtR xs k] := by simp [gtL, List.range_succ]
theorem gtL_len (xs : List Int) (k : Nat) : (gtL xs k).length = k := by simp [gtL]
def GetPost (n : Nat) (xs : List Int) (w : World) (e : Ending) (w' : World) : Prop :=
  ((e = .returned (.tuple #[.slice none 0 0, .int .i64 12]) ∧ n % 4 ≠ 0) ∨
  (e = .returned (.tuple #[.slice none 0 0, .int .i64 21]) ∧ n % 4 = 0 ∧ ∃ k, 4 * k + 3 < n ∧ 127 < iat xs (4 * k + 3)) ∨
  (∃ v, e = .returned (.tuple #[v, .int .i64 0]) ∧ n % 4 = 0 ∧ (∀ k, 4 * k + 3 < n → iat xs (4 * k + 3) < 128) ∧ eR.Rd w' v (gtL xs (n / 4)))) ∧ Below w.heap.size w w'
theorem infoR : (Try.prog.info? 37).map (fun i => (i.zero, i.size, i.bytes)) = some (some (.agg #[.int .u16 0, .int .u8 0, .bool false, .bool false, .bool false, .bool false, .bool false, .bool false, .bool false]), 9, 10) := by kernel_rfl
theorem made_R (w : World) (c : Nat) (hc : c ≤ 1099511627776) : ∃ Z, (Instr.makeSlice 32 (.int .i64 0) (.int .i64 (c : Int))).run Try.prog w = .ok (.slice (some ⟨w.heap.size, 0, none⟩) 0 c) (w.alloc Z) ∧ ∀ base, base ≤ w.heap.size → eR.Own 37 (w.alloc Z) base (.slice (some ⟨w.heap.size, 0, none⟩) 0 c) [] := by
  obtain ⟨i0, hi, hz0, hz1, hz2⟩ := info_parts infoR
  exact Els.made (E := eR) w 32 37 i0 _ 10 Try.underlying32 hi hz0 hz1 hz2 (by decide) (by decide) c hc
theorem step_appR {ops : Array Oper} {o : Oper} {a : Act} {K : Act → World → Prop} {Q : Exit → Act → World → Prop} {E : Prop} (hgd : o.guard = none) (w : World) (s x : Operand)
    (ho : o.op = .call { callee := .builtin .append, args := #[s, x], argTypes := #[32, 32] })
    (base : Nat) (v y : Value) (l m : List Rc) (hs : a.eval s = v) (hown : eR.Own 37 w base v l) (hx : a.eval x = y) (hr : eR.Rd w y m) (hn : l.length + m.length ≤ 1099511627776) (hbase : base ≤ w.heap.size)
    (h : ∀ v' w', eR.Own 37 w' base v' (l ++ m) → Below base w w' → w.grownBy w' v.ownBlock → (v'.ownBlock = v.ownBlock ∨ v'.ownBlock = some w.heap.size) → K (a.put o.dst v') w') : if Region.wanted o (yielded ops a.tmps) = true then Oper.wp Try.prog o a w K Q else E := by
  obtain ⟨i0, hi, hz0, hz1, hz2⟩ := info_parts infoR
  rw [if_pos (by simp [Region.wanted, hgd])]
  exact Els.app (E := eR) w s x 32 37 i0 _ 10 Try.underlying32 hi hz0 hz1 hz2 (by decide) rfl ho base v y l m hs hown hx hr hn hbase h
set_option maxRecDepth 100000 in
set_option maxHeartbeats 1000000 in
theorem rcGet_size (A : Option Addr) (n c : Nat) (hn : n ≤ 1000) (h4 : n % 4 ≠ 0) (xs : List Int) (w : World) :
    Calls Try.prog 20 #[.slice A n c] w (GetPost n xs w) := by
  have ht : ((n : Int) % 4 != 0) = true := by rw [bne_iff_ne]; omega
  have H4 := Lib.hid h4
  clear h4
  go_enter Try.func20, Try.ntmps20
  go_wp2
  go_ret2
  exact ⟨.inl ⟨rfl, H4.out⟩, Below.refl _ _⟩
set_option maxRecDepth 100000 in
set_option maxHeartbeats 2000000 in
theorem rcGet_go (A : Option Addr) (n c : Nat) (hnc : n ≤ c) (hn : n ≤ 1000) (h4 : n % 4 = 0) (xs : List Int) (w : World) (h : Ints .u8 w w.heap.size A n xs) :
    Calls Try.prog 20 #[.slice A n c] w (GetPost n xs w) := by
  have ht : ((n : Int) % 4 != 0) = false := by rw [bne_eq_false_iff_eq]; omega
  have hq : ((n : Int) / 4) = ((n / 4 : Nat) : Int) := by omega
  have H4 := Lib.hid h4
  have HN := Lib.hid hn
  have HNC := Lib.hid hnc
  clear hnc
  obtain ⟨Z, hz, hzo⟩ := made_R w (n / 4) (by omega)
  rw [← hq] at hz
  clear hq
  have HI := Lib.hid h
  have HZO := Lib.hid hzo
  clear h4 h hzo
  go_enter Try.func20, Try.ntmps20
  go_wp2
  clear hn hz
  rcases Nat.eq_zero_or_pos n with h0 | h0
  · subst h0
    go_loopw [0, 4] (fun s o wr => s = .slice A 0 c ∧ o = .slice (some ⟨w.heap.size, 0, none⟩) 0 0 ∧ wr = w.alloc Z) (fun _ _ _ => 0)
    case atStart => exact ⟨rfl, rfl, rfl⟩
    case round =>
      obtain ⟨rfl, rfl, rfl⟩ := hrel
      go_wp2
      go_ret2
      exact ⟨.inr (.inr ⟨_, rfl, rfl, fun k hk => absurd hk (by omega), Els.Own.rd (HZO.out w.heap.size (Nat.le_refl _))⟩), Below.alloc0 (Below.refl _ _) _⟩
  obtain ⟨hln, hwf, hgo⟩ := HI.out
  obtain ⟨g, off, rfl, hg, hc⟩ := hgo h0
  have HC := Lib.hid hc
  have HG := Lib.hid hg
  have HW := Lib.hid hwf
  have HL := Lib.hid hln
  clear hc hg hgo hwf hln
  go_loopw [0, 4] (fun s o wr => ∃ (k : Nat) (A' : Option Addr), 4 * k ≤ n ∧ s = .slice A' (n - 4 * k) (c - 4 * k) ∧ Hid (4 * k < n → A' = some ⟨g, off + 4 * k, none⟩) ∧ Hid (∀ j, j < k → iat xs (4 * j + 3) < 128) ∧ Hid (eR.Own 37 wr w.heap.size o (gtL xs k)) ∧ Hid (Below w.heap.size w wr)) (fun s _ _ => match s with | .slice _ m _ => m | _ => 0)
  case atStart => exact ⟨0, _, Nat.zero_le _, rfl, Lib.hid (fun _ => rfl), Lib.hid (fun j hj => absurd hj (by omega)), Lib.hid (HZO.out _ (Nat.le_refl _)), Lib.hid (Below.alloc0 (Below.refl _ _) _)⟩
  case round =>
    obtain ⟨k, A', hk, rfl, hA, hJ, hO, hB⟩ := hrel
    obtain ⟨wo, rfl⟩ : ∃ wo : World, wo = wr := ⟨_, rfl⟩
    by_cases hlt : 4 * k + 4 ≤ n
    · obtain rfl := hA.out (by omega)
      have hcell : ∀ i, i < n → wo.cell? ⟨g, off + i, none⟩ = some (.int .u8 (iat xs i)) := fun i hi => (hB.out.cell (p := ⟨g, off + i, none⟩) HG.out).trans (HC.out i hi)
      have c0 : wo.cell? ⟨g, off + 4 * k, none⟩ = some (.int .u8 (iat xs (4 * k))) := hcell (4 * k) (by omega)
      have c1 : wo.cell? ⟨g, off + 4 * k + 1, none⟩ = some (.int .u8 (iat xs (4 * k + 1))) := hcell (4 * k + 1) (by omega)
      have c2 : wo.cell? ⟨g, off + 4 * k + 2, none⟩ = some (.int .u8 (iat xs (4 * k + 2))) := hcell (4 * k + 2) (by omega)
      have c3 : wo.cell? ⟨g, off + 4 * k + 3, none⟩ = some (.int .u8 (iat xs (4 * k + 3))) := hcell (4 * k + 3) (by omega)
      have r0 := bounds_u8 (iat_wf HW.out (4 * k) (by rw [HL.out]; omega))
      have r1 := bounds_u8 (iat_wf HW.out (4 * k + 1) (by rw [HL.out]; omega))
      have r2 := bounds_u8 (iat_wf HW.out (4 * k + 2) (by rw [HL.out]; omega))
      have r3 := bounds_u8 (iat_wf HW.out (4 * k + 3) (by rw [HL.out]; omega))
      obtain ⟨b0, e0⟩ : ∃ b, iat xs (4 * k) = b := ⟨_, rfl⟩
      obtain ⟨b1, e1⟩ : ∃ b, iat xs (4 * k + 1) = b := ⟨_, rfl⟩
      obtain ⟨b2, e2⟩ : ∃ b, iat xs (4 * k + 2) = b := ⟨_, rfl⟩
      obtain ⟨b3, e3⟩ : ∃ b, iat xs (4 * k + 3) = b := ⟨_, rfl⟩
      have GR := Lib.hid (show gtR xs k = ⟨256 * b0 + b1, b2, sbB b3 0, sbB b3 1, sbB b3 2, sbB b3 3, sbB b3 4, sbB b3 5, sbB b3 6⟩ by unfold gtR; rw [e0, e1, e2, e3])
      rw [e0] at c0 r0
      rw [e1] at c1 r1
      rw [e2] at c2 r2
      rw [e3] at c3 r3
      have E3 := Lib.hid e3
      clear e0 e1 e2 e3 hcell
      have HM := Lib.hid (show off + 4 * (k + 1) = off + 4 * k + 4 by omega)
      generalize off + 4 * k = m at c0 c1 c2 c3 HM ⊢
      have i3 : 3 < n - 4 * k := by omega
      have HQ := Lib.hid (show n - 4 * (k + 1) = n - 4 * k - 4 by omega)
      have HQ2 := Lib.hid (show c - 4 * (k + 1) = c - 4 * k - 4 by omega)
      by_cases hs : b3 < 128
      · go_wp2
        clear c3
        have SM := fun q (hq : q < 7) => sb_any b3 q r3.1 (by omega) hq
        go_loopw [26] (fun i wr => ∃ q : Nat, q ≤ 7 ∧ i = .int .i64 q ∧ Hid (Blk wr wo.heap.size 84 (lvK b3 q)) ∧ Hid (Below wo.heap.size wo wr)) (fun i _ => 7 - (intOf i).toNat)
        case atStart => exact ⟨0, by decide, rfl, Lib.hid (Blk.new _ _ _ (0, 0)), Lib.hid (Below.alloc0 (Below.refl _ _) _)⟩
        case round =>
          obtain ⟨q, hq, rfl, hL, hB1⟩ := hrel
          by_cases hlq : q < 7
          · have sq := SM q hlq
            have fq := Blk.frozen hL.out q
            obtain ⟨v, hv⟩ := lvK_at b3 q q hlq
            have cq := (Blk.cell hL.out q).trans hv
            clear SM hv
            go_wp2
            go_round
            case rel => exact ⟨q + 1, by omega, by go_num, Lib.hid (by rw [← lvK_set b3 q hlq]; exact Blk.set_ hL.out q _), Lib.hid (Below.set0 hB1.out (Nat.le_refl _) _)⟩
            case measure => simp [intOf]; omega
          · obtain rfl : q = 7 := by omega
            have hL7 : Hid (Blk wr wo.heap.size 84 #[.bool (sbB b3 0), .bool (sbB b3 1), .bool (sbB b3 2), .bool (sbB b3 3), .bool (sbB b3 4), .bool (sbB b3 5), .bool (sbB b3 6)]) := Lib.hid (by have := hL.out; simpa [lvK] using this)
            have HG2 : g < wo.heap.size := Nat.lt_of_lt_of_le HG.out hB.out.size
            have d0 := (hB1.out.cell (p := ⟨g, m, none⟩) HG2).trans c0
            have d1 := (hB1.out.cell (p := ⟨g, m + 1, none⟩) HG2).trans c1
            have d2 := (hB1.out.cell (p := ⟨g, m + 2, none⟩) HG2).trans c2
            have hO2 := Lib.hid (Els.Own.below hO.out hB1.out)
            have hB2 := Lib.hid (Below.trans0 hB.out hB1.out)
            have CR := Lib.hid (fun u => rcRec_any (⟨256 * b0 + b1, b2, sbB b3 0, sbB b3 1, sbB b3 2, sbB b3 3, sbB b3 4, sbB b3 5, sbB b3 6⟩ : Rc) u)
            have LN := Lib.hid (gtL_len xs k)
            have NX := Lib.hid (gtL_next xs k)
            rw [GR.out] at NX
            clear SM c0 c1 c2
            go_wp2
            have hG2 : g < wr.heap.size := Nat.lt_of_lt_of_le HG2 hB1.out.size
            have S0 : Hid ((fun w' => (w'.cell? ⟨g, m, none⟩ = some (.int .u8 b0) ∧ w'.cell? ⟨g, m + 1, none⟩ = some (.int .u8 b1) ∧ w'.cell? ⟨g, m + 2, none⟩ = some (.int .u8 b2)) ∧ w'.cell? ⟨wo.heap.size, 0, none⟩ = some (.bool (sbB b3 0)) ∧ w'.cell? ⟨wo.heap.size, 1, none⟩ = some (.bool (sbB b3 1)) ∧ w'.cell? ⟨wo.heap.size, 2, none⟩ = some (.bool (sbB b3 2)) ∧ w'.cell? ⟨wo.heap.size, 3, none⟩ = some (.bool (sbB b3 3)) ∧ w'.cell? ⟨wo.heap.size, 4, none⟩ = some (.bool (sbB b3 4)) ∧ w'.cell? ⟨wo.heap.size, 5, none⟩ = some (.bool (sbB b3 5)) ∧ w'.cell? ⟨wo.heap.size, 6, none⟩ = some (.bool (sbB b3 6))) wr.drew) := Lib.hid ⟨⟨d0, d1, d2⟩, Blk.c7 hL7.out.drew⟩
            have CW := Lib.hid (fun u => word_any b0 b1 u r0.1 (by omega) r1.1 (by omega))
            clear d0 d1 d2
            have SA : ∀ (u : World), ((fun (w' : World) => (w'.cell? ⟨g, m, none⟩ = some (.int .u8 b0) ∧ w'.cell? ⟨g, m + 1, none⟩ = some (.int .u8 b1) ∧ w'.cell? ⟨g, m + 2, none⟩ = some (.int .u8 b2)) ∧ w'.cell? ⟨wo.heap.size, 0, none⟩ = some (.bool (sbB b3 0)) ∧ w'.cell? ⟨wo.heap.size, 1, none⟩ = some (.bool (sbB b3 1)) ∧ w'.cell? ⟨wo.heap.size, 2, none⟩ = some (.bool (sbB b3 2)) ∧ w'.cell? ⟨wo.heap.size, 3, none⟩ = some (.bool (sbB b3 3)) ∧ w'.cell? ⟨wo.heap.size, 4, none⟩ = some (.bool (sbB b3 4)) ∧ w'.cell? ⟨wo.heap.size, 5, none⟩ = some (.bool (sbB b3 5)) ∧ w'.cell? ⟨wo.heap.size, 6, none⟩ = some (.bool (sbB b3 6))) : World → Prop) u → ((fun (w' : World) => (w'.cell? ⟨g, m, none⟩ = some (.int .u8 b0) ∧ w'.cell? ⟨g, m + 1, none⟩ = some (.int .u8 b1) ∧ w'.cell? ⟨g, m + 2, none⟩ = some (.int .u8 b2)) ∧ w'.cell? ⟨wo.heap.size, 0, none⟩ = some (.bool (sbB b3 0)) ∧ w'.cell? ⟨wo.heap.size, 1, none⟩ = some (.bool (sbB b3 1)) ∧ w'.cell? ⟨wo.heap.size, 2, none⟩ = some (.bool (sbB b3 2)) ∧ w'.cell? ⟨wo.heap.size, 3, none⟩ = some (.bool (sbB b3 3)) ∧ w'.cell? ⟨wo.heap.size, 4, none⟩ = some (.bool (sbB b3 4)) ∧ w'.cell? ⟨wo.heap.size, 5, none⟩ = some (.bool (sbB b3 5)) ∧ w'.cell? ⟨wo.heap.size, 6, none⟩ = some (.bool (sbB b3 6))) : World → Prop) (u.alloc (Obj.cells #[.int .u16 (256 * b0 + b1), .int .u8 b2, .bool (sbB b3 0), .bool (sbB b3 1), .bool (sbB b3 2), .bool (sbB b3 3), .bool (sbB b3 4), .bool (sbB b3 5), .bool (sbB b3 6)] 37)) := fun u h => ⟨⟨(World.cell?_alloc_of _ _ _ h.1.1), (World.cell?_alloc_of _ _ _ h.1.2.1), (World.cell?_alloc_of _ _ _ h.1.2.2)⟩, (World.cell?_alloc_of _ _ _ h.2.1), (World.cell?_alloc_of _ _ _ h.2.2.1), (World.cell?_alloc_of _ _ _ h.2.2.2.1), (World.cell?_alloc_of _ _ _ h.2.2.2.2.1), (World.cell?_alloc_of _ _ _ h.2.2.2.2.2.1), (World.cell?_alloc_of _ _ _ h.2.2.2.2.2.2.1), (World.cell?_alloc_of _ _ _ h.2.2.2.2.2.2.2)⟩
            have j1 : (1 : Int) < ((n - 4 * k : Nat) : Int) := by omega
            have j2 : (2 : Int) < ((n - 4 * k : Nat) : Int) := by omega
            refine wp_region_noPanic ?_
            refine wp_region_held_drew (S := (fun w' => (w'.cell? ⟨g, m, none⟩ = some (.int .u8 b0) ∧ w'.cell? ⟨g, m + 1, none⟩ = some (.int .u8 b1) ∧ w'.cell? ⟨g, m + 2, none⟩ = some (.int .u8 b2)) ∧ w'.cell? ⟨wo.heap.size, 0, none⟩ = some (.bool (sbB b3 0)) ∧ w'.cell? ⟨wo.heap.size, 1, none⟩ = some (.bool (sbB b3 1)) ∧ w'.cell? ⟨wo.heap.size, 2, none⟩ = some (.bool (sbB b3 2)) ∧ w'.cell? ⟨wo.heap.size, 3, none⟩ = some (.bool (sbB b3 3)) ∧ w'.cell? ⟨wo.heap.size, 4, none⟩ = some (.bool (sbB b3 4)) ∧ w'.cell? ⟨wo.heap.size, 5, none⟩ = some (.bool (sbB b3 5)) ∧ w'.cell? ⟨wo.heap.size, 6, none⟩ = some (.bool (sbB b3 6)))) (by kernel_rfl) ?_ (fun hH0 => ?_)
            · (try dsimp only); with_reducible exact S0.out
            refine wpAnyH_take (i := 0) (oi := ({ dst := some 37, op := Op.move (Operand.tmp 4), type := 32, pos := "record.go:61", after := #[], guard := none } : Oper)) (v := ?_) rfl (by kernel_rfl) (by kernel_rfl) (by kernel_rfl) (fun _ _ _ h => h) (Or.inl ⟨by rfl, ?_⟩) (by assumption) ?_
            rotate_left 1
            · (intro w hSw; (try dsimp only at hSw); go_simp; (try with_reducible rfl))
            (try simp only [Act.put, List.setIfInBounds_toArray, List.set_cons_zero, List.set_cons_succ])
            refine wpAnyH_take (i := 1) (oi := ({ dst := some 38, op := Op.load 84 (Operand.tmp 6), type := 84, pos := "record.go:61", after := #[], guard := none } : Oper)) (v := ?_) rfl (by kernel_rfl) (by kernel_rfl) (by kernel_rfl) (fun _ _ _ h => h) (Or.inl ⟨by rfl, ?_⟩) (by assumption) ?_
            rotate_left 1
            · (intro w hSw; (try dsimp only at hSw); go_simp; (try with_reducible rfl))
            (try simp only [Act.put, List.setIfInBounds_toArray, List.set_cons_zero, List.set_cons_succ])
            refine wpAnyH_take (i := 2) (oi := ({ dst := some 39, op := Op.move (Operand.tmp 0), type := 33, pos := "record.go:61", after := #[], guard := none } : Oper)) (v := ?_) rfl (by kernel_rfl) (by kernel_rfl) (by kernel_rfl) (fun _ _ _ h => h) (Or.inl ⟨by rfl, ?_⟩) (by assumption) ?_
            rotate_left 1
            · (intro w hSw; (try dsimp only at hSw); go_simp; (try with_reducible rfl))
            (try simp only [Act.put, List.setIfInBounds_toArray, List.set_cons_zero, List.set_cons_succ])
            refine wpAnyH_take (i := 3) (oi := ({ dst := some 40, op := Op.indexAddr 33 (Operand.tmp 39) (Operand.const (Value.int IntKind.i64 0)), type := 0, pos := "record.go:61", after := #[{ on := 2, ground := Ground.data }], guard := none } : Oper)) (v := ?_) rfl (by kernel_rfl) (by kernel_rfl) (by kernel_rfl) (fun _ _ _ h => h) (Or.inl ⟨by rfl, ?_⟩) (by assumption) ?_
            rotate_left 1
            · (intro w hSw; (try dsimp only at hSw); go_simp; (try with_reducible rfl))
            (try simp only [Act.put, List.setIfInBounds_toArray, List.set_cons_zero, List.set_cons_succ])
            refine wpAnyH_take (i := 4) (oi := ({ dst := some 41, op := Op.load 5 (Operand.tmp 40), type := 5, pos := "record.go:61", after := #[{ on := 3, ground := Ground.data }], guard := none } : Oper)) (v := ?_) rfl (by kernel_rfl) (by kernel_rfl) (by kernel_rfl) (fun _ _ _ h => h) (Or.inl ⟨by rfl, ?_⟩) (by assumption) ?_
            rotate_left 1
            · (intro w hSw; (try dsimp only at hSw); go_simp; (try with_reducible rfl))
            (try simp only [Act.put, List.setIfInBounds_toArray, List.set_cons_zero, List.set_cons_succ])
            refine wpAnyH_take (i := 5) (oi := ({ dst := some 42, op := Op.move (Operand.tmp 0), type := 33, pos := "record.go:61", after := #[], guard := none } : Oper)) (v := ?_) rfl (by kernel_rfl) (by kernel_rfl) (by kernel_rfl) (fun _ _ _ h => h) (Or.inl ⟨by rfl, ?_⟩) (by assumption) ?_
            rotate_left 1
            · (intro w hSw; (try dsimp only at hSw); go_simp; (try with_reducible rfl))
            (try simp only [Act.put, List.setIfInBounds_toArray, List.set_cons_zero, List.set_cons_succ])
            refine wpAnyH_take (i := 6) (oi := ({ dst := some 43, op := Op.indexAddr 33 (Operand.tmp 42) (Operand.const (Value.int IntKind.i64 1)), type := 0, pos := "record.go:61", after := #[{ on := 5, ground := Ground.data }], guard := none } : Oper)) (v := ?_) rfl (by kernel_rfl) (by kernel_rfl) (by kernel_rfl) (fun _ _ _ h => h) (Or.inl ⟨by rfl, ?_⟩) (by assumption) ?_
            rotate_left 1
            · (intro w hSw; (try dsimp only at hSw); go_simp; (try with_reducible rfl))
            (try simp only [Act.put, List.setIfInBounds_toArray, List.set_cons_zero, List.set_cons_succ])
            refine wpAnyH_take (i := 7) (oi := ({ dst := some 44, op := Op.load 5 (Operand.tmp 43), type := 5, pos := "record.go:61", after := #[{ on := 6, ground := Ground.data }], guard := none } : Oper)) (v := ?_) rfl (by kernel_rfl) (by kernel_rfl) (by kernel_rfl) (fun _ _ _ h => h) (Or.inl ⟨by rfl, ?_⟩) (by assumption) ?_
            rotate_left 1
            · (intro w hSw; (try dsimp only at hSw); go_simp; (try with_reducible rfl))
            (try simp only [Act.put, List.setIfInBounds_toArray, List.set_cons_zero, List.set_cons_succ])
            refine wpAnyH_take (i := 9) (oi := ({ dst := some 46, op := Op.move (Operand.tmp 0), type := 33, pos := "record.go:61", after := #[], guard := none } : Oper)) (v := ?_) rfl (by kernel_rfl) (by kernel_rfl) (by kernel_rfl) (fun _ _ _ h => h) (Or.inl ⟨by rfl, ?_⟩) (by assumption) ?_
            rotate_left 1
            · (intro w hSw; (try dsimp only at hSw); go_simp; (try with_reducible rfl))
            (try simp only [Act.put, List.setIfInBounds_toArray, List.set_cons_zero, List.set_cons_succ])
            refine wpAnyH_take (i := 10) (oi := ({ dst := some 47, op := Op.indexAddr 33 (Operand.tmp 46) (Operand.const (Value.int IntKind.i64 2)), type := 0, pos := "record.go:61", after := #[{ on := 9, ground := Ground.data }], guard := none } : Oper)) (v := ?_) rfl (by kernel_rfl) (by kernel_rfl) (by kernel_rfl) (fun _ _ _ h => h) (Or.inl ⟨by rfl, ?_⟩) (by assumption) ?_
            rotate_left 1
            · (intro w hSw; (try dsimp only at hSw); go_simp; (try with_reducible rfl))
            (try simp only [Act.put, List.setIfInBounds_toArray, List.set_cons_zero, List.set_cons_succ])
            refine wpAnyH_take (i := 11) (oi := ({ dst := some 48, op := Op.load 5 (Operand.tmp 47), type := 5, pos := "record.go:61", after := #[{ on := 10, ground := Ground.data }], guard := none } : Oper)) (v := ?_) rfl (by kernel_rfl) (by kernel_rfl) (by kernel_rfl) (fun _ _ _ h => h) (Or.inl ⟨by rfl, ?_⟩) (by assumption) ?_
            rotate_left 1
            · (intro w hSw; (try dsimp only at hSw); go_simp; (try with_reducible rfl))
            (try simp only [Act.put, List.setIfInBounds_toArray, List.set_cons_zero, List.set_cons_succ])
            refine wpAnyH_ready (rs := [8]) (by kernel_rfl) (by simp) ?_
            refine AllReadyH.cons (o := ({ dst := some 45, op := Op.call { callee := Callee.value (Operand.func 56), args := #[Operand.tmp 41, Operand.tmp 44], argTypes := #[5, 5] }, type := 35, pos := "record.go:61", after := #[{ on := 4, ground := Ground.data }, { on := 7, ground := Ground.data }], guard := none } : Oper)) rfl (fun K hK => ?_) ?_
            rotate_left 1
            · exact AllReadyH.nil
            go_simp
            go_at_call 56
            ((with_reducible refine (CW.out _).mono ?_); rintro e w' ⟨rfl, rfl⟩)
            first | (refine hK.out _ _ ?_ (fun hH1 => ?_)) | (go_wp2_with fail; refine hK.out _ _ ?_ (fun hH1 => ?_))
            · (try dsimp only); with_reducible exact S0.out
            clear hK K hH0
            (try simp only [Act.put, List.setIfInBounds_toArray, List.set_cons_zero, List.set_cons_succ])
            refine wpAnyH_ready (rs := [12]) (by kernel_rfl) (by simp) ?_
            refine AllReadyH.cons (o := ({ dst := some 49, op := Op.call { callee := Callee.value (Operand.func 53), args := #[Operand.tmp 38, Operand.tmp 45, Operand.tmp 48], argTypes := #[84, 35, 5] }, type := 37, pos := "record.go:61", after := #[{ on := 1, ground := Ground.data }, { on := 8, ground := Ground.data }, { on := 11, ground := Ground.data }, { on := 8, ground := Ground.chain }], guard := none } : Oper)) rfl (fun K hK => ?_) ?_
            rotate_left 1
            · exact AllReadyH.nil
            go_simp
            go_at_call 53
            ((with_reducible refine (CR.out _).mono ?_); rintro e w2 ⟨rfl, hb⟩; have HO3 := Lib.hid (Els.Own.below hO2.out.drew hb); have HB3 := Lib.hid (Below.trans0 (Below.drew0 hB2.out) hb); have L2 := Lib.hid (Blk.below hL7.out.drew hb hL7.out.lt); have S1 : Hid ((fun w' => (w'.cell? ⟨g, m, none⟩ = some (.int .u8 b0) ∧ w'.cell? ⟨g, m + 1, none⟩ = some (.int .u8 b1) ∧ w'.cell? ⟨g, m + 2, none⟩ = some (.int .u8 b2)) ∧ w'.cell? ⟨wo.heap.size, 0, none⟩ = some (.bool (sbB b3 0)) ∧ w'.cell? ⟨wo.heap.size, 1, none⟩ = some (.bool (sbB b3 1)) ∧ w'.cell? ⟨wo.heap.size, 2, none⟩ = some (.bool (sbB b3 2)) ∧ w'.cell? ⟨wo.heap.size, 3, none⟩ = some (.bool (sbB b3 3)) ∧ w'.cell? ⟨wo.heap.size, 4, none⟩ = some (.bool (sbB b3 4)) ∧ w'.cell? ⟨wo.heap.size, 5, none⟩ = some (.bool (sbB b3 5)) ∧ w'.cell? ⟨wo.heap.size, 6, none⟩ = some (.bool (sbB b3 6))) w2) := Lib.hid ⟨⟨(hb.cell (p := ⟨g, m, none⟩) hG2).trans S0.out.1.1, (hb.cell (p := ⟨g, m + 1, none⟩) hG2).trans S0.out.1.2.1, (hb.cell (p := ⟨g, m + 2, none⟩) hG2).trans S0.out.1.2.2⟩, Blk.c7 (Blk.below hL7.out.drew hb hL7.out.lt)⟩; clear hb)
            first | (refine hK.out _ _ ?_ (fun hH2 => ?_)) | (go_wp2_with fail; refine hK.out _ _ ?_ (fun hH2 => ?_))
            · (try dsimp only); with_reducible exact S1.out
            clear hK K hH1
            (try simp only [Act.put, List.setIfInBounds_toArray, List.set_cons_zero, List.set_cons_succ])
            refine wpAnyH_ready (rs := [13]) (by kernel_rfl) (by simp) ?_
            refine AllReadyH.cons (o := ({ dst := some 50, op := Op.buildSlice 32 1 #[(0, Operand.tmp 49)], type := 32, pos := "record.go:61", after := #[{ on := 12, ground := Ground.data }], guard := none } : Oper)) rfl (fun K hK => ?_) ?_
            rotate_left 1
            · exact AllReadyH.nil
            go_simp
            first | (refine hK.out _ _ ?_ (fun hH3 => ?_)) | (go_wp2_with fail; refine hK.out _ _ ?_ (fun hH3 => ?_))
            · (try dsimp only); with_reducible exact (SA _ S1.out)
            clear hK K hH2
            (try simp only [Act.put, List.setIfInBounds_toArray, List.set_cons_zero, List.set_cons_succ])
            refine wpAnyH_ready (rs := [14]) (by kernel_rfl) (by simp) ?_
            refine AllReadyH.cons (o := ({ dst := some 51, op := Op.call { callee := Callee.builtin Builtin.append, args := #[Operand.tmp 37, Operand.tmp 50], argTypes := #[32, 32] }, type := 32, pos := "record.go:61", after := #[{ on := 0, ground := Ground.data }, { on := 13, ground := Ground.data }, { on := 12, ground := Ground.chain }], guard := none } : Oper)) rfl (fun K hK => ?_) ?_
            rotate_left 1
            · exact AllReadyH.nil
            (refine step_appR (by rfl) _ _ _ (by rfl) w.heap.size u4 _ (gtL xs k) [gtR xs k] (by rfl) (HO3.out.alloc _) (by rfl) (by rw [GR.out]; exact Els.Rd.new (E := eR) _ rfl 37 [_] #[.int .u16 (256 * b0 + b1), .int .u8 b2, .bool (sbB b3 0), .bool (sbB b3 1), .bool (sbB b3 2), .bool (sbB b3 3), .bool (sbB b3 4), .bool (sbB b3 5), .bool (sbB b3 6)] 1 rfl rfl 1) (by rw [LN.out]; have := HN.out; simp; omega) (by have := HB3.out.size; simp at this ⊢; omega) ?_; intro v' w4 hown hbel hgr hwh; have S3 : Hid ((fun w' => (w'.cell? ⟨g, m, none⟩ = some (.int .u8 b0) ∧ w'.cell? ⟨g, m + 1, none⟩ = some (.int .u8 b1) ∧ w'.cell? ⟨g, m + 2, none⟩ = some (.int .u8 b2)) ∧ w'.cell? ⟨wo.heap.size, 0, none⟩ = some (.bool (sbB b3 0)) ∧ w'.cell? ⟨wo.heap.size, 1, none⟩ = some (.bool (sbB b3 1)) ∧ w'.cell? ⟨wo.heap.size, 2, none⟩ = some (.bool (sbB b3 2)) ∧ w'.cell? ⟨wo.heap.size, 3, none⟩ = some (.bool (sbB b3 3)) ∧ w'.cell? ⟨wo.heap.size, 4, none⟩ = some (.bool (sbB b3 4)) ∧ w'.cell? ⟨wo.heap.size, 5, none⟩ = some (.bool (sbB b3 5)) ∧ w'.cell? ⟨wo.heap.size, 6, none⟩ = some (.bool (sbB b3 6))) w4) := Lib.hid ⟨⟨(hbel.cell (p := ⟨g, m, none⟩) HG.out).trans (SA _ S1.out).1.1, (hbel.cell (p := ⟨g, m + 1, none⟩) HG.out).trans (SA _ S1.out).1.2.1, (hbel.cell (p := ⟨g, m + 2, none⟩) HG.out).trans (SA _ S1.out).1.2.2⟩, Blk.c7 ((hgr.block wo.heap.size (by have := hL7.out.lt; have := L2.out.lt; simp; omega) (fun e => absurd (hO.out.lt _ e.symm).2 (Nat.lt_irrefl _))).trans (Blk.alloc L2.out _))⟩)
            first | (refine hK.out _ _ ?_ (fun hH4 => ?_)) | (go_wp2_with fail; refine hK.out _ _ ?_ (fun hH4 => ?_))
            · (try dsimp only); with_reducible exact S3.out
            clear hK K hH3
            (try simp only [Act.put, List.setIfInBounds_toArray, List.set_cons_zero, List.set_cons_succ])
            refine wpAnyH_take (i := 15) (oi := ({ dst := some 4, op := Op.assign (Operand.tmp 51), type := 32, pos := "record.go:61", after := #[{ on := 14, ground := Ground.data }, { on := 14, ground := Ground.chain }, { on := 0, ground := Ground.phase }, { on := 1, ground := Ground.phase }, { on := 2, ground := Ground.phase }, { on := 3, ground := Ground.phase }, { on := 4, ground := Ground.phase }, { on := 5, ground := Ground.phase }, { on := 6, ground := Ground.phase }, { on := 7, ground := Ground.phase }, { on := 8, ground := Ground.phase }, { on := 9, ground := Ground.phase }, { on := 10, ground := Ground.phase }, { on := 11, ground := Ground.phase }, { on := 12, ground := Ground.phase }, { on := 13, ground := Ground.phase }, { on := 14, ground := Ground.phase }], guard := none } : Oper)) (v := ?_) rfl (by kernel_rfl) (by kernel_rfl) (by kernel_rfl) (fun _ _ _ h => h) (Or.inl ⟨by rfl, ?_⟩) (by assumption) ?_
            rotate_left 1
            · (intro w hSw; (try dsimp only at hSw); go_simp; (try with_reducible rfl))
            (try simp only [Act.put, List.setIfInBounds_toArray, List.set_cons_zero, List.set_cons_succ])
            refine wpAnyH_done (by kernel_rfl) ?_ _
            refine NoPanic.normal ?_
            clear hH4 S3 S1 S0 SA hwh
            have HO4 : Hid (eR.Own 37 w4 w.heap.size v' (gtL xs (k + 1))) := Lib.hid (by rw [gtL_next]; exact hown)
            have HB4 := Lib.hid ((Below.alloc0 HB3.out _).trans hbel)
            have HJ4 : Hid (∀ j, j < k + 1 → iat xs (4 * j + 3) < 128) := Lib.hid (fun j hj => by
              rcases Nat.lt_succ_iff_lt_or_eq.1 hj with a | rfl
              · exact hJ.out j a
              · rw [E3.out]; exact hs)
            clear hown hbel hgr
            by_cases hcc : c - 4 * k = 4
            · go_wp2
              go_roundw
              case rel => exact ⟨k + 1, some ⟨g, m, none⟩, by omega, by rw [HQ.out, HQ2.out, hcc], Lib.hid (fun h => absurd h (by have := HNC.out; omega)), HJ4, HO4, HB4⟩
              case measure => simp only []; omega
            · go_wp2
              go_roundw
              case rel => exact ⟨k + 1, _, by omega, by rw [HQ.out, HQ2.out], Lib.hid (fun _ => by rw [HM.out]), HJ4, HO4, HB4⟩
              case measure => simp only []; omega
      · go_wp2
        go_ret2
        exact ⟨.inr (.inl ⟨rfl, H4.out, k, by omega, by rw [E3.out]; omega⟩), Below.alloc0 hB.out _⟩
    · have e : 4 * k = n := by have := H4.out; omega
      subst e
      have hz : ((4 * k - 4 * k : Nat) : Int) = 0 := by omega
      have hJ' : Hid (∀ j, 4 * j + 3 < 4 * k → iat xs (4 * j + 3) < 128) := Lib.hid (fun j hj => hJ.out j (by omega))
      have hO' := Lib.hid (Els.Own.rd hO.out)
      have hD := Lib.hid (show 4 * k / 4 = k by omega)
      clear hJ hO
      go_wp2
      go_ret2
      exact ⟨.inr (.inr ⟨_, rfl, H4.out, hJ'.out, by rw [hD.out]; exact hO'.out⟩), hB.out⟩
theorem rcGet_any (A : Option Addr) (n c : Nat) (hnc : n ≤ c) (hn : n ≤ 1000) (xs : List Int) (w : World) (h : Ints .u8 w w.heap.size A n xs) :
    Calls Try.prog 20 #[.slice A n c] w (GetPost n xs w) := by
  by_cases h4 : n % 4 = 0
  · exact rcGet_go A n c hnc hn h4 xs w h
  · exact rcGet_size A n c hn h4 xs w
end Go.Proofs.Ytfjkbjkbpbnalaa
