/- Contracts: srec.Put. -/
import Derived.Test.YtnmgjgeniaheoabDoorSrl
import Derived.Test.YtnmgjgeniaheoabDoorSrx
import Derived.Test.YtnmgjgeniaheoabDoorBlp
namespace Go.Proofs.YtnmgjgeniaheoabDoor
open Go.ChangeShapes Go.WideShapes Go.ChangeAt Go.RowKit
set_option linter.unusedVariables false

noncomputable def lnsA (l : List Pc) : List ByteArray := (ckAll l).map lnT
theorem lnsA_next (l : List Pc) (k : Nat) (p : Pc) (h : l[k]? = some p) : lnsA (l.take (k + 1)) = lnsA (l.take k) ++ (ckL p).map lnT := by
  unfold lnsA ckAll
  rw [List.take_add_one, h, List.flatMap_append, List.map_append]
  simp
theorem lns_take (p : Pc) (j : Nat) : ((List.range (j + 1)).map (ckP p)).map lnT = ((List.range j).map (ckP p)).map lnT ++ [lnT (ckP p j)] := by rw [ckL_take, List.map_append, List.map_singleton]
theorem lnX_len (k a : Int) (b : List Int) : (lnX k a b).length = 2 * b.length + 10 := by
  unfold lnX
  rw [List.length_append, pairsOf_len, lnS_len]
  simp; omega
theorem lnT_size (p : Pc) : (lnT p).size = 2 * p.2.length + 10 := by unfold lnT; rw [strOfNums_size, lnX_len]
theorem catN_size : ∀ (L : List ByteArray) (m : Nat), (∀ x ∈ L, x.size ≤ m) → (catN L).size ≤ L.length * (m + 1)
  | [], m, _ => Nat.zero_le _
  | x :: L, m, h => by
    have ih := catN_size L m (fun y hy => h y (by simp [hy]))
    have hx := h x (by simp)
    have e1 : (catN (x :: L)).size = x.size + 1 + (catN L).size := by
      unfold catN
      show (List.toArray _).size = _ + 1 + (List.toArray _).size
      simp only [List.size_toArray, List.flatMap_cons, List.length_append, List.length_singleton]
      rw [show x.data.toList.length = x.size by rw [Array.length_toList]; rfl]
    rw [e1, List.length_cons, Nat.succ_mul]
    omega
theorem ckN_le (p : Pc) (h : p.2.length ≤ 200) : ckN p ≤ 7 := by unfold ckN; omega
theorem lns_bound (l : List Pc) (h : fitsP l = true) : ∀ (x : ByteArray), x ∈ lnsA l → x.size ≤ 74 := by
  intro x hx
  unfold lnsA ckAll at hx
  obtain ⟨q, hq, rfl⟩ := List.mem_map.1 hx
  obtain ⟨p, hp, hq2⟩ := List.mem_flatMap.1 hq
  obtain ⟨j, hj, rfl⟩ := List.mem_map.1 hq2
  rw [lnT_size]
  unfold ckP
  rw [List.length_take]
  have : min 32 (p.2.drop (32 * j)).length ≤ 32 := Nat.min_le_left _ _
  omega
theorem lns_count : ∀ (l : List Pc), fitsP l = true → (lnsA l).length ≤ 7 * l.length
  | [], _ => Nat.le_refl _
  | p :: l, h => by
    unfold fitsP at h
    rw [List.all_cons, Bool.and_eq_true] at h
    have ih := lns_count l h.2
    have hp := ckN_le p ((fitP_iff p).1 h.1).1
    unfold lnsA ckAll at ih ⊢
    rw [List.flatMap_cons, List.map_append, List.length_append, List.length_cons]
    have : ((ckL p).map lnT).length = ckN p := by simp [ckL]
    omega
theorem strCells_cat (L : List ByteArray) (x : ByteArray) : Lib.strCells (catN (L ++ [x])) = Lib.strCells (catN L) ++ Lib.strCells (x ++ ⟨#[10]⟩) := by
  rw [catN_app]
  simp [Lib.strCells]
theorem fitsP_take (l : List Pc) (k : Nat) (h : fitsP l = true) : fitsP (l.take k) = true := by
  unfold fitsP at h ⊢
  rw [List.all_eq_true] at h ⊢
  exact fun p hp => h p (List.mem_of_mem_take hp)
theorem take_min (l : List Int) (f T : Nat) (hT : T = if l.length < f + 32 then l.length else f + 32) (hf : f ≤ l.length) : (l.drop f).take (T - f) = (l.drop f).take 32 := by
  rw [List.take_eq_take_iff, List.length_drop, Nat.min_def, Nat.min_def]
  subst hT
  split <;> split <;> split <;> omega
theorem cat_part (l : List Pc) (hf : fitsP l = true) (hn : l.length ≤ 10) (k : Nat) (p : Pc) (h : l[k]? = some p) (j : Nat) (hj : 32 * j < p.2.length + 32) : (catN (lnsA (l.take k) ++ ((List.range j).map (ckP p)).map lnT)).size ≤ 7000 := by
  have hp := ((fitP_iff p).1 (fitsP_at hf h)).1
  have h1 := catN_size (lnsA (l.take k) ++ ((List.range j).map (ckP p)).map lnT) 74 (fun x hx => by
    rcases List.mem_append.1 hx with hx | hx
    · exact lns_bound _ (fitsP_take l k hf) x hx
    · obtain ⟨q, hq, rfl⟩ := List.mem_map.1 hx
      obtain ⟨i, hi, rfl⟩ := List.mem_map.1 hq
      rw [lnT_size]
      unfold ckP
      rw [List.length_take]
      have : min 32 (p.2.drop (32 * i)).length ≤ 32 := Nat.min_le_left _ _
      omega)
  have h2 := lns_count (l.take k) (fitsP_take l k hf)
  rw [List.length_take] at h2
  have h4 : min k l.length ≤ 10 := by omega
  have h3 : (lnsA (l.take k) ++ ((List.range j).map (ckP p)).map lnT).length ≤ 80 := by
    rw [List.length_append, List.length_map, List.length_map, List.length_range]; omega
  have := Nat.mul_le_mul h3 (Nat.le_refl 75)
  omega
theorem sliceY_lh (u : World) (A : Option Addr) (m c f t : Nat) (h1 : f ≤ t) (h2 : t ≤ c) : (Instr.slice 25 (.slice A m c) (some (.int .i64 (f : Int))) (some (.int .i64 (t : Int))) none).run Tryd.prog u = .ok (sliced A f t c 1) u := by
  have hs : (sizeOf (Tryd.prog.elem 25)).run Tryd.prog u = .ok 1 u := by kernel_rfl
  have ht : Tryd.prog.underlying 25 = some (.slice (Tryd.prog.elem 25)) := by kernel_rfl
  rw [run_slice_lh u 25 A m c ht .i64 .i64 (f : Int) (t : Int) (by omega) (by omega) (by omega), hs]
  rfl
theorem windowY {w : World} {A : Option Addr} {n c : Nat} {l : List Int} (h : eY.Rd w (.slice A n c) l) (hc : n ≤ c) (f t : Nat) (hf : f ≤ t) (ht : t ≤ n) :
    eY.Rd w (sliced A f t c 1) ((l.drop f).take (t - f)) := by
  rcases h with ⟨e, rfl⟩ | ⟨ad, c', e, hg, hcl⟩
  · injection e with e1 e2 e3
    subst e1 e2 e3
    obtain rfl : t = 0 := by omega
    obtain rfl : f = 0 := by omega
    exact .inl ⟨rfl, rfl⟩
  · injection e with e1 e2 e3
    subst e1 e2 e3
    have hl : ((l.drop f).take (t - f)).length = t - f := by rw [List.length_take, List.length_drop]; omega
    refine .inr ⟨if c = f then ad else ad.add (f * 1), c - f, ?_, fun h0 => ?_, fun j u hj => ?_⟩
    · unfold sliced; rw [hl]; split <;> simp
    · obtain ⟨g, off, rfl, hlt⟩ := hg (by omega)
      rw [if_neg (by omega)]
      exact ⟨g, off + f * 1, Els.add_pl _ _ _, hlt⟩
    · have h0 := Els.cells_pos hj
      obtain ⟨g, off, rfl, hlt⟩ := hg (by omega)
      rw [if_neg (by omega), Els.add_pl, Els.add_pl]
      obtain ⟨x, h1, h2⟩ := eY.cells_inv _ j u hj
      have hk : j % 1 < 1 := Nat.mod_lt _ (by decide)
      have hjl : j < t - f := by
        rw [Nat.div_one] at h1
        rcases Nat.lt_or_ge j (t - f) with a | a
        · exact a
        · rw [List.getElem?_eq_none (by rw [hl]; exact a)] at h1; cases h1
      rw [Nat.div_one, List.getElem?_take_of_lt hjl, List.getElem?_drop] at h1
      have := hcl ((f + j) * 1 + j % 1) u (by rw [eY.cells_at l (f + j) x h1 _ hk]; exact h2)
      rw [Els.add_pl] at this
      rw [← this]
      congr 2
      omega
set_option maxRecDepth 100000 in
set_option maxHeartbeats 8000000 in
theorem put_any (start : Int) (s0 : 0 ≤ start) (s1 : start < 65536) (v : Value) (l : List Pc) (w : World) (h : PcR true w v l) (hf : fitsP l = true) (hn : l.length ≤ 10) :
    Calls Tryd.prog 8 #[.int .u16 start, v] w fun e w' => e = .returned (.string (catN (lnsA l ++ [lnE start]))) ∧ Below w.heap.size w w' := by
  obtain ⟨A, c, rfl, hc⟩ := h.open_
  obtain ⟨N, hN⟩ : ∃ N, l.length = N := ⟨_, rfl⟩
  have HN := Lib.hid hN
  rw [hN] at hc hn ⊢
  have HC := Lib.hid hc
  have HF := Lib.hid (fun k p (z : l[k]? = some p) => fitsP_at hf z)
  have HX := Lib.hid (fun k p z => lnsA_next l k p z)
  have HBd : Hid (∀ k, (catN (lnsA (l.take k))).size ≤ 6000) := Lib.hid (fun k => by
    have h1 := catN_size (lnsA (l.take k)) 74 (lns_bound _ (fitsP_take l k hf))
    have h2 := lns_count (l.take k) (fitsP_take l k hf)
    rw [List.length_take] at h2
    have : min k l.length ≤ 10 := by omega
    have h3 : (lnsA (l.take k)).length ≤ 70 := by omega
    have := Nat.mul_le_mul h3 (Nat.le_refl 75)
    omega)
  have HCP := Lib.hid (fun k p z j q => cat_part l hf (by omega) k p z j q)
  obtain ⟨n, hnn⟩ : ∃ n, w.heap.size = n := ⟨_, rfl⟩
  have HNN := Lib.hid hnn
  rw [hnn]
  have O0 : Hid (BO (n + 1) n (Lib.strCells (catN (lnsA (l.take 0)))) (w.alloc (.cells #[.pointer none, .slice none 0 0] 78))) := Lib.hid (by rw [← hnn]; exact BO.fresh w _)
  have W0 : Hid (Below n w (w.alloc (.cells #[.pointer none, .slice none 0 0] 78))) := Lib.hid (by rw [← hnn]; exact Below.alloc0 (Below.refl _ _) _)
  have L0 : Hid (n + 1 ≤ (w.alloc (.cells #[.pointer none, .slice none 0 0] 78)).heap.size) := Lib.hid (by rw [World.size_alloc, hnn]; exact Nat.le_refl _)
  have CT := Lib.hid (fun a (ha : 0 ≤ a ∧ a < 65536) A m c b u (hR : eY.Rd u (.slice A m c) b) (hm : b.length = m) (hb : Byt b) (hl : m ≤ 252) => srText_any 1 a (.inr (.inl rfl)) ha A m c b u hR hm hb hl (fun h => absurd h (by decide)))
  have CE := Lib.hid (fun u => srText_any 9 start (.inr (.inr rfl)) ⟨s0, s1⟩ none 0 0 [] u (Els.Rd.nil_ u) rfl (fun x h => by cases h) (by omega) (fun _ => rfl))
  have HSL := Lib.hid sliceY_lh
  clear h hc hN hf
  go_enter Tryd.func8, Tryd.ntmps8
  go_wp2
  generalize w.alloc (.cells #[.pointer none, .slice none 0 0] 78) = w1 at O0 W0 L0 ⊢
  go_loopw [12] (fun i wr => ∃ k : Nat, k ≤ N ∧ i = .int .i64 k ∧ Hid (BO (n + 1) n (Lib.strCells (catN (lnsA (l.take k)))) wr) ∧ Hid (Below n w wr) ∧ Hid (n + 1 ≤ wr.heap.size)) (fun i _ => N - (intOf i).toNat)
  case atStart => exact ⟨0, Nat.zero_le _, rfl, O0, W0, L0⟩
  case round =>
    obtain ⟨k, hk, rfl, HO, HW, HL⟩ := hrel
    by_cases hlt : k < N
    · obtain ⟨g, off, rfl, hg, hcell⟩ := HC.out (by omega)
      rw [HNN.out] at hg
      obtain ⟨p, hp⟩ : ∃ p, l[k]? = some p := ⟨_, List.getElem?_eq_getElem (by rw [HN.out]; exact hlt)⟩
      obtain ⟨B, m, cp, c0, c1, p0, p1, hrd, hm, hby, hcap⟩ := hcell k p hp
      have hcap := hcap (by simp)
      have hfp := (fitP_iff p).1 (HF.out k p hp)
      have hfp2 := HF.out k p hp
      have d0 : wr.cell? ⟨g, off + k * 2, none⟩ = some (.int .u16 p.1) := (HW.out.cell (p := ⟨g, off + k * 2, none⟩) hg).trans c0
      have d1 : wr.cell? ⟨g, off + k * 2 + 1, none⟩ = some (.slice B m cp) := (HW.out.cell (p := ⟨g, off + k * 2 + 1, none⟩) hg).trans c1
      have k0 : (0 : Int) ≤ k := by omega
      have k1 : (k : Int) < N := by omega
      have NX := Lib.hid (HX.out k p hp)
      have NB := Lib.hid (fun j q => HCP.out k p hp j q)
      obtain ⟨D, hD⟩ : ∃ D, lnsA (l.take k) = D := ⟨_, rfl⟩
      rw [hD] at NX HO NB
      obtain ⟨gb, hgb⟩ : ∃ gb, wr.heap.size = gb := ⟨_, rfl⟩
      obtain ⟨W, hW⟩ : ∃ W, wr.alloc (Obj.cells #[.int .u16 p.1, .slice B m cp] 27) = W := ⟨_, rfl⟩
      have PW : Hid (Blk W gb 27 #[.int .u16 p.1, .slice B m cp]) := Lib.hid (by rw [← hW, ← hgb]; exact Blk.new _ _ _ _)
      have OW : Hid (BO (n + 1) n (Lib.strCells (catN (D ++ ((List.range 0).map (ckP p)).map lnT))) W) := Lib.hid (by rw [← hW, List.range_zero, List.map_nil, List.map_nil, List.append_nil]; exact BO.below HO.out (Below.alloc0 (Below.refl _ _) _))
      have WW : Hid (Below n w W) := Lib.hid (by rw [← hW]; exact HW.out.trans ((Below.alloc0 (Below.refl _ _) _).mono (by have := HL.out; omega)))
      have LW : Hid (n + 1 ≤ W.heap.size) := Lib.hid (by rw [← hW, World.size_alloc]; have := HL.out; omega)
      have GN : Hid (gb ≠ n) := Lib.hid (by have := HL.out; omega)
      have HRD := Lib.hid hrd
      have HFP := Lib.hid hfp
      have HF2 := Lib.hid hfp2
      have HM := Lib.hid hm
      have HBY := Lib.hid hby
      have HP1 : Hid (0 ≤ p.1 ∧ p.1 < 65536) := Lib.hid ⟨p0, p1⟩
      have hm2 : m ≤ 200 := by omega
      clear hcell hp c0 c1 hrd hby hfp hfp2 hm hD
      go_wp2
      clear hgb hW d0 d1
      go_loopw [8] (fun i2 wr => ∃ j : Nat, 32 * j < m + 32 ∧ i2 = .int .i64 ((32 * j : Nat) : Int) ∧ Hid (BO (n + 1) n (Lib.strCells (catN (D ++ ((List.range j).map (ckP p)).map lnT))) wr) ∧ Hid (Blk wr gb 27 #[.int .u16 p.1, .slice B m cp]) ∧ Hid (Below n w wr) ∧ Hid (n + 1 ≤ wr.heap.size)) (fun i2 _ => 100000 - (intOf i2).toNat)
      case atStart => exact ⟨0, by omega, rfl, OW, PW, WW, LW⟩
      case round =>
        obtain ⟨j, hj, rfl, HO2, HP2, HW2, HL2⟩ := hrel
        obtain ⟨e0, e1⟩ := HP2.out.c2
        obtain ⟨x, hx⟩ : ∃ x : Nat, 32 * j = x := ⟨_, rfl⟩
        rw [hx] at hj ⊢
        have x0 : (0 : Int) ≤ x := by omega
        by_cases hjm : x < m
        · have x1 : (x : Int) < m := by omega
          obtain ⟨T, hT⟩ : ∃ T : Nat, (if m < x + 32 then m else x + 32) = T := ⟨_, rfl⟩
          have hT2 : (x : Int) ≤ (T : Int) := by rw [← hT]; split <;> omega
          have hT3 : T ≤ m := by rw [← hT]; split <;> omega
          have tm1 : min ((x : Int) + 32) (m : Int) = (T : Int) := by rw [← hT]; split <;> omega
          have tm2 : (if (m : Int) < (x : Int) + 32 then (m : Int) else (x : Int) + 32) = (T : Int) := by rw [← hT]; split <;> split <;> omega
          have sl := fun u => HSL.out u B m cp x T (by omega) (by omega)
          have hM2 : p.2.length = m := HM.out.symm
          have RT := windowY (HRD.out.below (by rw [HNN.out]; exact HW2.out)) hcap x T (by omega) hT3
          rw [take_min p.2 x T (by rw [hM2, hT]) (by omega)] at RT
          unfold sliced at sl RT
          obtain ⟨AA, hAA⟩ : ∃ AA, (if cp = x then B else B.map (·.add (x * 1))) = AA := ⟨_, rfl⟩
          rw [hAA] at sl RT
          have tu : IntKind.u16.wrap (x : Int) = (x : Int) := by rw [IntKind.wrap_u16]; omega
          have hfp := HFP.out
          have ts : IntKind.u16.wrap (p.1 + (x : Int)) = p.1 + (x : Int) := by rw [IntKind.wrap_u16]; have := HP1.out; omega
          have hckl : ((p.2.drop x).take 32).length = T - x := by rw [List.length_take, List.length_drop, hM2, Nat.min_def, ← hT]; split <;> split <;> omega
          have CTs := CT.out (p.1 + (x : Int)) (by have := HP1.out; omega) AA (T - x) (cp - x) _ wr RT hckl ((HBY.out.drop _).take _) (by omega)
          have hTT : strOfNums (lnX 1 (p.1 + (x : Int)) ((p.2.drop x).take 32)) = lnT (ckP p j) := by unfold lnT ckP; rw [hx]; rw [show ((32 : Int) * (j : Int)) = (x : Int) by omega]
          rw [hTT] at CTs
          have CTs := Lib.hid CTs
          have LNX := Lib.hid (lns_take p j)
          have hsz := lnT_size (ckP p j)
          have hsz2 : (ckP p j).2.length ≤ 32 := by unfold ckP; rw [List.length_take]; exact Nat.min_le_left _ _
          obtain ⟨TT, hTT2⟩ : ∃ TT, lnT (ckP p j) = TT := ⟨_, rfl⟩
          rw [hTT2] at CTs LNX hsz
          have y1 : ¬ 9223372036854775807 < TT.size + (⟨#[10]⟩ : ByteArray).size := by show ¬ 9223372036854775807 < TT.size + 1; omega
          have y2 : ¬ 9223372036854775807 < TT.size + 1 := by omega
          have HSZ : Hid ((TT ++ ⟨#[10]⟩ : ByteArray).size ≤ 100) := Lib.hid (by rw [ByteArray.size_append]; show TT.size + 1 ≤ 100; omega)
          have HX2 := Lib.hid hx
          clear hAA hTT hTT2 hckl RT hsz hsz2 hT
          go_wp2_with fail
          refine CTs.out.mono ?_
          rintro e w3 ⟨rfl, hb3⟩
          have P3 := Lib.hid (Blk.below HP2.out hb3 HP2.out.lt)
          have O3 := Lib.hid (BO.below HO2.out hb3)
          have W3 : Hid (Below n w w3) := Lib.hid (HW2.out.trans (hb3.mono (by have := HL2.out; omega)))
          have L3 : Hid (n + 1 ≤ w3.heap.size) := Lib.hid (by have := hb3.size; have := HL2.out; omega)
          have CB := Lib.hid (bpStr_any (n + 1) n _ (TT ++ ⟨#[10]⟩) w3 O3.out (by omega) (by rw [Lib.strCells_length]; have := NB.out j (by have := HX2.out; have := HM.out; omega); have := HSZ.out; omega) L3.out)
          clear hb3 CTs e0 e1
          go_wp2_with fail
          refine CB.out.mono ?_
          rintro e w4 ⟨rfl, hk4, ho4, hw4⟩
          have P4 := Lib.hid (hk4 gb _ _ _ GN.out (by decide) P3.out)
          have O4 : Hid (BO (n + 1) n (Lib.strCells (catN (D ++ ((List.range (j + 1)).map (ckP p)).map lnT))) w4) := Lib.hid (by rw [LNX.out, ← List.append_assoc, strCells_cat]; exact ho4)
          have W4 : Hid (Below n w w4) := Lib.hid (hw4.below W3.out (by omega) (Nat.le_refl _))
          have L4 : Hid (n + 1 ≤ w4.heap.size) := Lib.hid (by have := hw4.size; have := L3.out; omega)
          clear hk4 ho4 hw4
          go_wp2
          go_roundw
          case rel => exact ⟨j + 1, by have := HX2.out; omega, by have := HX2.out; rw [show 32 * (j + 1) = x + 32 by omega]; rfl, O4, P4, W4, L4⟩
          case measure => simp [intOf]; omega
        · have x1 : ¬ (x : Int) < m := by omega
          have hjn : j = ckN p := by unfold ckN; have := HM.out; omega
          have O5 : Hid (BO (n + 1) n (Lib.strCells (catN (lnsA (l.take (k + 1))))) wr) := Lib.hid (by rw [NX.out]; unfold ckL; rw [← hjn]; exact HO2.out)
          clear hjn HO2
          go_wp2
          go_roundw
          case rel => exact ⟨k + 1, by omega, by go_num, O5, HW2, HL2⟩
          case measure => simp [intOf]; omega
    · have k1 : ¬ (k : Int) < N := by omega
      have O6 : Hid (BO (n + 1) n (Lib.strCells (catN (lnsA l))) wr) := Lib.hid (by have := HO.out; rw [List.take_of_length_le (by rw [HN.out]; omega)] at this; exact this)
      have hb6 := HBd.out N
      rw [List.take_of_length_le (by rw [HN.out]; exact Nat.le_refl _)] at hb6
      have HB6 := Lib.hid hb6
      have CEs := CE.out wr
      rw [show strOfNums (lnX 9 start []) = lnE start from rfl] at CEs
      have hsz : (lnE start).size = 10 := by unfold lnE; rw [strOfNums_size, lnX_len]; rfl
      have CEs := Lib.hid CEs
      obtain ⟨TT, hTT⟩ : ∃ TT, lnE start = TT := ⟨_, rfl⟩
      rw [hTT] at CEs hsz
      have HTT := Lib.hid hTT
      have y1 : ¬ 9223372036854775807 < TT.size + (⟨#[10]⟩ : ByteArray).size := by show ¬ 9223372036854775807 < TT.size + 1; omega
      have y2 : ¬ 9223372036854775807 < TT.size + 1 := by omega
      have HSZ : Hid ((TT ++ ⟨#[10]⟩ : ByteArray).size = 11) := Lib.hid (by rw [ByteArray.size_append]; show TT.size + 1 = 11; omega)
      clear hTT HO hlt hk hb6
      go_wp2_with fail
      refine CEs.out.mono ?_
      rintro e w3 ⟨rfl, hb3⟩
      have O3 := Lib.hid (BO.below O6.out hb3)
      have W3 : Hid (Below n w w3) := Lib.hid (HW.out.trans (hb3.mono (by have := HL.out; omega)))
      have L3 : Hid (n + 1 ≤ w3.heap.size) := Lib.hid (by have := hb3.size; have := HL.out; omega)
      have CB := Lib.hid (bpStr_any (n + 1) n _ (TT ++ ⟨#[10]⟩) w3 O3.out (by omega) (by rw [Lib.strCells_length]; have := HB6.out; have := HSZ.out; omega) L3.out)
      clear hb3 CEs
      go_wp2_with fail
      refine CB.out.mono ?_
      rintro e w4 ⟨rfl, hk4, ho4, hw4⟩
      have O4 : Hid (BO (n + 1) n (Lib.strCells (catN (lnsA l ++ [TT]))) w4) := Lib.hid (by rw [strCells_cat]; exact ho4)
      have W4 : Hid (Below n w w4) := Lib.hid (hw4.below W3.out (by omega) (Nat.le_refl _))
      have CS := Lib.hid (boString_some (n + 1) n (catN (lnsA l ++ [TT])) w4 O4.out (by rw [catN_app, ByteArray.size_append, HSZ.out]; omega))
      have L4 : Hid (n + 1 ≤ w4.heap.size) := Lib.hid (by have := hw4.size; have := L3.out; omega)
      clear hk4 ho4 hw4
      go_wp2_with fail
      refine CS.out.mono ?_
      rintro e w5 ⟨rfl, hb5⟩
      have W5 : Hid (Below n w w5) := Lib.hid (W4.out.trans (hb5.mono (by omega)))
      clear hb5
      go_wp2
      go_ret
      exact ⟨by rw [HTT.out]; rfl, W5.out⟩
end Go.Proofs.YtnmgjgeniaheoabDoor
