/- Contracts: the bytes that a postbyte pulls, in order (package lists; the document's own); how many they are. -/
import Derived.Test.YtfjkbjkbpbnalabDoorLstR
import Derived.Test.YtfjkbjkbpbnalabDoorPagA
import Derived.Test.YtfjkbjkbpbnalabDoorOctRow
namespace Go.Proofs.YtfjkbjkbpbnalabDoor
open Go.ChangeShapes Go.WideShapes Go.ChangeAt Go.RowKit
set_option linter.unusedVariables false

theorem grown_apart {w w' : World} {v v' : Value} (h2 : w.grownBy w' v.ownBlock) (h4 : v'.ownBlock = v.ownBlock ∨ v'.ownBlock = some w.heap.size) : Apart w w' v v' := fun g hg hne =>
  ⟨h2.block g hg (fun e => hne e.symm), by
    rcases h4 with e | e
    · rw [e]; exact hne
    · rw [e]; intro e2; simp at e2; omega⟩
/-- The slice v is a row of parts of the call's own, and reads as l. -/
def Pts (e : TypeId) (w : World) (base : Nat) (v : Value) (l : List Pt) : Prop := w.ownsRow base e 2 v l.length (pC l)
theorem Pts.alloc {e : TypeId} {w : World} {base : Nat} {v : Value} {l : List Pt} (h : Pts e w base v l) (o : Obj) : Pts e (w.alloc o) base v l := World.ownsRow.alloc h o
theorem Pts.belowAll {e : TypeId} {w w' : World} {base : Nat} {v : Value} {l : List Pt} (h : Pts e w base v l) (hb : Below w.heap.size w w') : Pts e w' base v l := by
  obtain ⟨hl, h2⟩ := h
  refine ⟨hl, ?_⟩
  rcases h2 with h2 | ⟨g, cap, cur, rfl, h3, h4, h5⟩
  · exact .inl h2
  · refine .inr ⟨g, cap, cur, rfl, h3, (hb.block g ?_).trans h4, h5⟩
    exact Blk.lt (t := _) (cs := cur) (fr := (0, 0)) h4
/-- Read: a slice with its cells, or none. -/
theorem Pts.read {e : TypeId} {w : World} {base : Nat} {v : Value} {l : List Pt} (h : Pts e w base v l) :
    ∃ A cap, v = .slice A l.length cap ∧ (0 < l.length → ∃ g cur, A = some ⟨g, 0, none⟩ ∧ base ≤ g ∧ Blk w g e cur ∧ l.length ≤ cap ∧ ∀ k, k < l.length → cur[k * 2]? = some (.int .i64 ((l.getD k (0, false)).1 : Int)) ∧ cur[k * 2 + 1]? = some (.bool (l.getD k (0, false)).2)) := by
  obtain ⟨hl, h2⟩ := h
  rcases h2 with ⟨rfl, hn⟩ | ⟨g, cap, cur, rfl, h3, h4, h5, h6, h7, h8⟩
  · rw [hn]; exact ⟨none, 0, rfl, fun h => absurd h (by decide)⟩
  · refine ⟨_, cap, rfl, fun _ => ⟨g, cur, rfl, h3, h4, h5, fun k hk => ?_⟩⟩
    have key : ∀ j, j < 2 → cur[2 * k + j]? = (ptC (l.getD k (0, false)))[j]? := fun j hj => by
      have e : (cur.toList.take (l.length * 2))[2 * k + j]? = (pC l)[2 * k + j]? := by rw [h8]
      rw [List.getElem?_take_of_lt (by omega), Array.getElem?_toList, pC_at _ _ _ hk hj] at e
      exact e
    have a := key 0 (by decide)
    have b := key 1 (by decide)
    rw [show k * 2 = 2 * k + 0 by omega, show 2 * k + 0 + 1 = 2 * k + 1 by omega, a, b]
    exact ⟨rfl, rfl⟩
theorem wpList_appPt {P : Program} {ops : Array Oper} {rest : List Oper} {o : Oper} {a : Act} {Q : Exit → Act → World → Prop} (hgd : o.guard = none) (w : World) (s x : Operand) (t e : TypeId)
    (ho : o.op = .call { callee := .builtin .append, args := #[s, x], argTypes := #[t, t] })
    (hinfo : (P.info? e).map (fun i => (i.zero, i.size, i.bytes)) = some (some (.agg #[.int .i64 0, .bool false]), 2, 16)) (ht : P.underlying t = some (.slice e))
    (base : Nat) (v : Value) (l : List Pt) (hs : a.eval s = v) (hown : Pts e w base v l) (ad : Addr) (c : Nat) (r : Nat) (b : Bool) (hx : a.eval x = .slice (some ad) 1 c)
    (hnews : ∀ j u, (ptC (r, b))[j]? = some u → w.cell? (ad.add j) = some u) (hn : l.length ≤ 1000) (hbase : base ≤ w.heap.size)
    (h : ∀ v' w', Pts e w' base v' (l ++ [(r, b)]) → Below base w w' → wpList P ops Q rest (a.put o.dst v') w') : wpList P ops Q (o :: rest) a w := by
  obtain ⟨i0, hi, hz0, hz1, hz2⟩ := info_parts hinfo
  refine wpList_append_own_at w hgd s x t ho base e i0 (.agg #[.int .i64 0, .bool false]) 2 16 ht hi hz0 hz1 hz2 rfl (by decide) v l.length (pC l) hs hown ad 1 c (ptC (r, b)) hx rfl hnews (by simp [ptC, Value.oneCell']) (by unfold maxLen; omega) (by omega) hbase ?_
  intro v' w' h1 h2 h3 h4
  refine h v' w' ?_ (Below.grown (Below.refl _ _) h2 hbase (fun k hk => (hown.lt k hk).1))
  unfold Pts
  rw [List.length_append, pC_snoc]
  exact h1
theorem upP_on4 (p : Nat) (u : Bool) (k r : Nat) (hr : regN k u = r) (h : bitN p k = true) (h4 : 4 ≤ k) : upP p u (k + 1) = (upP p u k ++ [(r, true)]) ++ [(r, false)] := by
  rw [show upP p u (k + 1) = upP p u k ++ ptK p u k from rfl]
  unfold ptK
  rw [if_pos h, if_pos h4, hr, List.append_assoc]; rfl
theorem upP_on (p : Nat) (u : Bool) (k r : Nat) (hr : regN k u = r) (h : bitN p k = true) (h4 : ¬ 4 ≤ k) : upP p u (k + 1) = upP p u k ++ [(r, false)] := by
  rw [show upP p u (k + 1) = upP p u k ++ ptK p u k from rfl]
  unfold ptK
  rw [if_pos h, if_neg h4, hr]
theorem upP_off (p : Nat) (u : Bool) (k : Nat) (h : bitN p k = false) : upP p u (k + 1) = upP p u k := by
  rw [show upP p u (k + 1) = upP p u k ++ ptK p u k from rfl]
  unfold ptK
  rw [h]; simp
theorem cntN_le (p : Nat) : cntN p ≤ 16 := upP_len p false 8
theorem count_fin : ((List.range 256).all fun p => onesAll [(p : Int), ((p &&& 240 : Nat) : Int)] == (cntN p : Int)) = true := by decide +kernel
set_option maxRecDepth 100000 in
theorem count_any (p : Nat) (hp : p < 256) (w : World) :
    Calls Tryd.prog 81 #[.int .u8 (p : Int)] w fun e w' => e = .returned (.int .i64 (cntN p : Int)) ∧ Below w.heap.size w w' := by
  have hq := allB2 256 _ count_fin p hp
  rw [beq_iff_eq] at hq
  have ha := u8_and_nat p 240 hp (by decide)
  have hlt : p &&& 240 < 256 := Nat.lt_of_le_of_lt Nat.and_le_left hp
  obtain ⟨q, hqq⟩ : ∃ q : Nat, p &&& 240 = q := ⟨_, rfl⟩
  rw [hqq] at hq ha hlt
  have ha' : bits .and .u8 (p : Int) 240 = (q : Int) := ha
  have HQ := Lib.hid hq
  clear hq ha hqq
  have h0 : (0 : Int) ≤ (p : Int) := by omega
  have HI : Hid (Ints .u8 (w.alloc (.cells #[.int .u8 (p : Int), .int .u8 (q : Int)] 5)) (w.heap.size + 1) (some ⟨w.heap.size, 0, none⟩) 2 [(p : Int), (q : Int)]) := Lib.hid (by
    refine ⟨rfl, ?_, fun _ => ⟨w.heap.size, 0, rfl, by omega, fun i hi => ?_⟩⟩
    · intro z hz
      simp only [List.mem_cons, List.not_mem_nil, or_false] at hz
      rcases hz with rfl | rfl <;> simp [Lit.wf, IntKind.min, IntKind.max, IntKind.signed, IntKind.bits] <;> omega
    · rw [Nat.zero_add, (Blk.new w 5 _ (0, 0)).cell]
      rcases (show i = 0 ∨ i = 1 by omega) with rfl | rfl <;> rfl)
  go_enter Tryd.func81, Tryd.ntmps81
  go_wp2_with fail
  refine (ones_any _ _ _ [(p : Int), (q : Int)] _ _ HI.out (by omega)).mono ?_
  rintro e w' ⟨rfl, rfl⟩
  rw [HQ.out]
  go_wp2
  go_ret
  exact ⟨rfl, Below.alloc0 (Below.refl _ _) _⟩
theorem infoPart : (Tryd.prog.info? 35).map (fun i => (i.zero, i.size, i.bytes)) = some (some (.agg #[.int .i64 0, .bool false]), 2, 16) := by kernel_rfl
theorem make_parts (w : World) (base c : Nat) (hc : c ≤ 1000) (hb : base ≤ w.heap.size) :
    ∃ w' v', (Instr.makeSlice 30 (.int .i64 0) (.int .i64 (c : Int))).run Tryd.prog w = .ok v' w' ∧ Pts 35 w' base v' [] ∧ Below base w w' := by
  obtain ⟨i0, hi, hz0, hz1, hz2⟩ := info_parts infoPart
  have hr := run_make (P := Tryd.prog) (w := w) 30 35 i0 (.agg #[.int .i64 0, .bool false]) Tryd.underlying30 hi hz0 .i64 .i64 0 c (Int.le_refl _) (by omega) (by rw [hz2]; omega) (by omega)
  simp only [Int.toNat_zero, Int.toNat_natCast] at hr
  exact ⟨_, _, hr, World.ownsRow_made w _ c hb (by unfold maxLen; omega) (by rw [size_madeCells, hz1]), (Below.refl _ _).alloc hb _⟩
set_option maxRecDepth 100000 in
set_option maxHeartbeats 4000000 in
theorem order_any (p : Nat) (hp : p < 256) (s : Int) (w : World) (hT : LregAt w) :
    Calls Tryd.prog 59 #[.int .u8 (p : Int), .int .i64 s] w fun e w' => ∃ v, e = .returned v ∧ Pts 35 w' w.heap.size v (ordL p (s == 3)) ∧ Below w.heap.size w w' := by
  have HT := Lib.hid hT
  have HP := Lib.hid hp
  have p0 : (0 : Int) ≤ (p : Int) := by omega
  have p1 : (p : Int) < 256 := by omega
  obtain ⟨u, hu⟩ : ∃ u, (s == 3) = u := ⟨_, rfl⟩
  rw [hu]
  have HU := Lib.hid hu
  clear hT hu
  go_enter Tryd.func59, Tryd.ntmps59
  go_wp2_with fail
  refine (count_any p hp _).mono ?_
  rintro e w1 ⟨rfl, hb1⟩
  obtain ⟨w2, v2, hmk, hp2, hb2⟩ := make_parts w1 w.heap.size (cntN p) (by have := cntN_le p; omega) hb1.size
  have HP2 := Lib.hid hp2
  have HB2 := Lib.hid (Below.trans hb1 hb2)
  clear hp hp2 hb1 hb2
  go_wp2
  clear hmk
  go_loopw [5, 12] (fun u5 u12 wr => ∃ k : Nat, k ≤ 8 ∧ u12 = .int .i64 k ∧ Hid (Pts 35 wr w.heap.size u5 (upP p u k)) ∧ Hid (Below w.heap.size w wr)) (fun _ u12 _ => 8 - (intOf u12).toNat)
  case atStart => exact ⟨0, Nat.zero_le _, rfl, HP2, HB2⟩
  case round =>
    clear HP2 HB2
    obtain ⟨k, hk, rfl, HL, HBel⟩ := hrel
    by_cases hlt : k < 8
    · have hbit := u8_bit p k HP.out hlt
      have hw := u8_wide ⟨k, hlt⟩
      simp only at hw
      have hpos : (0 : Int) < ((2 ^ k : Nat) : Int) := by have : 0 < 2 ^ k := Nat.pow_pos (by decide); omega
      have hlt256 := pow_lt8 k hlt
      have CB := Lib.hid (fun w => bit_any k hlt w)
      have CR := Lib.hid (fun w hT => register_any k hlt s w hT)
      have HTr := Lib.hid (HT.out.below HBel.out)
      rw [HU.out] at CR
      obtain ⟨b, hb⟩ : ∃ b : Int, ((2 ^ k : Nat) : Int) = b := ⟨_, rfl⟩
      rw [hb] at hbit hw hpos
      have hb256 : b < 256 := by omega
      rw [hb] at CB
      obtain ⟨R, hR⟩ : ∃ R, regN k u = R := ⟨_, rfl⟩
      rw [hR] at CR
      have HL16 := Lib.hid (upP_len p u k)
      have HBs := Lib.hid HBel.out.size
      have HK := Lib.hid hk
      have e0 : (b == 0) = false := by have : ¬ b = 0 := by omega
                                       simpa using this
      have d0 : decide (0 < b) = true := decide_eq_true hpos
      have k0 : (0 : Int) ≤ (k : Int) := by omega
      have k1 : (k : Int) < 8 := by omega
      rcases (show (bitN p k = true ∧ 4 ≤ k) ∨ (bitN p k = true ∧ ¬ 4 ≤ k) ∨ bitN p k = false by cases bitN p k <;> simp; omega) with ⟨g1, g2⟩ | ⟨g1, g2⟩ | g1
      · have HN := Lib.hid (upP_on4 p u k R hR g1 g2)
        rw [if_pos g1] at hbit
        rw [if_pos g2] at hw
        clear g1 g2 hR hb hlt256 hk hlt
        go_wp2_with (first
          | (go_at_call 82; refine (CB.out _).mono ?_; rintro e w' ⟨rfl, rfl⟩)
          | (go_at_call 83; refine (CR.out _ HTr.out).mono ?_; rintro e w' ⟨rfl, rfl⟩)
          | (at_builtin; refine wpList_appPt rfl _ _ _ 30 35 rfl infoPart Tryd.underlying30 w.heap.size u5 (upP p u k) rfl (Pts.alloc HL.out _) ⟨wr.heap.size, 0, none⟩ 1 R true rfl (cells_of_blk (Blk.new wr _ #[.int .i64 (R : Int), .bool true] _)) (by have := HL16.out; have := HK.out; simp; omega) (by have := HBs.out; simp; omega) ?_))
        intro v1 w1 h1 hb1
        have H1 := Lib.hid h1
        have HB1 := Lib.hid ((Below.alloc0 HBel.out _).trans hb1)
        clear h1 hb1
        go_wp2_with (at_builtin; refine wpList_appPt rfl _ _ _ 30 35 rfl infoPart Tryd.underlying30 w.heap.size v1 (upP p u k ++ [(R, true)]) rfl (Pts.alloc H1.out _) ⟨w1.heap.size, 0, none⟩ 1 R false rfl (cells_of_blk (Blk.new w1 _ #[.int .i64 (R : Int), .bool false] _)) (by have := HL16.out; have := HK.out; simp; omega) (by have := HB1.out.size; simp; omega) ?_)
        intro v2 w2 h1 hb1
        have H2 := Lib.hid h1
        have HB2 := Lib.hid ((Below.alloc0 HB1.out _).trans hb1)
        clear h1 hb1 hbit hw e0 d0
        go_wp2
        go_roundw
        case rel => exact ⟨k + 1, by have := HK.out; omega, by go_num, Lib.hid (by rw [HN.out, List.append_assoc]; exact H2.out), HB2⟩
        case measure => simp [intOf]; omega
      · have HN := Lib.hid (upP_on p u k R hR g1 g2)
        rw [if_pos g1] at hbit
        rw [if_neg g2] at hw
        clear g1 g2 hR hb hlt256 hk hlt
        go_wp2_with (first
          | (go_at_call 82; refine (CB.out _).mono ?_; rintro e w' ⟨rfl, rfl⟩)
          | (go_at_call 83; refine (CR.out _ HTr.out).mono ?_; rintro e w' ⟨rfl, rfl⟩)
          | (at_builtin; refine wpList_appPt rfl _ _ _ 30 35 rfl infoPart Tryd.underlying30 w.heap.size u5 (upP p u k) rfl (Pts.alloc HL.out _) ⟨wr.heap.size, 0, none⟩ 1 R false rfl (cells_of_blk (Blk.new wr _ #[.int .i64 (R : Int), .bool false] _)) (by have := HL16.out; have := HK.out; simp; omega) (by have := HBs.out; simp; omega) ?_))
        intro v1 w1 h1 hb1
        have H1 := Lib.hid h1
        have HB1 := Lib.hid ((Below.alloc0 HBel.out _).trans hb1)
        clear h1 hb1 hbit hw e0 d0
        go_wp2
        go_roundw
        case rel => exact ⟨k + 1, by have := HK.out; omega, by go_num, Lib.hid (by rw [HN.out]; exact H1.out), HB1⟩
        case measure => simp [intOf]; omega
      · have HN := Lib.hid (upP_off p u k g1)
        rw [g1] at hbit
        simp only [Bool.false_eq_true, if_false] at hbit
        clear g1 hR hb hlt256 hk hlt hw d0
        have eq0 : ((0 : Int) == 0) = true := rfl
        go_wp2_with (go_at_call 82; refine (CB.out _).mono ?_; rintro e w' ⟨rfl, rfl⟩)
        go_roundw
        case rel => exact ⟨k + 1, by have := HK.out; omega, by go_num, Lib.hid (by rw [HN.out]; exact HL.out), HBel⟩
        case measure => simp [intOf]; omega
    · obtain rfl : k = 8 := by omega
      go_wp2
      go_ret
      exact ⟨_, rfl, HL.out, HBel.out⟩
theorem infoPart17 : (Tryd.prog.info? 34).map (fun i => (i.zero, i.size, i.bytes)) = some (some (.agg #[.int .i64 0, .bool false]), 2, 16) := by kernel_rfl
theorem quo_fin : ((List.range 2048).all fun j => Nat.beq (j / 8 / 2 ^ (j % 8) % 2) (if bitN (j / 8) (j % 8) then 1 else 0)) = true := by decide +kernel
theorem quo_bit (p k : Nat) (hp : p < 256) (hk : k < 8) : (p : Int) / ((2 ^ k : Nat) : Int) % 2 = if bitN p k then 1 else 0 := by
  have h := allB2 2048 _ quo_fin (8 * p + k) (by omega)
  rw [Nat.beq_eq, show (8 * p + k) / 8 = p by omega, show (8 * p + k) % 8 = k by omega] at h
  have e : (p : Int) / ((2 ^ k : Nat) : Int) % 2 = ((p / 2 ^ k % 2 : Nat) : Int) := by simp
  rw [e, h]; split <;> rfl
theorem dbl_fin : ∀ k : Fin 8, (((2 ^ k.val : Nat) : Int) * 2) % 256 = if k.val = 7 then 0 else ((2 ^ (k.val + 1) : Nat) : Int) := by decide +kernel
/-- The bit that goes with a place; 0 behind the last. -/
def bitAt (k : Nat) : Int := if k < 8 then ((2 ^ k : Nat) : Int) else 0
theorem bitAt_next (k : Nat) (hk : k < 8) : bitAt k * 2 % 256 = bitAt (k + 1) := by
  have h := dbl_fin ⟨k, hk⟩
  simp only at h
  unfold bitAt
  rw [if_pos hk, h]
  by_cases e : k = 7
  · rw [if_pos e, if_neg (by omega)]
  · rw [if_neg e, if_pos (by omega)]
set_option maxRecDepth 100000 in
set_option maxHeartbeats 4000000 in
theorem refOrder_any (p : Nat) (hp : p < 256) (u : Bool) (w : World) :
    Calls Tryd.prog 8 #[.int .u8 (p : Int), .bool u] w fun e w' => ∃ v, e = .returned v ∧ Pts 34 w' w.heap.size v (ordL p u) ∧ Below w.heap.size w w' := by
  have HP := Lib.hid hp
  have p0 : (0 : Int) ≤ (p : Int) := by omega
  have p1 : (p : Int) < 256 := by omega
  clear hp
  go_enter Tryd.func8, Tryd.ntmps8
  go_wp2
  go_loopw [5, 6, 7] (fun u5 u6 u7 wr => ∃ k : Nat, k ≤ 8 ∧ u7 = .int .i64 k ∧ u6 = .int .u8 (bitAt k) ∧ Hid (Pts 34 wr w.heap.size u5 (upP p u k)) ∧ Hid (Below w.heap.size w wr)) (fun _ _ u7 _ => 8 - (intOf u7).toNat)
  case atStart => exact ⟨0, Nat.zero_le _, rfl, rfl, Lib.hid (World.ownsRow_nil _ _ _ 2), Lib.hid (Below.refl _ _)⟩
  case round =>
    obtain ⟨k, hk, rfl, rfl, HL, HBel⟩ := hrel
    by_cases hlt : k < 8
    · have hbit := quo_bit p k HP.out hlt
      have hnx := bitAt_next k hlt
      have hpos : (0 : Int) < ((2 ^ k : Nat) : Int) := by have : 0 < 2 ^ k := Nat.pow_pos (by decide); omega
      have hlt256 := pow_lt8 k hlt
      have hba : bitAt k = ((2 ^ k : Nat) : Int) := by unfold bitAt; rw [if_pos hlt]
      rw [← hba] at hbit hpos
      have CR := Lib.hid (fun w => code17_any k hlt u w)
      have hb256 : bitAt k < 256 := by rw [hba]; omega
      obtain ⟨b, hb⟩ : ∃ b : Int, bitAt k = b := ⟨_, rfl⟩
      rw [hb] at hbit hpos hnx hb256
      rw [hb]
      have hb0 : 0 ≤ b := by omega
      obtain ⟨b2, hb2⟩ : ∃ b2 : Int, bitAt (k + 1) = b2 := ⟨_, rfl⟩
      rw [hb2] at hnx
      have hqb : (p : Int).tdiv b % 2 = (p : Int) / b % 2 := by rw [Int.tdiv_eq_ediv_of_nonneg p0]
      have HB2n := Lib.hid hb2
      have HBb := Lib.hid hba
      obtain ⟨R, hR⟩ : ∃ R, regN k u = R := ⟨_, rfl⟩
      rw [hR] at CR
      have HL16 := Lib.hid (upP_len p u k)
      have HBs := Lib.hid HBel.out.size
      have HK := Lib.hid hk
      have k0 : (0 : Int) ≤ (k : Int) := by omega
      have k1 : (k : Int) < 8 := by omega
      have hX : ∃ X : Int, (p : Int) / b = X := ⟨_, rfl⟩
      obtain ⟨X, hX⟩ := hX
      have hX0 : 0 ≤ X := by rw [← hX]; exact Int.ediv_nonneg p0 hb0
      have hX1 : X < 256 := by have := Int.ediv_le_self b p0; omega
      have hXt : (p : Int).tdiv b = X := by rw [Int.tdiv_eq_ediv_of_nonneg p0, hX]
      rw [hX] at hbit
      have eb : (b == 0) = false := by have : ¬ b = 0 := by omega
                                       simpa using this
      clear hX hqb hb hb2 hba
      rcases (show (bitN p k = true ∧ 4 ≤ k) ∨ (bitN p k = true ∧ ¬ 4 ≤ k) ∨ bitN p k = false by cases bitN p k <;> simp; omega) with ⟨g1, g2⟩ | ⟨g1, g2⟩ | g1
      · have HN := Lib.hid (upP_on4 p u k R hR g1 g2)
        rw [if_pos g1] at hbit
        have d4 : decide (4 ≤ k) = true := decide_eq_true g2
        have d4i : decide ((4 : Int) ≤ (k : Int)) = true := decide_eq_true (by omega)
        clear g1 g2 hR hlt256 hk hlt
        go_wp2_with fail
        refine (CR.out _).mono ?_
        rintro e w1 ⟨rfl, hb1⟩
        have H1 := Lib.hid (Pts.belowAll HL.out hb1)
        have HB1 := Lib.hid (Below.trans0 HBel.out hb1)
        clear hb1
        go_wp2_with (at_builtin; refine wpList_appPt rfl _ _ _ 28 34 rfl infoPart17 Tryd.underlying28 w.heap.size u5 (upP p u k) rfl (Pts.alloc H1.out _) ⟨w1.heap.size, 0, none⟩ 1 R true rfl (cells_of_blk (Blk.new w1 _ #[.int .i64 (R : Int), .bool true] _)) (by have := HL16.out; have := HK.out; simp; omega) (by have := HB1.out.size; simp; omega) ?_)
        intro v2 w2 h1 hb1
        have H2 := Lib.hid h1
        have HB2 := Lib.hid ((Below.alloc0 HB1.out _).trans hb1)
        clear h1 hb1
        go_wp2_with fail
        refine (CR.out _).mono ?_
        rintro e w3 ⟨rfl, hb1⟩
        have H3 := Lib.hid (Pts.belowAll H2.out hb1)
        have HB3 := Lib.hid (Below.trans0 HB2.out hb1)
        clear hb1
        go_wp2_with (at_builtin; refine wpList_appPt rfl _ _ _ 28 34 rfl infoPart17 Tryd.underlying28 w.heap.size v2 (upP p u k ++ [(R, true)]) rfl (Pts.alloc H3.out _) ⟨w3.heap.size, 0, none⟩ 1 R false rfl (cells_of_blk (Blk.new w3 _ #[.int .i64 (R : Int), .bool false] _)) (by have := HL16.out; have := HK.out; simp; omega) (by have := HB3.out.size; simp; omega) ?_)
        intro v4 w4 h1 hb1
        have H4 := Lib.hid h1
        have HB4 := Lib.hid ((Below.alloc0 HB3.out _).trans hb1)
        clear h1 hb1
        go_wp2
        go_roundw
        case rel => exact ⟨k + 1, by have := HK.out; omega, by go_num, by rw [HB2n.out, hnx], Lib.hid (by rw [HN.out, List.append_assoc]; exact H4.out), HB4⟩
        case measure => simp [intOf]; omega
      · have HN := Lib.hid (upP_on p u k R hR g1 g2)
        rw [if_pos g1] at hbit
        have d4 : decide (4 ≤ k) = false := decide_eq_false g2
        have d4i : decide ((4 : Int) ≤ (k : Int)) = false := decide_eq_false (by omega)
        clear g1 g2 hR hlt256 hk hlt
        go_wp2_with fail
        refine (CR.out _).mono ?_
        rintro e w1 ⟨rfl, hb1⟩
        have H1 := Lib.hid (Pts.belowAll HL.out hb1)
        have HB1 := Lib.hid (Below.trans0 HBel.out hb1)
        clear hb1
        go_wp2_with (at_builtin; refine wpList_appPt rfl _ _ _ 28 34 rfl infoPart17 Tryd.underlying28 w.heap.size u5 (upP p u k) rfl (Pts.alloc H1.out _) ⟨w1.heap.size, 0, none⟩ 1 R false rfl (cells_of_blk (Blk.new w1 _ #[.int .i64 (R : Int), .bool false] _)) (by have := HL16.out; have := HK.out; simp; omega) (by have := HB1.out.size; simp; omega) ?_)
        intro v2 w2 h1 hb1
        have H2 := Lib.hid h1
        have HB2 := Lib.hid ((Below.alloc0 HB1.out _).trans hb1)
        clear h1 hb1
        go_wp2
        go_roundw
        case rel => exact ⟨k + 1, by have := HK.out; omega, by go_num, by rw [HB2n.out, hnx], Lib.hid (by rw [HN.out]; exact H2.out), HB2⟩
        case measure => simp [intOf]; omega
      · have HN := Lib.hid (upP_off p u k g1)
        rw [g1] at hbit
        simp only [Bool.false_eq_true, if_false] at hbit
        clear g1 hR hlt256 hk hlt
        go_wp2
        go_roundw
        case rel => exact ⟨k + 1, by have := HK.out; omega, by go_num, by rw [HB2n.out, hnx], Lib.hid (by rw [HN.out]; exact HL.out), HBel⟩
        case measure => simp [intOf]; omega
    · obtain rfl : k = 8 := by omega
      go_wp2
      go_ret
      exact ⟨_, rfl, HL.out, HBel.out⟩
end Go.Proofs.YtfjkbjkbpbnalabDoor
