/- The law DisLines over numbers. -/
import Derived.Test.YtljhfalgplihhaaGreatDoorGDlE
import Derived.Test.YtljhfalgplihhaaGreatDoorDsY
import Derived.Test.YtljhfalgplihhaaGreatDoorDigUn
namespace Go.Proofs.YtljhfalgplihhaaGreatDoor
open Go.ChangeShapes Go.WideShapes Go.ChangeAt Go.RowKit
set_option linter.unusedVariables false

/-- What of the world the loop needs: memory, the image, the lines. -/
structure SitL (w W : World) (mm : Nat) (p : Nat → Option Nat) (f : Nat → Int) (gi : Nat) (A : Option Addr) (N cl : Nat) (a : Nat) : Prop where
  bel : Below w.heap.size w W
  ra : Ra W mm p 65536 f
  img : ∀ x, x < 65536 → W.cell? ⟨gi, x, none⟩ = some (.int .u8 (f x))
  ilt : gi < W.heap.size
  row : 0 < N → ∃ g, A = some ⟨g, 0, none⟩ ∧ g < W.heap.size ∧ N ≤ cl ∧ ∀ (j : Nat) x, (linesL f a N)[j]? = some x → W.cell? ⟨g, 0 + j, none⟩ = some (.string x)
  tab : DisAt W
theorem SitL.below {w W W' : World} {mm : Nat} {p : Nat → Option Nat} {f : Nat → Int} {gi : Nat} {A : Option Addr} {N cl a : Nat} (h : SitL w W mm p f gi A N cl a) (hb : Below W.heap.size W W') : SitL w W' mm p f gi A N cl a := by
  refine ⟨Below.trans0 h.bel hb, h.ra.below hb, fun x hx => (hb.cell (p := ⟨gi, x, none⟩) h.ilt).trans (h.img x hx), Nat.lt_of_lt_of_le h.ilt hb.size, fun hN => ?_, h.tab.below hb⟩
  obtain ⟨g, h1, h2, h3, h4⟩ := h.row hN
  exact ⟨g, h1, Nat.lt_of_lt_of_le h2 hb.size, h3, fun j x hj => (hb.cell (p := ⟨g, 0 + j, none⟩) h2).trans (h4 j x hj)⟩
theorem imF_byt {xs ys : List Int} (hx : Byt xs) (hy : Byt ys) (x : Nat) : 0 ≤ imF xs ys x ∧ imF xs ys x < 256 := by
  unfold imF ldF
  split
  · rename_i h
    rw [iat_eq _ _ (by omega)]
    exact hy _ (List.getElem_mem _)
  · split
    · rename_i h
      rw [iat_eq _ _ (by omega)]
      exact hx _ (List.getElem_mem _)
    · exact ⟨Int.le_refl 0, (by decide : (0 : Int) < 256)⟩
theorem own_cap {k : IntKind} {e : TypeId} {w : World} {base : Nat} {A : Option Addr} {n c : Nat} {zs : List Int} (h : Own k e w base (.slice A n c) zs) : zs.length ≤ c := by
  obtain ⟨hl, h2⟩ := h
  rcases h2 with ⟨h3, hn⟩ | ⟨g, cap, cur, h3, h4, h5, h6, h7, h8⟩
  · omega
  · obtain ⟨rfl, rfl, rfl⟩ := Value.slice.inj h3
    exact h6
set_option maxRecDepth 100000 in
set_option maxHeartbeats 8000000 in
theorem law_disLines (A : Option Addr) (n c : Nat) (xs : List Int) (B : Option Addr) (m d : Nat) (ys : List Int) (a : Nat) (many : Int) (w : World) (hx : eY.Rd w (.slice A n c) xs) (hy : eY.Rd w (.slice B m d) ys) (hn : xs.length = n) (hm : ys.length = m) (bx : Byt xs) (by' : Byt ys)
    (ha : a < 65536) (hlo : -9223372036854775808 ≤ many) (hhi : many ≤ 9223372036854775807) (hD : DisAt w) :
    Calls Tryz.prog 3 #[.agg #[.slice A n c, .slice B m d], .int .u16 (a : Int), .int .i64 many] w fun e w' => e = .returned (.bool true) ∧ Below w.heap.size w w' := by
  have HB0 := Lib.hid (Below.alloc0 (Below.refl w.heap.size w) (Obj.cells #[.slice A n c, .slice B m d] 24))
  have CI := Lib.hid (fun u (hb : Below w.heap.size w u) => image_any A n c xs B m d ys u (Els.Rd.below hx hb) (Els.Rd.below hy hb) hn hm)
  have HDx := Lib.hid (fun u (hb : Below w.heap.size w u) => hD.below hb)
  clear hx hy hn hm hD
  go_enter Tryz.func3, Tryz.ntmps3
  go_wp2_with fail
  refine (CI.out _ HB0.out).mono ?_
  rintro e w1 (⟨hbig, rfl, hb1⟩ | ⟨hx1, hy1, gi, hgi, rfl, hblk, hb1⟩)
  · have HB1 := Lib.hid (Below.trans0 HB0.out hb1)
    clear hb1 hbig
    go_wp2
    go_ret
    exact ⟨rfl, HB1.out⟩
  have HB1 := Lib.hid (Below.trans0 HB0.out hb1)
  by_cases hmx : 30 < many
  · have d1 := decide_eq_true hmx
    clear hb1 hblk hmx
    go_wp2
    go_ret
    exact ⟨rfl, HB1.out⟩
  have d1 := decide_eq_false hmx
  have hq0 : ∀ x, 0 ≤ imF xs ys x ∧ imF xs ys x < 256 := imF_byt bx by'
  have hRd := rdY_row hblk 65536
  have hL65 := lstF_len (imF xs ys) 65536
  have hF : ∀ x, x < 65536 → ldF (fun _ => 0) 0 (lstF (imF xs ys) 65536) (lstF (imF xs ys) 65536).length x = imF xs ys x := fun x hx => by
    unfold ldF
    rw [if_pos ⟨Nat.zero_le _, by rw [hL65]; omega⟩, Nat.sub_zero, iat_lstF _ _ _ hx]
  have CN := Lib.hid (raNew_any (.slice (some ⟨gi, 0, none⟩) 65536 65536) (lstF (imF xs ys) 65536) 65536 w1 hRd (fun x hx => by
    unfold lstF at hx
    obtain ⟨i, _, rfl⟩ := List.mem_map.1 hx
    exact hq0 i) (by omega) (by rw [hL65]; omega))
  have HIm : Hid (∀ x, x < 65536 → w1.cell? ⟨gi, x, none⟩ = some (.int .u8 (ldF (fun _ => 0) 0 (lstF (imF xs ys) 65536) (lstF (imF xs ys) 65536).length x))) := Lib.hid (fun x hx => by rw [hF x hx, hblk.cell, rowF_at _ _ _ hx])
  have HGi := Lib.hid hblk.lt
  generalize ldF (fun _ => 0) 0 (lstF (imF xs ys) 65536) (lstF (imF xs ys) 65536).length = F at CN HIm
  clear hRd hL65 hF hq0 hblk hb1
  go_wp2_with fail
  refine CN.out.mono ?_
  rintro e w2 ⟨mm, p, rfl, hra, hb2, hrs⟩
  have HB2 := Lib.hid (Below.trans0 HB1.out hb2)
  have HIm2 : Hid (∀ x, x < 65536 → w2.cell? ⟨gi, x, none⟩ = some (.int .u8 (F x))) := Lib.hid (fun x hx => (hb2.cell (p := ⟨gi, x, none⟩) HGi.out).trans (HIm.out x hx))
  have HGi2 := Lib.hid (Nat.lt_of_lt_of_le HGi.out hb2.size)
  have HR2 := Lib.hid hra
  obtain ⟨N, hN⟩ : ∃ N, many.toNat = N := ⟨_, rfl⟩
  have HNN : Hid ((many < 0 ∧ N = 0) ∨ many = (N : Int)) := Lib.hid (by omega)
  have hN30 : N ≤ 30 := by omega
  have CL := Lib.hid (lines_any mm p 65536 F a many N w2 hra ha (HDx.out w2 HB2.out) HNN.out hN30 hlo)
  clear hra hb2 hrs hN CN HIm HGi CI
  go_wp2_with fail
  refine CL.out.mono ?_
  rintro e w3 ⟨v, rfl, hS, hb3⟩
  obtain ⟨A3, cl, rfl, hrow⟩ := hS.read
  rw [linesL_len] at hrow
  rw [linesL_len]
  have HS := Lib.hid (show SitL w w3 mm p F gi A3 N cl a from ⟨Below.trans0 HB2.out hb3, HR2.out.below hb3, fun x hx => (hb3.cell (p := ⟨gi, x, none⟩) HGi2.out).trans (HIm2.out x hx), Nat.lt_of_lt_of_le HGi2.out hb3.size, hrow, (HDx.out w2 HB2.out).below hb3⟩)
  clear hS hrow hb3 HIm2 HGi2 HR2 HB2 HB1 HB0 CL HDx
  have hmx0 : ((N : Int) != max many 0) = false := by rw [bne_eq_false_iff_eq]; have := HNN.out; omega
  go_wp2
  clear hmx0 d1
  go_loopw [1, 12] (fun at' i wr => ∃ k : Nat, k ≤ N ∧ at' = .int .u16 (adrK F a k : Int) ∧ i = .int .i64 k ∧ Hid (SitL w wr mm p F gi A3 N cl a)) (fun _ i _ => N - (intOf i).toNat)
  case atStart => exact ⟨0, by omega, rfl, rfl, HS⟩
  case round =>
    obtain ⟨k, hk, rfl, rfl, HK⟩ := hrel
    by_cases hlt : k < N
    · have hkI : (k : Int) < (N : Int) := by omega
      obtain ⟨wo, hwo⟩ : ∃ wo, wo = wr := ⟨_, rfl⟩
      subst hwo
      obtain ⟨g3, hA3, hg3, hcl, hrd⟩ := HK.out.row (by omega)
      subst hA3
      have hck : wo.cell? ⟨g3, k, none⟩ = some (.string (insL F (adrK F a k))) := by
        have := hrd k _ (linesL_at F a N k hlt)
        rw [Nat.zero_add] at this
        exact this
      have HCK := Lib.hid (And.intro hck hg3)
      have HNx : Hid (adrK F a (k + 1) = insN F (adrK F a k)) := Lib.hid rfl
      have hAk := adrK_lt F a ha k
      have HRa := Lib.hid (fun u (hu : Below wo.heap.size wo u) => (HK.out.below hu).ra)
      clear hrd hck hg3
      obtain ⟨Ak, hAe⟩ : ∃ Ak, adrK F a k = Ak := ⟨_, rfl⟩
      rw [hAe] at HCK HNx hAk ⊢
      clear hAe
      obtain ⟨pg, co, o, md, r, va, b, ln, X, hins⟩ := ins_at F HK.out.ra.byt Ak
      have HIn := Lib.hid hins
      clear hins
      go_wp2_with fail
      go_loopw [13, 14] (fun bv j wq => ∃ q : Nat, q ≤ 5 ∧ j = .int .i64 q ∧ Hid (Own .u8 5 wq wo.heap.size bv (lstF (partF F Ak) q)) ∧ Hid (Below wo.heap.size wo wq)) (fun _ j _ => 5 - (intOf j).toNat)
      case atStart => exact ⟨0, by omega, rfl, Lib.hid (Own.nil_ _ _ _ _), Lib.hid (Below.refl _ _)⟩
      case round =>
        obtain ⟨q, hq, rfl, HO, HQ⟩ := hrel
        by_cases hq5 : q < 5
        · have hqI : (q : Int) < 5 := by omega
          obtain ⟨x, hxe⟩ : ∃ x, (Ak + q) % 65536 = x := ⟨_, rfl⟩
          have hx : x < 65536 := by omega
          have hcx := (HK.out.below HQ.out).img x hx
          have wq1 : IntKind.i64.wrap ((Ak : Int) + (q : Int)) = (Ak : Int) + (q : Int) := IntWalk.i64_in _ (by omega)
          have wq2 : ((Ak : Int) + (q : Int)).tmod 65536 = (x : Int) := by rw [Int.tmod_eq_emod_of_nonneg (by omega)]; omega
          have hql : (lstF (partF F Ak) q).length = q := lstF_len _ _
          have HFx : Hid (F x = partF F Ak q) := Lib.hid (by rw [← hxe]; rfl)
          clear hxe
          go_wp2_with (at_builtin; refine wpList_app8 rfl _ (.tmp 62) (.tmp 71) rfl wo.heap.size _ (lstF (partF F Ak) q) rfl (HO.out.alloc _) ⟨wr.heap.size, 0, none⟩ 1 1 [F x] rfl rfl (cells_lit _ _ _ _ _ rfl _ rfl) (by rw [hql]; simp; omega) (by have := HQ.out.size; simp; omega) ?_)
          intro v2 w2 ho2 hb2 hg2
          rw [HFx.out, ← lstF_succ] at ho2
          have HO2 := Lib.hid ho2
          have HQ2 := Lib.hid ((Below.alloc0 HQ.out _).trans hb2)
          clear ho2 hb2 hg2 HO HQ hcx wq1 wq2
          go_wp2_with fail
          go_roundw
          case rel => exact ⟨q + 1, by omega, by go_num, HO2, HQ2⟩
          case measure => simp [intOf]; omega
        · have hqI : ¬ (q : Int) < 5 := by omega
          have hq5' : q = 5 := by omega
          subst hq5'
          obtain ⟨A2, c2, rfl, hI2⟩ := HO.out.ints (lstF_wf (partF F Ak) 5 (fun x => HK.out.ra.byt _))
          have hln2 : (lstF (partF F Ak) 5).length = 5 := lstF_len _ _
          rw [hln2] at hI2 ⊢
          obtain ⟨g2, off2, hA2, hg2, hc2⟩ := hI2.2.2 (by omega)
          subst hA2
          have h5c : 5 ≤ c2 := by have := own_cap HO.out; rw [hln2] at this; exact this
          have CO := of18_any (some ⟨g2, off2, none⟩) 5 c2 (lstF (partF F Ak) 5) wr hI2 (by intro h; cases h) (by omega)
          change Calls _ _ _ _ (fun e w' => e = .returned (.tuple #[.agg (inAgg (insB F Ak)), .bool (inOk (insB F Ak))]) ∧ _) at CO
          rw [HIn.out.agg, HIn.out.ok] at CO
          have CO := Lib.hid CO
          have HI2 := Lib.hid hI2
          clear hI2 hc2 HO
          go_wp2_with fail
          refine CO.out.mono ?_
          rintro e w4 ⟨rfl, hb4⟩
          have HB4 := Lib.hid (Below.trans0 HQ.out hb4)
          have HI4 := Lib.hid (HI2.out.below hb4.size hb4)
          have HG := Lib.hid (Blk.new w4 37 (iC pg co o md r (b : Int) va (ln : Int)) (0, 0))
          have HB5 := Lib.hid (Below.alloc0 HB4.out (Obj.cells (iC pg co o md r (b : Int) va (ln : Int)) 37))
          go_upto_region 19 with (fail)
          obtain ⟨g5, hg5⟩ : ∃ g5, w4.heap.size = g5 := ⟨_, rfl⟩
          rw [hg5] at HG HI4 ⊢
          have HI5 := Lib.hid (HI4.out.alloc (by omega) (Obj.cells (iC pg co o md r (b : Int) va (ln : Int)) 37))
          generalize w4.alloc (Obj.cells (iC pg co o md r (b : Int) va (ln : Int)) 37) = W5 at HG HB5 HI5 ⊢
          have hl1 := HIn.out.l1
          have hl5 := HIn.out.l5
          have HP := Lib.hid (fun wx (hb : Below W5.heap.size W5 wx) => show Ints .u8 wx wx.heap.size (some ⟨g2, off2, none⟩) ln X from by
            have h1 := (HI5.out.below (B' := wx.heap.size) (by have := HG.out.lt; have := hb.size; omega) (hb.mono (by have := HG.out.lt; omega))).take_ ln hl5
            rw [show (lstF (partF F Ak) 5).take ln = X from HIn.out.take] at h1
            exact h1)
          have S0 : Hid (∀ wx, Below W5.heap.size W5 wx → (fun w' : World => w'.cell? ⟨g5, 0, none⟩ = some (.int .i64 pg) ∧ w'.cell? ⟨g5, 1, none⟩ = some (.int .u8 co) ∧ w'.cell? ⟨g5, 2, none⟩ = some (.int .i64 o) ∧ w'.cell? ⟨g5, 3, none⟩ = some (.int .i64 md) ∧ w'.cell? ⟨g5, 4, none⟩ = some (.int .i64 r) ∧ w'.cell? ⟨g5, 5, none⟩ = some (.int .u8 (b : Int)) ∧ w'.cell? ⟨g5, 6, none⟩ = some (.int .u16 va) ∧ w'.cell? ⟨g5, 7, none⟩ = some (.int .i64 (ln : Int))) wx) := Lib.hid (fun wx hb => (Blk.below HG.out hb HG.out.lt).s8)
          clear CO HB4 HI4 hb4 hg5 HI2
          have l0 : (0 : Int) ≤ (ln : Int) := by omega
          have l1 : (ln : Int) ≤ (c2 : Int) := by omega
          have l1n : ln ≤ c2 := by omega
          have aw : IntKind.u64.wrap (Ak : Int) = (Ak : Int) := by rw [IntKind.wrap_u64]; omega
          have CD : Hid (∀ u, Calls Tryz.prog 8 #[.int .u64 (Ak : Int), .int .u64 16, .int .i64 4] u fun e w' => e = .returned (.string (strOfNums (written 16 (Ak : Int) 4))) ∧ u = w') := Lib.hid (fun u => refDigits16_any (Ak : Int) 4 u (by omega) (by omega) (by omega) (by omega))
          have CP := Lib.hid (fun u (hu : Below W5.heap.size W5 u) => refPairs_any (some ⟨g2, off2, none⟩) ln c2 X u.heap.size u (HP.out u hu) (by omega))
          have hDs := addr4 Ak hAk
          have hPs : (strOfNums (pairsOf X)).size = 2 * ln := by rw [strOfNums_size, pairsOf_lenL, HIn.out.len]
          obtain ⟨D, hDe⟩ : ∃ D, strOfNums (written 16 (Ak : Int) 4) = D := ⟨_, rfl⟩
          obtain ⟨P, hPe⟩ : ∃ P, strOfNums (pairsOf X) = P := ⟨_, rfl⟩
          rw [hDe] at CD hDs
          rw [hPe] at CP hPs
          have HDe := Lib.hid (And.intro hDe hPe)
          clear hDe hPe
          have z1 : ¬ 9223372036854775807 < D.size + 1 := by omega
          have z2 : ¬ 9223372036854775807 < D.size + 1 + P.size := by omega
          have HDP := Lib.hid (And.intro hDs hPs)
          clear hDs hPs
          have B0 := Lib.hid (Below.drew0 (Below.refl W5.heap.size W5))
          have SK := Lib.hid (S0.out _ B0.out)
          refine wp_region_noPanic ?_
          refine wp_region_held_drew (S := (fun w' : World => w'.cell? ⟨g5, 0, none⟩ = some (.int .i64 pg) ∧ w'.cell? ⟨g5, 1, none⟩ = some (.int .u8 co) ∧ w'.cell? ⟨g5, 2, none⟩ = some (.int .i64 o) ∧ w'.cell? ⟨g5, 3, none⟩ = some (.int .i64 md) ∧ w'.cell? ⟨g5, 4, none⟩ = some (.int .i64 r) ∧ w'.cell? ⟨g5, 5, none⟩ = some (.int .u8 (b : Int)) ∧ w'.cell? ⟨g5, 6, none⟩ = some (.int .u16 va) ∧ w'.cell? ⟨g5, 7, none⟩ = some (.int .i64 (ln : Int)))) (by kernel_rfl) ?_ (fun hH0 => ?_)
          · (try dsimp only); with_reducible exact SK.out
          refine wpAnyH_take (i := 0) (oi := ({ dst := some 78, op := Op.move (Operand.tmp 1), type := 25, pos := "law.go:50", after := #[], guard := none } : Oper)) (v := ?_) rfl (by kernel_rfl) (by kernel_rfl) (by kernel_rfl) (fun _ _ _ h => h) (Or.inl ⟨by rfl, ?_⟩) (by assumption) ?_
          rotate_left 1
          · (intro w hSw; (try dsimp only at hSw); go_simp; (try with_reducible rfl))
          (try simp only [Act.put, List.setIfInBounds_toArray, List.set_cons_zero, List.set_cons_succ])
          refine wpAnyH_take (i := 1) (oi := ({ dst := some 79, op := Op.convert 25 41 (Operand.tmp 78), type := 41, pos := "law.go:50", after := #[{ on := 0, ground := Ground.data }], guard := none } : Oper)) (v := ?_) rfl (by kernel_rfl) (by kernel_rfl) (by kernel_rfl) (fun _ _ _ h => h) (Or.inl ⟨by rfl, ?_⟩) (by assumption) ?_
          rotate_left 1
          · (intro w hSw; (try dsimp only at hSw); go_simp; (try with_reducible rfl))
          (try simp only [Act.put, List.setIfInBounds_toArray, List.set_cons_zero, List.set_cons_succ])
          refine wpAnyH_take (i := 4) (oi := ({ dst := some 82, op := Op.move (Operand.tmp 13), type := 22, pos := "law.go:50", after := #[], guard := none } : Oper)) (v := ?_) rfl (by kernel_rfl) (by kernel_rfl) (by kernel_rfl) (fun _ _ _ h => h) (Or.inl ⟨by rfl, ?_⟩) (by assumption) ?_
          rotate_left 1
          · (intro w hSw; (try dsimp only at hSw); go_simp; (try with_reducible rfl))
          (try simp only [Act.put, List.setIfInBounds_toArray, List.set_cons_zero, List.set_cons_succ])
          refine wpAnyH_take (i := 5) (oi := ({ dst := some 83, op := Op.fieldAddr 37 (Operand.tmp 15) 5, type := 0, pos := "law.go:50", after := #[], guard := none } : Oper)) (v := ?_) rfl (by kernel_rfl) (by kernel_rfl) (by kernel_rfl) (fun _ _ _ h => h) (Or.inl ⟨by rfl, ?_⟩) (by assumption) ?_
          rotate_left 1
          · (intro w hSw; (try dsimp only at hSw); go_simp; (try with_reducible rfl))
          (try simp only [Act.put, List.setIfInBounds_toArray, List.set_cons_zero, List.set_cons_succ])
          refine wpAnyH_take (i := 6) (oi := ({ dst := some 84, op := Op.load 3 (Operand.tmp 83), type := 3, pos := "law.go:50", after := #[{ on := 5, ground := Ground.data }], guard := none } : Oper)) (v := ?_) rfl (by kernel_rfl) (by kernel_rfl) (by kernel_rfl) (fun _ _ _ h => h) (Or.inl ⟨by rfl, ?_⟩) (by assumption) ?_
          rotate_left 1
          · (intro w hSw; (try dsimp only at hSw); go_simp; (try with_reducible rfl))
          (try simp only [Act.put, List.setIfInBounds_toArray, List.set_cons_zero, List.set_cons_succ])
          refine wpAnyH_take (i := 7) (oi := ({ dst := some 85, op := Op.slice 22 (Operand.tmp 82) none (some (Operand.tmp 84)) none, type := 22, pos := "law.go:50", after := #[{ on := 4, ground := Ground.data }, { on := 6, ground := Ground.data }], guard := none } : Oper)) (v := ?_) rfl (by kernel_rfl) (by kernel_rfl) (by kernel_rfl) (fun _ _ _ h => h) (Or.inl ⟨by rfl, ?_⟩) (by assumption) ?_
          rotate_left 1
          · (intro w hSw; (try dsimp only at hSw); go_simp; (try with_reducible rfl))
          (try simp only [Act.put, List.setIfInBounds_toArray, List.set_cons_zero, List.set_cons_succ])
          refine wpAnyH_ready (rs := [2]) (by kernel_rfl) (by simp) ?_
          refine AllReadyH.cons (o := ({ dst := some 80, op := Op.call { callee := Callee.value (Operand.func 8), args := #[Operand.tmp 79, Operand.const (Value.int IntKind.u64 16), Operand.const (Value.int IntKind.i64 4)], argTypes := #[41, 41, 3] }, type := 9, pos := "law.go:50", after := #[{ on := 1, ground := Ground.data }], guard := none } : Oper)) rfl (fun K hK => ?_) ?_
          rotate_left 1
          · exact AllReadyH.nil
          go_simp
          go_at_call 8
          ((with_reducible refine (CD.out _).mono ?_); rintro e v1 ⟨rfl, rfl⟩)
          first | (refine hK.out _ _ ?_ (fun hH1 => ?_)) | (go_wp2_with fail; refine hK.out _ _ ?_ (fun hH1 => ?_))
          · (try dsimp only); with_reducible exact SK.out
          clear hK K hH0
          (try simp only [Act.put, List.setIfInBounds_toArray, List.set_cons_zero, List.set_cons_succ])
          refine wpAnyH_take (i := 3) (oi := ({ dst := some 81, op := Op.binOp BinOp.add 9 (Operand.tmp 80) (Operand.const (Value.string { data := #[32] })) 9, type := 9, pos := "law.go:50", after := #[{ on := 2, ground := Ground.data }], guard := none } : Oper)) (v := ?_) rfl (by kernel_rfl) (by kernel_rfl) (by kernel_rfl) (fun _ _ _ h => h) (Or.inl ⟨by rfl, ?_⟩) (by assumption) ?_
          rotate_left 1
          · (intro w hSw; (try dsimp only at hSw); go_simp; (try with_reducible rfl))
          (try simp only [Act.put, List.setIfInBounds_toArray, List.set_cons_zero, List.set_cons_succ])
          refine wpAnyH_ready (rs := [8]) (by kernel_rfl) (by simp) ?_
          refine AllReadyH.cons (o := ({ dst := some 86, op := Op.call { callee := Callee.value (Operand.func 9), args := #[Operand.tmp 85], argTypes := #[22] }, type := 9, pos := "law.go:50", after := #[{ on := 7, ground := Ground.data }, { on := 2, ground := Ground.chain }], guard := none } : Oper)) rfl (fun K hK => ?_) ?_
          rotate_left 1
          · exact AllReadyH.nil
          go_simp
          go_at_call 9
          ((with_reducible refine (CP.out _ B0.out).mono ?_); rintro e v2 ⟨rfl, rfl⟩)
          first | (refine hK.out _ _ ?_ (fun hH2 => ?_)) | (go_wp2_with fail; refine hK.out _ _ ?_ (fun hH2 => ?_))
          · (try dsimp only); with_reducible exact SK.out
          clear hK K hH1
          (try simp only [Act.put, List.setIfInBounds_toArray, List.set_cons_zero, List.set_cons_succ])
          refine wpAnyH_take (i := 9) (oi := ({ dst := some 87, op := Op.binOp BinOp.add 9 (Operand.tmp 81) (Operand.tmp 86) 9, type := 9, pos := "law.go:50", after := #[{ on := 3, ground := Ground.data }, { on := 8, ground := Ground.data }], guard := none } : Oper)) (v := ?_) rfl (by kernel_rfl) (by kernel_rfl) (by kernel_rfl) (fun _ _ _ h => h) (Or.inl ⟨by rfl, ?_⟩) (by assumption) ?_
          rotate_left 1
          · (intro w hSw; (try dsimp only at hSw); go_simp; (try with_reducible rfl))
          (try simp only [Act.put, List.setIfInBounds_toArray, List.set_cons_zero, List.set_cons_succ])
          refine wpAnyH_take (i := 10) (oi := ({ dst := some 17, op := Op.assign (Operand.tmp 87), type := 9, pos := "law.go:50", after := #[{ on := 9, ground := Ground.data }, { on := 8, ground := Ground.chain }, { on := 0, ground := Ground.phase }, { on := 1, ground := Ground.phase }, { on := 2, ground := Ground.phase }, { on := 3, ground := Ground.phase }, { on := 4, ground := Ground.phase }, { on := 5, ground := Ground.phase }, { on := 6, ground := Ground.phase }, { on := 7, ground := Ground.phase }, { on := 8, ground := Ground.phase }, { on := 9, ground := Ground.phase }], guard := none } : Oper)) (v := ?_) rfl (by kernel_rfl) (by kernel_rfl) (by kernel_rfl) (fun _ _ _ h => h) (Or.inl ⟨by rfl, ?_⟩) (by assumption) ?_
          rotate_left 1
          · (intro w hSw; (try dsimp only at hSw); go_simp; (try with_reducible rfl))
          (try simp only [Act.put, List.setIfInBounds_toArray, List.set_cons_zero, List.set_cons_succ])
          refine wpAnyH_done (by kernel_rfl) ?_ _
          refine NoPanic.normal ?_
          clear z1 z2 aw SK B0
          have hS1 : (D ++ ⟨#[32]⟩ ++ P).size = 5 + 2 * ln := by
            rw [ByteArray.size_append, ByteArray.size_append, show (⟨#[32]⟩ : ByteArray).size = 1 from rfl, HDP.out.1, HDP.out.2]
          have HS1 := Lib.hid hS1
          clear hS1
          obtain ⟨S1, hSe⟩ : ∃ S1, D ++ ⟨#[32]⟩ ++ P = S1 := ⟨_, rfl⟩
          rw [hSe] at HS1
          have HSe := Lib.hid hSe
          clear hSe
          go_wp2_with fail
          rw [HSe.out]
          go_loop [17] (fun s => ∃ q : Nat, q ≤ 11 - 2 * ln ∧ s = .string (S1 ++ blkS q)) (fun s => 16 - (match s with | .string s => s.size | _ => 0))
          case atStart => exact ⟨0, by omega, by rw [blkS_zero]⟩
          case round =>
            obtain ⟨q, hq, rfl⟩ := hrel
            have hTs : (S1 ++ blkS q).size = 5 + 2 * ln + q := by rw [ByteArray.size_append, HS1.out, blkS_size]
            have HAp := Lib.hid (blkS_app S1 q)
            obtain ⟨Tq, hTq⟩ : ∃ Tq, S1 ++ blkS q = Tq := ⟨_, rfl⟩
            rw [hTq] at hTs HAp ⊢
            have HTq := Lib.hid hTq
            clear hTq
            by_cases hq2 : q < 11 - 2 * ln
            · have t1 : (Tq.size : Int) < 16 := by omega
              have t2 : Tq.size + 1 ≤ 100 := by omega
              go_wp2_with fail
              go_round
              case rel => exact ⟨q + 1, by omega, congrArg Value.string HAp.out⟩
              case measure =>
                have e1 : (⟨#[32]⟩ : ByteArray).size = 1 := rfl
                simp only [ByteArray.size_append, e1]
                omega
            · have t1 : ¬ (Tq.size : Int) < 16 := by omega
              have hqe : q = 11 - 2 * ln := by omega
              rw [hqe] at HTq
              go_upto_region 22 with (fail)
              have CR := Lib.hid (fun u (hu : Below W5.heap.size W5 u) => refText42_any pg co o md r va (ln : Int) (Ak : Int) b HIn.out.b256 X (some ⟨g2, off2, none⟩) ln c2 u (HP.out u hu) (by omega) (by omega) (by omega) HIn.out.v0 HIn.out.v1 (by omega) (by omega) HIn.out.small)
              have hTz := HIn.out.tsize
              have HLn : Hid (insL F Ak = Tq ++ textT o md r b va (ln : Int) (Ak : Int) X) := Lib.hid (by
                rw [HIn.out.line, HDe.out.1, HDe.out.2]
                unfold linS
                rw [HSe.out, HTq.out])
              generalize textT o md r b va (ln : Int) (Ak : Int) X = T at CR hTz HLn
              have z1 : ¬ 9223372036854775807 < Tq.size + T.size := by omega
              clear hTz hq hqe t1 hTs HAp
              have B1 := Lib.hid (Below.drew0 (Below.drew0 (Below.refl W5.heap.size W5)))
              have SK := Lib.hid (S0.out _ B1.out)
              refine wp_region_noPanic ?_
              refine wp_region_held_drew (S := (fun w' : World => w'.cell? ⟨g5, 0, none⟩ = some (.int .i64 pg) ∧ w'.cell? ⟨g5, 1, none⟩ = some (.int .u8 co) ∧ w'.cell? ⟨g5, 2, none⟩ = some (.int .i64 o) ∧ w'.cell? ⟨g5, 3, none⟩ = some (.int .i64 md) ∧ w'.cell? ⟨g5, 4, none⟩ = some (.int .i64 r) ∧ w'.cell? ⟨g5, 5, none⟩ = some (.int .u8 (b : Int)) ∧ w'.cell? ⟨g5, 6, none⟩ = some (.int .u16 va) ∧ w'.cell? ⟨g5, 7, none⟩ = some (.int .i64 (ln : Int)))) (by kernel_rfl) ?_ (fun hH0 => ?_)
              · (try dsimp only); with_reducible exact SK.out
              refine wpAnyH_take (i := 0) (oi := ({ dst := some 93, op := Op.move (Operand.tmp 17), type := 9, pos := "law.go:54", after := #[], guard := none } : Oper)) (v := ?_) rfl (by kernel_rfl) (by kernel_rfl) (by kernel_rfl) (fun _ _ _ h => h) (Or.inl ⟨by rfl, ?_⟩) (by assumption) ?_
              rotate_left 1
              · (intro w hSw; (try dsimp only at hSw); go_simp; (try with_reducible rfl))
              (try simp only [Act.put, List.setIfInBounds_toArray, List.set_cons_zero, List.set_cons_succ])
              refine wpAnyH_take (i := 1) (oi := ({ dst := some 94, op := Op.load 37 (Operand.tmp 15), type := 37, pos := "law.go:54", after := #[], guard := none } : Oper)) (v := ?_) rfl (by kernel_rfl) (by kernel_rfl) (by kernel_rfl) (fun _ _ _ h => h) (Or.inl ⟨by rfl, ?_⟩) (by assumption) ?_
              rotate_left 1
              · (intro w hSw; (try dsimp only at hSw); go_simp; (try with_reducible rfl))
              (try simp only [Act.put, List.setIfInBounds_toArray, List.set_cons_zero, List.set_cons_succ])
              refine wpAnyH_take (i := 2) (oi := ({ dst := some 95, op := Op.move (Operand.tmp 1), type := 25, pos := "law.go:54", after := #[], guard := none } : Oper)) (v := ?_) rfl (by kernel_rfl) (by kernel_rfl) (by kernel_rfl) (fun _ _ _ h => h) (Or.inl ⟨by rfl, ?_⟩) (by assumption) ?_
              rotate_left 1
              · (intro w hSw; (try dsimp only at hSw); go_simp; (try with_reducible rfl))
              (try simp only [Act.put, List.setIfInBounds_toArray, List.set_cons_zero, List.set_cons_succ])
              refine wpAnyH_take (i := 3) (oi := ({ dst := some 96, op := Op.move (Operand.tmp 13), type := 22, pos := "law.go:54", after := #[], guard := none } : Oper)) (v := ?_) rfl (by kernel_rfl) (by kernel_rfl) (by kernel_rfl) (fun _ _ _ h => h) (Or.inl ⟨by rfl, ?_⟩) (by assumption) ?_
              rotate_left 1
              · (intro w hSw; (try dsimp only at hSw); go_simp; (try with_reducible rfl))
              (try simp only [Act.put, List.setIfInBounds_toArray, List.set_cons_zero, List.set_cons_succ])
              refine wpAnyH_take (i := 4) (oi := ({ dst := some 97, op := Op.fieldAddr 37 (Operand.tmp 15) 5, type := 0, pos := "law.go:54", after := #[], guard := none } : Oper)) (v := ?_) rfl (by kernel_rfl) (by kernel_rfl) (by kernel_rfl) (fun _ _ _ h => h) (Or.inl ⟨by rfl, ?_⟩) (by assumption) ?_
              rotate_left 1
              · (intro w hSw; (try dsimp only at hSw); go_simp; (try with_reducible rfl))
              (try simp only [Act.put, List.setIfInBounds_toArray, List.set_cons_zero, List.set_cons_succ])
              refine wpAnyH_take (i := 5) (oi := ({ dst := some 98, op := Op.load 3 (Operand.tmp 97), type := 3, pos := "law.go:54", after := #[{ on := 4, ground := Ground.data }], guard := none } : Oper)) (v := ?_) rfl (by kernel_rfl) (by kernel_rfl) (by kernel_rfl) (fun _ _ _ h => h) (Or.inl ⟨by rfl, ?_⟩) (by assumption) ?_
              rotate_left 1
              · (intro w hSw; (try dsimp only at hSw); go_simp; (try with_reducible rfl))
              (try simp only [Act.put, List.setIfInBounds_toArray, List.set_cons_zero, List.set_cons_succ])
              refine wpAnyH_take (i := 6) (oi := ({ dst := some 99, op := Op.slice 22 (Operand.tmp 96) none (some (Operand.tmp 98)) none, type := 22, pos := "law.go:54", after := #[{ on := 3, ground := Ground.data }, { on := 5, ground := Ground.data }], guard := none } : Oper)) (v := ?_) rfl (by kernel_rfl) (by kernel_rfl) (by kernel_rfl) (fun _ _ _ h => h) (Or.inl ⟨by rfl, ?_⟩) (by assumption) ?_
              rotate_left 1
              · (intro w hSw; (try dsimp only at hSw); go_simp; (try with_reducible rfl))
              (try simp only [Act.put, List.setIfInBounds_toArray, List.set_cons_zero, List.set_cons_succ])
              refine wpAnyH_ready (rs := [7]) (by kernel_rfl) (by simp) ?_
              refine AllReadyH.cons (o := ({ dst := some 100, op := Op.call { callee := Callee.value (Operand.func 10), args := #[Operand.tmp 94, Operand.tmp 95, Operand.tmp 99], argTypes := #[37, 25, 22] }, type := 9, pos := "law.go:54", after := #[{ on := 1, ground := Ground.data }, { on := 2, ground := Ground.data }, { on := 6, ground := Ground.data }], guard := none } : Oper)) rfl (fun K hK => ?_) ?_
              rotate_left 1
              · exact AllReadyH.nil
              go_simp
              go_at_call 10
              ((with_reducible refine (CR.out _ B1.out).mono ?_); rintro e v3 ⟨rfl, hb⟩; have B2 := Lib.hid (Below.trans0 B1.out hb); have S2 := Lib.hid (S0.out _ B2.out); clear hb)
              first | (refine hK.out _ _ ?_ (fun hH1 => ?_)) | (go_wp2_with fail; refine hK.out _ _ ?_ (fun hH1 => ?_))
              · (try dsimp only); with_reducible exact S2.out
              clear hK K hH0
              (try simp only [Act.put, List.setIfInBounds_toArray, List.set_cons_zero, List.set_cons_succ])
              refine wpAnyH_take (i := 8) (oi := ({ dst := some 101, op := Op.binOp BinOp.add 9 (Operand.tmp 93) (Operand.tmp 100) 9, type := 9, pos := "law.go:54", after := #[{ on := 0, ground := Ground.data }, { on := 7, ground := Ground.data }], guard := none } : Oper)) (v := ?_) rfl (by kernel_rfl) (by kernel_rfl) (by kernel_rfl) (fun _ _ _ h => h) (Or.inl ⟨by rfl, ?_⟩) (by assumption) ?_
              rotate_left 1
              · (intro w hSw; (try dsimp only at hSw); go_simp; (try with_reducible rfl))
              (try simp only [Act.put, List.setIfInBounds_toArray, List.set_cons_zero, List.set_cons_succ])
              refine wpAnyH_take (i := 9) (oi := ({ dst := some 17, op := Op.assign (Operand.tmp 101), type := 9, pos := "law.go:54", after := #[{ on := 8, ground := Ground.data }, { on := 7, ground := Ground.chain }, { on := 0, ground := Ground.phase }, { on := 1, ground := Ground.phase }, { on := 2, ground := Ground.phase }, { on := 3, ground := Ground.phase }, { on := 4, ground := Ground.phase }, { on := 5, ground := Ground.phase }, { on := 6, ground := Ground.phase }, { on := 7, ground := Ground.phase }, { on := 8, ground := Ground.phase }], guard := none } : Oper)) (v := ?_) rfl (by kernel_rfl) (by kernel_rfl) (by kernel_rfl) (fun _ _ _ h => h) (Or.inl ⟨by rfl, ?_⟩) (by assumption) ?_
              rotate_left 1
              · (intro w hSw; (try dsimp only at hSw); go_simp; (try with_reducible rfl))
              (try simp only [Act.put, List.setIfInBounds_toArray, List.set_cons_zero, List.set_cons_succ])
              refine wpAnyH_done (by kernel_rfl) ?_ _
              refine NoPanic.normal ?_
              clear z1 SK B1 S2
              rw [← HLn.out]
              have HK3 := HK.out.below (Below.trans0 HB5.out B2.out)
              have CL := Lib.hid (line_any mm p 65536 F Ak v3 HK3.ra hAk HK3.tab)
              have HK3 := Lib.hid HK3
              have hNx : Hid (IntKind.u16.wrap ((Ak : Int) + (ln : Int)) = (insN F Ak : Int) ∧ insN F Ak < 65536) := Lib.hid (by rw [HIn.out.next]; exact ⟨by rw [IntKind.wrap_u16]; omega, by omega⟩)
              generalize insL F Ak = LL at CL HCK HLn ⊢
              generalize insN F Ak = NX at CL HNx hNx
              clear HLn HTq HSe HS1 HDP CD CP CR HDe
              go_wp2_with fail
              refine CL.out.mono ?_
              rintro e w6 ⟨rfl, hb6⟩
              have HK6 := Lib.hid (HK3.out.below hb6)
              have B6 := Lib.hid (Below.trans0 B2.out hb6)
              obtain ⟨c0, c1, c2', c3, c4, c5, c6, c7⟩ := S0.out w6 B6.out
              have c8 : w6.cell? ⟨g3, k, none⟩ = some (.string LL) := ((Below.trans0 HB5.out B6.out).cell (p := ⟨g3, k, none⟩) HCK.out.2).trans HCK.out.1
              have q1 : (LL.toList == LL.toList) = true := by simp
              have q2 : (LL.toList != LL.toList) = false := by simp
              have w1 : IntKind.u16.wrap (ln : Int) = (ln : Int) := by rw [IntKind.wrap_u16]; omega
              have w2 := hNx.out.1
              have q3 : ((NX : Int) != (NX : Int)) = false := by simp
              have hk0 : (0 : Int) ≤ (k : Int) := by omega
              clear hb6 CL
              go_wp2_with fail
              exact ⟨⟨k + 1, by omega, by rw [HNx.out], by go_num, HK6⟩, by simp [intOf]; omega⟩
    · have hkI : ¬ (k : Int) < (N : Int) := by omega
      have CA := Lib.hid (alive42 wr HK.out.tab)
      go_wp2_with fail
      refine CA.out.mono ?_
      rintro e w9 ⟨rfl, hb9⟩
      go_wp2
      go_ret
      exact ⟨rfl, Below.trans0 HK.out.bel hb9⟩
end Go.Proofs.YtljhfalgplihhaaGreatDoor
