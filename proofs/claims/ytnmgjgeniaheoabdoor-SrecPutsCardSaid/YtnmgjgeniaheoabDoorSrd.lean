/- Contract of package srec's Read. -/
import Derived.Test.YtnmgjgeniaheoabDoorSrc
import Derived.Test.YtnmgjgeniaheoabDoorDigUn
import Derived.Deep.RegionHeld3
namespace Go.Proofs.YtnmgjgeniaheoabDoor
open Go.ChangeShapes Go.WideShapes Go.ChangeAt Go.RowKit
set_option linter.unusedVariables false

theorem upE_cases (xs : List Int) : upE xs = 0 ∨ upE xs = 21 := by unfold upE; split <;> simp
theorem rdLn_eq (xs : List Int) (K : Int) (ys : List Int) (h : (srK xs < 0 ∧ K = 0 ∧ ys = []) ∨ (0 ≤ srK xs ∧ K = srK xs ∧ ys = xs.drop 2)) :
    rdLn xs = if upE ys ≠ 0 ∨ (upV ys).length < 4 then ⟨0, 0, [], 21⟩ else rdB K (upV ys) := by
  unfold rdLn
  rcases h with ⟨h1, h2, h3⟩ | ⟨h1, h2, h3⟩
  · rw [if_pos h1, h3, if_pos (.inr (by decide))]
  · rw [if_neg (by omega), h2, h3]
theorem own_capY {w : World} {base : Nat} {t : TypeId} {v : Value} {L : List Int} (h : Own .u8 t w base v L) : ∀ A n c, v = .slice A n c → n ≤ c := by
  intro A n c e
  obtain ⟨_, h2⟩ := h
  rcases h2 with ⟨rfl, h2⟩ | ⟨g, cap, cur, rfl, _, _, h5, _⟩
  · injection e with _ e1 e2; omega
  · injection e with _ e1 e2; omega
theorem slice_in (u : World) (g off n c l h : Nat) (hl : l ≤ h) (hh : h ≤ c) (hc : l < c) (z : Int) (hz : z = (h : Int)) (y : Int) (hy : y = (l : Int)) :
    (Instr.slice 25 (.slice (some ⟨g, off, none⟩) n c) (some (.int .i64 y)) (some (.int .i64 z)) none).run Tryd.prog u = .ok (.slice (some ⟨g, off + l, none⟩) (h - l) (c - l)) u := by
  subst hz hy
  have hs : (sizeOf (Tryd.prog.elem 25)).run Tryd.prog u = .ok 1 u := by kernel_rfl
  have ht : Tryd.prog.underlying 25 = some (.slice (Tryd.prog.elem 25)) := by kernel_rfl
  rw [run_slice_lh u 25 (some ⟨g, off, none⟩) n c ht .i64 .i64 (l : Int) (h : Int) (by omega) (by omega) (by omega), hs]
  simp [Result.andThen, sliced, Els.add_pl]
  intro h; omega
theorem rd_set3 {w : World} {g off n c g' : Nat} {l : List Int} (h : eY.Rd w (.slice (some ⟨g, off, none⟩) n c) l) (hg : g ≠ g') (x y z : Value) :
    eY.Rd (((w.setCell ⟨g', 0, none⟩ x).setCell ⟨g', 1, none⟩ y).setCell ⟨g', 2, none⟩ z) (.slice (some ⟨g, off, none⟩) n c) l := by
  obtain ⟨A, c1, hv, h2⟩ := rdY_open h
  obtain ⟨rfl, rfl, rfl⟩ := Value.slice.inj hv
  rcases Nat.eq_zero_or_pos l.length with h0 | h0
  · rw [List.eq_nil_of_length_eq_zero h0]
    exact rdY_empty _ _ _
  · obtain ⟨g1, o1, e, hlt, h3⟩ := h2 h0
    obtain ⟨rfl, rfl, _⟩ := Addr.mk.inj (Option.some.inj e)
    refine rdY_mk rfl (by simpa using hlt) fun i hi => ?_
    rw [World.cell?_setCell_other _ _ _ _ (by intro e; injection e with e; exact hg e.symm), World.cell?_setCell_other _ _ _ _ (by intro e; injection e with e; exact hg e.symm), World.cell?_setCell_other _ _ _ _ (by intro e; injection e with e; exact hg e.symm)]
    exact h3 i hi
def SrPost (w : World) (R : LnR) (e : Ending) (w' : World) : Prop :=
  ∃ v, e = .returned (.tuple #[.agg #[.int .i64 R.k, .int .u16 R.a, v], .int .i64 R.e]) ∧ eY.Rd w' v R.b ∧ Below w.heap.size w w'
theorem resSr (tmps : Array Value) (W : World) (g : Nat) (cs : Array Value) (h : Blk W g 83 cs) (hc : cs.size = 3) (h2 : tmps.getD 2 undef = .pointer (some ⟨g, 0, none⟩)) (c : Int) (h3 : tmps.getD 3 undef = .int .i64 c) :
    (results Tryd.f33 tmps).run Tryd.prog W = .ok (.tuple #[.agg cs, .int .i64 c]) W := by
  have hi : (Tryd.prog.info? 83).map (·.size) = some cs.size := by rw [hc]; kernel_rfl
  have hld := run_loadVar_row (P := Tryd.prog) W g 83 83 cs (0, 0) _ h Tryd.underlying83 rfl hi
  have h2' : tmps[2]?.getD undef = .pointer (some ⟨g, 0, none⟩) := by simpa using h2
  have h3' : tmps[3]?.getD undef = .int .i64 c := by simpa using h3
  simp [results, Tryd.results33, h2', h3', asAddr, hld]
set_option maxRecDepth 100000 in
set_option maxHeartbeats 4000000 in
theorem srRead_any (s : ByteArray) (w : World) (hs : s.size ≤ 1099511627) :
    Calls Tryd.prog 33 #[.string s] w (SrPost w (rdLn (nums s))) := by
  have CB := Lib.hid (fun u => srBegins_any s u (by omega))
  have HL := Lib.hid (nums_len s)
  obtain ⟨R, hR⟩ : ∃ R, rdLn (nums s) = R := ⟨_, rfl⟩
  have HRL := Lib.hid (fun K ys h => (rdLn_eq (nums s) K ys h).symm.trans hR)
  rw [hR]
  clear hR
  have Z0 := Lib.hid (Blk.new w 83 #[.int .i64 0, .int .u16 0, .slice none 0 0] (0, 0))
  have B0 := Lib.hid (Below.alloc0 (Below.refl w.heap.size w) (.cells #[.int .i64 0, .int .u16 0, .slice none 0 0] 83))
  go_enter Tryd.func33, Tryd.ntmps33
  go_wp2_with fail
  refine (CB.out _).mono ?_
  intro e w1 hp
  obtain ⟨K, S1, he, hS1, hk, hb⟩ : ∃ (K : Int) (S1 : ByteArray), e = .returned (.tuple #[.int .i64 K, .string S1]) ∧ S1.size ≤ 1099511627776 ∧ ((srK (nums s) < 0 ∧ K = 0 ∧ nums S1 = []) ∨ (0 ≤ srK (nums s) ∧ K = srK (nums s) ∧ nums S1 = (nums s).drop 2)) ∧
      Below (w.alloc (.cells #[.int .i64 0, .int .u16 0, .slice none 0 0] 83)).heap.size (w.alloc (.cells #[.int .i64 0, .int .u16 0, .slice none 0 0] 83)) w1 := by
    obtain ⟨hb, ⟨h1, h2⟩ | ⟨h1, h2⟩⟩ := hp
    · exact ⟨0, ⟨#[]⟩, h2, by decide, .inl ⟨h1, rfl, rfl⟩, hb⟩
    · have hd : nums (strOfNums ((nums s).drop 2)) = (nums s).drop 2 := str_nums _ (fun x hx => nums_range s x (List.mem_of_mem_drop hx))
      exact ⟨_, _, h2, by rw [← nums_len, hd, List.length_drop, nums_len]; omega, .inr ⟨h1, rfl, hd⟩, hb⟩
  subst he
  have HRR := Lib.hid (HRL.out K _ hk)
  have HKK : Hid (K = 0 ∨ K = 1 ∨ K = 9) := Lib.hid (by
    rcases hk with ⟨h1, h2, _⟩ | ⟨h1, h2, _⟩
    · exact .inl h2
    · rcases srK_cases (nums s) with h | h
      · omega
      · rw [h2]; exact h.1)
  have Z1 := Lib.hid (Blk.below Z0.out hb (by simp))
  have B1 := Lib.hid (Below.trans0 B0.out hb)
  have CU := Lib.hid (fun u => unpair_any S1 u hS1)
  have HEC := Lib.hid (upE_cases (nums S1))
  have HBY := Lib.hid (upV_byt (nums S1))
  have HLB : Hid ((upV (nums S1)).length ≤ 1099511627) := Lib.hid (by
    have := upV_len (nums S1)
    rw [nums_len] at this
    have : S1.size ≤ s.size := by
      rcases hk with ⟨_, _, h⟩ | ⟨_, _, h⟩
      · have := congrArg List.length h; rw [nums_len, List.length_nil] at this; omega
      · have := congrArg List.length h; rw [nums_len, List.length_drop, HL.out] at this; omega
    omega)
  clear hp hb hk CB HRL hS1
  obtain ⟨b, hbb⟩ : ∃ b, upV (nums S1) = b := ⟨_, rfl⟩
  obtain ⟨er, her⟩ : ∃ er, upE (nums S1) = er := ⟨_, rfl⟩
  rw [hbb, her] at CU HRR
  rw [her] at HEC
  rw [hbb] at HBY HLB
  clear hbb her
  go_wp2_with fail
  refine (CU.out _).mono ?_
  rintro e w2 ⟨v, rfl, ho, hb⟩
  have Z2 := Lib.hid (Blk.below Z1.out hb Z1.out.lt)
  have B2 := Lib.hid (Below.trans0 B1.out hb)
  have HO := Lib.hid (own_eY ho).rd
  have HCP := Lib.hid (own_capY ho)
  have HOL := Lib.hid (fun g off n c (e : v = .slice (some ⟨g, off, none⟩) n c) => (ho.lt g (by rw [e]; rfl)).1)
  have HW1 := Lib.hid Z1.out.lt
  clear ho hb CU Z0 B0
  have c0 := Z2.out.c3.1
  have c1 := Z2.out.c3.2.1
  have c2 := Z2.out.c3.2.2
  have f0 := Z2.out.frozen 0
  have f1 := Z2.out.frozen 1
  have f2 := Z2.out.frozen 2
  have Z3 := Lib.hid (fun x y z => Blk.set3 (x0 := x) (x1 := y) (x2 := z) Z2.out)
  obtain ⟨A, c, rfl, hcell⟩ := rdY_open HO.out
  have HC := Lib.hid hcell
  obtain ⟨n, hn⟩ : ∃ n, b.length = n := ⟨_, rfl⟩
  have HN := Lib.hid hn
  rw [hn] at HRR ⊢
  clear hcell hn Z1 B1
  by_cases he0 : er = 0
  · subst he0
    by_cases hn4 : n < 4
    · have hR := HRR.out
      rw [if_pos (.inr hn4)] at hR
      subst hR
      have hn4' : (n : Int) < 4 := by omega
      clear hn4
      go_wp2
      exact bodyPost_ret (v := .tuple #[.agg #[.int .i64 0, .int .u16 0, .slice none 0 0], .int .i64 21]) (resSr _ _ w.heap.size _ (Z3.out _ _ _) rfl rfl 21 rfl) rfl ⟨.slice none 0 0, rfl, Els.Rd.nil_ _, Below.set0 (Below.set0 (Below.set0 B2.out (Nat.le_refl _) _) (Nat.le_refl _) _) (Nat.le_refl _) _⟩
    · have hn4' : ¬ (n : Int) < 4 := by omega
      have hR := HRR.out
      rw [if_neg (by simp; omega)] at hR
      unfold rdB at hR
      rw [HN.out] at hR
      obtain ⟨g, off, rfl, hg, hc⟩ := HC.out (by rw [HN.out]; omega)
      have hc0 := hc 0 (by rw [HN.out]; omega)
      have hc1 := hc 1 (by rw [HN.out]; omega)
      have hc2 := hc 2 (by rw [HN.out]; omega)
      rw [Nat.add_zero] at hc0
      obtain ⟨p0, p1⟩ := HBY.out.at_ 0
      obtain ⟨p2, p3⟩ := HBY.out.at_ 1
      obtain ⟨p4, p5⟩ := HBY.out.at_ 2
      have CS := Lib.hid (fun u (hu : Below w2.heap.size w2 u) => by
        obtain ⟨A', c', hv, hI⟩ := rdY_ints (HO.out.below hu) HBY.out
        obtain ⟨rfl, hl', rfl⟩ := Value.slice.inj hv
        rw [HN.out] at hI
        exact sum_any _ n c b _ u hI (by have := HLB.out; rw [HN.out] at this; omega))
      obtain ⟨x0, hx0⟩ : ∃ x, iat b 0 = x := ⟨_, rfl⟩
      obtain ⟨x1, hx1⟩ : ∃ x, iat b 1 = x := ⟨_, rfl⟩
      obtain ⟨x2, hx2⟩ : ∃ x, iat b 2 = x := ⟨_, rfl⟩
      obtain ⟨SM, hSM⟩ : ∃ S, sumAll b = S := ⟨_, rfl⟩
      rw [hx0] at hc0 p0 p1 hR
      rw [hx1] at hc1 p2 p3 hR
      rw [hx2] at hc2 p4 p5 hR
      rw [hSM] at hR CS
      have HR := Lib.hid hR
      have HGG := Lib.hid hg
      have HPT := Lib.hid (rdY_part (a := 3) (b := n - 1) (m := n - 4) (c' := c - 3) HO.out (by rw [HN.out]; omega) (by omega))
      have hn0 : 3 < n := by omega
      have HGN : Hid (g ≠ w.heap.size) := Lib.hid (by have h1 := HOL.out g off _ c rfl; have h2 := HW1.out; omega)
      have hnc : n ≤ c := HCP.out _ _ _ (by first | rfl | rw [HN.out])
      have hnB : n ≤ 1099511627 := by have := HLB.out; rw [HN.out] at this; exact this
      clear hc hx0 hx1 hx2 hSM hR hg hn4
      by_cases hq : x0 + 1 = (n : Int)
      · have hR := HR.out
        rw [if_neg (by omega)] at hR
        have HR2 := Lib.hid hR
        have hq' : (x0 != (n : Int) - 1) = false := by simp; omega
        have hn256 : n ≤ 256 := by omega
        clear hq hR HR
        by_cases hs5 : SM = 255
        · have hR := HR2.out
          rw [if_neg (by omega)] at hR
          have HR3 := Lib.hid hR
          have hs5' : (SM != 255) = false := by simp; exact hs5
          clear hR HR2 hs5
          go_wp2_with (go_at_call 52; refine (CS.out _ (Below.refl _ _)).mono ?_; rintro e w' ⟨rfl, rfl⟩)
          have S0 : Hid ((fun w' : World => (w'.cell? ⟨g, off + 1, none⟩ = some (.int .u8 x1) ∧ w'.cell? ⟨g, off + 2, none⟩ = some (.int .u8 x2))) w2.drew) := Lib.hid ⟨hc1, hc2⟩
          have CW := Lib.hid (fun u => word_any x1 x2 u p2 (by omega) p4 (by omega))
          have n1 : (1 : Int) < (n : Int) := by omega
          have n2 : (2 : Int) < (n : Int) := by omega
          have wn : IntKind.i64.wrap ((n : Int) - 1) = (n : Int) - 1 := IntWalk.i64_in _ (by omega)
          have hsl : ∀ u : World, (Instr.slice 25 (.slice (some ⟨g, off, none⟩) n c) (some (.int .i64 3)) (some (.int .i64 ((n : Int) - 1))) none).run Tryd.prog u = .ok (.slice (some ⟨g, off + 3, none⟩) (n - 4) (c - 3)) u := fun u => by
            rw [slice_in u g off n c 3 (n - 1) (by omega) (by omega) (by omega) ((n : Int) - 1) (by omega) (3 : Int) rfl, show n - 1 - 3 = n - 4 by omega]
          have S1 : Hid (∀ o, (fun w' : World => (w'.cell? ⟨g, off + 1, none⟩ = some (.int .u8 x1) ∧ w'.cell? ⟨g, off + 2, none⟩ = some (.int .u8 x2))) ((w2.alloc o).drew)) := Lib.hid (fun o => ⟨(Below.cell (p := ⟨g, off + 1, none⟩) (Below.alloc0 (Below.refl _ _) _) HGG.out).trans hc1, (Below.cell (p := ⟨g, off + 2, none⟩) (Below.alloc0 (Below.refl _ _) _) HGG.out).trans hc2⟩)
          refine once ?_
          apply Exists.intro
          apply Exists.intro
          apply And.intro
          · refine wp_region_noPanic ?_
            refine wp_region_held_drew (S := (fun w' : World => (w'.cell? ⟨g, off + 1, none⟩ = some (.int .u8 x1) ∧ w'.cell? ⟨g, off + 2, none⟩ = some (.int .u8 x2)))) (by kernel_rfl) ?_ (fun hH0 => ?_)
            · (try dsimp only); with_reducible exact S0.out
            refine wpAnyH_take (i := 0) (oi := ({ dst := some 43, op := Op.move (Operand.tmp 4), type := 3, pos := "srec.go:67", after := #[], guard := none } : Oper)) (v := ?_) rfl (by kernel_rfl) (by kernel_rfl) (by kernel_rfl) (fun _ _ _ h => h) (Or.inl ⟨by rfl, ?_⟩) (by assumption) ?_
            rotate_left 1
            · (intro w hSw; (try dsimp only at hSw); go_simp; (try with_reducible rfl))
            (try simp only [Act.put, List.setIfInBounds_toArray, List.set_cons_zero, List.set_cons_succ])
            refine wpAnyH_take (i := 1) (oi := ({ dst := some 44, op := Op.move (Operand.tmp 6), type := 25, pos := "srec.go:67", after := #[], guard := none } : Oper)) (v := ?_) rfl (by kernel_rfl) (by kernel_rfl) (by kernel_rfl) (fun _ _ _ h => h) (Or.inl ⟨by rfl, ?_⟩) (by assumption) ?_
            rotate_left 1
            · (intro w hSw; (try dsimp only at hSw); go_simp; (try with_reducible rfl))
            (try simp only [Act.put, List.setIfInBounds_toArray, List.set_cons_zero, List.set_cons_succ])
            refine wpAnyH_take (i := 2) (oi := ({ dst := some 45, op := Op.indexAddr 25 (Operand.tmp 44) (Operand.const (Value.int IntKind.i64 1)), type := 0, pos := "srec.go:67", after := #[{ on := 1, ground := Ground.data }], guard := none } : Oper)) (v := ?_) rfl (by kernel_rfl) (by kernel_rfl) (by kernel_rfl) (fun _ _ _ h => h) (Or.inl ⟨by rfl, ?_⟩) (by assumption) ?_
            rotate_left 1
            · (intro w hSw; (try dsimp only at hSw); go_simp; (try with_reducible rfl))
            (try simp only [Act.put, List.setIfInBounds_toArray, List.set_cons_zero, List.set_cons_succ])
            refine wpAnyH_take (i := 3) (oi := ({ dst := some 46, op := Op.load 5 (Operand.tmp 45), type := 5, pos := "srec.go:67", after := #[{ on := 2, ground := Ground.data }], guard := none } : Oper)) (v := ?_) rfl (by kernel_rfl) (by kernel_rfl) (by kernel_rfl) (fun _ _ _ h => h) (Or.inl ⟨by rfl, ?_⟩) (by assumption) ?_
            rotate_left 1
            · (intro w hSw; (try dsimp only at hSw); go_simp; (try with_reducible rfl))
            (try simp only [Act.put, List.setIfInBounds_toArray, List.set_cons_zero, List.set_cons_succ])
            refine wpAnyH_take (i := 4) (oi := ({ dst := some 47, op := Op.move (Operand.tmp 6), type := 25, pos := "srec.go:67", after := #[], guard := none } : Oper)) (v := ?_) rfl (by kernel_rfl) (by kernel_rfl) (by kernel_rfl) (fun _ _ _ h => h) (Or.inl ⟨by rfl, ?_⟩) (by assumption) ?_
            rotate_left 1
            · (intro w hSw; (try dsimp only at hSw); go_simp; (try with_reducible rfl))
            (try simp only [Act.put, List.setIfInBounds_toArray, List.set_cons_zero, List.set_cons_succ])
            refine wpAnyH_take (i := 5) (oi := ({ dst := some 48, op := Op.indexAddr 25 (Operand.tmp 47) (Operand.const (Value.int IntKind.i64 2)), type := 0, pos := "srec.go:67", after := #[{ on := 4, ground := Ground.data }], guard := none } : Oper)) (v := ?_) rfl (by kernel_rfl) (by kernel_rfl) (by kernel_rfl) (fun _ _ _ h => h) (Or.inl ⟨by rfl, ?_⟩) (by assumption) ?_
            rotate_left 1
            · (intro w hSw; (try dsimp only at hSw); go_simp; (try with_reducible rfl))
            (try simp only [Act.put, List.setIfInBounds_toArray, List.set_cons_zero, List.set_cons_succ])
            refine wpAnyH_take (i := 6) (oi := ({ dst := some 49, op := Op.load 5 (Operand.tmp 48), type := 5, pos := "srec.go:67", after := #[{ on := 5, ground := Ground.data }], guard := none } : Oper)) (v := ?_) rfl (by kernel_rfl) (by kernel_rfl) (by kernel_rfl) (fun _ _ _ h => h) (Or.inl ⟨by rfl, ?_⟩) (by assumption) ?_
            rotate_left 1
            · (intro w hSw; (try dsimp only at hSw); go_simp; (try with_reducible rfl))
            (try simp only [Act.put, List.setIfInBounds_toArray, List.set_cons_zero, List.set_cons_succ])
            refine wpAnyH_take (i := 8) (oi := ({ dst := some 51, op := Op.move (Operand.tmp 6), type := 25, pos := "srec.go:67", after := #[], guard := none } : Oper)) (v := ?_) rfl (by kernel_rfl) (by kernel_rfl) (by kernel_rfl) (fun _ _ _ h => h) (Or.inl ⟨by rfl, ?_⟩) (by assumption) ?_
            rotate_left 1
            · (intro w hSw; (try dsimp only at hSw); go_simp; (try with_reducible rfl))
            (try simp only [Act.put, List.setIfInBounds_toArray, List.set_cons_zero, List.set_cons_succ])
            refine wpAnyH_take (i := 9) (oi := ({ dst := some 52, op := Op.move (Operand.tmp 6), type := 25, pos := "srec.go:67", after := #[], guard := none } : Oper)) (v := ?_) rfl (by kernel_rfl) (by kernel_rfl) (by kernel_rfl) (fun _ _ _ h => h) (Or.inl ⟨by rfl, ?_⟩) (by assumption) ?_
            rotate_left 1
            · (intro w hSw; (try dsimp only at hSw); go_simp; (try with_reducible rfl))
            (try simp only [Act.put, List.setIfInBounds_toArray, List.set_cons_zero, List.set_cons_succ])
            refine wpAnyH_take (i := 10) (oi := ({ dst := some 53, op := Op.call { callee := Callee.builtin Builtin.len, args := #[Operand.tmp 52], argTypes := #[25] }, type := 3, pos := "srec.go:67", after := #[{ on := 9, ground := Ground.data }], guard := none } : Oper)) (v := ?_) rfl (by kernel_rfl) (by kernel_rfl) (by kernel_rfl) (fun _ _ _ h => h) (Or.inl ⟨by rfl, ?_⟩) (by assumption) ?_
            rotate_left 1
            · (intro w hSw; (try dsimp only at hSw); go_simp; (try with_reducible rfl))
            (try simp only [Act.put, List.setIfInBounds_toArray, List.set_cons_zero, List.set_cons_succ])
            refine wpAnyH_take (i := 11) (oi := ({ dst := some 54, op := Op.binOp BinOp.sub 3 (Operand.tmp 53) (Operand.const (Value.int IntKind.i64 1)) 3, type := 3, pos := "srec.go:67", after := #[{ on := 10, ground := Ground.data }], guard := none } : Oper)) (v := ?_) rfl (by kernel_rfl) (by kernel_rfl) (by kernel_rfl) (fun _ _ _ h => h) (Or.inl ⟨by rfl, ?_⟩) (by assumption) ?_
            rotate_left 1
            · (intro w hSw; (try dsimp only at hSw); go_simp; (try with_reducible rfl))
            (try simp only [Act.put, List.setIfInBounds_toArray, List.set_cons_zero, List.set_cons_succ])
            refine wpAnyH_take (i := 12) (oi := ({ dst := some 55, op := Op.slice 25 (Operand.tmp 51) (some (Operand.const (Value.int IntKind.i64 3))) (some (Operand.tmp 54)) none, type := 25, pos := "srec.go:67", after := #[{ on := 8, ground := Ground.data }, { on := 11, ground := Ground.data }], guard := none } : Oper)) (v := ?_) rfl (by kernel_rfl) (by kernel_rfl) (by kernel_rfl) (fun _ _ _ h => h) (Or.inl ⟨by rfl, ?_⟩) (by assumption) ?_
            rotate_left 1
            · (intro w hSw; (try dsimp only at hSw); go_simp; (try with_reducible rfl))
            (try simp only [Act.put, List.setIfInBounds_toArray, List.set_cons_zero, List.set_cons_succ])
            refine wpAnyH_ready (rs := [7, 14]) (by kernel_rfl) (by simp) ?_
            refine AllReadyH.cons (o := ({ dst := some 50, op := Op.call { callee := Callee.value (Operand.func 58), args := #[Operand.tmp 46, Operand.tmp 49], argTypes := #[5, 5] }, type := 22, pos := "srec.go:67", after := #[{ on := 3, ground := Ground.data }, { on := 6, ground := Ground.data }], guard := none } : Oper)) rfl (fun K hK => ?_) ?_
            · go_simp
              go_at_call 58
              ((with_reducible refine (CW.out _).mono ?_); rintro e v1 ⟨rfl, rfl⟩)
              first | (refine hK.out _ _ ?_ (fun hH1 => ?_)) | (go_wp2_with fail; refine hK.out _ _ ?_ (fun hH1 => ?_))
              · (try dsimp only); with_reducible first | exact S0.out | exact S1.out _
              clear hK K hH0
              (try simp only [Act.put, List.setIfInBounds_toArray, List.set_cons_zero, List.set_cons_succ])
              refine wpAnyH_take (i := 13) (oi := ({ dst := some 56, op := Op.build 83 #[(0, Operand.tmp 43), (1, Operand.tmp 50), (2, Operand.tmp 55)], type := 83, pos := "srec.go:67", after := #[{ on := 0, ground := Ground.data }, { on := 7, ground := Ground.data }, { on := 12, ground := Ground.data }], guard := none } : Oper)) (v := ?_) rfl (by kernel_rfl) (by kernel_rfl) (by kernel_rfl) (fun _ _ _ h => h) (Or.inl ⟨by rfl, ?_⟩) (by assumption) ?_
              rotate_left 1
              · (intro w hSw; (try dsimp only at hSw); go_simp; (try with_reducible rfl))
              (try simp only [Act.put, List.setIfInBounds_toArray, List.set_cons_zero, List.set_cons_succ])
              refine wpAnyH_ready (rs := [14]) (by kernel_rfl) (by simp) ?_
              refine AllReadyH.cons (o := ({ dst := some 8, op := Op.alloc 83, type := 0, pos := "srec.go:67", after := #[], guard := none } : Oper)) rfl (fun K hK => ?_) ?_
              rotate_left 1
              · exact AllReadyH.nil
              go_simp
              first | (refine hK.out _ _ ?_ (fun hH2 => ?_)) | (go_wp2_with fail; refine hK.out _ _ ?_ (fun hH2 => ?_))
              · (try dsimp only); with_reducible first | exact S0.out | exact S1.out _
              clear hK K hH1
              (try simp only [Act.put, List.setIfInBounds_toArray, List.set_cons_zero, List.set_cons_succ])
              refine wpAnyH_ready (rs := [15]) (by kernel_rfl) (by simp) ?_
              refine AllReadyH.cons (o := ({ dst := none, op := Op.store 83 (Operand.tmp 8) (Operand.tmp 56), type := 0, pos := "srec.go:67", after := #[{ on := 14, ground := Ground.data }, { on := 13, ground := Ground.data }, { on := 7, ground := Ground.chain }, { on := 0, ground := Ground.phase }, { on := 1, ground := Ground.phase }, { on := 2, ground := Ground.phase }, { on := 3, ground := Ground.phase }, { on := 4, ground := Ground.phase }, { on := 5, ground := Ground.phase }, { on := 6, ground := Ground.phase }, { on := 7, ground := Ground.phase }, { on := 8, ground := Ground.phase }, { on := 9, ground := Ground.phase }, { on := 10, ground := Ground.phase }, { on := 11, ground := Ground.phase }, { on := 12, ground := Ground.phase }, { on := 13, ground := Ground.phase }, { on := 14, ground := Ground.phase }], guard := none } : Oper)) rfl (fun K hK => ?_) ?_
              rotate_left 1
              · exact AllReadyH.nil
              go_simp
              first | (refine hK.out _ _ ?_ (fun hH3 => ?_)) | (go_wp2_with fail; refine hK.out _ _ ?_ (fun hH3 => ?_))
              · (try dsimp only); with_reducible first | exact S0.out | exact S1.out _
              clear hK K hH2
              (try simp only [Act.put, List.setIfInBounds_toArray, List.set_cons_zero, List.set_cons_succ])
              refine wpAnyH_done (by kernel_rfl) ?_ _
              refine NoPanic.normal ?_
              exact ⟨rfl, rfl, rfl⟩
            refine AllReadyH.cons (o := ({ dst := some 8, op := Op.alloc 83, type := 0, pos := "srec.go:67", after := #[], guard := none } : Oper)) rfl (fun K hK => ?_) ?_
            · go_simp
              first | (refine hK.out _ _ ?_ (fun hH1 => ?_)) | (go_wp2_with fail; refine hK.out _ _ ?_ (fun hH1 => ?_))
              · (try dsimp only); with_reducible first | exact S0.out | exact S1.out _
              clear hK K hH0
              (try simp only [Act.put, List.setIfInBounds_toArray, List.set_cons_zero, List.set_cons_succ])
              refine wpAnyH_ready (rs := [7]) (by kernel_rfl) (by simp) ?_
              refine AllReadyH.cons (o := ({ dst := some 50, op := Op.call { callee := Callee.value (Operand.func 58), args := #[Operand.tmp 46, Operand.tmp 49], argTypes := #[5, 5] }, type := 22, pos := "srec.go:67", after := #[{ on := 3, ground := Ground.data }, { on := 6, ground := Ground.data }], guard := none } : Oper)) rfl (fun K hK => ?_) ?_
              rotate_left 1
              · exact AllReadyH.nil
              go_simp
              go_at_call 58
              ((with_reducible refine (CW.out _).mono ?_); rintro e v1 ⟨rfl, rfl⟩)
              first | (refine hK.out _ _ ?_ (fun hH2 => ?_)) | (go_wp2_with fail; refine hK.out _ _ ?_ (fun hH2 => ?_))
              · (try dsimp only); with_reducible first | exact S0.out | exact S1.out _
              clear hK K hH1
              (try simp only [Act.put, List.setIfInBounds_toArray, List.set_cons_zero, List.set_cons_succ])
              refine wpAnyH_take (i := 13) (oi := ({ dst := some 56, op := Op.build 83 #[(0, Operand.tmp 43), (1, Operand.tmp 50), (2, Operand.tmp 55)], type := 83, pos := "srec.go:67", after := #[{ on := 0, ground := Ground.data }, { on := 7, ground := Ground.data }, { on := 12, ground := Ground.data }], guard := none } : Oper)) (v := ?_) rfl (by kernel_rfl) (by kernel_rfl) (by kernel_rfl) (fun _ _ _ h => h) (Or.inl ⟨by rfl, ?_⟩) (by assumption) ?_
              rotate_left 1
              · (intro w hSw; (try dsimp only at hSw); go_simp; (try with_reducible rfl))
              (try simp only [Act.put, List.setIfInBounds_toArray, List.set_cons_zero, List.set_cons_succ])
              refine wpAnyH_ready (rs := [15]) (by kernel_rfl) (by simp) ?_
              refine AllReadyH.cons (o := ({ dst := none, op := Op.store 83 (Operand.tmp 8) (Operand.tmp 56), type := 0, pos := "srec.go:67", after := #[{ on := 14, ground := Ground.data }, { on := 13, ground := Ground.data }, { on := 7, ground := Ground.chain }, { on := 0, ground := Ground.phase }, { on := 1, ground := Ground.phase }, { on := 2, ground := Ground.phase }, { on := 3, ground := Ground.phase }, { on := 4, ground := Ground.phase }, { on := 5, ground := Ground.phase }, { on := 6, ground := Ground.phase }, { on := 7, ground := Ground.phase }, { on := 8, ground := Ground.phase }, { on := 9, ground := Ground.phase }, { on := 10, ground := Ground.phase }, { on := 11, ground := Ground.phase }, { on := 12, ground := Ground.phase }, { on := 13, ground := Ground.phase }, { on := 14, ground := Ground.phase }], guard := none } : Oper)) rfl (fun K hK => ?_) ?_
              rotate_left 1
              · exact AllReadyH.nil
              go_simp
              first | (refine hK.out _ _ ?_ (fun hH3 => ?_)) | (go_wp2_with fail; refine hK.out _ _ ?_ (fun hH3 => ?_))
              · (try dsimp only); with_reducible first | exact S0.out | exact S1.out _
              clear hK K hH2
              (try simp only [Act.put, List.setIfInBounds_toArray, List.set_cons_zero, List.set_cons_succ])
              refine wpAnyH_done (by kernel_rfl) ?_ _
              refine NoPanic.normal ?_
              exact ⟨rfl, rfl, rfl⟩
            exact AllReadyH.nil
          have ZL : Hid (Blk ((w2.alloc (.cells #[.int .i64 K, .int .u16 (256 * x1 + x2), .slice (some ⟨g, off + 3, none⟩) (n - 4) (c - 3)] 83)).drew) w2.heap.size 83 #[.int .i64 K, .int .u16 (256 * x1 + x2), .slice (some ⟨g, off + 3, none⟩) (n - 4) (c - 3)]) := Lib.hid (Blk.new w2 _ _ _)
          have Z4 : Hid (Blk ((w2.alloc (.cells #[.int .i64 K, .int .u16 (256 * x1 + x2), .slice (some ⟨g, off + 3, none⟩) (n - 4) (c - 3)] 83)).drew) w.heap.size 83 #[.int .i64 0, .int .u16 0, .slice none 0 0]) := Lib.hid (Blk.drew (Blk.alloc Z2.out _))
          have B4 : Hid (Below w.heap.size w ((w2.alloc (.cells #[.int .i64 K, .int .u16 (256 * x1 + x2), .slice (some ⟨g, off + 3, none⟩) (n - 4) (c - 3)] 83)).drew)) := Lib.hid (Below.drew0 (Below.alloc0 B2.out _))
          have HP4 : Hid (eY.Rd ((w2.alloc (.cells #[.int .i64 K, .int .u16 (256 * x1 + x2), .slice (some ⟨g, off + 3, none⟩) (n - 4) (c - 3)] 83)).drew) (.slice (some ⟨g, off + 3, none⟩) (n - 4) (c - 3)) ((b.take (n - 1)).drop 3)) := Lib.hid ((HPT.out.alloc _).drew)
          have hgz : w.heap.size ≠ w2.heap.size := Nat.ne_of_lt Z2.out.lt
          generalize (w2.alloc (.cells #[.int .i64 K, .int .u16 (256 * x1 + x2), .slice (some ⟨g, off + 3, none⟩) (n - 4) (c - 3)] 83)).drew = W4 at ZL Z4 B4 HP4 ⊢
          generalize w2.heap.size = gl at ZL hgz ⊢
          obtain ⟨l0, l1, l2⟩ := ZL.out.c3
          clear c0 c1 c2 f0 f1 f2 S0 S1 CW hsl hc0 hc1 hc2
          have CRT := Lib.hid (fun u => srRight_any K (256 * x1 + x2) (some ⟨g, off + 3, none⟩) (n - 4) (c - 3) u)
          by_cases h9 : K = 9 ∧ 4 < n
          · have hrb : rightB K (n - 4) = false := by
              obtain ⟨rfl, h4⟩ := h9
              unfold rightB
              rw [decide_eq_false (show ¬ n - 4 = 0 by omega)]; rfl
            rw [hrb] at CRT
            have hR := HR3.out
            rw [if_pos h9] at hR
            subst hR
            clear h9 hrb HR3
            go_wp2_with fail
            refine (CRT.out _).mono ?_
            rintro e w5 ⟨rfl, hb⟩
            have Z5 := Lib.hid (Blk.below Z4.out hb Z4.out.lt)
            have B5 := Lib.hid (Below.trans0 B4.out hb)
            clear hb
            have c0 := Z5.out.c3.1
            have c1 := Z5.out.c3.2.1
            have c2 := Z5.out.c3.2.2
            have f0 := Z5.out.frozen 0
            have f1 := Z5.out.frozen 1
            have f2 := Z5.out.frozen 2
            go_wp2
            exact bodyPost_ret (v := .tuple #[.agg #[.int .i64 0, .int .u16 0, .slice none 0 0], .int .i64 21]) (resSr _ _ w.heap.size _ (Blk.set3 Z5.out) rfl rfl 21 rfl) rfl ⟨.slice none 0 0, rfl, Els.Rd.nil_ _, Below.set0 (Below.set0 (Below.set0 B5.out (Nat.le_refl _) _) (Nat.le_refl _) _) (Nat.le_refl _) _⟩
          · have hrb : rightB K (n - 4) = true := by
              unfold rightB
              rcases HKK.out with rfl | rfl | rfl
              · rw [decide_eq_true (show n - 4 ≤ 252 by omega)]; rfl
              · rw [decide_eq_true (show n - 4 ≤ 252 by omega)]; rfl
              · rw [decide_eq_true (show n - 4 = 0 by omega)]; simp
            rw [hrb] at CRT
            have hR := HR3.out
            rw [if_neg h9] at hR
            subst hR
            clear h9 hrb HR3
            go_wp2_with fail
            refine (CRT.out _).mono ?_
            rintro e w5 ⟨rfl, hb⟩
            have Z5 := Lib.hid (Blk.below Z4.out hb Z4.out.lt)
            have L5 := Lib.hid (Blk.below ZL.out hb ZL.out.lt)
            have B5 := Lib.hid (Below.trans0 B4.out hb)
            have HP5 := Lib.hid (HP4.out.below hb)
            clear hb
            obtain ⟨l0, l1, l2⟩ := L5.out.c3
            have c0 := Z5.out.c3.1
            have c1 := Z5.out.c3.2.1
            have c2 := Z5.out.c3.2.2
            have f0 := Z5.out.frozen 0
            have f1 := Z5.out.frozen 1
            have f2 := Z5.out.frozen 2
            have hnb : ∀ (x y z : Value), Below w.heap.size w (((w5.setCell ⟨w.heap.size, 0, none⟩ x).setCell ⟨w.heap.size, 1, none⟩ y).setCell ⟨w.heap.size, 2, none⟩ z) := fun x y z => Below.set0 (Below.set0 (Below.set0 B5.out (Nat.le_refl _) _) (Nat.le_refl _) _) (Nat.le_refl _) _
            have HNB := Lib.hid hnb
            have HP6 := Lib.hid (fun (x y z : Value) => rd_set3 (g' := w.heap.size) HP5.out HGN.out x y z)
            clear hnb
            go_wp2
            exact bodyPost_ret (v := .tuple #[.agg #[.int .i64 K, .int .u16 (256 * x1 + x2), .slice (some ⟨g, off + 3, none⟩) (n - 4) (c - 3)], .int .i64 0]) (resSr _ _ w.heap.size _ (Blk.set3 Z5.out) rfl rfl 0 rfl) rfl ⟨_, rfl, HP6.out _ _ _, HNB.out _ _ _⟩
        · have hR := HR2.out
          rw [if_pos hs5] at hR
          subst hR
          have hs5' : (SM != 255) = true := by simp; exact hs5
          clear hs5 HR2
          go_wp2_with (go_at_call 52; refine (CS.out _ (Below.refl _ _)).mono ?_; rintro e w' ⟨rfl, rfl⟩)
          exact bodyPost_ret (v := .tuple #[.agg #[.int .i64 0, .int .u16 0, .slice none 0 0], .int .i64 22]) (resSr _ _ w.heap.size _ (Z3.out _ _ _) rfl rfl 22 rfl) rfl ⟨.slice none 0 0, rfl, Els.Rd.nil_ _, Below.set0 (Below.set0 (Below.set0 B2.out (Nat.le_refl _) _) (Nat.le_refl _) _) (Nat.le_refl _) _⟩
      · have hR := HR.out
        rw [if_pos hq] at hR
        subst hR
        have hq' : (x0 != (n : Int) - 1) = true := by simp; omega
        clear hq HR
        go_wp2
        exact bodyPost_ret (v := .tuple #[.agg #[.int .i64 0, .int .u16 0, .slice none 0 0], .int .i64 12]) (resSr _ _ w.heap.size _ (Z3.out _ _ _) rfl rfl 12 rfl) rfl ⟨.slice none 0 0, rfl, Els.Rd.nil_ _, Below.set0 (Below.set0 (Below.set0 B2.out (Nat.le_refl _) _) (Nat.le_refl _) _) (Nat.le_refl _) _⟩
  · have h21 : er = 21 := by rcases HEC.out with h | h; exact absurd h he0; exact h
    subst h21
    have hR := HRR.out
    rw [if_pos (.inl he0)] at hR
    subst hR
    clear he0
    go_wp2
    exact bodyPost_ret (v := .tuple #[.agg #[.int .i64 0, .int .u16 0, .slice none 0 0], .int .i64 21]) (resSr _ _ w.heap.size _ (Z3.out _ _ _) rfl rfl 21 rfl) rfl ⟨.slice none 0 0, rfl, Els.Rd.nil_ _, Below.set0 (Below.set0 (Below.set0 B2.out (Nat.le_refl _) _) (Nat.le_refl _) _) (Nat.le_refl _) _⟩
end Go.Proofs.YtnmgjgeniaheoabDoor
