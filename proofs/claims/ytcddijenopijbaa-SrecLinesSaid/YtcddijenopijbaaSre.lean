/- Contract of the document's own Read (layer 40). -/
import Derived.Test.YtcddijenopijbaaSrd
import Derived.Deep.CutBlock
namespace Go.Proofs.Ytcddijenopijbaa
open Go.ChangeShapes Go.WideShapes Go.ChangeAt Go.RowKit
set_option linter.unusedVariables false

theorem cell_set3 {w : World} {g o g' : Nat} (hg : g ≠ g') (x y z : Value) : (((w.setCell ⟨g', 0, none⟩ x).setCell ⟨g', 1, none⟩ y).setCell ⟨g', 2, none⟩ z).drew.cell? ⟨g, o, none⟩ = w.cell? ⟨g, o, none⟩ := by
  show (((w.setCell ⟨g', 0, none⟩ x).setCell ⟨g', 1, none⟩ y).setCell ⟨g', 2, none⟩ z).cell? ⟨g, o, none⟩ = w.cell? ⟨g, o, none⟩
  rw [World.cell?_setCell_other _ _ _ _ (by intro e; injection e with e; exact hg e.symm), World.cell?_setCell_other _ _ _ _ (by intro e; injection e with e; exact hg e.symm), World.cell?_setCell_other _ _ _ _ (by intro e; injection e with e; exact hg e.symm)]
theorem sum_step (b : List Int) (j : Nat) (h : j < b.length) (t : Int) (ht : t % 256 = sumAll (b.take j)) : (t + iat b j) % 256 = sumAll (b.take (j + 1)) := by
  unfold sumAll at ht ⊢
  rw [foldl_take (fun s x => (s + x) % 256) b 0 j h, ← ht]
  omega
theorem resSe (tmps : Array Value) (W : World) (g : Nat) (cs : Array Value) (h : Blk W g 29 cs) (hc : cs.size = 3) (h2 : tmps.getD 2 undef = .pointer (some ⟨g, 0, none⟩)) (c : Int) (h3 : tmps.getD 3 undef = .int .i64 c) :
    (results Try.f8 tmps).run Try.prog W = .ok (.tuple #[.agg cs, .int .i64 c]) W := by
  have hi : (Try.prog.info? 29).map (·.size) = some cs.size := by rw [hc]; kernel_rfl
  have hld := run_loadVar_row (P := Try.prog) W g 29 29 cs (0, 0) _ h Try.underlying29 rfl hi
  have h2' : tmps[2]?.getD undef = .pointer (some ⟨g, 0, none⟩) := by simpa using h2
  have h3' : tmps[3]?.getD undef = .int .i64 c := by simpa using h3
  simp [results, Try.results8, h2', h3', asAddr, hld]
set_option maxRecDepth 100000 in
set_option maxHeartbeats 4000000 in
theorem seRead0_any (s : ByteArray) (w : World) (hs : s.size ≤ 1099511627) (h2 : 2 ≤ s.size) (hx : iat (nums s) 0 = 83) (hy : iat (nums s) 1 = 48 + 0) :
    Calls Try.prog 8 #[.string s] w (SrPost w (rdLn (nums s))) := by
  have HL := Lib.hid (nums_len s)
  have hb := get_nums s
  have hsk : srK (nums s) = 0 := srK_of (nums s) (by rw [HL.out]; omega) hx 0 (by decide) hy
  obtain ⟨R, hR⟩ : ∃ R, rdLn (nums s) = R := ⟨_, rfl⟩
  have hRR := (rdLn_eq (nums s) 0 ((nums s).drop 2) (.inr ⟨by rw [hsk]; decide, hsk.symm, rfl⟩)).symm.trans hR
  rw [hR]
  have z0 := (Blk.new w 29 #[.int .i64 0, .int .u16 0, .slice none 0 0] (0, 0))
  have B0 := Lib.hid (Below.alloc0 (Below.refl w.heap.size w) (.cells #[.int .i64 0, .int .u16 0, .slice none 0 0] 29))
  have Z0 := Lib.hid z0
  have hbx : ∀ h : 0 < s.size, ((s[0]'h).toNat : Int) = 83 := fun h => by rw [hb 0 h, hx]
  have hby : ∀ h : 1 < s.size, ((s[1]'h).toNat : Int) = 48 + 0 := fun h => by rw [hb 1 h, hy]
  have h2' : (2 : Int) ≤ (s.size : Int) := by omega
  have hp0 : 0 < s.size := by omega
  have hp1 : 1 < s.size := by omega
  have hd2 : nums (strOfNums ((nums s).drop 2)) = (nums s).drop 2 := str_nums _ (fun x hx => nums_range s x (List.mem_of_mem_drop hx))
  have CU := Lib.hid (fun u => refUnpair_any (strOfNums ((nums s).drop 2)) u (by rw [← nums_len, hd2, List.length_drop, HL.out]; omega))
  rw [hd2] at CU
  have E2 := ext_dropP s 2
  have HEC := Lib.hid (upE_cases ((nums s).drop 2))
  have HBY := Lib.hid (upV_byt ((nums s).drop 2))
  have HLB : Hid ((upV ((nums s).drop 2)).length ≤ 1099511627) := Lib.hid (by
    have := upV_len ((nums s).drop 2)
    rw [List.length_drop, HL.out] at this; omega)
  obtain ⟨b, hbb⟩ : ∃ b, upV ((nums s).drop 2) = b := ⟨_, rfl⟩
  obtain ⟨er, her⟩ : ∃ er, upE ((nums s).drop 2) = er := ⟨_, rfl⟩
  rw [hbb, her] at CU hRR
  rw [her] at HEC
  rw [hbb] at HBY HLB
  have HRR := Lib.hid hRR
  obtain ⟨S1, hS1⟩ : ∃ S, strOfNums ((nums s).drop 2) = S := ⟨_, rfl⟩
  rw [hS1] at CU E2
  clear z0 hR hRR hsk hb hx hy hd2 hbb her hS1 h2
  go_enter Try.func8, Try.ntmps8
  go_wp2_with fail
  clear hbx hby
  refine (CU.out _).mono ?_
  rintro e w2 ⟨v, rfl, ho, hb⟩
  have Z2 := Lib.hid (Blk.below Z0.out hb (by simp))
  have B2 := Lib.hid (Below.trans0 B0.out hb)
  have HO := Lib.hid (own_eY ho).rd
  have HCP := Lib.hid (own_capY ho)
  have HOL := Lib.hid (fun g off n c (e : v = .slice (some ⟨g, off, none⟩) n c) => (ho.lt g (by rw [e]; rfl)).1)
  clear ho hb CU E2
  have c0 := Z2.out.c3.1
  have c1 := Z2.out.c3.2.1
  have c2 := Z2.out.c3.2.2
  have f0 := Z2.out.frozen 0
  have f1 := Z2.out.frozen 1
  have f2 := Z2.out.frozen 2
  have Z3 := Lib.hid (fun x y z => Blk.set3 (x0 := x) (x1 := y) (x2 := z) Z2.out)
  obtain ⟨A, c, rfl, hcell⟩ := rdY_open HO.out
  have HC := Lib.hid hcell
  obtain ⟨n, hn⟩ : ∃ n, b.length = n := ⟨_, rfl⟩
  have HN := Lib.hid hn
  rw [hn] at HRR ⊢
  clear hcell hn
  by_cases he0 : er = 0
  · subst he0
    by_cases hn4 : n < 4
    · have hR := HRR.out
      rw [if_pos (.inr hn4)] at hR
      subst hR
      have hn4' : (n : Int) < 4 := by omega
      clear hn4
      go_wp2
      exact bodyPost_ret (v := .tuple #[.agg #[.int .i64 0, .int .u16 0, .slice none 0 0], .int .i64 21]) (resSe _ _ w.heap.size _ (Z3.out _ _ _) rfl rfl 21 rfl) rfl ⟨.slice none 0 0, rfl, Els.Rd.nil_ _, Below.set0 (Below.set0 (Below.set0 B2.out (Nat.le_refl _) _) (Nat.le_refl _) _) (Nat.le_refl _) _⟩
    · have hn4' : ¬ (n : Int) < 4 := by omega
      have hR := HRR.out
      rw [if_neg (by simp; omega)] at hR
      unfold rdB at hR
      rw [HN.out] at hR
      obtain ⟨g, off, rfl, hg, hc⟩ := HC.out (by rw [HN.out]; omega)
      have hc0 := hc 0 (by rw [HN.out]; omega)
      have hc1 := hc 1 (by rw [HN.out]; omega)
      have hc2 := hc 2 (by rw [HN.out]; omega)
      rw [Nat.add_zero] at hc0
      obtain ⟨p0, p1⟩ := HBY.out.at_ 0
      obtain ⟨p2, p3⟩ := HBY.out.at_ 1
      obtain ⟨p4, p5⟩ := HBY.out.at_ 2
      obtain ⟨x0, hx0⟩ : ∃ x, iat b 0 = x := ⟨_, rfl⟩
      obtain ⟨x1, hx1⟩ : ∃ x, iat b 1 = x := ⟨_, rfl⟩
      obtain ⟨x2, hx2⟩ : ∃ x, iat b 2 = x := ⟨_, rfl⟩
      rw [hx0] at hc0 p0 p1 hR
      rw [hx1] at hc1 p2 p3 hR
      rw [hx2] at hc2 p4 p5 hR
      have HR := Lib.hid hR
      have HCA := Lib.hid hc
      have HPT := Lib.hid (rdY_part (a := 3) (b := n - 1) (m := n - 4) (c' := c - 3) HO.out (by rw [HN.out]; omega) (by omega))
      have hn0 : 3 < n := by omega
      have HGN : Hid (g ≠ w.heap.size) := Lib.hid (by have h1 := HOL.out g off _ c rfl; simp at h1; omega)
      have hnc : n ≤ c := HCP.out _ _ _ (by first | rfl | rw [HN.out])
      have hnB : n ≤ 1099511627 := by have := HLB.out; rw [HN.out] at this; exact this
      clear hc hx0 hx1 hx2 hR hg hn4
      by_cases hq : x0 + 1 = (n : Int)
      · have hR := HR.out
        rw [if_neg (by omega)] at hR
        have HR2 := Lib.hid hR
        have hq' : (x0 + 1 != (n : Int)) = false := by simp; omega
        have hn256 : n ≤ 256 := by omega
        clear hq hR HR
        have HS1 := Lib.hid hc1
        have HS2 := Lib.hid hc2
        have HF0 := Lib.hid (And.intro c0 (And.intro c1 (And.intro c2 (And.intro f0 (And.intro f1 f2)))))
        go_wp2
        clear hc0 hc1 hc2 c0 c1 c2 f0 f1 f2 hq'
        go_loop [7, 8] (fun t i => ∃ (j : Nat) (m : Int), j ≤ n ∧ i = .int .i64 j ∧ t = .int .i64 m ∧ 0 ≤ m ∧ m ≤ 255 * (j : Int) ∧ Hid (m % 256 = sumAll (b.take j))) (fun _ i => n - (intOf i).toNat)
        case atStart => exact ⟨0, 0, Nat.zero_le _, rfl, rfl, by omega, by omega, Lib.hid rfl⟩
        case round =>
          obtain ⟨j, m, hj, rfl, rfl, m0, m1, hm⟩ := hrel
          by_cases hjn : j < n
          · have hcj := HCA.out j (by rw [HN.out]; exact hjn)
            obtain ⟨q0, q1⟩ := HBY.out.at_ j
            have HST := Lib.hid (sum_step b j (by rw [HN.out]; exact hjn) m hm.out)
            obtain ⟨xj, hxj⟩ : ∃ x, iat b j = x := ⟨_, rfl⟩
            rw [hxj] at hcj q0 q1 HST
            clear hxj
            go_wp2
            go_round
            case rel => exact ⟨j + 1, m + xj, by omega, by go_num, by go_num, by omega, by omega, HST⟩
            case measure => simp [intOf]; omega
          · have hjn' : j = n := by omega
            have HSM : Hid (m % 256 = sumAll b) := Lib.hid (by
              have := hm.out
              rwa [List.take_of_length_le (by rw [HN.out]; omega)] at this)
            obtain ⟨c0, c1, c2, f0, f1, f2⟩ := HF0.out
            have hR := HR2.out
            rw [← HSM.out] at hR
            have htm : Int.tmod m 256 = m % 256 := Int.tmod_eq_emod_of_nonneg m0
            by_cases hs5 : m % 256 = 255
            · rw [if_neg (by omega)] at hR
              have HR3 := Lib.hid hR
              have hs5' : (m % 256 != 255) = false := by simp; exact hs5
              clear hR HR2 hs5 hjn'
              by_cases h9 : ((0 : Int) = 9 ∧ 4 < n)
              first
                | exact absurd h9.1 (by decide)
                | (have hR := HR3.out
                   first | rw [if_pos h9] at hR | rw [if_pos ⟨trivial, h9.2⟩] at hR
                   subst hR
                   have h4 : (4 : Int) < (n : Int) := by omega
                   clear h9
                   go_wp2
                   exact bodyPost_ret (v := .tuple #[.agg #[.int .i64 0, .int .u16 0, .slice none 0 0], .int .i64 21]) (resSe _ _ w.heap.size _ (Z3.out _ _ _) rfl rfl 21 rfl) rfl ⟨.slice none 0 0, rfl, Els.Rd.nil_ _, Below.set0 (Below.set0 (Below.set0 B2.out (Nat.le_refl _) _) (Nat.le_refl _) _) (Nat.le_refl _) _⟩)
              have hR := HR3.out
              first | rw [if_neg h9] at hR | rw [if_neg (fun h => h9 ⟨rfl, h.2⟩)] at hR
              subst hR
              have h4 : (0 : Int) = 9 → ¬ (4 : Int) < (n : Int) := fun e h => h9 (by first | exact ⟨e, by omega⟩ | exact ⟨trivial, by omega⟩)
              simp at h4
              clear h9
              have hc1 := HS1.out
              have hc2 := HS2.out
              have S0 : Hid ((fun w' : World => (w'.cell? ⟨g, off + 1, none⟩ = some (.int .u8 x1) ∧ w'.cell? ⟨g, off + 2, none⟩ = some (.int .u8 x2))) w2.drew) := Lib.hid ⟨hc1, hc2⟩
              have n1 : (1 : Int) < (n : Int) := by omega
              have n2 : (2 : Int) < (n : Int) := by omega
              have wn : IntKind.i64.wrap ((n : Int) - 1) = (n : Int) - 1 := IntWalk.i64_in _ (by omega)
              have wa : IntKind.u16.wrap x1 = x1 := by rw [IntKind.wrap_u16]; omega
              have wb : IntKind.u16.wrap x2 = x2 := by rw [IntKind.wrap_u16]; omega
              have wc : IntKind.u16.wrap (x1 * 256) = x1 * 256 := by rw [IntKind.wrap_u16]; omega
              have wd : IntKind.u16.wrap (x1 * 256 + x2) = 256 * x1 + x2 := by rw [IntKind.wrap_u16]; omega
              have hsl : ∀ u : World, (Instr.slice 23 (.slice (some ⟨g, off, none⟩) n c) (some (.int .i64 3)) (some (.int .i64 ((n : Int) - 1))) none).run Try.prog u = .ok (.slice (some ⟨g, off + 3, none⟩) (n - 4) (c - 3)) u := fun u => by
                rw [slice_in u g off n c 3 (n - 1) (by omega) (by omega) (by omega) ((n : Int) - 1) (by omega) (3 : Int) rfl, show n - 1 - 3 = n - 4 by omega]
              have HP6 := Lib.hid (fun (x y z : Value) => rd_set3 (g' := w.heap.size) HPT.out HGN.out x y z)
              have S1 : Hid (∀ x y z, (fun w' : World => (w'.cell? ⟨g, off + 1, none⟩ = some (.int .u8 x1) ∧ w'.cell? ⟨g, off + 2, none⟩ = some (.int .u8 x2))) (((w2.setCell ⟨w.heap.size, 0, none⟩ x).setCell ⟨w.heap.size, 1, none⟩ y).setCell ⟨w.heap.size, 2, none⟩ z).drew) := Lib.hid (fun x y z => ⟨(cell_set3 HGN.out x y z).trans hc1, (cell_set3 HGN.out x y z).trans hc2⟩)
              go_upto_region 20 with (fail)
              refine once ?_
              apply Exists.intro
              apply Exists.intro
              apply And.intro
              · refine wp_region_noPanic ?_
                refine wp_region_held_drew (S := (fun w' : World => (w'.cell? ⟨g, off + 1, none⟩ = some (.int .u8 x1) ∧ w'.cell? ⟨g, off + 2, none⟩ = some (.int .u8 x2)))) (by kernel_rfl) ?_ (fun hH0 => ?_)
                · (try dsimp only); with_reducible exact S0.out
                refine wpAnyH_take (i := 0) (oi := ({ dst := some 80, op := Op.move (Operand.tmp 4), type := 3, pos := "ref.go:49", after := #[], guard := none } : Oper)) (v := ?_) rfl (by kernel_rfl) (by kernel_rfl) (by kernel_rfl) (fun _ _ _ h => h) (Or.inl ⟨by rfl, ?_⟩) (by assumption) ?_
                rotate_left 1
                · (intro w hSw; (try dsimp only at hSw); go_simp; (try with_reducible rfl))
                (try simp only [Act.put, List.setIfInBounds_toArray, List.set_cons_zero, List.set_cons_succ])
                refine wpAnyH_take (i := 1) (oi := ({ dst := some 81, op := Op.move (Operand.tmp 5), type := 23, pos := "ref.go:49", after := #[], guard := none } : Oper)) (v := ?_) rfl (by kernel_rfl) (by kernel_rfl) (by kernel_rfl) (fun _ _ _ h => h) (Or.inl ⟨by rfl, ?_⟩) (by assumption) ?_
                rotate_left 1
                · (intro w hSw; (try dsimp only at hSw); go_simp; (try with_reducible rfl))
                (try simp only [Act.put, List.setIfInBounds_toArray, List.set_cons_zero, List.set_cons_succ])
                refine wpAnyH_take (i := 2) (oi := ({ dst := some 82, op := Op.indexAddr 23 (Operand.tmp 81) (Operand.const (Value.int IntKind.i64 1)), type := 0, pos := "ref.go:49", after := #[{ on := 1, ground := Ground.data }], guard := none } : Oper)) (v := ?_) rfl (by kernel_rfl) (by kernel_rfl) (by kernel_rfl) (fun _ _ _ h => h) (Or.inl ⟨by rfl, ?_⟩) (by assumption) ?_
                rotate_left 1
                · (intro w hSw; (try dsimp only at hSw); go_simp; (try with_reducible rfl))
                (try simp only [Act.put, List.setIfInBounds_toArray, List.set_cons_zero, List.set_cons_succ])
                refine wpAnyH_take (i := 3) (oi := ({ dst := some 83, op := Op.load 5 (Operand.tmp 82), type := 5, pos := "ref.go:49", after := #[{ on := 2, ground := Ground.data }], guard := none } : Oper)) (v := ?_) rfl (by kernel_rfl) (by kernel_rfl) (by kernel_rfl) (fun _ _ _ h => h) (Or.inl ⟨by rfl, ?_⟩) (by assumption) ?_
                rotate_left 1
                · (intro w hSw; (try dsimp only at hSw); go_simp; (try with_reducible rfl))
                (try simp only [Act.put, List.setIfInBounds_toArray, List.set_cons_zero, List.set_cons_succ])
                refine wpAnyH_take (i := 4) (oi := ({ dst := some 84, op := Op.convert 5 22 (Operand.tmp 83), type := 22, pos := "ref.go:49", after := #[{ on := 3, ground := Ground.data }], guard := none } : Oper)) (v := ?_) rfl (by kernel_rfl) (by kernel_rfl) (by kernel_rfl) (fun _ _ _ h => h) (Or.inl ⟨by rfl, ?_⟩) (by assumption) ?_
                rotate_left 1
                · (intro w hSw; (try dsimp only at hSw); go_simp; (try with_reducible rfl))
                (try simp only [Act.put, List.setIfInBounds_toArray, List.set_cons_zero, List.set_cons_succ])
                refine wpAnyH_take (i := 5) (oi := ({ dst := some 85, op := Op.binOp BinOp.mul 22 (Operand.tmp 84) (Operand.const (Value.int IntKind.u16 256)) 22, type := 22, pos := "ref.go:49", after := #[{ on := 4, ground := Ground.data }], guard := none } : Oper)) (v := ?_) rfl (by kernel_rfl) (by kernel_rfl) (by kernel_rfl) (fun _ _ _ h => h) (Or.inl ⟨by rfl, ?_⟩) (by assumption) ?_
                rotate_left 1
                · (intro w hSw; (try dsimp only at hSw); go_simp; (try with_reducible rfl))
                (try simp only [Act.put, List.setIfInBounds_toArray, List.set_cons_zero, List.set_cons_succ])
                refine wpAnyH_take (i := 6) (oi := ({ dst := some 86, op := Op.move (Operand.tmp 5), type := 23, pos := "ref.go:49", after := #[], guard := none } : Oper)) (v := ?_) rfl (by kernel_rfl) (by kernel_rfl) (by kernel_rfl) (fun _ _ _ h => h) (Or.inl ⟨by rfl, ?_⟩) (by assumption) ?_
                rotate_left 1
                · (intro w hSw; (try dsimp only at hSw); go_simp; (try with_reducible rfl))
                (try simp only [Act.put, List.setIfInBounds_toArray, List.set_cons_zero, List.set_cons_succ])
                refine wpAnyH_take (i := 7) (oi := ({ dst := some 87, op := Op.indexAddr 23 (Operand.tmp 86) (Operand.const (Value.int IntKind.i64 2)), type := 0, pos := "ref.go:49", after := #[{ on := 6, ground := Ground.data }], guard := none } : Oper)) (v := ?_) rfl (by kernel_rfl) (by kernel_rfl) (by kernel_rfl) (fun _ _ _ h => h) (Or.inl ⟨by rfl, ?_⟩) (by assumption) ?_
                rotate_left 1
                · (intro w hSw; (try dsimp only at hSw); go_simp; (try with_reducible rfl))
                (try simp only [Act.put, List.setIfInBounds_toArray, List.set_cons_zero, List.set_cons_succ])
                refine wpAnyH_take (i := 8) (oi := ({ dst := some 88, op := Op.load 5 (Operand.tmp 87), type := 5, pos := "ref.go:49", after := #[{ on := 7, ground := Ground.data }], guard := none } : Oper)) (v := ?_) rfl (by kernel_rfl) (by kernel_rfl) (by kernel_rfl) (fun _ _ _ h => h) (Or.inl ⟨by rfl, ?_⟩) (by assumption) ?_
                rotate_left 1
                · (intro w hSw; (try dsimp only at hSw); go_simp; (try with_reducible rfl))
                (try simp only [Act.put, List.setIfInBounds_toArray, List.set_cons_zero, List.set_cons_succ])
                refine wpAnyH_take (i := 9) (oi := ({ dst := some 89, op := Op.convert 5 22 (Operand.tmp 88), type := 22, pos := "ref.go:49", after := #[{ on := 8, ground := Ground.data }], guard := none } : Oper)) (v := ?_) rfl (by kernel_rfl) (by kernel_rfl) (by kernel_rfl) (fun _ _ _ h => h) (Or.inl ⟨by rfl, ?_⟩) (by assumption) ?_
                rotate_left 1
                · (intro w hSw; (try dsimp only at hSw); go_simp; (try with_reducible rfl))
                (try simp only [Act.put, List.setIfInBounds_toArray, List.set_cons_zero, List.set_cons_succ])
                refine wpAnyH_take (i := 10) (oi := ({ dst := some 90, op := Op.binOp BinOp.add 22 (Operand.tmp 85) (Operand.tmp 89) 22, type := 22, pos := "ref.go:49", after := #[{ on := 5, ground := Ground.data }, { on := 9, ground := Ground.data }], guard := none } : Oper)) (v := ?_) rfl (by kernel_rfl) (by kernel_rfl) (by kernel_rfl) (fun _ _ _ h => h) (Or.inl ⟨by rfl, ?_⟩) (by assumption) ?_
                rotate_left 1
                · (intro w hSw; (try dsimp only at hSw); go_simp; (try with_reducible rfl))
                (try simp only [Act.put, List.setIfInBounds_toArray, List.set_cons_zero, List.set_cons_succ])
                refine wpAnyH_take (i := 11) (oi := ({ dst := some 91, op := Op.move (Operand.tmp 5), type := 23, pos := "ref.go:49", after := #[], guard := none } : Oper)) (v := ?_) rfl (by kernel_rfl) (by kernel_rfl) (by kernel_rfl) (fun _ _ _ h => h) (Or.inl ⟨by rfl, ?_⟩) (by assumption) ?_
                rotate_left 1
                · (intro w hSw; (try dsimp only at hSw); go_simp; (try with_reducible rfl))
                (try simp only [Act.put, List.setIfInBounds_toArray, List.set_cons_zero, List.set_cons_succ])
                refine wpAnyH_take (i := 12) (oi := ({ dst := some 92, op := Op.move (Operand.tmp 5), type := 23, pos := "ref.go:49", after := #[], guard := none } : Oper)) (v := ?_) rfl (by kernel_rfl) (by kernel_rfl) (by kernel_rfl) (fun _ _ _ h => h) (Or.inl ⟨by rfl, ?_⟩) (by assumption) ?_
                rotate_left 1
                · (intro w hSw; (try dsimp only at hSw); go_simp; (try with_reducible rfl))
                (try simp only [Act.put, List.setIfInBounds_toArray, List.set_cons_zero, List.set_cons_succ])
                refine wpAnyH_take (i := 13) (oi := ({ dst := some 93, op := Op.call { callee := Callee.builtin Builtin.len, args := #[Operand.tmp 92], argTypes := #[23] }, type := 3, pos := "ref.go:49", after := #[{ on := 12, ground := Ground.data }], guard := none } : Oper)) (v := ?_) rfl (by kernel_rfl) (by kernel_rfl) (by kernel_rfl) (fun _ _ _ h => h) (Or.inl ⟨by rfl, ?_⟩) (by assumption) ?_
                rotate_left 1
                · (intro w hSw; (try dsimp only at hSw); go_simp; (try with_reducible rfl))
                (try simp only [Act.put, List.setIfInBounds_toArray, List.set_cons_zero, List.set_cons_succ])
                refine wpAnyH_take (i := 14) (oi := ({ dst := some 94, op := Op.binOp BinOp.sub 3 (Operand.tmp 93) (Operand.const (Value.int IntKind.i64 1)) 3, type := 3, pos := "ref.go:49", after := #[{ on := 13, ground := Ground.data }], guard := none } : Oper)) (v := ?_) rfl (by kernel_rfl) (by kernel_rfl) (by kernel_rfl) (fun _ _ _ h => h) (Or.inl ⟨by rfl, ?_⟩) (by assumption) ?_
                rotate_left 1
                · (intro w hSw; (try dsimp only at hSw); go_simp; (try with_reducible rfl))
                (try simp only [Act.put, List.setIfInBounds_toArray, List.set_cons_zero, List.set_cons_succ])
                refine wpAnyH_take (i := 15) (oi := ({ dst := some 95, op := Op.slice 23 (Operand.tmp 91) (some (Operand.const (Value.int IntKind.i64 3))) (some (Operand.tmp 94)) none, type := 23, pos := "ref.go:49", after := #[{ on := 11, ground := Ground.data }, { on := 14, ground := Ground.data }], guard := none } : Oper)) (v := ?_) rfl (by kernel_rfl) (by kernel_rfl) (by kernel_rfl) (fun _ _ _ h => h) (Or.inl ⟨by rfl, ?_⟩) (by assumption) ?_
                rotate_left 1
                · (intro w hSw; (try dsimp only at hSw); go_simp; (try with_reducible rfl))
                (try simp only [Act.put, List.setIfInBounds_toArray, List.set_cons_zero, List.set_cons_succ])
                refine wpAnyH_take (i := 16) (oi := ({ dst := some 96, op := Op.build 29 #[(0, Operand.tmp 80), (1, Operand.tmp 90), (2, Operand.tmp 95)], type := 29, pos := "ref.go:49", after := #[{ on := 0, ground := Ground.data }, { on := 10, ground := Ground.data }, { on := 15, ground := Ground.data }], guard := none } : Oper)) (v := ?_) rfl (by kernel_rfl) (by kernel_rfl) (by kernel_rfl) (fun _ _ _ h => h) (Or.inl ⟨by rfl, ?_⟩) (by assumption) ?_
                rotate_left 1
                · (intro w hSw; (try dsimp only at hSw); go_simp; (try with_reducible rfl))
                (try simp only [Act.put, List.setIfInBounds_toArray, List.set_cons_zero, List.set_cons_succ])
                refine wpAnyH_ready (rs := [17]) (by kernel_rfl) (by simp) ?_
                refine AllReadyH.cons (o := ({ dst := none, op := Op.store 29 (Operand.tmp 2) (Operand.tmp 96), type := 0, pos := "ref.go:49", after := #[{ on := 16, ground := Ground.data }, { on := 0, ground := Ground.phase }, { on := 1, ground := Ground.phase }, { on := 2, ground := Ground.phase }, { on := 3, ground := Ground.phase }, { on := 4, ground := Ground.phase }, { on := 5, ground := Ground.phase }, { on := 6, ground := Ground.phase }, { on := 7, ground := Ground.phase }, { on := 8, ground := Ground.phase }, { on := 9, ground := Ground.phase }, { on := 10, ground := Ground.phase }, { on := 11, ground := Ground.phase }, { on := 12, ground := Ground.phase }, { on := 13, ground := Ground.phase }, { on := 14, ground := Ground.phase }, { on := 15, ground := Ground.phase }, { on := 16, ground := Ground.phase }], guard := none } : Oper)) rfl (fun K hK => ?_) ?_
                rotate_left 1
                · exact AllReadyH.nil
                go_simp
                first | (refine hK.out _ _ ?_ (fun hH1 => ?_)) | (go_wp2_with fail; refine hK.out _ _ ?_ (fun hH1 => ?_))
                · (try dsimp only); with_reducible first | exact S0.out | exact S1.out _ _ _
                clear hK K hH0
                (try simp only [Act.put, List.setIfInBounds_toArray, List.set_cons_zero, List.set_cons_succ])
                refine wpAnyH_take (i := 18) (oi := ({ dst := some 3, op := Op.assign (Operand.const (Value.int IntKind.i64 0)), type := 3, pos := "ref.go:49", after := #[{ on := 17, ground := Ground.chain }, { on := 0, ground := Ground.phase }, { on := 1, ground := Ground.phase }, { on := 2, ground := Ground.phase }, { on := 3, ground := Ground.phase }, { on := 4, ground := Ground.phase }, { on := 5, ground := Ground.phase }, { on := 6, ground := Ground.phase }, { on := 7, ground := Ground.phase }, { on := 8, ground := Ground.phase }, { on := 9, ground := Ground.phase }, { on := 10, ground := Ground.phase }, { on := 11, ground := Ground.phase }, { on := 12, ground := Ground.phase }, { on := 13, ground := Ground.phase }, { on := 14, ground := Ground.phase }, { on := 15, ground := Ground.phase }, { on := 16, ground := Ground.phase }, { on := 17, ground := Ground.phase }], guard := none } : Oper)) (v := ?_) rfl (by kernel_rfl) (by kernel_rfl) (by kernel_rfl) (fun _ _ _ h => h) (Or.inl ⟨by rfl, ?_⟩) (by assumption) ?_
                rotate_left 1
                · (intro w hSw; (try dsimp only at hSw); go_simp; (try with_reducible rfl))
                (try simp only [Act.put, List.setIfInBounds_toArray, List.set_cons_zero, List.set_cons_succ])
                refine wpAnyH_done (by kernel_rfl) ?_ _
                refine NoPanic.normal ?_
                exact ⟨rfl, rfl, rfl⟩
              go_wp2
              exact bodyPost_ret (v := .tuple #[.agg #[.int .i64 0, .int .u16 (256 * x1 + x2), .slice (some ⟨g, off + 3, none⟩) (n - 4) (c - 3)], .int .i64 0]) (resSe _ _ w.heap.size _ (Blk.drew (Z3.out _ _ _)) rfl rfl 0 rfl) rfl ⟨_, rfl, (HP6.out _ _ _).drew, Below.drew0 (Below.set0 (Below.set0 (Below.set0 B2.out (Nat.le_refl _) _) (Nat.le_refl _) _) (Nat.le_refl _) _)⟩
            · rw [if_pos hs5] at hR
              subst hR
              have hs5' : (m % 256 != 255) = true := by simp; exact hs5
              clear hs5 HR2 hjn'
              go_wp2
              exact bodyPost_ret (v := .tuple #[.agg #[.int .i64 0, .int .u16 0, .slice none 0 0], .int .i64 22]) (resSe _ _ w.heap.size _ (Z3.out _ _ _) rfl rfl 22 rfl) rfl ⟨.slice none 0 0, rfl, Els.Rd.nil_ _, Below.set0 (Below.set0 (Below.set0 B2.out (Nat.le_refl _) _) (Nat.le_refl _) _) (Nat.le_refl _) _⟩
      · have hR := HR.out
        rw [if_pos hq] at hR
        subst hR
        have hq' : (x0 + 1 != (n : Int)) = true := by simp; omega
        clear hq HR
        go_wp2
        exact bodyPost_ret (v := .tuple #[.agg #[.int .i64 0, .int .u16 0, .slice none 0 0], .int .i64 12]) (resSe _ _ w.heap.size _ (Z3.out _ _ _) rfl rfl 12 rfl) rfl ⟨.slice none 0 0, rfl, Els.Rd.nil_ _, Below.set0 (Below.set0 (Below.set0 B2.out (Nat.le_refl _) _) (Nat.le_refl _) _) (Nat.le_refl _) _⟩
  · have h21 : er = 21 := by rcases HEC.out with h | h; exact absurd h he0; exact h
    subst h21
    have hR := HRR.out
    rw [if_pos (.inl he0)] at hR
    subst hR
    clear he0
    go_wp2
    exact bodyPost_ret (v := .tuple #[.agg #[.int .i64 0, .int .u16 0, .slice none 0 0], .int .i64 21]) (resSe _ _ w.heap.size _ (Z3.out _ _ _) rfl rfl 21 rfl) rfl ⟨.slice none 0 0, rfl, Els.Rd.nil_ _, Below.set0 (Below.set0 (Below.set0 B2.out (Nat.le_refl _) _) (Nat.le_refl _) _) (Nat.le_refl _) _⟩
set_option maxRecDepth 100000 in
set_option maxHeartbeats 4000000 in
theorem seRead1_any (s : ByteArray) (w : World) (hs : s.size ≤ 1099511627) (h2 : 2 ≤ s.size) (hx : iat (nums s) 0 = 83) (hy : iat (nums s) 1 = 48 + 1) :
    Calls Try.prog 8 #[.string s] w (SrPost w (rdLn (nums s))) := by
  have HL := Lib.hid (nums_len s)
  have hb := get_nums s
  have hsk : srK (nums s) = 1 := srK_of (nums s) (by rw [HL.out]; omega) hx 1 (by decide) hy
  obtain ⟨R, hR⟩ : ∃ R, rdLn (nums s) = R := ⟨_, rfl⟩
  have hRR := (rdLn_eq (nums s) 1 ((nums s).drop 2) (.inr ⟨by rw [hsk]; decide, hsk.symm, rfl⟩)).symm.trans hR
  rw [hR]
  have z0 := (Blk.new w 29 #[.int .i64 0, .int .u16 0, .slice none 0 0] (0, 0))
  have B0 := Lib.hid (Below.alloc0 (Below.refl w.heap.size w) (.cells #[.int .i64 0, .int .u16 0, .slice none 0 0] 29))
  have Z0 := Lib.hid z0
  have hbx : ∀ h : 0 < s.size, ((s[0]'h).toNat : Int) = 83 := fun h => by rw [hb 0 h, hx]
  have hby : ∀ h : 1 < s.size, ((s[1]'h).toNat : Int) = 48 + 1 := fun h => by rw [hb 1 h, hy]
  have h2' : (2 : Int) ≤ (s.size : Int) := by omega
  have hp0 : 0 < s.size := by omega
  have hp1 : 1 < s.size := by omega
  have hd2 : nums (strOfNums ((nums s).drop 2)) = (nums s).drop 2 := str_nums _ (fun x hx => nums_range s x (List.mem_of_mem_drop hx))
  have CU := Lib.hid (fun u => refUnpair_any (strOfNums ((nums s).drop 2)) u (by rw [← nums_len, hd2, List.length_drop, HL.out]; omega))
  rw [hd2] at CU
  have E2 := ext_dropP s 2
  have HEC := Lib.hid (upE_cases ((nums s).drop 2))
  have HBY := Lib.hid (upV_byt ((nums s).drop 2))
  have HLB : Hid ((upV ((nums s).drop 2)).length ≤ 1099511627) := Lib.hid (by
    have := upV_len ((nums s).drop 2)
    rw [List.length_drop, HL.out] at this; omega)
  obtain ⟨b, hbb⟩ : ∃ b, upV ((nums s).drop 2) = b := ⟨_, rfl⟩
  obtain ⟨er, her⟩ : ∃ er, upE ((nums s).drop 2) = er := ⟨_, rfl⟩
  rw [hbb, her] at CU hRR
  rw [her] at HEC
  rw [hbb] at HBY HLB
  have HRR := Lib.hid hRR
  obtain ⟨S1, hS1⟩ : ∃ S, strOfNums ((nums s).drop 2) = S := ⟨_, rfl⟩
  rw [hS1] at CU E2
  clear z0 hR hRR hsk hb hx hy hd2 hbb her hS1 h2
  go_enter Try.func8, Try.ntmps8
  go_wp2_with fail
  clear hbx hby
  refine (CU.out _).mono ?_
  rintro e w2 ⟨v, rfl, ho, hb⟩
  have Z2 := Lib.hid (Blk.below Z0.out hb (by simp))
  have B2 := Lib.hid (Below.trans0 B0.out hb)
  have HO := Lib.hid (own_eY ho).rd
  have HCP := Lib.hid (own_capY ho)
  have HOL := Lib.hid (fun g off n c (e : v = .slice (some ⟨g, off, none⟩) n c) => (ho.lt g (by rw [e]; rfl)).1)
  clear ho hb CU E2
  have c0 := Z2.out.c3.1
  have c1 := Z2.out.c3.2.1
  have c2 := Z2.out.c3.2.2
  have f0 := Z2.out.frozen 0
  have f1 := Z2.out.frozen 1
  have f2 := Z2.out.frozen 2
  have Z3 := Lib.hid (fun x y z => Blk.set3 (x0 := x) (x1 := y) (x2 := z) Z2.out)
  obtain ⟨A, c, rfl, hcell⟩ := rdY_open HO.out
  have HC := Lib.hid hcell
  obtain ⟨n, hn⟩ : ∃ n, b.length = n := ⟨_, rfl⟩
  have HN := Lib.hid hn
  rw [hn] at HRR ⊢
  clear hcell hn
  by_cases he0 : er = 0
  · subst he0
    by_cases hn4 : n < 4
    · have hR := HRR.out
      rw [if_pos (.inr hn4)] at hR
      subst hR
      have hn4' : (n : Int) < 4 := by omega
      clear hn4
      go_wp2
      exact bodyPost_ret (v := .tuple #[.agg #[.int .i64 0, .int .u16 0, .slice none 0 0], .int .i64 21]) (resSe _ _ w.heap.size _ (Z3.out _ _ _) rfl rfl 21 rfl) rfl ⟨.slice none 0 0, rfl, Els.Rd.nil_ _, Below.set0 (Below.set0 (Below.set0 B2.out (Nat.le_refl _) _) (Nat.le_refl _) _) (Nat.le_refl _) _⟩
    · have hn4' : ¬ (n : Int) < 4 := by omega
      have hR := HRR.out
      rw [if_neg (by simp; omega)] at hR
      unfold rdB at hR
      rw [HN.out] at hR
      obtain ⟨g, off, rfl, hg, hc⟩ := HC.out (by rw [HN.out]; omega)
      have hc0 := hc 0 (by rw [HN.out]; omega)
      have hc1 := hc 1 (by rw [HN.out]; omega)
      have hc2 := hc 2 (by rw [HN.out]; omega)
      rw [Nat.add_zero] at hc0
      obtain ⟨p0, p1⟩ := HBY.out.at_ 0
      obtain ⟨p2, p3⟩ := HBY.out.at_ 1
      obtain ⟨p4, p5⟩ := HBY.out.at_ 2
      obtain ⟨x0, hx0⟩ : ∃ x, iat b 0 = x := ⟨_, rfl⟩
      obtain ⟨x1, hx1⟩ : ∃ x, iat b 1 = x := ⟨_, rfl⟩
      obtain ⟨x2, hx2⟩ : ∃ x, iat b 2 = x := ⟨_, rfl⟩
      rw [hx0] at hc0 p0 p1 hR
      rw [hx1] at hc1 p2 p3 hR
      rw [hx2] at hc2 p4 p5 hR
      have HR := Lib.hid hR
      have HCA := Lib.hid hc
      have HPT := Lib.hid (rdY_part (a := 3) (b := n - 1) (m := n - 4) (c' := c - 3) HO.out (by rw [HN.out]; omega) (by omega))
      have hn0 : 3 < n := by omega
      have HGN : Hid (g ≠ w.heap.size) := Lib.hid (by have h1 := HOL.out g off _ c rfl; simp at h1; omega)
      have hnc : n ≤ c := HCP.out _ _ _ (by first | rfl | rw [HN.out])
      have hnB : n ≤ 1099511627 := by have := HLB.out; rw [HN.out] at this; exact this
      clear hc hx0 hx1 hx2 hR hg hn4
      by_cases hq : x0 + 1 = (n : Int)
      · have hR := HR.out
        rw [if_neg (by omega)] at hR
        have HR2 := Lib.hid hR
        have hq' : (x0 + 1 != (n : Int)) = false := by simp; omega
        have hn256 : n ≤ 256 := by omega
        clear hq hR HR
        have HS1 := Lib.hid hc1
        have HS2 := Lib.hid hc2
        have HF0 := Lib.hid (And.intro c0 (And.intro c1 (And.intro c2 (And.intro f0 (And.intro f1 f2)))))
        go_wp2
        clear hc0 hc1 hc2 c0 c1 c2 f0 f1 f2 hq'
        go_loop [7, 8] (fun t i => ∃ (j : Nat) (m : Int), j ≤ n ∧ i = .int .i64 j ∧ t = .int .i64 m ∧ 0 ≤ m ∧ m ≤ 255 * (j : Int) ∧ Hid (m % 256 = sumAll (b.take j))) (fun _ i => n - (intOf i).toNat)
        case atStart => exact ⟨0, 0, Nat.zero_le _, rfl, rfl, by omega, by omega, Lib.hid rfl⟩
        case round =>
          obtain ⟨j, m, hj, rfl, rfl, m0, m1, hm⟩ := hrel
          by_cases hjn : j < n
          · have hcj := HCA.out j (by rw [HN.out]; exact hjn)
            obtain ⟨q0, q1⟩ := HBY.out.at_ j
            have HST := Lib.hid (sum_step b j (by rw [HN.out]; exact hjn) m hm.out)
            obtain ⟨xj, hxj⟩ : ∃ x, iat b j = x := ⟨_, rfl⟩
            rw [hxj] at hcj q0 q1 HST
            clear hxj
            go_wp2
            go_round
            case rel => exact ⟨j + 1, m + xj, by omega, by go_num, by go_num, by omega, by omega, HST⟩
            case measure => simp [intOf]; omega
          · have hjn' : j = n := by omega
            have HSM : Hid (m % 256 = sumAll b) := Lib.hid (by
              have := hm.out
              rwa [List.take_of_length_le (by rw [HN.out]; omega)] at this)
            obtain ⟨c0, c1, c2, f0, f1, f2⟩ := HF0.out
            have hR := HR2.out
            rw [← HSM.out] at hR
            have htm : Int.tmod m 256 = m % 256 := Int.tmod_eq_emod_of_nonneg m0
            by_cases hs5 : m % 256 = 255
            · rw [if_neg (by omega)] at hR
              have HR3 := Lib.hid hR
              have hs5' : (m % 256 != 255) = false := by simp; exact hs5
              clear hR HR2 hs5 hjn'
              by_cases h9 : ((1 : Int) = 9 ∧ 4 < n)
              first
                | exact absurd h9.1 (by decide)
                | (have hR := HR3.out
                   first | rw [if_pos h9] at hR | rw [if_pos ⟨trivial, h9.2⟩] at hR
                   subst hR
                   have h4 : (4 : Int) < (n : Int) := by omega
                   clear h9
                   go_wp2
                   exact bodyPost_ret (v := .tuple #[.agg #[.int .i64 0, .int .u16 0, .slice none 0 0], .int .i64 21]) (resSe _ _ w.heap.size _ (Z3.out _ _ _) rfl rfl 21 rfl) rfl ⟨.slice none 0 0, rfl, Els.Rd.nil_ _, Below.set0 (Below.set0 (Below.set0 B2.out (Nat.le_refl _) _) (Nat.le_refl _) _) (Nat.le_refl _) _⟩)
              have hR := HR3.out
              first | rw [if_neg h9] at hR | rw [if_neg (fun h => h9 ⟨rfl, h.2⟩)] at hR
              subst hR
              have h4 : (1 : Int) = 9 → ¬ (4 : Int) < (n : Int) := fun e h => h9 (by first | exact ⟨e, by omega⟩ | exact ⟨trivial, by omega⟩)
              simp at h4
              clear h9
              have hc1 := HS1.out
              have hc2 := HS2.out
              have S0 : Hid ((fun w' : World => (w'.cell? ⟨g, off + 1, none⟩ = some (.int .u8 x1) ∧ w'.cell? ⟨g, off + 2, none⟩ = some (.int .u8 x2))) w2.drew) := Lib.hid ⟨hc1, hc2⟩
              have n1 : (1 : Int) < (n : Int) := by omega
              have n2 : (2 : Int) < (n : Int) := by omega
              have wn : IntKind.i64.wrap ((n : Int) - 1) = (n : Int) - 1 := IntWalk.i64_in _ (by omega)
              have wa : IntKind.u16.wrap x1 = x1 := by rw [IntKind.wrap_u16]; omega
              have wb : IntKind.u16.wrap x2 = x2 := by rw [IntKind.wrap_u16]; omega
              have wc : IntKind.u16.wrap (x1 * 256) = x1 * 256 := by rw [IntKind.wrap_u16]; omega
              have wd : IntKind.u16.wrap (x1 * 256 + x2) = 256 * x1 + x2 := by rw [IntKind.wrap_u16]; omega
              have hsl : ∀ u : World, (Instr.slice 23 (.slice (some ⟨g, off, none⟩) n c) (some (.int .i64 3)) (some (.int .i64 ((n : Int) - 1))) none).run Try.prog u = .ok (.slice (some ⟨g, off + 3, none⟩) (n - 4) (c - 3)) u := fun u => by
                rw [slice_in u g off n c 3 (n - 1) (by omega) (by omega) (by omega) ((n : Int) - 1) (by omega) (3 : Int) rfl, show n - 1 - 3 = n - 4 by omega]
              have HP6 := Lib.hid (fun (x y z : Value) => rd_set3 (g' := w.heap.size) HPT.out HGN.out x y z)
              have S1 : Hid (∀ x y z, (fun w' : World => (w'.cell? ⟨g, off + 1, none⟩ = some (.int .u8 x1) ∧ w'.cell? ⟨g, off + 2, none⟩ = some (.int .u8 x2))) (((w2.setCell ⟨w.heap.size, 0, none⟩ x).setCell ⟨w.heap.size, 1, none⟩ y).setCell ⟨w.heap.size, 2, none⟩ z).drew) := Lib.hid (fun x y z => ⟨(cell_set3 HGN.out x y z).trans hc1, (cell_set3 HGN.out x y z).trans hc2⟩)
              go_upto_region 20 with (fail)
              refine once ?_
              apply Exists.intro
              apply Exists.intro
              apply And.intro
              · refine wp_region_noPanic ?_
                refine wp_region_held_drew (S := (fun w' : World => (w'.cell? ⟨g, off + 1, none⟩ = some (.int .u8 x1) ∧ w'.cell? ⟨g, off + 2, none⟩ = some (.int .u8 x2)))) (by kernel_rfl) ?_ (fun hH0 => ?_)
                · (try dsimp only); with_reducible exact S0.out
                refine wpAnyH_take (i := 0) (oi := ({ dst := some 80, op := Op.move (Operand.tmp 4), type := 3, pos := "ref.go:49", after := #[], guard := none } : Oper)) (v := ?_) rfl (by kernel_rfl) (by kernel_rfl) (by kernel_rfl) (fun _ _ _ h => h) (Or.inl ⟨by rfl, ?_⟩) (by assumption) ?_
                rotate_left 1
                · (intro w hSw; (try dsimp only at hSw); go_simp; (try with_reducible rfl))
                (try simp only [Act.put, List.setIfInBounds_toArray, List.set_cons_zero, List.set_cons_succ])
                refine wpAnyH_take (i := 1) (oi := ({ dst := some 81, op := Op.move (Operand.tmp 5), type := 23, pos := "ref.go:49", after := #[], guard := none } : Oper)) (v := ?_) rfl (by kernel_rfl) (by kernel_rfl) (by kernel_rfl) (fun _ _ _ h => h) (Or.inl ⟨by rfl, ?_⟩) (by assumption) ?_
                rotate_left 1
                · (intro w hSw; (try dsimp only at hSw); go_simp; (try with_reducible rfl))
                (try simp only [Act.put, List.setIfInBounds_toArray, List.set_cons_zero, List.set_cons_succ])
                refine wpAnyH_take (i := 2) (oi := ({ dst := some 82, op := Op.indexAddr 23 (Operand.tmp 81) (Operand.const (Value.int IntKind.i64 1)), type := 0, pos := "ref.go:49", after := #[{ on := 1, ground := Ground.data }], guard := none } : Oper)) (v := ?_) rfl (by kernel_rfl) (by kernel_rfl) (by kernel_rfl) (fun _ _ _ h => h) (Or.inl ⟨by rfl, ?_⟩) (by assumption) ?_
                rotate_left 1
                · (intro w hSw; (try dsimp only at hSw); go_simp; (try with_reducible rfl))
                (try simp only [Act.put, List.setIfInBounds_toArray, List.set_cons_zero, List.set_cons_succ])
                refine wpAnyH_take (i := 3) (oi := ({ dst := some 83, op := Op.load 5 (Operand.tmp 82), type := 5, pos := "ref.go:49", after := #[{ on := 2, ground := Ground.data }], guard := none } : Oper)) (v := ?_) rfl (by kernel_rfl) (by kernel_rfl) (by kernel_rfl) (fun _ _ _ h => h) (Or.inl ⟨by rfl, ?_⟩) (by assumption) ?_
                rotate_left 1
                · (intro w hSw; (try dsimp only at hSw); go_simp; (try with_reducible rfl))
                (try simp only [Act.put, List.setIfInBounds_toArray, List.set_cons_zero, List.set_cons_succ])
                refine wpAnyH_take (i := 4) (oi := ({ dst := some 84, op := Op.convert 5 22 (Operand.tmp 83), type := 22, pos := "ref.go:49", after := #[{ on := 3, ground := Ground.data }], guard := none } : Oper)) (v := ?_) rfl (by kernel_rfl) (by kernel_rfl) (by kernel_rfl) (fun _ _ _ h => h) (Or.inl ⟨by rfl, ?_⟩) (by assumption) ?_
                rotate_left 1
                · (intro w hSw; (try dsimp only at hSw); go_simp; (try with_reducible rfl))
                (try simp only [Act.put, List.setIfInBounds_toArray, List.set_cons_zero, List.set_cons_succ])
                refine wpAnyH_take (i := 5) (oi := ({ dst := some 85, op := Op.binOp BinOp.mul 22 (Operand.tmp 84) (Operand.const (Value.int IntKind.u16 256)) 22, type := 22, pos := "ref.go:49", after := #[{ on := 4, ground := Ground.data }], guard := none } : Oper)) (v := ?_) rfl (by kernel_rfl) (by kernel_rfl) (by kernel_rfl) (fun _ _ _ h => h) (Or.inl ⟨by rfl, ?_⟩) (by assumption) ?_
                rotate_left 1
                · (intro w hSw; (try dsimp only at hSw); go_simp; (try with_reducible rfl))
                (try simp only [Act.put, List.setIfInBounds_toArray, List.set_cons_zero, List.set_cons_succ])
                refine wpAnyH_take (i := 6) (oi := ({ dst := some 86, op := Op.move (Operand.tmp 5), type := 23, pos := "ref.go:49", after := #[], guard := none } : Oper)) (v := ?_) rfl (by kernel_rfl) (by kernel_rfl) (by kernel_rfl) (fun _ _ _ h => h) (Or.inl ⟨by rfl, ?_⟩) (by assumption) ?_
                rotate_left 1
                · (intro w hSw; (try dsimp only at hSw); go_simp; (try with_reducible rfl))
                (try simp only [Act.put, List.setIfInBounds_toArray, List.set_cons_zero, List.set_cons_succ])
                refine wpAnyH_take (i := 7) (oi := ({ dst := some 87, op := Op.indexAddr 23 (Operand.tmp 86) (Operand.const (Value.int IntKind.i64 2)), type := 0, pos := "ref.go:49", after := #[{ on := 6, ground := Ground.data }], guard := none } : Oper)) (v := ?_) rfl (by kernel_rfl) (by kernel_rfl) (by kernel_rfl) (fun _ _ _ h => h) (Or.inl ⟨by rfl, ?_⟩) (by assumption) ?_
                rotate_left 1
                · (intro w hSw; (try dsimp only at hSw); go_simp; (try with_reducible rfl))
                (try simp only [Act.put, List.setIfInBounds_toArray, List.set_cons_zero, List.set_cons_succ])
                refine wpAnyH_take (i := 8) (oi := ({ dst := some 88, op := Op.load 5 (Operand.tmp 87), type := 5, pos := "ref.go:49", after := #[{ on := 7, ground := Ground.data }], guard := none } : Oper)) (v := ?_) rfl (by kernel_rfl) (by kernel_rfl) (by kernel_rfl) (fun _ _ _ h => h) (Or.inl ⟨by rfl, ?_⟩) (by assumption) ?_
                rotate_left 1
                · (intro w hSw; (try dsimp only at hSw); go_simp; (try with_reducible rfl))
                (try simp only [Act.put, List.setIfInBounds_toArray, List.set_cons_zero, List.set_cons_succ])
                refine wpAnyH_take (i := 9) (oi := ({ dst := some 89, op := Op.convert 5 22 (Operand.tmp 88), type := 22, pos := "ref.go:49", after := #[{ on := 8, ground := Ground.data }], guard := none } : Oper)) (v := ?_) rfl (by kernel_rfl) (by kernel_rfl) (by kernel_rfl) (fun _ _ _ h => h) (Or.inl ⟨by rfl, ?_⟩) (by assumption) ?_
                rotate_left 1
                · (intro w hSw; (try dsimp only at hSw); go_simp; (try with_reducible rfl))
                (try simp only [Act.put, List.setIfInBounds_toArray, List.set_cons_zero, List.set_cons_succ])
                refine wpAnyH_take (i := 10) (oi := ({ dst := some 90, op := Op.binOp BinOp.add 22 (Operand.tmp 85) (Operand.tmp 89) 22, type := 22, pos := "ref.go:49", after := #[{ on := 5, ground := Ground.data }, { on := 9, ground := Ground.data }], guard := none } : Oper)) (v := ?_) rfl (by kernel_rfl) (by kernel_rfl) (by kernel_rfl) (fun _ _ _ h => h) (Or.inl ⟨by rfl, ?_⟩) (by assumption) ?_
                rotate_left 1
                · (intro w hSw; (try dsimp only at hSw); go_simp; (try with_reducible rfl))
                (try simp only [Act.put, List.setIfInBounds_toArray, List.set_cons_zero, List.set_cons_succ])
                refine wpAnyH_take (i := 11) (oi := ({ dst := some 91, op := Op.move (Operand.tmp 5), type := 23, pos := "ref.go:49", after := #[], guard := none } : Oper)) (v := ?_) rfl (by kernel_rfl) (by kernel_rfl) (by kernel_rfl) (fun _ _ _ h => h) (Or.inl ⟨by rfl, ?_⟩) (by assumption) ?_
                rotate_left 1
                · (intro w hSw; (try dsimp only at hSw); go_simp; (try with_reducible rfl))
                (try simp only [Act.put, List.setIfInBounds_toArray, List.set_cons_zero, List.set_cons_succ])
                refine wpAnyH_take (i := 12) (oi := ({ dst := some 92, op := Op.move (Operand.tmp 5), type := 23, pos := "ref.go:49", after := #[], guard := none } : Oper)) (v := ?_) rfl (by kernel_rfl) (by kernel_rfl) (by kernel_rfl) (fun _ _ _ h => h) (Or.inl ⟨by rfl, ?_⟩) (by assumption) ?_
                rotate_left 1
                · (intro w hSw; (try dsimp only at hSw); go_simp; (try with_reducible rfl))
                (try simp only [Act.put, List.setIfInBounds_toArray, List.set_cons_zero, List.set_cons_succ])
                refine wpAnyH_take (i := 13) (oi := ({ dst := some 93, op := Op.call { callee := Callee.builtin Builtin.len, args := #[Operand.tmp 92], argTypes := #[23] }, type := 3, pos := "ref.go:49", after := #[{ on := 12, ground := Ground.data }], guard := none } : Oper)) (v := ?_) rfl (by kernel_rfl) (by kernel_rfl) (by kernel_rfl) (fun _ _ _ h => h) (Or.inl ⟨by rfl, ?_⟩) (by assumption) ?_
                rotate_left 1
                · (intro w hSw; (try dsimp only at hSw); go_simp; (try with_reducible rfl))
                (try simp only [Act.put, List.setIfInBounds_toArray, List.set_cons_zero, List.set_cons_succ])
                refine wpAnyH_take (i := 14) (oi := ({ dst := some 94, op := Op.binOp BinOp.sub 3 (Operand.tmp 93) (Operand.const (Value.int IntKind.i64 1)) 3, type := 3, pos := "ref.go:49", after := #[{ on := 13, ground := Ground.data }], guard := none } : Oper)) (v := ?_) rfl (by kernel_rfl) (by kernel_rfl) (by kernel_rfl) (fun _ _ _ h => h) (Or.inl ⟨by rfl, ?_⟩) (by assumption) ?_
                rotate_left 1
                · (intro w hSw; (try dsimp only at hSw); go_simp; (try with_reducible rfl))
                (try simp only [Act.put, List.setIfInBounds_toArray, List.set_cons_zero, List.set_cons_succ])
                refine wpAnyH_take (i := 15) (oi := ({ dst := some 95, op := Op.slice 23 (Operand.tmp 91) (some (Operand.const (Value.int IntKind.i64 3))) (some (Operand.tmp 94)) none, type := 23, pos := "ref.go:49", after := #[{ on := 11, ground := Ground.data }, { on := 14, ground := Ground.data }], guard := none } : Oper)) (v := ?_) rfl (by kernel_rfl) (by kernel_rfl) (by kernel_rfl) (fun _ _ _ h => h) (Or.inl ⟨by rfl, ?_⟩) (by assumption) ?_
                rotate_left 1
                · (intro w hSw; (try dsimp only at hSw); go_simp; (try with_reducible rfl))
                (try simp only [Act.put, List.setIfInBounds_toArray, List.set_cons_zero, List.set_cons_succ])
                refine wpAnyH_take (i := 16) (oi := ({ dst := some 96, op := Op.build 29 #[(0, Operand.tmp 80), (1, Operand.tmp 90), (2, Operand.tmp 95)], type := 29, pos := "ref.go:49", after := #[{ on := 0, ground := Ground.data }, { on := 10, ground := Ground.data }, { on := 15, ground := Ground.data }], guard := none } : Oper)) (v := ?_) rfl (by kernel_rfl) (by kernel_rfl) (by kernel_rfl) (fun _ _ _ h => h) (Or.inl ⟨by rfl, ?_⟩) (by assumption) ?_
                rotate_left 1
                · (intro w hSw; (try dsimp only at hSw); go_simp; (try with_reducible rfl))
                (try simp only [Act.put, List.setIfInBounds_toArray, List.set_cons_zero, List.set_cons_succ])
                refine wpAnyH_ready (rs := [17]) (by kernel_rfl) (by simp) ?_
                refine AllReadyH.cons (o := ({ dst := none, op := Op.store 29 (Operand.tmp 2) (Operand.tmp 96), type := 0, pos := "ref.go:49", after := #[{ on := 16, ground := Ground.data }, { on := 0, ground := Ground.phase }, { on := 1, ground := Ground.phase }, { on := 2, ground := Ground.phase }, { on := 3, ground := Ground.phase }, { on := 4, ground := Ground.phase }, { on := 5, ground := Ground.phase }, { on := 6, ground := Ground.phase }, { on := 7, ground := Ground.phase }, { on := 8, ground := Ground.phase }, { on := 9, ground := Ground.phase }, { on := 10, ground := Ground.phase }, { on := 11, ground := Ground.phase }, { on := 12, ground := Ground.phase }, { on := 13, ground := Ground.phase }, { on := 14, ground := Ground.phase }, { on := 15, ground := Ground.phase }, { on := 16, ground := Ground.phase }], guard := none } : Oper)) rfl (fun K hK => ?_) ?_
                rotate_left 1
                · exact AllReadyH.nil
                go_simp
                first | (refine hK.out _ _ ?_ (fun hH1 => ?_)) | (go_wp2_with fail; refine hK.out _ _ ?_ (fun hH1 => ?_))
                · (try dsimp only); with_reducible first | exact S0.out | exact S1.out _ _ _
                clear hK K hH0
                (try simp only [Act.put, List.setIfInBounds_toArray, List.set_cons_zero, List.set_cons_succ])
                refine wpAnyH_take (i := 18) (oi := ({ dst := some 3, op := Op.assign (Operand.const (Value.int IntKind.i64 0)), type := 3, pos := "ref.go:49", after := #[{ on := 17, ground := Ground.chain }, { on := 0, ground := Ground.phase }, { on := 1, ground := Ground.phase }, { on := 2, ground := Ground.phase }, { on := 3, ground := Ground.phase }, { on := 4, ground := Ground.phase }, { on := 5, ground := Ground.phase }, { on := 6, ground := Ground.phase }, { on := 7, ground := Ground.phase }, { on := 8, ground := Ground.phase }, { on := 9, ground := Ground.phase }, { on := 10, ground := Ground.phase }, { on := 11, ground := Ground.phase }, { on := 12, ground := Ground.phase }, { on := 13, ground := Ground.phase }, { on := 14, ground := Ground.phase }, { on := 15, ground := Ground.phase }, { on := 16, ground := Ground.phase }, { on := 17, ground := Ground.phase }], guard := none } : Oper)) (v := ?_) rfl (by kernel_rfl) (by kernel_rfl) (by kernel_rfl) (fun _ _ _ h => h) (Or.inl ⟨by rfl, ?_⟩) (by assumption) ?_
                rotate_left 1
                · (intro w hSw; (try dsimp only at hSw); go_simp; (try with_reducible rfl))
                (try simp only [Act.put, List.setIfInBounds_toArray, List.set_cons_zero, List.set_cons_succ])
                refine wpAnyH_done (by kernel_rfl) ?_ _
                refine NoPanic.normal ?_
                exact ⟨rfl, rfl, rfl⟩
              go_wp2
              exact bodyPost_ret (v := .tuple #[.agg #[.int .i64 1, .int .u16 (256 * x1 + x2), .slice (some ⟨g, off + 3, none⟩) (n - 4) (c - 3)], .int .i64 0]) (resSe _ _ w.heap.size _ (Blk.drew (Z3.out _ _ _)) rfl rfl 0 rfl) rfl ⟨_, rfl, (HP6.out _ _ _).drew, Below.drew0 (Below.set0 (Below.set0 (Below.set0 B2.out (Nat.le_refl _) _) (Nat.le_refl _) _) (Nat.le_refl _) _)⟩
            · rw [if_pos hs5] at hR
              subst hR
              have hs5' : (m % 256 != 255) = true := by simp; exact hs5
              clear hs5 HR2 hjn'
              go_wp2
              exact bodyPost_ret (v := .tuple #[.agg #[.int .i64 0, .int .u16 0, .slice none 0 0], .int .i64 22]) (resSe _ _ w.heap.size _ (Z3.out _ _ _) rfl rfl 22 rfl) rfl ⟨.slice none 0 0, rfl, Els.Rd.nil_ _, Below.set0 (Below.set0 (Below.set0 B2.out (Nat.le_refl _) _) (Nat.le_refl _) _) (Nat.le_refl _) _⟩
      · have hR := HR.out
        rw [if_pos hq] at hR
        subst hR
        have hq' : (x0 + 1 != (n : Int)) = true := by simp; omega
        clear hq HR
        go_wp2
        exact bodyPost_ret (v := .tuple #[.agg #[.int .i64 0, .int .u16 0, .slice none 0 0], .int .i64 12]) (resSe _ _ w.heap.size _ (Z3.out _ _ _) rfl rfl 12 rfl) rfl ⟨.slice none 0 0, rfl, Els.Rd.nil_ _, Below.set0 (Below.set0 (Below.set0 B2.out (Nat.le_refl _) _) (Nat.le_refl _) _) (Nat.le_refl _) _⟩
  · have h21 : er = 21 := by rcases HEC.out with h | h; exact absurd h he0; exact h
    subst h21
    have hR := HRR.out
    rw [if_pos (.inl he0)] at hR
    subst hR
    clear he0
    go_wp2
    exact bodyPost_ret (v := .tuple #[.agg #[.int .i64 0, .int .u16 0, .slice none 0 0], .int .i64 21]) (resSe _ _ w.heap.size _ (Z3.out _ _ _) rfl rfl 21 rfl) rfl ⟨.slice none 0 0, rfl, Els.Rd.nil_ _, Below.set0 (Below.set0 (Below.set0 B2.out (Nat.le_refl _) _) (Nat.le_refl _) _) (Nat.le_refl _) _⟩
set_option maxRecDepth 100000 in
set_option maxHeartbeats 4000000 in
theorem seRead9_any (s : ByteArray) (w : World) (hs : s.size ≤ 1099511627) (h2 : 2 ≤ s.size) (hx : iat (nums s) 0 = 83) (hy : iat (nums s) 1 = 48 + 9) :
    Calls Try.prog 8 #[.string s] w (SrPost w (rdLn (nums s))) := by
  have HL := Lib.hid (nums_len s)
  have hb := get_nums s
  have hsk : srK (nums s) = 9 := srK_of (nums s) (by rw [HL.out]; omega) hx 9 (by decide) hy
  obtain ⟨R, hR⟩ : ∃ R, rdLn (nums s) = R := ⟨_, rfl⟩
  have hRR := (rdLn_eq (nums s) 9 ((nums s).drop 2) (.inr ⟨by rw [hsk]; decide, hsk.symm, rfl⟩)).symm.trans hR
  rw [hR]
  have z0 := (Blk.new w 29 #[.int .i64 0, .int .u16 0, .slice none 0 0] (0, 0))
  have B0 := Lib.hid (Below.alloc0 (Below.refl w.heap.size w) (.cells #[.int .i64 0, .int .u16 0, .slice none 0 0] 29))
  have Z0 := Lib.hid z0
  have hbx : ∀ h : 0 < s.size, ((s[0]'h).toNat : Int) = 83 := fun h => by rw [hb 0 h, hx]
  have hby : ∀ h : 1 < s.size, ((s[1]'h).toNat : Int) = 48 + 9 := fun h => by rw [hb 1 h, hy]
  have h2' : (2 : Int) ≤ (s.size : Int) := by omega
  have hp0 : 0 < s.size := by omega
  have hp1 : 1 < s.size := by omega
  have hd2 : nums (strOfNums ((nums s).drop 2)) = (nums s).drop 2 := str_nums _ (fun x hx => nums_range s x (List.mem_of_mem_drop hx))
  have CU := Lib.hid (fun u => refUnpair_any (strOfNums ((nums s).drop 2)) u (by rw [← nums_len, hd2, List.length_drop, HL.out]; omega))
  rw [hd2] at CU
  have E2 := ext_dropP s 2
  have HEC := Lib.hid (upE_cases ((nums s).drop 2))
  have HBY := Lib.hid (upV_byt ((nums s).drop 2))
  have HLB : Hid ((upV ((nums s).drop 2)).length ≤ 1099511627) := Lib.hid (by
    have := upV_len ((nums s).drop 2)
    rw [List.length_drop, HL.out] at this; omega)
  obtain ⟨b, hbb⟩ : ∃ b, upV ((nums s).drop 2) = b := ⟨_, rfl⟩
  obtain ⟨er, her⟩ : ∃ er, upE ((nums s).drop 2) = er := ⟨_, rfl⟩
  rw [hbb, her] at CU hRR
  rw [her] at HEC
  rw [hbb] at HBY HLB
  have HRR := Lib.hid hRR
  obtain ⟨S1, hS1⟩ : ∃ S, strOfNums ((nums s).drop 2) = S := ⟨_, rfl⟩
  rw [hS1] at CU E2
  clear z0 hR hRR hsk hb hx hy hd2 hbb her hS1 h2
  go_enter Try.func8, Try.ntmps8
  go_wp2_with fail
  clear hbx hby
  refine (CU.out _).mono ?_
  rintro e w2 ⟨v, rfl, ho, hb⟩
  have Z2 := Lib.hid (Blk.below Z0.out hb (by simp))
  have B2 := Lib.hid (Below.trans0 B0.out hb)
  have HO := Lib.hid (own_eY ho).rd
  have HCP := Lib.hid (own_capY ho)
  have HOL := Lib.hid (fun g off n c (e : v = .slice (some ⟨g, off, none⟩) n c) => (ho.lt g (by rw [e]; rfl)).1)
  clear ho hb CU E2
  have c0 := Z2.out.c3.1
  have c1 := Z2.out.c3.2.1
  have c2 := Z2.out.c3.2.2
  have f0 := Z2.out.frozen 0
  have f1 := Z2.out.frozen 1
  have f2 := Z2.out.frozen 2
  have Z3 := Lib.hid (fun x y z => Blk.set3 (x0 := x) (x1 := y) (x2 := z) Z2.out)
  obtain ⟨A, c, rfl, hcell⟩ := rdY_open HO.out
  have HC := Lib.hid hcell
  obtain ⟨n, hn⟩ : ∃ n, b.length = n := ⟨_, rfl⟩
  have HN := Lib.hid hn
  rw [hn] at HRR ⊢
  clear hcell hn
  by_cases he0 : er = 0
  · subst he0
    by_cases hn4 : n < 4
    · have hR := HRR.out
      rw [if_pos (.inr hn4)] at hR
      subst hR
      have hn4' : (n : Int) < 4 := by omega
      clear hn4
      go_wp2
      exact bodyPost_ret (v := .tuple #[.agg #[.int .i64 0, .int .u16 0, .slice none 0 0], .int .i64 21]) (resSe _ _ w.heap.size _ (Z3.out _ _ _) rfl rfl 21 rfl) rfl ⟨.slice none 0 0, rfl, Els.Rd.nil_ _, Below.set0 (Below.set0 (Below.set0 B2.out (Nat.le_refl _) _) (Nat.le_refl _) _) (Nat.le_refl _) _⟩
    · have hn4' : ¬ (n : Int) < 4 := by omega
      have hR := HRR.out
      rw [if_neg (by simp; omega)] at hR
      unfold rdB at hR
      rw [HN.out] at hR
      obtain ⟨g, off, rfl, hg, hc⟩ := HC.out (by rw [HN.out]; omega)
      have hc0 := hc 0 (by rw [HN.out]; omega)
      have hc1 := hc 1 (by rw [HN.out]; omega)
      have hc2 := hc 2 (by rw [HN.out]; omega)
      rw [Nat.add_zero] at hc0
      obtain ⟨p0, p1⟩ := HBY.out.at_ 0
      obtain ⟨p2, p3⟩ := HBY.out.at_ 1
      obtain ⟨p4, p5⟩ := HBY.out.at_ 2
      obtain ⟨x0, hx0⟩ : ∃ x, iat b 0 = x := ⟨_, rfl⟩
      obtain ⟨x1, hx1⟩ : ∃ x, iat b 1 = x := ⟨_, rfl⟩
      obtain ⟨x2, hx2⟩ : ∃ x, iat b 2 = x := ⟨_, rfl⟩
      rw [hx0] at hc0 p0 p1 hR
      rw [hx1] at hc1 p2 p3 hR
      rw [hx2] at hc2 p4 p5 hR
      have HR := Lib.hid hR
      have HCA := Lib.hid hc
      have HPT := Lib.hid (rdY_part (a := 3) (b := n - 1) (m := n - 4) (c' := c - 3) HO.out (by rw [HN.out]; omega) (by omega))
      have hn0 : 3 < n := by omega
      have HGN : Hid (g ≠ w.heap.size) := Lib.hid (by have h1 := HOL.out g off _ c rfl; simp at h1; omega)
      have hnc : n ≤ c := HCP.out _ _ _ (by first | rfl | rw [HN.out])
      have hnB : n ≤ 1099511627 := by have := HLB.out; rw [HN.out] at this; exact this
      clear hc hx0 hx1 hx2 hR hg hn4
      by_cases hq : x0 + 1 = (n : Int)
      · have hR := HR.out
        rw [if_neg (by omega)] at hR
        have HR2 := Lib.hid hR
        have hq' : (x0 + 1 != (n : Int)) = false := by simp; omega
        have hn256 : n ≤ 256 := by omega
        clear hq hR HR
        have HS1 := Lib.hid hc1
        have HS2 := Lib.hid hc2
        have HF0 := Lib.hid (And.intro c0 (And.intro c1 (And.intro c2 (And.intro f0 (And.intro f1 f2)))))
        go_wp2
        clear hc0 hc1 hc2 c0 c1 c2 f0 f1 f2 hq'
        go_loop [7, 8] (fun t i => ∃ (j : Nat) (m : Int), j ≤ n ∧ i = .int .i64 j ∧ t = .int .i64 m ∧ 0 ≤ m ∧ m ≤ 255 * (j : Int) ∧ Hid (m % 256 = sumAll (b.take j))) (fun _ i => n - (intOf i).toNat)
        case atStart => exact ⟨0, 0, Nat.zero_le _, rfl, rfl, by omega, by omega, Lib.hid rfl⟩
        case round =>
          obtain ⟨j, m, hj, rfl, rfl, m0, m1, hm⟩ := hrel
          by_cases hjn : j < n
          · have hcj := HCA.out j (by rw [HN.out]; exact hjn)
            obtain ⟨q0, q1⟩ := HBY.out.at_ j
            have HST := Lib.hid (sum_step b j (by rw [HN.out]; exact hjn) m hm.out)
            obtain ⟨xj, hxj⟩ : ∃ x, iat b j = x := ⟨_, rfl⟩
            rw [hxj] at hcj q0 q1 HST
            clear hxj
            go_wp2
            go_round
            case rel => exact ⟨j + 1, m + xj, by omega, by go_num, by go_num, by omega, by omega, HST⟩
            case measure => simp [intOf]; omega
          · have hjn' : j = n := by omega
            have HSM : Hid (m % 256 = sumAll b) := Lib.hid (by
              have := hm.out
              rwa [List.take_of_length_le (by rw [HN.out]; omega)] at this)
            obtain ⟨c0, c1, c2, f0, f1, f2⟩ := HF0.out
            have hR := HR2.out
            rw [← HSM.out] at hR
            have htm : Int.tmod m 256 = m % 256 := Int.tmod_eq_emod_of_nonneg m0
            by_cases hs5 : m % 256 = 255
            · rw [if_neg (by omega)] at hR
              have HR3 := Lib.hid hR
              have hs5' : (m % 256 != 255) = false := by simp; exact hs5
              clear hR HR2 hs5 hjn'
              by_cases h9 : ((9 : Int) = 9 ∧ 4 < n)
              first
                | exact absurd h9.1 (by decide)
                | (have hR := HR3.out
                   first | rw [if_pos h9] at hR | rw [if_pos ⟨trivial, h9.2⟩] at hR
                   subst hR
                   have h4 : (4 : Int) < (n : Int) := by omega
                   clear h9
                   go_wp2
                   exact bodyPost_ret (v := .tuple #[.agg #[.int .i64 0, .int .u16 0, .slice none 0 0], .int .i64 21]) (resSe _ _ w.heap.size _ (Z3.out _ _ _) rfl rfl 21 rfl) rfl ⟨.slice none 0 0, rfl, Els.Rd.nil_ _, Below.set0 (Below.set0 (Below.set0 B2.out (Nat.le_refl _) _) (Nat.le_refl _) _) (Nat.le_refl _) _⟩)
              have hR := HR3.out
              first | rw [if_neg h9] at hR | rw [if_neg (fun h => h9 ⟨rfl, h.2⟩)] at hR
              subst hR
              have h4 : (9 : Int) = 9 → ¬ (4 : Int) < (n : Int) := fun e h => h9 (by first | exact ⟨e, by omega⟩ | exact ⟨trivial, by omega⟩)
              simp at h4
              clear h9
              have hc1 := HS1.out
              have hc2 := HS2.out
              have S0 : Hid ((fun w' : World => (w'.cell? ⟨g, off + 1, none⟩ = some (.int .u8 x1) ∧ w'.cell? ⟨g, off + 2, none⟩ = some (.int .u8 x2))) w2.drew) := Lib.hid ⟨hc1, hc2⟩
              have n1 : (1 : Int) < (n : Int) := by omega
              have n2 : (2 : Int) < (n : Int) := by omega
              have wn : IntKind.i64.wrap ((n : Int) - 1) = (n : Int) - 1 := IntWalk.i64_in _ (by omega)
              have wa : IntKind.u16.wrap x1 = x1 := by rw [IntKind.wrap_u16]; omega
              have wb : IntKind.u16.wrap x2 = x2 := by rw [IntKind.wrap_u16]; omega
              have wc : IntKind.u16.wrap (x1 * 256) = x1 * 256 := by rw [IntKind.wrap_u16]; omega
              have wd : IntKind.u16.wrap (x1 * 256 + x2) = 256 * x1 + x2 := by rw [IntKind.wrap_u16]; omega
              have hsl : ∀ u : World, (Instr.slice 23 (.slice (some ⟨g, off, none⟩) n c) (some (.int .i64 3)) (some (.int .i64 ((n : Int) - 1))) none).run Try.prog u = .ok (.slice (some ⟨g, off + 3, none⟩) (n - 4) (c - 3)) u := fun u => by
                rw [slice_in u g off n c 3 (n - 1) (by omega) (by omega) (by omega) ((n : Int) - 1) (by omega) (3 : Int) rfl, show n - 1 - 3 = n - 4 by omega]
              have HP6 := Lib.hid (fun (x y z : Value) => rd_set3 (g' := w.heap.size) HPT.out HGN.out x y z)
              have S1 : Hid (∀ x y z, (fun w' : World => (w'.cell? ⟨g, off + 1, none⟩ = some (.int .u8 x1) ∧ w'.cell? ⟨g, off + 2, none⟩ = some (.int .u8 x2))) (((w2.setCell ⟨w.heap.size, 0, none⟩ x).setCell ⟨w.heap.size, 1, none⟩ y).setCell ⟨w.heap.size, 2, none⟩ z).drew) := Lib.hid (fun x y z => ⟨(cell_set3 HGN.out x y z).trans hc1, (cell_set3 HGN.out x y z).trans hc2⟩)
              go_upto_region 20 with (fail)
              refine once ?_
              apply Exists.intro
              apply Exists.intro
              apply And.intro
              · refine wp_region_noPanic ?_
                refine wp_region_held_drew (S := (fun w' : World => (w'.cell? ⟨g, off + 1, none⟩ = some (.int .u8 x1) ∧ w'.cell? ⟨g, off + 2, none⟩ = some (.int .u8 x2)))) (by kernel_rfl) ?_ (fun hH0 => ?_)
                · (try dsimp only); with_reducible exact S0.out
                refine wpAnyH_take (i := 0) (oi := ({ dst := some 80, op := Op.move (Operand.tmp 4), type := 3, pos := "ref.go:49", after := #[], guard := none } : Oper)) (v := ?_) rfl (by kernel_rfl) (by kernel_rfl) (by kernel_rfl) (fun _ _ _ h => h) (Or.inl ⟨by rfl, ?_⟩) (by assumption) ?_
                rotate_left 1
                · (intro w hSw; (try dsimp only at hSw); go_simp; (try with_reducible rfl))
                (try simp only [Act.put, List.setIfInBounds_toArray, List.set_cons_zero, List.set_cons_succ])
                refine wpAnyH_take (i := 1) (oi := ({ dst := some 81, op := Op.move (Operand.tmp 5), type := 23, pos := "ref.go:49", after := #[], guard := none } : Oper)) (v := ?_) rfl (by kernel_rfl) (by kernel_rfl) (by kernel_rfl) (fun _ _ _ h => h) (Or.inl ⟨by rfl, ?_⟩) (by assumption) ?_
                rotate_left 1
                · (intro w hSw; (try dsimp only at hSw); go_simp; (try with_reducible rfl))
                (try simp only [Act.put, List.setIfInBounds_toArray, List.set_cons_zero, List.set_cons_succ])
                refine wpAnyH_take (i := 2) (oi := ({ dst := some 82, op := Op.indexAddr 23 (Operand.tmp 81) (Operand.const (Value.int IntKind.i64 1)), type := 0, pos := "ref.go:49", after := #[{ on := 1, ground := Ground.data }], guard := none } : Oper)) (v := ?_) rfl (by kernel_rfl) (by kernel_rfl) (by kernel_rfl) (fun _ _ _ h => h) (Or.inl ⟨by rfl, ?_⟩) (by assumption) ?_
                rotate_left 1
                · (intro w hSw; (try dsimp only at hSw); go_simp; (try with_reducible rfl))
                (try simp only [Act.put, List.setIfInBounds_toArray, List.set_cons_zero, List.set_cons_succ])
                refine wpAnyH_take (i := 3) (oi := ({ dst := some 83, op := Op.load 5 (Operand.tmp 82), type := 5, pos := "ref.go:49", after := #[{ on := 2, ground := Ground.data }], guard := none } : Oper)) (v := ?_) rfl (by kernel_rfl) (by kernel_rfl) (by kernel_rfl) (fun _ _ _ h => h) (Or.inl ⟨by rfl, ?_⟩) (by assumption) ?_
                rotate_left 1
                · (intro w hSw; (try dsimp only at hSw); go_simp; (try with_reducible rfl))
                (try simp only [Act.put, List.setIfInBounds_toArray, List.set_cons_zero, List.set_cons_succ])
                refine wpAnyH_take (i := 4) (oi := ({ dst := some 84, op := Op.convert 5 22 (Operand.tmp 83), type := 22, pos := "ref.go:49", after := #[{ on := 3, ground := Ground.data }], guard := none } : Oper)) (v := ?_) rfl (by kernel_rfl) (by kernel_rfl) (by kernel_rfl) (fun _ _ _ h => h) (Or.inl ⟨by rfl, ?_⟩) (by assumption) ?_
                rotate_left 1
                · (intro w hSw; (try dsimp only at hSw); go_simp; (try with_reducible rfl))
                (try simp only [Act.put, List.setIfInBounds_toArray, List.set_cons_zero, List.set_cons_succ])
                refine wpAnyH_take (i := 5) (oi := ({ dst := some 85, op := Op.binOp BinOp.mul 22 (Operand.tmp 84) (Operand.const (Value.int IntKind.u16 256)) 22, type := 22, pos := "ref.go:49", after := #[{ on := 4, ground := Ground.data }], guard := none } : Oper)) (v := ?_) rfl (by kernel_rfl) (by kernel_rfl) (by kernel_rfl) (fun _ _ _ h => h) (Or.inl ⟨by rfl, ?_⟩) (by assumption) ?_
                rotate_left 1
                · (intro w hSw; (try dsimp only at hSw); go_simp; (try with_reducible rfl))
                (try simp only [Act.put, List.setIfInBounds_toArray, List.set_cons_zero, List.set_cons_succ])
                refine wpAnyH_take (i := 6) (oi := ({ dst := some 86, op := Op.move (Operand.tmp 5), type := 23, pos := "ref.go:49", after := #[], guard := none } : Oper)) (v := ?_) rfl (by kernel_rfl) (by kernel_rfl) (by kernel_rfl) (fun _ _ _ h => h) (Or.inl ⟨by rfl, ?_⟩) (by assumption) ?_
                rotate_left 1
                · (intro w hSw; (try dsimp only at hSw); go_simp; (try with_reducible rfl))
                (try simp only [Act.put, List.setIfInBounds_toArray, List.set_cons_zero, List.set_cons_succ])
                refine wpAnyH_take (i := 7) (oi := ({ dst := some 87, op := Op.indexAddr 23 (Operand.tmp 86) (Operand.const (Value.int IntKind.i64 2)), type := 0, pos := "ref.go:49", after := #[{ on := 6, ground := Ground.data }], guard := none } : Oper)) (v := ?_) rfl (by kernel_rfl) (by kernel_rfl) (by kernel_rfl) (fun _ _ _ h => h) (Or.inl ⟨by rfl, ?_⟩) (by assumption) ?_
                rotate_left 1
                · (intro w hSw; (try dsimp only at hSw); go_simp; (try with_reducible rfl))
                (try simp only [Act.put, List.setIfInBounds_toArray, List.set_cons_zero, List.set_cons_succ])
                refine wpAnyH_take (i := 8) (oi := ({ dst := some 88, op := Op.load 5 (Operand.tmp 87), type := 5, pos := "ref.go:49", after := #[{ on := 7, ground := Ground.data }], guard := none } : Oper)) (v := ?_) rfl (by kernel_rfl) (by kernel_rfl) (by kernel_rfl) (fun _ _ _ h => h) (Or.inl ⟨by rfl, ?_⟩) (by assumption) ?_
                rotate_left 1
                · (intro w hSw; (try dsimp only at hSw); go_simp; (try with_reducible rfl))
                (try simp only [Act.put, List.setIfInBounds_toArray, List.set_cons_zero, List.set_cons_succ])
                refine wpAnyH_take (i := 9) (oi := ({ dst := some 89, op := Op.convert 5 22 (Operand.tmp 88), type := 22, pos := "ref.go:49", after := #[{ on := 8, ground := Ground.data }], guard := none } : Oper)) (v := ?_) rfl (by kernel_rfl) (by kernel_rfl) (by kernel_rfl) (fun _ _ _ h => h) (Or.inl ⟨by rfl, ?_⟩) (by assumption) ?_
                rotate_left 1
                · (intro w hSw; (try dsimp only at hSw); go_simp; (try with_reducible rfl))
                (try simp only [Act.put, List.setIfInBounds_toArray, List.set_cons_zero, List.set_cons_succ])
                refine wpAnyH_take (i := 10) (oi := ({ dst := some 90, op := Op.binOp BinOp.add 22 (Operand.tmp 85) (Operand.tmp 89) 22, type := 22, pos := "ref.go:49", after := #[{ on := 5, ground := Ground.data }, { on := 9, ground := Ground.data }], guard := none } : Oper)) (v := ?_) rfl (by kernel_rfl) (by kernel_rfl) (by kernel_rfl) (fun _ _ _ h => h) (Or.inl ⟨by rfl, ?_⟩) (by assumption) ?_
                rotate_left 1
                · (intro w hSw; (try dsimp only at hSw); go_simp; (try with_reducible rfl))
                (try simp only [Act.put, List.setIfInBounds_toArray, List.set_cons_zero, List.set_cons_succ])
                refine wpAnyH_take (i := 11) (oi := ({ dst := some 91, op := Op.move (Operand.tmp 5), type := 23, pos := "ref.go:49", after := #[], guard := none } : Oper)) (v := ?_) rfl (by kernel_rfl) (by kernel_rfl) (by kernel_rfl) (fun _ _ _ h => h) (Or.inl ⟨by rfl, ?_⟩) (by assumption) ?_
                rotate_left 1
                · (intro w hSw; (try dsimp only at hSw); go_simp; (try with_reducible rfl))
                (try simp only [Act.put, List.setIfInBounds_toArray, List.set_cons_zero, List.set_cons_succ])
                refine wpAnyH_take (i := 12) (oi := ({ dst := some 92, op := Op.move (Operand.tmp 5), type := 23, pos := "ref.go:49", after := #[], guard := none } : Oper)) (v := ?_) rfl (by kernel_rfl) (by kernel_rfl) (by kernel_rfl) (fun _ _ _ h => h) (Or.inl ⟨by rfl, ?_⟩) (by assumption) ?_
                rotate_left 1
                · (intro w hSw; (try dsimp only at hSw); go_simp; (try with_reducible rfl))
                (try simp only [Act.put, List.setIfInBounds_toArray, List.set_cons_zero, List.set_cons_succ])
                refine wpAnyH_take (i := 13) (oi := ({ dst := some 93, op := Op.call { callee := Callee.builtin Builtin.len, args := #[Operand.tmp 92], argTypes := #[23] }, type := 3, pos := "ref.go:49", after := #[{ on := 12, ground := Ground.data }], guard := none } : Oper)) (v := ?_) rfl (by kernel_rfl) (by kernel_rfl) (by kernel_rfl) (fun _ _ _ h => h) (Or.inl ⟨by rfl, ?_⟩) (by assumption) ?_
                rotate_left 1
                · (intro w hSw; (try dsimp only at hSw); go_simp; (try with_reducible rfl))
                (try simp only [Act.put, List.setIfInBounds_toArray, List.set_cons_zero, List.set_cons_succ])
                refine wpAnyH_take (i := 14) (oi := ({ dst := some 94, op := Op.binOp BinOp.sub 3 (Operand.tmp 93) (Operand.const (Value.int IntKind.i64 1)) 3, type := 3, pos := "ref.go:49", after := #[{ on := 13, ground := Ground.data }], guard := none } : Oper)) (v := ?_) rfl (by kernel_rfl) (by kernel_rfl) (by kernel_rfl) (fun _ _ _ h => h) (Or.inl ⟨by rfl, ?_⟩) (by assumption) ?_
                rotate_left 1
                · (intro w hSw; (try dsimp only at hSw); go_simp; (try with_reducible rfl))
                (try simp only [Act.put, List.setIfInBounds_toArray, List.set_cons_zero, List.set_cons_succ])
                refine wpAnyH_take (i := 15) (oi := ({ dst := some 95, op := Op.slice 23 (Operand.tmp 91) (some (Operand.const (Value.int IntKind.i64 3))) (some (Operand.tmp 94)) none, type := 23, pos := "ref.go:49", after := #[{ on := 11, ground := Ground.data }, { on := 14, ground := Ground.data }], guard := none } : Oper)) (v := ?_) rfl (by kernel_rfl) (by kernel_rfl) (by kernel_rfl) (fun _ _ _ h => h) (Or.inl ⟨by rfl, ?_⟩) (by assumption) ?_
                rotate_left 1
                · (intro w hSw; (try dsimp only at hSw); go_simp; (try with_reducible rfl))
                (try simp only [Act.put, List.setIfInBounds_toArray, List.set_cons_zero, List.set_cons_succ])
                refine wpAnyH_take (i := 16) (oi := ({ dst := some 96, op := Op.build 29 #[(0, Operand.tmp 80), (1, Operand.tmp 90), (2, Operand.tmp 95)], type := 29, pos := "ref.go:49", after := #[{ on := 0, ground := Ground.data }, { on := 10, ground := Ground.data }, { on := 15, ground := Ground.data }], guard := none } : Oper)) (v := ?_) rfl (by kernel_rfl) (by kernel_rfl) (by kernel_rfl) (fun _ _ _ h => h) (Or.inl ⟨by rfl, ?_⟩) (by assumption) ?_
                rotate_left 1
                · (intro w hSw; (try dsimp only at hSw); go_simp; (try with_reducible rfl))
                (try simp only [Act.put, List.setIfInBounds_toArray, List.set_cons_zero, List.set_cons_succ])
                refine wpAnyH_ready (rs := [17]) (by kernel_rfl) (by simp) ?_
                refine AllReadyH.cons (o := ({ dst := none, op := Op.store 29 (Operand.tmp 2) (Operand.tmp 96), type := 0, pos := "ref.go:49", after := #[{ on := 16, ground := Ground.data }, { on := 0, ground := Ground.phase }, { on := 1, ground := Ground.phase }, { on := 2, ground := Ground.phase }, { on := 3, ground := Ground.phase }, { on := 4, ground := Ground.phase }, { on := 5, ground := Ground.phase }, { on := 6, ground := Ground.phase }, { on := 7, ground := Ground.phase }, { on := 8, ground := Ground.phase }, { on := 9, ground := Ground.phase }, { on := 10, ground := Ground.phase }, { on := 11, ground := Ground.phase }, { on := 12, ground := Ground.phase }, { on := 13, ground := Ground.phase }, { on := 14, ground := Ground.phase }, { on := 15, ground := Ground.phase }, { on := 16, ground := Ground.phase }], guard := none } : Oper)) rfl (fun K hK => ?_) ?_
                rotate_left 1
                · exact AllReadyH.nil
                go_simp
                first | (refine hK.out _ _ ?_ (fun hH1 => ?_)) | (go_wp2_with fail; refine hK.out _ _ ?_ (fun hH1 => ?_))
                · (try dsimp only); with_reducible first | exact S0.out | exact S1.out _ _ _
                clear hK K hH0
                (try simp only [Act.put, List.setIfInBounds_toArray, List.set_cons_zero, List.set_cons_succ])
                refine wpAnyH_take (i := 18) (oi := ({ dst := some 3, op := Op.assign (Operand.const (Value.int IntKind.i64 0)), type := 3, pos := "ref.go:49", after := #[{ on := 17, ground := Ground.chain }, { on := 0, ground := Ground.phase }, { on := 1, ground := Ground.phase }, { on := 2, ground := Ground.phase }, { on := 3, ground := Ground.phase }, { on := 4, ground := Ground.phase }, { on := 5, ground := Ground.phase }, { on := 6, ground := Ground.phase }, { on := 7, ground := Ground.phase }, { on := 8, ground := Ground.phase }, { on := 9, ground := Ground.phase }, { on := 10, ground := Ground.phase }, { on := 11, ground := Ground.phase }, { on := 12, ground := Ground.phase }, { on := 13, ground := Ground.phase }, { on := 14, ground := Ground.phase }, { on := 15, ground := Ground.phase }, { on := 16, ground := Ground.phase }, { on := 17, ground := Ground.phase }], guard := none } : Oper)) (v := ?_) rfl (by kernel_rfl) (by kernel_rfl) (by kernel_rfl) (fun _ _ _ h => h) (Or.inl ⟨by rfl, ?_⟩) (by assumption) ?_
                rotate_left 1
                · (intro w hSw; (try dsimp only at hSw); go_simp; (try with_reducible rfl))
                (try simp only [Act.put, List.setIfInBounds_toArray, List.set_cons_zero, List.set_cons_succ])
                refine wpAnyH_done (by kernel_rfl) ?_ _
                refine NoPanic.normal ?_
                exact ⟨rfl, rfl, rfl⟩
              go_wp2
              exact bodyPost_ret (v := .tuple #[.agg #[.int .i64 9, .int .u16 (256 * x1 + x2), .slice (some ⟨g, off + 3, none⟩) (n - 4) (c - 3)], .int .i64 0]) (resSe _ _ w.heap.size _ (Blk.drew (Z3.out _ _ _)) rfl rfl 0 rfl) rfl ⟨_, rfl, (HP6.out _ _ _).drew, Below.drew0 (Below.set0 (Below.set0 (Below.set0 B2.out (Nat.le_refl _) _) (Nat.le_refl _) _) (Nat.le_refl _) _)⟩
            · rw [if_pos hs5] at hR
              subst hR
              have hs5' : (m % 256 != 255) = true := by simp; exact hs5
              clear hs5 HR2 hjn'
              go_wp2
              exact bodyPost_ret (v := .tuple #[.agg #[.int .i64 0, .int .u16 0, .slice none 0 0], .int .i64 22]) (resSe _ _ w.heap.size _ (Z3.out _ _ _) rfl rfl 22 rfl) rfl ⟨.slice none 0 0, rfl, Els.Rd.nil_ _, Below.set0 (Below.set0 (Below.set0 B2.out (Nat.le_refl _) _) (Nat.le_refl _) _) (Nat.le_refl _) _⟩
      · have hR := HR.out
        rw [if_pos hq] at hR
        subst hR
        have hq' : (x0 + 1 != (n : Int)) = true := by simp; omega
        clear hq HR
        go_wp2
        exact bodyPost_ret (v := .tuple #[.agg #[.int .i64 0, .int .u16 0, .slice none 0 0], .int .i64 12]) (resSe _ _ w.heap.size _ (Z3.out _ _ _) rfl rfl 12 rfl) rfl ⟨.slice none 0 0, rfl, Els.Rd.nil_ _, Below.set0 (Below.set0 (Below.set0 B2.out (Nat.le_refl _) _) (Nat.le_refl _) _) (Nat.le_refl _) _⟩
  · have h21 : er = 21 := by rcases HEC.out with h | h; exact absurd h he0; exact h
    subst h21
    have hR := HRR.out
    rw [if_pos (.inl he0)] at hR
    subst hR
    clear he0
    go_wp2
    exact bodyPost_ret (v := .tuple #[.agg #[.int .i64 0, .int .u16 0, .slice none 0 0], .int .i64 21]) (resSe _ _ w.heap.size _ (Z3.out _ _ _) rfl rfl 21 rfl) rfl ⟨.slice none 0 0, rfl, Els.Rd.nil_ _, Below.set0 (Below.set0 (Below.set0 B2.out (Nat.le_refl _) _) (Nat.le_refl _) _) (Nat.le_refl _) _⟩
set_option maxRecDepth 100000 in
set_option maxHeartbeats 4000000 in
theorem seRead_any (s : ByteArray) (w : World) (hs : s.size ≤ 1099511627) :
    Calls Try.prog 8 #[.string s] w (SrPost w (rdLn (nums s))) := by
  have HL := Lib.hid (nums_len s)
  have hb := get_nums s
  obtain ⟨R, hR⟩ : ∃ R, rdLn (nums s) = R := ⟨_, rfl⟩
  have HRL := Lib.hid (fun K ys h => (rdLn_eq (nums s) K ys h).symm.trans hR)
  have HR0 : Hid (srK (nums s) < 0 → (⟨0, 0, [], 21⟩ : LnR) = R) := Lib.hid (fun h => by rw [← hR]; unfold rdLn; rw [if_pos h])
  have hRE := hR
  rw [hR]
  clear hR
  have z0 := (Blk.new w 29 #[.int .i64 0, .int .u16 0, .slice none 0 0] (0, 0))
  have B0 := Lib.hid (Below.alloc0 (Below.refl w.heap.size w) (.cells #[.int .i64 0, .int .u16 0, .slice none 0 0] 29))
  have Z0 := Lib.hid z0
  have c0 := z0.c3.1
  have c1 := z0.c3.2.1
  have c2 := z0.c3.2.2
  have f0 := z0.frozen 0
  have f1 := z0.frozen 1
  have f2 := z0.frozen 2
  clear z0
  obtain ⟨a0, a1⟩ := iat_nums_range s 0
  obtain ⟨a2, a3⟩ := iat_nums_range s 1
  have HSO := Lib.hid (srK_of (nums s))
  rw [HL.out] at HSO
  obtain ⟨x, hx⟩ : ∃ x, iat (nums s) 0 = x := ⟨_, rfl⟩
  obtain ⟨y, hy⟩ : ∃ y, iat (nums s) 1 = y := ⟨_, rfl⟩
  have hbx : ∀ h : 0 < s.size, ((s[0]'h).toNat : Int) = x := fun h => by rw [hb 0 h, hx]
  have hby : ∀ h : 1 < s.size, ((s[1]'h).toNat : Int) = y := fun h => by rw [hb 1 h, hy]
  have HSC := Lib.hid (srK_cases (nums s))
  rw [hx] at a0 a1 HSO HSC
  rw [hy] at a2 a3 HSO HSC
  rw [HL.out] at HSC
  have HXE := Lib.hid hx
  have HYE := Lib.hid hy
  have HRE := Lib.hid hRE
  clear hb hx hy hRE
  by_cases h2 : s.size < 2
  · have hn : srK (nums s) < 0 := by rcases HSC.out with h | h; omega; omega
    have hR := HR0.out hn
    subst hR
    have h2' : (s.size : Int) < 2 := by omega
    clear hbx hby hn HRL HR0 h2
    go_enter Try.func8, Try.ntmps8
    go_wp2
    exact bodyPost_ret (v := .tuple #[.agg #[.int .i64 0, .int .u16 0, .slice none 0 0], .int .i64 21]) (resSe _ _ w.heap.size _ Z0.out rfl rfl 21 rfl) rfl ⟨.slice none 0 0, rfl, Els.Rd.nil_ _, B0.out⟩
  have HK0 := Lib.hid (fun (e : iat (nums s) 0 = 83) (e2 : iat (nums s) 1 = 48) => seRead0_any s w hs (by omega) e e2)
  have HK1 := Lib.hid (fun (e : iat (nums s) 0 = 83) (e2 : iat (nums s) 1 = 49) => seRead1_any s w hs (by omega) e e2)
  have HK9 := Lib.hid (fun (e : iat (nums s) 0 = 83) (e2 : iat (nums s) 1 = 57) => seRead9_any s w hs (by omega) e e2)
  rw [HXE.out, HYE.out, HRE.out] at HK0 HK1 HK9
  have h2' : (2 : Int) ≤ (s.size : Int) := by omega
  have hp0 : 0 < s.size := by omega
  have hp1 : 1 < s.size := by omega
  by_cases h83 : x = 83
  · by_cases hk : y = 48 ∨ y = 49 ∨ y = 57
    · rcases hk with h | h | h
      · exact HK0.out h83 h
      · exact HK1.out h83 h
      · exact HK9.out h83 h
    · have hn : srK (nums s) < 0 := by rcases HSC.out with h | h; omega; omega
      have hR := HR0.out hn
      subst hR
      subst h83
      have b0 : (y - 48 != 0) = true := by simp; omega
      have b1 : (y - 48 != 1) = true := by simp; omega
      have b9 : (y - 48 != 9) = true := by simp; omega
      clear hn HRL HR0 hk
      go_enter Try.func8, Try.ntmps8
      go_wp2
      exact bodyPost_ret (v := .tuple #[.agg #[.int .i64 0, .int .u16 0, .slice none 0 0], .int .i64 21]) (resSe _ _ w.heap.size _ Z0.out rfl rfl 21 rfl) rfl ⟨.slice none 0 0, rfl, Els.Rd.nil_ _, B0.out⟩
  · have hn : srK (nums s) < 0 := by rcases HSC.out with h | h; omega; omega
    have hR := HR0.out hn
    subst hR
    have h83' : (x == 83) = false := by simp; exact h83
    clear hby hn HRL HR0 h83
    go_enter Try.func8, Try.ntmps8
    go_wp2
    exact bodyPost_ret (v := .tuple #[.agg #[.int .i64 0, .int .u16 0, .slice none 0 0], .int .i64 21]) (resSe _ _ w.heap.size _ Z0.out rfl rfl 21 rfl) rfl ⟨.slice none 0 0, rfl, Els.Rd.nil_ _, B0.out⟩
end Go.Proofs.Ytcddijenopijbaa
