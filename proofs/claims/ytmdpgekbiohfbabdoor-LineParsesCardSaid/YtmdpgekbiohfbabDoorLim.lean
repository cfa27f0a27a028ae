/- Contracts of package line: memory. -/
import Derived.Test.YtmdpgekbiohfbabDoorLii
import Derived.Test.YtmdpgekbiohfbabDoorShelf
import Derived.Deep.RegionHeld3
import Derived.Lib.LastIndexByte
namespace Go.Proofs.YtmdpgekbiohfbabDoor
open Go.ChangeShapes Go.WideShapes Go.ChangeAt Go.RowKit
set_option linter.unusedVariables false

def memL (s : ByteArray) (i : Bool) : AgV × Bool :=
  if 0 ≤ Lib.lastIndexByte s 44 then idxL ((nums s).take (Lib.lastIndexByte s 44).toNat) ((nums s).drop ((Lib.lastIndexByte s 44).toNat + 1)) i
  else if i = true then (if (sizL (nums s)).1 = 1 then (agZ, false) else (⟨3, (sizL (nums s)).1, (sizL (nums s)).2, 13, 0, 0, true⟩, true))
  else (⟨2, (sizL (nums s)).1, (sizL (nums s)).2, 0, 0, 0, false⟩, true)
theorem lastIdx_in (s : ByteArray) : Lib.lastIndexByte s 44 < s.size ∧ -1 ≤ Lib.lastIndexByte s 44 := by
  rcases Lib.lastIdx_spec s 44 s.size with ⟨h, _⟩ | ⟨i, h1, h2, _⟩
  · have : Lib.lastIndexByte s 44 = -1 := h
    omega
  · have : Lib.lastIndexByte s 44 = i := h2
    omega
theorem resMem (tmps : Array Value) (W : World) (g : Nat) (cs : Array Value) (h : Blk W g 42 cs) (hc : cs.size = 7) (h2 : tmps.getD 4 undef = .pointer (some ⟨g, 0, none⟩)) (c : Bool) (h3 : tmps.getD 5 undef = .bool c) :
    (results Tryd.f38 tmps).run Tryd.prog W = .ok (.tuple #[.agg cs, .bool c]) W := by
  have hi : (Tryd.prog.info? 42).map (·.size) = some cs.size := by rw [hc]; kernel_rfl
  have hld := run_loadVar_row (P := Tryd.prog) W g 42 42 cs (0, 0) _ h Tryd.underlying42 rfl hi
  have h2' : tmps[4]?.getD undef = .pointer (some ⟨g, 0, none⟩) := by simpa using h2
  have h3' : tmps[5]?.getD undef = .bool c := by simpa using h3
  simp [results, Tryd.results38, h2', h3', asAddr, hld]
set_option maxRecDepth 100000 in
set_option maxHeartbeats 4000000 in
theorem liMemory_any (s : ByteArray) (i : Bool) (w : World) (hT : OregAt w) (hs : s.size ≤ 1099511627776) :
    Calls Tryd.prog 38 #[.string s, .bool i] w fun e w' => e = .returned (.tuple #[.agg (memL s i).1.c, .bool (memL s i).2]) ∧ Below w.heap.size w w' := by
  have CL := Lib.hid (fun u => Tryd.strings_LastIndex_one s ⟨#[44]⟩ rfl (by omega) u)
  have HLI := Lib.hid (show (((⟨#[44]⟩ : ByteArray)[0]'(by decide)).toNat : Int) = 44 by decide)
  rw [HLI.out] at CL
  obtain ⟨R, hR⟩ : ∃ R, memL s i = R := ⟨_, rfl⟩
  have HE := Lib.hid hR
  rw [hR]
  unfold memL at HE
  have HIN := Lib.hid (lastIdx_in s)
  obtain ⟨lc, hlc⟩ : ∃ l, Lib.lastIndexByte s 44 = l := ⟨_, rfl⟩
  rw [hlc] at CL HE HIN
  have Z0 := Lib.hid (Blk.new w 42 #[.int .i64 0, .int .i64 0, .string ⟨#[]⟩, .int .i64 0, .int .i64 0, .int .u16 0, .bool false] (0, 0))
  have B0 := Lib.hid (Below.alloc0 (Below.refl w.heap.size w) (.cells #[.int .i64 0, .int .i64 0, .string ⟨#[]⟩, .int .i64 0, .int .i64 0, .int .u16 0, .bool false] 42))
  clear hR hlc HLI
  by_cases h0 : 0 ≤ lc
  · obtain ⟨n, rfl⟩ := Int.eq_ofNat_of_zero_le h0
    have hE := HE.out
    rw [if_pos h0] at hE
    have hn : n < s.size := by have := HIN.out; omega
    have e1 := ext_takeP s n
    have e2 := ext_dropP s (n + 1)
    have hd1 : nums (strOfNums ((nums s).take n)) = (nums s).take n := str_nums _ (fun x hx => nums_range s x (List.mem_of_mem_take hx))
    have hd2 : nums (strOfNums ((nums s).drop (n + 1))) = (nums s).drop (n + 1) := str_nums _ (fun x hx => nums_range s x (List.mem_of_mem_drop hx))
    have CI := Lib.hid (fun u (h : Below w.heap.size w u) => liIndexed_any (strOfNums ((nums s).take n)) (strOfNums ((nums s).drop (n + 1))) i u (hT.below h) (by rw [← nums_len, hd1, List.length_take, nums_len]; omega) (by rw [← nums_len, hd2, List.length_drop, nums_len]; omega))
    rw [hd1, hd2] at CI
    rw [show ((n : Int)).toNat = n by omega] at hE
    rw [hE] at CI
    obtain ⟨S1, hS1⟩ : ∃ S, strOfNums ((nums s).take n) = S := ⟨_, rfl⟩
    obtain ⟨S2, hS2⟩ : ∃ S, strOfNums ((nums s).drop (n + 1)) = S := ⟨_, rfl⟩
    rw [hS1] at CI e1
    rw [hS2] at CI e2
    have hsl1 : ∀ u : World, (Instr.slice 9 (.string s) none (some (.int .i64 (n : Int))) none).run Tryd.prog u = .ok (.string S1) u := fun u => by
      rw [run_slice_string_h u 9 s Tryd.underlying9 .i64 (n : Int) (by omega) (by omega), show ((n : Int)).toNat = n by omega, e1]
    have hsl2 : ∀ u : World, (Instr.slice 9 (.string s) (some (.int .i64 ((n : Int) + 1))) none none).run Tryd.prog u = .ok (.string S2) u := fun u => by
      rw [run_slice_string_l u 9 s Tryd.underlying9 .i64 ((n : Int) + 1) (by omega) (by omega), show ((n : Int) + 1).toNat = n + 1 by omega, e2]
    have wn : IntKind.i64.wrap ((n : Int) + 1) = (n : Int) + 1 := IntWalk.i64_in _ (by omega)
    obtain ⟨⟨rf, rs, rx, rk, rr, ro, ri⟩, rok⟩ := R
    unfold AgV.c at CI ⊢
    dsimp only at CI ⊢
    clear e1 e2 hd1 hd2 hS1 hS2 hE HE h0
    go_enter Tryd.func38, Tryd.ntmps38
    go_wp2_with fail
    refine (CL.out _).mono ?_
    rintro e w1 ⟨rfl, rfl⟩
    go_upto_region 3 with (fail)
    refine wp_region_noPanic ?_
    refine wp_region_held_drew (S := (fun _ => True)) (by kernel_rfl) ?_ (fun hH0 => ?_)
    · trivial
    refine wpAnyH_take (i := 0) (oi := ({ dst := some 14, op := Op.move (Operand.tmp 0), type := 9, pos := "line.go:76", after := #[], guard := none } : Oper)) (v := ?_) rfl (by kernel_rfl) (by kernel_rfl) (by kernel_rfl) (fun _ _ _ h => h) (Or.inl ⟨by rfl, ?_⟩) (by assumption) ?_
    rotate_left 1
    · (intro w hSw; (try dsimp only at hSw); go_simp; (try with_reducible rfl))
    (try simp only [Act.put, List.setIfInBounds_toArray, List.set_cons_zero, List.set_cons_succ])
    refine wpAnyH_take (i := 1) (oi := ({ dst := some 15, op := Op.move (Operand.tmp 6), type := 3, pos := "line.go:76", after := #[], guard := none } : Oper)) (v := ?_) rfl (by kernel_rfl) (by kernel_rfl) (by kernel_rfl) (fun _ _ _ h => h) (Or.inl ⟨by rfl, ?_⟩) (by assumption) ?_
    rotate_left 1
    · (intro w hSw; (try dsimp only at hSw); go_simp; (try with_reducible rfl))
    (try simp only [Act.put, List.setIfInBounds_toArray, List.set_cons_zero, List.set_cons_succ])
    refine wpAnyH_take (i := 2) (oi := ({ dst := some 16, op := Op.slice 9 (Operand.tmp 14) none (some (Operand.tmp 15)) none, type := 9, pos := "line.go:76", after := #[{ on := 0, ground := Ground.data }, { on := 1, ground := Ground.data }], guard := none } : Oper)) (v := ?_) rfl (by kernel_rfl) (by kernel_rfl) (by kernel_rfl) (fun _ _ _ h => h) (Or.inl ⟨by rfl, ?_⟩) (by assumption) ?_
    rotate_left 1
    · (intro w hSw; (try dsimp only at hSw); go_simp; (try with_reducible rfl))
    (try simp only [Act.put, List.setIfInBounds_toArray, List.set_cons_zero, List.set_cons_succ])
    refine wpAnyH_take (i := 3) (oi := ({ dst := some 17, op := Op.move (Operand.tmp 0), type := 9, pos := "line.go:76", after := #[], guard := none } : Oper)) (v := ?_) rfl (by kernel_rfl) (by kernel_rfl) (by kernel_rfl) (fun _ _ _ h => h) (Or.inl ⟨by rfl, ?_⟩) (by assumption) ?_
    rotate_left 1
    · (intro w hSw; (try dsimp only at hSw); go_simp; (try with_reducible rfl))
    (try simp only [Act.put, List.setIfInBounds_toArray, List.set_cons_zero, List.set_cons_succ])
    refine wpAnyH_take (i := 4) (oi := ({ dst := some 18, op := Op.move (Operand.tmp 6), type := 3, pos := "line.go:76", after := #[], guard := none } : Oper)) (v := ?_) rfl (by kernel_rfl) (by kernel_rfl) (by kernel_rfl) (fun _ _ _ h => h) (Or.inl ⟨by rfl, ?_⟩) (by assumption) ?_
    rotate_left 1
    · (intro w hSw; (try dsimp only at hSw); go_simp; (try with_reducible rfl))
    (try simp only [Act.put, List.setIfInBounds_toArray, List.set_cons_zero, List.set_cons_succ])
    refine wpAnyH_take (i := 5) (oi := ({ dst := some 19, op := Op.binOp BinOp.add 3 (Operand.tmp 18) (Operand.const (Value.int IntKind.i64 1)) 3, type := 3, pos := "line.go:76", after := #[{ on := 4, ground := Ground.data }], guard := none } : Oper)) (v := ?_) rfl (by kernel_rfl) (by kernel_rfl) (by kernel_rfl) (fun _ _ _ h => h) (Or.inl ⟨by rfl, ?_⟩) (by assumption) ?_
    rotate_left 1
    · (intro w hSw; (try dsimp only at hSw); go_simp; (try with_reducible rfl))
    (try simp only [Act.put, List.setIfInBounds_toArray, List.set_cons_zero, List.set_cons_succ])
    refine wpAnyH_take (i := 6) (oi := ({ dst := some 20, op := Op.slice 9 (Operand.tmp 17) (some (Operand.tmp 19)) none none, type := 9, pos := "line.go:76", after := #[{ on := 3, ground := Ground.data }, { on := 5, ground := Ground.data }], guard := none } : Oper)) (v := ?_) rfl (by kernel_rfl) (by kernel_rfl) (by kernel_rfl) (fun _ _ _ h => h) (Or.inl ⟨by rfl, ?_⟩) (by assumption) ?_
    rotate_left 1
    · (intro w hSw; (try dsimp only at hSw); go_simp; (try with_reducible rfl))
    (try simp only [Act.put, List.setIfInBounds_toArray, List.set_cons_zero, List.set_cons_succ])
    refine wpAnyH_take (i := 7) (oi := ({ dst := some 21, op := Op.move (Operand.tmp 1), type := 4, pos := "line.go:76", after := #[], guard := none } : Oper)) (v := ?_) rfl (by kernel_rfl) (by kernel_rfl) (by kernel_rfl) (fun _ _ _ h => h) (Or.inl ⟨by rfl, ?_⟩) (by assumption) ?_
    rotate_left 1
    · (intro w hSw; (try dsimp only at hSw); go_simp; (try with_reducible rfl))
    (try simp only [Act.put, List.setIfInBounds_toArray, List.set_cons_zero, List.set_cons_succ])
    refine wpAnyH_ready (rs := [8]) (by kernel_rfl) (by simp) ?_
    refine AllReadyH.cons (o := ({ dst := some 22, op := Op.call { callee := Callee.value (Operand.func 56), args := #[Operand.tmp 16, Operand.tmp 20, Operand.tmp 21], argTypes := #[9, 9, 4] }, type := 68, pos := "line.go:76", after := #[{ on := 2, ground := Ground.data }, { on := 6, ground := Ground.data }, { on := 7, ground := Ground.data }], guard := none } : Oper)) rfl (fun K hK => ?_) ?_
    rotate_left 1
    · exact AllReadyH.nil
    go_simp
    go_at_call 56
    ((with_reducible refine (CI.out _ (Below.drew0 B0.out)).mono ?_); rintro e v1 ⟨rfl, hb⟩; have ZZ := Lib.hid (Blk.below (Blk.drew Z0.out) hb (by show w.heap.size < (w.alloc _).heap.size; simp)); have BB := Lib.hid (Below.trans0 (Below.drew0 B0.out) hb); obtain ⟨c0, c1, c2, c3, c4, c5, c6⟩ := ZZ.out.c7; have f0 := ZZ.out.frozen 0; have f1 := ZZ.out.frozen 1; have f2 := ZZ.out.frozen 2; have f3 := ZZ.out.frozen 3; have f4 := ZZ.out.frozen 4; have f5 := ZZ.out.frozen 5; have f6 := ZZ.out.frozen 6; clear hb)
    first | (refine hK.out _ _ ?_ (fun hH1 => ?_)) | (go_wp2_with fail; refine hK.out _ _ ?_ (fun hH1 => ?_))
    · trivial
    clear hK K hH0
    (try simp only [Act.put, List.setIfInBounds_toArray, List.set_cons_zero, List.set_cons_succ])
    refine wpAnyH_take (i := 9) (oi := ({ dst := some 23, op := Op.extract (Operand.tmp 22) 0, type := 42, pos := "line.go:76", after := #[{ on := 8, ground := Ground.data }], guard := none } : Oper)) (v := ?_) rfl (by kernel_rfl) (by kernel_rfl) (by kernel_rfl) (fun _ _ _ h => h) (Or.inl ⟨by rfl, ?_⟩) (by assumption) ?_
    rotate_left 1
    · (intro w hSw; (try dsimp only at hSw); go_simp; (try with_reducible rfl))
    (try simp only [Act.put, List.setIfInBounds_toArray, List.set_cons_zero, List.set_cons_succ])
    refine wpAnyH_take (i := 10) (oi := ({ dst := some 24, op := Op.extract (Operand.tmp 22) 1, type := 4, pos := "line.go:76", after := #[{ on := 8, ground := Ground.data }], guard := none } : Oper)) (v := ?_) rfl (by kernel_rfl) (by kernel_rfl) (by kernel_rfl) (fun _ _ _ h => h) (Or.inl ⟨by rfl, ?_⟩) (by assumption) ?_
    rotate_left 1
    · (intro w hSw; (try dsimp only at hSw); go_simp; (try with_reducible rfl))
    (try simp only [Act.put, List.setIfInBounds_toArray, List.set_cons_zero, List.set_cons_succ])
    refine wpAnyH_ready (rs := [11]) (by kernel_rfl) (by simp) ?_
    refine AllReadyH.cons (o := ({ dst := none, op := Op.store 42 (Operand.tmp 4) (Operand.tmp 23), type := 0, pos := "line.go:76", after := #[{ on := 9, ground := Ground.data }, { on := 8, ground := Ground.chain }, { on := 0, ground := Ground.phase }, { on := 1, ground := Ground.phase }, { on := 2, ground := Ground.phase }, { on := 3, ground := Ground.phase }, { on := 4, ground := Ground.phase }, { on := 5, ground := Ground.phase }, { on := 6, ground := Ground.phase }, { on := 7, ground := Ground.phase }, { on := 8, ground := Ground.phase }, { on := 9, ground := Ground.phase }, { on := 10, ground := Ground.phase }], guard := none } : Oper)) rfl (fun K hK => ?_) ?_
    rotate_left 1
    · exact AllReadyH.nil
    go_simp
    first | (refine hK.out _ _ ?_ (fun hH2 => ?_)) | (go_wp2_with fail; refine hK.out _ _ ?_ (fun hH2 => ?_))
    · trivial
    clear hK K hH1
    (try simp only [Act.put, List.setIfInBounds_toArray, List.set_cons_zero, List.set_cons_succ])
    refine wpAnyH_take (i := 12) (oi := ({ dst := some 5, op := Op.assign (Operand.tmp 24), type := 4, pos := "line.go:76", after := #[{ on := 10, ground := Ground.data }, { on := 11, ground := Ground.chain }, { on := 0, ground := Ground.phase }, { on := 1, ground := Ground.phase }, { on := 2, ground := Ground.phase }, { on := 3, ground := Ground.phase }, { on := 4, ground := Ground.phase }, { on := 5, ground := Ground.phase }, { on := 6, ground := Ground.phase }, { on := 7, ground := Ground.phase }, { on := 8, ground := Ground.phase }, { on := 9, ground := Ground.phase }, { on := 10, ground := Ground.phase }, { on := 11, ground := Ground.phase }], guard := none } : Oper)) (v := ?_) rfl (by kernel_rfl) (by kernel_rfl) (by kernel_rfl) (fun _ _ _ h => h) (Or.inl ⟨by rfl, ?_⟩) (by assumption) ?_
    rotate_left 1
    · (intro w hSw; (try dsimp only at hSw); go_simp; (try with_reducible rfl))
    (try simp only [Act.put, List.setIfInBounds_toArray, List.set_cons_zero, List.set_cons_succ])
    refine wpAnyH_done (by kernel_rfl) ?_ _
    refine NoPanic.normal ?_
    clear CI CL HIN Z0 B0 hT hs hn hsl1 hsl2 wn
    go_wp2
    exact bodyPost_ret (v := .tuple #[.agg #[.int .i64 rf, .int .i64 rs, .string (strOfNums rx), .int .i64 rk, .int .i64 rr, .int .u16 ro, .bool ri], .bool rok]) (resMem _ _ w.heap.size _ (Blk.set7 ZZ.out) rfl rfl rok rfl) rfl ⟨rfl, Below.set7 BB.out (Nat.le_refl _) _ _ _ _ _ _ _⟩
  · have hE := HE.out
    rw [if_neg h0] at hE
    obtain rfl : lc = -1 := by have := HIN.out; omega
    have CZ := Lib.hid (fun u => liSized_any s u hs)
    obtain ⟨sz, hsz⟩ : ∃ s', (sizL (nums s)).1 = s' := ⟨_, rfl⟩
    obtain ⟨sx, hsx⟩ : ∃ x, (sizL (nums s)).2 = x := ⟨_, rfl⟩
    rw [hsz, hsx] at CZ hE
    clear hsz hsx HE h0 HIN hT hs
    cases i
    · rw [if_neg (by decide)] at hE
      subst hE
      unfold AgV.c
      dsimp only
      generalize strOfNums sx = X at CZ ⊢
      go_enter Tryd.func38, Tryd.ntmps38
      go_wp2_with fail
      refine (CL.out _).mono ?_
      rintro e w1 ⟨rfl, rfl⟩
      go_wp2_with (go_at_call 57; refine (CZ.out _).mono ?_; rintro e w' ⟨rfl, rfl⟩)
      exact bodyPost_ret (v := .tuple #[.agg #[.int .i64 2, .int .i64 sz, .string X, .int .i64 0, .int .i64 0, .int .u16 0, .bool false], .bool true]) (resMem _ _ w.heap.size _ (Blk.alloc (Blk.new _ _ _ _) _) rfl rfl true rfl) rfl ⟨rfl, Below.alloc0 (Below.alloc0 (Below.refl _ _) _) _⟩
    · rw [if_pos rfl] at hE
      by_cases h1 : sz = 1
      · rw [if_pos h1] at hE
        subst hE
        subst h1
        rw [agZ_c]
        generalize strOfNums sx = X at CZ
        go_enter Tryd.func38, Tryd.ntmps38
        go_wp2_with fail
        refine (CL.out _).mono ?_
        rintro e w1 ⟨rfl, rfl⟩
        go_wp2_with (go_at_call 57; refine (CZ.out _).mono ?_; rintro e w' ⟨rfl, rfl⟩)
        exact bodyPost_ret (v := .tuple #[.agg #[.int .i64 0, .int .i64 0, .string ⟨#[]⟩, .int .i64 0, .int .i64 0, .int .u16 0, .bool false], .bool false]) (resMem _ _ w.heap.size _ (Blk.alloc (Blk.new _ _ _ _) _) rfl rfl false rfl) rfl ⟨rfl, Below.alloc0 (Below.alloc0 (Below.refl _ _) _) _⟩
      · rw [if_neg h1] at hE
        subst hE
        have b1 : (sz == 1) = false := by simpa using h1
        clear h1
        unfold AgV.c
        dsimp only
        generalize strOfNums sx = X at CZ ⊢
        go_enter Tryd.func38, Tryd.ntmps38
        go_wp2_with fail
        refine (CL.out _).mono ?_
        rintro e w1 ⟨rfl, rfl⟩
        go_wp2_with (go_at_call 57; refine (CZ.out _).mono ?_; rintro e w' ⟨rfl, rfl⟩)
        exact bodyPost_ret (v := .tuple #[.agg #[.int .i64 3, .int .i64 sz, .string X, .int .i64 13, .int .i64 0, .int .u16 0, .bool true], .bool true]) (resMem _ _ w.heap.size _ (Blk.alloc (Blk.new _ _ _ _) _) rfl rfl true rfl) rfl ⟨rfl, Below.alloc0 (Below.alloc0 (Below.refl _ _) _) _⟩
end Go.Proofs.YtmdpgekbiohfbabDoor
