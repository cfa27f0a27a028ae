/- Records: contract of the law's own text. -/
import Derived.Test.YtfjkbjkbpbnalaaRcT
namespace Go.Proofs.Ytfjkbjkbpbnalaa
open Go.ChangeShapes Go.WideShapes Go.ChangeAt Go.RowKit
set_option linter.unusedVariables false

def ltN (k : Nat) : Int := ([65, 83, 76, 86, 66] : List Int).getD k 0
def rbt (x : Rc) (k : Nat) : Bool := if k = 0 then x.b1 else if k = 1 then x.b2 else if k = 2 then x.b3 else if k = 3 then x.b4 else x.b5
theorem slice_five (w : World) (k : Nat) (hk : k < 5) :
    (Instr.slice 9 (.string ⟨#[65, 83, 76, 86, 66]⟩) (some (.int .i64 (k : Int))) (some (.int .i64 ((k : Int) + 1))) none).run Try.prog w = .ok (.string (strOfNums [ltN k])) w := by
  rcases (show k = 0 ∨ k = 1 ∨ k = 2 ∨ k = 3 ∨ k = 4 by omega) with rfl | rfl | rfl | rfl | rfl
  all_goals kernel_rfl
theorem ln_next (x : Rc) (k : Nat) (hk : k < 5) : (lnL x 5).take (k + 1) = (lnL x 5).take k ++ [if rbt x k then ltN k else 45] := by
  rcases (show k = 0 ∨ k = 1 ∨ k = 2 ∨ k = 3 ∨ k = 4 by omega) with rfl | rfl | rfl | rfl | rfl
  · cases h : x.b1 <;> simp [lnL, rbt, ltN, h]
  · cases h : x.b2 <;> simp [lnL, rbt, ltN, h]
  · cases h : x.b3 <;> simp [lnL, rbt, ltN, h]
  · cases h : x.b4 <;> simp [lnL, rbt, ltN, h]
  · cases h : x.b5 <;> simp [lnL, rbt, ltN, h]
theorem tx_join2 (A D L : List Int) (p q : Int) : (((((strOfNums A ++ strOfNums [32]) ++ strOfNums D) ++ strOfNums [32]) ++ strOfNums [p, 32]) ++ strOfNums L) ++ strOfNums [32, q] = strOfNums (A ++ ([32] ++ (D ++ ([32] ++ ([p] ++ ([32] ++ (L ++ ([32] ++ [q])))))))) := by
  simp only [strOf_append, List.append_assoc]
  rfl
set_option maxRecDepth 100000 in
set_option maxHeartbeats 2000000 in
theorem rcRef_0 (x : Rc) (hx : x.Ok) (hr : x.r = false) (w : World) :
    Calls Try.prog 18 #[.agg x.cells] w fun e w' => e = .returned (.string (strOfNums (txN x))) ∧ Below w.heap.size w w' := by
  have P0 : Hid (Blk (w.alloc (Obj.cells x.cells 37)) w.heap.size 37 x.cells) := Lib.hid (Blk.new _ _ _ (0, 0))
  have B0 := Lib.hid (Below.alloc0 (Below.refl w.heap.size w) (Obj.cells x.cells 37))
  have CA0 := fun u => refDigits16_int x.a 4 4 u hx.a0 (by have := hx.a1; omega) (by decide) (by decide) rfl
  have CD0 := fun u => refDigits16_int x.d 2 2 u hx.d0 (by have := hx.d1; omega) (by decide) (by decide) rfl
  rw [(need4 x hx).2] at CD0
  have sz1 := adN_size x hx
  have sz2 := daN_size x
  obtain ⟨s1, h1⟩ : ∃ s, strOfNums (adN x) = s := ⟨_, rfl⟩
  obtain ⟨s2, h2⟩ : ∃ s, strOfNums (daN x) = s := ⟨_, rfl⟩
  rw [show strOfNums (written 16 x.a 4) = s1 from h1] at CA0
  rw [h2] at CD0
  rw [h1] at sz1
  rw [h2] at sz2
  have CA := Lib.hid CA0
  have CD := Lib.hid CD0
  have HT : Hid (∀ q : Int, (if x.m then 77 else 45) = q → strOfNums (txN x) = (((((s1 ++ strOfNums [32]) ++ s2) ++ strOfNums [32]) ++ strOfNums [87, 32]) ++ strOfNums (lnL x 5)) ++ strOfNums [32, q]) := Lib.hid (by
    intro q hq
    rw [← h1, ← h2, tx_join2]
    unfold txN
    rw [hr, hq]
    rfl)
  have ta : IntKind.u64.wrap x.a = x.a := by have a := hx.a0; have b := hx.a1; rw [IntKind.wrap_u64]; omega
  have td : IntKind.u64.wrap x.d = x.d := by have a := hx.d0; have b := hx.d1; rw [IntKind.wrap_u64]; omega
  have S0 : Hid ((fun w' => w'.cell? ⟨w.heap.size, 0, none⟩ = some (.int .u16 x.a) ∧ w'.cell? ⟨w.heap.size, 1, none⟩ = some (.int .u8 x.d)) (w.alloc (Obj.cells x.cells 37)).drew) := Lib.hid ⟨(Blk.c9 (Blk.drew P0.out)).1, (Blk.c9 (Blk.drew P0.out)).2.1⟩
  have HR := Lib.hid hr
  have ZZ := Lib.hid (And.intro sz1 sz2)
  clear CA0 CD0 h1 h2 hx hr
  go_enter Try.func18, Try.ntmps18
  go_wp2
  refine wp_region_noPanic ?_
  refine wp_region_held_drew (S := (fun w' => w'.cell? ⟨w.heap.size, 0, none⟩ = some (.int .u16 x.a) ∧ w'.cell? ⟨w.heap.size, 1, none⟩ = some (.int .u8 x.d))) (by kernel_rfl) ?_ (fun hH0 => ?_)
  · (try dsimp only); with_reducible exact S0.out
  refine wpAnyH_take (i := 0) (oi := ({ dst := some 6, op := Op.fieldAddr 37 (Operand.tmp 1) 0, type := 0, pos := "law.go:33", after := #[], guard := none } : Oper)) (v := ?_) rfl (by kernel_rfl) (by kernel_rfl) (by kernel_rfl) (fun _ _ _ h => h) (Or.inl ⟨by rfl, ?_⟩) (by assumption) ?_
  rotate_left 1
  · (intro w hSw; (try dsimp only at hSw); go_simp; (try with_reducible rfl))
  (try simp only [Act.put, List.setIfInBounds_toArray, List.set_cons_zero, List.set_cons_succ])
  refine wpAnyH_take (i := 1) (oi := ({ dst := some 7, op := Op.load 35 (Operand.tmp 6), type := 35, pos := "law.go:33", after := #[{ on := 0, ground := Ground.data }], guard := none } : Oper)) (v := ?_) rfl (by kernel_rfl) (by kernel_rfl) (by kernel_rfl) (fun _ _ _ h => h) (Or.inl ⟨by rfl, ?_⟩) (by assumption) ?_
  rotate_left 1
  · (intro w hSw; (try dsimp only at hSw); go_simp; (try with_reducible rfl))
  (try simp only [Act.put, List.setIfInBounds_toArray, List.set_cons_zero, List.set_cons_succ])
  refine wpAnyH_take (i := 2) (oi := ({ dst := some 8, op := Op.convert 35 80 (Operand.tmp 7), type := 80, pos := "law.go:33", after := #[{ on := 1, ground := Ground.data }], guard := none } : Oper)) (v := ?_) rfl (by kernel_rfl) (by kernel_rfl) (by kernel_rfl) (fun _ _ _ h => h) (Or.inl ⟨by rfl, ?_⟩) (by assumption) ?_
  rotate_left 1
  · (intro w hSw; (try dsimp only at hSw); go_simp; (try with_reducible rfl))
  (try simp only [Act.put, List.setIfInBounds_toArray, List.set_cons_zero, List.set_cons_succ])
  refine wpAnyH_take (i := 5) (oi := ({ dst := some 11, op := Op.fieldAddr 37 (Operand.tmp 1) 1, type := 0, pos := "law.go:33", after := #[], guard := none } : Oper)) (v := ?_) rfl (by kernel_rfl) (by kernel_rfl) (by kernel_rfl) (fun _ _ _ h => h) (Or.inl ⟨by rfl, ?_⟩) (by assumption) ?_
  rotate_left 1
  · (intro w hSw; (try dsimp only at hSw); go_simp; (try with_reducible rfl))
  (try simp only [Act.put, List.setIfInBounds_toArray, List.set_cons_zero, List.set_cons_succ])
  refine wpAnyH_take (i := 6) (oi := ({ dst := some 12, op := Op.load 5 (Operand.tmp 11), type := 5, pos := "law.go:33", after := #[{ on := 5, ground := Ground.data }], guard := none } : Oper)) (v := ?_) rfl (by kernel_rfl) (by kernel_rfl) (by kernel_rfl) (fun _ _ _ h => h) (Or.inl ⟨by rfl, ?_⟩) (by assumption) ?_
  rotate_left 1
  · (intro w hSw; (try dsimp only at hSw); go_simp; (try with_reducible rfl))
  (try simp only [Act.put, List.setIfInBounds_toArray, List.set_cons_zero, List.set_cons_succ])
  refine wpAnyH_take (i := 7) (oi := ({ dst := some 13, op := Op.convert 5 80 (Operand.tmp 12), type := 80, pos := "law.go:33", after := #[{ on := 6, ground := Ground.data }], guard := none } : Oper)) (v := ?_) rfl (by kernel_rfl) (by kernel_rfl) (by kernel_rfl) (fun _ _ _ h => h) (Or.inl ⟨by rfl, ?_⟩) (by assumption) ?_
  rotate_left 1
  · (intro w hSw; (try dsimp only at hSw); go_simp; (try with_reducible rfl))
  (try simp only [Act.put, List.setIfInBounds_toArray, List.set_cons_zero, List.set_cons_succ])
  refine wpAnyH_ready (rs := [3]) (by kernel_rfl) (by simp) ?_
  refine AllReadyH.cons (o := ({ dst := some 9, op := Op.call { callee := Callee.value (Operand.func 49), args := #[Operand.tmp 8, Operand.const (Value.int IntKind.u64 16), Operand.const (Value.int IntKind.i64 4)], argTypes := #[80, 80, 3] }, type := 9, pos := "law.go:33", after := #[{ on := 2, ground := Ground.data }], guard := none } : Oper)) rfl (fun K hK => ?_) ?_
  rotate_left 1
  · exact AllReadyH.nil
  go_simp
  go_at_call 49
  ((with_reducible refine (CA.out _).mono ?_); rintro e wq ⟨rfl, rfl⟩)
  first | (refine hK.out _ _ ?_ (fun hH1 => ?_)) | (go_wp2_with fail; refine hK.out _ _ ?_ (fun hH1 => ?_))
  · (try dsimp only); with_reducible exact S0.out
  clear hK K hH0
  (try simp only [Act.put, List.setIfInBounds_toArray, List.set_cons_zero, List.set_cons_succ])
  refine wpAnyH_take (i := 4) (oi := ({ dst := some 10, op := Op.binOp BinOp.add 9 (Operand.tmp 9) (Operand.const (Value.string { data := #[32] })) 9, type := 9, pos := "law.go:33", after := #[{ on := 3, ground := Ground.data }], guard := none } : Oper)) (v := ?_) rfl (by kernel_rfl) (by kernel_rfl) (by kernel_rfl) (fun _ _ _ h => h) (Or.inl ⟨by rfl, ?_⟩) (by assumption) ?_
  rotate_left 1
  · (intro w hSw; (try dsimp only at hSw); go_simp; (try with_reducible rfl))
  (try simp only [Act.put, List.setIfInBounds_toArray, List.set_cons_zero, List.set_cons_succ])
  refine wpAnyH_ready (rs := [8]) (by kernel_rfl) (by simp) ?_
  refine AllReadyH.cons (o := ({ dst := some 14, op := Op.call { callee := Callee.value (Operand.func 49), args := #[Operand.tmp 13, Operand.const (Value.int IntKind.u64 16), Operand.const (Value.int IntKind.i64 2)], argTypes := #[80, 80, 3] }, type := 9, pos := "law.go:33", after := #[{ on := 7, ground := Ground.data }, { on := 3, ground := Ground.chain }], guard := none } : Oper)) rfl (fun K hK => ?_) ?_
  rotate_left 1
  · exact AllReadyH.nil
  go_simp
  go_at_call 49
  ((with_reducible refine (CD.out _).mono ?_); rintro e wq ⟨rfl, rfl⟩)
  first | (refine hK.out _ _ ?_ (fun hH2 => ?_)) | (go_wp2_with fail; refine hK.out _ _ ?_ (fun hH2 => ?_))
  · (try dsimp only); with_reducible exact S0.out
  clear hK K hH1
  (try simp only [Act.put, List.setIfInBounds_toArray, List.set_cons_zero, List.set_cons_succ])
  refine wpAnyH_take (i := 9) (oi := ({ dst := some 15, op := Op.binOp BinOp.add 9 (Operand.tmp 10) (Operand.tmp 14) 9, type := 9, pos := "law.go:33", after := #[{ on := 4, ground := Ground.data }, { on := 8, ground := Ground.data }], guard := none } : Oper)) (v := ?_) rfl (by kernel_rfl) (by kernel_rfl) (by kernel_rfl) (fun _ _ _ h => h) (Or.inl ⟨by rfl, ?_⟩) (by assumption) ?_
  rotate_left 1
  · (intro w hSw; (try dsimp only at hSw); go_simp; (try with_reducible rfl))
  (try simp only [Act.put, List.setIfInBounds_toArray, List.set_cons_zero, List.set_cons_succ])
  refine wpAnyH_take (i := 10) (oi := ({ dst := some 16, op := Op.binOp BinOp.add 9 (Operand.tmp 15) (Operand.const (Value.string { data := #[32] })) 9, type := 9, pos := "law.go:33", after := #[{ on := 9, ground := Ground.data }], guard := none } : Oper)) (v := ?_) rfl (by kernel_rfl) (by kernel_rfl) (by kernel_rfl) (fun _ _ _ h => h) (Or.inl ⟨by rfl, ?_⟩) (by assumption) ?_
  rotate_left 1
  · (intro w hSw; (try dsimp only at hSw); go_simp; (try with_reducible rfl))
  (try simp only [Act.put, List.setIfInBounds_toArray, List.set_cons_zero, List.set_cons_succ])
  refine wpAnyH_take (i := 11) (oi := ({ dst := some 3, op := Op.assign (Operand.tmp 16), type := 9, pos := "law.go:33", after := #[{ on := 10, ground := Ground.data }, { on := 8, ground := Ground.chain }, { on := 0, ground := Ground.phase }, { on := 1, ground := Ground.phase }, { on := 2, ground := Ground.phase }, { on := 3, ground := Ground.phase }, { on := 4, ground := Ground.phase }, { on := 5, ground := Ground.phase }, { on := 6, ground := Ground.phase }, { on := 7, ground := Ground.phase }, { on := 8, ground := Ground.phase }, { on := 9, ground := Ground.phase }, { on := 10, ground := Ground.phase }], guard := none } : Oper)) (v := ?_) rfl (by kernel_rfl) (by kernel_rfl) (by kernel_rfl) (fun _ _ _ h => h) (Or.inl ⟨by rfl, ?_⟩) (by assumption) ?_
  rotate_left 1
  · (intro w hSw; (try dsimp only at hSw); go_simp; (try with_reducible rfl))
  (try simp only [Act.put, List.setIfInBounds_toArray, List.set_cons_zero, List.set_cons_succ])
  refine wpAnyH_done (by kernel_rfl) ?_ _
  refine NoPanic.normal ?_
  have P1 := Lib.hid (Blk.drew P0.out)
  obtain ⟨x0, x1, x2, x3, x4, x5, x6, x7, x8⟩ := Blk.c9 P1.out
  rw [HR.out] at x2
  clear ta td
  go_wp2
  clear x0 x1 x2 x3 x4 x5 x6 x7
  have HB5 : Hid (Blk ((w.alloc (Obj.cells x.cells 37)).alloc (Obj.cells #[.bool x.b1, .bool x.b2, .bool x.b3, .bool x.b4, .bool x.b5] 90)).drew (w.heap.size + 1) 90 #[.bool x.b1, .bool x.b2, .bool x.b3, .bool x.b4, .bool x.b5]) := Lib.hid (Blk.drew (Blk.at1 _))
  have HP5 : Hid (Blk ((w.alloc (Obj.cells x.cells 37)).alloc (Obj.cells #[.bool x.b1, .bool x.b2, .bool x.b3, .bool x.b4, .bool x.b5] 90)).drew w.heap.size 37 x.cells) := Lib.hid (Blk.drew (Blk.alloc P0.out _))
  obtain ⟨BB, hBB⟩ : ∃ BB, ((((s1 ++ strOfNums [32]) ++ s2) ++ strOfNums [32]) ++ strOfNums [87, 32]) = BB := ⟨_, rfl⟩
  rw [show (∀ q : Int, (if x.m then 77 else 45) = q → strOfNums (txN x) = (((((s1 ++ strOfNums [32]) ++ s2) ++ strOfNums [32]) ++ strOfNums [87, 32]) ++ strOfNums (lnL x 5)) ++ strOfNums [32, q]) = (∀ q : Int, (if x.m then 77 else 45) = q → strOfNums (txN x) = (BB ++ strOfNums (lnL x 5)) ++ strOfNums [32, q]) by rw [hBB]] at HT
  have ZB : Hid (BB.size = 10) := Lib.hid (by rw [← hBB]; simp only [ByteArray.size_append, ZZ.out.1, ZZ.out.2, size_strOf]; rfl)
  have HBB := Lib.hid hBB
  clear hBB
  go_loop [3, 5] (fun s i => ∃ (k : Nat) (sk : ByteArray), k ≤ 5 ∧ i = .int .i64 k ∧ s = .string sk ∧ Hid (sk = BB ++ strOfNums ((lnL x 5).take k)) ∧ sk.size = 10 + k) (fun _ i => 5 - (intOf i).toNat)
  case atStart => exact ⟨0, BB, by decide, rfl, by rw [← HBB.out]; rfl, Lib.hid (by rw [List.take_zero]; exact (ByteArray.append_empty).symm), ZB.out⟩
  case round =>
    obtain ⟨k, sk, hk, rfl, rfl, hs, hz⟩ := hrel
    by_cases hlt : k < 5
    · have cb : (((w.alloc (Obj.cells x.cells 37)).alloc (Obj.cells #[.bool x.b1, .bool x.b2, .bool x.b3, .bool x.b4, .bool x.b5] 90)).drew).cell? ⟨w.heap.size + 1, k, none⟩ = some (.bool (rbt x k)) := by
        rw [HB5.out.cell]
        rcases (show k = 0 ∨ k = 1 ∨ k = 2 ∨ k = 3 ∨ k = 4 by omega) with rfl | rfl | rfl | rfl | rfl <;> rfl
      have hsl0 := fun w => slice_five w k hlt
      have NX0 := ln_next x k hlt
      obtain ⟨c, hc⟩ : ∃ c, strOfNums [ltN k] = c := ⟨_, rfl⟩
      have hcz : c.size = 1 := by rw [← hc, size_strOf]; rfl
      rw [hc] at hsl0
      have hn1 : ¬ 9223372036854775807 < sk.size + 1 := by omega
      have hn2 : ¬ 9223372036854775807 < sk.size + c.size := by omega
      have hz2 : Hid (sk.size = 10 + k) := Lib.hid hz
      have HC := Lib.hid hc
      have HCZ := Lib.hid hcz
      have hk0 : (0 : Int) ≤ k := by omega
      have hk5 : (k : Int) < 5 := by omega
      obtain ⟨bt, hbt⟩ : ∃ bt, rbt x k = bt := ⟨_, rfl⟩
      rw [hbt] at cb NX0
      have NX := Lib.hid NX0
      clear hbt NX0 hz hc hcz
      cases bt
      · go_wp2
        go_round
        case rel => exact ⟨k + 1, sk ++ strOfNums [45], by omega, by go_num, rfl, Lib.hid (by rw [NX.out, hs.out, ByteArray.append_assoc, strOf_append]; rfl), by rw [ByteArray.size_append, hz2.out, size_strOf]; rfl⟩
        case measure => simp [intOf]; omega
      · go_wp2
        go_round
        case rel => exact ⟨k + 1, sk ++ c, by omega, by go_num, rfl, Lib.hid (by rw [NX.out, hs.out, ← HC.out, ByteArray.append_assoc, strOf_append]; rfl), by rw [ByteArray.size_append, hz2.out, HCZ.out]; rfl⟩
        case measure => simp [intOf]; omega
    · obtain rfl : k = 5 := by omega
      have x8 := (Blk.c9 HP5.out).2.2.2.2.2.2.2.2
      have hn2 : ¬ 9223372036854775807 < sk.size + 2 := by omega
      have BW := Lib.hid (Below.drew0 (Below.alloc0 B0.out (Obj.cells #[.bool x.b1, .bool x.b2, .bool x.b3, .bool x.b4, .bool x.b5] 90)))
      have hs5 : Hid (sk = BB ++ strOfNums (lnL x 5)) := Lib.hid (by have := hs.out; rw [List.take_of_length_le (show (lnL x 5).length ≤ 5 from Nat.le_refl 5)] at this; exact this)
      clear hz hs
      obtain ⟨mm, hm⟩ : ∃ mm, x.m = mm := ⟨_, rfl⟩
      rw [hm] at x8
      have HM := Lib.hid hm
      clear hm
      cases mm
      · go_wp2
        go_ret
        exact ⟨by rw [HT.out 45 (by rw [HM.out]; rfl), hs5.out]; rfl, BW.out⟩
      · go_wp2
        go_ret
        exact ⟨by rw [HT.out 77 (by rw [HM.out]; rfl), hs5.out]; rfl, BW.out⟩
set_option maxRecDepth 100000 in
set_option maxHeartbeats 2000000 in
theorem rcRef_1 (x : Rc) (hx : x.Ok) (hr : x.r = true) (w : World) :
    Calls Try.prog 18 #[.agg x.cells] w fun e w' => e = .returned (.string (strOfNums (txN x))) ∧ Below w.heap.size w w' := by
  have P0 : Hid (Blk (w.alloc (Obj.cells x.cells 37)) w.heap.size 37 x.cells) := Lib.hid (Blk.new _ _ _ (0, 0))
  have B0 := Lib.hid (Below.alloc0 (Below.refl w.heap.size w) (Obj.cells x.cells 37))
  have CA0 := fun u => refDigits16_int x.a 4 4 u hx.a0 (by have := hx.a1; omega) (by decide) (by decide) rfl
  have CD0 := fun u => refDigits16_int x.d 2 2 u hx.d0 (by have := hx.d1; omega) (by decide) (by decide) rfl
  rw [(need4 x hx).2] at CD0
  have sz1 := adN_size x hx
  have sz2 := daN_size x
  obtain ⟨s1, h1⟩ : ∃ s, strOfNums (adN x) = s := ⟨_, rfl⟩
  obtain ⟨s2, h2⟩ : ∃ s, strOfNums (daN x) = s := ⟨_, rfl⟩
  rw [show strOfNums (written 16 x.a 4) = s1 from h1] at CA0
  rw [h2] at CD0
  rw [h1] at sz1
  rw [h2] at sz2
  have CA := Lib.hid CA0
  have CD := Lib.hid CD0
  have HT : Hid (∀ q : Int, (if x.m then 77 else 45) = q → strOfNums (txN x) = (((((s1 ++ strOfNums [32]) ++ s2) ++ strOfNums [32]) ++ strOfNums [82, 32]) ++ strOfNums (lnL x 5)) ++ strOfNums [32, q]) := Lib.hid (by
    intro q hq
    rw [← h1, ← h2, tx_join2]
    unfold txN
    rw [hr, hq]
    rfl)
  have ta : IntKind.u64.wrap x.a = x.a := by have a := hx.a0; have b := hx.a1; rw [IntKind.wrap_u64]; omega
  have td : IntKind.u64.wrap x.d = x.d := by have a := hx.d0; have b := hx.d1; rw [IntKind.wrap_u64]; omega
  have S0 : Hid ((fun w' => w'.cell? ⟨w.heap.size, 0, none⟩ = some (.int .u16 x.a) ∧ w'.cell? ⟨w.heap.size, 1, none⟩ = some (.int .u8 x.d)) (w.alloc (Obj.cells x.cells 37)).drew) := Lib.hid ⟨(Blk.c9 (Blk.drew P0.out)).1, (Blk.c9 (Blk.drew P0.out)).2.1⟩
  have HR := Lib.hid hr
  have ZZ := Lib.hid (And.intro sz1 sz2)
  clear CA0 CD0 h1 h2 hx hr
  go_enter Try.func18, Try.ntmps18
  go_wp2
  refine wp_region_noPanic ?_
  refine wp_region_held_drew (S := (fun w' => w'.cell? ⟨w.heap.size, 0, none⟩ = some (.int .u16 x.a) ∧ w'.cell? ⟨w.heap.size, 1, none⟩ = some (.int .u8 x.d))) (by kernel_rfl) ?_ (fun hH0 => ?_)
  · (try dsimp only); with_reducible exact S0.out
  refine wpAnyH_take (i := 0) (oi := ({ dst := some 6, op := Op.fieldAddr 37 (Operand.tmp 1) 0, type := 0, pos := "law.go:33", after := #[], guard := none } : Oper)) (v := ?_) rfl (by kernel_rfl) (by kernel_rfl) (by kernel_rfl) (fun _ _ _ h => h) (Or.inl ⟨by rfl, ?_⟩) (by assumption) ?_
  rotate_left 1
  · (intro w hSw; (try dsimp only at hSw); go_simp; (try with_reducible rfl))
  (try simp only [Act.put, List.setIfInBounds_toArray, List.set_cons_zero, List.set_cons_succ])
  refine wpAnyH_take (i := 1) (oi := ({ dst := some 7, op := Op.load 35 (Operand.tmp 6), type := 35, pos := "law.go:33", after := #[{ on := 0, ground := Ground.data }], guard := none } : Oper)) (v := ?_) rfl (by kernel_rfl) (by kernel_rfl) (by kernel_rfl) (fun _ _ _ h => h) (Or.inl ⟨by rfl, ?_⟩) (by assumption) ?_
  rotate_left 1
  · (intro w hSw; (try dsimp only at hSw); go_simp; (try with_reducible rfl))
  (try simp only [Act.put, List.setIfInBounds_toArray, List.set_cons_zero, List.set_cons_succ])
  refine wpAnyH_take (i := 2) (oi := ({ dst := some 8, op := Op.convert 35 80 (Operand.tmp 7), type := 80, pos := "law.go:33", after := #[{ on := 1, ground := Ground.data }], guard := none } : Oper)) (v := ?_) rfl (by kernel_rfl) (by kernel_rfl) (by kernel_rfl) (fun _ _ _ h => h) (Or.inl ⟨by rfl, ?_⟩) (by assumption) ?_
  rotate_left 1
  · (intro w hSw; (try dsimp only at hSw); go_simp; (try with_reducible rfl))
  (try simp only [Act.put, List.setIfInBounds_toArray, List.set_cons_zero, List.set_cons_succ])
  refine wpAnyH_take (i := 5) (oi := ({ dst := some 11, op := Op.fieldAddr 37 (Operand.tmp 1) 1, type := 0, pos := "law.go:33", after := #[], guard := none } : Oper)) (v := ?_) rfl (by kernel_rfl) (by kernel_rfl) (by kernel_rfl) (fun _ _ _ h => h) (Or.inl ⟨by rfl, ?_⟩) (by assumption) ?_
  rotate_left 1
  · (intro w hSw; (try dsimp only at hSw); go_simp; (try with_reducible rfl))
  (try simp only [Act.put, List.setIfInBounds_toArray, List.set_cons_zero, List.set_cons_succ])
  refine wpAnyH_take (i := 6) (oi := ({ dst := some 12, op := Op.load 5 (Operand.tmp 11), type := 5, pos := "law.go:33", after := #[{ on := 5, ground := Ground.data }], guard := none } : Oper)) (v := ?_) rfl (by kernel_rfl) (by kernel_rfl) (by kernel_rfl) (fun _ _ _ h => h) (Or.inl ⟨by rfl, ?_⟩) (by assumption) ?_
  rotate_left 1
  · (intro w hSw; (try dsimp only at hSw); go_simp; (try with_reducible rfl))
  (try simp only [Act.put, List.setIfInBounds_toArray, List.set_cons_zero, List.set_cons_succ])
  refine wpAnyH_take (i := 7) (oi := ({ dst := some 13, op := Op.convert 5 80 (Operand.tmp 12), type := 80, pos := "law.go:33", after := #[{ on := 6, ground := Ground.data }], guard := none } : Oper)) (v := ?_) rfl (by kernel_rfl) (by kernel_rfl) (by kernel_rfl) (fun _ _ _ h => h) (Or.inl ⟨by rfl, ?_⟩) (by assumption) ?_
  rotate_left 1
  · (intro w hSw; (try dsimp only at hSw); go_simp; (try with_reducible rfl))
  (try simp only [Act.put, List.setIfInBounds_toArray, List.set_cons_zero, List.set_cons_succ])
  refine wpAnyH_ready (rs := [3]) (by kernel_rfl) (by simp) ?_
  refine AllReadyH.cons (o := ({ dst := some 9, op := Op.call { callee := Callee.value (Operand.func 49), args := #[Operand.tmp 8, Operand.const (Value.int IntKind.u64 16), Operand.const (Value.int IntKind.i64 4)], argTypes := #[80, 80, 3] }, type := 9, pos := "law.go:33", after := #[{ on := 2, ground := Ground.data }], guard := none } : Oper)) rfl (fun K hK => ?_) ?_
  rotate_left 1
  · exact AllReadyH.nil
  go_simp
  go_at_call 49
  ((with_reducible refine (CA.out _).mono ?_); rintro e wq ⟨rfl, rfl⟩)
  first | (refine hK.out _ _ ?_ (fun hH1 => ?_)) | (go_wp2_with fail; refine hK.out _ _ ?_ (fun hH1 => ?_))
  · (try dsimp only); with_reducible exact S0.out
  clear hK K hH0
  (try simp only [Act.put, List.setIfInBounds_toArray, List.set_cons_zero, List.set_cons_succ])
  refine wpAnyH_take (i := 4) (oi := ({ dst := some 10, op := Op.binOp BinOp.add 9 (Operand.tmp 9) (Operand.const (Value.string { data := #[32] })) 9, type := 9, pos := "law.go:33", after := #[{ on := 3, ground := Ground.data }], guard := none } : Oper)) (v := ?_) rfl (by kernel_rfl) (by kernel_rfl) (by kernel_rfl) (fun _ _ _ h => h) (Or.inl ⟨by rfl, ?_⟩) (by assumption) ?_
  rotate_left 1
  · (intro w hSw; (try dsimp only at hSw); go_simp; (try with_reducible rfl))
  (try simp only [Act.put, List.setIfInBounds_toArray, List.set_cons_zero, List.set_cons_succ])
  refine wpAnyH_ready (rs := [8]) (by kernel_rfl) (by simp) ?_
  refine AllReadyH.cons (o := ({ dst := some 14, op := Op.call { callee := Callee.value (Operand.func 49), args := #[Operand.tmp 13, Operand.const (Value.int IntKind.u64 16), Operand.const (Value.int IntKind.i64 2)], argTypes := #[80, 80, 3] }, type := 9, pos := "law.go:33", after := #[{ on := 7, ground := Ground.data }, { on := 3, ground := Ground.chain }], guard := none } : Oper)) rfl (fun K hK => ?_) ?_
  rotate_left 1
  · exact AllReadyH.nil
  go_simp
  go_at_call 49
  ((with_reducible refine (CD.out _).mono ?_); rintro e wq ⟨rfl, rfl⟩)
  first | (refine hK.out _ _ ?_ (fun hH2 => ?_)) | (go_wp2_with fail; refine hK.out _ _ ?_ (fun hH2 => ?_))
  · (try dsimp only); with_reducible exact S0.out
  clear hK K hH1
  (try simp only [Act.put, List.setIfInBounds_toArray, List.set_cons_zero, List.set_cons_succ])
  refine wpAnyH_take (i := 9) (oi := ({ dst := some 15, op := Op.binOp BinOp.add 9 (Operand.tmp 10) (Operand.tmp 14) 9, type := 9, pos := "law.go:33", after := #[{ on := 4, ground := Ground.data }, { on := 8, ground := Ground.data }], guard := none } : Oper)) (v := ?_) rfl (by kernel_rfl) (by kernel_rfl) (by kernel_rfl) (fun _ _ _ h => h) (Or.inl ⟨by rfl, ?_⟩) (by assumption) ?_
  rotate_left 1
  · (intro w hSw; (try dsimp only at hSw); go_simp; (try with_reducible rfl))
  (try simp only [Act.put, List.setIfInBounds_toArray, List.set_cons_zero, List.set_cons_succ])
  refine wpAnyH_take (i := 10) (oi := ({ dst := some 16, op := Op.binOp BinOp.add 9 (Operand.tmp 15) (Operand.const (Value.string { data := #[32] })) 9, type := 9, pos := "law.go:33", after := #[{ on := 9, ground := Ground.data }], guard := none } : Oper)) (v := ?_) rfl (by kernel_rfl) (by kernel_rfl) (by kernel_rfl) (fun _ _ _ h => h) (Or.inl ⟨by rfl, ?_⟩) (by assumption) ?_
  rotate_left 1
  · (intro w hSw; (try dsimp only at hSw); go_simp; (try with_reducible rfl))
  (try simp only [Act.put, List.setIfInBounds_toArray, List.set_cons_zero, List.set_cons_succ])
  refine wpAnyH_take (i := 11) (oi := ({ dst := some 3, op := Op.assign (Operand.tmp 16), type := 9, pos := "law.go:33", after := #[{ on := 10, ground := Ground.data }, { on := 8, ground := Ground.chain }, { on := 0, ground := Ground.phase }, { on := 1, ground := Ground.phase }, { on := 2, ground := Ground.phase }, { on := 3, ground := Ground.phase }, { on := 4, ground := Ground.phase }, { on := 5, ground := Ground.phase }, { on := 6, ground := Ground.phase }, { on := 7, ground := Ground.phase }, { on := 8, ground := Ground.phase }, { on := 9, ground := Ground.phase }, { on := 10, ground := Ground.phase }], guard := none } : Oper)) (v := ?_) rfl (by kernel_rfl) (by kernel_rfl) (by kernel_rfl) (fun _ _ _ h => h) (Or.inl ⟨by rfl, ?_⟩) (by assumption) ?_
  rotate_left 1
  · (intro w hSw; (try dsimp only at hSw); go_simp; (try with_reducible rfl))
  (try simp only [Act.put, List.setIfInBounds_toArray, List.set_cons_zero, List.set_cons_succ])
  refine wpAnyH_done (by kernel_rfl) ?_ _
  refine NoPanic.normal ?_
  have P1 := Lib.hid (Blk.drew P0.out)
  obtain ⟨x0, x1, x2, x3, x4, x5, x6, x7, x8⟩ := Blk.c9 P1.out
  rw [HR.out] at x2
  clear ta td
  go_wp2
  clear x0 x1 x2 x3 x4 x5 x6 x7
  have HB5 : Hid (Blk ((w.alloc (Obj.cells x.cells 37)).alloc (Obj.cells #[.bool x.b1, .bool x.b2, .bool x.b3, .bool x.b4, .bool x.b5] 90)).drew (w.heap.size + 1) 90 #[.bool x.b1, .bool x.b2, .bool x.b3, .bool x.b4, .bool x.b5]) := Lib.hid (Blk.drew (Blk.at1 _))
  have HP5 : Hid (Blk ((w.alloc (Obj.cells x.cells 37)).alloc (Obj.cells #[.bool x.b1, .bool x.b2, .bool x.b3, .bool x.b4, .bool x.b5] 90)).drew w.heap.size 37 x.cells) := Lib.hid (Blk.drew (Blk.alloc P0.out _))
  obtain ⟨BB, hBB⟩ : ∃ BB, ((((s1 ++ strOfNums [32]) ++ s2) ++ strOfNums [32]) ++ strOfNums [82, 32]) = BB := ⟨_, rfl⟩
  rw [show (∀ q : Int, (if x.m then 77 else 45) = q → strOfNums (txN x) = (((((s1 ++ strOfNums [32]) ++ s2) ++ strOfNums [32]) ++ strOfNums [82, 32]) ++ strOfNums (lnL x 5)) ++ strOfNums [32, q]) = (∀ q : Int, (if x.m then 77 else 45) = q → strOfNums (txN x) = (BB ++ strOfNums (lnL x 5)) ++ strOfNums [32, q]) by rw [hBB]] at HT
  have ZB : Hid (BB.size = 10) := Lib.hid (by rw [← hBB]; simp only [ByteArray.size_append, ZZ.out.1, ZZ.out.2, size_strOf]; rfl)
  have HBB := Lib.hid hBB
  clear hBB
  go_loop [3, 5] (fun s i => ∃ (k : Nat) (sk : ByteArray), k ≤ 5 ∧ i = .int .i64 k ∧ s = .string sk ∧ Hid (sk = BB ++ strOfNums ((lnL x 5).take k)) ∧ sk.size = 10 + k) (fun _ i => 5 - (intOf i).toNat)
  case atStart => exact ⟨0, BB, by decide, rfl, by rw [← HBB.out]; rfl, Lib.hid (by rw [List.take_zero]; exact (ByteArray.append_empty).symm), ZB.out⟩
  case round =>
    obtain ⟨k, sk, hk, rfl, rfl, hs, hz⟩ := hrel
    by_cases hlt : k < 5
    · have cb : (((w.alloc (Obj.cells x.cells 37)).alloc (Obj.cells #[.bool x.b1, .bool x.b2, .bool x.b3, .bool x.b4, .bool x.b5] 90)).drew).cell? ⟨w.heap.size + 1, k, none⟩ = some (.bool (rbt x k)) := by
        rw [HB5.out.cell]
        rcases (show k = 0 ∨ k = 1 ∨ k = 2 ∨ k = 3 ∨ k = 4 by omega) with rfl | rfl | rfl | rfl | rfl <;> rfl
      have hsl0 := fun w => slice_five w k hlt
      have NX0 := ln_next x k hlt
      obtain ⟨c, hc⟩ : ∃ c, strOfNums [ltN k] = c := ⟨_, rfl⟩
      have hcz : c.size = 1 := by rw [← hc, size_strOf]; rfl
      rw [hc] at hsl0
      have hn1 : ¬ 9223372036854775807 < sk.size + 1 := by omega
      have hn2 : ¬ 9223372036854775807 < sk.size + c.size := by omega
      have hz2 : Hid (sk.size = 10 + k) := Lib.hid hz
      have HC := Lib.hid hc
      have HCZ := Lib.hid hcz
      have hk0 : (0 : Int) ≤ k := by omega
      have hk5 : (k : Int) < 5 := by omega
      obtain ⟨bt, hbt⟩ : ∃ bt, rbt x k = bt := ⟨_, rfl⟩
      rw [hbt] at cb NX0
      have NX := Lib.hid NX0
      clear hbt NX0 hz hc hcz
      cases bt
      · go_wp2
        go_round
        case rel => exact ⟨k + 1, sk ++ strOfNums [45], by omega, by go_num, rfl, Lib.hid (by rw [NX.out, hs.out, ByteArray.append_assoc, strOf_append]; rfl), by rw [ByteArray.size_append, hz2.out, size_strOf]; rfl⟩
        case measure => simp [intOf]; omega
      · go_wp2
        go_round
        case rel => exact ⟨k + 1, sk ++ c, by omega, by go_num, rfl, Lib.hid (by rw [NX.out, hs.out, ← HC.out, ByteArray.append_assoc, strOf_append]; rfl), by rw [ByteArray.size_append, hz2.out, HCZ.out]; rfl⟩
        case measure => simp [intOf]; omega
    · obtain rfl : k = 5 := by omega
      have x8 := (Blk.c9 HP5.out).2.2.2.2.2.2.2.2
      have hn2 : ¬ 9223372036854775807 < sk.size + 2 := by omega
      have BW := Lib.hid (Below.drew0 (Below.alloc0 B0.out (Obj.cells #[.bool x.b1, .bool x.b2, .bool x.b3, .bool x.b4, .bool x.b5] 90)))
      have hs5 : Hid (sk = BB ++ strOfNums (lnL x 5)) := Lib.hid (by have := hs.out; rw [List.take_of_length_le (show (lnL x 5).length ≤ 5 from Nat.le_refl 5)] at this; exact this)
      clear hz hs
      obtain ⟨mm, hm⟩ : ∃ mm, x.m = mm := ⟨_, rfl⟩
      rw [hm] at x8
      have HM := Lib.hid hm
      clear hm
      cases mm
      · go_wp2
        go_ret
        exact ⟨by rw [HT.out 45 (by rw [HM.out]; rfl), hs5.out]; rfl, BW.out⟩
      · go_wp2
        go_ret
        exact ⟨by rw [HT.out 77 (by rw [HM.out]; rfl), hs5.out]; rfl, BW.out⟩
theorem rcRef_any (x : Rc) (hx : x.Ok) (w : World) :
    Calls Try.prog 18 #[.agg x.cells] w fun e w' => e = .returned (.string (strOfNums (txN x))) ∧ Below w.heap.size w w' := by
  cases hr : x.r
  · exact rcRef_0 x hx hr w
  · exact rcRef_1 x hx hr w
end Go.Proofs.Ytfjkbjkbpbnalaa
