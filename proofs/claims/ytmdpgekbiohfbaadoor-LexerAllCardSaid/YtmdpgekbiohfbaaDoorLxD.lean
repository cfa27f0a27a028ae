/- Contracts: lexer.Cut, the parts of a line. -/
import Derived.Test.YtmdpgekbiohfbaaDoorLxC
import Derived.Deep.RegionHeld3
namespace Go.Proofs.YtmdpgekbiohfbaaDoor
open Go.ChangeShapes Go.WideShapes Go.ChangeAt Go.RowKit
set_option linter.unusedVariables false

/-- What Cut answers, as a value. -/
def lxA (r : Lx) : Array Value := #[.string (mkS r.lab), .string (mkS r.op), .string (mkS r.arg)]
def lxE (r : Lx) : Int := if r.ok then 0 else 40
def lxV (r : Lx) : Value := .tuple #[.agg (lxA r), .int .i64 (lxE r)]
theorem cutSm (l : List UInt8) : (Lib.cut l [59]).1 = l.takeWhile (neB 59) := by
  have h1 := (tw_split (neB 59) l).1
  unfold Lib.cut
  rw [idx_sub1, idxB_tw]
  by_cases h : (l.takeWhile (neB 59)).length = l.length
  · rw [if_pos h, if_neg (by decide)]
    rw [h, List.take_length] at h1
    exact h1
  · rw [if_neg h, if_pos (by omega), Int.toNat_natCast]
    exact h1
theorem Blk.c3s {w : World} {g : Nat} {t : TypeId} {a b c : Value} (h : Blk w g t #[a, b, c]) : w.cell? ⟨g, 0, none⟩ = some a ∧ w.cell? ⟨g, 1, none⟩ = some b ∧ w.cell? ⟨g, 2, none⟩ = some c :=
  ⟨(h.cell 0).trans rfl, (h.cell 1).trans rfl, (h.cell 2).trans rfl⟩
theorem sl_to (l : List UInt8) (n : Nat) (h : n ≤ l.length) (u : World) : (Instr.slice 9 (.string (mkS l)) none (some (.int .i64 (n : Int))) none).run Tryd.prog u = .ok (.string (mkS (l.take n))) u := by
  rw [run_slice_string_h u 9 (mkS l) Tryd.underlying9 .i64 (n : Int) (by omega) (by rw [mkS_size]; omega), Int.toNat_natCast, mkS_take]
theorem sl_from (l : List UInt8) (n : Nat) (h : n ≤ l.length) (u : World) : (Instr.slice 9 (.string (mkS l)) (some (.int .i64 (n : Int))) none none).run Tryd.prog u = .ok (.string (mkS (l.drop n))) u := by
  rw [run_slice_string_l u 9 (mkS l) Tryd.underlying9 .i64 (n : Int) (by omega) (by rw [mkS_size]; omega), Int.toNat_natCast, mkS_drop]
theorem dw_le (p : UInt8 → Bool) (l : List UInt8) : (l.dropWhile p).length ≤ l.length := by
  rw [← (tw_split p l).2, List.length_drop]; omega
theorem isBl_contains (c : UInt8) : ([32, 9] : List UInt8).contains c = isBl c := by
  unfold isBl; simp; rfl
theorem has_blank (c : UInt8) (h : nBl c = false) : decide (0 ≤ Lib.indexByte (⟨#[32, 9]⟩ : ByteArray).data.toList c) = true := by
  rw [← Lib.contains_iff_indexByte]
  show ([32, 9] : List UInt8).contains c = true
  rw [isBl_contains]
  unfold nBl at h
  simpa using h
theorem no_blank (c : UInt8) (h : nBl c = true) : decide (0 ≤ Lib.indexByte (⟨#[32, 9]⟩ : ByteArray).data.toList c) = false := by
  rw [← Lib.contains_iff_indexByte]
  show ([32, 9] : List UInt8).contains c = false
  rw [isBl_contains]
  unfold nBl at h
  simpa using h
theorem unCo_le (l : List UInt8) : (unCo l).length ≤ l.length := by
  unfold unCo
  split
  · rw [List.length_drop]; omega
  · exact Nat.le_refl _
theorem lxBeh_le (l : List UInt8) : (lxBeh l).length ≤ l.length := Nat.le_trans (unCo_le _) (dw_le _ _)
/-- Two blocks of a line's parts: the answer's, still empty; the line under way. -/
def LxS (w W : World) (g : Nat) (a : Value) : Prop := Below g w W ∧ Blk W g 23 #[.string ⟨#[]⟩, .string ⟨#[]⟩, .string ⟨#[]⟩] ∧ Blk W (g + 1) 23 #[a, .string ⟨#[]⟩, .string ⟨#[]⟩]
section
variable {w W W' : World} {g : Nat} {a : Value}
theorem LxS.step (h : LxS w W g a) (hb : Below W.heap.size W W') : LxS w W' g a :=
  ⟨h.1.trans (hb.mono (Nat.le_of_lt h.2.1.lt)), h.2.1.below hb h.2.1.lt, h.2.2.below hb h.2.2.lt⟩
theorem LxS.drew (h : LxS w W g a) : LxS w W.drew g a := ⟨h.1.drew, h.2.1, h.2.2⟩
theorem LxS.drewN (h : LxS w W g a) (n : Nat) : LxS w (W.drewN n) g a := h.step (Below.drewN0 (Below.refl _ _) n)
theorem LxS.set (h : LxS w W g a) (v : Value) : LxS w (W.setCell ⟨g + 1, 0, none⟩ v) g v :=
  ⟨h.1.setCell (by show g ≤ g + 1; omega) _, Blk.far h.2.1 (by show g ≠ g + 1; omega) _, Blk.set_ h.2.2 0 v⟩
theorem LxS.set2 (h : LxS w W g a) (u v : Value) : Below g w ((W.setCell ⟨g + 1, 1, none⟩ u).setCell ⟨g + 1, 2, none⟩ v) ∧ Blk ((W.setCell ⟨g + 1, 1, none⟩ u).setCell ⟨g + 1, 2, none⟩ v) g 23 #[.string ⟨#[]⟩, .string ⟨#[]⟩, .string ⟨#[]⟩] ∧ Blk ((W.setCell ⟨g + 1, 1, none⟩ u).setCell ⟨g + 1, 2, none⟩ v) (g + 1) 23 #[a, u, v] :=
  ⟨(h.1.setCell (by show g ≤ g + 1; omega) _).setCell (by show g ≤ g + 1; omega) _, Blk.far (Blk.far h.2.1 (by show g ≠ g + 1; omega) _) (by show g ≠ g + 1; omega) _, Blk.set_ (Blk.set_ h.2.2 1 u) 2 v⟩
end
theorem Blk.set3s {W : World} {g : Nat} {t : TypeId} {x y z : Value} (h : Blk W g t #[x, y, z]) (a b c : Value) : Blk (((W.setCell ⟨g, 0, none⟩ a).setCell ⟨g, 1, none⟩ b).setCell ⟨g, 2, none⟩ c) g t #[a, b, c] :=
  Blk.set_ (Blk.set_ (Blk.set_ h 0 a) 1 b) 2 c
theorem Below.set3s {w W : World} {g : Nat} (h : Below g w W) (a b c : Value) : Below g w (((W.setCell ⟨g, 0, none⟩ a).setCell ⟨g, 1, none⟩ b).setCell ⟨g, 2, none⟩ c) :=
  ((h.setCell (Nat.le_refl _) a).setCell (Nat.le_refl _) b).setCell (Nat.le_refl _) c
/-- What is done of a text behind its label. -/
theorem tailF (X : List UInt8) (hX : X.length ≤ 1000000) : ∃ (Y P Q : ByteArray) (n : Nat),
    (∀ u, Calls Tryd.prog 17 #[.string (mkS X), .string ⟨#[32, 9]⟩] u fun e w' => e = .returned (.string Y) ∧ Below u.heap.size u w') ∧
    (∀ u, Calls Tryd.prog 18 #[.string Y, .string ⟨#[32, 9]⟩] u fun e w' => e = .returned (.int .i64 (n : Int)) ∧ Below u.heap.size u w') ∧
    (∀ u, (Instr.slice 9 (.string Y) none (some (.int .i64 (n : Int))) none).run Tryd.prog u = .ok (.string P) u) ∧
    (∀ u, (Instr.slice 9 (.string Y) (some (.int .i64 (n : Int))) none none).run Tryd.prog u = .ok (.string Q) u) ∧
    (∀ u, Calls Tryd.prog 19 #[.string P] u fun e w' => e = .returned (.string (mkS (lxOp X))) ∧ Below u.heap.size u w') ∧
    (∀ u, MxL u → Calls Tryd.prog 20 #[.string Q] u fun e w' => e = .returned (.string (mkS (lxArg X))) ∧ Below u.heap.size u w') := by
  have hY : (X.dropWhile isBl).length ≤ 1000000 := Nat.le_trans (dw_le _ _) hX
  obtain ⟨s1, s2⟩ := tw_split nBl (X.dropWhile isBl)
  have hle := tw_le nBl (X.dropWhile isBl)
  refine ⟨mkS (X.dropWhile isBl), mkS ((X.dropWhile isBl).takeWhile nBl), mkS ((X.dropWhile isBl).dropWhile nBl), ((X.dropWhile isBl).takeWhile nBl).length, fun u => ?_, fun u => upBl _ hY u, fun u => ?_, fun u => ?_, fun u => ?_, fun u h => ?_⟩
  · have h := Any.strings_TrimLeft_laid Tryd.lays161 (by kernel_rfl) (mkS X) ⟨#[32, 9]⟩ u (by decide) (ascii_of _ (by decide))
    refine h.mono ?_
    rintro e w' ⟨rfl, hb⟩
    refine ⟨retS1 ?_, hb⟩
    show mkS (Lib.trimLeftS X [32, 9]) = _
    congr 1
    unfold Lib.trimLeftS
    congr 1
    funext c
    exact isBl_contains c
  · have h := sl_to (X.dropWhile isBl) _ hle u
    rw [s1] at h; exact h
  · have h := sl_from (X.dropWhile isBl) _ hle u
    rw [s2] at h; exact h
  · exact capitals_any _ (Nat.le_trans hle hY) u
  · exact dense_any _ (Nat.le_trans (dw_le _ _) hY) u h
theorem resLx (tmps : Array Value) (W : World) (g : Nat) (cs : Array Value) (h : Blk W g 23 cs) (hc : cs.size = 3) (h2 : tmps.getD 2 undef = .pointer (some ⟨g, 0, none⟩)) (c : Int) (h3 : tmps.getD 3 undef = .int .i64 c) :
    (results Tryd.f5 tmps).run Tryd.prog W = .ok (.tuple #[.agg cs, .int .i64 c]) W := by
  have hi : (Tryd.prog.info? 23).map (·.size) = some cs.size := by rw [hc]; kernel_rfl
  have hld := run_loadVar_row (P := Tryd.prog) W g 23 23 cs (0, 0) _ h Tryd.underlying23 rfl hi
  have h2' : tmps[2]?.getD undef = .pointer (some ⟨g, 0, none⟩) := by simpa using h2
  have h3' : tmps[3]?.getD undef = .int .i64 c := by simpa using h3
  simp [results, Tryd.results5, h2', h3', asAddr, hld]
set_option maxRecDepth 100000 in
set_option maxHeartbeats 8000000 in
theorem lxCut_any (l : List UInt8) (hl : l.length ≤ 1000000) (w : World) (hM : MxL w) :
    Calls Tryd.prog 5 #[.string (mkS l)] w fun e w' => e = .returned (lxV (lxCut l)) ∧ Below w.heap.size w w' := by
  have hS : (l.takeWhile (neB 59)).length ≤ 1000000 := Nat.le_trans (tw_le _ _) hl
  have CU : Hid (∀ u, MxL u → Calls Tryd.prog 13 #[.string (mkS l), .string ⟨#[59]⟩] u fun e w' => (∃ t b, e = .returned (.tuple #[.string (mkS (l.takeWhile (neB 59))), .string t, .bool b])) ∧ ∃ n, w' = u.drewN n) := Lib.hid (fun u hu => by
    obtain ⟨m, hm⟩ := hu
    refine (Tryd.strings_Cut (mkS l) ⟨#[59]⟩ m u (by rw [mkS_size]; omega) hm).mono ?_
    rintro e w' ⟨rfl, hw⟩
    exact ⟨⟨_, _, by rw [← cutSm]; rfl⟩, hw⟩)
  have HR : Hid (lxCut l = if lxHas (l.takeWhile (neB 59)) then
      if rightL (nmL (lxLab (l.takeWhile (neB 59)))) then ⟨lxLab (l.takeWhile (neB 59)), lxOp (lxBeh (l.takeWhile (neB 59))), lxArg (lxBeh (l.takeWhile (neB 59))), true⟩ else lxNo
    else ⟨[], lxOp (l.takeWhile (neB 59)), lxArg (l.takeWhile (neB 59)), true⟩) := Lib.hid rfl
  obtain ⟨S, hSS⟩ : ∃ S, l.takeWhile (neB 59) = S := ⟨_, rfl⟩
  rw [hSS] at CU HR hS
  obtain ⟨R, hR⟩ : ∃ R, lxCut l = R := ⟨_, rfl⟩
  rw [hR] at HR ⊢
  clear hSS hR
  obtain ⟨g, hg⟩ : ∃ g, w.heap.size = g := ⟨_, rfl⟩
  obtain ⟨W0, hW0⟩ : ∃ W0, (w.alloc (.cells #[.string ⟨#[]⟩, .string ⟨#[]⟩, .string ⟨#[]⟩] 23)).alloc (.cells #[.string ⟨#[]⟩, .string ⟨#[]⟩, .string ⟨#[]⟩] 23) = W0 := ⟨_, rfl⟩
  have S0 : Hid (LxS w W0 g (.string ⟨#[]⟩)) := Lib.hid (by
    rw [← hW0, ← hg]
    refine ⟨Below.alloc0 (Below.alloc0 (Below.refl _ _) _) _, Blk.alloc (Blk.new _ _ _ _) _, ?_⟩
    have := Blk.new (w.alloc (.cells #[.string ⟨#[]⟩, .string ⟨#[]⟩, .string ⟨#[]⟩] 23)) 23 #[.string ⟨#[]⟩, .string ⟨#[]⟩, .string ⟨#[]⟩] (0, 0)
    rw [World.size_alloc] at this; exact this)
  have MG : Hid (∀ u a, LxS w u g a → MxL u) := Lib.hid (fun u a hu => hM.below (by rw [hg]; exact hu.1))
  have HG := Lib.hid hg
  clear hM hl
  cases hh : lxHas S
  · have HV : Hid (lxV R = .tuple #[.agg #[.string ⟨#[]⟩, .string (mkS (lxOp S)), .string (mkS (lxArg S))], .int .i64 0]) := Lib.hid (by rw [HR.out, hh, if_neg (by decide)]; rfl)
    obtain ⟨Y, P, Q, n, T1, T2, T3, T4, T5, T6⟩ := tailF (S) hS
    obtain ⟨OP, hOP⟩ : ∃ OP, mkS (lxOp (S)) = OP := ⟨_, rfl⟩
    obtain ⟨AR, hAR⟩ : ∃ AR, mkS (lxArg (S)) = AR := ⟨_, rfl⟩
    rw [hOP] at T5
    rw [hAR] at T6
    rw [hOP, hAR] at HV
    have T1 := Lib.hid T1
    have T2 := Lib.hid T2
    have T5 := Lib.hid T5
    have T6 := Lib.hid T6
    clear hOP hAR
    obtain ⟨TT, hTT⟩ : ∃ TT, mkS S = TT := ⟨_, rfl⟩
    have CC := Lib.hid (fun c u => Tryd.strings_Contains_one ⟨#[32, 9]⟩ c u)
    by_cases h0 : S = []
    · have e0 : TT.toList.isEmpty = true := by rw [← hTT, mkS_empty, h0]; rfl
      rw [hTT] at CU T1
      clear hTT h0 hh hS HR CC
      go_enter Tryd.func5, Tryd.ntmps5
      go_wp2_with fail
      refine (CU.out _ (MG.out _ _ S0.out)).mono ?_
      rintro e w1 ⟨⟨t, b, rfl⟩, q, hw⟩
      have S1 : Hid (LxS w w1 g (.string ⟨#[]⟩)) := Lib.hid (by rw [hw]; exact S0.out.drewN q)
      clear hw hW0 hg
      go_wp2_with fail
      refine (T1.out _).mono ?_
      rintro e w2 ⟨rfl, hb⟩
      have S2 := Lib.hid (S1.out.step hb)
      clear hb
      go_wp2_with fail
      refine (T2.out _).mono ?_
      rintro e w3 ⟨rfl, hb⟩
      have S3 := Lib.hid (S2.out.step hb)
      clear hb
      go_upto_region 9 with (fail)
      refine wp_region_noPanic ?_
      refine wp_region_held_drew (S := (fun _ => True)) (by kernel_rfl) ?_ (fun hH0 => ?_)
      · trivial
      refine wpAnyH_take (i := 0) (oi := ({ dst := some 35, op := Op.move (Operand.tmp 0), type := 9, pos := "lexer.go:39", after := #[], guard := none } : Oper)) (v := ?_) rfl (by kernel_rfl) (by kernel_rfl) (by kernel_rfl) (fun _ _ _ h => h) (Or.inl ⟨by rfl, ?_⟩) (by assumption) ?_
      rotate_left 1
      · (intro w hSw; (try dsimp only at hSw); go_simp; (try with_reducible rfl))
      (try simp only [Act.put, List.setIfInBounds_toArray, List.set_cons_zero, List.set_cons_succ])
      refine wpAnyH_take (i := 1) (oi := ({ dst := some 36, op := Op.move (Operand.tmp 5), type := 3, pos := "lexer.go:39", after := #[], guard := none } : Oper)) (v := ?_) rfl (by kernel_rfl) (by kernel_rfl) (by kernel_rfl) (fun _ _ _ h => h) (Or.inl ⟨by rfl, ?_⟩) (by assumption) ?_
      rotate_left 1
      · (intro w hSw; (try dsimp only at hSw); go_simp; (try with_reducible rfl))
      (try simp only [Act.put, List.setIfInBounds_toArray, List.set_cons_zero, List.set_cons_succ])
      refine wpAnyH_take (i := 2) (oi := ({ dst := some 37, op := Op.slice 9 (Operand.tmp 35) none (some (Operand.tmp 36)) none, type := 9, pos := "lexer.go:39", after := #[{ on := 0, ground := Ground.data }, { on := 1, ground := Ground.data }], guard := none } : Oper)) (v := ?_) rfl (by kernel_rfl) (by kernel_rfl) (by kernel_rfl) (fun _ _ _ h => h) (Or.inl ⟨by rfl, ?_⟩) (by assumption) ?_
      rotate_left 1
      · (intro w hSw; (try dsimp only at hSw); go_simp; (try with_reducible rfl))
      (try simp only [Act.put, List.setIfInBounds_toArray, List.set_cons_zero, List.set_cons_succ])
      refine wpAnyH_take (i := 4) (oi := ({ dst := some 39, op := Op.move (Operand.tmp 0), type := 9, pos := "lexer.go:39", after := #[], guard := none } : Oper)) (v := ?_) rfl (by kernel_rfl) (by kernel_rfl) (by kernel_rfl) (fun _ _ _ h => h) (Or.inl ⟨by rfl, ?_⟩) (by assumption) ?_
      rotate_left 1
      · (intro w hSw; (try dsimp only at hSw); go_simp; (try with_reducible rfl))
      (try simp only [Act.put, List.setIfInBounds_toArray, List.set_cons_zero, List.set_cons_succ])
      refine wpAnyH_take (i := 5) (oi := ({ dst := some 40, op := Op.move (Operand.tmp 5), type := 3, pos := "lexer.go:39", after := #[], guard := none } : Oper)) (v := ?_) rfl (by kernel_rfl) (by kernel_rfl) (by kernel_rfl) (fun _ _ _ h => h) (Or.inl ⟨by rfl, ?_⟩) (by assumption) ?_
      rotate_left 1
      · (intro w hSw; (try dsimp only at hSw); go_simp; (try with_reducible rfl))
      (try simp only [Act.put, List.setIfInBounds_toArray, List.set_cons_zero, List.set_cons_succ])
      refine wpAnyH_take (i := 6) (oi := ({ dst := some 41, op := Op.slice 9 (Operand.tmp 39) (some (Operand.tmp 40)) none none, type := 9, pos := "lexer.go:39", after := #[{ on := 4, ground := Ground.data }, { on := 5, ground := Ground.data }], guard := none } : Oper)) (v := ?_) rfl (by kernel_rfl) (by kernel_rfl) (by kernel_rfl) (fun _ _ _ h => h) (Or.inl ⟨by rfl, ?_⟩) (by assumption) ?_
      rotate_left 1
      · (intro w hSw; (try dsimp only at hSw); go_simp; (try with_reducible rfl))
      (try simp only [Act.put, List.setIfInBounds_toArray, List.set_cons_zero, List.set_cons_succ])
      refine wpAnyH_ready (rs := [3]) (by kernel_rfl) (by simp) ?_
      refine AllReadyH.cons (o := ({ dst := some 38, op := Op.call { callee := Callee.value (Operand.func 19), args := #[Operand.tmp 37], argTypes := #[9] }, type := 9, pos := "lexer.go:39", after := #[{ on := 2, ground := Ground.data }], guard := none } : Oper)) rfl (fun K hK => ?_) ?_
      rotate_left 1
      · exact AllReadyH.nil
      go_simp
      go_at_call 19
      ((with_reducible refine (T5.out _).mono ?_); rintro e v1 ⟨rfl, hb⟩; have S4 := Lib.hid (LxS.step (LxS.drew S3.out) hb); clear hb)
      first | (refine hK.out _ _ ?_ (fun hH1 => ?_)) | (go_wp2_with fail; refine hK.out _ _ ?_ (fun hH1 => ?_))
      · trivial
      clear hK K hH0
      (try simp only [Act.put, List.setIfInBounds_toArray, List.set_cons_zero, List.set_cons_succ])
      refine wpAnyH_take (i := 8) (oi := ({ dst := some 43, op := Op.fieldAddr 23 (Operand.tmp 4) 1, type := 0, pos := "lexer.go:39", after := #[{ on := 0, ground := Ground.phase }, { on := 1, ground := Ground.phase }, { on := 2, ground := Ground.phase }, { on := 3, ground := Ground.phase }, { on := 4, ground := Ground.textOnly Departure.lateStores }, { on := 5, ground := Ground.textOnly Departure.lateStores }, { on := 6, ground := Ground.textOnly Departure.lateStoresUnsure }, { on := 7, ground := Ground.textOnly Departure.lateStoresUnsure }], guard := none } : Oper)) (v := ?_) rfl (by kernel_rfl) (by kernel_rfl) (by kernel_rfl) (fun _ _ _ h => h) (Or.inl ⟨by rfl, ?_⟩) (by assumption) ?_
      rotate_left 1
      · (intro w hSw; (try dsimp only at hSw); go_simp; (try with_reducible rfl))
      (try simp only [Act.put, List.setIfInBounds_toArray, List.set_cons_zero, List.set_cons_succ])
      refine wpAnyH_ready (rs := [7]) (by kernel_rfl) (by simp) ?_
      refine AllReadyH.cons (o := ({ dst := some 42, op := Op.call { callee := Callee.value (Operand.func 20), args := #[Operand.tmp 41], argTypes := #[9] }, type := 9, pos := "lexer.go:39", after := #[{ on := 6, ground := Ground.data }, { on := 3, ground := Ground.chain }], guard := none } : Oper)) rfl (fun K hK => ?_) ?_
      rotate_left 1
      · exact AllReadyH.nil
      go_simp
      go_at_call 20
      ((with_reducible refine (T6.out _ (MG.out _ _ S4.out)).mono ?_); rintro e v2 ⟨rfl, hb⟩; have S5 := Lib.hid (S4.out.step hb); obtain ⟨c0, c1, c2⟩ := S5.out.2.2.c3s; have f1 := S5.out.2.2.frozen 1; have f2 := S5.out.2.2.frozen 2; clear hb)
      first | (refine hK.out _ _ ?_ (fun hH2 => ?_)) | (go_wp2_with fail; refine hK.out _ _ ?_ (fun hH2 => ?_))
      · trivial
      clear hK K hH1
      (try simp only [Act.put, List.setIfInBounds_toArray, List.set_cons_zero, List.set_cons_succ])
      refine wpAnyH_ready (rs := [9]) (by kernel_rfl) (by simp) ?_
      refine AllReadyH.cons (o := ({ dst := none, op := Op.store 9 (Operand.tmp 43) (Operand.tmp 38), type := 0, pos := "lexer.go:39", after := #[{ on := 8, ground := Ground.data }, { on := 3, ground := Ground.data }, { on := 7, ground := Ground.chain }, { on := 0, ground := Ground.phase }, { on := 1, ground := Ground.phase }, { on := 2, ground := Ground.phase }, { on := 3, ground := Ground.phase }, { on := 4, ground := Ground.textOnly Departure.lateStores }, { on := 5, ground := Ground.textOnly Departure.lateStores }, { on := 6, ground := Ground.textOnly Departure.lateStoresUnsure }, { on := 7, ground := Ground.textOnly Departure.lateStoresUnsure }], guard := none } : Oper)) rfl (fun K hK => ?_) ?_
      rotate_left 1
      · exact AllReadyH.nil
      go_simp
      first | (refine hK.out _ _ ?_ (fun hH3 => ?_)) | (go_wp2_with fail; refine hK.out _ _ ?_ (fun hH3 => ?_))
      · trivial
      clear hK K hH2
      (try simp only [Act.put, List.setIfInBounds_toArray, List.set_cons_zero, List.set_cons_succ])
      refine wpAnyH_take (i := 10) (oi := ({ dst := some 44, op := Op.fieldAddr 23 (Operand.tmp 4) 2, type := 0, pos := "lexer.go:39", after := #[{ on := 0, ground := Ground.phase }, { on := 1, ground := Ground.phase }, { on := 2, ground := Ground.phase }, { on := 3, ground := Ground.phase }, { on := 4, ground := Ground.phase }, { on := 5, ground := Ground.phase }, { on := 6, ground := Ground.phase }, { on := 7, ground := Ground.phase }, { on := 8, ground := Ground.phase }, { on := 9, ground := Ground.phase }], guard := none } : Oper)) (v := ?_) rfl (by kernel_rfl) (by kernel_rfl) (by kernel_rfl) (fun _ _ _ h => h) (Or.inl ⟨by rfl, ?_⟩) (by assumption) ?_
      rotate_left 1
      · (intro w hSw; (try dsimp only at hSw); go_simp; (try with_reducible rfl))
      (try simp only [Act.put, List.setIfInBounds_toArray, List.set_cons_zero, List.set_cons_succ])
      refine wpAnyH_ready (rs := [11]) (by kernel_rfl) (by simp) ?_
      refine AllReadyH.cons (o := ({ dst := none, op := Op.store 9 (Operand.tmp 44) (Operand.tmp 42), type := 0, pos := "lexer.go:39", after := #[{ on := 10, ground := Ground.data }, { on := 7, ground := Ground.data }, { on := 9, ground := Ground.chain }, { on := 0, ground := Ground.phase }, { on := 1, ground := Ground.phase }, { on := 2, ground := Ground.phase }, { on := 3, ground := Ground.phase }, { on := 4, ground := Ground.phase }, { on := 5, ground := Ground.phase }, { on := 6, ground := Ground.phase }, { on := 7, ground := Ground.phase }, { on := 8, ground := Ground.phase }, { on := 9, ground := Ground.phase }], guard := none } : Oper)) rfl (fun K hK => ?_) ?_
      rotate_left 1
      · exact AllReadyH.nil
      go_simp
      first | (refine hK.out _ _ ?_ (fun hH4 => ?_)) | (go_wp2_with fail; refine hK.out _ _ ?_ (fun hH4 => ?_))
      · trivial
      clear hK K hH3
      (try simp only [Act.put, List.setIfInBounds_toArray, List.set_cons_zero, List.set_cons_succ])
      refine wpAnyH_done (by kernel_rfl) ?_ _
      refine NoPanic.normal ?_
      clear c0 c1 c2 f1 f2 T3 T4
      obtain ⟨W6, hW6⟩ : ∃ W6, (v2.setCell ⟨g + 1, 1, none⟩ (.string OP)).setCell ⟨g + 1, 2, none⟩ (.string AR) = W6 := ⟨_, rfl⟩
      have P6 : Hid (Below g w W6 ∧ Blk W6 g 23 #[.string ⟨#[]⟩, .string ⟨#[]⟩, .string ⟨#[]⟩] ∧ Blk W6 (g + 1) 23 #[.string ⟨#[]⟩, .string OP, .string AR]) := Lib.hid (by rw [← hW6]; exact S5.out.set2 _ _)
      rw [hW6]
      obtain ⟨c0, c1, c2⟩ := P6.out.2.2.c3s
      obtain ⟨d0, d1, d2⟩ := P6.out.2.1.c3s
      have f0 := P6.out.2.1.frozen 0
      have f1 := P6.out.2.1.frozen 1
      have f2 := P6.out.2.1.frozen 2
      go_wp2
      exact bodyPost_ret (v := .tuple #[.agg #[.string ⟨#[]⟩, .string OP, .string AR], .int .i64 0]) (resLx _ _ g _ (Blk.set3s P6.out.2.1 _ _ _) rfl rfl 0 rfl) rfl ⟨by rw [HV.out], by rw [HG.out]; exact Below.set3s P6.out.1 _ _ _⟩
    · obtain ⟨c, r, hcr⟩ : ∃ c r, S = c :: r := by
        cases S with
        | nil => exact absurd rfl h0
        | cons c r => exact ⟨c, r, rfl⟩
      have e0 : TT.toList.isEmpty = false := by rw [← hTT, mkS_empty, hcr]; rfl
      have e1 : ∀ u, (Instr.slice 9 (.string TT) none (some (.int .i64 1)) none).run Tryd.prog u = .ok (.string ⟨#[c]⟩) u := fun u => by
        have h := sl_to S 1 (by rw [hcr]; simp) u
        rw [hTT, hcr] at h; exact h
      have hb : nBl c = false := by rw [hcr] at hh; exact hh
      have CC := Lib.hid (fun u => CC.out c u)
      have ec : decide (0 ≤ Lib.indexByte (⟨#[32, 9]⟩ : ByteArray).data.toList c) = true := has_blank c hb
      rw [ec] at CC
      rw [hTT] at CU T1
      clear hTT h0 hh hS HR hb ec hcr
      go_enter Tryd.func5, Tryd.ntmps5
      go_wp2_with fail
      refine (CU.out _ (MG.out _ _ S0.out)).mono ?_
      rintro e w1 ⟨⟨t, b, rfl⟩, q, hw⟩
      have S1 : Hid (LxS w w1 g (.string ⟨#[]⟩)) := Lib.hid (by rw [hw]; exact S0.out.drewN q)
      clear hw hW0 hg
      go_wp2_with fail
      refine (CC.out _).mono ?_
      rintro e w1' ⟨rfl, hw⟩
      rw [hw]
      clear hw
      go_wp2_with fail
      refine (T1.out _).mono ?_
      rintro e w2 ⟨rfl, hb⟩
      have S2 := Lib.hid (S1.out.step hb)
      clear hb
      go_wp2_with fail
      refine (T2.out _).mono ?_
      rintro e w3 ⟨rfl, hb⟩
      have S3 := Lib.hid (S2.out.step hb)
      clear hb
      go_upto_region 9 with (fail)
      refine wp_region_noPanic ?_
      refine wp_region_held_drew (S := (fun _ => True)) (by kernel_rfl) ?_ (fun hH0 => ?_)
      · trivial
      refine wpAnyH_take (i := 0) (oi := ({ dst := some 35, op := Op.move (Operand.tmp 0), type := 9, pos := "lexer.go:39", after := #[], guard := none } : Oper)) (v := ?_) rfl (by kernel_rfl) (by kernel_rfl) (by kernel_rfl) (fun _ _ _ h => h) (Or.inl ⟨by rfl, ?_⟩) (by assumption) ?_
      rotate_left 1
      · (intro w hSw; (try dsimp only at hSw); go_simp; (try with_reducible rfl))
      (try simp only [Act.put, List.setIfInBounds_toArray, List.set_cons_zero, List.set_cons_succ])
      refine wpAnyH_take (i := 1) (oi := ({ dst := some 36, op := Op.move (Operand.tmp 5), type := 3, pos := "lexer.go:39", after := #[], guard := none } : Oper)) (v := ?_) rfl (by kernel_rfl) (by kernel_rfl) (by kernel_rfl) (fun _ _ _ h => h) (Or.inl ⟨by rfl, ?_⟩) (by assumption) ?_
      rotate_left 1
      · (intro w hSw; (try dsimp only at hSw); go_simp; (try with_reducible rfl))
      (try simp only [Act.put, List.setIfInBounds_toArray, List.set_cons_zero, List.set_cons_succ])
      refine wpAnyH_take (i := 2) (oi := ({ dst := some 37, op := Op.slice 9 (Operand.tmp 35) none (some (Operand.tmp 36)) none, type := 9, pos := "lexer.go:39", after := #[{ on := 0, ground := Ground.data }, { on := 1, ground := Ground.data }], guard := none } : Oper)) (v := ?_) rfl (by kernel_rfl) (by kernel_rfl) (by kernel_rfl) (fun _ _ _ h => h) (Or.inl ⟨by rfl, ?_⟩) (by assumption) ?_
      rotate_left 1
      · (intro w hSw; (try dsimp only at hSw); go_simp; (try with_reducible rfl))
      (try simp only [Act.put, List.setIfInBounds_toArray, List.set_cons_zero, List.set_cons_succ])
      refine wpAnyH_take (i := 4) (oi := ({ dst := some 39, op := Op.move (Operand.tmp 0), type := 9, pos := "lexer.go:39", after := #[], guard := none } : Oper)) (v := ?_) rfl (by kernel_rfl) (by kernel_rfl) (by kernel_rfl) (fun _ _ _ h => h) (Or.inl ⟨by rfl, ?_⟩) (by assumption) ?_
      rotate_left 1
      · (intro w hSw; (try dsimp only at hSw); go_simp; (try with_reducible rfl))
      (try simp only [Act.put, List.setIfInBounds_toArray, List.set_cons_zero, List.set_cons_succ])
      refine wpAnyH_take (i := 5) (oi := ({ dst := some 40, op := Op.move (Operand.tmp 5), type := 3, pos := "lexer.go:39", after := #[], guard := none } : Oper)) (v := ?_) rfl (by kernel_rfl) (by kernel_rfl) (by kernel_rfl) (fun _ _ _ h => h) (Or.inl ⟨by rfl, ?_⟩) (by assumption) ?_
      rotate_left 1
      · (intro w hSw; (try dsimp only at hSw); go_simp; (try with_reducible rfl))
      (try simp only [Act.put, List.setIfInBounds_toArray, List.set_cons_zero, List.set_cons_succ])
      refine wpAnyH_take (i := 6) (oi := ({ dst := some 41, op := Op.slice 9 (Operand.tmp 39) (some (Operand.tmp 40)) none none, type := 9, pos := "lexer.go:39", after := #[{ on := 4, ground := Ground.data }, { on := 5, ground := Ground.data }], guard := none } : Oper)) (v := ?_) rfl (by kernel_rfl) (by kernel_rfl) (by kernel_rfl) (fun _ _ _ h => h) (Or.inl ⟨by rfl, ?_⟩) (by assumption) ?_
      rotate_left 1
      · (intro w hSw; (try dsimp only at hSw); go_simp; (try with_reducible rfl))
      (try simp only [Act.put, List.setIfInBounds_toArray, List.set_cons_zero, List.set_cons_succ])
      refine wpAnyH_ready (rs := [3]) (by kernel_rfl) (by simp) ?_
      refine AllReadyH.cons (o := ({ dst := some 38, op := Op.call { callee := Callee.value (Operand.func 19), args := #[Operand.tmp 37], argTypes := #[9] }, type := 9, pos := "lexer.go:39", after := #[{ on := 2, ground := Ground.data }], guard := none } : Oper)) rfl (fun K hK => ?_) ?_
      rotate_left 1
      · exact AllReadyH.nil
      go_simp
      go_at_call 19
      ((with_reducible refine (T5.out _).mono ?_); rintro e v1 ⟨rfl, hb⟩; have S4 := Lib.hid (LxS.step (LxS.drew S3.out) hb); clear hb)
      first | (refine hK.out _ _ ?_ (fun hH1 => ?_)) | (go_wp2_with fail; refine hK.out _ _ ?_ (fun hH1 => ?_))
      · trivial
      clear hK K hH0
      (try simp only [Act.put, List.setIfInBounds_toArray, List.set_cons_zero, List.set_cons_succ])
      refine wpAnyH_take (i := 8) (oi := ({ dst := some 43, op := Op.fieldAddr 23 (Operand.tmp 4) 1, type := 0, pos := "lexer.go:39", after := #[{ on := 0, ground := Ground.phase }, { on := 1, ground := Ground.phase }, { on := 2, ground := Ground.phase }, { on := 3, ground := Ground.phase }, { on := 4, ground := Ground.textOnly Departure.lateStores }, { on := 5, ground := Ground.textOnly Departure.lateStores }, { on := 6, ground := Ground.textOnly Departure.lateStoresUnsure }, { on := 7, ground := Ground.textOnly Departure.lateStoresUnsure }], guard := none } : Oper)) (v := ?_) rfl (by kernel_rfl) (by kernel_rfl) (by kernel_rfl) (fun _ _ _ h => h) (Or.inl ⟨by rfl, ?_⟩) (by assumption) ?_
      rotate_left 1
      · (intro w hSw; (try dsimp only at hSw); go_simp; (try with_reducible rfl))
      (try simp only [Act.put, List.setIfInBounds_toArray, List.set_cons_zero, List.set_cons_succ])
      refine wpAnyH_ready (rs := [7]) (by kernel_rfl) (by simp) ?_
      refine AllReadyH.cons (o := ({ dst := some 42, op := Op.call { callee := Callee.value (Operand.func 20), args := #[Operand.tmp 41], argTypes := #[9] }, type := 9, pos := "lexer.go:39", after := #[{ on := 6, ground := Ground.data }, { on := 3, ground := Ground.chain }], guard := none } : Oper)) rfl (fun K hK => ?_) ?_
      rotate_left 1
      · exact AllReadyH.nil
      go_simp
      go_at_call 20
      ((with_reducible refine (T6.out _ (MG.out _ _ S4.out)).mono ?_); rintro e v2 ⟨rfl, hb⟩; have S5 := Lib.hid (S4.out.step hb); obtain ⟨c0, c1, c2⟩ := S5.out.2.2.c3s; have f1 := S5.out.2.2.frozen 1; have f2 := S5.out.2.2.frozen 2; clear hb)
      first | (refine hK.out _ _ ?_ (fun hH2 => ?_)) | (go_wp2_with fail; refine hK.out _ _ ?_ (fun hH2 => ?_))
      · trivial
      clear hK K hH1
      (try simp only [Act.put, List.setIfInBounds_toArray, List.set_cons_zero, List.set_cons_succ])
      refine wpAnyH_ready (rs := [9]) (by kernel_rfl) (by simp) ?_
      refine AllReadyH.cons (o := ({ dst := none, op := Op.store 9 (Operand.tmp 43) (Operand.tmp 38), type := 0, pos := "lexer.go:39", after := #[{ on := 8, ground := Ground.data }, { on := 3, ground := Ground.data }, { on := 7, ground := Ground.chain }, { on := 0, ground := Ground.phase }, { on := 1, ground := Ground.phase }, { on := 2, ground := Ground.phase }, { on := 3, ground := Ground.phase }, { on := 4, ground := Ground.textOnly Departure.lateStores }, { on := 5, ground := Ground.textOnly Departure.lateStores }, { on := 6, ground := Ground.textOnly Departure.lateStoresUnsure }, { on := 7, ground := Ground.textOnly Departure.lateStoresUnsure }], guard := none } : Oper)) rfl (fun K hK => ?_) ?_
      rotate_left 1
      · exact AllReadyH.nil
      go_simp
      first | (refine hK.out _ _ ?_ (fun hH3 => ?_)) | (go_wp2_with fail; refine hK.out _ _ ?_ (fun hH3 => ?_))
      · trivial
      clear hK K hH2
      (try simp only [Act.put, List.setIfInBounds_toArray, List.set_cons_zero, List.set_cons_succ])
      refine wpAnyH_take (i := 10) (oi := ({ dst := some 44, op := Op.fieldAddr 23 (Operand.tmp 4) 2, type := 0, pos := "lexer.go:39", after := #[{ on := 0, ground := Ground.phase }, { on := 1, ground := Ground.phase }, { on := 2, ground := Ground.phase }, { on := 3, ground := Ground.phase }, { on := 4, ground := Ground.phase }, { on := 5, ground := Ground.phase }, { on := 6, ground := Ground.phase }, { on := 7, ground := Ground.phase }, { on := 8, ground := Ground.phase }, { on := 9, ground := Ground.phase }], guard := none } : Oper)) (v := ?_) rfl (by kernel_rfl) (by kernel_rfl) (by kernel_rfl) (fun _ _ _ h => h) (Or.inl ⟨by rfl, ?_⟩) (by assumption) ?_
      rotate_left 1
      · (intro w hSw; (try dsimp only at hSw); go_simp; (try with_reducible rfl))
      (try simp only [Act.put, List.setIfInBounds_toArray, List.set_cons_zero, List.set_cons_succ])
      refine wpAnyH_ready (rs := [11]) (by kernel_rfl) (by simp) ?_
      refine AllReadyH.cons (o := ({ dst := none, op := Op.store 9 (Operand.tmp 44) (Operand.tmp 42), type := 0, pos := "lexer.go:39", after := #[{ on := 10, ground := Ground.data }, { on := 7, ground := Ground.data }, { on := 9, ground := Ground.chain }, { on := 0, ground := Ground.phase }, { on := 1, ground := Ground.phase }, { on := 2, ground := Ground.phase }, { on := 3, ground := Ground.phase }, { on := 4, ground := Ground.phase }, { on := 5, ground := Ground.phase }, { on := 6, ground := Ground.phase }, { on := 7, ground := Ground.phase }, { on := 8, ground := Ground.phase }, { on := 9, ground := Ground.phase }], guard := none } : Oper)) rfl (fun K hK => ?_) ?_
      rotate_left 1
      · exact AllReadyH.nil
      go_simp
      first | (refine hK.out _ _ ?_ (fun hH4 => ?_)) | (go_wp2_with fail; refine hK.out _ _ ?_ (fun hH4 => ?_))
      · trivial
      clear hK K hH3
      (try simp only [Act.put, List.setIfInBounds_toArray, List.set_cons_zero, List.set_cons_succ])
      refine wpAnyH_done (by kernel_rfl) ?_ _
      refine NoPanic.normal ?_
      clear c0 c1 c2 f1 f2 T3 T4
      obtain ⟨W6, hW6⟩ : ∃ W6, (v2.setCell ⟨g + 1, 1, none⟩ (.string OP)).setCell ⟨g + 1, 2, none⟩ (.string AR) = W6 := ⟨_, rfl⟩
      have P6 : Hid (Below g w W6 ∧ Blk W6 g 23 #[.string ⟨#[]⟩, .string ⟨#[]⟩, .string ⟨#[]⟩] ∧ Blk W6 (g + 1) 23 #[.string ⟨#[]⟩, .string OP, .string AR]) := Lib.hid (by rw [← hW6]; exact S5.out.set2 _ _)
      rw [hW6]
      obtain ⟨c0, c1, c2⟩ := P6.out.2.2.c3s
      obtain ⟨d0, d1, d2⟩ := P6.out.2.1.c3s
      have f0 := P6.out.2.1.frozen 0
      have f1 := P6.out.2.1.frozen 1
      have f2 := P6.out.2.1.frozen 2
      go_wp2
      exact bodyPost_ret (v := .tuple #[.agg #[.string ⟨#[]⟩, .string OP, .string AR], .int .i64 0]) (resLx _ _ g _ (Blk.set3s P6.out.2.1 _ _ _) rfl rfl 0 rfl) rfl ⟨by rw [HV.out], by rw [HG.out]; exact Below.set3s P6.out.1 _ _ _⟩
  · obtain ⟨c, r, hcr⟩ : ∃ c r, S = c :: r := by
      cases S with
      | nil => exact absurd hh (by decide)
      | cons c r => exact ⟨c, r, rfl⟩
    obtain ⟨TT, hTT⟩ : ∃ TT, mkS S = TT := ⟨_, rfl⟩
    have e0 : TT.toList.isEmpty = false := by rw [← hTT, mkS_empty, hcr]; rfl
    have e1 : ∀ u, (Instr.slice 9 (.string TT) none (some (.int .i64 1)) none).run Tryd.prog u = .ok (.string ⟨#[c]⟩) u := fun u => by
      have h := sl_to S 1 (by rw [hcr]; simp) u
      rw [hTT, hcr] at h; exact h
    have hb : nBl c = true := by rw [hcr] at hh; exact hh
    have CC := Lib.hid (fun u => Tryd.strings_Contains_one ⟨#[32, 9]⟩ c u)
    have ec : decide (0 ≤ Lib.indexByte (⟨#[32, 9]⟩ : ByteArray).data.toList c) = false := no_blank c hb
    rw [ec] at CC
    have CL := Lib.hid (fun u => lxLabel_any S hS u)
    have CR := Lib.hid (fun u => symRight_any (mkS (lxLab S)) u)
    rw [nums_mkS] at CR
    rw [hTT] at CU CL
    have hB : (lxBeh S).length ≤ 1000000 := Nat.le_trans (lxBeh_le S) hS
    rw [hh, if_pos rfl] at HR
    clear hTT hh hb ec hcr
    obtain ⟨LB, hLB⟩ : ∃ LB, mkS (lxLab S) = LB := ⟨_, rfl⟩
    cases hr : rightL (nmL (lxLab S))
    · have HV : Hid (lxV R = .tuple #[.agg #[.string ⟨#[]⟩, .string ⟨#[]⟩, .string ⟨#[]⟩], .int .i64 40]) := Lib.hid (by rw [HR.out, hr, if_neg (by decide)]; rfl)
      rw [hr] at CR
      rw [hLB] at CL CR
      clear hr hB hS HR hLB
      go_enter Tryd.func5, Tryd.ntmps5
      go_wp2_with fail
      refine (CU.out _ (MG.out _ _ S0.out)).mono ?_
      rintro e w1 ⟨⟨t, b, rfl⟩, q, hw⟩
      have S1 : Hid (LxS w w1 g (.string ⟨#[]⟩)) := Lib.hid (by rw [hw]; exact S0.out.drewN q)
      clear hw hW0 hg
      go_wp2_with fail
      refine (CC.out _).mono ?_
      rintro e w1' ⟨rfl, hw⟩
      rw [hw]
      clear hw
      go_wp2_with fail
      refine (CL.out _).mono ?_
      rintro e w2 ⟨rfl, hb⟩
      have S2 := Lib.hid (S1.out.step hb)
      clear hb
      obtain ⟨c0, c1, c2⟩ := S2.out.2.2.c3s
      have f0 := S2.out.2.2.frozen 0
      obtain ⟨W3, hW3⟩ : ∃ W3, w2.setCell ⟨g + 1, 0, none⟩ (.string LB) = W3 := ⟨_, rfl⟩
      have S3 : Hid (LxS w W3 g (.string LB)) := Lib.hid (by rw [← hW3]; exact S2.out.set _)
      have k0 := S3.out.2.2.c3s.1
      go_wp2_with fail
      refine (CR.out _).mono ?_
      rintro e w4 ⟨rfl, rfl⟩
      clear c0 c1 c2 f0 k0 e1
      obtain ⟨d0, d1, d2⟩ := S3.out.2.1.c3s
      have f0 := S3.out.2.1.frozen 0
      have f1 := S3.out.2.1.frozen 1
      have f2 := S3.out.2.1.frozen 2
      go_wp2
      exact bodyPost_ret (v := .tuple #[.agg #[.string ⟨#[]⟩, .string ⟨#[]⟩, .string ⟨#[]⟩], .int .i64 40]) (resLx _ _ g _ (Blk.set3s S3.out.2.1 _ _ _) rfl rfl 40 rfl) rfl ⟨by rw [HV.out], by rw [HG.out]; exact Below.set3s S3.out.1 _ _ _⟩
    · have HV : Hid (lxV R = .tuple #[.agg #[.string (mkS (lxLab S)), .string (mkS (lxOp (lxBeh S))), .string (mkS (lxArg (lxBeh S)))], .int .i64 0]) := Lib.hid (by rw [HR.out, hr, if_pos rfl]; rfl)
      rw [hr] at CR
      rw [hLB] at CL CR HV
      obtain ⟨Y, P, Q, n, T1, T2, T3, T4, T5, T6⟩ := tailF (lxBeh S) hB
      obtain ⟨OP, hOP⟩ : ∃ OP, mkS (lxOp (lxBeh S)) = OP := ⟨_, rfl⟩
      obtain ⟨AR, hAR⟩ : ∃ AR, mkS (lxArg (lxBeh S)) = AR := ⟨_, rfl⟩
      rw [hOP] at T5
      rw [hAR] at T6
      rw [hOP, hAR] at HV
      have T1 := Lib.hid T1
      have T2 := Lib.hid T2
      have T5 := Lib.hid T5
      have T6 := Lib.hid T6
      clear hOP hAR
      clear hr hB hS HR hLB
      go_enter Tryd.func5, Tryd.ntmps5
      go_wp2_with fail
      refine (CU.out _ (MG.out _ _ S0.out)).mono ?_
      rintro e w1 ⟨⟨t, b, rfl⟩, q, hw⟩
      have S1 : Hid (LxS w w1 g (.string ⟨#[]⟩)) := Lib.hid (by rw [hw]; exact S0.out.drewN q)
      clear hw hW0 hg
      go_wp2_with fail
      refine (CC.out _).mono ?_
      rintro e w1' ⟨rfl, hw⟩
      rw [hw]
      clear hw
      go_wp2_with fail
      refine (CL.out _).mono ?_
      rintro e w2 ⟨rfl, hb⟩
      have S2 := Lib.hid (S1.out.step hb)
      clear hb
      obtain ⟨c0, c1, c2⟩ := S2.out.2.2.c3s
      have f0 := S2.out.2.2.frozen 0
      obtain ⟨W3, hW3⟩ : ∃ W3, w2.setCell ⟨g + 1, 0, none⟩ (.string LB) = W3 := ⟨_, rfl⟩
      have S3 : Hid (LxS w W3 g (.string LB)) := Lib.hid (by rw [← hW3]; exact S2.out.set _)
      have k0 := S3.out.2.2.c3s.1
      go_wp2_with fail
      refine (CR.out _).mono ?_
      rintro e w4 ⟨rfl, rfl⟩
      clear c0 c1 c2 f0 k0 e1
      go_wp2_with fail
      refine (T1.out _).mono ?_
      rintro e w2 ⟨rfl, hb⟩
      have S2 := Lib.hid (S3.out.step hb)
      clear hb
      go_wp2_with fail
      refine (T2.out _).mono ?_
      rintro e w3 ⟨rfl, hb⟩
      have S3 := Lib.hid (S2.out.step hb)
      clear hb
      go_upto_region 9 with (fail)
      refine wp_region_noPanic ?_
      refine wp_region_held_drew (S := (fun _ => True)) (by kernel_rfl) ?_ (fun hH0 => ?_)
      · trivial
      refine wpAnyH_take (i := 0) (oi := ({ dst := some 35, op := Op.move (Operand.tmp 0), type := 9, pos := "lexer.go:39", after := #[], guard := none } : Oper)) (v := ?_) rfl (by kernel_rfl) (by kernel_rfl) (by kernel_rfl) (fun _ _ _ h => h) (Or.inl ⟨by rfl, ?_⟩) (by assumption) ?_
      rotate_left 1
      · (intro w hSw; (try dsimp only at hSw); go_simp; (try with_reducible rfl))
      (try simp only [Act.put, List.setIfInBounds_toArray, List.set_cons_zero, List.set_cons_succ])
      refine wpAnyH_take (i := 1) (oi := ({ dst := some 36, op := Op.move (Operand.tmp 5), type := 3, pos := "lexer.go:39", after := #[], guard := none } : Oper)) (v := ?_) rfl (by kernel_rfl) (by kernel_rfl) (by kernel_rfl) (fun _ _ _ h => h) (Or.inl ⟨by rfl, ?_⟩) (by assumption) ?_
      rotate_left 1
      · (intro w hSw; (try dsimp only at hSw); go_simp; (try with_reducible rfl))
      (try simp only [Act.put, List.setIfInBounds_toArray, List.set_cons_zero, List.set_cons_succ])
      refine wpAnyH_take (i := 2) (oi := ({ dst := some 37, op := Op.slice 9 (Operand.tmp 35) none (some (Operand.tmp 36)) none, type := 9, pos := "lexer.go:39", after := #[{ on := 0, ground := Ground.data }, { on := 1, ground := Ground.data }], guard := none } : Oper)) (v := ?_) rfl (by kernel_rfl) (by kernel_rfl) (by kernel_rfl) (fun _ _ _ h => h) (Or.inl ⟨by rfl, ?_⟩) (by assumption) ?_
      rotate_left 1
      · (intro w hSw; (try dsimp only at hSw); go_simp; (try with_reducible rfl))
      (try simp only [Act.put, List.setIfInBounds_toArray, List.set_cons_zero, List.set_cons_succ])
      refine wpAnyH_take (i := 4) (oi := ({ dst := some 39, op := Op.move (Operand.tmp 0), type := 9, pos := "lexer.go:39", after := #[], guard := none } : Oper)) (v := ?_) rfl (by kernel_rfl) (by kernel_rfl) (by kernel_rfl) (fun _ _ _ h => h) (Or.inl ⟨by rfl, ?_⟩) (by assumption) ?_
      rotate_left 1
      · (intro w hSw; (try dsimp only at hSw); go_simp; (try with_reducible rfl))
      (try simp only [Act.put, List.setIfInBounds_toArray, List.set_cons_zero, List.set_cons_succ])
      refine wpAnyH_take (i := 5) (oi := ({ dst := some 40, op := Op.move (Operand.tmp 5), type := 3, pos := "lexer.go:39", after := #[], guard := none } : Oper)) (v := ?_) rfl (by kernel_rfl) (by kernel_rfl) (by kernel_rfl) (fun _ _ _ h => h) (Or.inl ⟨by rfl, ?_⟩) (by assumption) ?_
      rotate_left 1
      · (intro w hSw; (try dsimp only at hSw); go_simp; (try with_reducible rfl))
      (try simp only [Act.put, List.setIfInBounds_toArray, List.set_cons_zero, List.set_cons_succ])
      refine wpAnyH_take (i := 6) (oi := ({ dst := some 41, op := Op.slice 9 (Operand.tmp 39) (some (Operand.tmp 40)) none none, type := 9, pos := "lexer.go:39", after := #[{ on := 4, ground := Ground.data }, { on := 5, ground := Ground.data }], guard := none } : Oper)) (v := ?_) rfl (by kernel_rfl) (by kernel_rfl) (by kernel_rfl) (fun _ _ _ h => h) (Or.inl ⟨by rfl, ?_⟩) (by assumption) ?_
      rotate_left 1
      · (intro w hSw; (try dsimp only at hSw); go_simp; (try with_reducible rfl))
      (try simp only [Act.put, List.setIfInBounds_toArray, List.set_cons_zero, List.set_cons_succ])
      refine wpAnyH_ready (rs := [3]) (by kernel_rfl) (by simp) ?_
      refine AllReadyH.cons (o := ({ dst := some 38, op := Op.call { callee := Callee.value (Operand.func 19), args := #[Operand.tmp 37], argTypes := #[9] }, type := 9, pos := "lexer.go:39", after := #[{ on := 2, ground := Ground.data }], guard := none } : Oper)) rfl (fun K hK => ?_) ?_
      rotate_left 1
      · exact AllReadyH.nil
      go_simp
      go_at_call 19
      ((with_reducible refine (T5.out _).mono ?_); rintro e v1 ⟨rfl, hb⟩; have S4 := Lib.hid (LxS.step (LxS.drew S3.out) hb); clear hb)
      first | (refine hK.out _ _ ?_ (fun hH1 => ?_)) | (go_wp2_with fail; refine hK.out _ _ ?_ (fun hH1 => ?_))
      · trivial
      clear hK K hH0
      (try simp only [Act.put, List.setIfInBounds_toArray, List.set_cons_zero, List.set_cons_succ])
      refine wpAnyH_take (i := 8) (oi := ({ dst := some 43, op := Op.fieldAddr 23 (Operand.tmp 4) 1, type := 0, pos := "lexer.go:39", after := #[{ on := 0, ground := Ground.phase }, { on := 1, ground := Ground.phase }, { on := 2, ground := Ground.phase }, { on := 3, ground := Ground.phase }, { on := 4, ground := Ground.textOnly Departure.lateStores }, { on := 5, ground := Ground.textOnly Departure.lateStores }, { on := 6, ground := Ground.textOnly Departure.lateStoresUnsure }, { on := 7, ground := Ground.textOnly Departure.lateStoresUnsure }], guard := none } : Oper)) (v := ?_) rfl (by kernel_rfl) (by kernel_rfl) (by kernel_rfl) (fun _ _ _ h => h) (Or.inl ⟨by rfl, ?_⟩) (by assumption) ?_
      rotate_left 1
      · (intro w hSw; (try dsimp only at hSw); go_simp; (try with_reducible rfl))
      (try simp only [Act.put, List.setIfInBounds_toArray, List.set_cons_zero, List.set_cons_succ])
      refine wpAnyH_ready (rs := [7]) (by kernel_rfl) (by simp) ?_
      refine AllReadyH.cons (o := ({ dst := some 42, op := Op.call { callee := Callee.value (Operand.func 20), args := #[Operand.tmp 41], argTypes := #[9] }, type := 9, pos := "lexer.go:39", after := #[{ on := 6, ground := Ground.data }, { on := 3, ground := Ground.chain }], guard := none } : Oper)) rfl (fun K hK => ?_) ?_
      rotate_left 1
      · exact AllReadyH.nil
      go_simp
      go_at_call 20
      ((with_reducible refine (T6.out _ (MG.out _ _ S4.out)).mono ?_); rintro e v2 ⟨rfl, hb⟩; have S5 := Lib.hid (S4.out.step hb); obtain ⟨c0, c1, c2⟩ := S5.out.2.2.c3s; have f1 := S5.out.2.2.frozen 1; have f2 := S5.out.2.2.frozen 2; clear hb)
      first | (refine hK.out _ _ ?_ (fun hH2 => ?_)) | (go_wp2_with fail; refine hK.out _ _ ?_ (fun hH2 => ?_))
      · trivial
      clear hK K hH1
      (try simp only [Act.put, List.setIfInBounds_toArray, List.set_cons_zero, List.set_cons_succ])
      refine wpAnyH_ready (rs := [9]) (by kernel_rfl) (by simp) ?_
      refine AllReadyH.cons (o := ({ dst := none, op := Op.store 9 (Operand.tmp 43) (Operand.tmp 38), type := 0, pos := "lexer.go:39", after := #[{ on := 8, ground := Ground.data }, { on := 3, ground := Ground.data }, { on := 7, ground := Ground.chain }, { on := 0, ground := Ground.phase }, { on := 1, ground := Ground.phase }, { on := 2, ground := Ground.phase }, { on := 3, ground := Ground.phase }, { on := 4, ground := Ground.textOnly Departure.lateStores }, { on := 5, ground := Ground.textOnly Departure.lateStores }, { on := 6, ground := Ground.textOnly Departure.lateStoresUnsure }, { on := 7, ground := Ground.textOnly Departure.lateStoresUnsure }], guard := none } : Oper)) rfl (fun K hK => ?_) ?_
      rotate_left 1
      · exact AllReadyH.nil
      go_simp
      first | (refine hK.out _ _ ?_ (fun hH3 => ?_)) | (go_wp2_with fail; refine hK.out _ _ ?_ (fun hH3 => ?_))
      · trivial
      clear hK K hH2
      (try simp only [Act.put, List.setIfInBounds_toArray, List.set_cons_zero, List.set_cons_succ])
      refine wpAnyH_take (i := 10) (oi := ({ dst := some 44, op := Op.fieldAddr 23 (Operand.tmp 4) 2, type := 0, pos := "lexer.go:39", after := #[{ on := 0, ground := Ground.phase }, { on := 1, ground := Ground.phase }, { on := 2, ground := Ground.phase }, { on := 3, ground := Ground.phase }, { on := 4, ground := Ground.phase }, { on := 5, ground := Ground.phase }, { on := 6, ground := Ground.phase }, { on := 7, ground := Ground.phase }, { on := 8, ground := Ground.phase }, { on := 9, ground := Ground.phase }], guard := none } : Oper)) (v := ?_) rfl (by kernel_rfl) (by kernel_rfl) (by kernel_rfl) (fun _ _ _ h => h) (Or.inl ⟨by rfl, ?_⟩) (by assumption) ?_
      rotate_left 1
      · (intro w hSw; (try dsimp only at hSw); go_simp; (try with_reducible rfl))
      (try simp only [Act.put, List.setIfInBounds_toArray, List.set_cons_zero, List.set_cons_succ])
      refine wpAnyH_ready (rs := [11]) (by kernel_rfl) (by simp) ?_
      refine AllReadyH.cons (o := ({ dst := none, op := Op.store 9 (Operand.tmp 44) (Operand.tmp 42), type := 0, pos := "lexer.go:39", after := #[{ on := 10, ground := Ground.data }, { on := 7, ground := Ground.data }, { on := 9, ground := Ground.chain }, { on := 0, ground := Ground.phase }, { on := 1, ground := Ground.phase }, { on := 2, ground := Ground.phase }, { on := 3, ground := Ground.phase }, { on := 4, ground := Ground.phase }, { on := 5, ground := Ground.phase }, { on := 6, ground := Ground.phase }, { on := 7, ground := Ground.phase }, { on := 8, ground := Ground.phase }, { on := 9, ground := Ground.phase }], guard := none } : Oper)) rfl (fun K hK => ?_) ?_
      rotate_left 1
      · exact AllReadyH.nil
      go_simp
      first | (refine hK.out _ _ ?_ (fun hH4 => ?_)) | (go_wp2_with fail; refine hK.out _ _ ?_ (fun hH4 => ?_))
      · trivial
      clear hK K hH3
      (try simp only [Act.put, List.setIfInBounds_toArray, List.set_cons_zero, List.set_cons_succ])
      refine wpAnyH_done (by kernel_rfl) ?_ _
      refine NoPanic.normal ?_
      clear c0 c1 c2 f1 f2 T3 T4
      obtain ⟨W6, hW6⟩ : ∃ W6, (v2.setCell ⟨g + 1, 1, none⟩ (.string OP)).setCell ⟨g + 1, 2, none⟩ (.string AR) = W6 := ⟨_, rfl⟩
      have P6 : Hid (Below g w W6 ∧ Blk W6 g 23 #[.string ⟨#[]⟩, .string ⟨#[]⟩, .string ⟨#[]⟩] ∧ Blk W6 (g + 1) 23 #[.string LB, .string OP, .string AR]) := Lib.hid (by rw [← hW6]; exact S5.out.set2 _ _)
      rw [hW6]
      obtain ⟨c0, c1, c2⟩ := P6.out.2.2.c3s
      obtain ⟨d0, d1, d2⟩ := P6.out.2.1.c3s
      have f0 := P6.out.2.1.frozen 0
      have f1 := P6.out.2.1.frozen 1
      have f2 := P6.out.2.1.frozen 2
      go_wp2
      exact bodyPost_ret (v := .tuple #[.agg #[.string LB, .string OP, .string AR], .int .i64 0]) (resLx _ _ g _ (Blk.set3s P6.out.2.1 _ _ _) rfl rfl 0 rfl) rfl ⟨by rw [HV.out], by rw [HG.out]; exact Below.set3s P6.out.1 _ _ _⟩
end Go.Proofs.YtmdpgekbiohfbaaDoor
