/- The law LineSays: what an operand says has a postbyte. -/
import Derived.Test.YteaajmoclgfhnabDoorLsn
import Derived.Test.YteaajmoclgfhnabDoorLiv
import Derived.Test.YteaajmoclgfhnabDoorPostC
import Derived.Test.YteaajmoclgfhnabDoorLaidS
import Derived.Test.YteaajmoclgfhnabDoorStrTab
import Derived.Deep.RegionHeld3
namespace Go.Proofs.YteaajmoclgfhnabDoor
open Go.ChangeShapes Go.WideShapes Go.ChangeAt Go.RowKit
set_option linter.unusedVariables false

theorem OneLaid.strsS {P : Program} {W : World} {name : String} {ss : List (List UInt8)} {g : Nat} {t e : TypeId} {n : Nat}
    (h : OneLaid P W name (strData ss)) (hg : P.globalNamed name = some g) (hty : (P.globals[g]?).map (·.type) = some t) (ht : P.underlying t = some (.array n e)) (he : P.underlying e = some .string) (hce : P.cellsOf e = 1) (hct : P.cellsOf t = n)
    (i : Nat) (hi : i < ss.length) : W.cell? ⟨g, i, none⟩ = some (.string (byteStr ss[i])) := by
  obtain ⟨g', t', cs, fuel, p, hg', ht', hvar, hd⟩ := h
  obtain rfl := Option.some.inj (hg.symm.trans hg')
  obtain rfl := Option.some.inj (hty.symm.trans ht')
  have h1 := strCells ht he hce hct hd i hi
  rw [World.var?_cell hg hvar i, ← h1]
  simp
def kindsS : List Int := [7, 8, 9, 10, 0, 5, 4, 0, 2, 3, 0, 6, 11, 12, 0, 13]
theorem kindsS_at : ∀ k : Fin 16, kindsS.getD k.val 0 = (kinds16 k.val : Int) := by decide +kernel
theorem lsy_of_laid {W : World} (h : laidMetH Tryd.prog [("spinet/post.kinds", Lib.tabData .i64 kindsS), ("spinet/ops.registers", strData regNames)] W) : KindsAt W ∧ OregAt W := by
  rw [MakeChecks.laidMetH_plain _ _ _ (by rfl)] at h
  obtain ⟨ps, h, _⟩ := h
  obtain ⟨h1, p1, h⟩ := laidVars_cons h
  obtain ⟨h2, p2, h⟩ := laidVars_cons h
  refine ⟨fun k hk => ?_, fun k hk => ?_⟩
  · have := h1.ints (g := 0) (t := 68) (e := 3) (n := 16) (by kernel_rfl) (by kernel_rfl) Tryd.underlying68 Tryd.underlying3 (by kernel_rfl) (by kernel_rfl) k hk
    rw [this, kindsS_at ⟨k, hk⟩]
  · have hlen : regNames.length = 12 := rfl
    have := h2.strsS (g := 1) (t := 85) (e := 9) (n := 12) (by kernel_rfl) (by kernel_rfl) Tryd.underlying85 Tryd.underlying9 (by kernel_rfl) (by kernel_rfl) k (by omega)
    rw [this]
    unfold regS
    rw [List.getD_eq_getElem?_getD, List.getElem?_eq_getElem (by omega)]; rfl
theorem kinds_lt {w : World} (h : KindsAt w) : 0 < w.heap.size := cell_lt (h 0 (by decide))
theorem kinds_belowS {w w' : World} (h : KindsAt w) (hb : Below w.heap.size w w') : KindsAt w' := fun k hk => (hb.cell (p := ⟨0, k, none⟩) (kinds_lt h)).trans (h k hk)
theorem eql_postS (w : World) (k r o : Int) (d : Bool) : (binOp .eql 31 (.agg #[.int .i64 k, .int .i64 r, .int .u16 o, .bool d]) (.agg #[.int .i64 k, .int .i64 r, .int .u16 o, .bool d])).run Tryd.prog w = .ok (.bool true) w := by
  have := eql_post w k r o k r o d d
  simpa [postA] using this
/-- The postbyte of an operand says it again. -/
theorem of_code (k r o : Int) (d : Bool) (h : codeL k r o d < 256) (u : World) (hK : KindsAt u) :
    Calls Tryd.prog 13 #[.int .u8 ((codeL k r o d : Nat) : Int)] u fun e w' => e = .returned (.agg #[.int .i64 k, .int .i64 r, .int .u16 o, .bool d]) ∧ Below u.heap.size u w' := by
  have hh := fnd_true (hitL k r o d) 256 0 (by rw [Nat.zero_add]; exact h)
  unfold hitL at hh
  rw [Bool.and_eq_true, hitQ_iff] at hh
  obtain ⟨⟨e1, e2, e3, e4⟩, _⟩ := hh
  have hc := of_any (codeL k r o d) h u hK
  have f1 : k = (poK (codeL k r o d) : Int) := e1
  have f2 : r = (poR (codeL k r o d) : Int) := e2
  have f3 : o = (poO (codeL k r o d) : Int) := e3
  have f4 : d = poI (codeL k r o d) := e4
  rw [← f1, ← f2, ← f3, ← f4] at hc
  exact hc
set_option maxRecDepth 100000 in
set_option maxHeartbeats 4000000 in
theorem law_says (s : ByteArray) (w : World) (hT : OregAt w) (hK : KindsAt w) :
    Calls Tryd.prog 5 #[.string s] w fun e w' => e = .returned (.bool true) ∧ Below w.heap.size w w' := by
  by_cases h100 : s.size ≤ 100
  · have CP := liParse_any s w hT (by omega)
    have CA := Lib.hid (fun u (h : Below w.heap.size w u) => alive45 u (hT.below h))
    have HKB := Lib.hid (fun u (h : Below w.heap.size w u) => kinds_belowS hK h)
    have OK := parL_ok s
    unfold okP noP at OK
    generalize parL s = P at CP OK
    obtain ⟨⟨f, sz, x, k, r, o, i⟩, q⟩ := P
    unfold AgV.c at CP
    dsimp only at CP OK
    generalize strOfNums x = X at CP
    have DP := Lib.hid CP
    clear CP hT hK
    rcases OK with ⟨rfl, rfl, ok⟩ | ⟨hq, rfl, rfl, rfl, rfl⟩
    · have CC := Lib.hid (fun u (h : KindsAt u) => code_any k r o i u h)
      have CO := Lib.hid (fun u (h : KindsAt u) => of_code k r o i ok u h)
      have hv : codeV (codeL k r o i) = ((codeL k r o i : Nat) : Int) := if_pos ok
      have hd : decide (codeL k r o i < 256) = true := decide_eq_true ok
      rw [hv, hd] at CC
      generalize codeL k r o i = n at CC CO ok
      have hE := fun u => eql_postS u k r o i
      clear hv hd
      go_enter Tryd.func5, Tryd.ntmps5
      go_wp2_with fail
      refine DP.out.mono ?_
      rintro e w1 ⟨rfl, hb⟩
      have HB1 := Lib.hid (Below.alloc0 hb (Obj.cells #[.int .i64 3, .int .i64 sz, .string X, .int .i64 k, .int .i64 r, .int .u16 o, .bool i] 33))
      have HS1 := Lib.hid (Blk.new w1 33 #[.int .i64 3, .int .i64 sz, .string X, .int .i64 k, .int .i64 r, .int .u16 o, .bool i] (0, 0))
      clear hb
      go_wp2_with fail
      refine (CC.out _ (HKB.out _ HB1.out)).mono ?_
      rintro e w2 ⟨rfl, hb⟩
      have HB2 := Lib.hid (Below.trans0 HB1.out hb)
      have HS2 := Lib.hid (Blk.below HS1.out hb HS1.out.lt)
      have HBd := Lib.hid (Below.drew0 HB2.out)
      have HSd := Lib.hid (Blk.drew HS2.out)
      clear hb
      obtain ⟨-, -, -, q3, q4, q5, q6⟩ := Blk.c7 HS2.out
      have S0 := Lib.hid (show (fun w' : World => w'.cell? ⟨w1.heap.size, 3, none⟩ = some (.int .i64 k) ∧ w'.cell? ⟨w1.heap.size, 4, none⟩ = some (.int .i64 r) ∧ w'.cell? ⟨w1.heap.size, 5, none⟩ = some (.int .u16 o) ∧ w'.cell? ⟨w1.heap.size, 6, none⟩ = some (.bool i)) w2.drew from ⟨q3, q4, q5, q6⟩)
      go_wp2
      refine wp_region_noPanic ?_
      refine wp_region_held_drew (S := (fun w' : World => w'.cell? ⟨w1.heap.size, 3, none⟩ = some (.int .i64 k) ∧ w'.cell? ⟨w1.heap.size, 4, none⟩ = some (.int .i64 r) ∧ w'.cell? ⟨w1.heap.size, 5, none⟩ = some (.int .u16 o) ∧ w'.cell? ⟨w1.heap.size, 6, none⟩ = some (.bool i))) (by kernel_rfl) ?_ (fun hH0 => ?_)
      · (try dsimp only); with_reducible exact S0.out
      refine wpAnyH_take (i := 0) (oi := ({ dst := some 43, op := Op.move (Operand.tmp 6), type := 4, pos := "law.go:50", after := #[], guard := none } : Oper)) (v := ?_) rfl (by kernel_rfl) (by kernel_rfl) (by kernel_rfl) (fun _ _ _ h => h) (Or.inl ⟨by rfl, ?_⟩) (by assumption) ?_
      rotate_left 1
      · (intro w hSw; (try dsimp only at hSw); go_simp; (try with_reducible rfl))
      (try simp only [Act.put, List.setIfInBounds_toArray, List.set_cons_zero, List.set_cons_succ])
      refine wpAnyH_take (i := 1) (oi := ({ dst := some 44, op := Op.move (Operand.tmp 43), type := 4, pos := "law.go:50", after := #[{ on := 0, ground := Ground.data }], guard := none } : Oper)) (v := ?_) rfl (by kernel_rfl) (by kernel_rfl) (by kernel_rfl) (fun _ _ _ h => h) (Or.inl ⟨by rfl, ?_⟩) (by assumption) ?_
      rotate_left 1
      · (intro w hSw; (try dsimp only at hSw); go_simp; (try with_reducible rfl))
      (try simp only [Act.put, List.setIfInBounds_toArray, List.set_cons_zero, List.set_cons_succ])
      refine wpAnyH_take (i := 2) (oi := ({ dst := some 45, op := Op.move (Operand.tmp 5), type := 5, pos := "law.go:50", after := #[{ on := 1, ground := Ground.guard }], guard := some (1, true) } : Oper)) (v := ?_) rfl (by kernel_rfl) (by kernel_rfl) (by kernel_rfl) (fun _ _ _ h => h) (Or.inl ⟨by rfl, ?_⟩) (by assumption) ?_
      rotate_left 1
      · (intro w hSw; (try dsimp only at hSw); go_simp; (try with_reducible rfl))
      (try simp only [Act.put, List.setIfInBounds_toArray, List.set_cons_zero, List.set_cons_succ])
      refine wpAnyH_take (i := 4) (oi := ({ dst := some 47, op := Op.fieldAddr 33 (Operand.tmp 3) 3, type := 0, pos := "law.go:50", after := #[{ on := 1, ground := Ground.guard }], guard := some (1, true) } : Oper)) (v := ?_) rfl (by kernel_rfl) (by kernel_rfl) (by kernel_rfl) (fun _ _ _ h => h) (Or.inl ⟨by rfl, ?_⟩) (by assumption) ?_
      rotate_left 1
      · (intro w hSw; (try dsimp only at hSw); go_simp; (try with_reducible rfl))
      (try simp only [Act.put, List.setIfInBounds_toArray, List.set_cons_zero, List.set_cons_succ])
      refine wpAnyH_take (i := 5) (oi := ({ dst := some 48, op := Op.load 31 (Operand.tmp 47), type := 31, pos := "law.go:50", after := #[{ on := 4, ground := Ground.data }, { on := 1, ground := Ground.guard }], guard := some (1, true) } : Oper)) (v := ?_) rfl (by kernel_rfl) (by kernel_rfl) (by kernel_rfl) (fun _ _ _ h => h) (Or.inl ⟨by rfl, ?_⟩) (by assumption) ?_
      rotate_left 1
      · (intro w hSw; (try dsimp only at hSw); go_simp; (try with_reducible rfl))
      (try simp only [Act.put, List.setIfInBounds_toArray, List.set_cons_zero, List.set_cons_succ])
      refine wpAnyH_ready (rs := [3]) (by kernel_rfl) (by simp) ?_
      refine AllReadyH.cons (o := ({ dst := some 46, op := Op.call { callee := Callee.value (Operand.func 13), args := #[Operand.tmp 45], argTypes := #[5] }, type := 31, pos := "law.go:50", after := #[{ on := 2, ground := Ground.data }, { on := 1, ground := Ground.chain }, { on := 1, ground := Ground.guard }], guard := some (1, true) } : Oper)) rfl (fun K hK => ?_) ?_
      rotate_left 1
      · exact AllReadyH.nil
      go_simp
      go_at_call 13
      ((with_reducible refine (CO.out _ (HKB.out _ HBd.out)).mono ?_); rintro e w3 ⟨rfl, hb⟩; have HB3 := Lib.hid (Below.trans0 HBd.out hb); have HS3 := Lib.hid (Blk.below HSd.out hb HSd.out.lt); have S1 := Lib.hid (show (fun w' : World => w'.cell? ⟨w1.heap.size, 3, none⟩ = some (.int .i64 k) ∧ w'.cell? ⟨w1.heap.size, 4, none⟩ = some (.int .i64 r) ∧ w'.cell? ⟨w1.heap.size, 5, none⟩ = some (.int .u16 o) ∧ w'.cell? ⟨w1.heap.size, 6, none⟩ = some (.bool i)) w3 from (Blk.c7 HS3.out).2.2.2))
      first | (refine hK.out _ _ ?_ (fun hH1 => ?_)) | (go_wp2_with fail; refine hK.out _ _ ?_ (fun hH1 => ?_))
      · (try dsimp only); with_reducible exact S1.out
      clear hK K hH0
      (try simp only [Act.put, List.setIfInBounds_toArray, List.set_cons_zero, List.set_cons_succ])
      refine wpAnyH_take (i := 6) (oi := ({ dst := some 49, op := Op.binOp BinOp.eql 31 (Operand.tmp 46) (Operand.tmp 48) 31, type := 4, pos := "law.go:50", after := #[{ on := 3, ground := Ground.data }, { on := 5, ground := Ground.data }, { on := 1, ground := Ground.guard }], guard := some (1, true) } : Oper)) (v := ?_) rfl (by kernel_rfl) (by kernel_rfl) (by kernel_rfl) (fun _ _ _ h => h) (Or.inl ⟨by rfl, ?_⟩) (by assumption) ?_
      rotate_left 1
      · (intro w hSw; (try dsimp only at hSw); go_simp; (try with_reducible rfl))
      (try simp only [Act.put, List.setIfInBounds_toArray, List.set_cons_zero, List.set_cons_succ])
      refine wpAnyH_take (i := 7) (oi := ({ dst := some 50, op := Op.pick (Operand.tmp 44) (Operand.tmp 49) (Operand.const (Value.bool false)), type := 4, pos := "law.go:50", after := #[{ on := 1, ground := Ground.data }, { on := 6, ground := Ground.data }], guard := none } : Oper)) (v := ?_) rfl (by kernel_rfl) (by kernel_rfl) (by kernel_rfl) (fun _ _ _ h => h) (Or.inl ⟨by rfl, ?_⟩) (by assumption) ?_
      rotate_left 1
      · (intro w hSw; (try dsimp only at hSw); go_simp; (try with_reducible rfl))
      (try simp only [Act.put, List.setIfInBounds_toArray, List.set_cons_zero, List.set_cons_succ])
      refine wpAnyH_take (i := 8) (oi := ({ dst := some 51, op := Op.move (Operand.tmp 50), type := 4, pos := "law.go:50", after := #[{ on := 7, ground := Ground.data }, { on := 3, ground := Ground.chain }], guard := none } : Oper)) (v := ?_) rfl (by kernel_rfl) (by kernel_rfl) (by kernel_rfl) (fun _ _ _ h => h) (Or.inl ⟨by rfl, ?_⟩) (by assumption) ?_
      rotate_left 1
      · (intro w hSw; (try dsimp only at hSw); go_simp; (try with_reducible rfl))
      (try simp only [Act.put, List.setIfInBounds_toArray, List.set_cons_zero, List.set_cons_succ])
      refine wpAnyH_ready (rs := [9]) (by kernel_rfl) (by simp) ?_
      refine AllReadyH.cons (o := ({ dst := some 52, op := Op.call { callee := Callee.value (Operand.func 9), args := #[], argTypes := #[] }, type := 4, pos := "law.go:50", after := #[{ on := 8, ground := Ground.chain }, { on := 8, ground := Ground.guard }], guard := some (8, true) } : Oper)) rfl (fun K hK => ?_) ?_
      rotate_left 1
      · exact AllReadyH.nil
      go_simp
      go_at_call 9
      ((with_reducible refine (CA.out _ HB3.out).mono ?_); rintro e w4 ⟨rfl, hb4⟩; have HB4 := Lib.hid (Below.trans0 HB3.out hb4); have HS4 := Lib.hid (Blk.below HS3.out hb4 HS3.out.lt))
      first | (refine hK.out _ _ ?_ (fun hH2 => ?_)) | (go_wp2_with fail; refine hK.out _ _ ?_ (fun hH2 => ?_))
      · (try dsimp only); with_reducible exact (Blk.c7 HS4.out).2.2.2
      clear hK K hH1
      (try simp only [Act.put, List.setIfInBounds_toArray, List.set_cons_zero, List.set_cons_succ])
      refine wpAnyH_take (i := 10) (oi := ({ dst := some 53, op := Op.pick (Operand.tmp 51) (Operand.tmp 52) (Operand.const (Value.bool false)), type := 4, pos := "law.go:50", after := #[{ on := 8, ground := Ground.data }, { on := 9, ground := Ground.data }], guard := none } : Oper)) (v := ?_) rfl (by kernel_rfl) (by kernel_rfl) (by kernel_rfl) (fun _ _ _ h => h) (Or.inl ⟨by rfl, ?_⟩) (by assumption) ?_
      rotate_left 1
      · (intro w hSw; (try dsimp only at hSw); go_simp; (try with_reducible rfl))
      (try simp only [Act.put, List.setIfInBounds_toArray, List.set_cons_zero, List.set_cons_succ])
      refine wpAnyH_take (i := 11) (oi := ({ dst := some 2, op := Op.assign (Operand.tmp 53), type := 4, pos := "law.go:50", after := #[{ on := 10, ground := Ground.data }, { on := 9, ground := Ground.chain }, { on := 0, ground := Ground.phase }, { on := 1, ground := Ground.phase }, { on := 2, ground := Ground.phase }, { on := 3, ground := Ground.phase }, { on := 4, ground := Ground.phase }, { on := 5, ground := Ground.phase }, { on := 6, ground := Ground.phase }, { on := 7, ground := Ground.phase }, { on := 8, ground := Ground.phase }, { on := 9, ground := Ground.phase }, { on := 10, ground := Ground.phase }], guard := none } : Oper)) (v := ?_) rfl (by kernel_rfl) (by kernel_rfl) (by kernel_rfl) (fun _ _ _ h => h) (Or.inl ⟨by rfl, ?_⟩) (by assumption) ?_
      rotate_left 1
      · (intro w hSw; (try dsimp only at hSw); go_simp; (try with_reducible rfl))
      (try simp only [Act.put, List.setIfInBounds_toArray, List.set_cons_zero, List.set_cons_succ])
      refine wpAnyH_done (by kernel_rfl) ?_ _
      refine NoPanic.normal ?_
      all_goals
        go_wp2
        go_ret
        exact ⟨rfl, HB4.out⟩
    · have hE := fun u => eql_postS u 0 0 0 false
      rcases hq with rfl | ⟨rfl, hf⟩
      · go_enter Tryd.func5, Tryd.ntmps5
        go_wp2_with fail
        refine DP.out.mono ?_
        rintro e w1 ⟨rfl, hb⟩
        have HB1 := Lib.hid (Below.alloc0 hb (Obj.cells #[.int .i64 f, .int .i64 sz, .string X, .int .i64 0, .int .i64 0, .int .u16 0, .bool false] 33))
        clear hb
        go_wp2_with (go_at_call 9; refine (CA.out _ HB1.out).mono ?_; rintro e w3 ⟨rfl, hb3⟩; have HB3 := Lib.hid (Below.trans0 HB1.out hb3))
        go_wp2
        go_ret
        exact ⟨rfl, HB3.out⟩
      · have hf' : (f != 3) = true := by rw [bne_iff_ne]; exact hf
        clear hf
        go_enter Tryd.func5, Tryd.ntmps5
        go_wp2_with fail
        refine DP.out.mono ?_
        rintro e w1 ⟨rfl, hb⟩
        have HB1 := Lib.hid (Below.alloc0 hb (Obj.cells #[.int .i64 f, .int .i64 sz, .string X, .int .i64 0, .int .i64 0, .int .u16 0, .bool false] 33))
        clear hb
        go_wp2_with (go_at_call 9; refine (CA.out _ HB1.out).mono ?_; rintro e w3 ⟨rfl, hb3⟩; have HB3 := Lib.hid (Below.trans0 HB1.out hb3))
        go_wp2
        go_ret
        exact ⟨rfl, HB3.out⟩
  · have h1 : ¬ (s.size : Int) ≤ 100 := by omega
    go_enter Tryd.func5, Tryd.ntmps5
    go_wp2
    go_ret
    exact ⟨rfl, Below.refl _ _⟩
end Go.Proofs.YteaajmoclgfhnabDoor
