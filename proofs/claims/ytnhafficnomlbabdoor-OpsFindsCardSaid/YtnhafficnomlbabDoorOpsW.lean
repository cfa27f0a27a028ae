/- Contracts of the document's answer for layer 13: with, rows of a stem. -/
import Derived.Test.YtnhafficnomlbabDoorOpsT
import Derived.Test.YtnhafficnomlbabDoorRws
import Derived.Deep.QuietTactic
import Derived.BigQuiet
import Derived.IntWalk
namespace Go.Proofs.YtnhafficnomlbabDoor
open Go.ChangeShapes Go.WideShapes Go.ChangeAt Go.RowKit
set_option linter.unusedVariables false
abbrev RowT := Txt × Int × Int
abbrev eW : Els RowT := ⟨fun p => [.string (byteStr p.1), .int .i64 p.2.1, .int .i64 p.2.2], 3, fun _ => rfl, fun x u h => by
  simp only [List.mem_cons, List.not_mem_nil, or_false] at h
  rcases h with rfl | rfl | rfl <;> rfl, by decide⟩
/-- A step of a caller's own row: every other block stands. -/
def Grw (w w' : World) (v v' : Value) : Prop := w.grownBy w' v.ownBlock ∧ (v'.ownBlock = v.ownBlock ∨ ∃ g, w.heap.size ≤ g ∧ v'.ownBlock = some g)
theorem Grw.refl (w : World) (v : Value) : Grw w w v v := ⟨⟨rfl, rfl, rfl, Nat.le_refl _, fun _ _ _ => rfl⟩, .inl rfl⟩
theorem Grw.trans {w1 w2 w3 : World} {v1 v2 v3 : Value} (h : Grw w1 w2 v1 v2) (h' : Grw w2 w3 v2 v3) : Grw w1 w3 v1 v3 := by
  obtain ⟨a, b⟩ := h
  obtain ⟨c, d⟩ := h'
  refine ⟨⟨c.os.trans a.os, c.tape.trans a.tape, c.output.trans a.output, Nat.le_trans a.size c.size, fun k hk hne => ?_⟩, ?_⟩
  · have hne2 : some k ≠ v2.ownBlock := by
      rcases b with b | ⟨g, hg, b⟩
      · rw [b]; exact hne
      · rw [b]; intro e; have := Option.some.inj e; omega
    exact (c.block k (Nat.lt_of_lt_of_le hk a.size) hne2).trans (a.block k hk hne)
  · rcases d with d | ⟨g, hg, d⟩
    · rw [d]
      rcases b with b | ⟨g, hg, b⟩
      · exact .inl b
      · exact .inr ⟨g, hg, b⟩
    · exact .inr ⟨g, Nat.le_trans a.size hg, d⟩
theorem Grw.alloc (w : World) (o : Obj) (v : Value) : Grw w (w.alloc o) v v := ⟨⟨rfl, rfl, rfl, by simp, fun k hk _ => Below.heap_alloc w o k hk⟩, .inl rfl⟩
theorem Grw.drewN (w : World) (n : Nat) (v : Value) : Grw w (w.drewN n) v v := ⟨⟨rfl, rfl, rfl, Nat.le_refl _, fun _ _ _ => rfl⟩, .inl rfl⟩
theorem Grw.of_below {w w' : World} (h : Below w.heap.size w w') (v : Value) : Grw w w' v v := ⟨⟨h.os, h.tape, h.output, h.size, fun k hk _ => h.block k hk⟩, .inl rfl⟩
theorem Grw.below {w w' : World} {v v' : Value} {base : Nat} (h : Grw w w' v v') (hb : base ≤ w.heap.size) (hv : ∀ g, v.ownBlock = some g → base ≤ g) : Below base w w' :=
  Below.grown (Below.refl _ _) h.1 hb hv
theorem Grw.blk {w w' : World} {v v' : Value} {g : Nat} {t : TypeId} {cs : Array Value} {fr : Nat × Nat} (h : Grw w w' v v') (hb : Blk w g t cs fr) (hn : v.ownBlock ≠ some g) : Blk w' g t cs fr ∧ v'.ownBlock ≠ some g := by
  refine ⟨(h.1.block g hb.lt (fun e => hn e.symm)).trans hb, ?_⟩
  rcases h.2 with e | ⟨k, hk, e⟩
  · rw [e]; exact hn
  · rw [e]; intro e2; have := Option.some.inj e2; have := hb.lt; omega
theorem infoRow13 : (Tryd.prog.info? 69).map (fun i => (i.zero, i.size, i.bytes)) = some (some (.agg #[.string ⟨#[]⟩, .int .i64 0, .int .i64 0]), 3, 32) := by kernel_rfl
theorem wpList_appW {ops : Array Oper} {rest : List Oper} {o : Oper} {a : Act} {Q : Exit → Act → World → Prop} (hgd : o.guard = none) (w : World) (s x : Operand)
    (ho : o.op = .call { callee := .builtin .append, args := #[s, x], argTypes := #[66, 66] })
    (base : Nat) (v y : Value) (l m : List RowT) (hs : a.eval s = v) (hown : eW.Own 69 w base v l) (hx : a.eval x = y) (hr : eW.Rd w y m) (hn : l.length + m.length ≤ 1099511627776) (hbase : base ≤ w.heap.size)
    (h : ∀ v' w', eW.Own 69 w' base v' (l ++ m) → Grw w w' v v' → wpList Tryd.prog ops Q rest (a.put o.dst v') w') : wpList Tryd.prog ops Q (o :: rest) a w := by
  obtain ⟨i0, hi, hz0, hz1, hz2⟩ := info_parts infoRow13
  refine wpList_plain hgd fun _ hK => Els.app (E := eW) w s x 66 69 i0 _ 32 Tryd.underlying66 hi hz0 hz1 hz2 (by decide) rfl ho base v y l m hs hown hx hr hn hbase fun v' w' h2 h3 h4 h5 => hK _ _ (h v' w' h2 ⟨h4, ?_⟩)
  rcases h5 with e | e
  · exact .inl e
  · exact .inr ⟨_, Nat.le_refl _, e⟩
theorem step_appW {ops : Array Oper} {o : Oper} {a : Act} {K : Act → World → Prop} {Q : Exit → Act → World → Prop} {E : Prop} (hgd : o.guard = none) (w : World) (s x : Operand)
    (ho : o.op = .call { callee := .builtin .append, args := #[s, x], argTypes := #[66, 66] })
    (base : Nat) (v y : Value) (l m : List RowT) (hs : a.eval s = v) (hown : eW.Own 69 w base v l) (hx : a.eval x = y) (hr : eW.Rd w y m) (hn : l.length + m.length ≤ 1099511627776) (hbase : base ≤ w.heap.size)
    (h : ∀ v' w', eW.Own 69 w' base v' (l ++ m) → Grw w w' v v' → K (a.put o.dst v') w') : if Region.wanted o (yielded ops a.tmps) = true then Oper.wp Tryd.prog o a w K Q else E := by
  rw [if_pos (by simp [Region.wanted, hgd])]
  obtain ⟨i0, hi, hz0, hz1, hz2⟩ := info_parts infoRow13
  refine Els.app (E := eW) w s x 66 69 i0 _ 32 Tryd.underlying66 hi hz0 hz1 hz2 (by decide) rfl ho base v y l m hs hown hx hr hn hbase fun v' w' h2 h3 h4 h5 => h v' w' h2 ⟨h4, ?_⟩
  rcases h5 with e | e
  · exact .inl e
  · exact .inr ⟨_, Nat.le_refl _, e⟩
def ltrs : Txt := [68, 88, 89, 85, 83, 80, 81, 82, 65, 66]
def oneW (stem : Txt) (op : Int) (R : Txt) (i k : Nat) : List RowT := if ltrs.getD i 0 = R.getD k 0 then [(stem ++ [R.getD k 0], op, (i : Int))] else []
def rowW (stem : Txt) (op : Int) (R : Txt) (i k : Nat) : List RowT := (List.range k).flatMap (oneW stem op R i)
def withW (stem : Txt) (op : Int) (R : Txt) (i : Nat) : List RowT := (List.range i).flatMap fun i => rowW stem op R i R.length
theorem rowW_next (stem : Txt) (op : Int) (R : Txt) (i k : Nat) : rowW stem op R i (k + 1) = rowW stem op R i k ++ oneW stem op R i k := by simp [rowW, List.range_succ]
theorem withW_next (stem : Txt) (op : Int) (R : Txt) (i : Nat) : withW stem op R (i + 1) = withW stem op R i ++ rowW stem op R i R.length := by simp [withW, List.range_succ]
theorem oneW_len (stem : Txt) (op : Int) (R : Txt) (i k : Nat) : (oneW stem op R i k).length ≤ 1 := by unfold oneW; split <;> simp
theorem rowW_len (stem : Txt) (op : Int) (R : Txt) (i : Nat) : ∀ k, (rowW stem op R i k).length ≤ k
  | 0 => by simp [rowW]
  | k + 1 => by rw [rowW_next, List.length_append]; have := rowW_len stem op R i k; have := oneW_len stem op R i k; omega
theorem withW_len (stem : Txt) (op : Int) (R : Txt) : ∀ i, (withW stem op R i).length ≤ i * R.length
  | 0 => by simp [withW]
  | i + 1 => by rw [withW_next, List.length_append, Nat.succ_mul]; have := withW_len stem op R i; have := rowW_len stem op R i R.length; omega
theorem ltrs_at (w : World) (i : Nat) (h : i < 10) : (Instr.index 9 (.string ⟨#[68, 88, 89, 85, 83, 80, 81, 82, 65, 66]⟩) (.int .i64 (i : Int))).run Tryd.prog w = .ok (.int .u8 ((ltrs.getD i 0).toNat : Int)) w := by
  rcases (show i = 0 ∨ i = 1 ∨ i = 2 ∨ i = 3 ∨ i = 4 ∨ i = 5 ∨ i = 6 ∨ i = 7 ∨ i = 8 ∨ i = 9 by omega) with rfl | rfl | rfl | rfl | rfl | rfl | rfl | rfl | rfl | rfl
  all_goals kernel_rfl
theorem txt_at (w : World) (R : Txt) (k : Nat) (h : k < R.length) : (Instr.index 9 (.string (byteStr R)) (.int .i64 (k : Int))).run Tryd.prog w = .ok (.int .u8 ((R.getD k 0).toNat : Int)) w := by
  rw [run_index_string w 9 (byteStr R) .i64 (k : Int) Tryd.underlying9, dif_pos ⟨by omega, by show (k : Int) < (R.length : Int); omega⟩]
  congr 3
  simp [byteStr, List.getD_eq_getElem?_getD, h]
  rfl
theorem txt_one (w : World) (R : Txt) (k : Nat) (h : k < R.length) : (Instr.slice 9 (.string (byteStr R)) (some (.int .i64 (k : Int))) (some (.int .i64 ((k : Int) + 1))) none).run Tryd.prog w = .ok (.string (byteStr [R.getD k 0])) w := by
  have hs : (byteStr R).size = R.length := rfl
  rw [run_slice_string w 9 (byteStr R) .i64 .i64 _ _ Tryd.underlying9 (by omega) (by omega) (by omega), show (k : Int).toNat = k by omega, show ((k : Int) + 1).toNat = k + 1 by omega]
  congr 2
  apply ByteArray.ext
  apply Array.ext'
  rw [ByteArray.data_extract, Array.toList_extract, List.extract_eq_take_drop]
  show ((byteStr R).data.toList.drop k).take (k + 1 - k) = [R.getD k 0]
  rw [show k + 1 - k = 1 by omega]
  show (R.drop k).take 1 = _
  rw [List.drop_eq_getElem_cons h, List.take_succ_cons, List.take_zero, List.getD_eq_getElem?_getD, List.getElem?_eq_getElem h]; rfl
theorem u8_eq (a b : UInt8) : ((a.toNat : Int) == (b.toNat : Int)) = decide (a = b) := by
  rw [Bool.eq_iff_iff, beq_iff_eq, decide_eq_true_eq]
  constructor
  · intro h; exact UInt8.toNat.inj (by omega)
  · rintro rfl; rfl
theorem rdW_lit1 (w : World) (t : TypeId) (s : Txt) (o r : Int) : eW.Rd (w.alloc (.cells #[.string (byteStr s), .int .i64 o, .int .i64 r] t)) (.slice (some ⟨w.heap.size, 0, none⟩) 1 1) [(s, o, r)] := Els.Rd.lit w t [(s, o, r)] _ 1 rfl rfl 1
def WithPost (w : World) (base : Nat) (v : Value) (l : List RowT) (e : Ending) (w' : World) : Prop := ∃ v', e = .returned v' ∧ eW.Own 69 w' base v' l ∧ Grw w w' v v'
theorem byteStr_app (a b : Txt) : byteStr a ++ byteStr b = byteStr (a ++ b) := by
  apply ByteArray.ext
  simp [byteStr]
set_option maxRecDepth 100000 in
set_option maxHeartbeats 2000000 in
theorem with_any (v : Value) (l : List RowT) (stem : Txt) (op : Int) (R : Txt) (base : Nat) (w : World) (ho : eW.Own 69 w base v l) (hb : base ≤ w.heap.size) (hl : l.length ≤ 100000) (hs : stem.length ≤ 100) (hR : R.length ≤ 100) :
    Calls Tryd.prog 51 #[v, .string (byteStr stem), .int .i64 op, .string (byteStr R)] w (WithPost w base v (l ++ withW stem op R 10)) := by
  have HO := Lib.hid ho
  have HB := Lib.hid hb
  have HL := Lib.hid hl
  have rs : (byteStr R).size = R.length := rfl
  obtain ⟨n, hn⟩ : ∃ n, R.length = n := ⟨_, rfl⟩
  have HN := Lib.hid hn
  rw [hn] at rs hR
  have hix := Lib.hid (fun w k h => txt_at w R k h)
  have hsl := Lib.hid (fun w k h => txt_one w R k h)
  have hss : (byteStr stem).size ≤ 100 := hs
  have HBS : Hid (∀ c : UInt8, byteStr stem ++ byteStr [c] = byteStr (stem ++ [c])) := Lib.hid (fun c => byteStr_app _ _)
  have HG0 := Lib.hid (Grw.refl w v)
  obtain ⟨SR, hSR⟩ : ∃ SR, byteStr R = SR := ⟨_, rfl⟩
  obtain ⟨SS, hSS⟩ : ∃ SS, byteStr stem = SS := ⟨_, rfl⟩
  rw [hSR] at rs hix hsl ⊢
  rw [hSS] at hss HBS ⊢
  clear ho hb hl hs hn hSR hSS
  go_enter Tryd.func51, Tryd.ntmps51
  go_wp2
  go_loopw [0, 10] (fun u i wr => ∃ k : Nat, k ≤ 10 ∧ i = .int .i64 k ∧ Hid (eW.Own 69 wr base u (l ++ withW stem op R k)) ∧ Hid (Grw w wr v u)) (fun _ i _ => 10 - (intOf i).toNat)
  case atStart => exact ⟨0, Nat.zero_le _, rfl, Lib.hid (by simpa [withW] using HO.out), HG0⟩
  case round =>
    obtain ⟨i, hi, rfl, hO, hG⟩ := hrel
    by_cases hlt : i < 10
    · obtain ⟨wo, rfl⟩ : ∃ wo : World, wo = wr := ⟨_, rfl⟩
      have hx1 := fun w => ltrs_at w i hlt
      have i0 : (0 : Int) ≤ (i : Int) := by omega
      have i10 : (i : Int) < 10 := by omega
      obtain ⟨A, hA⟩ : ∃ A, ltrs.getD i 0 = A := ⟨_, rfl⟩
      rw [hA] at hx1
      have HA := Lib.hid hA
      have HX := Lib.hid hx1
      clear hA hx1
      go_wp2
      go_loopw [0, 11] (fun u j wr => ∃ k : Nat, k ≤ n ∧ j = .int .i64 k ∧ Hid (eW.Own 69 wr base u (l ++ withW stem op R i ++ rowW stem op R i k)) ∧ Hid (Grw w wr v u)) (fun _ j _ => n - (intOf j).toNat)
      case atStart => exact ⟨0, Nat.zero_le _, rfl, Lib.hid (by simpa [rowW] using hO.out), hG⟩
      case round =>
        obtain ⟨k, hk, rfl, hO2, hG2⟩ := hrel
        by_cases hkn : k < n
        · have hx1 := HX.out
          have hx2 := fun w => hix.out w k (by rw [HN.out]; exact hkn)
          have hs2 := fun w => hsl.out w k (by rw [HN.out]; exact hkn)
          have k0 : (0 : Int) ≤ (k : Int) := by omega
          have kn : (k : Int) < (n : Int) := by omega
          have kw : IntKind.i64.wrap ((k : Int) + 1) = (k : Int) + 1 := IntWalk.i64_in _ (by omega)
          obtain ⟨C, hC⟩ : ∃ C, R.getD k 0 = C := ⟨_, rfl⟩
          rw [hC] at hx2 hs2
          have hE := u8_eq A C
          have HR : Hid (rowW stem op R i (k + 1) = rowW stem op R i k ++ if A = C then [(stem ++ [C], op, (i : Int))] else []) := Lib.hid (by
            rw [rowW_next]; unfold oneW; rw [HA.out, hC])
          have hBS := HBS.out C
          have hcs : (byteStr [C]).size = 1 := rfl
          clear hC
          by_cases hq : A = C
          · rw [decide_eq_true hq] at hE
            rw [if_pos hq] at HR
            clear hq
            have HPL : Hid ((l ++ withW stem op R i ++ rowW stem op R i k).length ≤ 200000) := Lib.hid (by
              have a := HL.out
              have b := withW_len stem op R i
              have c := rowW_len stem op R i k
              have d : i * R.length ≤ 10 * 100 := Nat.mul_le_mul hi (by rw [HN.out]; exact hR)
              rw [List.length_append, List.length_append]; omega)
            have hsum : ¬ (9223372036854775807 < SS.size + (byteStr [C]).size) := by rw [hcs]; omega
            generalize byteStr [C] = TC at *
            go_wp2
            go_quiet (fail)
            go_wp2_with (at_builtin; refine wpList_appW rfl _ (.tmp 31) (.tmp 42) rfl base _ _ _ [(stem ++ [C], op, (i : Int))] rfl (Els.Own.alloc (Els.Own.drewN hO2.out _) _) rfl (rdW_lit1 _ _ _ _ _) (by have := HPL.out; simp only [List.length_singleton]; omega) (by have h1 := HB.out; have h2 := hG2.out.1.size; simp; omega) ?_; intro v3 w3 ho3 hg3; have O3 := Lib.hid ho3; have G3 := Lib.hid (((hG2.out.trans (Grw.drewN _ _ _)).trans (Grw.alloc _ _ _)).trans hg3); clear ho3 hg3)
            go_roundw
            case rel => exact ⟨k + 1, by omega, by go_num, Lib.hid (by rw [HR.out, ← List.append_assoc]; exact O3.out), G3⟩
            case measure => simp [intOf] <;> omega
          · rw [decide_eq_false hq] at hE
            rw [if_neg hq, List.append_nil] at HR
            clear hq
            go_wp2
            go_quiet (fail)
            go_wp2
            go_roundw
            case rel => exact ⟨k + 1, by omega, by go_num, Lib.hid (by rw [HR.out]; exact Els.Own.drewN hO2.out _), Lib.hid (hG2.out.trans (Grw.drewN _ _ _))⟩
            case measure => simp [intOf] <;> omega
        · obtain rfl : k = n := by omega
          have HW : Hid (withW stem op R (i + 1) = withW stem op R i ++ rowW stem op R i k) := Lib.hid (by rw [withW_next, HN.out])
          go_wp2
          go_roundw
          case rel => exact ⟨i + 1, by omega, by go_num, Lib.hid (by rw [HW.out, ← List.append_assoc]; exact hO2.out), hG2⟩
          case measure => simp [intOf] <;> omega
    · obtain rfl : i = 10 := by omega
      go_wp2
      go_ret
      exact ⟨_, rfl, hO.out, hG.out⟩
end Go.Proofs.YtnhafficnomlbabDoor
