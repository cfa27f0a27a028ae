/- OpsT, OpsW, OpsX, OpsY, Ops, OpsE, OpsF, OpsZ in one text. -/
import Derived.Test.YtljhfalgplihhaaGreatDoorLstF
import Derived.Test.YtljhfalgplihhaaGreatDoorGLai
import Derived.Test.YtljhfalgplihhaaGreatDoorShelf
import Derived.Shelf.Vars
import Derived.Test.YtljhfalgplihhaaGreatDoorRws
import Derived.Deep.QuietTactic
import Derived.BigQuiet
import Derived.IntWalk
import Derived.Test.YtljhfalgplihhaaGreatDoorGRam
import Derived.Deep.RegionHeld3
import Derived.Deep.DeepCutAuto
import Derived.Deep.MidRow
import Derived.Great.Walk
namespace Go.Proofs.YtljhfalgplihhaaGreatDoor
open Go.ChangeShapes Go.WideShapes Go.ChangeAt Go.RowKit
set_option linter.unusedVariables false
abbrev Txt := List UInt8
def cndNames : List Txt := [[82, 65], [82, 78], [72, 73], [76, 83], [67, 67], [67, 83], [78, 69], [69, 81], [86, 67], [86, 83], [80, 76], [77, 73], [71, 69], [76, 84], [71, 84], [76, 69]]
def stemNames : List Txt := [[], [65, 66, 88], [65, 68, 67], [65, 68, 68], [65, 78, 68], [66, 73, 84], [67, 77, 80], [69, 79, 82], [79, 82], [83, 66, 67], [83, 85, 66], [76, 68], [83, 84], [78, 69, 71], [67, 79, 77], [76, 83, 82], [82, 79, 82], [65, 83, 82], [65, 83, 76], [82, 79, 76], [68, 69, 67], [73, 78, 67], [84, 83, 84], [67, 76, 82], [76, 68], [83, 84], [65, 68, 68], [83, 85, 66], [67, 77, 80], [76, 69, 65], [80, 83, 72], [80, 85, 76], [74, 77, 80], [74, 83, 82], [66], [76, 66], [76, 66, 82, 65], [66, 83, 82], [76, 66, 83, 82], [78, 79, 80], [83, 89, 78, 67], [67, 87, 65, 73], [68, 65, 65], [79, 82, 67, 67], [65, 78, 68, 67, 67], [83, 69, 88], [69, 88, 71], [84, 70, 82], [82, 84, 83], [82, 84, 73], [77, 85, 76], [83, 87, 73]]
def regI (r : Int) : Txt := if 0 ≤ r ∧ r < 12 then regNames.getD r.toNat [] else []
def cndI (r : Int) : Txt := if 0 ≤ r ∧ r < 16 then cndNames.getD r.toNat [] else []
def letI' (L : Txt) (r : Int) : Txt × Bool := (regI r, !(regI r).isEmpty && Lib.contains L (regI r))
def cndE (least r : Int) : Txt × Bool := (cndI r, !(cndI r).isEmpty && decide (least ≤ r))
def intE (r : Int) : Txt × Bool := if r = 1 then ([], true) else if r = 2 then ([50], true) else if r = 3 then ([51], true) else ([], false)
def grpO (op : Int) : Int :=
  if 2 ≤ op ∧ op ≤ 11 then 1 else if op = 12 then 2 else if op = 22 then 4 else if 13 ≤ op ∧ op ≤ 23 then 3 else if op = 24 then 5 else if op = 25 then 6
  else if 26 ≤ op ∧ op ≤ 28 then 7 else if op = 29 then 8 else if op = 32 then 9 else if op = 33 then 10 else 0
def endI (op r : Int) : Txt × Bool :=
  if op = 24 ∨ op = 25 ∨ op = 28 then letI' [68, 88, 89, 85, 83] r
  else if op = 26 ∨ op = 27 then letI' [68] r
  else if op = 29 then letI' [88, 89, 85, 83] r
  else if op = 30 ∨ op = 31 then letI' [85, 83] r
  else if op = 34 then cndE 0 r
  else if op = 35 then cndE 1 r
  else if op = 51 then intE r
  else if grpO op = 1 ∨ grpO op = 2 then letI' [65, 66] r
  else if (grpO op = 3 ∨ grpO op = 4) ∧ r ≠ 0 then letI' [65, 66] r
  else ([], r == 0)
def nameI (op r : Int) : Txt := if 0 < op ∧ op < 52 then (if (endI op r).2 then stemNames.getD op.toNat [] ++ (endI op r).1 else []) else []
/-- The document's rows. -/
def rowsW : List (Txt × Nat × Nat) := [([65, 68, 67, 65], 2, 8), ([65, 68, 67, 66], 2, 9), ([65, 68, 68, 65], 3, 8), ([65, 68, 68, 66], 3, 9), ([65, 78, 68, 65], 4, 8), ([65, 78, 68, 66], 4, 9), ([66, 73, 84, 65], 5, 8), ([66, 73, 84, 66], 5, 9), ([67, 77, 80, 65], 6, 8), ([67, 77, 80, 66], 6, 9), ([69, 79, 82, 65], 7, 8), ([69, 79, 82, 66], 7, 9), ([79, 82, 65], 8, 8), ([79, 82, 66], 8, 9), ([83, 66, 67, 65], 9, 8), ([83, 66, 67, 66], 9, 9), ([83, 85, 66, 65], 10, 8), ([83, 85, 66, 66], 10, 9), ([76, 68, 65], 11, 8), ([76, 68, 66], 11, 9), ([83, 84, 65], 12, 8), ([83, 84, 66], 12, 9), ([78, 69, 71], 13, 0), ([78, 69, 71, 65], 13, 8), ([78, 69, 71, 66], 13, 9), ([67, 79, 77], 14, 0), ([67, 79, 77, 65], 14, 8), ([67, 79, 77, 66], 14, 9), ([76, 83, 82], 15, 0), ([76, 83, 82, 65], 15, 8), ([76, 83, 82, 66], 15, 9), ([82, 79, 82], 16, 0), ([82, 79, 82, 65], 16, 8), ([82, 79, 82, 66], 16, 9), ([65, 83, 82], 17, 0), ([65, 83, 82, 65], 17, 8), ([65, 83, 82, 66], 17, 9), ([65, 83, 76], 18, 0), ([65, 83, 76, 65], 18, 8), ([65, 83, 76, 66], 18, 9), ([82, 79, 76], 19, 0), ([82, 79, 76, 65], 19, 8), ([82, 79, 76, 66], 19, 9), ([68, 69, 67], 20, 0), ([68, 69, 67, 65], 20, 8), ([68, 69, 67, 66], 20, 9), ([73, 78, 67], 21, 0), ([73, 78, 67, 65], 21, 8), ([73, 78, 67, 66], 21, 9), ([84, 83, 84], 22, 0), ([84, 83, 84, 65], 22, 8), ([84, 83, 84, 66], 22, 9), ([67, 76, 82], 23, 0), ([67, 76, 82, 65], 23, 8), ([67, 76, 82, 66], 23, 9), ([76, 68, 68], 24, 0), ([76, 68, 88], 24, 1), ([76, 68, 89], 24, 2), ([76, 68, 85], 24, 3), ([76, 68, 83], 24, 4), ([83, 84, 68], 25, 0), ([83, 84, 88], 25, 1), ([83, 84, 89], 25, 2), ([83, 84, 85], 25, 3), ([83, 84, 83], 25, 4), ([67, 77, 80, 68], 28, 0), ([67, 77, 80, 88], 28, 1), ([67, 77, 80, 89], 28, 2), ([67, 77, 80, 85], 28, 3), ([67, 77, 80, 83], 28, 4), ([65, 68, 68, 68], 26, 0), ([83, 85, 66, 68], 27, 0), ([76, 69, 65, 88], 29, 1), ([76, 69, 65, 89], 29, 2), ([76, 69, 65, 85], 29, 3), ([76, 69, 65, 83], 29, 4), ([80, 83, 72, 85], 30, 3), ([80, 83, 72, 83], 30, 4), ([80, 85, 76, 85], 31, 3), ([80, 85, 76, 83], 31, 4), ([66, 82, 65], 34, 0), ([66, 82, 78], 34, 1), ([76, 66, 82, 78], 35, 1), ([66, 72, 73], 34, 2), ([76, 66, 72, 73], 35, 2), ([66, 76, 83], 34, 3), ([76, 66, 76, 83], 35, 3), ([66, 67, 67], 34, 4), ([76, 66, 67, 67], 35, 4), ([66, 67, 83], 34, 5), ([76, 66, 67, 83], 35, 5), ([66, 78, 69], 34, 6), ([76, 66, 78, 69], 35, 6), ([66, 69, 81], 34, 7), ([76, 66, 69, 81], 35, 7), ([66, 86, 67], 34, 8), ([76, 66, 86, 67], 35, 8), ([66, 86, 83], 34, 9), ([76, 66, 86, 83], 35, 9), ([66, 80, 76], 34, 10), ([76, 66, 80, 76], 35, 10), ([66, 77, 73], 34, 11), ([76, 66, 77, 73], 35, 11), ([66, 71, 69], 34, 12), ([76, 66, 71, 69], 35, 12), ([66, 76, 84], 34, 13), ([76, 66, 76, 84], 35, 13), ([66, 71, 84], 34, 14), ([76, 66, 71, 84], 35, 14), ([66, 76, 69], 34, 15), ([76, 66, 76, 69], 35, 15), ([83, 87, 73], 51, 1), ([83, 87, 73, 50], 51, 2), ([83, 87, 73, 51], 51, 3), ([65, 66, 88], 1, 0), ([74, 77, 80], 32, 0), ([74, 83, 82], 33, 0), ([76, 66, 82, 65], 36, 0), ([66, 83, 82], 37, 0), ([76, 66, 83, 82], 38, 0), ([78, 79, 80], 39, 0), ([83, 89, 78, 67], 40, 0), ([67, 87, 65, 73], 41, 0), ([68, 65, 65], 42, 0), ([79, 82, 67, 67], 43, 0), ([65, 78, 68, 67, 67], 44, 0), ([83, 69, 88], 45, 0), ([69, 88, 71], 46, 0), ([84, 70, 82], 47, 0), ([82, 84, 83], 48, 0), ([82, 84, 73], 49, 0), ([77, 85, 76], 50, 0)]
def codeW : List (Txt × Nat × Nat) := (List.range 52).flatMap fun (op : Nat) => (List.range 16).filterMap fun (r : Nat) => if (nameI (op : Int) (r : Int)).isEmpty then none else some (nameI (op : Int) (r : Int), op, r)
def sameR (a b : Txt × Nat × Nat) : Bool := a.1 == b.1 && Nat.beq a.2.1 b.2.1 && Nat.beq a.2.2 b.2.2
theorem code_in : (codeW.all fun p => rowsW.any fun q => sameR p q) = true := by decide +kernel
theorem rows_in : (rowsW.all fun p => codeW.any fun q => sameR p q) = true := by decide +kernel
theorem rows_one : (rowsW.all fun p => rowsW.all fun q => (p.1 == q.1) == (Nat.beq p.2.1 q.2.1 && Nat.beq p.2.2 q.2.2)) = true := by decide +kernel
end Go.Proofs.YtljhfalgplihhaaGreatDoor
namespace Go.Proofs.YtljhfalgplihhaaGreatDoor
open Go.ChangeShapes Go.WideShapes Go.ChangeAt Go.RowKit
set_option linter.unusedVariables false
abbrev RowT := Txt × Int × Int
abbrev eW : Els RowT := ⟨fun p => [.string (byteStr p.1), .int .i64 p.2.1, .int .i64 p.2.2], 3, fun _ => rfl, fun x u h => by
  simp only [List.mem_cons, List.not_mem_nil, or_false] at h
  rcases h with rfl | rfl | rfl <;> rfl, by decide⟩
/-- A step of a caller's own row: every other block stands. -/
def Grw (w w' : World) (v v' : Value) : Prop := w.grownBy w' v.ownBlock ∧ (v'.ownBlock = v.ownBlock ∨ ∃ g, w.heap.size ≤ g ∧ v'.ownBlock = some g)
theorem Grw.refl (w : World) (v : Value) : Grw w w v v := ⟨⟨rfl, rfl, rfl, Nat.le_refl _, fun _ _ _ => rfl⟩, .inl rfl⟩
theorem Grw.trans {w1 w2 w3 : World} {v1 v2 v3 : Value} (h : Grw w1 w2 v1 v2) (h' : Grw w2 w3 v2 v3) : Grw w1 w3 v1 v3 := by
  obtain ⟨a, b⟩ := h
  obtain ⟨c, d⟩ := h'
  refine ⟨⟨c.os.trans a.os, c.tape.trans a.tape, c.output.trans a.output, Nat.le_trans a.size c.size, fun k hk hne => ?_⟩, ?_⟩
  · have hne2 : some k ≠ v2.ownBlock := by
      rcases b with b | ⟨g, hg, b⟩
      · rw [b]; exact hne
      · rw [b]; intro e; have := Option.some.inj e; omega
    exact (c.block k (Nat.lt_of_lt_of_le hk a.size) hne2).trans (a.block k hk hne)
  · rcases d with d | ⟨g, hg, d⟩
    · rw [d]
      rcases b with b | ⟨g, hg, b⟩
      · exact .inl b
      · exact .inr ⟨g, hg, b⟩
    · exact .inr ⟨g, Nat.le_trans a.size hg, d⟩
theorem Grw.alloc (w : World) (o : Obj) (v : Value) : Grw w (w.alloc o) v v := ⟨⟨rfl, rfl, rfl, by simp, fun k hk _ => Below.heap_alloc w o k hk⟩, .inl rfl⟩
theorem Grw.drewN (w : World) (n : Nat) (v : Value) : Grw w (w.drewN n) v v := ⟨⟨rfl, rfl, rfl, Nat.le_refl _, fun _ _ _ => rfl⟩, .inl rfl⟩
theorem Grw.of_below {w w' : World} (h : Below w.heap.size w w') (v : Value) : Grw w w' v v := ⟨⟨h.os, h.tape, h.output, h.size, fun k hk _ => h.block k hk⟩, .inl rfl⟩
theorem Grw.below {w w' : World} {v v' : Value} {base : Nat} (h : Grw w w' v v') (hb : base ≤ w.heap.size) (hv : ∀ g, v.ownBlock = some g → base ≤ g) : Below base w w' :=
  Below.grown (Below.refl _ _) h.1 hb hv
theorem Grw.blk {w w' : World} {v v' : Value} {g : Nat} {t : TypeId} {cs : Array Value} {fr : Nat × Nat} (h : Grw w w' v v') (hb : Blk w g t cs fr) (hn : v.ownBlock ≠ some g) : Blk w' g t cs fr ∧ v'.ownBlock ≠ some g := by
  refine ⟨(h.1.block g hb.lt (fun e => hn e.symm)).trans hb, ?_⟩
  rcases h.2 with e | ⟨k, hk, e⟩
  · rw [e]; exact hn
  · rw [e]; intro e2; have := Option.some.inj e2; have := hb.lt; omega
theorem infoRow13 : (Tryz.prog.info? 87).map (fun i => (i.zero, i.size, i.bytes)) = some (some (.agg #[.string ⟨#[]⟩, .int .i64 0, .int .i64 0]), 3, 32) := by kernel_rfl
theorem wpList_appW {ops : Array Oper} {rest : List Oper} {o : Oper} {a : Act} {Q : Exit → Act → World → Prop} (hgd : o.guard = none) (w : World) (s x : Operand)
    (ho : o.op = .call { callee := .builtin .append, args := #[s, x], argTypes := #[84, 84] })
    (base : Nat) (v y : Value) (l m : List RowT) (hs : a.eval s = v) (hown : eW.Own 87 w base v l) (hx : a.eval x = y) (hr : eW.Rd w y m) (hn : l.length + m.length ≤ 1099511627776) (hbase : base ≤ w.heap.size)
    (h : ∀ v' w', eW.Own 87 w' base v' (l ++ m) → Grw w w' v v' → wpList Tryz.prog ops Q rest (a.put o.dst v') w') : wpList Tryz.prog ops Q (o :: rest) a w := by
  obtain ⟨i0, hi, hz0, hz1, hz2⟩ := info_parts infoRow13
  refine wpList_plain hgd fun _ hK => Els.app (E := eW) w s x 84 87 i0 _ 32 Tryz.underlying84 hi hz0 hz1 hz2 (by decide) rfl ho base v y l m hs hown hx hr hn hbase fun v' w' h2 h3 h4 h5 => hK _ _ (h v' w' h2 ⟨h4, ?_⟩)
  rcases h5 with e | e
  · exact .inl e
  · exact .inr ⟨_, Nat.le_refl _, e⟩
theorem step_appW {ops : Array Oper} {o : Oper} {a : Act} {K : Act → World → Prop} {Q : Exit → Act → World → Prop} {E : Prop} (hgd : o.guard = none) (w : World) (s x : Operand)
    (ho : o.op = .call { callee := .builtin .append, args := #[s, x], argTypes := #[84, 84] })
    (base : Nat) (v y : Value) (l m : List RowT) (hs : a.eval s = v) (hown : eW.Own 87 w base v l) (hx : a.eval x = y) (hr : eW.Rd w y m) (hn : l.length + m.length ≤ 1099511627776) (hbase : base ≤ w.heap.size)
    (h : ∀ v' w', eW.Own 87 w' base v' (l ++ m) → Grw w w' v v' → K (a.put o.dst v') w') : if Region.wanted o (yielded ops a.tmps) = true then Oper.wp Tryz.prog o a w K Q else E := by
  rw [if_pos (by simp [Region.wanted, hgd])]
  obtain ⟨i0, hi, hz0, hz1, hz2⟩ := info_parts infoRow13
  refine Els.app (E := eW) w s x 84 87 i0 _ 32 Tryz.underlying84 hi hz0 hz1 hz2 (by decide) rfl ho base v y l m hs hown hx hr hn hbase fun v' w' h2 h3 h4 h5 => h v' w' h2 ⟨h4, ?_⟩
  rcases h5 with e | e
  · exact .inl e
  · exact .inr ⟨_, Nat.le_refl _, e⟩
def ltrs : Txt := [68, 88, 89, 85, 83, 80, 81, 82, 65, 66]
def oneW (stem : Txt) (op : Int) (R : Txt) (i k : Nat) : List RowT := if ltrs.getD i 0 = R.getD k 0 then [(stem ++ [R.getD k 0], op, (i : Int))] else []
def rowW (stem : Txt) (op : Int) (R : Txt) (i k : Nat) : List RowT := (List.range k).flatMap (oneW stem op R i)
def withW (stem : Txt) (op : Int) (R : Txt) (i : Nat) : List RowT := (List.range i).flatMap fun i => rowW stem op R i R.length
theorem rowW_next (stem : Txt) (op : Int) (R : Txt) (i k : Nat) : rowW stem op R i (k + 1) = rowW stem op R i k ++ oneW stem op R i k := by simp [rowW, List.range_succ]
theorem withW_next (stem : Txt) (op : Int) (R : Txt) (i : Nat) : withW stem op R (i + 1) = withW stem op R i ++ rowW stem op R i R.length := by simp [withW, List.range_succ]
theorem oneW_len (stem : Txt) (op : Int) (R : Txt) (i k : Nat) : (oneW stem op R i k).length ≤ 1 := by unfold oneW; split <;> simp
theorem rowW_len (stem : Txt) (op : Int) (R : Txt) (i : Nat) : ∀ k, (rowW stem op R i k).length ≤ k
  | 0 => by simp [rowW]
  | k + 1 => by rw [rowW_next, List.length_append]; have := rowW_len stem op R i k; have := oneW_len stem op R i k; omega
theorem withW_len (stem : Txt) (op : Int) (R : Txt) : ∀ i, (withW stem op R i).length ≤ i * R.length
  | 0 => by simp [withW]
  | i + 1 => by rw [withW_next, List.length_append, Nat.succ_mul]; have := withW_len stem op R i; have := rowW_len stem op R i R.length; omega
theorem ltrs_at (w : World) (i : Nat) (h : i < 10) : (Instr.index 9 (.string ⟨#[68, 88, 89, 85, 83, 80, 81, 82, 65, 66]⟩) (.int .i64 (i : Int))).run Tryz.prog w = .ok (.int .u8 ((ltrs.getD i 0).toNat : Int)) w := by
  rcases (show i = 0 ∨ i = 1 ∨ i = 2 ∨ i = 3 ∨ i = 4 ∨ i = 5 ∨ i = 6 ∨ i = 7 ∨ i = 8 ∨ i = 9 by omega) with rfl | rfl | rfl | rfl | rfl | rfl | rfl | rfl | rfl | rfl
  all_goals kernel_rfl
theorem txt_at (w : World) (R : Txt) (k : Nat) (h : k < R.length) : (Instr.index 9 (.string (byteStr R)) (.int .i64 (k : Int))).run Tryz.prog w = .ok (.int .u8 ((R.getD k 0).toNat : Int)) w := by
  rw [run_index_string w 9 (byteStr R) .i64 (k : Int) Tryz.underlying9, dif_pos ⟨by omega, by show (k : Int) < (R.length : Int); omega⟩]
  congr 3
  simp [byteStr, List.getD_eq_getElem?_getD, h]
  rfl
theorem txt_one (w : World) (R : Txt) (k : Nat) (h : k < R.length) : (Instr.slice 9 (.string (byteStr R)) (some (.int .i64 (k : Int))) (some (.int .i64 ((k : Int) + 1))) none).run Tryz.prog w = .ok (.string (byteStr [R.getD k 0])) w := by
  have hs : (byteStr R).size = R.length := rfl
  rw [run_slice_string w 9 (byteStr R) .i64 .i64 _ _ Tryz.underlying9 (by omega) (by omega) (by omega), show (k : Int).toNat = k by omega, show ((k : Int) + 1).toNat = k + 1 by omega]
  congr 2
  apply ByteArray.ext
  apply Array.ext'
  rw [ByteArray.data_extract, Array.toList_extract, List.extract_eq_take_drop]
  show ((byteStr R).data.toList.drop k).take (k + 1 - k) = [R.getD k 0]
  rw [show k + 1 - k = 1 by omega]
  show (R.drop k).take 1 = _
  rw [List.drop_eq_getElem_cons h, List.take_succ_cons, List.take_zero, List.getD_eq_getElem?_getD, List.getElem?_eq_getElem h]; rfl
theorem u8_eq (a b : UInt8) : ((a.toNat : Int) == (b.toNat : Int)) = decide (a = b) := by
  rw [Bool.eq_iff_iff, beq_iff_eq, decide_eq_true_eq]
  constructor
  · intro h; exact UInt8.toNat.inj (by omega)
  · rintro rfl; rfl
theorem rdW_lit1 (w : World) (t : TypeId) (s : Txt) (o r : Int) : eW.Rd (w.alloc (.cells #[.string (byteStr s), .int .i64 o, .int .i64 r] t)) (.slice (some ⟨w.heap.size, 0, none⟩) 1 1) [(s, o, r)] := Els.Rd.lit w t [(s, o, r)] _ 1 rfl rfl 1
def WithPost (w : World) (base : Nat) (v : Value) (l : List RowT) (e : Ending) (w' : World) : Prop := ∃ v', e = .returned v' ∧ eW.Own 87 w' base v' l ∧ Grw w w' v v'
theorem byteStr_appO (a b : Txt) : byteStr a ++ byteStr b = byteStr (a ++ b) := by
  apply ByteArray.ext
  simp [byteStr]
set_option maxRecDepth 100000 in
set_option maxHeartbeats 2000000 in
theorem with_any (v : Value) (l : List RowT) (stem : Txt) (op : Int) (R : Txt) (base : Nat) (w : World) (ho : eW.Own 87 w base v l) (hb : base ≤ w.heap.size) (hl : l.length ≤ 100000) (hs : stem.length ≤ 100) (hR : R.length ≤ 100) :
    Calls Tryz.prog 55 #[v, .string (byteStr stem), .int .i64 op, .string (byteStr R)] w (WithPost w base v (l ++ withW stem op R 10)) := by
  have HO := Lib.hid ho
  have HB := Lib.hid hb
  have HL := Lib.hid hl
  have rs : (byteStr R).size = R.length := rfl
  obtain ⟨n, hn⟩ : ∃ n, R.length = n := ⟨_, rfl⟩
  have HN := Lib.hid hn
  rw [hn] at rs hR
  have hix := Lib.hid (fun w k h => txt_at w R k h)
  have hsl := Lib.hid (fun w k h => txt_one w R k h)
  have hss : (byteStr stem).size ≤ 100 := hs
  have HBS : Hid (∀ c : UInt8, byteStr stem ++ byteStr [c] = byteStr (stem ++ [c])) := Lib.hid (fun c => byteStr_appO _ _)
  have HG0 := Lib.hid (Grw.refl w v)
  obtain ⟨SR, hSR⟩ : ∃ SR, byteStr R = SR := ⟨_, rfl⟩
  obtain ⟨SS, hSS⟩ : ∃ SS, byteStr stem = SS := ⟨_, rfl⟩
  rw [hSR] at rs hix hsl ⊢
  rw [hSS] at hss HBS ⊢
  clear ho hb hl hs hn hSR hSS
  go_enter Tryz.func55, Tryz.ntmps55
  go_wp2
  go_loopw [0, 10] (fun u i wr => ∃ k : Nat, k ≤ 10 ∧ i = .int .i64 k ∧ Hid (eW.Own 87 wr base u (l ++ withW stem op R k)) ∧ Hid (Grw w wr v u)) (fun _ i _ => 10 - (intOf i).toNat)
  case atStart => exact ⟨0, Nat.zero_le _, rfl, Lib.hid (by simpa [withW] using HO.out), HG0⟩
  case round =>
    obtain ⟨i, hi, rfl, hO, hG⟩ := hrel
    by_cases hlt : i < 10
    · obtain ⟨wo, rfl⟩ : ∃ wo : World, wo = wr := ⟨_, rfl⟩
      have hx1 := fun w => ltrs_at w i hlt
      have i0 : (0 : Int) ≤ (i : Int) := by omega
      have i10 : (i : Int) < 10 := by omega
      obtain ⟨A, hA⟩ : ∃ A, ltrs.getD i 0 = A := ⟨_, rfl⟩
      rw [hA] at hx1
      have HA := Lib.hid hA
      have HX := Lib.hid hx1
      clear hA hx1
      go_wp2
      go_loopw [0, 11] (fun u j wr => ∃ k : Nat, k ≤ n ∧ j = .int .i64 k ∧ Hid (eW.Own 87 wr base u (l ++ withW stem op R i ++ rowW stem op R i k)) ∧ Hid (Grw w wr v u)) (fun _ j _ => n - (intOf j).toNat)
      case atStart => exact ⟨0, Nat.zero_le _, rfl, Lib.hid (by simpa [rowW] using hO.out), hG⟩
      case round =>
        obtain ⟨k, hk, rfl, hO2, hG2⟩ := hrel
        by_cases hkn : k < n
        · have hx1 := HX.out
          have hx2 := fun w => hix.out w k (by rw [HN.out]; exact hkn)
          have hs2 := fun w => hsl.out w k (by rw [HN.out]; exact hkn)
          have k0 : (0 : Int) ≤ (k : Int) := by omega
          have kn : (k : Int) < (n : Int) := by omega
          have kw : IntKind.i64.wrap ((k : Int) + 1) = (k : Int) + 1 := IntWalk.i64_in _ (by omega)
          obtain ⟨C, hC⟩ : ∃ C, R.getD k 0 = C := ⟨_, rfl⟩
          rw [hC] at hx2 hs2
          have hE := u8_eq A C
          have HR : Hid (rowW stem op R i (k + 1) = rowW stem op R i k ++ if A = C then [(stem ++ [C], op, (i : Int))] else []) := Lib.hid (by
            rw [rowW_next]; unfold oneW; rw [HA.out, hC])
          have hBS := HBS.out C
          have hcs : (byteStr [C]).size = 1 := rfl
          clear hC
          by_cases hq : A = C
          · rw [decide_eq_true hq] at hE
            rw [if_pos hq] at HR
            clear hq
            have HPL : Hid ((l ++ withW stem op R i ++ rowW stem op R i k).length ≤ 200000) := Lib.hid (by
              have a := HL.out
              have b := withW_len stem op R i
              have c := rowW_len stem op R i k
              have d : i * R.length ≤ 10 * 100 := Nat.mul_le_mul hi (by rw [HN.out]; exact hR)
              rw [List.length_append, List.length_append]; omega)
            have hsum : ¬ (9223372036854775807 < SS.size + (byteStr [C]).size) := by rw [hcs]; omega
            generalize byteStr [C] = TC at *
            go_wp2
            go_quiet (fail)
            go_wp2_with (at_builtin; refine wpList_appW rfl _ (.tmp 31) (.tmp 42) rfl base _ _ _ [(stem ++ [C], op, (i : Int))] rfl (Els.Own.alloc (Els.Own.drewN hO2.out _) _) rfl (rdW_lit1 _ _ _ _ _) (by have := HPL.out; simp only [List.length_singleton]; omega) (by have h1 := HB.out; have h2 := hG2.out.1.size; simp; omega) ?_; intro v3 w3 ho3 hg3; have O3 := Lib.hid ho3; have G3 := Lib.hid (((hG2.out.trans (Grw.drewN _ _ _)).trans (Grw.alloc _ _ _)).trans hg3); clear ho3 hg3)
            go_roundw
            case rel => exact ⟨k + 1, by omega, by go_num, Lib.hid (by rw [HR.out, ← List.append_assoc]; exact O3.out), G3⟩
            case measure => simp [intOf] <;> omega
          · rw [decide_eq_false hq] at hE
            rw [if_neg hq, List.append_nil] at HR
            clear hq
            go_wp2
            go_quiet (fail)
            go_wp2
            go_roundw
            case rel => exact ⟨k + 1, by omega, by go_num, Lib.hid (by rw [HR.out]; exact Els.Own.drewN hO2.out _), Lib.hid (hG2.out.trans (Grw.drewN _ _ _))⟩
            case measure => simp [intOf] <;> omega
        · obtain rfl : k = n := by omega
          have HW : Hid (withW stem op R (i + 1) = withW stem op R i ++ rowW stem op R i k) := Lib.hid (by rw [withW_next, HN.out])
          go_wp2
          go_roundw
          case rel => exact ⟨i + 1, by omega, by go_num, Lib.hid (by rw [HW.out, ← List.append_assoc]; exact hO2.out), hG2⟩
          case measure => simp [intOf] <;> omega
    · obtain rfl : i = 10 := by omega
      go_wp2
      go_ret
      exact ⟨_, rfl, hO.out, hG.out⟩
end Go.Proofs.YtljhfalgplihhaaGreatDoor
namespace Go.Proofs.YtljhfalgplihhaaGreatDoor
open Go.ChangeShapes Go.WideShapes Go.ChangeAt Go.RowKit
set_option linter.unusedVariables false
def eightL : List Txt := [[65, 68, 67], [65, 68, 68], [65, 78, 68], [66, 73, 84], [67, 77, 80], [69, 79, 82], [79, 82], [83, 66, 67], [83, 85, 66], [76, 68], [83, 84]]
def chgL : List Txt := [[78, 69, 71], [67, 79, 77], [76, 83, 82], [82, 79, 82], [65, 83, 82], [65, 83, 76], [82, 79, 76], [68, 69, 67], [73, 78, 67], [84, 83, 84], [67, 76, 82]]
def aloneL : List Txt := [[76, 66, 82, 65], [66, 83, 82], [76, 66, 83, 82], [78, 79, 80], [83, 89, 78, 67], [67, 87, 65, 73], [68, 65, 65], [79, 82, 67, 67], [65, 78, 68, 67, 67], [83, 69, 88], [69, 88, 71], [84, 70, 82], [82, 84, 83], [82, 84, 73], [77, 85, 76]]
def l1 (k : Nat) : List RowT := (List.range k).flatMap fun i => withW (eightL.getD i []) (2 + (i : Int)) [65, 66] 10
def m2 (i : Nat) : List RowT := (chgL.getD i [], 13 + (i : Int), 0) :: withW (chgL.getD i []) (13 + (i : Int)) [65, 66] 10
def l2 (k : Nat) : List RowT := l1 11 ++ (List.range k).flatMap m2
def l3a : List RowT := l2 11 ++ withW [76, 68] 24 [68, 88, 89, 85, 83] 10
def l3b : List RowT := l3a ++ withW [83, 84] 25 [68, 88, 89, 85, 83] 10
def l3 : List RowT := l3b ++ withW [67, 77, 80] 28 [68, 88, 89, 85, 83] 10
def l4 : List RowT := l3 ++ [([65, 68, 68, 68], 26, 0), ([83, 85, 66, 68], 27, 0)]
def l5a : List RowT := l4 ++ withW [76, 69, 65] 29 [88, 89, 85, 83] 10
def l5b : List RowT := l5a ++ withW [80, 83, 72] 30 [85, 83] 10
def l5 : List RowT := l5b ++ withW [80, 85, 76] 31 [85, 83] 10
def m6 (i : Nat) : List RowT := ([66] ++ cndNames.getD i [], 34, (i : Int)) :: if 0 < i then [([76, 66] ++ cndNames.getD i [], 35, (i : Int))] else []
def l6 (k : Nat) : List RowT := l5 ++ (List.range k).flatMap m6
def l7 : List RowT := l6 16 ++ [([83, 87, 73], 51, 1), ([83, 87, 73, 50], 51, 2), ([83, 87, 73, 51], 51, 3), ([65, 66, 88], 1, 0), ([74, 77, 80], 32, 0), ([74, 83, 82], 33, 0)]
def l8 (k : Nat) : List RowT := l7 ++ (List.range k).map fun i => (aloneL.getD i [], 36 + (i : Int), 0)
theorem l8_all : l8 15 = rowsW.map fun p => (p.1, (p.2.1 : Int), (p.2.2 : Int)) := by decide +kernel
theorem l1_next (k : Nat) : l1 (k + 1) = l1 k ++ withW (eightL.getD k []) (2 + (k : Int)) [65, 66] 10 := by simp [l1, List.range_succ]
theorem l2_next (k : Nat) : l2 (k + 1) = l2 k ++ m2 k := by simp [l2, List.range_succ]
theorem l6_next (k : Nat) : l6 (k + 1) = l6 k ++ m6 k := by simp [l6, List.range_succ]
theorem l8_next (k : Nat) : l8 (k + 1) = l8 k ++ [(aloneL.getD k [], 36 + (k : Int), 0)] := by simp [l8, List.range_succ]
theorem l1_len : ∀ k : Fin 12, (l1 k.val).length ≤ 1000 := by decide +kernel
theorem l2_len : ∀ k : Fin 12, (l2 k.val).length ≤ 1000 := by decide +kernel
theorem l6_len : ∀ k : Fin 17, (l6 k.val).length ≤ 1000 := by decide +kernel
theorem l8_len : ∀ k : Fin 16, (l8 k.val).length ≤ 1000 := by decide +kernel
theorem l3_len : l3a.length ≤ 1000 ∧ l3b.length ≤ 1000 ∧ l3.length ≤ 1000 ∧ l4.length ≤ 1000 ∧ l5a.length ≤ 1000 ∧ l5b.length ≤ 1000 ∧ l5.length ≤ 1000 ∧ l7.length ≤ 1000 := by decide +kernel
theorem eight_short : ∀ k : Fin 11, (eightL.getD k.val []).length ≤ 100 := by decide +kernel
theorem chg_short : ∀ k : Fin 11, (chgL.getD k.val []).length ≤ 100 := by decide +kernel
def csS (l : List Txt) : Array Value := (l.map fun s => Value.string (byteStr s)).toArray
theorem csS_at (l : List Txt) (k : Nat) (h : k < l.length) : (csS l)[k]? = some (.string (byteStr (l.getD k []))) := by
  unfold csS
  rw [List.getElem?_toArray, List.getElem?_map, List.getElem?_eq_getElem h, List.getD_eq_getElem?_getD, List.getElem?_eq_getElem h]; rfl
theorem own_ne {w : World} {t : TypeId} {base : Nat} {v : Value} {l : List RowT} (h : eW.Own t w base v l) : v.ownBlock ≠ some w.heap.size := fun e => by
  have := (Els.Own.lt h _ e).2; omega
theorem own_grw {w w' : World} {t : TypeId} {base : Nat} {v v' : Value} {l : List RowT} (h : eW.Own t w base v l) (hb : base ≤ w.heap.size) (hg : Grw w w' v v') : Below base w w' := hg.below hb (fun g hv => (Els.Own.lt h g hv).1)
theorem rdW_lit2 (w : World) (t : TypeId) : eW.Rd (w.alloc (.cells #[.string ⟨#[65, 68, 68, 68]⟩, .int .i64 26, .int .i64 0, .string ⟨#[83, 85, 66, 68]⟩, .int .i64 27, .int .i64 0] t)) (.slice (some ⟨w.heap.size, 0, none⟩) 2 2) [([65, 68, 68, 68], 26, 0), ([83, 85, 66, 68], 27, 0)] := Els.Rd.lit w t [([65, 68, 68, 68], 26, 0), ([83, 85, 66, 68], 27, 0)] _ 2 rfl rfl 2
theorem rdW_lit6 (w : World) (t : TypeId) : eW.Rd (w.alloc (.cells #[.string ⟨#[83, 87, 73]⟩, .int .i64 51, .int .i64 1, .string ⟨#[83, 87, 73, 50]⟩, .int .i64 51, .int .i64 2, .string ⟨#[83, 87, 73, 51]⟩, .int .i64 51, .int .i64 3, .string ⟨#[65, 66, 88]⟩, .int .i64 1, .int .i64 0, .string ⟨#[74, 77, 80]⟩, .int .i64 32, .int .i64 0, .string ⟨#[74, 83, 82]⟩, .int .i64 33, .int .i64 0] t)) (.slice (some ⟨w.heap.size, 0, none⟩) 6 6) [([83, 87, 73], 51, 1), ([83, 87, 73, 50], 51, 2), ([83, 87, 73, 51], 51, 3), ([65, 66, 88], 1, 0), ([74, 77, 80], 32, 0), ([74, 83, 82], 33, 0)] := Els.Rd.lit w t [([83, 87, 73], 51, 1), ([83, 87, 73, 50], 51, 2), ([83, 87, 73, 51], 51, 3), ([65, 66, 88], 1, 0), ([74, 77, 80], 32, 0), ([74, 83, 82], 33, 0)] _ 6 rfl rfl 6
set_option maxRecDepth 100000 in
theorem refCnd_any (k : Nat) (hk : k < 16) (w : World) :
    Calls Tryz.prog 56 #[.int .i64 (k : Int)] w fun e w' => e = .returned (.string (byteStr (cndNames.getD k []))) ∧ Below w.heap.size w w' := by
  have k0 : (0 : Int) ≤ (k : Int) := by omega
  have k1 : (k : Int) < 16 := by omega
  have k2 : ¬ ((15 : Int) < (k : Int)) := by omega
  go_enter Tryz.func56, Tryz.ntmps56
  go_wp2
  go_ret
  refine ⟨?_, Below.alloc0 (Below.refl _ _) _⟩
  rcases (show k = 0 ∨ k = 1 ∨ k = 2 ∨ k = 3 ∨ k = 4 ∨ k = 5 ∨ k = 6 ∨ k = 7 ∨ k = 8 ∨ k = 9 ∨ k = 10 ∨ k = 11 ∨ k = 12 ∨ k = 13 ∨ k = 14 ∨ k = 15 by omega) with rfl | rfl | rfl | rfl | rfl | rfl | rfl | rfl | rfl | rfl | rfl | rfl | rfl | rfl | rfl | rfl
  all_goals rfl
end Go.Proofs.YtljhfalgplihhaaGreatDoor
namespace Go.Proofs.YtljhfalgplihhaaGreatDoor
open Go.ChangeShapes Go.WideShapes Go.ChangeAt Go.RowKit
set_option linter.unusedVariables false
set_option maxRecDepth 100000 in
set_option maxHeartbeats 4000000 in
theorem rows_any (w : World) : Calls Tryz.prog 36 #[] w fun e w' => ∃ v, e = .returned v ∧ eW.Own 87 w' w.heap.size v (l8 15) ∧ Below w.heap.size w w' := by
  have P0 : Hid (Blk (w.alloc (Obj.cells (csS eightL) 9)) w.heap.size 9 (csS eightL)) := Lib.hid (Blk.new _ _ _ (0, 0))
  have O0 : Hid (eW.Own 87 (w.alloc (Obj.cells (csS eightL) 9)) w.heap.size (.slice none 0 0) (l1 0)) := Lib.hid (Els.Own.nil_ _ _)
  have B0 := Lib.hid (Below.alloc0 (Below.refl w.heap.size w) (Obj.cells (csS eightL) 9))
  obtain ⟨G, hG⟩ : ∃ G, w.heap.size = G := ⟨_, rfl⟩
  go_enter Tryz.func36, Tryz.ntmps36
  go_wp2
  have HG := Lib.hid hG
  clear hG
  go_loopw [1, 3] (fun v i wr => ∃ k : Nat, k ≤ 11 ∧ i = .int .i64 k ∧ Hid (eW.Own 87 wr w.heap.size v (l1 k)) ∧ Hid (Blk wr G 9 (csS eightL) ∧ v.ownBlock ≠ some G) ∧ Hid (Below w.heap.size w wr)) (fun _ i _ => 11 - (intOf i).toNat)
  case atStart => exact ⟨0, Nat.zero_le _, rfl, O0, Lib.hid ⟨by rw [← HG.out]; exact P0.out, by intro e; cases e⟩, B0⟩
  case round =>
    obtain ⟨k, hk, rfl, hO, hP, hB⟩ := hrel
    by_cases hlt : k < 11
    · have c1 := (hP.out.1.cell k).trans (csS_at eightL k hlt)
      have k0 : (0 : Int) ≤ (k : Int) := by omega
      have k11 : (k : Int) < 11 := by omega
      have CW := Lib.hid (with_any u1 (l1 k) (eightL.getD k []) (2 + (k : Int)) [65, 66] w.heap.size wr hO.out hB.out.size (by have := l1_len ⟨k, by omega⟩; simp only at this; omega) (eight_short ⟨k, hlt⟩) (by decide))
      have HN := Lib.hid (l1_next k)
      generalize byteStr (eightL.getD k []) = S at *
      go_wp2_with fail
      refine CW.out.mono ?_
      rintro e w2 ⟨v2, rfl, ho, hg⟩
      have O2 : Hid (eW.Own 87 w2 w.heap.size v2 (l1 (k + 1))) := Lib.hid (by rw [HN.out]; exact ho)
      have P2 := Lib.hid (hg.blk hP.out.1 hP.out.2)
      have B2 := Lib.hid (hB.out.trans (own_grw hO.out hB.out.size hg))
      clear ho hg CW
      go_wp2
      go_roundw
      case rel => exact ⟨k + 1, by omega, by go_num, O2, P2, B2⟩
      case measure => simp [intOf] <;> omega
    · obtain rfl : k = 11 := by omega
      have O1 : Hid (eW.Own 87 (wr.alloc (Obj.cells (csS chgL) 9)) w.heap.size u1 (l2 0)) := Lib.hid (by
        have e : l2 0 = l1 11 := by simp [l2]
        rw [e]; exact Els.Own.alloc hO.out _)
      have P1 : Hid (Blk (wr.alloc (Obj.cells (csS chgL) 9)) wr.heap.size 9 (csS chgL) ∧ u1.ownBlock ≠ some wr.heap.size) := Lib.hid ⟨Blk.new _ _ _ (0, 0), own_ne hO.out⟩
      have B1 := Lib.hid (hB.out.alloc hB.out.size (Obj.cells (csS chgL) 9))
      obtain ⟨H, hH⟩ : ∃ H, wr.heap.size = H := ⟨_, rfl⟩
      rw [hH] at P1
      have hO := ()
      have hP := ()
      have hB := ()
      clear hO hP hB
      go_wp2
      clear hH
      go_loopw [1, 5] (fun v i wr => ∃ k : Nat, k ≤ 11 ∧ i = .int .i64 k ∧ Hid (eW.Own 87 wr w.heap.size v (l2 k)) ∧ Hid (Blk wr H 9 (csS chgL) ∧ v.ownBlock ≠ some H) ∧ Hid (Below w.heap.size w wr)) (fun _ i _ => 11 - (intOf i).toNat)
      case atStart => exact ⟨0, Nat.zero_le _, rfl, O1, P1, B1⟩
      case round =>
        obtain ⟨k, hk, rfl, hO, hP, hB⟩ := hrel
        by_cases hlt : k < 11
        · have c1 := (hP.out.1.cell k).trans (csS_at chgL k hlt)
          have k0 : (0 : Int) ≤ (k : Int) := by omega
          have k11 : (k : Int) < 11 := by omega
          have kw : IntKind.i64.wrap (13 + (k : Int)) = 13 + (k : Int) := IntWalk.i64_in _ (by omega)
          have hlen := l2_len ⟨k, by omega⟩
          simp only at hlen
          have HLn := Lib.hid hlen
          have CW := Lib.hid (fun v2 (w2 : World) (ho : eW.Own 87 w2 w.heap.size v2 (l2 k ++ [(chgL.getD k [], 13 + (k : Int), 0)])) (hb : w.heap.size ≤ w2.heap.size) => with_any v2 _ (chgL.getD k []) (13 + (k : Int)) [65, 66] w.heap.size w2 ho hb (by rw [List.length_append]; simp; omega) (chg_short ⟨k, hlt⟩) (by decide))
          have HN : Hid (l2 (k + 1) = l2 k ++ [(chgL.getD k [], 13 + (k : Int), 0)] ++ withW (chgL.getD k []) (13 + (k : Int)) [65, 66] 10) := Lib.hid (by rw [l2_next]; simp [m2])
          have HRd : Hid (∀ w0 : World, eW.Rd (w0.alloc (.cells #[.string (byteStr (chgL.getD k [])), .int .i64 (13 + (k : Int)), .int .i64 0] 87)) (.slice (some ⟨w0.heap.size, 0, none⟩) 1 1) [(chgL.getD k [], 13 + (k : Int), 0)]) := Lib.hid (fun w0 => rdW_lit1 _ _ _ _ _)
          obtain ⟨S, hS⟩ : ∃ S, byteStr (chgL.getD k []) = S := ⟨_, rfl⟩
          rw [hS] at CW HRd c1
          have S0 : Hid ((fun w' => w'.cell? ⟨H, k, none⟩ = some (.string S)) wr.drew) := Lib.hid c1
          have S1 : Hid ((fun w' => w'.cell? ⟨H, k, none⟩ = some (.string S)) (wr.alloc (.cells #[.string S, .int .i64 (13 + (k : Int)), .int .i64 0] 87)).drew) := Lib.hid (((hP.out.1.alloc _).cell k).trans ((hP.out.1.cell k).symm.trans c1))
          have S1b : Hid ((fun w' => w'.cell? ⟨H, k, none⟩ = some (.string S)) (wr.drew.alloc (.cells #[.string S, .int .i64 (13 + (k : Int)), .int .i64 0] 87))) := Lib.hid S1.out
          clear hS hlen
          go_wp2
          refine wp_region_noPanic ?_
          refine wp_region_held_drew (S := (fun w' => w'.cell? ⟨H, k, none⟩ = some (.string S))) (by kernel_rfl) ?_ (fun hH0 => ?_)
          · (try dsimp only); with_reducible exact S0.out
          refine wpAnyH_take (i := 0) (oi := ({ dst := some 31, op := Op.move (Operand.tmp 1), type := 84, pos := "ref.go:34", after := #[], guard := none } : Oper)) (v := ?_) rfl (by kernel_rfl) (by kernel_rfl) (by kernel_rfl) (fun _ _ _ h => h) (Or.inl ⟨by rfl, ?_⟩) (by assumption) ?_
          rotate_left 1
          · (intro w hSw; (try dsimp only at hSw); go_simp; (try with_reducible rfl))
          (try simp only [Act.put, List.setIfInBounds_toArray, List.set_cons_zero, List.set_cons_succ])
          refine wpAnyH_take (i := 1) (oi := ({ dst := some 32, op := Op.move (Operand.tmp 4), type := 32, pos := "ref.go:34", after := #[], guard := none } : Oper)) (v := ?_) rfl (by kernel_rfl) (by kernel_rfl) (by kernel_rfl) (fun _ _ _ h => h) (Or.inl ⟨by rfl, ?_⟩) (by assumption) ?_
          rotate_left 1
          · (intro w hSw; (try dsimp only at hSw); go_simp; (try with_reducible rfl))
          (try simp only [Act.put, List.setIfInBounds_toArray, List.set_cons_zero, List.set_cons_succ])
          refine wpAnyH_take (i := 2) (oi := ({ dst := some 33, op := Op.move (Operand.tmp 5), type := 3, pos := "ref.go:34", after := #[], guard := none } : Oper)) (v := ?_) rfl (by kernel_rfl) (by kernel_rfl) (by kernel_rfl) (fun _ _ _ h => h) (Or.inl ⟨by rfl, ?_⟩) (by assumption) ?_
          rotate_left 1
          · (intro w hSw; (try dsimp only at hSw); go_simp; (try with_reducible rfl))
          (try simp only [Act.put, List.setIfInBounds_toArray, List.set_cons_zero, List.set_cons_succ])
          refine wpAnyH_take (i := 3) (oi := ({ dst := some 34, op := Op.indexAddr 32 (Operand.tmp 32) (Operand.tmp 33), type := 0, pos := "ref.go:34", after := #[{ on := 1, ground := Ground.data }, { on := 2, ground := Ground.data }], guard := none } : Oper)) (v := ?_) rfl (by kernel_rfl) (by kernel_rfl) (by kernel_rfl) (fun _ _ _ h => h) (Or.inl ⟨by rfl, ?_⟩) (by assumption) ?_
          rotate_left 1
          · (intro w hSw; (try dsimp only at hSw); go_simp; (try with_reducible rfl))
          (try simp only [Act.put, List.setIfInBounds_toArray, List.set_cons_zero, List.set_cons_succ])
          refine wpAnyH_take (i := 4) (oi := ({ dst := some 35, op := Op.load 9 (Operand.tmp 34), type := 9, pos := "ref.go:34", after := #[{ on := 3, ground := Ground.data }], guard := none } : Oper)) (v := ?_) rfl (by kernel_rfl) (by kernel_rfl) (by kernel_rfl) (fun _ _ _ h => h) (Or.inl ⟨by rfl, ?_⟩) (by assumption) ?_
          rotate_left 1
          · (intro w hSw; (try dsimp only at hSw); go_simp; (try with_reducible rfl))
          (try simp only [Act.put, List.setIfInBounds_toArray, List.set_cons_zero, List.set_cons_succ])
          refine wpAnyH_take (i := 5) (oi := ({ dst := some 36, op := Op.move (Operand.tmp 5), type := 3, pos := "ref.go:34", after := #[], guard := none } : Oper)) (v := ?_) rfl (by kernel_rfl) (by kernel_rfl) (by kernel_rfl) (fun _ _ _ h => h) (Or.inl ⟨by rfl, ?_⟩) (by assumption) ?_
          rotate_left 1
          · (intro w hSw; (try dsimp only at hSw); go_simp; (try with_reducible rfl))
          (try simp only [Act.put, List.setIfInBounds_toArray, List.set_cons_zero, List.set_cons_succ])
          refine wpAnyH_take (i := 6) (oi := ({ dst := some 37, op := Op.binOp BinOp.add 3 (Operand.const (Value.int IntKind.i64 13)) (Operand.tmp 36) 3, type := 3, pos := "ref.go:34", after := #[{ on := 5, ground := Ground.data }], guard := none } : Oper)) (v := ?_) rfl (by kernel_rfl) (by kernel_rfl) (by kernel_rfl) (fun _ _ _ h => h) (Or.inl ⟨by rfl, ?_⟩) (by assumption) ?_
          rotate_left 1
          · (intro w hSw; (try dsimp only at hSw); go_simp; (try with_reducible rfl))
          (try simp only [Act.put, List.setIfInBounds_toArray, List.set_cons_zero, List.set_cons_succ])
          refine wpAnyH_take (i := 7) (oi := ({ dst := some 38, op := Op.build 87 #[(0, Operand.tmp 35), (1, Operand.tmp 37), (2, Operand.const (Value.int IntKind.i64 0))], type := 87, pos := "ref.go:34", after := #[{ on := 4, ground := Ground.data }, { on := 6, ground := Ground.data }], guard := none } : Oper)) (v := ?_) rfl (by kernel_rfl) (by kernel_rfl) (by kernel_rfl) (fun _ _ _ h => h) (Or.inl ⟨by rfl, ?_⟩) (by assumption) ?_
          rotate_left 1
          · (intro w hSw; (try dsimp only at hSw); go_simp; (try with_reducible rfl))
          (try simp only [Act.put, List.setIfInBounds_toArray, List.set_cons_zero, List.set_cons_succ])
          refine wpAnyH_take (i := 10) (oi := ({ dst := some 41, op := Op.move (Operand.tmp 4), type := 32, pos := "ref.go:34", after := #[], guard := none } : Oper)) (v := ?_) rfl (by kernel_rfl) (by kernel_rfl) (by kernel_rfl) (fun _ _ _ h => h) (Or.inl ⟨by rfl, ?_⟩) (by assumption) ?_
          rotate_left 1
          · (intro w hSw; (try dsimp only at hSw); go_simp; (try with_reducible rfl))
          (try simp only [Act.put, List.setIfInBounds_toArray, List.set_cons_zero, List.set_cons_succ])
          refine wpAnyH_take (i := 11) (oi := ({ dst := some 42, op := Op.move (Operand.tmp 5), type := 3, pos := "ref.go:34", after := #[], guard := none } : Oper)) (v := ?_) rfl (by kernel_rfl) (by kernel_rfl) (by kernel_rfl) (fun _ _ _ h => h) (Or.inl ⟨by rfl, ?_⟩) (by assumption) ?_
          rotate_left 1
          · (intro w hSw; (try dsimp only at hSw); go_simp; (try with_reducible rfl))
          (try simp only [Act.put, List.setIfInBounds_toArray, List.set_cons_zero, List.set_cons_succ])
          refine wpAnyH_take (i := 12) (oi := ({ dst := some 43, op := Op.indexAddr 32 (Operand.tmp 41) (Operand.tmp 42), type := 0, pos := "ref.go:34", after := #[{ on := 10, ground := Ground.data }, { on := 11, ground := Ground.data }], guard := none } : Oper)) (v := ?_) rfl (by kernel_rfl) (by kernel_rfl) (by kernel_rfl) (fun _ _ _ h => h) (Or.inl ⟨by rfl, ?_⟩) (by assumption) ?_
          rotate_left 1
          · (intro w hSw; (try dsimp only at hSw); go_simp; (try with_reducible rfl))
          (try simp only [Act.put, List.setIfInBounds_toArray, List.set_cons_zero, List.set_cons_succ])
          refine wpAnyH_take (i := 13) (oi := ({ dst := some 44, op := Op.load 9 (Operand.tmp 43), type := 9, pos := "ref.go:34", after := #[{ on := 12, ground := Ground.data }], guard := none } : Oper)) (v := ?_) rfl (by kernel_rfl) (by kernel_rfl) (by kernel_rfl) (fun _ _ _ h => h) (Or.inl ⟨by rfl, ?_⟩) (by assumption) ?_
          rotate_left 1
          · (intro w hSw; (try dsimp only at hSw); go_simp; (try with_reducible rfl))
          (try simp only [Act.put, List.setIfInBounds_toArray, List.set_cons_zero, List.set_cons_succ])
          refine wpAnyH_take (i := 14) (oi := ({ dst := some 45, op := Op.move (Operand.tmp 5), type := 3, pos := "ref.go:34", after := #[], guard := none } : Oper)) (v := ?_) rfl (by kernel_rfl) (by kernel_rfl) (by kernel_rfl) (fun _ _ _ h => h) (Or.inl ⟨by rfl, ?_⟩) (by assumption) ?_
          rotate_left 1
          · (intro w hSw; (try dsimp only at hSw); go_simp; (try with_reducible rfl))
          (try simp only [Act.put, List.setIfInBounds_toArray, List.set_cons_zero, List.set_cons_succ])
          refine wpAnyH_take (i := 15) (oi := ({ dst := some 46, op := Op.binOp BinOp.add 3 (Operand.const (Value.int IntKind.i64 13)) (Operand.tmp 45) 3, type := 3, pos := "ref.go:34", after := #[{ on := 14, ground := Ground.data }], guard := none } : Oper)) (v := ?_) rfl (by kernel_rfl) (by kernel_rfl) (by kernel_rfl) (fun _ _ _ h => h) (Or.inl ⟨by rfl, ?_⟩) (by assumption) ?_
          rotate_left 1
          · (intro w hSw; (try dsimp only at hSw); go_simp; (try with_reducible rfl))
          (try simp only [Act.put, List.setIfInBounds_toArray, List.set_cons_zero, List.set_cons_succ])
          refine wpAnyH_ready (rs := [8]) (by kernel_rfl) (by simp) ?_
          refine AllReadyH.cons (o := ({ dst := some 39, op := Op.buildSlice 84 1 #[(0, Operand.tmp 38)], type := 84, pos := "ref.go:34", after := #[{ on := 7, ground := Ground.data }], guard := none } : Oper)) rfl (fun K hK => ?_) ?_
          rotate_left 1
          · exact AllReadyH.nil
          go_simp
          first | (refine hK.out _ _ ?_ (fun hH1 => ?_)) | (go_wp2_with fail; refine hK.out _ _ ?_ (fun hH1 => ?_))
          · (try dsimp only); with_reducible first | exact S1.out | exact S1b.out
          clear hK K hH0
          (try simp only [Act.put, List.setIfInBounds_toArray, List.set_cons_zero, List.set_cons_succ])
          refine wpAnyH_ready (rs := [9]) (by kernel_rfl) (by simp) ?_
          refine AllReadyH.cons (o := ({ dst := some 40, op := Op.call { callee := Callee.builtin Builtin.append, args := #[Operand.tmp 31, Operand.tmp 39], argTypes := #[84, 84] }, type := 84, pos := "ref.go:34", after := #[{ on := 0, ground := Ground.data }, { on := 8, ground := Ground.data }], guard := none } : Oper)) rfl (fun K hK => ?_) ?_
          rotate_left 1
          · exact AllReadyH.nil
          (refine step_appW rfl _ (.tmp 31) (.tmp 39) rfl w.heap.size _ _ (l2 k) [(chgL.getD k [], 13 + (k : Int), 0)] rfl (Els.Own.drew (Els.Own.alloc hO.out _)) rfl (HRd.out _) (by have := HLn.out; simp; omega) (by have := hB.out.size; simp; omega) ?_; intro v2 w2 ho2 hg2; have G2 := Lib.hid (((Grw.drewN wr 1 u1).trans (Grw.alloc _ _ u1)).trans hg2); have O2 := Lib.hid ho2; have P2 := Lib.hid (G2.out.blk hP.out.1 hP.out.2); have S2 := Lib.hid (show (fun w' => w'.cell? ⟨H, k, none⟩ = some (.string S)) w2 from (P2.out.1.cell k).trans ((hP.out.1.cell k).symm.trans c1)); have Z2 := Lib.hid (Nat.le_trans hB.out.size G2.out.1.size); clear ho2 hg2)
          first | (refine hK.out _ _ ?_ (fun hH2 => ?_)) | (go_wp2_with fail; refine hK.out _ _ ?_ (fun hH2 => ?_))
          · (try dsimp only); with_reducible exact S2.out
          clear hK K hH1
          (try simp only [Act.put, List.setIfInBounds_toArray, List.set_cons_zero, List.set_cons_succ])
          refine wpAnyH_ready (rs := [16]) (by kernel_rfl) (by simp) ?_
          refine AllReadyH.cons (o := ({ dst := some 47, op := Op.call { callee := Callee.value (Operand.func 55), args := #[Operand.tmp 40, Operand.tmp 44, Operand.tmp 46, Operand.const (Value.string { data := #[65, 66] })], argTypes := #[84, 9, 3, 9] }, type := 84, pos := "ref.go:34", after := #[{ on := 9, ground := Ground.data }, { on := 13, ground := Ground.data }, { on := 15, ground := Ground.data }, { on := 9, ground := Ground.chain }], guard := none } : Oper)) rfl (fun K hK => ?_) ?_
          rotate_left 1
          · exact AllReadyH.nil
          go_simp
          go_at_call 55
          ((refine (CW.out _ _ O2.out Z2.out).mono ?_); rintro e w3 ⟨v3, rfl, ho3, hg3⟩; have O3 : Hid (eW.Own 87 w3 w.heap.size v3 (l2 (k + 1))) := Lib.hid (by rw [HN.out]; exact ho3); have P3 := Lib.hid (hg3.blk P2.out.1 P2.out.2); have S3 := Lib.hid (show (fun w' => w'.cell? ⟨H, k, none⟩ = some (.string S)) w3 from (P3.out.1.cell k).trans ((hP.out.1.cell k).symm.trans c1)); have B3 := Lib.hid (hB.out.trans (own_grw hO.out hB.out.size (G2.out.trans hg3))); clear ho3 hg3)
          first | (refine hK.out _ _ ?_ (fun hH3 => ?_)) | (go_wp2_with fail; refine hK.out _ _ ?_ (fun hH3 => ?_))
          · (try dsimp only); with_reducible exact S3.out
          clear hK K hH2
          (try simp only [Act.put, List.setIfInBounds_toArray, List.set_cons_zero, List.set_cons_succ])
          refine wpAnyH_take (i := 17) (oi := ({ dst := some 1, op := Op.assign (Operand.tmp 47), type := 84, pos := "ref.go:34", after := #[{ on := 16, ground := Ground.data }, { on := 16, ground := Ground.chain }, { on := 0, ground := Ground.phase }, { on := 1, ground := Ground.phase }, { on := 2, ground := Ground.phase }, { on := 3, ground := Ground.phase }, { on := 4, ground := Ground.phase }, { on := 5, ground := Ground.phase }, { on := 6, ground := Ground.phase }, { on := 7, ground := Ground.phase }, { on := 8, ground := Ground.phase }, { on := 9, ground := Ground.phase }, { on := 10, ground := Ground.phase }, { on := 11, ground := Ground.phase }, { on := 12, ground := Ground.phase }, { on := 13, ground := Ground.phase }, { on := 14, ground := Ground.phase }, { on := 15, ground := Ground.phase }, { on := 16, ground := Ground.phase }], guard := none } : Oper)) (v := ?_) rfl (by kernel_rfl) (by kernel_rfl) (by kernel_rfl) (fun _ _ _ h => h) (Or.inl ⟨by rfl, ?_⟩) (by assumption) ?_
          rotate_left 1
          · (intro w hSw; (try dsimp only at hSw); go_simp; (try with_reducible rfl))
          (try simp only [Act.put, List.setIfInBounds_toArray, List.set_cons_zero, List.set_cons_succ])
          refine wpAnyH_done (by kernel_rfl) ?_ _
          refine NoPanic.normal ?_
          go_wp2
          go_roundw
          case rel => first | exact ⟨k + 1, by omega, by omega, O3⟩ | exact ⟨k + 1, by omega, by go_num, O3, P3, B3⟩
          case measure => simp [intOf] <;> omega
        · obtain rfl : k = 11 := by omega
          have L3 := Lib.hid l3_len
          have hle11 : (l2 11).length ≤ 1000 := l2_len ⟨11, by decide⟩
          have LE11 := Lib.hid hle11
          clear hle11
          have CW1 := Lib.hid (with_any u1 (l2 11) [76, 68] 24 [68, 88, 89, 85, 83] w.heap.size _ hO.out hB.out.size (by have := LE11.out; omega) (by decide) (by decide))
          go_wp2_with fail
          refine CW1.out.mono ?_
          rintro e y1 ⟨v1, rfl, ho, hg⟩
          have Q1 : Hid (eW.Own 87 y1 w.heap.size v1 l3a) := Lib.hid ho
          have E1 := Lib.hid (hB.out.trans (own_grw hO.out hB.out.size hg))
          clear ho hg CW1
          have CW2 := Lib.hid (with_any v1 l3a [83, 84] 25 [68, 88, 89, 85, 83] w.heap.size _ Q1.out E1.out.size (by have := L3.out.1; omega) (by decide) (by decide))
          go_wp2_with fail
          refine CW2.out.mono ?_
          rintro e y2 ⟨v2, rfl, ho, hg⟩
          have Q2 : Hid (eW.Own 87 y2 w.heap.size v2 l3b) := Lib.hid ho
          have E2 := Lib.hid (E1.out.trans (own_grw Q1.out E1.out.size hg))
          clear ho hg CW2
          have CW3 := Lib.hid (with_any v2 l3b [67, 77, 80] 28 [68, 88, 89, 85, 83] w.heap.size _ Q2.out E2.out.size (by have := L3.out.2.1; omega) (by decide) (by decide))
          go_wp2_with fail
          refine CW3.out.mono ?_
          rintro e y3 ⟨v3, rfl, ho, hg⟩
          have Q3 : Hid (eW.Own 87 y3 w.heap.size v3 l3) := Lib.hid ho
          have E3 := Lib.hid (E2.out.trans (own_grw Q2.out E2.out.size hg))
          clear ho hg CW3
          go_wp2_with (at_builtin; refine wpList_appW rfl _ (.tmp 52) (.tmp 55) rfl w.heap.size _ _ l3 [([65, 68, 68, 68], 26, 0), ([83, 85, 66, 68], 27, 0)] rfl (Els.Own.alloc Q3.out _) rfl (rdW_lit2 _ _) (by have := L3.out.2.2.1; simp; omega) (by have := E3.out.size; simp; omega) ?_; intro v4 y4 ho4 hg4; have Q4 : Hid (eW.Own 87 y4 w.heap.size v4 l4) := Lib.hid ho4; have E4 := Lib.hid (E3.out.trans (own_grw Q3.out E3.out.size ((Grw.alloc _ _ _).trans hg4))); clear ho4 hg4)
          have CW5 := Lib.hid (with_any v4 l4 [76, 69, 65] 29 [88, 89, 85, 83] w.heap.size _ Q4.out E4.out.size (by have := L3.out.2.2.2.1; omega) (by decide) (by decide))
          refine CW5.out.mono ?_
          rintro e y5 ⟨v5, rfl, ho, hg⟩
          have Q5 : Hid (eW.Own 87 y5 w.heap.size v5 l5a) := Lib.hid ho
          have E5 := Lib.hid (E4.out.trans (own_grw Q4.out E4.out.size hg))
          clear ho hg CW5
          have CW6 := Lib.hid (with_any v5 l5a [80, 83, 72] 30 [85, 83] w.heap.size _ Q5.out E5.out.size (by have := L3.out.2.2.2.2.1; omega) (by decide) (by decide))
          go_wp2_with fail
          refine CW6.out.mono ?_
          rintro e y6 ⟨v6, rfl, ho, hg⟩
          have Q6 : Hid (eW.Own 87 y6 w.heap.size v6 l5b) := Lib.hid ho
          have E6 := Lib.hid (E5.out.trans (own_grw Q5.out E5.out.size hg))
          clear ho hg CW6
          have CW7 := Lib.hid (with_any v6 l5b [80, 85, 76] 31 [85, 83] w.heap.size _ Q6.out E6.out.size (by have := L3.out.2.2.2.2.2.1; omega) (by decide) (by decide))
          go_wp2_with fail
          refine CW7.out.mono ?_
          rintro e y7 ⟨v7, rfl, ho, hg⟩
          have Q7 : Hid (eW.Own 87 y7 w.heap.size v7 l5) := Lib.hid ho
          have E7 := Lib.hid (E6.out.trans (own_grw Q6.out E6.out.size hg))
          clear ho hg CW7
          have Q70 : Hid (eW.Own 87 y7 w.heap.size v7 (l6 0)) := Lib.hid (by
            have e : l6 0 = l5 := by simp [l6]
            rw [e]; exact Q7.out)
          clear hO hP hB O1 P1 B1 Q1 Q2 Q3 Q4 Q5 Q6 Q7 E1 E2 E3 E4 E5 E6
          go_wp2
          go_loopw [1, 6] (fun v i wr => ∃ k : Nat, k ≤ 16 ∧ i = .int .i64 k ∧ Hid (eW.Own 87 wr w.heap.size v (l6 k)) ∧ Hid (Below w.heap.size w wr)) (fun _ i _ => 16 - (intOf i).toNat)
          case atStart => exact ⟨0, Nat.zero_le _, rfl, Q70, E7⟩
          case round =>
            obtain ⟨k, hk, rfl, hO, hB⟩ := hrel
            by_cases hlt : k < 16
            · have k0 : (0 : Int) ≤ (k : Int) := by omega
              have k16 : (k : Int) < 16 := by omega
              have CR := Lib.hid (fun u => refCnd_any k hlt u)
              have hlen := l6_len ⟨k, by omega⟩
              simp only at hlen
              have HLn := Lib.hid hlen
              have hcs : (byteStr (cndNames.getD k [])).size ≤ 100 := by
                have : ∀ k : Fin 16, (byteStr (cndNames.getD k.val [])).size ≤ 100 := by decide +kernel
                exact this ⟨k, hlt⟩
              have HN := Lib.hid (l6_next k)
              have HA1 : Hid ((⟨#[66]⟩ : ByteArray) ++ byteStr (cndNames.getD k []) = byteStr ([66] ++ cndNames.getD k [])) := Lib.hid (byteStr_appO [66] _)
              have HA2 : Hid ((⟨#[76, 66]⟩ : ByteArray) ++ byteStr (cndNames.getD k []) = byteStr ([76, 66] ++ cndNames.getD k [])) := Lib.hid (byteStr_appO [76, 66] _)
              have hs1 : (⟨#[66]⟩ : ByteArray).size = 1 := rfl
              have hs2 : (⟨#[76, 66]⟩ : ByteArray).size = 2 := rfl
              have hu1 : ¬ (9223372036854775807 < (⟨#[66]⟩ : ByteArray).size + (byteStr (cndNames.getD k [])).size) := by rw [hs1]; omega
              have hu2 : ¬ (9223372036854775807 < (⟨#[76, 66]⟩ : ByteArray).size + (byteStr (cndNames.getD k [])).size) := by rw [hs2]; omega
              unfold m6 at HN
              obtain ⟨T1, hT1⟩ : ∃ T, [66] ++ cndNames.getD k [] = T := ⟨_, rfl⟩
              obtain ⟨T2, hT2⟩ : ∃ T, [76, 66] ++ cndNames.getD k [] = T := ⟨_, rfl⟩
              rw [hT1] at HA1 HN
              rw [hT2] at HA2 HN
              generalize byteStr (cndNames.getD k []) = S at *
              have ha1 := HA1.out
              have ha2 := HA2.out
              clear hT1 hT2 hlen hcs hs1 hs2
              by_cases hk0 : 0 < k
              · rw [if_pos hk0] at HN
                have k00 : (0 : Int) < (k : Int) := by omega
                go_wp2_with fail
                refine (CR.out _).mono ?_
                rintro e y1 ⟨rfl, hb⟩
                have B1 := Lib.hid (hB.out.trans (hb.mono hB.out.size))
                have O1 := Lib.hid (Els.Own.below hO.out hb)
                clear hb
                go_wp2_with (at_builtin; refine wpList_appW rfl _ (.tmp 65) (.tmp 71) rfl w.heap.size _ _ (l6 k) [(T1, 34, (k : Int))] rfl (Els.Own.alloc O1.out _) rfl (rdW_lit1 _ _ _ _ _) (by have := HLn.out; simp; omega) (by have := B1.out.size; simp; omega) ?_; intro v2 y2 ho hg; have O2 := Lib.hid ho; have B2 := Lib.hid (B1.out.trans (own_grw O1.out B1.out.size ((Grw.alloc _ _ _).trans hg))); clear ho hg)
                refine (CR.out _).mono ?_
                rintro e y3 ⟨rfl, hb⟩
                have B3 := Lib.hid (B2.out.trans (hb.mono B2.out.size))
                have O3 := Lib.hid (Els.Own.below O2.out hb)
                clear hb
                go_wp2_with (at_builtin; refine wpList_appW rfl _ (.tmp 75) (.tmp 81) rfl w.heap.size _ _ _ [(T2, 35, (k : Int))] rfl (Els.Own.alloc O3.out _) rfl (rdW_lit1 _ _ _ _ _) (by have := HLn.out; simp; omega) (by have := B3.out.size; simp; omega) ?_; intro v4 y4 ho hg; have O4 : Hid (eW.Own 87 y4 w.heap.size v4 (l6 (k + 1))) := Lib.hid (by rw [HN.out]; simpa using ho); have B4 := Lib.hid (B3.out.trans (own_grw O3.out B3.out.size ((Grw.alloc _ _ _).trans hg))); clear ho hg)
                go_roundw
                case rel => first | exact ⟨k + 1, by omega, by omega, O4⟩ | exact ⟨k + 1, by omega, by go_num, O4, B4⟩
                case measure => simp [intOf] <;> omega
              · obtain rfl : k = 0 := by omega
                rw [if_neg hk0] at HN
                go_wp2_with fail
                refine (CR.out _).mono ?_
                rintro e y1 ⟨rfl, hb⟩
                have B1 := Lib.hid (hB.out.trans (hb.mono hB.out.size))
                have O1 := Lib.hid (Els.Own.below hO.out hb)
                clear hb
                go_wp2_with (at_builtin; refine wpList_appW rfl _ (.tmp 65) (.tmp 71) rfl w.heap.size _ _ (l6 0) [(T1, 34, 0)] rfl (Els.Own.alloc O1.out _) rfl (rdW_lit1 _ _ _ _ _) (by have := HLn.out; simp; omega) (by have := B1.out.size; simp; omega) ?_; intro v2 y2 ho hg; have O2 : Hid (eW.Own 87 y2 w.heap.size v2 (l6 (0 + 1))) := Lib.hid (by rw [HN.out]; exact ho); have B2 := Lib.hid (B1.out.trans (own_grw O1.out B1.out.size ((Grw.alloc _ _ _).trans hg))); clear ho hg)
                go_roundw
                case rel => first | exact ⟨0 + 1, by omega, by omega, O2⟩ | exact ⟨0 + 1, by omega, by go_num, O2, B2⟩
                case measure => simp [intOf] <;> omega
            · obtain rfl : k = 16 := by omega
              have hlen := l6_len ⟨16, by decide⟩
              simp only at hlen
              have HLn := Lib.hid hlen
              clear hlen
              go_wp2_with (first
                | (at_builtin; refine wpList_appW rfl _ (.tmp 83) (.tmp 90) rfl w.heap.size _ _ (l6 16) [([83, 87, 73], 51, 1), ([83, 87, 73, 50], 51, 2), ([83, 87, 73, 51], 51, 3), ([65, 66, 88], 1, 0), ([74, 77, 80], 32, 0), ([74, 83, 82], 33, 0)] rfl (Els.Own.alloc hO.out _) rfl (rdW_lit6 _ _) (by have := HLn.out; simp; omega) (by have := hB.out.size; simp; omega) ?_; intro v2 y2 ho hg; have O2 : Hid (eW.Own 87 y2 w.heap.size v2 l7) := Lib.hid ho; have B2 := Lib.hid (hB.out.trans (own_grw hO.out hB.out.size ((Grw.alloc _ _ _).trans hg))); clear ho hg)
                | fail)
              have P3 : Hid (Blk (y2.alloc (Obj.cells (csS aloneL) 9)) y2.heap.size 9 (csS aloneL) ∧ v2.ownBlock ≠ some y2.heap.size) := Lib.hid ⟨Blk.new _ _ _ (0, 0), own_ne O2.out⟩
              have O3 : Hid (eW.Own 87 (y2.alloc (Obj.cells (csS aloneL) 9)) w.heap.size v2 (l8 0)) := Lib.hid (by
                have e : l8 0 = l7 := by simp [l8]
                rw [e]; exact Els.Own.alloc O2.out _)
              have B3 := Lib.hid (B2.out.alloc B2.out.size (Obj.cells (csS aloneL) 9))
              obtain ⟨J, hJ⟩ : ∃ J, y2.heap.size = J := ⟨_, rfl⟩
              rw [hJ] at P3 ⊢
              clear hJ hO hB O2 B2 Q70 E7
              go_loopw [1, 8] (fun v i wr => ∃ k : Nat, k ≤ 15 ∧ i = .int .i64 k ∧ Hid (eW.Own 87 wr w.heap.size v (l8 k)) ∧ Hid (Blk wr J 9 (csS aloneL) ∧ v.ownBlock ≠ some J) ∧ Hid (Below w.heap.size w wr)) (fun _ i _ => 15 - (intOf i).toNat)
              case atStart => exact ⟨0, Nat.zero_le _, rfl, O3, P3, B3⟩
              case round =>
                obtain ⟨k, hk, rfl, hO, hP, hB⟩ := hrel
                by_cases hlt : k < 15
                · have c1 := (hP.out.1.cell k).trans (csS_at aloneL k hlt)
                  have k0 : (0 : Int) ≤ (k : Int) := by omega
                  have k15 : (k : Int) < 15 := by omega
                  have hlen := l8_len ⟨k, by omega⟩
                  simp only at hlen
                  have HLn := Lib.hid hlen
                  have HN := Lib.hid (l8_next k)
                  have HRd : Hid (∀ w0 : World, eW.Rd (w0.alloc (.cells #[.string (byteStr (aloneL.getD k [])), .int .i64 (36 + (k : Int)), .int .i64 0] 87)) (.slice (some ⟨w0.heap.size, 0, none⟩) 1 1) [(aloneL.getD k [], 36 + (k : Int), 0)]) := Lib.hid (fun w0 => rdW_lit1 _ _ _ _ _)
                  generalize byteStr (aloneL.getD k []) = S at *
                  clear hlen
                  go_wp2_with (at_builtin; refine wpList_appW rfl _ (.tmp 99) (.tmp 107) rfl w.heap.size _ _ (l8 k) [(aloneL.getD k [], 36 + (k : Int), 0)] rfl (Els.Own.alloc hO.out _) rfl (HRd.out _) (by have := HLn.out; simp; omega) (by have := hB.out.size; simp; omega) ?_; intro v2 y2 ho hg; have G2 := Lib.hid ((Grw.alloc _ _ _).trans hg); have O2 : Hid (eW.Own 87 y2 w.heap.size v2 (l8 (k + 1))) := Lib.hid (by rw [HN.out]; exact ho); have P2 := Lib.hid (G2.out.blk hP.out.1 hP.out.2); have B2 := Lib.hid (hB.out.trans (own_grw hO.out hB.out.size G2.out)); clear ho hg)
                  go_roundw
                  case rel => first | exact ⟨k + 1, by omega, by omega, O2⟩ | exact ⟨k + 1, by omega, by go_num, O2, P2, B2⟩
                  case measure => simp [intOf] <;> omega
                · obtain rfl : k = 15 := by omega
                  go_wp2
                  go_ret
                  exact ⟨_, rfl, hO.out, hB.out⟩
end Go.Proofs.YtljhfalgplihhaaGreatDoor
namespace Go.Proofs.YtljhfalgplihhaaGreatDoor
open Go.ChangeShapes Go.WideShapes Go.ChangeAt Go.RowKit
set_option linter.unusedVariables false
def MaxO (w : World) : Prop := ∃ m, w.cell? ⟨4, 0, none⟩ = some (.int .i64 m)
def CndAt (w : World) : Prop := ∀ k, k < 16 → w.cell? ⟨9, k, none⟩ = some (.string (byteStr (cndNames.getD k [])))
def StmAt (w : World) : Prop := ∀ k, k < 52 → w.cell? ⟨0, k, none⟩ = some (.string (byteStr (stemNames.getD k [])))
/-- All tables read as listed, and the library's own variable holds some number. -/
def TabO (w : World) : Prop := OregAt w ∧ CndAt w ∧ StmAt w ∧ MaxO w
theorem TabO.below {w w' : World} (h : TabO w) (hb : Below w.heap.size w w') : TabO w' := by
  obtain ⟨h1, h2, h3, m, h4⟩ := h
  exact ⟨h1.below hb, fun k hk => (hb.cell (p := ⟨9, k, none⟩) (cell_lt (h2 k hk))).trans (h2 k hk), fun k hk => (hb.cell (p := ⟨0, k, none⟩) (cell_lt (h3 k hk))).trans (h3 k hk), m, (hb.cell (p := ⟨4, 0, none⟩) (cell_lt h4)).trans h4⟩
theorem TabO.drewN {w : World} (h : TabO w) (n : Nat) : TabO (w.drewN n) := h
theorem regI_at (k : Nat) (hk : k < 12) : byteStr (regI (k : Int)) = regS k := by
  unfold regI regS
  rw [if_pos (by omega)]; rfl
theorem byteStr_list (s : Txt) : (byteStr s).toList = s := by rw [ByteArray.toList_eq]; rfl
theorem opsRegI_any (r : Int) (w : World) (hT : OregAt w) :
    Calls Tryz.prog 89 #[.int .i64 r] w fun e w' => e = .returned (.string (byteStr (regI r))) ∧ w = w' := by
  by_cases h0 : 0 ≤ r
  · by_cases h1 : r < 12
    · obtain ⟨k, rfl⟩ := Int.eq_ofNat_of_zero_le h0
      have hc := hT k (by omega)
      rw [regI_at k (by omega)]
      clear hT
      generalize regS k = s at hc ⊢
      go_enter Tryz.func89, Tryz.ntmps89
      go_wp2
      go_ret
      exact ⟨rfl, rfl⟩
    · have h2 : (12 : Int) ≤ r := by omega
      rw [show regI r = [] by unfold regI; rw [if_neg (by omega)]]
      go_enter Tryz.func89, Tryz.ntmps89
      go_wp2
      go_ret
      exact ⟨rfl, rfl⟩
  · have h2 : r < 0 := by omega
    rw [show regI r = [] by unfold regI; rw [if_neg (by omega)]]
    go_enter Tryz.func89, Tryz.ntmps89
    go_wp2
    go_ret
    exact ⟨rfl, rfl⟩
theorem knownO (n : Int) (w : World) : Calls Tryz.prog 101 #[.int .i64 n] w fun e w' => e = .returned (.bool (decide (0 ≤ n) && decide (n < 16))) ∧ w = w' := by
  by_cases h : 0 ≤ n
  · have h2 : decide (0 ≤ n) = true := by simpa using h
    rw [h2]
    go_enter Tryz.func101, Tryz.ntmps101
    go_wp2
    go_ret
    exact ⟨rfl, rfl⟩
  · have h3 : n < 0 := by omega
    have h2 : decide (0 ≤ n) = false := by simpa using h3
    rw [h2]
    clear h
    go_enter Tryz.func101, Tryz.ntmps101
    go_wp2
    go_ret
    exact ⟨rfl, rfl⟩
theorem cndName_any (r : Int) (w : World) (hT : CndAt w) :
    Calls Tryz.prog 97 #[.int .i64 r] w fun e w' => e = .returned (.string (byteStr (cndI r))) ∧ w = w' := by
  by_cases h : 0 ≤ r ∧ r < 16
  · obtain ⟨h0, h1⟩ := h
    have CK := Lib.hid (knownO r w)
    rw [show decide (0 ≤ r) = true by simpa using h0, show decide (r < 16) = true by simpa using h1] at CK
    obtain ⟨k, rfl⟩ := Int.eq_ofNat_of_zero_le h0
    have hc := hT k (by omega)
    rw [show cndI (k : Int) = cndNames.getD k [] by unfold cndI; rw [if_pos (by omega)]; rfl]
    clear hT
    generalize byteStr (cndNames.getD k []) = s at hc ⊢
    go_enter Tryz.func97, Tryz.ntmps97
    go_wp2_with fail
    refine CK.out.mono ?_
    rintro e w1 ⟨rfl, rfl⟩
    go_wp2
    go_ret
    exact ⟨rfl, rfl⟩
  · have CK := Lib.hid (knownO r w)
    have hf : (decide (0 ≤ r) && decide (r < 16)) = false := by
      rw [Bool.and_eq_false_iff, decide_eq_false_iff_not, decide_eq_false_iff_not]; omega
    rw [hf] at CK
    rw [show cndI r = [] by unfold cndI; rw [if_neg h]]
    clear h hf
    go_enter Tryz.func97, Tryz.ntmps97
    go_wp2_with fail
    refine CK.out.mono ?_
    rintro e w1 ⟨rfl, rfl⟩
    go_wp2
    go_ret
    exact ⟨rfl, rfl⟩
theorem letter_any (r : Int) (B : ByteArray) (hB : B.size < 1000) (w : World) (hT : TabO w) :
    Calls Tryz.prog 85 #[.int .i64 r, .string B] w fun e w' => e = .returned (.tuple #[.string (byteStr (letI' B.data.toList r).1), .bool (letI' B.data.toList r).2]) ∧ w = w' := by
  obtain ⟨m, hm⟩ := hT.2.2.2
  have CR := Lib.hid (opsRegI_any r w hT.1)
  have CC := Lib.hid ((Tryz.strings_Contains B (byteStr (regI r)) m w (by omega) hm).mono (fun e w' h => (⟨h.1, h.2.symm⟩ : e = .returned (.bool (Lib.contains B.data.toList (regI r))) ∧ w = w')))
  have HE := Lib.hid (byteStr_list (regI r))
  unfold letI'
  clear hT hm
  generalize Lib.contains B.data.toList (regI r) = C at *
  cases he : (regI r).isEmpty
  · have e1 : (byteStr (regI r)).toList.isEmpty = false := by rw [HE.out]; exact he
    generalize byteStr (regI r) = t at *
    clear he HE
    go_enter Tryz.func85, Tryz.ntmps85
    go_wp2_with fail
    refine CR.out.mono ?_
    rintro e w1 ⟨rfl, rfl⟩
    go_wp2_with fail
    refine CC.out.mono ?_
    rintro e w1 ⟨rfl, rfl⟩
    go_wp2
    go_ret2
    exact ⟨rfl, rfl⟩
  · have e1 : (byteStr (regI r)).toList.isEmpty = true := by rw [HE.out]; exact he
    generalize byteStr (regI r) = t at *
    clear he HE
    go_enter Tryz.func85, Tryz.ntmps85
    go_wp2_with fail
    refine CR.out.mono ?_
    rintro e w1 ⟨rfl, rfl⟩
    go_wp2
    go_ret2
    exact ⟨rfl, rfl⟩
theorem condition_any (r least : Int) (w : World) (hT : CndAt w) :
    Calls Tryz.prog 86 #[.int .i64 r, .int .i64 least] w fun e w' => e = .returned (.tuple #[.string (byteStr (cndE least r).1), .bool (cndE least r).2]) ∧ w = w' := by
  have CR := Lib.hid (cndName_any r w hT)
  have HE := Lib.hid (byteStr_list (cndI r))
  unfold cndE
  clear hT
  cases he : (cndI r).isEmpty
  · have e1 : (byteStr (cndI r)).toList.isEmpty = false := by rw [HE.out]; exact he
    generalize byteStr (cndI r) = t at *
    clear he HE
    go_enter Tryz.func86, Tryz.ntmps86
    go_wp2_with fail
    refine CR.out.mono ?_
    rintro e w1 ⟨rfl, rfl⟩
    go_wp2
    go_ret2
    exact ⟨rfl, rfl⟩
  · have e1 : (byteStr (cndI r)).toList.isEmpty = true := by rw [HE.out]; exact he
    generalize byteStr (cndI r) = t at *
    clear he HE
    go_enter Tryz.func86, Tryz.ntmps86
    go_wp2_with fail
    refine CR.out.mono ?_
    rintro e w1 ⟨rfl, rfl⟩
    go_wp2
    go_ret2
    exact ⟨rfl, rfl⟩
theorem interrupt_any (r : Int) (w : World) :
    Calls Tryz.prog 87 #[.int .i64 r] w fun e w' => e = .returned (.tuple #[.string (byteStr (intE r).1), .bool (intE r).2]) ∧ w = w' := by
  by_cases h1 : r = 1
  · subst h1
    go_enter Tryz.func87, Tryz.ntmps87
    go_wp2
    go_ret2
    exact ⟨rfl, rfl⟩
  · by_cases h2 : r = 2
    · subst h2
      go_enter Tryz.func87, Tryz.ntmps87
      go_wp2
      go_ret2
      exact ⟨rfl, rfl⟩
    · by_cases h3 : r = 3
      · subst h3
        go_enter Tryz.func87, Tryz.ntmps87
        go_wp2
        go_ret2
        exact ⟨rfl, rfl⟩
      · have e1 : (r == 1) = false := by simpa using h1
        have e2 : (r == 2) = false := by simpa using h2
        have e3 : (r == 3) = false := by simpa using h3
        have HE : Hid (intE r = ([], false)) := Lib.hid (by unfold intE; rw [if_neg h1, if_neg h2, if_neg h3])
        rw [HE.out]
        clear h1 h2 h3
        go_enter Tryz.func87, Tryz.ntmps87
        go_wp2
        go_ret2
        exact ⟨rfl, rfl⟩
set_option maxRecDepth 100000 in
set_option maxHeartbeats 4000000 in
theorem opsGroup_any (op : Int) (w : World) :
    Calls Tryz.prog 88 #[.int .i64 op] w fun e w' => e = .returned (.int .i64 (grpO op)) ∧ w = w' := by
  by_cases h : 2 ≤ op ∧ op ≤ 33 ∧ op ≠ 30 ∧ op ≠ 31
  · rcases (show op = 2 ∨ op = 3 ∨ op = 4 ∨ op = 5 ∨ op = 6 ∨ op = 7 ∨ op = 8 ∨ op = 9 ∨ op = 10 ∨ op = 11 ∨ op = 12 ∨ op = 13 ∨ op = 14 ∨ op = 15 ∨ op = 16 ∨ op = 17 ∨ op = 18 ∨ op = 19 ∨ op = 20 ∨ op = 21 ∨ op = 22 ∨ op = 23 ∨ op = 24 ∨ op = 25 ∨ op = 26 ∨ op = 27 ∨ op = 28 ∨ op = 29 ∨ op = 32 ∨ op = 33 by omega) with rfl | rfl | rfl | rfl | rfl | rfl | rfl | rfl | rfl | rfl | rfl | rfl | rfl | rfl | rfl | rfl | rfl | rfl | rfl | rfl | rfl | rfl | rfl | rfl | rfl | rfl | rfl | rfl | rfl | rfl
    all_goals
      clear h
      go_enter Tryz.func88, Tryz.ntmps88
      go_wp2
      go_ret
      exact ⟨rfl, rfl⟩
  · have HE : Hid (grpO op = 0) := Lib.hid (by
      unfold grpO
      rw [if_neg (by omega), if_neg (by omega), if_neg (by omega), if_neg (by omega), if_neg (by omega), if_neg (by omega), if_neg (by omega), if_neg (by omega), if_neg (by omega), if_neg (by omega)])
    rw [HE.out]
    have e2 : (op == 2) = false := by simp; omega
    have e3 : (op == 3) = false := by simp; omega
    have e4 : (op == 4) = false := by simp; omega
    have e5 : (op == 5) = false := by simp; omega
    have e6 : (op == 6) = false := by simp; omega
    have e7 : (op == 7) = false := by simp; omega
    have e8 : (op == 8) = false := by simp; omega
    have e9 : (op == 9) = false := by simp; omega
    have e10 : (op == 10) = false := by simp; omega
    have e11 : (op == 11) = false := by simp; omega
    have e12 : (op == 12) = false := by simp; omega
    have e13 : (op == 13) = false := by simp; omega
    have e14 : (op == 14) = false := by simp; omega
    have e15 : (op == 15) = false := by simp; omega
    have e16 : (op == 16) = false := by simp; omega
    have e17 : (op == 17) = false := by simp; omega
    have e18 : (op == 18) = false := by simp; omega
    have e19 : (op == 19) = false := by simp; omega
    have e20 : (op == 20) = false := by simp; omega
    have e21 : (op == 21) = false := by simp; omega
    have e22 : (op == 22) = false := by simp; omega
    have e23 : (op == 23) = false := by simp; omega
    have e24 : (op == 24) = false := by simp; omega
    have e25 : (op == 25) = false := by simp; omega
    have e26 : (op == 26) = false := by simp; omega
    have e27 : (op == 27) = false := by simp; omega
    have e28 : (op == 28) = false := by simp; omega
    have e29 : (op == 29) = false := by simp; omega
    have e32 : (op == 32) = false := by simp; omega
    have e33 : (op == 33) = false := by simp; omega
    clear h
    go_enter Tryz.func88, Tryz.ntmps88
    go_wp2
    go_ret
    exact ⟨rfl, rfl⟩
end Go.Proofs.YtljhfalgplihhaaGreatDoor
namespace Go.Proofs.YtljhfalgplihhaaGreatDoor
open Go.ChangeShapes Go.WideShapes Go.ChangeAt Go.RowKit
set_option linter.unusedVariables false
def EndPost (op r : Int) (w : World) (e : Ending) (w' : World) : Prop := e = .returned (.tuple #[.string (byteStr (endI op r).1), .bool (endI op r).2]) ∧ w = w'
theorem end24_any (r : Int) (w : World) (hT : TabO w) : Calls Tryz.prog 73 #[.int .i64 24, .int .i64 r] w (EndPost 24 r w) := by
  have CL := Lib.hid (letter_any r ⟨#[68, 88, 89, 85, 83]⟩ (by decide) w hT)
  unfold EndPost
  rw [show endI 24 r = letI' [68, 88, 89, 85, 83] r from rfl]
  clear hT
  go_enter Tryz.func73, Tryz.ntmps73
  go_wp2_with fail
  refine CL.out.mono ?_
  rintro e w1 ⟨rfl, rfl⟩
  go_wp2
  go_ret2
  exact ⟨rfl, rfl⟩
theorem end25_any (r : Int) (w : World) (hT : TabO w) : Calls Tryz.prog 73 #[.int .i64 25, .int .i64 r] w (EndPost 25 r w) := by
  have CL := Lib.hid (letter_any r ⟨#[68, 88, 89, 85, 83]⟩ (by decide) w hT)
  unfold EndPost
  rw [show endI 25 r = letI' [68, 88, 89, 85, 83] r from rfl]
  clear hT
  go_enter Tryz.func73, Tryz.ntmps73
  go_wp2_with fail
  refine CL.out.mono ?_
  rintro e w1 ⟨rfl, rfl⟩
  go_wp2
  go_ret2
  exact ⟨rfl, rfl⟩
theorem end28_any (r : Int) (w : World) (hT : TabO w) : Calls Tryz.prog 73 #[.int .i64 28, .int .i64 r] w (EndPost 28 r w) := by
  have CL := Lib.hid (letter_any r ⟨#[68, 88, 89, 85, 83]⟩ (by decide) w hT)
  unfold EndPost
  rw [show endI 28 r = letI' [68, 88, 89, 85, 83] r from rfl]
  clear hT
  go_enter Tryz.func73, Tryz.ntmps73
  go_wp2_with fail
  refine CL.out.mono ?_
  rintro e w1 ⟨rfl, rfl⟩
  go_wp2
  go_ret2
  exact ⟨rfl, rfl⟩
theorem end26_any (r : Int) (w : World) (hT : TabO w) : Calls Tryz.prog 73 #[.int .i64 26, .int .i64 r] w (EndPost 26 r w) := by
  have CL := Lib.hid (letter_any r ⟨#[68]⟩ (by decide) w hT)
  unfold EndPost
  rw [show endI 26 r = letI' [68] r from rfl]
  clear hT
  go_enter Tryz.func73, Tryz.ntmps73
  go_wp2_with fail
  refine CL.out.mono ?_
  rintro e w1 ⟨rfl, rfl⟩
  go_wp2
  go_ret2
  exact ⟨rfl, rfl⟩
theorem end27_any (r : Int) (w : World) (hT : TabO w) : Calls Tryz.prog 73 #[.int .i64 27, .int .i64 r] w (EndPost 27 r w) := by
  have CL := Lib.hid (letter_any r ⟨#[68]⟩ (by decide) w hT)
  unfold EndPost
  rw [show endI 27 r = letI' [68] r from rfl]
  clear hT
  go_enter Tryz.func73, Tryz.ntmps73
  go_wp2_with fail
  refine CL.out.mono ?_
  rintro e w1 ⟨rfl, rfl⟩
  go_wp2
  go_ret2
  exact ⟨rfl, rfl⟩
theorem end29_any (r : Int) (w : World) (hT : TabO w) : Calls Tryz.prog 73 #[.int .i64 29, .int .i64 r] w (EndPost 29 r w) := by
  have CL := Lib.hid (letter_any r ⟨#[88, 89, 85, 83]⟩ (by decide) w hT)
  unfold EndPost
  rw [show endI 29 r = letI' [88, 89, 85, 83] r from rfl]
  clear hT
  go_enter Tryz.func73, Tryz.ntmps73
  go_wp2_with fail
  refine CL.out.mono ?_
  rintro e w1 ⟨rfl, rfl⟩
  go_wp2
  go_ret2
  exact ⟨rfl, rfl⟩
theorem end30_any (r : Int) (w : World) (hT : TabO w) : Calls Tryz.prog 73 #[.int .i64 30, .int .i64 r] w (EndPost 30 r w) := by
  have CL := Lib.hid (letter_any r ⟨#[85, 83]⟩ (by decide) w hT)
  unfold EndPost
  rw [show endI 30 r = letI' [85, 83] r from rfl]
  clear hT
  go_enter Tryz.func73, Tryz.ntmps73
  go_wp2_with fail
  refine CL.out.mono ?_
  rintro e w1 ⟨rfl, rfl⟩
  go_wp2
  go_ret2
  exact ⟨rfl, rfl⟩
theorem end31_any (r : Int) (w : World) (hT : TabO w) : Calls Tryz.prog 73 #[.int .i64 31, .int .i64 r] w (EndPost 31 r w) := by
  have CL := Lib.hid (letter_any r ⟨#[85, 83]⟩ (by decide) w hT)
  unfold EndPost
  rw [show endI 31 r = letI' [85, 83] r from rfl]
  clear hT
  go_enter Tryz.func73, Tryz.ntmps73
  go_wp2_with fail
  refine CL.out.mono ?_
  rintro e w1 ⟨rfl, rfl⟩
  go_wp2
  go_ret2
  exact ⟨rfl, rfl⟩
theorem end34_any (r : Int) (w : World) (hT : TabO w) : Calls Tryz.prog 73 #[.int .i64 34, .int .i64 r] w (EndPost 34 r w) := by
  have CL := Lib.hid (condition_any r 0 w hT.2.1)
  unfold EndPost
  rw [show endI 34 r = cndE 0 r from rfl]
  clear hT
  go_enter Tryz.func73, Tryz.ntmps73
  go_wp2_with fail
  refine CL.out.mono ?_
  rintro e w1 ⟨rfl, rfl⟩
  go_wp2
  go_ret2
  exact ⟨rfl, rfl⟩
theorem end35_any (r : Int) (w : World) (hT : TabO w) : Calls Tryz.prog 73 #[.int .i64 35, .int .i64 r] w (EndPost 35 r w) := by
  have CL := Lib.hid (condition_any r 1 w hT.2.1)
  unfold EndPost
  rw [show endI 35 r = cndE 1 r from rfl]
  clear hT
  go_enter Tryz.func73, Tryz.ntmps73
  go_wp2_with fail
  refine CL.out.mono ?_
  rintro e w1 ⟨rfl, rfl⟩
  go_wp2
  go_ret2
  exact ⟨rfl, rfl⟩
theorem end51_any (r : Int) (w : World) : Calls Tryz.prog 73 #[.int .i64 51, .int .i64 r] w (EndPost 51 r w) := by
  have CL := Lib.hid (interrupt_any r w)
  unfold EndPost
  rw [show endI 51 r = intE r from rfl]
  go_enter Tryz.func73, Tryz.ntmps73
  go_wp2_with fail
  refine CL.out.mono ?_
  rintro e w1 ⟨rfl, rfl⟩
  go_wp2
  go_ret2
  exact ⟨rfl, rfl⟩
set_option maxHeartbeats 1000000 in
theorem endElse_any (op r : Int) (hop : op ≠ 24 ∧ op ≠ 25 ∧ op ≠ 28 ∧ op ≠ 26 ∧ op ≠ 27 ∧ op ≠ 29 ∧ op ≠ 30 ∧ op ≠ 31 ∧ op ≠ 34 ∧ op ≠ 35 ∧ op ≠ 51) (w : World) (hT : TabO w) : Calls Tryz.prog 73 #[.int .i64 op, .int .i64 r] w (EndPost op r w) := by
  have CL := Lib.hid (letter_any r ⟨#[65, 66]⟩ (by decide) w hT)
  have CG := Lib.hid (opsGroup_any op w)
  have HE : Hid (endI op r = if grpO op = 1 ∨ grpO op = 2 then letI' [65, 66] r else if (grpO op = 3 ∨ grpO op = 4) ∧ r ≠ 0 then letI' [65, 66] r else ([], r == 0)) := Lib.hid (by
    unfold endI
    rw [if_neg (by omega), if_neg (by omega), if_neg (by omega), if_neg (by omega), if_neg (by omega), if_neg (by omega), if_neg (by omega)])
  unfold EndPost
  rw [HE.out]
  have e24 : (op == 24) = false := by simp; omega
  have e25 : (op == 25) = false := by simp; omega
  have e28 : (op == 28) = false := by simp; omega
  have e26 : (op == 26) = false := by simp; omega
  have e27 : (op == 27) = false := by simp; omega
  have e29 : (op == 29) = false := by simp; omega
  have e30 : (op == 30) = false := by simp; omega
  have e31 : (op == 31) = false := by simp; omega
  have e34 : (op == 34) = false := by simp; omega
  have e35 : (op == 35) = false := by simp; omega
  have e51 : (op == 51) = false := by simp; omega
  generalize grpO op = g at *
  clear hop HE hT
  by_cases h1 : g = 1
  · subst h1
    rw [if_pos (.inl rfl)]
    go_enter Tryz.func73, Tryz.ntmps73
    go_wp2_with fail
    refine CG.out.mono ?_
    rintro e w1 ⟨rfl, rfl⟩
    go_wp2_with fail
    refine CL.out.mono ?_
    rintro e w1 ⟨rfl, rfl⟩
    go_wp2
    go_ret2
    exact ⟨rfl, rfl⟩
  · by_cases h2 : g = 2
    · subst h2
      rw [if_pos (.inr rfl)]
      go_enter Tryz.func73, Tryz.ntmps73
      go_wp2_with fail
      refine CG.out.mono ?_
      rintro e w1 ⟨rfl, rfl⟩
      go_wp2_with fail
      refine CL.out.mono ?_
      rintro e w1 ⟨rfl, rfl⟩
      go_wp2
      go_ret2
      exact ⟨rfl, rfl⟩
    · rw [if_neg (by omega)]
      have g1 : (g == 1) = false := by simpa using h1
      have g2 : (g == 2) = false := by simpa using h2
      by_cases h3 : g = 3 ∨ g = 4
      · by_cases hr : r = 0
        · subst hr
          rw [if_neg (by simp)]
          clear h1 h2
          rcases h3 with rfl | rfl
          all_goals
            go_enter Tryz.func73, Tryz.ntmps73
            go_wp2_with fail
            refine CG.out.mono ?_
            rintro e w1 ⟨rfl, rfl⟩
            go_wp2
            go_ret2
            exact ⟨rfl, rfl⟩
        · rw [if_pos ⟨h3, hr⟩]
          have hr2 : (r != 0) = true := by simpa using hr
          clear h1 h2 hr
          rcases h3 with rfl | rfl
          all_goals
            go_enter Tryz.func73, Tryz.ntmps73
            go_wp2_with fail
            refine CG.out.mono ?_
            rintro e w1 ⟨rfl, rfl⟩
            go_wp2_with fail
            refine CL.out.mono ?_
            rintro e w1 ⟨rfl, rfl⟩
            go_wp2
            go_ret2
            exact ⟨rfl, rfl⟩
      · rw [if_neg (by omega)]
        have g3 : (g == 3) = false := by simp; omega
        have g4 : (g == 4) = false := by simp; omega
        clear h1 h2 h3
        go_enter Tryz.func73, Tryz.ntmps73
        go_wp2_with fail
        refine CG.out.mono ?_
        rintro e w1 ⟨rfl, rfl⟩
        go_wp2
        go_ret2
        exact ⟨rfl, rfl⟩
theorem ending_any (op r : Int) (w : World) (hT : TabO w) : Calls Tryz.prog 73 #[.int .i64 op, .int .i64 r] w (EndPost op r w) := by
  by_cases h : op ≠ 24 ∧ op ≠ 25 ∧ op ≠ 28 ∧ op ≠ 26 ∧ op ≠ 27 ∧ op ≠ 29 ∧ op ≠ 30 ∧ op ≠ 31 ∧ op ≠ 34 ∧ op ≠ 35 ∧ op ≠ 51
  · exact endElse_any op r h w hT
  · rcases (show op = 24 ∨ op = 25 ∨ op = 28 ∨ op = 26 ∨ op = 27 ∨ op = 29 ∨ op = 30 ∨ op = 31 ∨ op = 34 ∨ op = 35 ∨ op = 51 by omega) with rfl | rfl | rfl | rfl | rfl | rfl | rfl | rfl | rfl | rfl | rfl
    · exact end24_any r w hT
    · exact end25_any r w hT
    · exact end28_any r w hT
    · exact end26_any r w hT
    · exact end27_any r w hT
    · exact end29_any r w hT
    · exact end30_any r w hT
    · exact end31_any r w hT
    · exact end34_any r w hT
    · exact end35_any r w hT
    · exact end51_any r w
theorem regI_size (r : Int) : (regI r).length ≤ 100 := by
  unfold regI
  split
  · rename_i h
    have : ∀ k : Fin 12, (regNames.getD k.val []).length ≤ 100 := by decide +kernel
    exact this ⟨r.toNat, by omega⟩
  · decide
theorem cndI_size (r : Int) : (cndI r).length ≤ 100 := by
  unfold cndI
  split
  · rename_i h
    have : ∀ k : Fin 16, (cndNames.getD k.val []).length ≤ 100 := by decide +kernel
    exact this ⟨r.toNat, by omega⟩
  · decide
theorem byteStr_sizeO (s : Txt) : (byteStr s).size = s.length := rfl
theorem end_size (op r : Int) : (byteStr (endI op r).1).size ≤ 1000 := by
  rw [byteStr_sizeO]
  have a := regI_size r
  have b := cndI_size r
  have c : (intE r).1.length ≤ 100 := by unfold intE; split <;> (try split) <;> (try split) <;> simp
  unfold endI
  repeat' split
  all_goals first
    | (show (regI r).length ≤ 1000; omega)
    | (show (cndI r).length ≤ 1000; omega)
    | omega
    | simp
theorem byteStr_append (a b : Txt) : byteStr (a ++ b) = byteStr a ++ byteStr b := by
  apply ByteArray.ext
  simp [byteStr]
theorem opsName_any (op r : Int) (w : World) (hT : TabO w) : Calls Tryz.prog 51 #[.int .i64 op, .int .i64 r] w fun e w' => e = .returned (.string (byteStr (nameI op r))) ∧ w = w' := by
  by_cases h0 : 0 < op
  · by_cases h1 : op < 52
    · obtain ⟨k, rfl⟩ := Int.eq_ofNat_of_zero_le (show 0 ≤ op by omega)
      have CE := Lib.hid (ending_any (k : Int) r w hT)
      have hc := hT.2.2.1 k (by omega)
      have HN : Hid (nameI (k : Int) r = if (endI (k : Int) r).2 then stemNames.getD k [] ++ (endI (k : Int) r).1 else []) := Lib.hid (by
        unfold nameI; rw [if_pos ⟨h0, h1⟩]; rfl)
      have hs1 : (byteStr (stemNames.getD k [])).size ≤ 100 := by
        have : ∀ k : Fin 52, (byteStr (stemNames.getD k.val [])).size ≤ 100 := by decide +kernel
        exact this ⟨k, by omega⟩
      have k0 : (0 : Int) ≤ (k : Int) := by omega
      rw [HN.out]
      unfold EndPost at CE
      have hs2 : (byteStr (endI (k : Int) r).1).size ≤ 1000 := end_size _ _
      generalize endI (k : Int) r = E at *
      obtain ⟨x, b⟩ := E
      simp only at CE hs2 ⊢
      have HS : Hid (byteStr (stemNames.getD k [] ++ x) = byteStr (stemNames.getD k []) ++ byteStr x) := Lib.hid (byteStr_append _ _)
      generalize stemNames.getD k [] = s at *
      have hsz : ¬ (9223372036854775807 < (byteStr s).size + (byteStr x).size) := by omega
      clear hT HN hs1 hs2
      cases b
      · go_enter Tryz.func51, Tryz.ntmps51
        go_wp2_with fail
        refine CE.out.mono ?_
        rintro e w1 ⟨rfl, rfl⟩
        go_wp2
        go_ret
        exact ⟨rfl, rfl⟩
      · rw [if_pos rfl, HS.out]
        generalize byteStr s = S at *
        generalize byteStr x = X at *
        go_enter Tryz.func51, Tryz.ntmps51
        go_wp2_with fail
        refine CE.out.mono ?_
        rintro e w1 ⟨rfl, rfl⟩
        go_wp2
        go_ret
        exact ⟨rfl, rfl⟩
    · have h2 : (52 : Int) ≤ op := by omega
      rw [show nameI op r = [] by unfold nameI; rw [if_neg (by omega)]]
      clear hT
      go_enter Tryz.func51, Tryz.ntmps51
      go_wp2
      go_ret
      exact ⟨rfl, rfl⟩
  · have h2 : op ≤ 0 := by omega
    rw [show nameI op r = [] by unfold nameI; rw [if_neg (by omega)]]
    clear hT h0
    go_enter Tryz.func51, Tryz.ntmps51
    go_wp2
    go_ret
    exact ⟨rfl, rfl⟩
end Go.Proofs.YtljhfalgplihhaaGreatDoor
namespace Go.Proofs.YtljhfalgplihhaaGreatDoor
open Go.ChangeShapes Go.WideShapes Go.ChangeAt Go.RowKit
set_option linter.unusedVariables false
/-- The usual name. -/
def usualT (T : Txt) : Txt := if T = [76, 83, 76] then [65, 83, 76] else if T = [76, 83, 76, 65] then [65, 83, 76, 65] else if T = [76, 83, 76, 66] then [65, 83, 76, 66] else if T = [66, 72, 83] then [66, 67, 67] else if T = [66, 76, 79] then [66, 67, 83] else if T = [76, 66, 72, 83] then [76, 66, 67, 67] else if T = [76, 66, 76, 79] then [76, 66, 67, 83] else T
theorem sameR_eq (a b : Txt × Nat × Nat) (h : sameR a b = true) : a = b := by
  obtain ⟨a1, a2, a3⟩ := a
  obtain ⟨b1, b2, b3⟩ := b
  simp only [sameR, Bool.and_eq_true, beq_iff_eq, Nat.beq_eq] at h
  obtain ⟨⟨h1, h2⟩, h3⟩ := h
  rw [h1, h2, h3]
theorem code_mem (op r : Nat) (ho : op < 52) (hr : r < 16) (hn : (nameI (op : Int) (r : Int)).isEmpty = false) : (nameI (op : Int) (r : Int), op, r) ∈ rowsW := by
  have hm : (nameI (op : Int) (r : Int), op, r) ∈ codeW := by
    unfold codeW
    rw [List.mem_flatMap]
    refine ⟨op, List.mem_range.2 ho, ?_⟩
    rw [List.mem_filterMap]
    refine ⟨r, List.mem_range.2 hr, ?_⟩
    rw [if_neg (by rw [hn]; simp)]
  have := List.all_eq_true.1 code_in _ hm
  rw [List.any_eq_true] at this
  obtain ⟨q, hq, hs⟩ := this
  rw [sameR_eq _ _ hs]
  exact hq
theorem rows_mem (p : Txt × Nat × Nat) (hp : p ∈ rowsW) : p.2.1 < 52 ∧ p.2.2 < 16 ∧ (nameI (p.2.1 : Int) (p.2.2 : Int)) = p.1 ∧ p.1.isEmpty = false := by
  have := List.all_eq_true.1 rows_in _ hp
  rw [List.any_eq_true] at this
  obtain ⟨q, hq, hs⟩ := this
  obtain rfl := sameR_eq _ _ hs
  unfold codeW at hq
  rw [List.mem_flatMap] at hq
  obtain ⟨op, ho, hq⟩ := hq
  rw [List.mem_filterMap] at hq
  obtain ⟨r, hr, hq⟩ := hq
  rw [List.mem_range] at ho hr
  split at hq
  · cases hq
  · rename_i hn
    obtain rfl := Option.some.inj hq
    exact ⟨ho, hr, rfl, by simpa using hn⟩
end Go.Proofs.YtljhfalgplihhaaGreatDoor
namespace Go.Proofs.YtljhfalgplihhaaGreatDoor
open Go.ChangeShapes Go.WideShapes Go.ChangeAt Go.RowKit
set_option linter.unusedVariables false
theorem endI_out (op r : Int) (h : r < 0 ∨ 15 < r) : (endI op r).2 = false := by
  have h1 : regI r = [] := by unfold regI; rw [if_neg (by omega)]
  have h2 : cndI r = [] := by unfold cndI; rw [if_neg (by omega)]
  have h3 : intE r = ([], false) := by unfold intE; rw [if_neg (by omega), if_neg (by omega), if_neg (by omega)]
  have h4 : ∀ L, (letI' L r).2 = false := fun L => by unfold letI'; rw [h1]; rfl
  have h5 : ∀ n, (cndE n r).2 = false := fun n => by unfold cndE; rw [h2]; rfl
  have h6 : (r == 0) = false := by simp; omega
  unfold endI
  rw [h3]
  repeat' split
  all_goals first
    | exact h4 _
    | exact h5 _
    | exact h6
    | rfl
theorem name_in (op r : Int) (h : (nameI op r).isEmpty = false) : 0 < op ∧ op < 52 ∧ 0 ≤ r ∧ r < 16 := by
  unfold nameI at h
  split at h
  · rename_i h1
    split at h
    · rename_i h2
      refine ⟨h1.1, h1.2, ?_⟩
      rcases (show r < 0 ∨ 15 < r ∨ (0 ≤ r ∧ r < 16) by omega) with a | a | a
      · rw [endI_out op r (.inl a)] at h2; cases h2
      · rw [endI_out op r (.inr a)] at h2; cases h2
      · exact a
    · simp at h
  · simp at h
theorem l8_len132 : (l8 15).length = 132 := by rw [l8_all]; decide +kernel
/-- The k-th row, and what it says. -/
theorem row_at (k : Nat) (h : k < 132) : ∃ p, p ∈ rowsW ∧ (l8 15)[k]? = some (p.1, (p.2.1 : Int), (p.2.2 : Int)) ∧ rowsW[k]? = some p := by
  have hl : rowsW.length = 132 := by decide +kernel
  refine ⟨rowsW[k]'(by omega), List.getElem_mem _, ?_, List.getElem?_eq_getElem _⟩
  rw [l8_all, List.getElem?_map, List.getElem?_eq_getElem (by omega)]; rfl
theorem row_all (p : Txt × Nat × Nat) (hp : p ∈ rowsW) : ∃ k, k < 132 ∧ rowsW[k]? = some p := by
  have hl : rowsW.length = 132 := by decide +kernel
  obtain ⟨k, hk, e⟩ := List.getElem_of_mem hp
  exact ⟨k, by omega, by rw [List.getElem?_eq_getElem hk, e]⟩
/-- None of the rows is this one's: it has no name. -/
theorem name_none (op r : Int) (h : ∀ k p, k < 132 → rowsW[k]? = some p → ¬ ((p.2.1 : Int) = op ∧ (p.2.2 : Int) = r)) : nameI op r = [] := by
  cases hn : (nameI op r).isEmpty
  · exfalso
    obtain ⟨a, b, c, d⟩ := name_in op r hn
    obtain ⟨o, rfl⟩ := Int.eq_ofNat_of_zero_le (show 0 ≤ op by omega)
    obtain ⟨q, rfl⟩ := Int.eq_ofNat_of_zero_le c
    have hm := code_mem o q (by omega) (by omega) hn
    obtain ⟨k, hk, e⟩ := row_all _ hm
    exact h k _ hk e ⟨rfl, rfl⟩
  · simpa using hn
set_option maxRecDepth 100000 in
set_option maxHeartbeats 2000000 in
theorem refName13_any (op r : Int) (w : World) :
    Calls Tryz.prog 22 #[.int .i64 op, .int .i64 r] w fun e w' => e = .returned (.string (byteStr (nameI op r))) ∧ Below w.heap.size w w' := by
  have CR := Lib.hid (rows_any w)
  go_enter Tryz.func22, Tryz.ntmps22
  go_wp2_with fail
  refine CR.out.mono ?_
  rintro e w1 ⟨v, rfl, ho, hb⟩
  obtain ⟨A, c, hv, hcell⟩ := Els.Rd.open_ ho.rd
  subst hv
  rw [l8_len132] at hcell ⊢
  obtain ⟨g, off, rfl, hg, hc⟩ := hcell (by decide)
  have HC := Lib.hid hc
  have HB := Lib.hid hb
  clear ho hb hcell hc hg CR
  go_wp2
  go_loop [6] (fun i => ∃ k : Nat, k ≤ 132 ∧ i = .int .i64 k ∧ Hid (∀ k' p, k' < k → rowsW[k']? = some p → ¬ ((p.2.1 : Int) = op ∧ (p.2.2 : Int) = r))) (fun i => 132 - (intOf i).toNat)
  case atStart => exact ⟨0, Nat.zero_le _, rfl, Lib.hid (fun k p h => absurd h (by omega))⟩
  case round =>
    obtain ⟨k, hk, rfl, hF⟩ := hrel
    by_cases hlt : k < 132
    · obtain ⟨p, hp, h1, h2⟩ := row_at k hlt
      have c0 := HC.out k _ h1 0 _ rfl
      have c1 := HC.out k _ h1 1 _ rfl
      have c2 := HC.out k _ h1 2 _ rfl
      have k0 : (0 : Int) ≤ (k : Int) := by omega
      have k132 : (k : Int) < 132 := by omega
      have HN := Lib.hid (rows_mem p hp).2.2.1
      have H2 := Lib.hid h2
      simp only at c0 c1 c2
      rw [Nat.add_zero] at c0
      rw [← Nat.add_assoc] at c1 c2
      obtain ⟨P, hP⟩ : ∃ P, (p.2.1 : Int) = P := ⟨_, rfl⟩
      obtain ⟨Q, hQ⟩ : ∃ Q, (p.2.2 : Int) = Q := ⟨_, rfl⟩
      rw [hP] at c1 HN
      rw [hQ] at c2 HN
      have HP := Lib.hid hP
      have HQ := Lib.hid hQ
      obtain ⟨S, hSS⟩ : ∃ S, byteStr p.1 = S := ⟨_, rfl⟩
      rw [hSS] at c0
      have HSS := Lib.hid hSS
      clear h1 h2 hP hQ hSS
      have HNo : Hid (¬ (P = op ∧ Q = r) → ∀ k' p', k' < k + 1 → rowsW[k']? = some p' → ¬ ((p'.2.1 : Int) = op ∧ (p'.2.2 : Int) = r)) := Lib.hid (fun hne k' p' hk' e => by
        rcases Nat.lt_or_ge k' k with a | a
        · exact hF.out k' p' a e
        · obtain rfl : k' = k := by omega
          obtain rfl := Option.some.inj (H2.out.symm.trans e)
          rw [HP.out, HQ.out]; exact hne)
      cases e1 : P == op
      · have HN2 := Lib.hid (HNo.out (fun h => by rw [h.1] at e1; simp at e1))
        clear HNo
        go_wp2
        go_round
        case rel => exact ⟨k + 1, by omega, by go_num, HN2⟩
        case measure => simp [intOf] <;> omega
      · cases e2 : Q == r
        · have HN2 := Lib.hid (HNo.out (fun h => by rw [h.2] at e2; simp at e2))
          clear HNo
          go_wp2
          go_round
          case rel => exact ⟨k + 1, by omega, by go_num, HN2⟩
          case measure => simp [intOf] <;> omega
        · have HE : Hid (byteStr (nameI op r) = S) := Lib.hid (by
            rw [← eq_of_beq e1, ← eq_of_beq e2, HN.out, HSS.out])
          clear HNo
          go_wp2
          go_ret
          exact ⟨by first | (rw [HE.out]; done) | (rw [HE.out]; rfl), HB.out⟩
    · obtain rfl : k = 132 := by omega
      have HE : Hid (byteStr (nameI op r) = ⟨#[]⟩) := Lib.hid (by rw [name_none op r (fun k p a e => hF.out k p a e)]; rfl)
      go_wp2
      go_ret
      exact ⟨by first | (rw [HE.out]; done) | (rw [HE.out]; rfl), HB.out⟩
theorem refUsual (T : Txt) : usualT T = usualT T := rfl
set_option maxRecDepth 100000 in
theorem refRegI_any (r : Int) (w : World) :
    Calls Tryz.prog 33 #[.int .i64 r] w fun e w' => e = .returned (.string (byteStr (regI r))) ∧ Below w.heap.size w w' := by
  by_cases h : 0 ≤ r ∧ r < 12
  · obtain ⟨h0, h1⟩ := h
    obtain ⟨k, rfl⟩ := Int.eq_ofNat_of_zero_le h0
    have k1 : (k : Int) < 12 := h1
    have k2 : ¬ ((11 : Int) < (k : Int)) := by omega
    have k3 : ¬ (11 < k) := by omega
    have k4 : k < 12 := by omega
    have HE : Hid (regI (k : Int) = regNames.getD k []) := Lib.hid (by unfold regI; rw [if_pos ⟨h0, h1⟩]; rfl)
    rw [HE.out]
    go_enter Tryz.func33, Tryz.ntmps33
    go_wp2
    go_ret
    refine ⟨?_, Below.alloc0 (Below.refl _ _) _⟩
    rcases (show k = 0 ∨ k = 1 ∨ k = 2 ∨ k = 3 ∨ k = 4 ∨ k = 5 ∨ k = 6 ∨ k = 7 ∨ k = 8 ∨ k = 9 ∨ k = 10 ∨ k = 11 by omega) with rfl | rfl | rfl | rfl | rfl | rfl | rfl | rfl | rfl | rfl | rfl | rfl
    all_goals rfl
  · have HE : Hid (regI r = []) := Lib.hid (by unfold regI; rw [if_neg h])
    rw [HE.out]
    by_cases h0 : r < 0
    · clear h
      go_enter Tryz.func33, Tryz.ntmps33
      go_wp2
      go_ret
      exact ⟨rfl, Below.alloc0 (Below.refl _ _) _⟩
    · have h1 : (11 : Int) < r := by omega
      have h2 : 0 ≤ r := by omega
      clear h h0
      go_enter Tryz.func33, Tryz.ntmps33
      go_wp2
      go_ret
      exact ⟨rfl, Below.alloc0 (Below.refl _ _) _⟩
theorem refReg12 (k : Nat) (hk : k < 12) (w : World) :
    Calls Tryz.prog 33 #[.int .i64 (k : Int)] w fun e w' => e = .returned (.string (regS k)) ∧ Below w.heap.size w w' := by
  have := refRegI_any (k : Int) w
  rw [regI_at k hk] at this
  exact this
end Go.Proofs.YtljhfalgplihhaaGreatDoor
