/- The contract of the document's own reading of an instruction (spinetref18.Of). -/
import Derived.Test.YtljhfalgplihhaaGreatDoorIns
import Derived.Deep.DeepCutAuto
import Derived.Deep.CutRange
import Derived.Deep.RegionHeld3
import Derived.Deep.CutBlock
import Derived.Laws.Tables
import Derived.Laws.Rows
import Derived.Great.Walk
import Derived.Great.BuildSlice
import Derived.Outline
namespace Go.Proofs.YtljhfalgplihhaaGreatDoor
open Go.ChangeShapes Go.WideShapes Go.ChangeAt Go.RowKit
set_option linter.unusedVariables false

/-- An instruction's cells: page, opcode, operation, mode, register, postbyte, value, length. -/
abbrev insC (p c : Int) (E : Nat) (b v l : Int) : Array Value := #[.int .i64 p, .int .u8 c, .int .i64 (eOp E : Int), .int .i64 (eMode E : Int), .int .i64 (eReg E : Int), .int .u8 b, .int .u16 v, .int .i64 l]
def inAgg (xs : List Int) : Array Value := if inOk xs then insC (inPg xs : Int) (inCo xs) (inE xs) (inPo xs) (inVa xs) (inLn xs : Int) else insC 0 0 0 0 0 0
/-- A row of bytes of the call's own with five zeros behind. -/
def Pad (w : World) (g : Nat) (xs : List Int) (n : Nat) : Prop := ∀ i, i < n + 5 → w.cell? ⟨g, i, none⟩ = some (.int .u8 (iat xs i))
theorem Pad.below {w w' : World} {g : Nat} {xs : List Int} {n : Nat} (h : Pad w g xs n) (hb : Below w.heap.size w w') : Pad w' g xs n := fun i hi =>
  (hb.cell (p := ⟨g, i, none⟩) (cell_lt (h i hi))).trans (h i hi)
theorem Pad.alloc {w : World} {g : Nat} {xs : List Int} {n : Nat} (h : Pad w g xs n) (o : Obj) : Pad (w.alloc o) g xs n := fun i hi =>
  (World.cell?_alloc_lt w o ⟨g, i, none⟩ (cell_lt (h i hi))).trans (h i hi)
theorem Pad.set {w : World} {g gi j n : Nat} {u : Value} {xs : List Int} (h : Pad w g xs n) (hg : g ≠ gi) : Pad (w.setCell ⟨gi, j, none⟩ u) g xs n := fun i hi => by
  rw [World.cell?_setCell_other _ _ _ _ (fun e => hg (by injection e with e1; exact e1.symm))]
  exact h i hi
theorem Pad.lt {w : World} {g : Nat} {xs : List Int} {n : Nat} (h : Pad w g xs n) : g < w.heap.size := cell_lt (h 0 (by omega))
theorem wpList_appNil8 {ops : Array Oper} {rest : List Oper} {o : Oper} {a : Act} {Q : Exit → Act → World → Prop} (hgd : o.guard = none) (w : World) (s x : Operand)
    (ho : o.op = .call { callee := .builtin .append, args := #[s, x], argTypes := #[22, 22] })
    (base : Nat) (v : Value) (zs : List Int) (hs : a.eval s = v) (hown : Own .u8 5 w base v zs) (hx : a.eval x = .slice none 0 0)
    (h : wpList Tryz.prog ops Q rest (a.put o.dst v) w) : wpList Tryz.prog ops Q (o :: rest) a w := by
  obtain ⟨i0, hi, hz0, hz1, hz2⟩ := info_parts info8
  refine wpList_plain hgd fun K hK => ?_
  have hr := run_append_owned_none (P := Tryz.prog) (w := w) base 22 o.type 5 i0 1 Tryz.underlying22 hi v zs.length _ hown
  unfold Oper.wp execOp
  simp only [ho, resolve, invoke, builtin, Sem.run_bind, Sem.run_pure, Result.andThen_ok, List.map_toArray, List.map_cons, List.map_nil, hs, hx, hr]
  exact hK _ _ h
theorem wpList_app8w {ops : Array Oper} {rest : List Oper} {o : Oper} {a : Act} {Q : Exit → Act → World → Prop} (hgd : o.guard = none) (w : World) (s x : Operand)
    (ho : o.op = .call { callee := .builtin .append, args := #[s, x], argTypes := #[22, 22] })
    (base : Nat) (v : Value) (zs : List Int) (hs : a.eval s = v) (hown : Own .u8 5 w base v zs)
    (ad : Addr) (m c : Nat) (news : List Int) (hx : a.eval x = .slice (some ad) m c) (hm : m = news.length)
    (hnews : ∀ j u, (news.map (Value.int .u8))[j]? = some u → w.cell? (ad.add j) = some u)
    (hlen : zs.length + news.length ≤ 140737488355328) (hbase : base ≤ w.heap.size)
    (h : ∀ v' w', Own .u8 5 w' base v' (zs ++ news) → Below base w w' → w.grownBy w' v.ownBlock → wpList Tryz.prog ops Q rest (a.put o.dst v') w') : wpList Tryz.prog ops Q (o :: rest) a w := by
  subst hm
  obtain ⟨i0, hi, hz0, hz1, hz2⟩ := info_parts info8
  refine wpList_append_own_at w hgd s x 22 ho base 5 i0 (.int .u8 0) 1 1 Tryz.underlying22 hi hz0 hz1 hz2 rfl (by decide) v zs.length _ hs hown ad news.length c
    (news.map (Value.int .u8)) hx (by simp) hnews (by intro u hu; obtain ⟨z, _, rfl⟩ := List.mem_map.1 hu; rfl) (by unfold maxLen; omega) (by omega) hbase ?_
  intro v' w' h2 h3 _ _
  refine h v' w' ?_ (below_own h3 (fun g hg => (hown.lt g hg).1) hbase) h3
  unfold Own
  rw [List.length_append, List.map_append]
  exact h2
theorem ints_news {k : IntKind} {w : World} {B n : Nat} {ad : Addr} {zs : List Int} (h : Ints k w B (some ad) n zs) : ∀ j u, (zs.map (Value.int k))[j]? = some u → w.cell? (ad.add j) = some u := by
  intro j u hj
  rw [List.getElem?_map] at hj
  have hlt : j < zs.length := by
    rcases Nat.lt_or_ge j zs.length with a | a
    · exact a
    · rw [List.getElem?_eq_none a] at hj; cases hj
  rw [List.getElem?_eq_getElem hlt] at hj
  obtain ⟨b, off, e, hb, hc⟩ := h.2.2 (by have := h.1; omega)
  obtain rfl := Option.some.inj e
  have hp : (⟨b, off, none⟩ : Addr).add j = ⟨b, off + j, none⟩ := by unfold Addr.add; split <;> simp_all
  rw [hp, hc j (by have := h.1; omega), iat_eq _ _ hlt]
  exact hj
theorem own_pad {w : World} {base n : Nat} {v : Value} {xs : List Int} (h : Own .u8 5 w base v (xs ++ [0, 0, 0, 0, 0])) (hn : xs.length = n) :
    ∃ g cap, v = .slice (some ⟨g, 0, none⟩) (n + 5) cap ∧ base ≤ g ∧ Pad w g xs n ∧ n + 5 ≤ cap := by
  have hcs := fun g => World.ownsRow.cells (g := g) h
  have hl : (xs ++ [0, 0, 0, 0, 0]).length = n + 5 := by rw [List.length_append, hn]; rfl
  obtain ⟨_, h2⟩ := h
  rw [hl] at h2
  rcases h2 with ⟨_, h2⟩ | ⟨g, cap, cur, rfl, h3, h4, h5, h6⟩
  · omega
  · refine ⟨g, cap, rfl, h3, fun i hi => ?_, h5⟩
    have := hcs g rfl i (.int .u8 (iat (xs ++ [0, 0, 0, 0, 0]) i)) (by rw [List.getElem?_map, List.getElem?_eq_getElem (by omega), iat_eq _ _ (by omega)]; rfl)
    rw [← iat_pad xs i, ← this]
    unfold Addr.add; split <;> simp_all
theorem far {w : World} {g gi i j : Nat} {u v : Value} (h : w.cell? ⟨g, i, none⟩ = some v) (hg : g ≠ gi) : (w.setCell ⟨gi, j, none⟩ u).cell? ⟨g, i, none⟩ = some v := by
  rw [World.cell?_setCell_other _ _ _ _ (fun e => hg (by injection e with e1; exact e1.symm))]
  exact h
section
variable {w : World} {g : Nat} {t : TypeId} {v0 v1 v2 v3 v4 v5 v6 v7 : Value}
theorem Blk.s8 (h : Blk w g t #[v0, v1, v2, v3, v4, v5, v6, v7]) : w.cell? ⟨g, 0, none⟩ = some v0 ∧ w.cell? ⟨g, 1, none⟩ = some v1 ∧ w.cell? ⟨g, 2, none⟩ = some v2 ∧ w.cell? ⟨g, 3, none⟩ = some v3 ∧ w.cell? ⟨g, 4, none⟩ = some v4 ∧ w.cell? ⟨g, 5, none⟩ = some v5 ∧ w.cell? ⟨g, 6, none⟩ = some v6 ∧ w.cell? ⟨g, 7, none⟩ = some v7 := by
  refine ⟨?_, ?_, ?_, ?_, ?_, ?_, ?_, ?_⟩ <;> (rw [h.cell]; rfl)
theorem Blk.f8 {cs : Array Value} (h : Blk w g t cs) : w.frozen? ⟨g, 0, none⟩ = false ∧ w.frozen? ⟨g, 1, none⟩ = false ∧ w.frozen? ⟨g, 2, none⟩ = false ∧ w.frozen? ⟨g, 3, none⟩ = false ∧ w.frozen? ⟨g, 4, none⟩ = false ∧ w.frozen? ⟨g, 5, none⟩ = false ∧ w.frozen? ⟨g, 6, none⟩ = false ∧ w.frozen? ⟨g, 7, none⟩ = false :=
  ⟨h.frozen _, h.frozen _, h.frozen _, h.frozen _, h.frozen _, h.frozen _, h.frozen _, h.frozen _⟩
end
theorem res18 (tmps : Array Value) (W : World) (g : Nat) (cs old : Array Value) (h : Blk W g 37 old) (hs : old.size = 8) (hc : cs.size = 8) (h2 : tmps.getD 2 undef = .pointer (some ⟨g, 0, none⟩)) (b : Bool) (h3 : tmps.getD 3 undef = .bool b) (h9 : True = True) :
    (results Tryz.f7 tmps).run Tryz.prog (W.setRow g cs) = .ok (.tuple #[.agg cs, .bool b]) (W.setRow g cs) := by
  have hi : (Tryz.prog.info? 37).map (·.size) = some cs.size := by rw [hc]; kernel_rfl
  have hld := run_loadVar_row (P := Tryz.prog) (W.setRow g cs) g 37 37 cs (0, 0) _ (setRow_heap W g old cs _ (0, 0) h) Tryz.underlying37 rfl hi
  have h2' : tmps[2]?.getD undef = .pointer (some ⟨g, 0, none⟩) := by simpa using h2
  have h3' : tmps[3]?.getD undef = .bool b := by simpa using h3
  simp [results, Tryz.results7, h2', h3', asAddr, hld]
theorem below_rowI (w : World) (g B : Nat) (cs : Array Value) (hB : B ≤ g) : Below B w (w.setRow g cs) := ⟨rfl, rfl, rfl, by simp, fun k hk => setRow_other w g k cs (by omega)⟩
abbrev zInst : Array Value := #[.int .i64 0, .int .u8 0, .int .i64 0, .int .i64 0, .int .i64 0, .int .u8 0, .int .u16 0, .int .i64 0]
def isPre (x : Int) : Bool := x == 16 || x == 17
set_option maxRecDepth 100000 in
set_option maxHeartbeats 4000000 in
theorem of18_any (A : Option Addr) (n cap : Nat) (xs : List Int) (w : World) (hI : Ints .u8 w w.heap.size A n xs) (hA : A = none → n = 0 ∧ cap = 0) (hn : n ≤ 140737488351232) :
    Calls Tryz.prog 7 #[.slice A n cap] w fun e w' => e = .returned (.tuple #[.agg (inAgg xs), .bool (inOk xs)]) ∧ Below w.heap.size w w' := by
  have HI := Lib.hid hI
  have HLx := Lib.hid hI.1
  have hwf := hI.2.1
  have HW := Lib.hid hwf
  have HN := Lib.hid hn
  have HAn := Lib.hid hA
  clear hI hwf hn hA
  go_enter Tryz.func7, Tryz.ntmps7
  go_upto_region 1 with (fail)
  have hz1 : (w.alloc (Obj.cells zInst 37)).heap.size = w.heap.size + 1 := by simp
  have HZ := Lib.hid (Blk.new w 37 zInst (0, 0))
  have HB0 := Lib.hid (Below.alloc0 (Below.refl w.heap.size w) (Obj.cells zInst 37))
  have HIa := Lib.hid (HI.out.alloc (Nat.le_refl _) (Obj.cells zInst 37))
  generalize w.alloc (Obj.cells zInst 37) = W0 at hz1 HZ HB0 HIa ⊢
  go_cut [4] (fun u4 wx => ∃ g cap2, u4 = .slice (some ⟨g, 0, none⟩) (n + 5) cap2 ∧ Hid (w.heap.size < g) ∧ Hid (Pad wx g xs n) ∧ n + 5 ≤ cap2 ∧ Hid (Blk wx w.heap.size 37 zInst) ∧ Hid (Below w.heap.size w wx))
  case first =>
    have HO0 := Lib.hid (show Own .u8 5 (W0.alloc (Obj.cells #[] 5)) (w.heap.size + 1) (.slice (some ⟨w.heap.size + 1, 0, none⟩) 0 0) [] from by
      have := World.ownsRow_lit (base := w.heap.size + 1) (size := 1) (e := 5) W0 #[] 0 (by omega) (by decide) (by rfl)
      rw [hz1] at this
      exact this)
    cases A with
    | none =>
      obtain ⟨rfl, rfl⟩ := HAn.out rfl
      have hx0 : xs = [] := List.eq_nil_of_length_eq_zero HLx.out
      subst hx0
      go_wp2_with (first
        | (at_builtin; refine wpList_appNil8 rfl _ (.tmp 12) (.tmp 13) rfl (w.heap.size + 1) _ [] rfl HO0.out rfl ?_)
        | (at_builtin; refine wpList_app8w rfl _ (.tmp 14) (.tmp 15) rfl (w.heap.size + 1) _ [] rfl (HO0.out.alloc _) ⟨w.heap.size + 2, 0, none⟩ 5 5 [0, 0, 0, 0, 0] rfl rfl (cells_lit _ _ _ _ _ (by simp; omega) _ rfl) (by simp) (by simp; omega) ?_))
      intro v2 w2 ho1 hb1 hg1
      obtain ⟨g, cap2, rfl, hg, hP, hc⟩ := own_pad ho1 HLx.out
      have HP := Lib.hid hP
      have HG := Lib.hid hg
      have HC := Lib.hid hc
      have HZ2 := Lib.hid (Blk.below (Blk.alloc (Blk.alloc HZ.out _) _) hb1 (by omega))
      have HB2 := Lib.hid (((Below.alloc0 (Below.alloc0 HB0.out _) _)).trans (hb1.mono (by omega)))
      clear ho1 hb1 hg1 hg hP hc
      go_wp2_with fail
      go_meet
      case rel => exact ⟨g, cap2, rfl, Lib.hid (by have := HG.out; omega), HP, HC.out, HZ2, HB2⟩
    | some ad =>
      go_wp2_with (at_builtin; refine wpList_app8w rfl _ (.tmp 12) (.tmp 13) rfl (w.heap.size + 1) _ [] rfl HO0.out ad n cap xs rfl HLx.out.symm (ints_news (HIa.out.alloc (by omega) _)) (by have := HLx.out; have := HN.out; simp; omega) (by simp; omega) ?_)
      intro v1 w1 ho1 hb1 hg1
      have HO1 := Lib.hid ho1
      have Hb1 := Lib.hid hb1
      clear ho1 hb1 hg1
      go_wp2_with (at_builtin; refine wpList_app8w rfl _ (.tmp 14) (.tmp 15) rfl (w.heap.size + 1) _ xs rfl (HO1.out.alloc _) ⟨w1.heap.size, 0, none⟩ 5 5 [0, 0, 0, 0, 0] rfl rfl (cells_lit _ _ _ _ _ rfl _ rfl) (by have := HLx.out; have := HN.out; simp; omega) (by have := Hb1.out.size; simp at this ⊢; omega) ?_)
      intro v2 w2 ho1 hb1 hg1
      have HO2 := Lib.hid ho1
      have Hb2 := Lib.hid hb1
      obtain ⟨g, cap2, rfl, hg, hP, hc⟩ := own_pad ho1 HLx.out
      have HP := Lib.hid hP
      have HG := Lib.hid hg
      have HC := Lib.hid hc
      have HZ2 := Lib.hid (Blk.below (Blk.alloc (Blk.below (Blk.alloc HZ.out _) Hb1.out (by omega)) _) hb1 (by omega))
      have HB2 := Lib.hid ((Below.alloc0 ((Below.alloc0 HB0.out _).trans (Hb1.out.mono (by omega))) _).trans (hb1.mono (by omega)))
      clear ho1 hb1 hg1 hg hP hc
      go_wp2_with fail
      go_meet
      case rel => exact ⟨g, cap2, rfl, Lib.hid (by have := HG.out; omega), HP, HC.out, HZ2, HB2⟩
  case rest =>
    obtain ⟨g, cap2, rfl, HG, HP, hc, HZ, HB⟩ := hcut
    clear HIa
    have x0 := HP.out 0 (by omega)
    have X0r := iat_range8' HW.out 0
    have X1r := iat_range8' HW.out 1
    have HI1 := Lib.hid (Blk.new wc 37 #[.int .i64 1, .int .u8 (iat xs 0), .int .i64 0, .int .i64 0, .int .i64 0, .int .u8 0, .int .u16 0, .int .i64 1] (0, 0))
    have HP1 := Lib.hid (HP.out.alloc (Obj.cells #[.int .i64 1, .int .u8 (iat xs 0), .int .i64 0, .int .i64 0, .int .i64 0, .int .u8 0, .int .u16 0, .int .i64 1] 37))
    have HZ1 := Lib.hid (Blk.alloc HZ.out (Obj.cells #[.int .i64 1, .int .u8 (iat xs 0), .int .i64 0, .int .i64 0, .int .i64 0, .int .u8 0, .int .u16 0, .int .i64 1] 37))
    have HB1 := Lib.hid (Below.alloc0 HB.out (Obj.cells #[.int .i64 1, .int .u8 (iat xs 0), .int .i64 0, .int .i64 0, .int .i64 0, .int .u8 0, .int .u16 0, .int .i64 1] 37))
    have HGlt := Lib.hid HP.out.lt
    have HZlt := Lib.hid HZ.out.lt
    go_upto_region 3 with (fail)
    obtain ⟨gi, hgi⟩ : ∃ gi, wc.heap.size = gi := ⟨_, rfl⟩
    rw [hgi] at HI1 HGlt HZlt ⊢
    generalize wc.alloc (Obj.cells #[.int .i64 1, .int .u8 (iat xs 0), .int .i64 0, .int .i64 0, .int .i64 0, .int .u8 0, .int .u16 0, .int .i64 1] 37) = W1 at HI1 HP1 HZ1 HB1 ⊢
    clear HP HZ HB hgi x0
    have x0 := HP1.out 0 (by omega)
    have x1 := HP1.out 1 (by omega)
    have HE : Hid (inPg xs = (if iat xs 0 = 16 then 2 else if iat xs 0 = 17 then 3 else 1) ∧ inL1 xs = (if inPg xs = 1 then 1 else 2) ∧ inCo xs = (if inPg xs = 1 then iat xs 0 else iat xs 1)) := Lib.hid ⟨rfl, rfl, rfl⟩
    obtain ⟨X0, hX0⟩ : ∃ a, iat xs 0 = a := ⟨_, rfl⟩
    obtain ⟨X1, hX1⟩ : ∃ a, iat xs 1 = a := ⟨_, rfl⟩
    rw [hX0] at x0 X0r HI1 HE ⊢
    rw [hX1] at x1 X1r HE
    obtain ⟨X0a, X0b⟩ := X0r
    obtain ⟨X1a, X1b⟩ := X1r
    go_cut [30] (fun u30 wx => u30 = .bool (isPre X0) ∧ wx = W1)
    case first =>
      by_cases h16 : X0 = 16
      · subst h16
        go_wp2_with fail
        go_meet
        case rel => exact ⟨rfl, rfl⟩
      · by_cases h17 : X0 = 17
        · subst h17
          go_wp2_with fail
          go_meet
          case rel => exact ⟨rfl, rfl⟩
        · have e1 : (X0 == 16) = false := by simpa using h16
          have e2 : (X0 == 17) = false := by simpa using h17
          go_wp2_with fail
          go_meet
          case rel => exact ⟨by unfold isPre; rw [e1, e2]; rfl, rfl⟩
    case rest =>
      obtain ⟨rfl, rfl⟩ := hcut
      go_upto_if 30 with (fail)
      go_cut [30] (fun _ wx => Hid (Blk wx gi 37 (insC (inPg xs : Int) (inCo xs) 0 0 0 (inL1 xs : Int))) ∧ Hid (Pad wx g xs n) ∧ Hid (Blk wx w.heap.size 37 zInst) ∧ Hid (Below w.heap.size w wx))
      case first =>
        cases hpre : isPre X0
        · have hne : ¬ X0 = 16 ∧ ¬ X0 = 17 := by
            unfold isPre at hpre
            simp only [Bool.or_eq_false_iff, beq_eq_false_iff_ne] at hpre
            exact hpre
          have HEq : Hid (inPg xs = 1 ∧ inL1 xs = 1 ∧ inCo xs = X0) := Lib.hid (by
            obtain ⟨q1, q2, q3⟩ := HE.out
            rw [if_neg hne.1, if_neg hne.2] at q1
            rw [q1] at q2 q3
            exact ⟨q1, q2, q3⟩)
          clear hne hpre
          go_wp2_with fail
          go_meet
          case rel => exact ⟨by rw [HEq.out.1, HEq.out.2.1, HEq.out.2.2]; exact HI1, HP1, HZ1, HB1⟩
        · have hne : X0 = 16 ∨ X0 = 17 := by
            unfold isPre at hpre
            simpa using hpre
          have HEq : Hid ((inPg xs : Int) = X0 - 14 ∧ inL1 xs = 2 ∧ inCo xs = X1) := Lib.hid (by
            obtain ⟨q1, q2, q3⟩ := HE.out
            rcases hne with rfl | rfl
            · rw [if_pos rfl] at q1
              rw [q1] at q2 q3 ⊢
              exact ⟨rfl, q2, q3⟩
            · rw [if_neg (by decide), if_pos rfl] at q1
              rw [q1] at q2 q3 ⊢
              exact ⟨rfl, q2, q3⟩)
          clear hpre
          have t1 : IntKind.i64.wrap X0 = X0 := IntWalk.i64_in _ (by omega)
          have t2 : IntKind.i64.wrap (X0 - 14) = X0 - 14 := IntWalk.i64_in _ (by omega)
          clear hne
          have HI1d := Lib.hid (Blk.drew HI1.out)
          obtain ⟨c0, c1, c2, c3, c4, c5, c6, c7⟩ := HI1.out.s8
          obtain ⟨f0, f1, f2, f3, f4, f5, f6, f7⟩ := HI1.out.f8
          have hg1 : g ≠ gi := by have := HGlt.out; omega
          have HXs := Lib.hid (And.intro x0 x1)
          have HXd := Lib.hid (show wc.drew.cell? ⟨g, 0, none⟩ = some (.int .u8 X0) ∧ wc.drew.cell? ⟨g, 1, none⟩ = some (.int .u8 X1) from HXs.out)
          have b1 : (0 : Int) < (n : Int) + 5 := by omega
          have b2 : (1 : Int) < (n : Int) + 5 := by omega
          have b3 : 0 < n + 5 := by omega
          have b4 : 1 < n + 5 := by omega
          go_wp2_with fail
          go_region_held3 (fun w' => w'.cell? ⟨g, 0, none⟩ = some (.int .u8 X0) ∧ w'.cell? ⟨g, 1, none⟩ = some (.int .u8 X1))
            (first
              | (with_reducible exact ⟨HXd.out.1, HXd.out.2⟩)
              | exact ⟨far HXs.out.1 hg1, far HXs.out.2 hg1⟩
              | exact ⟨far (far HXs.out.1 hg1) hg1, far (far HXs.out.2 hg1) hg1⟩
              | exact ⟨far (far (far HXs.out.1 hg1) hg1) hg1, far (far (far HXs.out.2 hg1) hg1) hg1⟩) (fail)
          go_wp2_with fail
          go_meet
          case rel =>
            refine ⟨Lib.hid ?_, Lib.hid (((HP1.out.set hg1).set hg1).set hg1), Lib.hid (Blk.far (Blk.far (Blk.far HZ1.out (by have := HZlt.out; simp; omega) _) (by have := HZlt.out; simp; omega) _) (by have := HZlt.out; simp; omega) _), Lib.hid (Below.drew0 (Below.setCell (Below.setCell (Below.setCell HB1.out (by have := HZlt.out; simp; omega) _) (by have := HZlt.out; simp; omega) _) (by have := HZlt.out; simp; omega) _))⟩
            have := Blk.set_ (Blk.set_ (Blk.set_ HI1.out 0 (.int .i64 (X0 - 14))) 1 (.int .u8 X1)) 7 (.int .i64 2)
            rw [HEq.out.1, HEq.out.2.1, HEq.out.2.2]
            exact this
      case rest =>
        obtain ⟨HI2, HP2, HZ2, HB2⟩ := hcut
        clear HI1 HP1 HZ1 HB1 HE x0 x1 X0a X0b X1a X1b
        have hco := inCo_range HW.out
        have hmd := inMd_le HW.out
        have HDf : Hid (inMd xs = eMode (inE xs) ∧ inPo xs = (if pstd (inMd xs) then iat xs (inL1 xs) else 0) ∧ inL2 xs = inL1 xs + (if pstd (inMd xs) then 1 else 0) ∧ inN xs = shN (inMd xs) (inPo xs) ∧
          inVa xs = (if inN xs = 1 then (if shS (inMd xs) then signOf (iat xs (inL2 xs)) else iat xs (inL2 xs)) else if inN xs = 2 then 256 * iat xs (inL2 xs) + iat xs (inL2 xs + 1) else 0)) := Lib.hid ⟨rfl, rfl, rfl, rfl, rfl⟩
        have hl1 : inL1 xs ≤ 2 := by unfold inL1; split <;> decide
        have hpo := inPo_range HW.out
        have hE : ofN (inPg xs : Int) (inCo xs).toNat = inE xs := rfl
        have HAg : Hid (inAgg xs = (if inOk xs then insC (inPg xs : Int) (inCo xs) (inE xs) (inPo xs) (inVa xs) (inLn xs : Int) else insC 0 0 0 0 0 0) ∧ inLn xs = inL2 xs + inN xs ∧ inOk xs = decide (inLn xs ≤ n)) := Lib.hid ⟨rfl, rfl, by unfold inOk; rw [HLx.out]⟩
        obtain ⟨PG, hPG⟩ : ∃ a, inPg xs = a := ⟨_, rfl⟩
        obtain ⟨CO, hCO⟩ : ∃ a, inCo xs = a := ⟨_, rfl⟩
        obtain ⟨E, hEE⟩ : ∃ a, inE xs = a := ⟨_, rfl⟩
        obtain ⟨L1, hL1⟩ : ∃ a, inL1 xs = a := ⟨_, rfl⟩
        obtain ⟨L2, hL2⟩ : ∃ a, inL2 xs = a := ⟨_, rfl⟩
        obtain ⟨PO, hPO⟩ : ∃ a, inPo xs = a := ⟨_, rfl⟩
        obtain ⟨N, hN⟩ : ∃ a, inN xs = a := ⟨_, rfl⟩
        obtain ⟨VA, hVA⟩ : ∃ a, inVa xs = a := ⟨_, rfl⟩
        obtain ⟨LN, hLN⟩ : ∃ a, inLn xs = a := ⟨_, rfl⟩
        obtain ⟨MD, hMD⟩ : ∃ a, inMd xs = a := ⟨_, rfl⟩
        obtain ⟨OK, hOK⟩ : ∃ a, inOk xs = a := ⟨_, rfl⟩
        obtain ⟨AG, hAG⟩ : ∃ a, inAgg xs = a := ⟨_, rfl⟩
        rw [hPG, hCO, hEE] at hE
        rw [hPG, hCO, hL1] at HI2
        rw [hMD, hEE, hPO, hL1, hL2, hN, hVA] at HDf
        rw [hAG, hOK, hPG, hCO, hEE, hPO, hVA, hLN, hL2, hN] at HAg
        have HFin := Lib.hid (And.intro hOK hAG)
        rw [hCO] at hco
        rw [hMD] at hmd
        rw [hL1] at hl1
        rw [hPO] at hpo
        obtain ⟨co0, co1⟩ := hco
        obtain ⟨po0, po1⟩ := hpo
        clear hPG hCO hEE hL1 hL2 hPO hN hVA hLN hMD hOK hAG
        have hMDE : eMode E = MD := HDf.out.1.symm
        have CE := Lib.hid (fun w => refOf14 (PG : Int) CO CO.toNat (by omega) (by omega) w)
        rw [hE] at CE
        have HME := Lib.hid hMDE
        have CS1 := Lib.hid (fun w => shape_any MD hmd 0 (by decide) (by decide) w)
        have CS2 := Lib.hid (fun w => shape_any MD hmd PO po0 po1 w)
        rw [← HDf.out.2.2.2.1] at CS2
        obtain ⟨P, hP⟩ : ∃ P, pstd MD = P := ⟨_, rfl⟩
        rw [hP] at HDf CS1 CS2
        clear hP
        obtain ⟨c0, c1, c2, c3, c4, c5, c6, c7⟩ := HI2.out.s8
        clear hE hMDE
        go_wp2_with fail
        refine (CE.out _).mono ?_
        rintro e w3 ⟨rfl, hb3⟩
        have HI3 := Lib.hid (Blk.below HI2.out hb3 HI2.out.lt)
        have HP3 := Lib.hid (HP2.out.below hb3)
        have HZ3 := Lib.hid (Blk.below HZ2.out hb3 HZ2.out.lt)
        have HB3 := Lib.hid (Below.trans0 HB2.out hb3)
        clear hb3 c0 c1 c2 c3 c4 c5 c6 c7 HI2 HP2 HZ2 HB2
        obtain ⟨c0, c1, c2, c3, c4, c5, c6, c7⟩ := HI3.out.s8
        obtain ⟨f0, f1, f2, f3, f4, f5, f6, f7⟩ := HI3.out.f8
        have hg1 : g ≠ gi := by have := HGlt.out; omega
        have HGne := Lib.hid hg1
        clear hg1
        unfold entA
        go_upto_region 6 with (fail)
        have HI4 := Lib.hid (Blk.set_ (Blk.set_ (Blk.set_ HI3.out 2 (.int .i64 (eOp E : Int))) 3 (.int .i64 (eMode E : Int))) 4 (.int .i64 (eReg E : Int)))
        have HP4 := Lib.hid (((HP3.out.set (j := 2) (u := .int .i64 (eOp E : Int)) HGne.out).set (j := 3) (u := .int .i64 (eMode E : Int)) HGne.out).set (j := 4) (u := .int .i64 (eReg E : Int)) HGne.out)
        have HZ4 := Lib.hid (Blk.far (Blk.far (Blk.far HZ3.out (p := ⟨gi, 2, none⟩) (by have := HZlt.out; simp; omega) (.int .i64 (eOp E : Int))) (p := ⟨gi, 3, none⟩) (by have := HZlt.out; simp; omega) (.int .i64 (eMode E : Int))) (p := ⟨gi, 4, none⟩) (by have := HZlt.out; simp; omega) (.int .i64 (eReg E : Int)))
        have HB4 := Lib.hid (Below.setCell (Below.setCell (Below.setCell HB3.out (p := ⟨gi, 2, none⟩) (by have := HZlt.out; simp; omega) (.int .i64 (eOp E : Int))) (p := ⟨gi, 3, none⟩) (by have := HZlt.out; simp; omega) (.int .i64 (eMode E : Int))) (p := ⟨gi, 4, none⟩) (by have := HZlt.out; simp; omega) (.int .i64 (eReg E : Int)))
        clear c0 c1 c2 c3 c4 c5 c6 c7 f0 f1 f2 f3 f4 f5 f6 f7
        generalize ((w3.setCell ⟨gi, 2, none⟩ (.int .i64 (eOp E : Int))).setCell ⟨gi, 3, none⟩ (.int .i64 (eMode E : Int))).setCell ⟨gi, 4, none⟩ (.int .i64 (eReg E : Int)) = W4 at HI4 HP4 HZ4 HB4 ⊢
        have HI4' := Lib.hid (show Blk W4 gi 37 #[.int .i64 (PG : Int), .int .u8 CO, .int .i64 (eOp E : Int), .int .i64 (eMode E : Int), .int .i64 (eReg E : Int), .int .u8 0, .int .u16 0, .int .i64 (L1 : Int)] from HI4.out)
        clear HI4 HI3 HP3 HZ3 HB3
        rw [HME.out] at HI4'
        obtain ⟨c0, c1, c2, c3, c4, c5, c6, c7⟩ := HI4'.out.s8
        go_wp2_with fail
        refine (CS1.out _).mono ?_
        rintro e w5 ⟨rfl, hb5⟩
        have HI5 := Lib.hid (Blk.below HI4'.out hb5 HI4'.out.lt)
        have HP5 := Lib.hid (HP4.out.below hb5)
        have HZ5 := Lib.hid (Blk.below HZ4.out hb5 HZ4.out.lt)
        have HB5 := Lib.hid (Below.trans0 HB4.out hb5)
        clear hb5 c0 c1 c2 c3 c4 c5 c6 c7 HI4' HP4 HZ4 HB4
        go_upto_if 57 with (fail)
        go_cut [57] (fun _ wx => Hid (Blk wx gi 37 #[.int .i64 (PG : Int), .int .u8 CO, .int .i64 (eOp E : Int), .int .i64 (MD : Int), .int .i64 (eReg E : Int), .int .u8 PO, .int .u16 0, .int .i64 (L2 : Int)]) ∧ Hid (Pad wx g xs n) ∧ Hid (Blk wx w.heap.size 37 zInst) ∧ Hid (Below w.heap.size w wx))
        case first =>
          cases P
          · have HQ : Hid (PO = 0 ∧ L2 = L1) := Lib.hid (by
              obtain ⟨q1, q2, q3, _⟩ := HDf.out
              exact ⟨q2, q3⟩)
            go_wp2_with fail
            go_meet
            case rel => exact ⟨by rw [HQ.out.1, HQ.out.2]; exact HI5, HP5, HZ5, HB5⟩
          · have HQ : Hid (PO = iat xs L1 ∧ L2 = L1 + 1) := Lib.hid (by
              obtain ⟨q1, q2, q3, _⟩ := HDf.out
              exact ⟨q2, q3⟩)
            have xl := HP5.out L1 (by omega)
            obtain ⟨c0, c1, c2, c3, c4, c5, c6, c7⟩ := HI5.out.s8
            obtain ⟨f0, f1, f2, f3, f4, f5, f6, f7⟩ := HI5.out.f8
            have b0 : (0 : Int) ≤ (L1 : Int) := by omega
            have b1 : (L1 : Int) < (n : Int) + 5 := by omega
            have b2 : (L1 : Int) ≤ 2 := by omega
            have hg1 := HGne.out
            have HQ1 := Lib.hid HQ.out.1
            obtain ⟨XL, hXL⟩ : ∃ a, iat xs L1 = a := ⟨_, rfl⟩
            rw [hXL] at xl HQ1
            clear hXL
            go_wp2_with fail
            go_meet
            case rel =>
              refine ⟨Lib.hid ?_, Lib.hid ((HP5.out.set hg1).set hg1), Lib.hid (Blk.far (Blk.far HZ5.out (by have := HZlt.out; simp; omega) _) (by have := HZlt.out; simp; omega) _), Lib.hid (Below.setCell (Below.setCell HB5.out (by have := HZlt.out; simp; omega) _) (by have := HZlt.out; simp; omega) _)⟩
              have := Blk.set_ (Blk.set_ HI5.out 5 (.int .u8 XL)) 7 (.int .i64 ((L1 : Int) + 1))
              rw [HQ1.out, HQ.out.2]
              exact this
        case rest =>
          obtain ⟨HI6, HP6, HZ6, HB6⟩ := hcut
          clear HI5 HP5 HZ5 HB5
          obtain ⟨c0, c1, c2, c3, c4, c5, c6, c7⟩ := HI6.out.s8
          go_wp2_with fail
          refine (CS2.out _).mono ?_
          rintro e w7 ⟨rfl, hb7⟩
          have HI7 := Lib.hid (Blk.below HI6.out hb7 HI6.out.lt)
          have HP7 := Lib.hid (HP6.out.below hb7)
          have HZ7 := Lib.hid (Blk.below HZ6.out hb7 HZ6.out.lt)
          have HB7 := Lib.hid (Below.trans0 HB6.out hb7)
          clear hb7 c0 c1 c2 c3 c4 c5 c6 c7 HI6 HP6 HZ6 HB6
          have hl2 : L2 ≤ 3 := by
            have q3 := HDf.out.2.2.1
            split at q3 <;> omega
          have hN2 : N ≤ 2 := by
            have q4 := HDf.out.2.2.2.1
            have := shN_le MD PO hmd ⟨po0, po1⟩
            omega
          have HXa := Lib.hid (HP7.out L2 (by omega))
          have HXb := Lib.hid (HP7.out (L2 + 1) (by omega))
          have ra := iat_range8' HW.out L2
          have rb := iat_range8' HW.out (L2 + 1)
          have HVa : Hid (VA = (if N = 1 then (if shS MD then signOf (iat xs L2) else iat xs L2) else if N = 2 then 256 * iat xs L2 + iat xs (L2 + 1) else 0)) := Lib.hid HDf.out.2.2.2.2
          obtain ⟨XA, hXA⟩ : ∃ a, iat xs L2 = a := ⟨_, rfl⟩
          obtain ⟨XB, hXB⟩ : ∃ a, iat xs (L2 + 1) = a := ⟨_, rfl⟩
          rw [hXA] at HXa ra HVa
          rw [hXB] at HXb rb HVa
          obtain ⟨ra0, ra1⟩ := ra
          obtain ⟨rb0, rb1⟩ := rb
          clear hXA hXB
          obtain ⟨S, hS⟩ : ∃ S, shS MD = S := ⟨_, rfl⟩
          rw [hS] at HVa ⊢
          clear hS
          have b0 : (0 : Int) ≤ (L2 : Int) := by omega
          have b1 : (L2 : Int) < (n : Int) + 5 := by omega
          have b2 : (L2 : Int) ≤ 3 := by omega
          have b3 : (L2 : Int) + 1 < (n : Int) + 5 := by omega
          have hg1 := HGne.out
          obtain ⟨c0, c1, c2, c3, c4, c5, c6, c7⟩ := HI7.out.s8
          obtain ⟨f0, f1, f2, f3, f4, f5, f6, f7⟩ := HI7.out.f8
          rcases (show (N = 1 ∧ S = true ∧ signOf XA = VA) ∨ (N = 1 ∧ S = false ∧ XA = VA) ∨ (N = 2 ∧ XA * 256 + XB = VA) ∨ (N = 0 ∧ 0 = VA) by
            have h := HVa.out
            rcases (show N = 0 ∨ N = 1 ∨ N = 2 by omega) with rfl | rfl | rfl
            · right; right; right; exact ⟨rfl, h.symm⟩
            · cases S
              · right; left; exact ⟨rfl, rfl, h.symm⟩
              · left; exact ⟨rfl, rfl, h.symm⟩
            · right; right; left; refine ⟨rfl, ?_⟩; rw [h]; simp; omega) with ⟨rfl, rfl, hv⟩ | ⟨rfl, rfl, hv⟩ | ⟨rfl, hv⟩ | ⟨rfl, hv⟩
          · have xa := HXa.out
            have HV := Lib.hid hv
            clear hv
            go_upto_region 17 with (go_at_call 16; refine (sign18_any _ _ ra0 ra1).mono ?_; rintro e w' ⟨rfl, rfl⟩)
            have HI8 := Lib.hid (show Blk (w7.setCell ⟨gi, 6, none⟩ (.int .u16 (signOf XA))) gi 37 #[.int .i64 (PG : Int), .int .u8 CO, .int .i64 (eOp E : Int), .int .i64 (MD : Int), .int .i64 (eReg E : Int), .int .u8 PO, .int .u16 VA, .int .i64 (L2 : Int)] from by have := Blk.set_ HI7.out 6 (.int .u16 (signOf XA)); rw [← HV.out]; exact this)
            have HZ8 := Lib.hid (Blk.far HZ7.out (p := ⟨gi, 6, none⟩) (by have := HZlt.out; simp; omega) (.int .u16 (signOf XA)))
            have HB8 := Lib.hid (Below.setCell HB7.out (p := ⟨gi, 6, none⟩) (by have := HZlt.out; simp; omega) (.int .u16 (signOf XA)))
            generalize w7.setCell ⟨gi, 6, none⟩ (.int .u16 (signOf XA)) = W8 at HI8 HZ8 HB8 ⊢
            clear c0 c1 c2 c3 c4 c5 c6 c7 f0 f1 f2 f3 f4 f5 f6 f7
            have hln := HAg.out.2.1
            have hokk := HAg.out.2.2
            have hagg := HAg.out.1
            have HAG := Lib.hid hagg
            have HOK := Lib.hid hokk
            have HLN := Lib.hid hln
            clear hagg hokk hln
            obtain ⟨c0, c1, c2, c3, c4, c5, c6, c7⟩ := HI8.out.s8
            obtain ⟨f0, f1, f2, f3, f4, f5, f6, f7⟩ := HI8.out.f8
            have HI9 := Lib.hid (Blk.set_ HI8.out 7 (.int .i64 ((L2 : Int) + 1)))
            have HZ9 := Lib.hid (Blk.far HZ8.out (p := ⟨gi, 7, none⟩) (by have := HZlt.out; simp; omega) (.int .i64 ((L2 : Int) + 1)))
            have HB9 := Lib.hid (Below.setCell HB8.out (p := ⟨gi, 7, none⟩) (by have := HZlt.out; simp; omega) (.int .i64 ((L2 : Int) + 1)))
            by_cases hok : L2 + 1 ≤ n
            · have d1 : decide (n < L2 + 1) = false := decide_eq_false (by omega)
              have d2 : decide ((n : Int) < ((L2 : Int) + 1)) = false := decide_eq_false (by omega)
              have hO : OK = true := by rw [HOK.out, HLN.out]; exact decide_eq_true hok
              have HAG2 : Hid (AG = #[.int .i64 (PG : Int), .int .u8 CO, .int .i64 (eOp E : Int), .int .i64 (MD : Int), .int .i64 (eReg E : Int), .int .u8 PO, .int .u16 VA, .int .i64 ((L2 : Int) + 1)]) := Lib.hid (by rw [HAG.out, if_pos hO, HLN.out, ← HME.out]; rfl)
              have HO := Lib.hid hO
              have HI9' := Lib.hid (show Blk (W8.setCell ⟨gi, 7, none⟩ (.int .i64 ((L2 : Int) + 1))) gi 37 #[.int .i64 (PG : Int), .int .u8 CO, .int .i64 (eOp E : Int), .int .i64 (MD : Int), .int .i64 (eReg E : Int), .int .u8 PO, .int .u16 VA, .int .i64 ((L2 : Int) + 1)] from HI9.out)
              clear hO hok HI9
              go_upto_region 20 with (fail)
              generalize W8.setCell ⟨gi, 7, none⟩ (.int .i64 ((L2 : Int) + 1)) = W9 at HI9' HZ9 HB9 ⊢
              refine wp_region_lit ?_
              refine wpList_load_row rfl 37 _ rfl gi rfl 37 _ (0, 0) _ HI9'.out Tryz.underlying37 rfl (by kernel_rfl) ?_
              refine wpList_store_rowTo rfl 37 _ _ rfl rfl w.heap.size _ rfl rfl 37 zInst HZ9.out (by kernel_rfl) rfl (by simp [Value.oneCell']) ?_
              refine Great.wpList_readTo rfl (some 3) rfl (.bool true) (by kernel_rfl) ?_
              refine wpList_nil ?_
              simp only [Act.put, List.setIfInBounds_toArray, List.set_cons_zero, List.set_cons_succ]
              refine (‹∀ (a : Act) (w : World), Code.wp Tryz.prog Code.ret _ a w → _›) _ _ ?_
              refine wp_ret ?_
              show bodyPost Tryz.prog Tryz.f7 (fun e w' => e = Ending.returned (Value.tuple #[Value.agg (inAgg xs), Value.bool (inOk xs)]) ∧ Below w.heap.size w w') .ret _ _
              refine bodyPost_ret (P := Tryz.prog) (fn := Tryz.f7) (v := .tuple #[.agg #[.int .i64 (PG : Int), .int .u8 CO, .int .i64 (eOp E : Int), .int .i64 (MD : Int), .int .i64 (eReg E : Int), .int .u8 PO, .int .u16 VA, .int .i64 ((L2 : Int) + 1)], .bool true]) ?_ rfl ⟨?_, HB9.out.trans (below_rowI W9 _ _ _ (Nat.le_refl _))⟩
              · exact res18 _ W9 w.heap.size _ zInst HZ9.out rfl rfl rfl true rfl rfl
              · rw [HFin.out.1, HFin.out.2, HAG2.out, HO.out]
            · have d1 : decide (n < L2 + 1) = true := decide_eq_true (by omega)
              have d2 : decide ((n : Int) < ((L2 : Int) + 1)) = true := decide_eq_true (by omega)
              have hO : OK = false := by rw [HOK.out, HLN.out]; exact decide_eq_false hok
              have HAG2 : Hid (AG = zInst) := Lib.hid (by rw [HAG.out, hO]; rfl)
              have HO := Lib.hid hO
              clear hO hok HI9
              go_upto_region 19 with (fail)
              generalize W8.setCell ⟨gi, 7, none⟩ (.int .i64 ((L2 : Int) + 1)) = W9 at HZ9 HB9 ⊢
              refine wp_region_lit ?_
              refine Great.wpList_readTo rfl (some 127) rfl (.agg zInst) (by kernel_rfl) ?_
              refine wpList_store_rowTo rfl 37 _ _ rfl rfl w.heap.size zInst rfl rfl 37 zInst HZ9.out (by kernel_rfl) rfl (by simp [Value.oneCell']) ?_
              refine Great.wpList_readTo rfl (some 3) rfl (.bool false) (by kernel_rfl) ?_
              refine wpList_nil ?_
              simp only [Act.put, List.setIfInBounds_toArray, List.set_cons_zero, List.set_cons_succ]
              refine (‹∀ (a : Act) (w : World), Code.wp Tryz.prog Code.ret _ a w → _›) _ _ ?_
              refine wp_ret ?_
              show bodyPost Tryz.prog Tryz.f7 (fun e w' => e = Ending.returned (Value.tuple #[Value.agg (inAgg xs), Value.bool (inOk xs)]) ∧ Below w.heap.size w w') .ret _ _
              refine bodyPost_ret (P := Tryz.prog) (fn := Tryz.f7) (v := .tuple #[.agg zInst, .bool false]) ?_ rfl ⟨?_, HB9.out.trans (below_rowI W9 _ _ _ (Nat.le_refl _))⟩
              · exact res18 _ W9 w.heap.size _ zInst HZ9.out rfl rfl rfl false rfl rfl
              · rw [HFin.out.1, HFin.out.2, HAG2.out, HO.out]
          · have xa := HXa.out
            have HV := Lib.hid hv
            clear hv
            go_upto_region 17 with (fail)
            have HI8 := Lib.hid (show Blk (w7.setCell ⟨gi, 6, none⟩ (.int .u16 XA)) gi 37 #[.int .i64 (PG : Int), .int .u8 CO, .int .i64 (eOp E : Int), .int .i64 (MD : Int), .int .i64 (eReg E : Int), .int .u8 PO, .int .u16 VA, .int .i64 (L2 : Int)] from by have := Blk.set_ HI7.out 6 (.int .u16 XA); rw [← HV.out]; exact this)
            have HZ8 := Lib.hid (Blk.far HZ7.out (p := ⟨gi, 6, none⟩) (by have := HZlt.out; simp; omega) (.int .u16 XA))
            have HB8 := Lib.hid (Below.setCell HB7.out (p := ⟨gi, 6, none⟩) (by have := HZlt.out; simp; omega) (.int .u16 XA))
            generalize w7.setCell ⟨gi, 6, none⟩ (.int .u16 XA) = W8 at HI8 HZ8 HB8 ⊢
            clear c0 c1 c2 c3 c4 c5 c6 c7 f0 f1 f2 f3 f4 f5 f6 f7
            have hln := HAg.out.2.1
            have hokk := HAg.out.2.2
            have hagg := HAg.out.1
            have HAG := Lib.hid hagg
            have HOK := Lib.hid hokk
            have HLN := Lib.hid hln
            clear hagg hokk hln
            obtain ⟨c0, c1, c2, c3, c4, c5, c6, c7⟩ := HI8.out.s8
            obtain ⟨f0, f1, f2, f3, f4, f5, f6, f7⟩ := HI8.out.f8
            have HI9 := Lib.hid (Blk.set_ HI8.out 7 (.int .i64 ((L2 : Int) + 1)))
            have HZ9 := Lib.hid (Blk.far HZ8.out (p := ⟨gi, 7, none⟩) (by have := HZlt.out; simp; omega) (.int .i64 ((L2 : Int) + 1)))
            have HB9 := Lib.hid (Below.setCell HB8.out (p := ⟨gi, 7, none⟩) (by have := HZlt.out; simp; omega) (.int .i64 ((L2 : Int) + 1)))
            by_cases hok : L2 + 1 ≤ n
            · have d1 : decide (n < L2 + 1) = false := decide_eq_false (by omega)
              have d2 : decide ((n : Int) < ((L2 : Int) + 1)) = false := decide_eq_false (by omega)
              have hO : OK = true := by rw [HOK.out, HLN.out]; exact decide_eq_true hok
              have HAG2 : Hid (AG = #[.int .i64 (PG : Int), .int .u8 CO, .int .i64 (eOp E : Int), .int .i64 (MD : Int), .int .i64 (eReg E : Int), .int .u8 PO, .int .u16 VA, .int .i64 ((L2 : Int) + 1)]) := Lib.hid (by rw [HAG.out, if_pos hO, HLN.out, ← HME.out]; rfl)
              have HO := Lib.hid hO
              have HI9' := Lib.hid (show Blk (W8.setCell ⟨gi, 7, none⟩ (.int .i64 ((L2 : Int) + 1))) gi 37 #[.int .i64 (PG : Int), .int .u8 CO, .int .i64 (eOp E : Int), .int .i64 (MD : Int), .int .i64 (eReg E : Int), .int .u8 PO, .int .u16 VA, .int .i64 ((L2 : Int) + 1)] from HI9.out)
              clear hO hok HI9
              go_upto_region 20 with (fail)
              generalize W8.setCell ⟨gi, 7, none⟩ (.int .i64 ((L2 : Int) + 1)) = W9 at HI9' HZ9 HB9 ⊢
              refine wp_region_lit ?_
              refine wpList_load_row rfl 37 _ rfl gi rfl 37 _ (0, 0) _ HI9'.out Tryz.underlying37 rfl (by kernel_rfl) ?_
              refine wpList_store_rowTo rfl 37 _ _ rfl rfl w.heap.size _ rfl rfl 37 zInst HZ9.out (by kernel_rfl) rfl (by simp [Value.oneCell']) ?_
              refine Great.wpList_readTo rfl (some 3) rfl (.bool true) (by kernel_rfl) ?_
              refine wpList_nil ?_
              simp only [Act.put, List.setIfInBounds_toArray, List.set_cons_zero, List.set_cons_succ]
              refine (‹∀ (a : Act) (w : World), Code.wp Tryz.prog Code.ret _ a w → _›) _ _ ?_
              refine wp_ret ?_
              show bodyPost Tryz.prog Tryz.f7 (fun e w' => e = Ending.returned (Value.tuple #[Value.agg (inAgg xs), Value.bool (inOk xs)]) ∧ Below w.heap.size w w') .ret _ _
              refine bodyPost_ret (P := Tryz.prog) (fn := Tryz.f7) (v := .tuple #[.agg #[.int .i64 (PG : Int), .int .u8 CO, .int .i64 (eOp E : Int), .int .i64 (MD : Int), .int .i64 (eReg E : Int), .int .u8 PO, .int .u16 VA, .int .i64 ((L2 : Int) + 1)], .bool true]) ?_ rfl ⟨?_, HB9.out.trans (below_rowI W9 _ _ _ (Nat.le_refl _))⟩
              · exact res18 _ W9 w.heap.size _ zInst HZ9.out rfl rfl rfl true rfl rfl
              · rw [HFin.out.1, HFin.out.2, HAG2.out, HO.out]
            · have d1 : decide (n < L2 + 1) = true := decide_eq_true (by omega)
              have d2 : decide ((n : Int) < ((L2 : Int) + 1)) = true := decide_eq_true (by omega)
              have hO : OK = false := by rw [HOK.out, HLN.out]; exact decide_eq_false hok
              have HAG2 : Hid (AG = zInst) := Lib.hid (by rw [HAG.out, hO]; rfl)
              have HO := Lib.hid hO
              clear hO hok HI9
              go_upto_region 19 with (fail)
              generalize W8.setCell ⟨gi, 7, none⟩ (.int .i64 ((L2 : Int) + 1)) = W9 at HZ9 HB9 ⊢
              refine wp_region_lit ?_
              refine Great.wpList_readTo rfl (some 127) rfl (.agg zInst) (by kernel_rfl) ?_
              refine wpList_store_rowTo rfl 37 _ _ rfl rfl w.heap.size zInst rfl rfl 37 zInst HZ9.out (by kernel_rfl) rfl (by simp [Value.oneCell']) ?_
              refine Great.wpList_readTo rfl (some 3) rfl (.bool false) (by kernel_rfl) ?_
              refine wpList_nil ?_
              simp only [Act.put, List.setIfInBounds_toArray, List.set_cons_zero, List.set_cons_succ]
              refine (‹∀ (a : Act) (w : World), Code.wp Tryz.prog Code.ret _ a w → _›) _ _ ?_
              refine wp_ret ?_
              show bodyPost Tryz.prog Tryz.f7 (fun e w' => e = Ending.returned (Value.tuple #[Value.agg (inAgg xs), Value.bool (inOk xs)]) ∧ Below w.heap.size w w') .ret _ _
              refine bodyPost_ret (P := Tryz.prog) (fn := Tryz.f7) (v := .tuple #[.agg zInst, .bool false]) ?_ rfl ⟨?_, HB9.out.trans (below_rowI W9 _ _ _ (Nat.le_refl _))⟩
              · exact res18 _ W9 w.heap.size _ zInst HZ9.out rfl rfl rfl false rfl rfl
              · rw [HFin.out.1, HFin.out.2, HAG2.out, HO.out]
          · have xa := HXa.out
            have xb := HXb.out
            have HV := Lib.hid hv
            have HX3 := Lib.hid (And.intro xa (And.intro xb c7))
            have HXd := Lib.hid (show w7.drew.cell? ⟨g, L2, none⟩ = some (.int .u8 XA) ∧ w7.drew.cell? ⟨g, L2 + 1, none⟩ = some (.int .u8 XB) ∧ w7.drew.cell? ⟨gi, 7, none⟩ = some (.int .i64 (L2 : Int)) from HX3.out)
            have t1 : IntKind.i64.wrap ((L2 : Int) + 1) = (L2 : Int) + 1 := IntWalk.i64_in _ (by omega)
            have t2 : IntKind.u16.wrap XA = XA := by rw [IntKind.wrap_u16]; omega
            have t3 : IntKind.u16.wrap XB = XB := by rw [IntKind.wrap_u16]; omega
            have t4 : IntKind.u16.wrap (XA * 256) = XA * 256 := by rw [IntKind.wrap_u16]; omega
            have t5 : IntKind.u16.wrap (XA * 256 + XB) = XA * 256 + XB := by rw [IntKind.wrap_u16]; omega
            have b4 : (0 : Int) ≤ (L2 : Int) + 1 := by omega
            have b5 : ((L2 : Int) + 1).toNat = L2 + 1 := by omega
            clear hv
            go_upto_region 16 with (fail)
            go_region_held3 (fun w' => w'.cell? ⟨g, L2, none⟩ = some (.int .u8 XA) ∧ w'.cell? ⟨g, L2 + 1, none⟩ = some (.int .u8 XB) ∧ w'.cell? ⟨gi, 7, none⟩ = some (.int .i64 (L2 : Int)))
              (first
                | (with_reducible exact ⟨HXd.out.1, HXd.out.2.1, HXd.out.2.2⟩)
                | exact ⟨far HX3.out.1 hg1, far HX3.out.2.1 hg1, (Blk.s8 (show Blk _ gi 37 #[.int .i64 (PG : Int), .int .u8 CO, .int .i64 (eOp E : Int), .int .i64 (MD : Int), .int .i64 (eReg E : Int), .int .u8 PO, .int .u16 (XA * 256 + XB), .int .i64 (L2 : Int)] from Blk.set_ HI7.out 6 (.int .u16 (XA * 256 + XB)))).2.2.2.2.2.2.2⟩) (fail)
            clear t1 t2 t3 t4 t5
            go_upto_region 17 with (fail)
            have HI8 := Lib.hid (show Blk (w7.setCell ⟨gi, 6, none⟩ (.int .u16 (XA * 256 + XB))).drew gi 37 #[.int .i64 (PG : Int), .int .u8 CO, .int .i64 (eOp E : Int), .int .i64 (MD : Int), .int .i64 (eReg E : Int), .int .u8 PO, .int .u16 VA, .int .i64 (L2 : Int)] from by have := Blk.set_ HI7.out 6 (.int .u16 (XA * 256 + XB)); rw [← HV.out]; exact this)
            have HZ8 := Lib.hid (Blk.drew (Blk.far HZ7.out (p := ⟨gi, 6, none⟩) (by have := HZlt.out; simp; omega) (.int .u16 (XA * 256 + XB))))
            have HB8 := Lib.hid (Below.drew0 (Below.setCell HB7.out (p := ⟨gi, 6, none⟩) (by have := HZlt.out; simp; omega) (.int .u16 (XA * 256 + XB))))
            generalize (w7.setCell ⟨gi, 6, none⟩ (.int .u16 (XA * 256 + XB))).drew = W8 at HI8 HZ8 HB8 ⊢
            clear c0 c1 c2 c3 c4 c5 c6 c7 f0 f1 f2 f3 f4 f5 f6 f7
            have hln := HAg.out.2.1
            have hokk := HAg.out.2.2
            have hagg := HAg.out.1
            have HAG := Lib.hid hagg
            have HOK := Lib.hid hokk
            have HLN := Lib.hid hln
            clear hagg hokk hln
            obtain ⟨c0, c1, c2, c3, c4, c5, c6, c7⟩ := HI8.out.s8
            obtain ⟨f0, f1, f2, f3, f4, f5, f6, f7⟩ := HI8.out.f8
            have HI9 := Lib.hid (Blk.set_ HI8.out 7 (.int .i64 ((L2 : Int) + 2)))
            have HZ9 := Lib.hid (Blk.far HZ8.out (p := ⟨gi, 7, none⟩) (by have := HZlt.out; simp; omega) (.int .i64 ((L2 : Int) + 2)))
            have HB9 := Lib.hid (Below.setCell HB8.out (p := ⟨gi, 7, none⟩) (by have := HZlt.out; simp; omega) (.int .i64 ((L2 : Int) + 2)))
            by_cases hok : L2 + 2 ≤ n
            · have d1 : decide (n < L2 + 2) = false := decide_eq_false (by omega)
              have d2 : decide ((n : Int) < ((L2 : Int) + 2)) = false := decide_eq_false (by omega)
              have hO : OK = true := by rw [HOK.out, HLN.out]; exact decide_eq_true hok
              have HAG2 : Hid (AG = #[.int .i64 (PG : Int), .int .u8 CO, .int .i64 (eOp E : Int), .int .i64 (MD : Int), .int .i64 (eReg E : Int), .int .u8 PO, .int .u16 VA, .int .i64 ((L2 : Int) + 2)]) := Lib.hid (by rw [HAG.out, if_pos hO, HLN.out, ← HME.out]; rfl)
              have HO := Lib.hid hO
              have HI9' := Lib.hid (show Blk (W8.setCell ⟨gi, 7, none⟩ (.int .i64 ((L2 : Int) + 2))) gi 37 #[.int .i64 (PG : Int), .int .u8 CO, .int .i64 (eOp E : Int), .int .i64 (MD : Int), .int .i64 (eReg E : Int), .int .u8 PO, .int .u16 VA, .int .i64 ((L2 : Int) + 2)] from HI9.out)
              clear hO hok HI9
              go_upto_region 20 with (fail)
              generalize W8.setCell ⟨gi, 7, none⟩ (.int .i64 ((L2 : Int) + 2)) = W9 at HI9' HZ9 HB9 ⊢
              refine wp_region_lit ?_
              refine wpList_load_row rfl 37 _ rfl gi rfl 37 _ (0, 0) _ HI9'.out Tryz.underlying37 rfl (by kernel_rfl) ?_
              refine wpList_store_rowTo rfl 37 _ _ rfl rfl w.heap.size _ rfl rfl 37 zInst HZ9.out (by kernel_rfl) rfl (by simp [Value.oneCell']) ?_
              refine Great.wpList_readTo rfl (some 3) rfl (.bool true) (by kernel_rfl) ?_
              refine wpList_nil ?_
              simp only [Act.put, List.setIfInBounds_toArray, List.set_cons_zero, List.set_cons_succ]
              refine (‹∀ (a : Act) (w : World), Code.wp Tryz.prog Code.ret _ a w → _›) _ _ ?_
              refine wp_ret ?_
              show bodyPost Tryz.prog Tryz.f7 (fun e w' => e = Ending.returned (Value.tuple #[Value.agg (inAgg xs), Value.bool (inOk xs)]) ∧ Below w.heap.size w w') .ret _ _
              refine bodyPost_ret (P := Tryz.prog) (fn := Tryz.f7) (v := .tuple #[.agg #[.int .i64 (PG : Int), .int .u8 CO, .int .i64 (eOp E : Int), .int .i64 (MD : Int), .int .i64 (eReg E : Int), .int .u8 PO, .int .u16 VA, .int .i64 ((L2 : Int) + 2)], .bool true]) ?_ rfl ⟨?_, HB9.out.trans (below_rowI W9 _ _ _ (Nat.le_refl _))⟩
              · exact res18 _ W9 w.heap.size _ zInst HZ9.out rfl rfl rfl true rfl rfl
              · rw [HFin.out.1, HFin.out.2, HAG2.out, HO.out]
            · have d1 : decide (n < L2 + 2) = true := decide_eq_true (by omega)
              have d2 : decide ((n : Int) < ((L2 : Int) + 2)) = true := decide_eq_true (by omega)
              have hO : OK = false := by rw [HOK.out, HLN.out]; exact decide_eq_false hok
              have HAG2 : Hid (AG = zInst) := Lib.hid (by rw [HAG.out, hO]; rfl)
              have HO := Lib.hid hO
              clear hO hok HI9
              go_upto_region 19 with (fail)
              generalize W8.setCell ⟨gi, 7, none⟩ (.int .i64 ((L2 : Int) + 2)) = W9 at HZ9 HB9 ⊢
              refine wp_region_lit ?_
              refine Great.wpList_readTo rfl (some 127) rfl (.agg zInst) (by kernel_rfl) ?_
              refine wpList_store_rowTo rfl 37 _ _ rfl rfl w.heap.size zInst rfl rfl 37 zInst HZ9.out (by kernel_rfl) rfl (by simp [Value.oneCell']) ?_
              refine Great.wpList_readTo rfl (some 3) rfl (.bool false) (by kernel_rfl) ?_
              refine wpList_nil ?_
              simp only [Act.put, List.setIfInBounds_toArray, List.set_cons_zero, List.set_cons_succ]
              refine (‹∀ (a : Act) (w : World), Code.wp Tryz.prog Code.ret _ a w → _›) _ _ ?_
              refine wp_ret ?_
              show bodyPost Tryz.prog Tryz.f7 (fun e w' => e = Ending.returned (Value.tuple #[Value.agg (inAgg xs), Value.bool (inOk xs)]) ∧ Below w.heap.size w w') .ret _ _
              refine bodyPost_ret (P := Tryz.prog) (fn := Tryz.f7) (v := .tuple #[.agg zInst, .bool false]) ?_ rfl ⟨?_, HB9.out.trans (below_rowI W9 _ _ _ (Nat.le_refl _))⟩
              · exact res18 _ W9 w.heap.size _ zInst HZ9.out rfl rfl rfl false rfl rfl
              · rw [HFin.out.1, HFin.out.2, HAG2.out, HO.out]
          · subst hv
            go_upto_region 17 with (fail)
            have HI8 := Lib.hid (show Blk w7 gi 37 #[.int .i64 (PG : Int), .int .u8 CO, .int .i64 (eOp E : Int), .int .i64 (MD : Int), .int .i64 (eReg E : Int), .int .u8 PO, .int .u16 0, .int .i64 (L2 : Int)] from HI7.out)
            have HZ8 := HZ7
            have HB8 := HB7
            obtain ⟨W8, hW8⟩ : ∃ W : World, w7 = W := ⟨_, rfl⟩
            rw [hW8] at HI8 HZ8 HB8 ⊢
            clear hW8
            clear c0 c1 c2 c3 c4 c5 c6 c7 f0 f1 f2 f3 f4 f5 f6 f7
            have hln := HAg.out.2.1
            have hokk := HAg.out.2.2
            have hagg := HAg.out.1
            have HAG := Lib.hid hagg
            have HOK := Lib.hid hokk
            have HLN := Lib.hid hln
            clear hagg hokk hln
            obtain ⟨c0, c1, c2, c3, c4, c5, c6, c7⟩ := HI8.out.s8
            obtain ⟨f0, f1, f2, f3, f4, f5, f6, f7⟩ := HI8.out.f8
            have HI9 := Lib.hid (Blk.set_ HI8.out 7 (.int .i64 (L2 : Int)))
            have HZ9 := Lib.hid (Blk.far HZ8.out (p := ⟨gi, 7, none⟩) (by have := HZlt.out; simp; omega) (.int .i64 (L2 : Int)))
            have HB9 := Lib.hid (Below.setCell HB8.out (p := ⟨gi, 7, none⟩) (by have := HZlt.out; simp; omega) (.int .i64 (L2 : Int)))
            by_cases hok : L2 + 0 ≤ n
            · have d1 : decide (n < L2) = false := decide_eq_false (by omega)
              have d2 : decide ((n : Int) < (L2 : Int)) = false := decide_eq_false (by omega)
              have hO : OK = true := by rw [HOK.out, HLN.out]; exact decide_eq_true hok
              have HAG2 : Hid (AG = #[.int .i64 (PG : Int), .int .u8 CO, .int .i64 (eOp E : Int), .int .i64 (MD : Int), .int .i64 (eReg E : Int), .int .u8 PO, .int .u16 0, .int .i64 (L2 : Int)]) := Lib.hid (by rw [HAG.out, if_pos hO, HLN.out, ← HME.out]; rfl)
              have HO := Lib.hid hO
              have HI9' := Lib.hid (show Blk (W8.setCell ⟨gi, 7, none⟩ (.int .i64 (L2 : Int))) gi 37 #[.int .i64 (PG : Int), .int .u8 CO, .int .i64 (eOp E : Int), .int .i64 (MD : Int), .int .i64 (eReg E : Int), .int .u8 PO, .int .u16 0, .int .i64 (L2 : Int)] from HI9.out)
              clear hO hok HI9
              go_upto_region 20 with (fail)
              generalize W8.setCell ⟨gi, 7, none⟩ (.int .i64 (L2 : Int)) = W9 at HI9' HZ9 HB9 ⊢
              refine wp_region_lit ?_
              refine wpList_load_row rfl 37 _ rfl gi rfl 37 _ (0, 0) _ HI9'.out Tryz.underlying37 rfl (by kernel_rfl) ?_
              refine wpList_store_rowTo rfl 37 _ _ rfl rfl w.heap.size _ rfl rfl 37 zInst HZ9.out (by kernel_rfl) rfl (by simp [Value.oneCell']) ?_
              refine Great.wpList_readTo rfl (some 3) rfl (.bool true) (by kernel_rfl) ?_
              refine wpList_nil ?_
              simp only [Act.put, List.setIfInBounds_toArray, List.set_cons_zero, List.set_cons_succ]
              refine (‹∀ (a : Act) (w : World), Code.wp Tryz.prog Code.ret _ a w → _›) _ _ ?_
              refine wp_ret ?_
              show bodyPost Tryz.prog Tryz.f7 (fun e w' => e = Ending.returned (Value.tuple #[Value.agg (inAgg xs), Value.bool (inOk xs)]) ∧ Below w.heap.size w w') .ret _ _
              refine bodyPost_ret (P := Tryz.prog) (fn := Tryz.f7) (v := .tuple #[.agg #[.int .i64 (PG : Int), .int .u8 CO, .int .i64 (eOp E : Int), .int .i64 (MD : Int), .int .i64 (eReg E : Int), .int .u8 PO, .int .u16 0, .int .i64 (L2 : Int)], .bool true]) ?_ rfl ⟨?_, HB9.out.trans (below_rowI W9 _ _ _ (Nat.le_refl _))⟩
              · exact res18 _ W9 w.heap.size _ zInst HZ9.out rfl rfl rfl true rfl rfl
              · rw [HFin.out.1, HFin.out.2, HAG2.out, HO.out]
            · have d1 : decide (n < L2) = true := decide_eq_true (by omega)
              have d2 : decide ((n : Int) < (L2 : Int)) = true := decide_eq_true (by omega)
              have hO : OK = false := by rw [HOK.out, HLN.out]; exact decide_eq_false hok
              have HAG2 : Hid (AG = zInst) := Lib.hid (by rw [HAG.out, hO]; rfl)
              have HO := Lib.hid hO
              clear hO hok HI9
              go_upto_region 19 with (fail)
              generalize W8.setCell ⟨gi, 7, none⟩ (.int .i64 (L2 : Int)) = W9 at HZ9 HB9 ⊢
              refine wp_region_lit ?_
              refine Great.wpList_readTo rfl (some 127) rfl (.agg zInst) (by kernel_rfl) ?_
              refine wpList_store_rowTo rfl 37 _ _ rfl rfl w.heap.size zInst rfl rfl 37 zInst HZ9.out (by kernel_rfl) rfl (by simp [Value.oneCell']) ?_
              refine Great.wpList_readTo rfl (some 3) rfl (.bool false) (by kernel_rfl) ?_
              refine wpList_nil ?_
              simp only [Act.put, List.setIfInBounds_toArray, List.set_cons_zero, List.set_cons_succ]
              refine (‹∀ (a : Act) (w : World), Code.wp Tryz.prog Code.ret _ a w → _›) _ _ ?_
              refine wp_ret ?_
              show bodyPost Tryz.prog Tryz.f7 (fun e w' => e = Ending.returned (Value.tuple #[Value.agg (inAgg xs), Value.bool (inOk xs)]) ∧ Below w.heap.size w w') .ret _ _
              refine bodyPost_ret (P := Tryz.prog) (fn := Tryz.f7) (v := .tuple #[.agg zInst, .bool false]) ?_ rfl ⟨?_, HB9.out.trans (below_rowI W9 _ _ _ (Nat.le_refl _))⟩
              · exact res18 _ W9 w.heap.size _ zInst HZ9.out rfl rfl rfl false rfl rfl
              · rw [HFin.out.1, HFin.out.2, HAG2.out, HO.out]
end Go.Proofs.YtljhfalgplihhaaGreatDoor
