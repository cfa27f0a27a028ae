/- Contracts: strings.IndexRune at a rune beyond ASCII in an ASCII text; strings.IndexAny of any text at a few ASCII bytes. -/
import Derived.Test.YtmdpgekbiohfbaaDoorIxN
import Derived.Test.YtmdpgekbiohfbaaDoorLxN
import Derived.Test.YtmdpgekbiohfbaaDoorShelf
import Derived.Deep.LoopGhost
import Derived.Deep.QuietTactic
import Derived.BigQuiet
import Derived.WalkMore
namespace Go.Proofs.YtmdpgekbiohfbaaDoor
open Go.ChangeShapes Go.WideShapes Go.ChangeAt Go.RowKit
set_option linter.unusedVariables false
set_option linter.unusedSimpArgs false

theorem tw_all (p : UInt8 → Bool) : ∀ l : List UInt8, (∀ x ∈ l, p x = true) → l.takeWhile p = l
  | [], _ => rfl
  | x :: l, h => by rw [List.takeWhile_cons_of_pos (h x (by simp)), tw_all p l (fun y hy => h y (by simp [hy]))]
theorem ascii_none (l : List UInt8) (ha : ∀ (j : Nat) b, l[j]? = some b → b.toNat < 128) (c : UInt8) (hc : 128 ≤ c.toNat) : Lib.indexByte l c = -1 := by
  have h : (l.takeWhile (neB c)).length = l.length := by
    congr 1
    refine tw_all _ _ (fun x hx => ?_)
    obtain ⟨j, hj, rfl⟩ := List.getElem_of_mem hx
    have := ha j _ (List.getElem?_eq_getElem hj)
    unfold neB
    rw [bne_iff_ne]
    rintro rfl
    omega
  rw [idxB_tw, if_pos h]
theorem ret_i {a b : Int} (h : a = b) : Ending.returned (.int .i64 a) = .returned (.int .i64 b) := by rw [h]
set_option maxRecDepth 100000 in
set_option maxHeartbeats 4000000 in
theorem idxRune_high (s : ByteArray) (hs : s.size ≤ 3) (ha : ∀ (j : Nat) b, s.data.toList[j]? = some b → b.toNat < 128) (r : Nat) (h0 : 128 ≤ r) (hv : Utf8.valid (r : Int) = true) (h1 : r ≤ 1114111) (w : World) :
    Calls Tryd.prog 44 #[.string s, .int .i32 (r : Int)] w fun e w' => e = .returned (.int .i64 (-1)) ∧ Below w.heap.size w w' := by
  have HA := Lib.hid ha
  have g1 : (0 : Int) ≤ (r : Int) := by omega
  have g2 : ¬ (r : Int) < 128 := by omega
  by_cases he : r = 65533
  · subst he
    have e1 : (((65533 : Nat) : Int) == 65533) = true := by decide
    clear hv h1 h0 ha
    go_enter Tryd.func44, Tryd.ntmps44
    go_wp2
    go_loopg [5, 6] s.size (fun g _ _ wx => ∃ i : Nat, i + g = s.size ∧ wx = w.iter s i)
    case atStart => exact ⟨0, by omega, rfl⟩
    case round =>
      obtain ⟨i, hig, rfl⟩ := hrel
      by_cases hi : i < s.size
      · obtain ⟨x, hx⟩ : ∃ x : UInt8, s[i]'hi = x := ⟨_, rfl⟩
        have hx128 : x.toNat < 128 := HA.out i x (by rw [← hx]; exact Lib.data_getElem? s i hi)
        have hnx := fun ty => run_next_ascii (P := Tryd.prog) w s i ty hi (by rw [hx]; exact hx128)
        rw [hx] at hnx
        have hne : ((x.toNat : Int) == 65533) = false := by simp; omega
        clear hx
        go_wp2
        go_roundg (gk - 1)
        case measure => omega
        case rel => exact ⟨i + 1, by omega, rfl⟩
      · obtain rfl : i = s.size := by omega
        have hnx := run_next_end (P := Tryd.prog) w s s.size
        go_wp2
        go_ret
        exact ⟨rfl, (Below.refl _ _).alloc (Nat.le_refl _) _⟩
  · have e1 : ((r : Int) == 65533) = false := by simp; omega
    have e2 : ((r : Nat) == 65533) = false := by simp; omega
    obtain ⟨z1, z2, z3⟩ := encode_facts (r : Int) hv (by omega)
    have hval : Lib.validRune (r : Int) = true := by
      simp only [Utf8.valid, Bool.or_eq_true, Bool.and_eq_true, decide_eq_true_eq] at hv
      simp only [Lib.validRune, decide_eq_true_eq]; omega
    have CV := Lib.hid (Tryd.utf8_ValidRune (r : Int) w)
    rw [hval] at CV
    obtain ⟨R, hR⟩ : ∃ R, Utf8.encode (r : Int) = R := ⟨_, rfl⟩
    rw [hR] at z1 z2 z3
    have hR' := hR
    clear hval hv h1 h0 ha
    obtain ⟨y, hy⟩ : ∃ y : UInt8, R[R.size - 1]'(by omega) = y := ⟨_, rfl⟩
    have HY : Hid (128 ≤ y.toNat) := Lib.hid (by rw [← hy]; exact z3 (by omega))
    have l0 : (0 : Int) ≤ (R.size : Int) - 1 := by omega
    have l1 : (R.size : Int) - 1 < (R.size : Int) := by omega
    have ln : ((R.size : Int) - 1).toNat = R.size - 1 := by omega
    have ix : ∀ u, (Instr.index 9 (.string R) (.int .i64 ((R.size : Int) - 1))).run Tryd.prog u = .ok (.int .u8 (y.toNat : Int)) u := fun u => by
      subst hy
      have : ((R.size : Int) - 1) = ((R.size - 1 : Nat) : Int) := by omega
      rw [this]
      go_simp
      rw [dif_pos (by omega)]
    obtain ⟨N, hN⟩ : ∃ N : Int, (R.size : Int) - 1 = N := ⟨_, rfl⟩
    have hN' : Hid (N.toNat = R.size - 1) := Lib.hid (by omega)
    have hs' := Lib.hid hs
    rw [hN] at l0 l1 ix
    by_cases hlt : R.size - 1 < s.size
    · obtain ⟨x, hx⟩ : ∃ x : UInt8, s[R.size - 1]'hlt = x := ⟨_, rfl⟩
      have hx128 : x.toNat < 128 := HA.out _ x (by rw [← hx]; exact Lib.data_getElem? s _ hlt)
      have hne : ((x.toNat : Int) == (y.toNat : Int)) = false := by have := HY.out; simp; omega
      have iy : ∀ u, (Instr.index 9 (.string s) (.int .i64 N)).run Tryd.prog u = .ok (.int .u8 (x.toNat : Int)) u := fun u => by
        subst hx
        have : N = ((R.size - 1 : Nat) : Int) := by omega
        rw [this]
        go_simp
      have HN := Lib.hid (ascii_none (s.extract (N + 1).toNat s.size).data.toList (fun j b hb => by
        have he : (s.extract (N + 1).toNat s.size).data.toList = s.data.toList.drop (N + 1).toNat := by
          rw [ByteArray.data_extract, Array.toList_extract, List.extract_eq_take_drop]
          exact List.take_of_length_le (by rw [List.length_drop, Array.length_toList]; show s.size - _ ≤ _; omega)
        rw [he, List.getElem?_drop] at hb
        exact HA.out _ b hb) y HY.out)
      have hyy : ((y.toNat : Int)).toNat.toUInt8 = y := by simp
      have CB := Lib.hid (fun u => Tryd.strings_IndexByte (s.extract (N + 1).toNat s.size) (y.toNat : Int) u)
      rw [hyy, HN.out] at CB
      have m0 : (0 : Int) ≤ N + 1 := by omega
      have m1 : N + 1 ≤ (s.size : Int) := by omega
      have mw : IntKind.i64.wrap (N + 1) = N + 1 := by rw [IntKind.wrap_i64]; omega
      have m2 : N < (s.size : Int) := by omega
      have m4 : N < 1000 := by omega
      clear hR z3 hy hx hs hlt hx128 he hyy HN HY HA ln z1 z2 l1
      go_enter Tryd.func44, Tryd.ntmps44
      go_wp2_with fail
      refine CV.out.mono ?_
      rintro e w1 ⟨rfl, hw⟩
      subst hw
      have HW : Hid (wrap64 N = N) := Lib.hid (by unfold wrap64; omega)
      go_wp2
      go_step3
      go_wp2
      go_loop [9, 10] (fun i f => i = .int .i64 N ∧ f = .int .i64 0) (fun _ _ => 0)
      case atStart => exact ⟨rfl, rfl⟩
      case round =>
        obtain ⟨rfl, rfl⟩ := hrel
        clear hR' hN
        go_wp2
        go_step3
        go_wp2_with fail
        go_quiet (fail)
        go_wp2_with fail
        go_quiet ((go_at_call 56; exact (CB.out _).mono (fun e w' h => ⟨h.1, _, h.2⟩)))
        go_wp2
        simp +zetaDelta only [Exit.inBlock, Exit.then, Exit.noGoto_ret]
        go_ret
        exact ⟨rfl, Below.drewN0 (Below.refl _ _) _⟩
    · have m2 : decide (N < (s.size : Int)) = false := decide_eq_false (by omega)
      have m4 : N < 1000 := by omega
      clear hR z3 hy hs hlt he ln HA HY z1 z2 l1
      go_enter Tryd.func44, Tryd.ntmps44
      go_wp2_with fail
      refine CV.out.mono ?_
      rintro e w1 ⟨rfl, hw⟩
      subst hw
      go_wp2
      go_step3
      go_wp2
      go_loop [9, 10] (fun i f => i = .int .i64 N ∧ f = .int .i64 0) (fun _ _ => 0)
      case atStart => exact ⟨rfl, rfl⟩
      case round =>
        obtain ⟨rfl, rfl⟩ := hrel
        clear hR' hN
        go_wp2
        try rw [Exit.noGoto_ret]
        go_ret
        exact ⟨rfl, Below.refl _ _⟩
/-- A few bytes of ASCII. -/
theorem ascii_of (l : List UInt8) (h : l.all (fun b => decide (b.toNat < 128)) = true) : ∀ (j : Nat) b, l[j]? = some b → b.toNat < 128 := fun j b hb => by
  have := List.all_eq_true.1 h b (List.mem_of_getElem? hb)
  simpa using this
theorem info256b : (Tryd.prog.info? 54).map (fun i => (i.zero, i.size)) = some (some (.agg (Array.replicate 256 (.bool false))), 256) := by kernel_rfl
/-- An object of the heap, another one in its place. -/
def putOb (w : World) (b : Nat) (o : Obj) : World := { w with heap := w.heap.setIfInBounds b o }
theorem putOb_same (w : World) (b : Nat) (o : Obj) (h : b < w.heap.size) : (putOb w b o).heap[b]? = some o := by simp [putOb, h]
theorem putOb_size (w : World) (b : Nat) (o : Obj) : (putOb w b o).heap.size = w.heap.size := by simp [putOb]
theorem putOb_below {w0 w : World} {B b : Nat} (h : Below B w0 w) (hb : B ≤ b) (o : Obj) : Below B w0 (putOb w b o) :=
  ⟨h.os, h.tape, h.output, by rw [putOb_size]; exact h.size, fun k hk => by
    rw [← h.block k hk]
    have : b ≠ k := by omega
    simp [putOb, Array.getElem?_setIfInBounds, this]⟩
theorem nextB (w : World) (b : Nat) (s : ByteArray) (pos : Nat) (ty : TypeId) (hb : w.heap[b]? = some (.stringIter s pos)) (h : pos < s.size) :
    (Instr.next (.pointer (some ⟨b, 0, none⟩)) true ty).run Tryd.prog w =
      .ok (.tuple #[.bool true, .int .i64 pos, .int .i32 (Utf8.decode s pos).1]) (putOb w b (.stringIter s (pos + (Utf8.decode s pos).2))) := by
  simp only [Instr.next, getObj, setObj, Sem.run_bind, Sem.run, hb, Result.andThen, h, if_true]
  simp [goInt, putOb, Sem.run, hb]
theorem nextE (w : World) (b : Nat) (s : ByteArray) (pos : Nat) (ty : TypeId) (hb : w.heap[b]? = some (.stringIter s pos)) (h : ¬ pos < s.size) :
    (Instr.next (.pointer (some ⟨b, 0, none⟩)) true ty).run Tryd.prog w = .ok (.tuple #[.bool false]) w := by
  simp [Instr.next, getObj, Sem.run, hb, h]
theorem heap_lt {w : World} {b : Nat} {o : Obj} (h : w.heap[b]? = some o) : b < w.heap.size := (Array.getElem?_eq_some_iff.1 h).1
set_option maxRecDepth 100000 in
set_option maxHeartbeats 4000000 in
theorem idxAny_short (s cs : ByteArray) (hc2 : 2 ≤ cs.size) (hc3 : cs.size ≤ 3) (hac : cs.data.toList.all (fun b => decide (b.toNat < 128)) = true) (h8 : s.size ≤ 8) (w : World) :
    Calls Tryd.prog 34 #[.string s, .string cs] w fun e w' => e = .returned (.int .i64 (Lib.indexAny s.data.toList cs.data.toList)) ∧ Below w.heap.size w w' := by
  have HMC : Hid (∀ c ∈ cs.data.toList, c.toNat < 128) := Lib.hid (fun c hc => by simpa using List.all_eq_true.1 hac c hc)
  have CH := Lib.hid (fun (r : Nat) u (h0 : 128 ≤ r) hv h1 => idxRune_high cs hc3 (ascii_of _ hac) r h0 hv h1 u)
  have hemp : cs.toList.isEmpty = false := empty_beqS cs (by omega)
  have hn1 : ((cs.size : Int) == 1) = false := beq_eq_false_iff_ne.2 (by omega)
  have CS := Lib.hid (Tryd.strings_shouldUseASCIISet (s.size : Int) w)
  rw [decide_eq_false (show ¬ (8 : Int) < (s.size : Int) by omega)] at CS
  clear hac hc2 hc3 h8
  obtain ⟨V, hV⟩ : ∃ V, Lib.indexAny s.data.toList cs.data.toList = V := ⟨_, rfl⟩
  have HV := Lib.hid hV
  rw [hV]
  clear hV
  go_enter Tryd.func34, Tryd.ntmps34
  go_wp2_with (go_at_call 45; refine CS.out.mono ?_; rintro e w1 ⟨rfl, hw⟩; rw [hw]; clear hw)
  go_loopg [9, 10] s.size (fun g _ _ wx => ∃ i : Nat, i + g = s.size ∧ Hid (Lib.NoAny s.data.toList cs.data.toList i) ∧ Hid (wx.heap[w.heap.size]? = some (.stringIter s i)) ∧ Hid (Below w.heap.size w wx))
  case atStart => exact ⟨0, by omega, Lib.hid (Lib.NoAny.zero _ _), Lib.hid (World.iter_heap _ _ _), Lib.hid (Below.alloc0 (Below.refl _ _) _)⟩
  case round =>
    obtain ⟨i, hig, HN, HI, HB⟩ := hrel
    by_cases hi : i < s.size
    · obtain ⟨x, hx⟩ : ∃ x : UInt8, s[i]'hi = x := ⟨_, rfl⟩
      have Hx : Hid (s.data.toList[i]? = some x) := Lib.hid (by rw [← hx]; exact Lib.data_getElem? s i hi)
      by_cases h128 : x.toNat < 128
      · have hnx := fun ty => nextB wr w.heap.size s i ty HI.out hi
        rw [decode_ascii s i hi (by rw [hx]; exact h128)] at hnx
        simp only [hx] at hnx
        have HT : Hid (Hid ((putOb wr w.heap.size (.stringIter s (i + 1))).heap[w.heap.size]? = some (.stringIter s (i + 1))) ∧ Hid (Below w.heap.size w (putOb wr w.heap.size (.stringIter s (i + 1))))) :=
          Lib.hid ⟨Lib.hid (putOb_same _ _ _ (heap_lt HI.out)), Lib.hid (putOb_below HB.out (Nat.le_refl _) _)⟩
        have hcon := Lib.contains_iff_indexByte cs.data.toList x
        have hback : ((x.toNat : Int)).toNat.toUInt8 = x := by simp
        have CR := Lib.hid (fun u => Tryd.strings_IndexRune_ascii cs (x.toNat : Int) u (by omega) (by omega))
        rw [hback] at CR
        obtain ⟨W2, hW2⟩ : ∃ W2, putOb wr w.heap.size (.stringIter s (i + 1)) = W2 := ⟨_, rfl⟩
        rw [hW2] at HT
        simp only [hW2] at hnx
        clear hx hback
        cases hin : cs.data.toList.contains x
        · have HS := Lib.hid (HN.out.succ Hx.out hin)
          rw [hin] at hcon
          have hlt : ¬ ((0 : Int) ≤ Lib.indexByte cs.data.toList x) := of_decide_eq_false hcon.symm
          clear hcon hin
          obtain ⟨J, hJ⟩ : ∃ J, Lib.indexByte cs.data.toList x = J := ⟨_, rfl⟩
          rw [hJ] at hlt CR
          clear hJ hW2
          go_wp2_with (go_at_call 44; refine (CR.out _).mono ?_; rintro e w' ⟨rfl, hw⟩; rw [hw]; clear hw)
          go_roundg (gk - 1)
          case measure => omega
          case rel => exact ⟨i + 1, by omega, HS, HT.out.1, HT.out.2⟩
        · have HS := Lib.hid (Lib.indexAny_hit HN.out Hx.out hin)
          rw [HV.out] at HS
          rw [hin] at hcon
          have hge : (0 : Int) ≤ Lib.indexByte cs.data.toList x := of_decide_eq_true hcon.symm
          clear hcon hin
          obtain ⟨J, hJ⟩ : ∃ J, Lib.indexByte cs.data.toList x = J := ⟨_, rfl⟩
          rw [hJ] at hge CR
          clear hJ hW2
          go_wp2_with (go_at_call 44; refine (CR.out _).mono ?_; rintro e w' ⟨rfl, hw⟩; rw [hw]; clear hw)
          go_ret
          exact ⟨ret_i HS.out.symm, HT.out.2.out⟩
      · obtain ⟨n1, n2, n3, n4, n5, n6⟩ := noAny_wide s cs.data.toList HMC.out i hi x Hx.out (by omega) HN.out
        have hnx := fun ty => nextB wr w.heap.size s i ty HI.out hi
        obtain ⟨R, hR⟩ : ∃ R, (Utf8.decode s i).1 = R := ⟨_, rfl⟩
        obtain ⟨D, hD⟩ : ∃ D, (Utf8.decode s i).2 = D := ⟨_, rfl⟩
        simp only [hR, hD] at hnx
        rw [hR] at n4 n5 n6
        rw [hD] at n1 n2 n3
        have HS := Lib.hid n1
        have HT := Lib.hid (And.intro (putOb_same wr w.heap.size (.stringIter s (i + D)) (heap_lt HI.out)) (putOb_below HB.out (Nat.le_refl _) (.stringIter s (i + D))))
        obtain ⟨W2, hW2⟩ : ∃ W2, putOb wr w.heap.size (.stringIter s (i + D)) = W2 := ⟨_, rfl⟩
        rw [hW2] at HT
        simp only [hW2] at hnx
        have CR := Lib.hid (fun u => CH.out R u n4 n5 n6)
        clear hx h128 hR hD n1 n5 n4 hW2
        go_wp2_with (go_at_call 44; refine (CR.out _).mono ?_; rintro e w' ⟨rfl, hb⟩; have HB2 := Lib.hid hb; clear hb)
        go_roundg (gk - D)
        case measure => omega
        case rel => exact ⟨i + D, by omega, HS, Lib.hid ((HB2.out.block _ (heap_lt HT.out.1)).trans HT.out.1), Lib.hid (Below.trans0 HT.out.2 HB2.out)⟩
    · obtain rfl : i = s.size := by omega
      have hnx := fun ty => nextE wr w.heap.size s s.size ty HI.out hi
      have HS := Lib.hid (Lib.indexAny_none (s := s.data.toList) (chars := cs.data.toList) (by rw [← Lib.size_eq]; exact HN.out))
      rw [HV.out] at HS
      go_wp2
      go_ret
      exact ⟨ret_i HS.out.symm, HB.out⟩
theorem idxAny_any (s cs : ByteArray) (hs : s.size ≤ 1000000000) (hc2 : 2 ≤ cs.size) (hc3 : cs.size ≤ 3) (hac : cs.data.toList.all (fun b => decide (b.toNat < 128)) = true) (w : World) :
    Calls Tryd.prog 34 #[.string s, .string cs] w fun e w' => e = .returned (.int .i64 (Lib.indexAny s.data.toList cs.data.toList)) ∧ Below w.heap.size w w' := by
  by_cases h8 : s.size ≤ 8
  · exact idxAny_short s cs hc2 hc3 hac h8 w
  · refine (Tryd.strings_IndexAny_long (zero_of_info info256b).1 s cs w hc2 (by omega) (by omega) (by omega) (ascii_of _ hac)).mono ?_
    rintro e w' ⟨rfl, hw⟩
    rw [hw]
    exact ⟨rfl, Below.alloc0 (Below.alloc0 (Below.refl _ _) _) _⟩
end Go.Proofs.YtmdpgekbiohfbaaDoor
