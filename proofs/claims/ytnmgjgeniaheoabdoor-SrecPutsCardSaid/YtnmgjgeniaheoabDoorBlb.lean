/- The library's Builder once more, its row of bytes from 'base' on, itself ahead of it: every block ahead of base but its own stands where it is written. -/
import Derived.Test.YtnmgjgeniaheoabDoorBld
import Derived.Test.YtnmgjgeniaheoabDoorStc
import Derived.Test.YtnmgjgeniaheoabDoorShelf
namespace Go.Proofs.YtnmgjgeniaheoabDoor
open Go.ChangeShapes Go.WideShapes Go.ChangeAt Go.RowKit
set_option linter.unusedVariables false

/-- Every block below B but b stands. -/
structure Bw (B b : Nat) (w w' : World) : Prop where
  os : w'.os = w.os
  tape : w'.tape = w.tape
  output : w'.output = w.output
  size : w.heap.size ≤ w'.heap.size
  block : ∀ k, k < B → k ≠ b → w'.heap[k]? = w.heap[k]?
theorem Bw.refl (B b : Nat) (w : World) : Bw B b w w := ⟨rfl, rfl, rfl, Nat.le_refl _, fun _ _ _ => rfl⟩
theorem Bw.trans {B b : Nat} {w w1 w2 : World} (h : Bw B b w w1) (h2 : Bw B b w1 w2) : Bw B b w w2 :=
  ⟨h2.os.trans h.os, h2.tape.trans h.tape, h2.output.trans h.output, Nat.le_trans h.size h2.size, fun k hk hc => (h2.block k hk hc).trans (h.block k hk hc)⟩
theorem Bw.of {B b : Nat} {w w1 w2 : World} (h : Bw B b w w1) (hB : B ≤ w.heap.size) (h2 : Below w1.heap.size w1 w2) : Bw B b w w2 :=
  ⟨h2.os.trans h.os, h2.tape.trans h.tape, h2.output.trans h.output, Nat.le_trans h.size h2.size, fun k hk hc => (h2.block k (Nat.lt_of_lt_of_le hk (Nat.le_trans hB h.size))).trans (h.block k hk hc)⟩
theorem Bw.alloc {B b : Nat} {w w1 : World} (h : Bw B b w w1) (hB : B ≤ w.heap.size) (o : Obj) : Bw B b w (w1.alloc o) :=
  ⟨h.os, h.tape, h.output, by simp; exact Nat.le_succ_of_le h.size, fun k hk hc => (Below.heap_alloc w1 o k (Nat.lt_of_lt_of_le hk (Nat.le_trans hB h.size))).trans (h.block k hk hc)⟩
theorem Bw.set {B b : Nat} {w w1 : World} (h : Bw B b w w1) (i : Nat) (v : Value) : Bw B b w (w1.setCell ⟨b, i, none⟩ v) :=
  ⟨h.os, h.tape, h.output, by simpa [World.setCell] using h.size, fun k hk hc => (Below.heap_setCell w1 ⟨b, i, none⟩ v k hc).trans (h.block k hk hc)⟩
theorem Bw.grow {B b : Nat} {w w1 w2 : World} {row : Option Nat} (h : Bw B b w w1) (hB : B ≤ w.heap.size) (hg : w1.grownBy w2 row) (ho : ∀ g, row = some g → B ≤ g) : Bw B b w w2 :=
  ⟨hg.os.trans h.os, hg.tape.trans h.tape, hg.output.trans h.output, Nat.le_trans h.size hg.size, fun k hk hc => by
    refine (hg.block k (Nat.lt_of_lt_of_le hk (Nat.le_trans hB h.size)) ?_).trans (h.block k hk hc)
    intro q
    have := ho k q.symm
    omega⟩
theorem Bw.blk {B b g : Nat} {t : TypeId} {cs : Array Value} {fr : Nat × Nat} {w w' : World} (h : Bw B b w w') (hb : Blk w g t cs fr) (hg : g < B) (hn : g ≠ b) : Blk w' g t cs fr := (h.block g hg hn).trans hb
theorem Bw.below {B b n : Nat} {w0 w w' : World} (h : Bw B b w w') (hb : Below n w0 w) (hB : n ≤ B) (hn : n ≤ b) : Below n w0 w' :=
  ⟨h.os.trans hb.os, h.tape.trans hb.tape, h.output.trans hb.output, Nat.le_trans hb.size h.size, fun k hk => (h.block k (by omega) (by omega)).trans (hb.block k hk)⟩
/-- A builder in block b that holds these bytes; its row lies from base on. -/
def BO (base b : Nat) (bs : List Value) (w : World) : Prop :=
  ∃ (p : Option Addr) (v : Value), Blk w b 78 #[.pointer p, v] ∧ w.ownsRow base 5 1 v bs.length bs ∧ v.ownBlock ≠ some b ∧ ((p = none ∧ v = .slice none 0 0) ∨ p = some ⟨b, 0, none⟩)
theorem BO.fresh (w : World) (base : Nat) : BO base w.heap.size [] (w.alloc (.cells #[.pointer none, .slice none 0 0] 78)) :=
  ⟨none, _, Blk.new _ _ _ _, World.ownsRow_nil _ _ _ 1, (by intro h; cases h), .inl ⟨rfl, rfl⟩⟩
theorem BO.keep {base b : Nat} {bs : List Value} {w w' : World} (h : BO base b bs w) (hb : w'.heap[b]? = w.heap[b]?) (hr : ∀ g, base ≤ g → g < w.heap.size → w'.heap[g]? = w.heap[g]?) : BO base b bs w' := by
  obtain ⟨p, v, h1, h2, h3, h4⟩ := h
  refine ⟨p, v, hb.trans h1, ?_, h3, h4⟩
  obtain ⟨hl, h5⟩ := h2
  refine ⟨hl, ?_⟩
  rcases h5 with h5 | ⟨g, cap, cur, rfl, h6, h7, h8⟩
  · exact .inl h5
  · exact .inr ⟨g, cap, cur, rfl, h6, (hr g h6 (Blk.lt (t := _) (cs := cur) (fr := (0, 0)) h7)).trans h7, h8⟩
theorem BO.below {base b : Nat} {bs : List Value} {w w' : World} (h : BO base b bs w) (hb : Below w.heap.size w w') : BO base b bs w' := by
  have hlt : b < w.heap.size := by obtain ⟨p, v, h1, _⟩ := h; exact h1.lt
  exact h.keep (hb.block b hlt) fun g _ hg => hb.block g hg
theorem BO.grown {base b r : Nat} {bs : List Value} {w w' : World} (h : BO base b bs w) (hg : w.grownBy w' (some r)) (hr : r < base) (hb : r ≠ b) : BO base b bs w' := by
  have hlt : b < w.heap.size := by obtain ⟨p, v, h1, _⟩ := h; exact h1.lt
  exact h.keep (hg.block b hlt (by simp; omega)) fun g h1 h2 => hg.block g h2 (by simp; omega)
theorem BO.bld {base b : Nat} {bs : List Value} {w : World} (h : BO base b bs w) (hb : b ≤ base) : Bld b b bs w := by
  obtain ⟨p, v, h1, h2, h3, h4⟩ := h
  have own : w.ownsRow b 5 1 v bs.length bs := by
    obtain ⟨hl, h5⟩ := h2
    refine ⟨hl, ?_⟩
    rcases h5 with h5 | ⟨g, cap, cur, rfl, h6, h7, h8⟩
    · exact .inl h5
    · exact .inr ⟨g, cap, cur, rfl, by omega, h7, h8⟩
  rcases h4 with ⟨rfl, rfl⟩ | rfl
  · exact .inl ⟨Nat.le_refl _, _, h1, own, h3⟩
  · exact .inr ⟨Nat.le_refl _, _, h1, own, h3⟩
set_option maxRecDepth 100000 in
set_option maxHeartbeats 1000000 in
theorem boCheck_any (base b : Nat) (bs : List Value) (w : World) (h : BO base b bs w) (hbb : b < base) :
    Calls Tryd.prog 48 #[.pointer (some ⟨b, 0, none⟩)] w fun e w' => e = .returned (.tuple #[]) ∧ BO base b bs w' ∧ Bw base b w w' ∧ ∃ v, Blk w' b 78 #[.pointer (some ⟨b, 0, none⟩), v] ∧ w'.ownsRow base 5 1 v bs.length bs ∧ v.ownBlock ≠ some b := by
  obtain ⟨j, hj, hjs⟩ := Option.map_eq_some_iff.1 bldSize
  have hB := h.bld (Nat.le_of_lt hbb)
  have HH := Lib.hid h
  obtain ⟨p, v, h1, h2, h3, h4⟩ := h
  rcases h4 with ⟨rfl, rfl⟩ | rfl
  · have h : Lib.BuilderAt 78 5 b b (.pointer none) bs w := by
      rcases hB with h | h
      · exact h
      · exfalso
        obtain ⟨_, v', h5, _⟩ := h
        have := (h1.symm.trans h5)
        simp at this
    have c0 := h.cell0
    have hsh := h.shape
    have f0 := h.frozen0
    have N1 := Lib.hid (Blk.set_ h1 0 (.pointer (some ⟨b, 0, none⟩)))
    have N2 : Hid ((w.setCell ⟨b, 0, none⟩ (.pointer (some ⟨b, 0, none⟩))).ownsRow base 5 1 (.slice none 0 0) bs.length bs) := Lib.hid (World.ownsRow.kept h2 (grown_cell w b 0 _) (.inl rfl))
    have B1 := Lib.hid ((Bw.refl base b w).set 0 (.pointer (some ⟨b, 0, none⟩)))
    have H3 := Lib.hid h3
    clear h HH hB h1 h2 h3
    go_enter Tryd.func48, Tryd.ntmps48
    have r1 := Lib.run_to_unsafe w ⟨b, 0, none⟩ Tryd.underlying76 Tryd.underlying155 hj (by rw [hjs]; decide) hsh (Nat.zero_lt_succ 1)
    have r3 := Lib.run_from_unsafe w ⟨b, 0, none⟩ Tryd.underlying155 Tryd.underlying76 hj hsh bldLies
    clear hsh hjs
    go_wp2
    rw [run_callFunc_extern Tryd.func88 (by kernel_rfl) (by kernel_rfl) (by kernel_rfl) (e := Extern.AbiNoEscape.same) (by kernel_rfl)]
    rw [Lib.run_noEscape]
    simp only [Result.andThen]
    rw [Oper.upon_value]
    go_wp2
    go_end0
    exact ⟨rfl, ⟨_, _, N1.out, N2.out, H3.out, .inr rfl⟩, B1.out, _, N1.out, N2.out, H3.out⟩
  · have c0 : w.cell? ⟨b, 0, none⟩ = some (.pointer (some ⟨b, 0, none⟩)) := (h1.cell 0).trans rfl
    have N1 := Lib.hid h1
    have N2 := Lib.hid h2
    have N3 := Lib.hid h3
    clear hB h1 h2 h3
    have r1 := Lib.run_neq_ptr_same w (⟨b, 0, none⟩ : Addr) Tryd.underlying76 hj
    go_enter Tryd.func48, Tryd.ntmps48
    go_wp2
    go_end0
    exact ⟨rfl, HH.out, Bw.refl _ _ _, _, N1.out, N2.out, N3.out⟩
set_option maxRecDepth 100000 in
set_option maxHeartbeats 1000000 in
theorem boStr_any (base b : Nat) (bs : List Value) (s : ByteArray) (w : World) (h : BO base b bs w) (hbb : b < base) (hn : bs.length + s.size ≤ 1000000000000) (hB : base ≤ w.heap.size) :
    Calls Tryd.prog 29 #[.pointer (some ⟨b, 0, none⟩), .string s] w fun e w' => e = .returned (.tuple #[.int .i64 s.size, .nilIface]) ∧ BO base b (bs ++ Lib.strCells s) w' ∧ Bw base b w w' := by
  obtain ⟨i0, hi, hz0, hz1, hz2⟩ := info_parts bldByte
  have CC := Lib.hid (boCheck_any base b bs w h hbb)
  clear h
  go_enter Tryd.func29, Tryd.ntmps29
  go_wp2_with fail
  refine CC.out.mono ?_
  rintro e w1 ⟨rfl, h1, hb1, v, hbk, hown, hne⟩
  obtain ⟨c0, c1⟩ : w1.cell? ⟨b, 0, none⟩ = some (.pointer (some ⟨b, 0, none⟩)) ∧ w1.cell? ⟨b, 1, none⟩ = some v := ⟨by rw [hbk.cell]; rfl, by rw [hbk.cell]; rfl⟩
  go_wp2_with (at_builtin; refine Lib.wpList_append_own_string _ rfl _ _ 25 9 rfl base 5 i0 Tryd.underlying25 Tryd.underlying9 hi hz0 hz1 hz2 _ _ _ rfl hown s rfl (by unfold maxLen; omega) (by omega) (by have := hb1.size; omega) ?_)
  intro v' w2 hown' hgrow hw4
  obtain ⟨ao, n', cap', rfl⟩ : ∃ ao n' cap', v' = .slice ao n' cap' := by
    rcases hown'.2 with ⟨hv, _⟩ | ⟨g, cap, cur, hv, _⟩
    · exact ⟨_, _, _, hv⟩
    · exact ⟨_, _, _, hv⟩
  have hb2 : Blk w2 b 78 #[.pointer (some ⟨b, 0, none⟩), v] := Blk.grown hbk hgrow (fun e => hne e.symm)
  have f1 := hb2.frozen 1
  have d1 : w2.cell? ⟨b, 1, none⟩ = some v := by rw [hb2.cell]; rfl
  have hnb : (Value.slice ao n' cap').ownBlock ≠ some b := by
    intro e
    have := (World.ownsRow.lt hown' b e).1
    omega
  have H2 : Hid (BO base b (bs ++ Lib.strCells s) (w2.setCell ⟨b, 1, none⟩ (.slice ao n' cap'))) := Lib.hid ⟨_, _, Blk.set_ hb2 1 _, World.ownsRow.kept (by simpa [Lib.strCells_length] using hown') (grown_cell w2 b 1 _) (.inr hnb), hnb, .inr rfl⟩
  have B2 := Lib.hid ((hb1.grow hB hgrow (fun g hg => (World.ownsRow.lt hown g hg).1)).set 1 (.slice ao n' cap'))
  clear hown' hgrow hb2 hown hbk h1 hb1 CC c0 c1 hi hz0 hz1 hz2 hne hnb hw4
  go_wp2
  go_ret2
  exact ⟨rfl, H2.out, B2.out⟩
theorem boString_any (base b : Nat) (s : ByteArray) (w : World) (h : BO base b (Lib.strCells s) w) (hbb : b ≤ base) :
    Calls Tryd.prog 31 #[.pointer (some ⟨b, 0, none⟩)] w fun e w' => e = .returned (.string s) ∧ Below b w w' := by
  have hlt : b < w.heap.size := by obtain ⟨p, v, h1, _⟩ := h; exact h1.lt
  have := Tryd.Builder_String_any b b s.data.toList w (h.bld hbb) (Nat.le_of_lt hlt)
  have e : (⟨s.data.toList.toArray⟩ : ByteArray) = s := by apply ByteArray.ext; simp
  rw [e] at this
  exact this
set_option maxRecDepth 100000 in
set_option maxHeartbeats 1000000 in
/-- The text, of a builder that holds some byte: whatever lies below base stands. -/
theorem boString_some (base b : Nat) (s : ByteArray) (w : World) (h : BO base b (Lib.strCells s) w) (h0 : s.size ≠ 0) :
    Calls Tryd.prog 31 #[.pointer (some ⟨b, 0, none⟩)] w fun e w' => e = .returned (.string s) ∧ Below base w w' := by
  obtain ⟨p, v, hbk, hown, hne, -⟩ := h
  rw [Lib.strCells_length] at hown
  obtain ⟨g, cap, cur, rfl, hbg, hg, hnc, hcm, hcs, htake⟩ : ∃ g cap cur, v = .slice (some ⟨g, 0, none⟩) s.size cap ∧ base ≤ g ∧ w.heap[g]? = some (.cells cur 5 (0, 0)) ∧ s.size ≤ cap ∧ cap ≤ maxLen ∧ cur.size = cap * 1 ∧ cur.toList.take (s.size * 1) = Lib.strCells s := by
    rcases hown.2 with ⟨_, hz⟩ | ⟨g, cap, cur, hv, r⟩
    · exact absurd hz h0
    · exact ⟨g, cap, cur, hv, r⟩
  have c1 : w.drew.cell? ⟨b, 1, none⟩ = some (.slice (some ⟨g, 0, none⟩) s.size cap) := (hbk.drew.cell 1).trans rfl
  have es : (⟨s.data.toList.toArray⟩ : ByteArray) = s := by apply ByteArray.ext; simp
  have el : s.data.toList.length = s.size := by rw [Array.length_toList]; rfl
  have hSD : (Builtin.unsafeSliceData_ #[25] 117 #[.slice (some ⟨g, 0, none⟩) s.size cap]).run Tryd.prog w.drew = .ok (.pointer (some ⟨g, 0, none⟩)) w.drew :=
    Lib.run_unsafeSliceData_row _ _ _ _ _ _ (by omega)
  have hUS : (Builtin.unsafeString_ #[117, 3] 9 #[.pointer (some ⟨g, 0, none⟩), .int .i64 s.size]).run Tryd.prog w.drew = .ok (.string s) (w.drew.freeze ⟨g, 0, none⟩ s.size) := by
    have := Lib.run_unsafeString_row (P := Tryd.prog) w.drew 117 3 9 5 Tryd.underlying117 (by kernel_rfl) g cur.size (by have hg' : w.drew.heap[g]? = some (.cells cur 5 (0, 0)) := hg; simp [World.shape?, hg']) s.data.toList (by intro e; rw [e] at el; simp at el; omega) (by omega) (by unfold maxLen at hcm; omega) (fun j x hx => by
      have := hown.cells (g := g) rfl j (.int .u8 x.toNat) (by simp [Lib.strCells, hx])
      exact this)
    rw [es, el] at this
    exact this
  have FIN := Lib.hid (Lib.below_freeze (Below.drew (Below.refl base w)) (p := ⟨g, 0, none⟩) hbg s.size)
  clear hbk hown hne hg htake hcs hcm hnc es el
  have mixed : Tryd.prog.follows Departure.mixedOrders = true := by kernel_rfl
  go_enter Tryd.func31, Tryd.ntmps31
  go_wp2
  go_region_o
  all_goals (go_wp2; go_ret; exact ⟨rfl, FIN.out⟩)
end Go.Proofs.YtnmgjgeniaheoabDoor
