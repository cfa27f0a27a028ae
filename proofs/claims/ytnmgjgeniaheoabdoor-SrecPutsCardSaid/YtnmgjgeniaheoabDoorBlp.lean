/- The library's Builder a third time: blocks of other kinds than bytes stand where it is written, wherever they lie. -/
import Derived.Test.YtnmgjgeniaheoabDoorBlb
namespace Go.Proofs.YtnmgjgeniaheoabDoor
open Go.ChangeShapes Go.WideShapes Go.ChangeAt Go.RowKit
set_option linter.unusedVariables false

/-- Every block of another kind than bytes, but b, stands. -/
def Bk (b : Nat) (w w' : World) : Prop := ∀ (k : Nat) (t : TypeId) (cs : Array Value) (fr : Nat × Nat), k ≠ b → t ≠ 5 → Blk w k t cs fr → Blk w' k t cs fr
theorem Bk.refl (b : Nat) (w : World) : Bk b w w := fun _ _ _ _ _ _ h => h
theorem Bk.trans {b : Nat} {w w1 w2 : World} (h : Bk b w w1) (h2 : Bk b w1 w2) : Bk b w w2 := fun k t cs fr a c d => h2 k t cs fr a c (h k t cs fr a c d)
theorem own_kind {w : World} {base n k : Nat} {v : Value} {xs : List Value} {t : TypeId} {cs : Array Value} {fr : Nat × Nat} (h : w.ownsRow base 5 1 v n xs) (hb : Blk w k t cs fr) (ht : t ≠ 5) : v.ownBlock ≠ some k := by
  intro e
  rcases h.2 with ⟨rfl, _⟩ | ⟨g, cap, cur, rfl, _, hg, _⟩
  · cases e
  · have e2 : g = k := by injection e
    subst e2
    have := hg.symm.trans hb
    injection this with this
    injection this with _ e3 _
    exact ht e3.symm
set_option maxRecDepth 100000 in
set_option maxHeartbeats 1000000 in
theorem bpCheck_any (base b : Nat) (bs : List Value) (w : World) (h : BO base b bs w) (hbb : b < base) :
    Calls Tryd.prog 48 #[.pointer (some ⟨b, 0, none⟩)] w fun e w' => e = .returned (.tuple #[]) ∧ Bk b w w' ∧ BO base b bs w' ∧ Bw base b w w' ∧ ∃ v, Blk w' b 78 #[.pointer (some ⟨b, 0, none⟩), v] ∧ w'.ownsRow base 5 1 v bs.length bs ∧ v.ownBlock ≠ some b := by
  obtain ⟨j, hj, hjs⟩ := Option.map_eq_some_iff.1 bldSize
  have hB := h.bld (Nat.le_of_lt hbb)
  have HH := Lib.hid h
  obtain ⟨p, v, h1, h2, h3, h4⟩ := h
  rcases h4 with ⟨rfl, rfl⟩ | rfl
  · have h : Lib.BuilderAt 78 5 b b (.pointer none) bs w := by
      rcases hB with h | h
      · exact h
      · exfalso
        obtain ⟨_, v', h5, _⟩ := h
        have := (h1.symm.trans h5)
        simp at this
    have c0 := h.cell0
    have hsh := h.shape
    have f0 := h.frozen0
    have N1 := Lib.hid (Blk.set_ h1 0 (.pointer (some ⟨b, 0, none⟩)))
    have N2 : Hid ((w.setCell ⟨b, 0, none⟩ (.pointer (some ⟨b, 0, none⟩))).ownsRow base 5 1 (.slice none 0 0) bs.length bs) := Lib.hid (World.ownsRow.kept h2 (grown_cell w b 0 _) (.inl rfl))
    have B1 := Lib.hid ((Bw.refl base b w).set 0 (.pointer (some ⟨b, 0, none⟩)))
    have H3 := Lib.hid h3
    clear h HH hB h1 h2 h3
    go_enter Tryd.func48, Tryd.ntmps48
    have r1 := Lib.run_to_unsafe w ⟨b, 0, none⟩ Tryd.underlying76 Tryd.underlying155 hj (by rw [hjs]; decide) hsh (Nat.zero_lt_succ 1)
    have r3 := Lib.run_from_unsafe w ⟨b, 0, none⟩ Tryd.underlying155 Tryd.underlying76 hj hsh bldLies
    clear hsh hjs
    go_wp2
    rw [run_callFunc_extern Tryd.func88 (by kernel_rfl) (by kernel_rfl) (by kernel_rfl) (e := Extern.AbiNoEscape.same) (by kernel_rfl)]
    rw [Lib.run_noEscape]
    simp only [Result.andThen]
    rw [Oper.upon_value]
    go_wp2
    go_end0
    exact ⟨rfl, fun k t cs fr hk _ hb => Blk.far hb hk _, ⟨_, _, N1.out, N2.out, H3.out, .inr rfl⟩, B1.out, _, N1.out, N2.out, H3.out⟩
  · have c0 : w.cell? ⟨b, 0, none⟩ = some (.pointer (some ⟨b, 0, none⟩)) := (h1.cell 0).trans rfl
    have N1 := Lib.hid h1
    have N2 := Lib.hid h2
    have N3 := Lib.hid h3
    clear hB h1 h2 h3
    have r1 := Lib.run_neq_ptr_same w (⟨b, 0, none⟩ : Addr) Tryd.underlying76 hj
    go_enter Tryd.func48, Tryd.ntmps48
    go_wp2
    go_end0
    exact ⟨rfl, Bk.refl _ _, HH.out, Bw.refl _ _ _, _, N1.out, N2.out, N3.out⟩
set_option maxRecDepth 100000 in
set_option maxHeartbeats 1000000 in
theorem bpStr_any (base b : Nat) (bs : List Value) (s : ByteArray) (w : World) (h : BO base b bs w) (hbb : b < base) (hn : bs.length + s.size ≤ 1000000000000) (hB : base ≤ w.heap.size) :
    Calls Tryd.prog 29 #[.pointer (some ⟨b, 0, none⟩), .string s] w fun e w' => e = .returned (.tuple #[.int .i64 s.size, .nilIface]) ∧ Bk b w w' ∧ BO base b (bs ++ Lib.strCells s) w' ∧ Bw base b w w' := by
  obtain ⟨i0, hi, hz0, hz1, hz2⟩ := info_parts bldByte
  have CC := Lib.hid (bpCheck_any base b bs w h hbb)
  clear h
  go_enter Tryd.func29, Tryd.ntmps29
  go_wp2_with fail
  refine CC.out.mono ?_
  rintro e w1 ⟨rfl, hk1, h1, hb1, v, hbk, hown, hne⟩
  obtain ⟨c0, c1⟩ : w1.cell? ⟨b, 0, none⟩ = some (.pointer (some ⟨b, 0, none⟩)) ∧ w1.cell? ⟨b, 1, none⟩ = some v := ⟨by rw [hbk.cell]; rfl, by rw [hbk.cell]; rfl⟩
  go_wp2_with (at_builtin; refine Lib.wpList_append_own_string _ rfl _ _ 25 9 rfl base 5 i0 Tryd.underlying25 Tryd.underlying9 hi hz0 hz1 hz2 _ _ _ rfl hown s rfl (by unfold maxLen; omega) (by omega) (by have := hb1.size; omega) ?_)
  intro v' w2 hown' hgrow hw4
  obtain ⟨ao, n', cap', rfl⟩ : ∃ ao n' cap', v' = .slice ao n' cap' := by
    rcases hown'.2 with ⟨hv, _⟩ | ⟨g, cap, cur, hv, _⟩
    · exact ⟨_, _, _, hv⟩
    · exact ⟨_, _, _, hv⟩
  have hb2 : Blk w2 b 78 #[.pointer (some ⟨b, 0, none⟩), v] := Blk.grown hbk hgrow (fun e => hne e.symm)
  have f1 := hb2.frozen 1
  have d1 : w2.cell? ⟨b, 1, none⟩ = some v := by rw [hb2.cell]; rfl
  have hnb : (Value.slice ao n' cap').ownBlock ≠ some b := by
    intro e
    have := (World.ownsRow.lt hown' b e).1
    omega
  have H2 : Hid (BO base b (bs ++ Lib.strCells s) (w2.setCell ⟨b, 1, none⟩ (.slice ao n' cap'))) := Lib.hid ⟨_, _, Blk.set_ hb2 1 _, World.ownsRow.kept (by simpa [Lib.strCells_length] using hown') (grown_cell w2 b 1 _) (.inr hnb), hnb, .inr rfl⟩
  have B2 := Lib.hid ((hb1.grow hB hgrow (fun g hg => (World.ownsRow.lt hown g hg).1)).set 1 (.slice ao n' cap'))
  have K2 : Hid (Bk b w (w2.setCell ⟨b, 1, none⟩ (.slice ao n' cap'))) := Lib.hid (fun k t cs fr hk ht hb => Blk.far (Blk.grown (hk1 k t cs fr hk ht hb) hgrow (fun e => own_kind hown (hk1 k t cs fr hk ht hb) ht e.symm)) hk _)
  clear hown' hgrow hb2 hown hbk h1 hk1 hb1 CC c0 c1 hi hz0 hz1 hz2 hne hnb hw4
  go_wp2
  go_ret2
  exact ⟨rfl, K2.out, H2.out, B2.out⟩
end Go.Proofs.YtnmgjgeniaheoabDoor
