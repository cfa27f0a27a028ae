/- Contracts of package symbols' table, by the list of what it holds: the names at an address, the nearest. -/
import Derived.Test.YtopkjniegncokaaTbn
namespace Go.Proofs.Ytopkjniegncokaa
open Go.ChangeShapes Go.WideShapes Go.ChangeAt Go.RowKit
set_option linter.unusedVariables false
def lkP (M : PrL) (s : ByteArray) : Int := (lookP M s).getD 0
theorem lkP_range {M : PrL} (h : ∀ p ∈ M, 0 ≤ p.2 ∧ p.2 < 65536 ∧ p.1.size ≤ 100) (s : ByteArray) : 0 ≤ lkP M s ∧ lkP M s < 65536 := by
  unfold lkP
  cases hl : lookP M s with
  | none => decide
  | some v => have := h _ (lookP_mem hl); exact ⟨this.1, this.2.1⟩
theorem TabP.look {u : World} {g n : Nat} {ob : Option Nat} {M : PrL} (h : TabP u g ob n M) (s : ByteArray) (hs : s.size ≤ 100) :
    (Instr.lookup 25 (.map ob) (.string s) false).run Try.prog u = .ok (.int .u16 (lkP M s)) u := by
  have hmax : s.size ≤ maxLen := by unfold maxLen; omega
  obtain ⟨a1, a2, a3⟩ := h
  unfold lkP
  rcases a3 with ⟨b1, rfl, rfl⟩ | ⟨b, D, rfl, b1, b2, b3, b4, b5⟩
  · exact Maps.look_nil false tabLaw Try.underlying25 (tabZero u) (tabKey s hmax)
  · obtain ⟨v, ps, hrun, hv⟩ := b3.lookup tabLaw Try.underlying25 (tabZero u) (plainElem_int Try.underlying23 (by decide)) (tabKey s hmax)
    obtain ⟨c, rfl, hc, hwc⟩ := plainElem_int_inv Try.underlying23 hv
    have hc' := congrArg Prod.fst hc
    dsimp only at hc'
    cases hl : lookP M s with
    | none =>
      rw [Maps.atKey_of_not_has ((b4.2 s).2 hl)] at hc'
      simp only [DataW.lit.injEq, Lit.int.injEq, true_and] at hc'
      subst hc'
      exact hrun
    | some x =>
      rw [((b4.2 s).1 x hl).2] at hc'
      simp only [DataW.lit.injEq, Lit.int.injEq, true_and] at hc'
      subst hc'
      exact hrun
theorem TabP.cell0 {u : World} {g n : Nat} {ob : Option Nat} {M : PrL} (h : TabP u g ob n M) : u.cell? ⟨g, 0, none⟩ = some (.map ob) := by rw [h.blk.cell]; rfl
def atP (M : PrL) (a : Int) (s : ByteArray) : Bool := decide (lkP M s = a)
theorem take_get {α : Type} (l : List α) (k : Nat) (h : k < l.length) : l.take (k + 1) = l.take k ++ [l[k]] := by rw [List.take_succ_eq_append_getElem h]
theorem name_size {M : PrL} (h : ∀ p ∈ M, 0 ≤ p.2 ∧ p.2 < 65536 ∧ p.1.size ≤ 100) (s : ByteArray) (hs : s ∈ srtS (nmsP M)) : s.size ≤ 100 := by
  have := (srt_perm (nmsP M)).mem_iff.1 hs
  obtain ⟨p, hp, rfl⟩ := List.mem_map.1 this
  exact (h p hp).2.2
set_option maxRecDepth 100000 in
set_option maxHeartbeats 2000000 in
theorem symAt_any (w : World) (g n : Nat) (ob : Option Nat) (M : PrL) (h : TabP w g ob n M) (hM : M.length ≤ 1000) (a : Int) :
    Calls Try.prog 15 #[.pointer (some ⟨g, 0, none⟩), .int .u16 a] w fun e w' => ∃ v, e = .returned v ∧ eS.Own 9 w' w.heap.size v ((srtS (nmsP M)).filter (atP M a)) ∧ Below w.heap.size w w' := by
  have CN := Lib.hid (symNames_any w g n ob M h hM)
  have HT := Lib.hid h
  have HN := Lib.hid (name_size h.1)
  have hL : (srtS (nmsP M)).length ≤ 1000 := by rw [srt_len]; unfold nmsP; rw [List.length_map]; exact hM
  generalize srtS (nmsP M) = L at CN HN hL ⊢
  have HL := Lib.hid hL
  clear h hM hL
  go_enter Try.func15, Try.ntmps15
  go_wp2_with fail
  refine CN.out.mono ?_
  rintro e w1 ⟨v, rfl, ho, hb⟩
  obtain ⟨A, c, rfl, hc⟩ := ho.rd.open_
  have HC := Lib.hid hc
  have HB := Lib.hid hb
  have HT1 := Lib.hid (HT.out.below hb)
  obtain ⟨N, hNl⟩ : ∃ N, L.length = N := ⟨_, rfl⟩
  have HNl := Lib.hid hNl
  have XL : (N : Int) ≤ 1000 := by have := HL.out; omega
  rw [hNl]
  clear ho hc hb hNl
  go_wp2
  go_loopw [5, 11] (fun u5 u11 wr => ∃ k : Nat, k ≤ N ∧ u11 = .int .i64 k ∧ eS.Own 9 wr w1.heap.size u5 ((L.take k).filter (atP M a)) ∧ Below w1.heap.size w1 wr) (fun _ u11 _ => N - (intOf u11).toNat)
  case atStart => exact ⟨0, Nat.zero_le _, rfl, World.ownsRow_nil _ _ _ 1, Below.refl _ _⟩
  case round =>
    obtain ⟨k, hk, rfl, ho, hb⟩ := hrel
    have k0 : (0 : Int) ≤ (k : Int) := by omega
    have HO := Lib.hid ho
    have HBk := Lib.hid hb
    have HTk := HT1.out.below hb
    clear ho hb
    by_cases hlt : k < N
    · have hkl : k < L.length := by rw [HNl.out]; exact hlt
      obtain ⟨g1, off, rfl, hg1, hcell⟩ := HC.out (by omega)
      have hk0 := hcell k L[k] (List.getElem?_eq_getElem hkl) 0 (.string L[k]) rfl
      rw [show k * eS.k + 0 = k from by show k * 1 + 0 = k; omega] at hk0
      have hk1 := (HBk.out.cell (p := ⟨g1, off + k, none⟩) hg1).trans hk0
      have HTake := Lib.hid (take_get L k hkl)
      have hsz := HN.out L[k] (List.getElem_mem hkl)
      have hlook := HTk.look L[k] hsz
      have hc0 := HTk.cell0
      have hlt' : (k : Int) < (N : Int) := by omega
      clear hcell hk0 hsz HTk
      obtain ⟨s, hs⟩ : ∃ s, L[k] = s := ⟨_, rfl⟩
      have HF : Hid ((L.take (k + 1)).filter (atP M a) = (L.take k).filter (atP M a) ++ (if lkP M s = a then [s] else [])) := Lib.hid (by
        rw [HTake.out, List.filter_append, hs]
        by_cases e : lkP M s = a
        · rw [if_pos e, List.filter_cons_of_pos (by unfold atP; exact decide_eq_true e)]; rfl
        · rw [if_neg e, List.filter_cons_of_neg (by unfold atP; simpa using e)]; rfl)
      rw [hs] at hk1 hlook
      clear hs HTake hkl
      have HFl : Hid (((L.take k).filter (atP M a)).length ≤ 1000) := Lib.hid (by
        have h1 := List.length_filter_le (atP M a) (L.take k)
        rw [List.length_take] at h1
        have := HL.out
        omega)
      generalize (L.take k).filter (atP M a) = F at HO HF HFl
      generalize hX : lkP M s = x at hlook HF
      clear hX
      by_cases hxa : x = a
      · have hbq : (x == a) = true := by simpa using hxa
        have HF2 : Hid ((L.take (k + 1)).filter (atP M a) = F ++ [s]) := Lib.hid (by rw [HF.out, if_pos hxa])
        clear hxa HF
        go_wp2_with (at_builtin; refine wpList_appS rfl _ _ _ rfl w1.heap.size u5 _ F [s] rfl (Els.Own.alloc HO.out _) rfl (Els.Rd.lit (E := eS) wr 9 [s] #[.string s] 1 rfl rfl 1) (by have := HFl.out; simp; omega) (by have := HBk.out.size; simp; omega) ?_)
        intro v3 w3 h3 hb3 hg3 ho3
        have H3 := Lib.hid h3
        have HB3 := Lib.hid ((Below.alloc0 HBk.out _).trans hb3)
        clear h3 hb3 hg3 ho3
        go_wp2
        go_roundw
        case rel => exact ⟨k + 1, by omega, by go_num, by rw [HF2.out]; exact H3.out, HB3.out⟩
        case measure => simp [intOf]; omega
      · have hbq : (x == a) = false := by simpa using hxa
        have HF2 : Hid ((L.take (k + 1)).filter (atP M a) = F) := Lib.hid (by rw [HF.out, if_neg hxa, List.append_nil])
        clear hxa HF
        go_wp2
        go_roundw
        case rel => exact ⟨k + 1, by omega, by go_num, by rw [HF2.out]; exact HO.out, HBk.out⟩
        case measure => simp [intOf]; omega
    · obtain rfl : k = N := by omega
      have HTk : Hid (L.take k = L) := Lib.hid (by rw [← HNl.out, List.take_length])
      go_wp2
      go_ret
      exact ⟨_, rfl, by rw [HTk.out] at HO; exact HO.out.more HB.out.size, Below.trans0 HB.out HBk.out⟩
/-- The nearest, one name behind the other. -/
def nearStep (M : PrL) (a : Int) (st : ByteArray × Int × Bool) (s : ByteArray) : ByteArray × Int × Bool :=
  if a < lkP M s then st else if !st.2.2 || decide (a - lkP M s < st.2.1) then (s, a - lkP M s, true) else st
def nearF (M : PrL) (a : Int) (l : List ByteArray) : ByteArray × Int × Bool := l.foldl (nearStep M a) (⟨#[]⟩, 0, false)
theorem nearF_snoc (M : PrL) (a : Int) (l : List ByteArray) (s : ByteArray) : nearF M a (l ++ [s]) = nearStep M a (nearF M a l) s := by unfold nearF; rw [List.foldl_append]; rfl
set_option maxRecDepth 100000 in
set_option maxHeartbeats 2000000 in
theorem symNear_any (w : World) (g n : Nat) (ob : Option Nat) (M : PrL) (h : TabP w g ob n M) (hM : M.length ≤ 1000) (a : Int) (a0 : 0 ≤ a) (a1 : a < 65536) :
    Calls Try.prog 11 #[.pointer (some ⟨g, 0, none⟩), .int .u16 a] w fun e w' => e = .returned (.tuple #[.string (nearF M a (srtS (nmsP M))).1, .int .i64 (nearF M a (srtS (nmsP M))).2.1, .bool (nearF M a (srtS (nmsP M))).2.2]) ∧ Below w.heap.size w w' := by
  have CN := Lib.hid (symNames_any w g n ob M h hM)
  have HT := Lib.hid h
  have HN := Lib.hid (name_size h.1)
  have HRg := Lib.hid (lkP_range h.1)
  have hL : (srtS (nmsP M)).length ≤ 1000 := by rw [srt_len]; unfold nmsP; rw [List.length_map]; exact hM
  generalize srtS (nmsP M) = L at CN HN hL ⊢
  have HL := Lib.hid hL
  obtain ⟨R, hR⟩ : ∃ R, nearF M a L = R := ⟨_, rfl⟩
  have HR := Lib.hid hR
  rw [hR]
  clear h hM hL hR
  go_enter Try.func11, Try.ntmps11
  go_wp2_with fail
  refine CN.out.mono ?_
  rintro e w1 ⟨v, rfl, ho, hb⟩
  obtain ⟨A, c, rfl, hc⟩ := ho.rd.open_
  have HC := Lib.hid hc
  have HB := Lib.hid hb
  have HT1 := Lib.hid (HT.out.below hb)
  obtain ⟨N, hNl⟩ : ∃ N, L.length = N := ⟨_, rfl⟩
  have HNl := Lib.hid hNl
  have XL : (N : Int) ≤ 1000 := by have := HL.out; omega
  rw [hNl]
  clear ho hc hb hNl
  go_wp2
  go_loopw [7, 8, 9, 17] (fun u7 u8 u9 u17 wr => ∃ k : Nat, ∃ S D Fd, k ≤ N ∧ u17 = .int .i64 k ∧ u7 = .string S ∧ u8 = .int .i64 D ∧ u9 = .bool Fd ∧ Hid (nearF M a (L.take k) = (S, D, Fd)) ∧ wr = w1) (fun _ _ _ u17 _ => N - (intOf u17).toNat)
  case atStart => exact ⟨0, _, _, _, Nat.zero_le _, rfl, rfl, rfl, rfl, Lib.hid rfl, rfl⟩
  case round =>
    obtain ⟨k, S, D, Fd, hk, rfl, rfl, rfl, rfl, HS, rfl⟩ := hrel
    have k0 : (0 : Int) ≤ (k : Int) := by omega
    by_cases hlt : k < N
    · have hkl : k < L.length := by rw [HNl.out]; exact hlt
      obtain ⟨g1, off, rfl, hg1, hcell⟩ := HC.out (by omega)
      have hk1 := hcell k L[k] (List.getElem?_eq_getElem hkl) 0 (.string L[k]) rfl
      rw [show k * eS.k + 0 = k from by show k * 1 + 0 = k; omega] at hk1
      have hsz := HN.out L[k] (List.getElem_mem hkl)
      have hlook := HT1.out.look L[k] hsz
      have hc0 := HT1.out.cell0
      have hlt' : (k : Int) < (N : Int) := by omega
      obtain ⟨s, hs⟩ : ∃ s, L[k] = s := ⟨_, rfl⟩
      have HF : Hid (nearF M a (L.take (k + 1)) = nearStep M a (S, D, Fd) s) := Lib.hid (by rw [take_get L k hkl, nearF_snoc, HS.out, hs])
      rw [hs] at hk1 hlook
      obtain ⟨x0, x1⟩ := HRg.out s
      clear hcell hsz hs HS hkl
      unfold nearStep at HF
      generalize hX : lkP M s = x at hlook HF x0 x1
      clear hX
      by_cases hxa : a < x
      · have HF2 : Hid (nearF M a (L.take (k + 1)) = (S, D, Fd)) := Lib.hid (by rw [HF.out, if_pos hxa])
        clear HF
        go_wp2
        go_roundw
        case rel => exact ⟨k + 1, S, D, Fd, by omega, by go_num, rfl, rfl, rfl, HF2, by first | rfl | trivial⟩
        case measure => simp [intOf]; omega
      · have w1' : IntKind.u16.wrap (a - x) = a - x := by rw [IntKind.wrap_u16]; omega
        have w2' : IntKind.i64.wrap (a - x) = a - x := IntWalk.i64_in _ (by omega)
        cases Fd
        · have HF2 : Hid (nearF M a (L.take (k + 1)) = (s, a - x, true)) := Lib.hid (by rw [HF.out, if_neg hxa]; rfl)
          clear HF
          go_wp2
          go_roundw
          case rel => exact ⟨k + 1, s, a - x, true, by omega, by go_num, rfl, rfl, rfl, HF2, by first | rfl | trivial⟩
          case measure => simp [intOf]; omega
        · by_cases hd : a - x < D
          · have HF2 : Hid (nearF M a (L.take (k + 1)) = (s, a - x, true)) := Lib.hid (by rw [HF.out, if_neg hxa, if_pos (by simp [hd])])
            clear HF
            go_wp2
            go_roundw
            case rel => exact ⟨k + 1, s, a - x, true, by omega, by go_num, rfl, rfl, rfl, HF2, by first | rfl | trivial⟩
            case measure => simp [intOf]; omega
          · have HF2 : Hid (nearF M a (L.take (k + 1)) = (S, D, true)) := Lib.hid (by rw [HF.out, if_neg hxa, if_neg (by simp; omega)])
            clear HF
            go_wp2
            go_roundw
            case rel => exact ⟨k + 1, S, D, true, by omega, by go_num, rfl, rfl, rfl, HF2, by first | rfl | trivial⟩
            case measure => simp [intOf]; omega
    · obtain rfl : k = N := by omega
      have HTk : Hid (R = (S, D, Fd)) := Lib.hid (by rw [← HR.out, ← HS.out, ← HNl.out, List.take_length])
      go_wp2
      go_ret3
      exact ⟨by have e := HTk.out; clear HTk HR; subst e; rfl, HB.out⟩
end Go.Proofs.Ytopkjniegncokaa
