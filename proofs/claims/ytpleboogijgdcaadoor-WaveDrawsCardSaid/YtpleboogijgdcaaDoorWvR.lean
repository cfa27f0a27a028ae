/- Wave: records read from the text of lines: wave.Read. -/
import Derived.Test.YtpleboogijgdcaaDoorWvT
namespace Go.Proofs.YtpleboogijgdcaaDoor
open Go.ChangeShapes Go.WideShapes Go.ChangeAt Go.RowKit
set_option linter.unusedVariables false

/-- Cell after cell, from o on. -/
def setsW (b : Nat) : Nat → List Value → World → World
  | _, [], w => w
  | o, v :: vs, w => setsW b (o + 1) vs (w.setCell ⟨b, o, none⟩ v)
theorem setsW_blk {b : Nat} {t : TypeId} {fr : Nat × Nat} : ∀ (vs : List Value) (o : Nat) (w : World) (cs : Array Value), Blk w b t cs fr →
    ∃ cs', Blk (setsW b o vs w) b t cs' fr ∧ cs'.size = cs.size ∧ ∀ q, q < cs.size → cs'[q]? = if o ≤ q ∧ q < o + vs.length then vs[q - o]? else cs[q]?
  | [], o, w, cs, h => ⟨cs, h, rfl, fun q hq => by rw [if_neg (by simp only [List.length_nil]; omega)]⟩
  | v :: vs, o, w, cs, h => by
    obtain ⟨cs', h1, h2, h3⟩ := setsW_blk vs (o + 1) (w.setCell ⟨b, o, none⟩ v) (cs.setIfInBounds o v) (Blk.set_ h o v)
    refine ⟨cs', h1, by simpa using h2, fun q hq => ?_⟩
    rw [h3 q (by simpa using hq), Array.getElem?_setIfInBounds, List.length_cons]
    by_cases e : o = q
    · subst e
      rw [if_neg (by omega), if_pos rfl, if_pos hq, if_pos (by omega), Nat.sub_self]; rfl
    · rw [if_neg e]
      by_cases e2 : o + 1 ≤ q ∧ q < o + 1 + vs.length
      · rw [if_pos e2, if_pos (by omega), show q - o = (q - (o + 1)) + 1 by omega]; rfl
      · rw [if_neg e2, if_neg (by omega)]
theorem setsW_below {n b : Nat} {w0 : World} (hb : n ≤ b) : ∀ (vs : List Value) (o : Nat) (w : World), Below n w0 w → Below n w0 (setsW b o vs w)
  | [], o, w, h => h
  | v :: vs, o, w, h => setsW_below hb vs (o + 1) _ (Below.set0 h hb v)
/-- The row of records under way: its first ones are F. -/
def RBk (w : World) (b N : Nat) (F : List Rc) : Prop := ∃ cur, Blk w b 30 cur ∧ cur.size = N * 9 ∧ ∀ q, q < F.length * 9 → cur[q]? = (eR.cells F)[q]?
theorem RBk.below {w w' : World} {b N : Nat} {F : List Rc} (h : RBk w b N F) (hb : Below w.heap.size w w') : RBk w' b N F := by
  obtain ⟨cur, h1, h2⟩ := h
  exact ⟨cur, Blk.below h1 hb h1.lt, h2⟩
theorem RBk.lt {w : World} {b N : Nat} {F : List Rc} (h : RBk w b N F) : b < w.heap.size := by obtain ⟨cur, h1, _⟩ := h; exact h1.lt
theorem RBk.there {w : World} {b N q : Nat} {F : List Rc} (h : RBk w b N F) (hq : q < N * 9) : (∃ v, w.cell? ⟨b, q, none⟩ = some v) ∧ w.frozen? ⟨b, q, none⟩ = false := by
  obtain ⟨cur, h1, h2, _⟩ := h
  exact ⟨⟨cur[q]'(by omega), by rw [h1.cell]; exact Array.getElem?_eq_getElem (by omega)⟩, h1.frozen q⟩
theorem cellsR_push (F : List Rc) (x : Rc) (q : Nat) : (eR.cells (F ++ [x]))[q]? = if q < F.length * 9 then (eR.cells F)[q]? else (eR.enc x)[q - F.length * 9]? := by
  have e : eR.cells (F ++ [x]) = eR.cells F ++ eR.enc x := by rw [Els.cells_append, Els.cells_cons, Els.cells_nil, List.append_nil]
  have hl : (eR.cells F).length = F.length * 9 := Els.cells_len eR F
  rw [e]
  by_cases hq : q < F.length * 9
  · rw [if_pos hq, List.getElem?_append_left (by omega)]
  · rw [if_neg hq, List.getElem?_append_right (by omega), hl]
theorem RBk.push {w : World} {b N : Nat} {F : List Rc} (x : Rc) (h : RBk w b N F) (hN : F.length < N) : RBk (setsW b (F.length * 9) (eR.enc x) w) b N (F ++ [x]) := by
  obtain ⟨cur, h1, h2, h3⟩ := h
  obtain ⟨cur', g1, g2, g3⟩ := setsW_blk (eR.enc x) (F.length * 9) w cur h1
  refine ⟨cur', g1, by omega, fun q hq => ?_⟩
  rw [List.length_append, List.length_singleton] at hq
  rw [g3 q (by omega), cellsR_push]
  have hl : (eR.enc x).length = 9 := rfl
  by_cases e : q < F.length * 9
  · rw [if_neg (by omega), if_pos e, h3 q e]
  · rw [if_pos (by omega), if_neg e]
theorem RBk.rd {w : World} {b N : Nat} {F : List Rc} (h : RBk w b N F) (hN : F.length = N) (c : Nat) : eR.Rd w (.slice (some ⟨b, 0, none⟩) N c) F := by
  obtain ⟨cur, h1, h2, h3⟩ := h
  subst hN
  refine Els.Rd.blk F cur (0, 0) h1 _ rfl ?_ c
  apply List.ext_getElem?
  intro q
  rw [Array.getElem?_toList]
  have hl : (eR.cells F).length = F.length * 9 := Els.cells_len eR F
  by_cases hq : q < F.length * 9
  · exact h3 q hq
  · rw [Array.getElem?_eq_none (by omega), List.getElem?_eq_none (by omega)]
/-- The records that a text says. -/
def rdB (s : ByteArray) (L i j : Nat) : Bool := iat (nums s) (j * L + 5 + i) == 35
def rdW (s : ByteArray) (L i : Nat) : Rc := ⟨0, 0, rdB s L i 0, rdB s L i 1, rdB s L i 2, rdB s L i 3, rdB s L i 4, rdB s L i 5, rdB s L i 6⟩
def rdF (s : ByteArray) (L n : Nat) : List Rc := (List.range n).map (rdW s L)
theorem rdF_len (s : ByteArray) (L n : Nat) : (rdF s L n).length = n := by simp [rdF]
theorem rdF_next (s : ByteArray) (L n : Nat) : rdF s L (n + 1) = rdF s L n ++ [rdW s L n] := by simp [rdF, List.range_succ]
def wvS (q : Nat → Bool) (k : Nat) : Array Value := #[.bool (decide (0 < k) && q 0), .bool (decide (1 < k) && q 1), .bool (decide (2 < k) && q 2), .bool (decide (3 < k) && q 3), .bool (decide (4 < k) && q 4), .bool (decide (5 < k) && q 5), .bool (decide (6 < k) && q 6)]
theorem wvS_set (q : Nat → Bool) (k : Nat) (h : k < 7) : (wvS q k).setIfInBounds k (.bool (q k)) = wvS q (k + 1) := by
  rcases (show k = 0 ∨ k = 1 ∨ k = 2 ∨ k = 3 ∨ k = 4 ∨ k = 5 ∨ k = 6 by omega) with rfl | rfl | rfl | rfl | rfl | rfl | rfl <;> simp [wvS]
theorem wvS_at (q : Nat → Bool) (k j : Nat) (hj : j < 7) : ∃ v, (wvS q k)[j]? = some v := by
  rcases (show j = 0 ∨ j = 1 ∨ j = 2 ∨ j = 3 ∨ j = 4 ∨ j = 5 ∨ j = 6 by omega) with rfl | rfl | rfl | rfl | rfl | rfl | rfl <;> exact ⟨_, rfl⟩
theorem wvS_7 (s : ByteArray) (L i : Nat) : wvS (rdB s L i) 7 = (rdW s L i).lv := by simp [wvS, rdW]
set_option maxRecDepth 100000 in
theorem wvRec_any (x : Rc) (h0 : x.a = 0) (h1 : x.d = 0) (w : World) : Calls Tryd.prog 13 #[.agg x.lv] w fun e w' => e = .returned (.agg x.cells) ∧ Below w.heap.size w w' := by
  obtain ⟨a, d, r, b1, b2, b3, b4, b5, m⟩ := x
  obtain rfl : a = 0 := h0
  obtain rfl : d = 0 := h1
  go_enter Tryd.func13, Tryd.ntmps13
  go_wp2
  refine bodyPost_ret (v := .agg (⟨0, 0, r, b1, b2, b3, b4, b5, m⟩ : Rc).cells) (by simp [results, Tryd.results13, go_sem]) rfl ⟨rfl, by repeat (first | exact Below.refl _ _ | apply Below.alloc0)⟩
/-- What Read answers. -/
def WvPost (s : ByteArray) (w : World) (e : Ending) (w' : World) : Prop :=
  Below w.heap.size w w' ∧ ((e = .returned (.tuple #[.slice none 0 0, .int .i64 21]) ∧ (s.size / 7 < 6 ∨ wvT (rdF s (s.size / 7) (s.size / 7 - 6)) 7 ≠ s)) ∨
    (6 ≤ s.size / 7 ∧ wvT (rdF s (s.size / 7) (s.size / 7 - 6)) 7 = s ∧ ∃ v, e = .returned (.tuple #[v, .int .i64 0]) ∧ eR.Rd w' v (rdF s (s.size / 7) (s.size / 7 - 6))))
theorem wvMade (w : World) (n : Nat) (hn : n ≤ 1000000) : ∃ cur, (Instr.makeSlice 22 (.int .i64 (n : Int)) (.int .i64 (n : Int))).run Tryd.prog w = .ok (.slice (some ⟨w.heap.size, 0, none⟩) n n) (w.alloc (.cells cur 30)) ∧ cur.size = n * 9 := by
  obtain ⟨i0, hi, hz0, hz1, hz2⟩ := info_parts infoR
  have hr := run_make (P := Tryd.prog) w 22 30 i0 _ Tryd.underlying22 hi hz0 .i64 .i64 n n (by omega) (by omega) (by rw [hz2]; omega) (by omega)
  simp only [Int.toNat_natCast] at hr
  exact ⟨_, hr, by rw [size_madeCells, hz1]⟩
set_option maxRecDepth 100000 in
set_option maxHeartbeats 8000000 in
theorem wvRead_any (s : ByteArray) (w : World) (hs : s.size ≤ 100000) :
    Calls Tryd.prog 5 #[.string s] w (WvPost s w) := by
  obtain ⟨L, hL⟩ : ∃ L, s.size / 7 = L := ⟨_, rfl⟩
  have hL7 : 7 * L ≤ s.size ∧ s.size < 7 * L + 7 := by omega
  unfold WvPost
  rw [hL]
  have t0 : (s.size : Int).tdiv 7 = (L : Int) := by rw [Int.tdiv_eq_ediv_of_nonneg (by omega)]; omega
  by_cases h6 : L < 6
  · clear hL
    go_enter Tryd.func5, Tryd.ntmps5
    go_wp2
    go_ret2
    exact ⟨Below.refl _ _, .inl ⟨rfl, .inl h6⟩⟩
  · obtain ⟨n, hn⟩ : ∃ n, L - 6 = n := ⟨_, rfl⟩
    rw [hn]
    have hLn : L = n + 6 := by omega
    obtain ⟨cur, hmk, hcs⟩ := wvMade w n (by omega)
    have HMK : (Instr.makeSlice 22 (.int .i64 ((L : Int) - 5 - 1)) (.int .i64 ((L : Int) - 5 - 1))).run Tryd.prog w = .ok (.slice (some ⟨w.heap.size, 0, none⟩) n n) (w.alloc (.cells cur 30)) := by
      rw [show (L : Int) - 5 - 1 = (n : Int) by omega]; exact hmk
    obtain ⟨g, hg⟩ : ∃ g, w.heap.size = g := ⟨_, rfl⟩
    have R0 : Hid (RBk (w.alloc (.cells cur 30)) g n (rdF s L 0)) := Lib.hid ⟨cur, by rw [← hg]; exact Blk.new _ _ _ _, hcs, fun q hq => by simp [rdF] at hq⟩
    have W0 : Hid (Below g w (w.alloc (.cells cur 30))) := Lib.hid (by rw [← hg]; exact Below.alloc0 (Below.refl _ _) _)
    have hge : ¬ ((L : Int) - 5 - 1 < 0) := by omega
    have HL7 := Lib.hid hL7
    have HLn := Lib.hid hLn
    rw [hg] at HMK ⊢
    have HG := Lib.hid hg
    have CT := Lib.hid (fun v (F : List Rc) u (q : eR.Rd u v F) (q2 : F.length ≤ 100000) => wvText_any v F u q q2)
    have hn5 : n ≤ 100000 := by omega
    have lb1 : (L : Int) ≤ 100000 := by omega
    have lb2 : (6 : Int) ≤ L := by omega
    clear hL hmk hcs hg hLn hn hL7
    go_enter Tryd.func5, Tryd.ntmps5
    go_wp2
    generalize w.alloc (.cells cur 30) = w1 at R0 W0 ⊢
    go_loopw [22] (fun i wr => ∃ k : Nat, k ≤ n ∧ i = .int .i64 k ∧ Hid (RBk wr g n (rdF s L k)) ∧ Hid (Below g w wr)) (fun i _ => n - (intOf i).toNat)
    case atStart => exact ⟨0, Nat.zero_le _, rfl, R0, W0⟩
    case round =>
      obtain ⟨i, hi, rfl, hR, hW⟩ := hrel
      obtain ⟨wo, rfl⟩ : ∃ wo : World, wo = wr := ⟨_, rfl⟩
      by_cases hlt : i < n
      · have i0 : (0 : Int) ≤ i := by omega
        have i1 : (i : Int) < n := by omega
        have SG := Lib.hid hR.out.lt
        obtain ⟨m, hm⟩ : ∃ m, wo.heap.size = m := ⟨_, rfl⟩
        have L0 : Hid (Blk (wo.alloc (.cells #[.bool false, .bool false, .bool false, .bool false, .bool false, .bool false, .bool false] 39)) m 39 (wvS (rdB s L i) 0)) := Lib.hid (by rw [← hm]; exact Blk.new _ _ _ _)
        have R1 := Lib.hid (hR.out.below (Below.alloc0 (Below.refl _ wo) (.cells #[.bool false, .bool false, .bool false, .bool false, .bool false, .bool false, .bool false] 39)))
        have W1 := Lib.hid (hW.out.alloc (by have := SG.out; omega) (.cells #[.bool false, .bool false, .bool false, .bool false, .bool false, .bool false, .bool false] 39))
        have SGm : Hid (g < m) := Lib.hid (by have := SG.out; omega)
        have HM := Lib.hid hm
        have hb := get_nums s
        have HNX := Lib.hid (rdF_next s L i)
        have RL := Lib.hid (rdF_len s L i)
        go_wp2
        generalize wo.alloc (.cells #[.bool false, .bool false, .bool false, .bool false, .bool false, .bool false, .bool false] 39) = w2 at L0 R1 W1 ⊢
        go_loopw [25] (fun u wr => ∃ j : Nat, j ≤ 7 ∧ u = .int .i64 j ∧ Hid (Blk wr m 39 (wvS (rdB s L i) j)) ∧ Hid (RBk wr g n (rdF s L i)) ∧ Hid (Below g w wr)) (fun u _ => 7 - (intOf u).toNat)
        case atStart => exact ⟨0, Nat.zero_le _, rfl, L0, R1, W1⟩
        case round =>
          obtain ⟨j, hj, rfl, hL, hR2, hW2⟩ := hrel
          by_cases hlt2 : j < 7
          · have j0 : (0 : Int) ≤ j := by omega
            have j1 : (j : Int) < 7 := by omega
            obtain ⟨M, hM⟩ : ∃ M, j * L = M := ⟨_, rfl⟩
            have hmul : (j : Int) * (L : Int) = (M : Int) := by rw [← hM]; exact (Int.natCast_mul j L).symm
            have hM6 : M ≤ 6 * L := by rw [← hM]; exact Nat.mul_le_mul_right L (by omega)
            have hI : M + 5 + i < s.size := by have := HL7.out; have := HLn.out; omega
            obtain ⟨I, hII⟩ : ∃ I, M + 5 + i = I := ⟨_, rfl⟩
            have hadd : (M : Int) + 5 + (i : Int) = (I : Int) := by omega
            have hIs : (I : Int) < s.size := by omega
            have hI0 : (0 : Int) ≤ (I : Int) := by omega
            have hIn : I < s.size := by omega
            have hI6 : (I : Int) ≤ 700000 := by omega
            have hM7 : (M : Int) ≤ 600000 := by omega
            have hM0 : (0 : Int) ≤ (M : Int) := by omega
            have EB : Hid (rdB s L i j = (iat (nums s) I == 35)) := Lib.hid (by unfold rdB; rw [hM, hII])
            have X := wvS_at (rdB s L i) j j hlt2
            obtain ⟨z, hz⟩ := X
            have q0 : wr.cell? ⟨m, j, none⟩ = some z := (hL.out.cell j).trans hz
            have f0 := hL.out.frozen j
            have L2 : Hid (Blk (wr.setCell ⟨m, j, none⟩ (.bool (iat (nums s) I == 35))) m 39 (wvS (rdB s L i) (j + 1))) := Lib.hid (by
              rw [← EB.out, ← wvS_set _ _ hlt2]; exact Blk.set_ hL.out j _)
            have R2 : Hid (RBk (wr.setCell ⟨m, j, none⟩ (.bool (iat (nums s) I == 35))) g n (rdF s L i)) := Lib.hid (by
              obtain ⟨cur, h1, h2⟩ := hR2.out
              exact ⟨cur, Blk.far h1 (by have := SGm.out; show g ≠ m; omega) _, h2⟩)
            have W2 : Hid (Below g w (wr.setCell ⟨m, j, none⟩ (.bool (iat (nums s) I == 35)))) := Lib.hid (Below.set0 hW2.out (by have := SGm.out; omega) _)
            clear hM hII hM6 hI hz
            go_wp2
            go_roundw
            case rel => exact ⟨j + 1, by omega, by go_num, L2, R2, W2⟩
            case measure => simp [intOf]; omega
          · obtain rfl : j = 7 := by omega
            have CX := Lib.hid (fun u => wvRec_any (rdW s L i) rfl rfl u)
            have hL7 := hL.out
            rw [wvS_7] at hL7
            obtain ⟨x, hx⟩ : ∃ x, rdW s L i = x := ⟨_, rfl⟩
            rw [hx] at CX HNX hL7
            clear hx hL
            obtain ⟨p0, p1, p2, p3, p4, p5, p6⟩ := Blk.c7 hL7
            clear hL7
            go_wp2_with fail
            refine (CX.out _).mono ?_
            rintro e w3 ⟨rfl, hb3⟩
            have R3 := Lib.hid (hR2.out.below hb3)
            have W3 := Lib.hid (hW2.out.trans (hb3.mono (by have := hR2.out.lt; omega)))
            have PU := Lib.hid (R3.out.push x (by rw [RL.out]; exact hlt))
            rw [RL.out] at PU
            clear hb3 p0 p1 p2 p3 p4 p5 p6
            obtain ⟨⟨v0, c0⟩, f0⟩ := R3.out.there (q := i * 9) (by omega)
            obtain ⟨⟨v1, c1⟩, f1⟩ := R3.out.there (q := i * 9 + 1) (by omega)
            obtain ⟨⟨v2, c2⟩, f2⟩ := R3.out.there (q := i * 9 + 2) (by omega)
            obtain ⟨⟨v3, c3⟩, f3⟩ := R3.out.there (q := i * 9 + 3) (by omega)
            obtain ⟨⟨v4, c4⟩, f4⟩ := R3.out.there (q := i * 9 + 4) (by omega)
            obtain ⟨⟨v5, c5⟩, f5⟩ := R3.out.there (q := i * 9 + 5) (by omega)
            obtain ⟨⟨v6, c6⟩, f6⟩ := R3.out.there (q := i * 9 + 6) (by omega)
            obtain ⟨⟨v7, c7⟩, f7⟩ := R3.out.there (q := i * 9 + 7) (by omega)
            obtain ⟨⟨v8, c8⟩, f8⟩ := R3.out.there (q := i * 9 + 8) (by omega)
            have WU := Lib.hid (setsW_below (Nat.le_refl g) (eR.enc x) (i * 9) w3 W3.out)
            go_wp2
            go_roundw
            case rel => exact ⟨i + 1, by omega, by go_num, by rw [HNX.out]; exact PU, WU⟩
            case measure => simp [intOf]; omega
      · obtain rfl : i = n := by omega
        have RDx := Lib.hid (hR.out.rd (rdF_len _ _ _) i)
        have CR := Lib.hid (CT.out _ _ wo RDx.out (by rw [rdF_len]; exact hn5))
        obtain ⟨T, hT⟩ : ∃ T, wvT (rdF s L i) 7 = T := ⟨_, rfl⟩
        rw [hT] at CR
        have HT := Lib.hid hT
        have L6 : 6 ≤ L := by omega
        clear hT hR
        go_wp2_with fail
        refine CR.out.mono ?_
        rintro e w3 ⟨rfl, hb3⟩
        have W3 := Lib.hid (hW.out.trans (hb3.mono (by have := hW.out.size; have := HG.out; omega)))
        have RD3 := Lib.hid (RDx.out.below hb3)
        clear hb3
        by_cases hTs : T = s
        · have e1 : (T.toList == s.toList) = true := by rw [hTs]; simp
          have e2 : (T.toList != s.toList) = false := by rw [bne, e1]; rfl
          have E3 := Lib.hid (HT.out.trans hTs)
          clear hTs
          go_wp2
          go_ret2
          exact ⟨W3.out, .inr ⟨L6, E3.out, _, rfl, RD3.out⟩⟩
        · have e1 : (T.toList == s.toList) = false := by
            rw [beq_eq_false_iff_ne]
            intro q
            rw [ByteArray.toList_eq, ByteArray.toList_eq] at q
            exact hTs (ByteArray.ext (Array.toList_inj.1 q))
          have e2 : (T.toList != s.toList) = true := by rw [bne, e1]; rfl
          have E3 := Lib.hid (fun q => hTs (HT.out.symm.trans q))
          clear hTs
          go_wp2
          go_ret2
          exact ⟨W3.out, .inl ⟨rfl, .inr E3.out⟩⟩
end Go.Proofs.YtpleboogijgdcaaDoor
