/- Contracts: the document's Cut, the parts of a line. -/
import Derived.Test.YtmdpgekbiohfbaaDoorLxD
import Derived.Deep.DeepCutAuto
import Derived.Deep.CutBlock
import Derived.StillTailTactics
namespace Go.Proofs.YtmdpgekbiohfbaaDoor
open Go.ChangeShapes Go.WideShapes Go.ChangeAt Go.RowKit
set_option linter.unusedVariables false

/-- A text is read up to place k, and all before it is as p wants. -/
def TwAt (p : UInt8 → Bool) (l : List UInt8) (k : Nat) : Prop := l.takeWhile p = l.take k ++ (l.drop k).takeWhile p ∧ l.dropWhile p = (l.drop k).dropWhile p
theorem TwAt.zero (p : UInt8 → Bool) (l : List UInt8) : TwAt p l 0 := ⟨rfl, rfl⟩
theorem TwAt.step {p : UInt8 → Bool} {l : List UInt8} {k : Nat} (h : TwAt p l k) (hk : k < l.length) {x : UInt8} (hx : l[k]'hk = x) (hp : p x = true) : TwAt p l (k + 1) := by
  obtain ⟨h1, h2⟩ := h
  rw [List.drop_eq_getElem_cons hk, hx] at h1 h2
  rw [List.takeWhile_cons_of_pos hp] at h1
  rw [List.dropWhile_cons_of_pos hp] at h2
  refine ⟨?_, h2⟩
  rw [h1, List.take_succ_eq_append_getElem hk, hx, List.append_assoc]; rfl
theorem TwAt.stop {p : UInt8 → Bool} {l : List UInt8} {k : Nat} (h : TwAt p l k) (hk : k < l.length) {x : UInt8} (hx : l[k]'hk = x) (hp : p x = false) : k = (l.takeWhile p).length := by
  obtain ⟨h1, h2⟩ := h
  rw [List.drop_eq_getElem_cons hk, hx, List.takeWhile_cons_of_neg (by simp [hp]), List.append_nil] at h1
  rw [h1, List.length_take]; omega
theorem TwAt.ends {p : UInt8 → Bool} {l : List UInt8} (h : TwAt p l l.length) : l.length = (l.takeWhile p).length := by
  obtain ⟨h1, h2⟩ := h
  rw [List.drop_length, List.take_length] at h1
  rw [h1]; simp
theorem ix_at (l : List UInt8) (k : Nat) (h : k < l.length) {x : UInt8} (hx : l[k]'h = x) (u : World) : (Instr.index 9 (.string (mkS l)) (.int .i64 (k : Int))).run Tryd.prog u = .ok (.int .u8 (x.toNat : Int)) u := by
  have hk : k < (mkS l).size := by rw [mkS_size]; exact h
  go_simp
  first | rw [dif_pos hk, mkS_get l k hk h, hx] | rw [mkS_get l k hk h, hx]
theorem sl_one (l : List UInt8) (k : Nat) (h : k < l.length) {x : UInt8} (hx : l[k]'h = x) (u : World) : (Instr.slice 9 (.string (mkS l)) (some (.int .i64 (k : Int))) (some (.int .i64 ((k : Int) + 1))) none).run Tryd.prog u = .ok (.string (mkS [x])) u := by
  rw [run_slice_string u 9 (mkS l) .i64 .i64 _ _ Tryd.underlying9 (by omega) (by omega) (by rw [mkS_size]; omega), show (k : Int).toNat = k by omega, show ((k : Int) + 1).toNat = k + 1 by omega, mkS_one l k h, hx]
theorem u8_eq (x : UInt8) (n : Nat) (hn : n < 256) (b : Bool) (h : (x == UInt8.ofNat n) = b) : ((x.toNat : Int) == (n : Int)) = b := by
  rw [← h]
  rw [Bool.eq_iff_iff, beq_iff_eq, beq_iff_eq]
  constructor
  · intro e
    apply UInt8.toNat_inj.1
    rw [UInt8.toNat_ofNat_of_lt' hn]; omega
  · intro e
    rw [e, UInt8.toNat_ofNat_of_lt' hn]
/-- As TwAt, from place I of a text on. -/
def TwD (p : UInt8 → Bool) (S : List UInt8) (I k : Nat) : Prop := I ≤ k ∧ TwAt p (S.drop I) (k - I)
theorem TwD.zero (p : UInt8 → Bool) (S : List UInt8) (I : Nat) : TwD p S I I := ⟨Nat.le_refl _, by rw [Nat.sub_self]; exact TwAt.zero _ _⟩
theorem drop_get {S : List UInt8} {I k : Nat} (h : I ≤ k) (hk : k < S.length) {x : UInt8} (hx : S[k]'hk = x) : ∃ h2 : k - I < (S.drop I).length, (S.drop I)[k - I]'h2 = x := by
  refine ⟨by rw [List.length_drop]; omega, ?_⟩
  rw [List.getElem_drop, ← hx]
  congr 1
  omega
theorem TwD.step {p : UInt8 → Bool} {S : List UInt8} {I k : Nat} (h : TwD p S I k) (hk : k < S.length) {x : UInt8} (hx : S[k]'hk = x) (hp : p x = true) : TwD p S I (k + 1) := by
  obtain ⟨h1, h2⟩ := drop_get h.1 hk hx
  refine ⟨by have := h.1; omega, ?_⟩
  rw [show k + 1 - I = k - I + 1 by have := h.1; omega]
  exact h.2.step h1 h2 hp
theorem TwD.stop {p : UInt8 → Bool} {S : List UInt8} {I k : Nat} (h : TwD p S I k) (hk : k < S.length) {x : UInt8} (hx : S[k]'hk = x) (hp : p x = false) : k = I + ((S.drop I).takeWhile p).length := by
  obtain ⟨h1, h2⟩ := drop_get h.1 hk hx
  have := h.2.stop h1 h2 hp
  have := h.1
  omega
theorem TwD.ends {p : UInt8 → Bool} {S : List UInt8} {I : Nat} (h : TwD p S I S.length) : S.length = I + ((S.drop I).takeWhile p).length := by
  have h2 := h.2
  rw [show S.length - I = (S.drop I).length by rw [List.length_drop]] at h2
  have := h2.ends
  rw [List.length_drop] at this
  have := h.1
  omega
theorem dt_step {S : List UInt8} {E k : Nat} (h : E ≤ k) (hk : k < S.length) {x : UInt8} (hx : S[k]'hk = x) : (S.drop E).take (k + 1 - E) = (S.drop E).take (k - E) ++ [x] := by
  obtain ⟨h1, h2⟩ := drop_get h hk hx
  rw [show k + 1 - E = k - E + 1 by omega, List.take_succ_eq_append_getElem h1, h2]
/-- Where the parts end: behind the blanks; behind the operation. -/
theorem lxEnds (S : List UInt8) (I : Nat) (hI : I ≤ S.length) : ∃ E1 E2 : Nat, I ≤ E1 ∧ E1 ≤ S.length ∧ E1 ≤ E2 ∧ E2 ≤ S.length ∧
    E1 = I + ((S.drop I).takeWhile isBl).length ∧ E2 = E1 + ((S.drop E1).takeWhile nBl).length ∧
    lxOp (S.drop I) = ((S.drop E1).take (E2 - E1)).map up8 ∧ lxArg (S.drop I) = (S.drop E2).filter nBl := by
  have a1 := tw_le isBl (S.drop I)
  have a2 := (tw_split isBl (S.drop I)).2
  have e1 : S.drop (I + ((S.drop I).takeWhile isBl).length) = (S.drop I).dropWhile isBl := by rw [← List.drop_drop]; exact a2
  have b1 := tw_le nBl ((S.drop I).dropWhile isBl)
  obtain ⟨b2, b3⟩ := tw_split nBl ((S.drop I).dropWhile isBl)
  have c1 := dw_le isBl (S.drop I)
  have c2 := congrArg List.length e1
  rw [List.length_drop] at a1 c2
  refine ⟨_, _, ?_, ?_, ?_, ?_, rfl, rfl, ?_, ?_⟩
  · omega
  · omega
  · omega
  · rw [e1]; omega
  · rw [e1, show I + ((S.drop I).takeWhile isBl).length + (((S.drop I).dropWhile isBl).takeWhile nBl).length - (I + ((S.drop I).takeWhile isBl).length) = (((S.drop I).dropWhile isBl).takeWhile nBl).length by omega, b2]; rfl
  · rw [← List.drop_drop, e1, b3]; rfl
theorem stOne (w : World) (v : Int) (y : UInt8) (h : (y.toNat : Int) = v) : (convert 47 9 (.slice (some ⟨w.heap.size, 0, none⟩) 1 1)).run Tryd.prog (w.alloc (.cells #[.int .u8 v] 5)) = .ok (.string (mkS [y])) (w.alloc (.cells #[.int .u8 v] 5)) := by
  have hb := bytes_at' (w.alloc (.cells #[.int .u8 v] 5)) w.heap.size 0 1 1 [v] rfl (fun i hi => by
    obtain rfl : i = 0 := by omega
    rw [Nat.zero_add, (Blk.new w 5 #[.int .u8 v] (0, 0)).cell]; rfl)
  rw [hb]
  congr 2
  rw [← h]
  exact str_nmL [y]
set_option maxRecDepth 100000 in
theorem refBlank_any (c : UInt8) (w : World) : Calls Tryd.prog 21 #[.int .u8 (c.toNat : Int)] w fun e w' => e = .returned (.bool (isBl c)) ∧ w = w' := by
  have h1 : ((c.toNat : Int) == 32) = _ := u8_eq c 32 (by decide) _ rfl
  have h2 : ((c.toNat : Int) == 9) = _ := u8_eq c 9 (by decide) _ rfl
  have HB : Hid (isBl c = ((c == UInt8.ofNat 32) || (c == UInt8.ofNat 9))) := Lib.hid rfl
  obtain ⟨p, hp⟩ : ∃ p, (c == UInt8.ofNat 32) = p := ⟨_, rfl⟩
  obtain ⟨q, hq⟩ : ∃ q, (c == UInt8.ofNat 9) = q := ⟨_, rfl⟩
  rw [hp] at h1 HB
  rw [hq] at h2 HB
  clear hp hq
  cases p <;> cases q
  all_goals
    go_enter Tryd.func21, Tryd.ntmps21
    go_wp2
    go_ret
    exact ⟨by rw [HB.out]; rfl, rfl⟩
/-- Two blocks of a line's parts: the answer's, still empty; the line under way. -/
def Lz (t : TypeId) (w W : World) (g : Nat) (a b c : Value) : Prop := Below g w W ∧ Blk W g t #[.string ⟨#[]⟩, .string ⟨#[]⟩, .string ⟨#[]⟩] ∧ Blk W (g + 1) t #[a, b, c]
section
variable {t : TypeId} {w W W' : World} {g : Nat} {a b c : Value}
theorem Lz.step (h : Lz t w W g a b c) (hb : Below W.heap.size W W') : Lz t w W' g a b c :=
  ⟨h.1.trans (hb.mono (Nat.le_of_lt h.2.1.lt)), h.2.1.below hb h.2.1.lt, h.2.2.below hb h.2.2.lt⟩
theorem Lz.alloc (h : Lz t w W g a b c) (o : Obj) : Lz t w (W.alloc o) g a b c := h.step (Below.alloc0 (Below.refl _ _) o)
theorem Lz.drew (h : Lz t w W g a b c) : Lz t w W.drew g a b c := ⟨h.1.drew, h.2.1, h.2.2⟩
theorem Lz.set0 (h : Lz t w W g a b c) (v : Value) : Lz t w (W.setCell ⟨g + 1, 0, none⟩ v) g v b c :=
  ⟨h.1.setCell (by show g ≤ g + 1; omega) _, Blk.far h.2.1 (by show g ≠ g + 1; omega) _, Blk.set_ h.2.2 0 v⟩
theorem Lz.set1 (h : Lz t w W g a b c) (v : Value) : Lz t w (W.setCell ⟨g + 1, 1, none⟩ v) g a v c :=
  ⟨h.1.setCell (by show g ≤ g + 1; omega) _, Blk.far h.2.1 (by show g ≠ g + 1; omega) _, Blk.set_ h.2.2 1 v⟩
theorem Lz.set2 (h : Lz t w W g a b c) (v : Value) : Lz t w (W.setCell ⟨g + 1, 2, none⟩ v) g a b v :=
  ⟨h.1.setCell (by show g ≤ g + 1; omega) _, Blk.far h.2.1 (by show g ≠ g + 1; omega) _, Blk.set_ h.2.2 2 v⟩
end
/-- What stands behind the label; the label. -/
def lxRest (S : List UInt8) : List UInt8 := if lxHas S then lxBeh S else S
def lxLbl (S : List UInt8) : List UInt8 := if lxHas S then lxLab S else []
def lxBad (S : List UInt8) : Bool := lxHas S && !rightL (nmL (lxLab S))
theorem lxCut_eq (l : List UInt8) : lxCut l = if lxBad (l.takeWhile (neB 59)) then lxNo else ⟨lxLbl (l.takeWhile (neB 59)), lxOp (lxRest (l.takeWhile (neB 59))), lxArg (lxRest (l.takeWhile (neB 59))), true⟩ := by
  unfold lxCut lxBad lxLbl lxRest
  cases lxHas (l.takeWhile (neB 59)) <;> cases rightL (nmL (lxLab (l.takeWhile (neB 59)))) <;> rfl
theorem drop_unCo (l : List UInt8) : ∃ k, unCo l = l.drop k ∧ k ≤ l.length := by
  unfold unCo
  split
  · next h =>
    refine ⟨1, rfl, ?_⟩
    cases l with
    | nil => cases h
    | cons a r => simp
  · exact ⟨0, rfl, Nat.zero_le _⟩
theorem lxRest_drop (S : List UInt8) : ∃ k, k ≤ S.length ∧ lxRest S = S.drop k := by
  unfold lxRest
  cases lxHas S
  · exact ⟨0, Nat.zero_le _, rfl⟩
  · obtain ⟨k, h1, h2⟩ := drop_unCo (S.dropWhile nBc)
    have h3 := (tw_split nBc S).2
    have h4 := tw_le nBc S
    refine ⟨(S.takeWhile nBc).length + k, ?_, ?_⟩
    · rw [← h3, List.length_drop] at h2; omega
    · rw [if_pos rfl]; unfold lxBeh; rw [h1, ← h3, List.drop_drop]
theorem drop_inj {S : List UInt8} {a b : Nat} (ha : a ≤ S.length) (hb : b ≤ S.length) (h : S.drop a = S.drop b) : a = b := by
  have := congrArg List.length h
  rw [List.length_drop, List.length_drop] at this; omega
theorem nBc_eq (x : UInt8) : nBc x = !(isBl x || x == 58) := rfl
def lyA (r : Lx) : Array Value := #[.string (mkS r.lab), .string (mkS r.op), .string (mkS r.arg)]
theorem resLy (tmps : Array Value) (W : World) (g : Nat) (cs : Array Value) (h : Blk W g 27 cs) (hc : cs.size = 3) (h2 : tmps.getD 2 undef = .pointer (some ⟨g, 0, none⟩)) (c : Bool) (h3 : tmps.getD 3 undef = .bool c) :
    (results Tryd.f6 tmps).run Tryd.prog W = .ok (.tuple #[.agg cs, .bool c]) W := by
  have hi : (Tryd.prog.info? 27).map (·.size) = some cs.size := by rw [hc]; kernel_rfl
  have hld := run_loadVar_row (P := Tryd.prog) W g 27 27 cs (0, 0) _ h Tryd.underlying27 rfl hi
  have h2' : tmps[2]?.getD undef = .pointer (some ⟨g, 0, none⟩) := by simpa using h2
  have h3' : tmps[3]?.getD undef = .bool c := by simpa using h3
  simp [results, Tryd.results6, h2', h3', asAddr, hld]
set_option maxRecDepth 100000 in
set_option maxHeartbeats 8000000 in
theorem refCut_any (l : List UInt8) (hl : l.length ≤ 1000000) (w : World) :
    Calls Tryd.prog 6 #[.string (mkS l)] w fun e w' => e = .returned (.tuple #[.agg (lyA (lxCut l)), .bool (lxCut l).ok]) ∧ Below w.heap.size w w' := by
  have HC := Lib.hid (lxCut_eq l)
  obtain ⟨s1, s2⟩ := tw_split (neB 59) l
  have hle := tw_le (neB 59) l
  obtain ⟨R, hR⟩ : ∃ R, lxCut l = R := ⟨_, rfl⟩
  rw [hR] at HC ⊢
  clear hR
  obtain ⟨N, hN⟩ : ∃ N, (l.takeWhile (neB 59)).length = N := ⟨_, rfl⟩
  obtain ⟨S, hS⟩ : ∃ S, l.takeWhile (neB 59) = S := ⟨_, rfl⟩
  have HS := Lib.hid hS
  have HN := Lib.hid hN
  rw [hN] at s1 hle
  rw [hS] at s1 HC
  have HSN : Hid (S.length = N) := Lib.hid (by rw [← hS]; exact hN)
  have HL := Lib.hid hl
  have e0 : ∀ u, (Instr.slice 9 (.string (mkS l)) none (some (.int .i64 (N : Int))) none).run Tryd.prog u = .ok (.string (mkS S)) u := fun u => by
    rw [← s1]; exact sl_to l N hle u
  have hz : (mkS l).size = l.length := mkS_size l
  obtain ⟨g, hg⟩ : ∃ g, w.heap.size = g := ⟨_, rfl⟩
  have HG := Lib.hid hg
  have HSL : Hid (S.length ≤ 1000000) := Lib.hid (by rw [HSN.out]; omega)
  clear hN hS s1 s2 hle
  go_enter Tryd.func6, Tryd.ntmps6
  go_upto_block 0 with (fail)
  obtain ⟨W0, hW0⟩ : ∃ W0, w.alloc (.cells #[.string ⟨#[]⟩, .string ⟨#[]⟩, .string ⟨#[]⟩] 27) = W0 := ⟨_, rfl⟩
  have Z0 : Hid (Below g w W0 ∧ Blk W0 g 27 #[.string ⟨#[]⟩, .string ⟨#[]⟩, .string ⟨#[]⟩] ∧ W0.heap.size = g + 1) := Lib.hid (by rw [← hW0, ← hg]; exact ⟨Below.alloc0 (Below.refl _ _) _, Blk.new _ _ _ _, by simp⟩)
  rw [hW0]
  clear hW0
  go_cut [4] (fun u4 wx => u4 = .int .i64 (N : Int) ∧ wx = W0)
  case first =>
    go_wp2
    go_loop [4] (fun u4 => ∃ k : Nat, k ≤ l.length ∧ u4 = .int .i64 (k : Int) ∧ Hid (TwAt (neB 59) l k)) (fun u4 => l.length - (intOf u4).toNat)
    case atStart => exact ⟨0, Nat.zero_le _, rfl, Lib.hid (TwAt.zero _ _)⟩
    case round =>
      obtain ⟨k, hk, rfl, HT⟩ := hrel
      have k0 : (0 : Int) ≤ k := by omega
      by_cases hlt : k < l.length
      · obtain ⟨x, hx⟩ : ∃ x : UInt8, l[k]'hlt = x := ⟨_, rfl⟩
        have k1 : (k : Int) < (mkS l).size := by omega
        have ix := fun u => ix_at l k hlt hx u
        cases hp : neB 59 x
        · have HE := Lib.hid (HT.out.stop hlt hx hp)
          have h5 : ((x.toNat : Int) == 59) = true := u8_eq x 59 (by decide) _ (by simpa [neB] using hp)
          clear hp hx
          go_wp2
          go_meet
          case rel => exact ⟨by rw [HE.out, HN.out], rfl⟩
        · have HE := Lib.hid (HT.out.step hlt hx hp)
          have h5 : ((x.toNat : Int) == 59) = false := u8_eq x 59 (by decide) _ (by simpa [neB] using hp)
          clear hp hx
          go_wp2
          go_round
          case rel => exact ⟨k + 1, by omega, by go_num, HE⟩
          case measure => simp [intOf]; omega
      · obtain rfl : k = l.length := by omega
        have k1 : ¬ (l.length : Int) < (mkS l).size := by omega
        have HE := Lib.hid HT.out.ends
        go_wp2
        go_meet
        case rel => exact ⟨by rw [HE.out, HN.out], rfl⟩
  case rest =>
    obtain ⟨rfl, hwx⟩ := hcut
    replace hwx := hwx.symm
    subst hwx
    obtain ⟨I, hI1, hI2⟩ := lxRest_drop S
    obtain ⟨LB, hLB⟩ : ∃ LB, mkS (lxLbl S) = LB := ⟨_, rfl⟩
    obtain ⟨BD, hBD⟩ : ∃ BD, lxBad S = BD := ⟨_, rfl⟩
    have HI := Lib.hid (And.intro hI1 (And.intro hI2 (And.intro hLB hBD)))
    have hzS : (mkS S).size = S.length := mkS_size S
    have hS6 := HSL.out
    have hsz := Z0.out.2.2
    clear hI1 hI2 hLB hBD hz hl
    go_upto_region 7 with (fail)
    obtain ⟨W1, hW1⟩ : ∃ W1, W0.alloc (.cells #[.string ⟨#[]⟩, .string ⟨#[]⟩, .string ⟨#[]⟩] 27) = W1 := ⟨_, rfl⟩
    have Z1 : Hid (Lz 27 w W1 g (.string ⟨#[]⟩) (.string ⟨#[]⟩) (.string ⟨#[]⟩)) := Lib.hid (by
      rw [← hW1]
      refine ⟨Z0.out.1.alloc (by omega) _, Z0.out.2.1.alloc _, ?_⟩
      rw [← hsz]; exact Blk.new _ _ _ _)
    rw [hW1]
    clear hW1 hsz e0
    obtain ⟨HS, hHS⟩ : ∃ HS, lxHas S = HS := ⟨_, rfl⟩
    have HH := Lib.hid hHS
    clear hHS
    go_cut [31] (fun u31 wx => u31 = .bool HS ∧ wx = W1)
    case first =>
      by_cases h0 : S = []
      · have z0 : ¬ (0 : Int) < (S.length : Int) := by rw [h0]; decide
        have HE : Hid (HS = false) := Lib.hid (by rw [← HH.out, h0]; rfl)
        clear h0
        go_wp2
        go_meet
        case rel => exact ⟨by rw [HE.out], rfl⟩
      · obtain ⟨c, r, hcr⟩ : ∃ c r, S = c :: r := by
          cases S with
          | nil => exact absurd rfl h0
          | cons c r => exact ⟨c, r, rfl⟩
        have z0 : (0 : Int) < (S.length : Int) := by rw [hcr]; simp
        have ix : ∀ u, (Instr.index 9 (.string (mkS S)) (.int .i64 0)).run Tryd.prog u = .ok (.int .u8 (c.toNat : Int)) u := fun u => ix_at S 0 (by rw [hcr]; simp) (by subst hcr; rfl) u
        have HE : Hid (HS = !isBl c) := Lib.hid (by rw [← HH.out, hcr]; rfl)
        have CB := Lib.hid (fun u => refBlank_any c u)
        obtain ⟨b, hb⟩ : ∃ b, isBl c = b := ⟨_, rfl⟩
        rw [hb] at CB HE
        clear h0 hcr hb
        go_wp2_with fail
        refine (CB.out _).mono ?_
        rintro e w' ⟨rfl, rfl⟩
        go_wp2
        go_meet
        case rel => exact ⟨by rw [HE.out], rfl⟩
    case rest =>
    obtain ⟨rfl, hwx⟩ := hcut
    replace hwx := hwx.symm
    subst hwx
    go_upto_if 31 with (fail)
    go_cut [6] (fun u6 wx => u6 = .int .i64 (I : Int) ∧ BD = false ∧ Hid (Lz 27 w wx g (.string LB) (.string ⟨#[]⟩) (.string ⟨#[]⟩)))
    case first =>
      cases HS
      · have HE : Hid (I = 0 ∧ mkS [] = LB ∧ false = BD) := Lib.hid (by
          obtain ⟨q1, q2, q3, q4⟩ := HI.out
          unfold lxRest at q2
          unfold lxLbl at q3
          unfold lxBad at q4
          rw [HH.out] at q2 q3 q4
          exact ⟨drop_inj q1 (Nat.zero_le _) (q2.symm.trans (by rw [if_neg (by decide)]; rfl)), q3, q4⟩)
        go_wp2
        go_meet
        case rel => exact ⟨by rw [HE.out.1]; rfl, HE.out.2.2.symm, by rw [← HE.out.2.1]; exact Z1⟩
      · have hh := HH.out
        obtain ⟨s1, s2⟩ := tw_split nBc S
        have hle := tw_le nBc S
        obtain ⟨M, hM⟩ : ∃ M, (S.takeWhile nBc).length = M := ⟨_, rfl⟩
        have HM := Lib.hid hM
        rw [hM] at s1 s2 hle
        have eL : ∀ u, (Instr.slice 9 (.string (mkS S)) none (some (.int .i64 (M : Int))) none).run Tryd.prog u = .ok (.string (mkS (lxLab S))) u := fun u => by
          unfold lxLab
          rw [← s1]; exact sl_to S M hle u
        have HQ : Hid (I ≤ S.length ∧ S.drop I = unCo (S.drop M) ∧ LB = mkS (lxLab S) ∧ BD = !rightL (nmL (lxLab S))) := Lib.hid (by
          obtain ⟨q1, q2, q3, q4⟩ := HI.out
          refine ⟨q1, ?_, ?_, ?_⟩
          · rw [← q2]; unfold lxRest lxBeh; rw [hh, if_pos rfl, s2]
          · rw [← q3]; unfold lxLbl; rw [hh, if_pos rfl]
          · rw [← q4]; unfold lxBad; rw [hh]; rfl)
        have CR := Lib.hid (fun u => refRight_any (mkS (lxLab S)) u)
        rw [nums_mkS] at CR
        clear hh s1 s2 hM
        obtain ⟨LS, hLS⟩ : ∃ LS, mkS (lxLab S) = LS := ⟨_, rfl⟩
        obtain ⟨OK, hOK⟩ : ∃ OK, rightL (nmL (lxLab S)) = OK := ⟨_, rfl⟩
        rw [hLS] at CR HQ
        simp only [hLS] at eL
        rw [hOK] at CR HQ
        clear hLS hOK
        go_upto_block 2 with (fail)
        go_cut [6] (fun u6 wx => u6 = .int .i64 (M : Int) ∧ wx = W1)
        case first =>
          go_wp2
          go_loop [6] (fun u6 => ∃ k : Nat, k ≤ S.length ∧ u6 = .int .i64 (k : Int) ∧ Hid (TwAt nBc S k)) (fun u6 => S.length - (intOf u6).toNat)
          case atStart => exact ⟨0, Nat.zero_le _, rfl, Lib.hid (TwAt.zero _ _)⟩
          case round =>
            obtain ⟨k, hk, rfl, HT⟩ := hrel
            have k0 : (0 : Int) ≤ k := by omega
            by_cases hlt : k < S.length
            · obtain ⟨x, hx⟩ : ∃ x : UInt8, S[k]'hlt = x := ⟨_, rfl⟩
              have k1 : (k : Int) < S.length := by omega
              have ix := fun u => ix_at S k hlt hx u
              have CB := Lib.hid (fun u => refBlank_any x u)
              cases hb : isBl x
              · rw [hb] at CB
                cases h58 : (x == 58)
                · have HE := Lib.hid (HT.out.step hlt hx (by rw [nBc_eq, hb, h58]; rfl))
                  have h5 : ((x.toNat : Int) == 58) = false := u8_eq x 58 (by decide) _ h58
                  clear hb h58 hx
                  go_wp2_with (go_at_call 21; refine (CB.out _).mono ?_; rintro e w' ⟨rfl, rfl⟩)
                  go_round
                  case rel => exact ⟨k + 1, by omega, by go_num, HE⟩
                  case measure => simp [intOf]; omega
                · have HE := Lib.hid (HT.out.stop hlt hx (by rw [nBc_eq, hb, h58]; rfl))
                  have h5 : ((x.toNat : Int) == 58) = true := u8_eq x 58 (by decide) _ h58
                  clear hb h58 hx
                  go_wp2_with (go_at_call 21; refine (CB.out _).mono ?_; rintro e w' ⟨rfl, rfl⟩)
                  go_meet
                  case rel => exact ⟨by rw [HE.out, HM.out], rfl⟩
              · rw [hb] at CB
                have HE := Lib.hid (HT.out.stop hlt hx (by rw [nBc_eq, hb]; rfl))
                clear hb hx
                go_wp2_with (go_at_call 21; refine (CB.out _).mono ?_; rintro e w' ⟨rfl, rfl⟩)
                go_meet
                case rel => exact ⟨by rw [HE.out, HM.out], rfl⟩
            · obtain rfl : k = S.length := by omega
              have k1 : ¬ (S.length : Int) < S.length := by omega
              have HE := Lib.hid HT.out.ends
              go_wp2
              go_meet
              case rel => exact ⟨by rw [HE.out, HM.out], rfl⟩
        case rest =>
          obtain ⟨rfl, hwx⟩ := hcut
          replace hwx := hwx.symm
          subst hwx
          obtain ⟨c0, c1, c2⟩ := Z1.out.2.2.c3s
          have f0 := Z1.out.2.2.frozen 0
          obtain ⟨W2, hW2⟩ : ∃ W2, W1.setCell ⟨g + 1, 0, none⟩ (.string LS) = W2 := ⟨_, rfl⟩
          have Z2 : Hid (Lz 27 w W2 g (.string LS) (.string ⟨#[]⟩) (.string ⟨#[]⟩)) := Lib.hid (by rw [← hW2]; exact Z1.out.set0 _)
          have k0 := Z2.out.2.2.c3s.1
          go_wp2_with fail
          refine (CR.out _).mono ?_
          rintro e w4 ⟨rfl, rfl⟩
          cases OK
          · clear c0 c1 c2 f0 k0 eL
            obtain ⟨d0, d1, d2⟩ := Z2.out.2.1.c3s
            have f0 := Z2.out.2.1.frozen 0
            have f1 := Z2.out.2.1.frozen 1
            have f2 := Z2.out.2.1.frozen 2
            have HV : Hid (R = lxNo) := Lib.hid (by rw [HC.out, HI.out.2.2.2, HQ.out.2.2.2]; rfl)
            go_wp2
            exact bodyPost_ret (v := .tuple #[.agg #[.string ⟨#[]⟩, .string ⟨#[]⟩, .string ⟨#[]⟩], .bool false]) (resLy _ _ g _ (Blk.set3s Z2.out.2.1 _ _ _) rfl rfl false rfl) rfl ⟨by rw [HV.out]; rfl, by rw [HG.out]; exact Below.set3s Z2.out.1 _ _ _⟩
          · have HT : Hid (BD = false ∧ Lz 27 w W2 g (.string LB) (.string ⟨#[]⟩) (.string ⟨#[]⟩)) := Lib.hid ⟨by rw [HQ.out.2.2.2]; rfl, by rw [HQ.out.2.2.1]; exact Z2.out⟩
            have m0 : (0 : Int) ≤ (M : Int) := by omega
            clear c0 c1 c2 f0 k0 eL
            by_cases hlt : M < S.length
            · obtain ⟨y, hy⟩ : ∃ y : UInt8, S[M]'hlt = y := ⟨_, rfl⟩
              have m1 : (M : Int) < S.length := by omega
              have ix := fun u => ix_at S M hlt hy u
              have hd : S.drop M = y :: S.drop (M + 1) := by rw [List.drop_eq_getElem_cons hlt, hy]
              cases h58 : (y == 58)
              · have HE : Hid (M = I) := Lib.hid (by
                  have hq := HQ.out.2.1
                  unfold unCo at hq
                  rw [hd, if_neg (by simpa using h58), ← hd] at hq
                  exact (drop_inj HQ.out.1 (by omega) hq).symm)
                have h5 : ((y.toNat : Int) == 58) = false := u8_eq y 58 (by decide) _ h58
                clear h58 hd hy
                go_wp2
                go_meet
                case rel => exact ⟨by rw [HE.out], HT.out.1, Lib.hid HT.out.2⟩
              · have HE : Hid (M + 1 = I) := Lib.hid (by
                  have hq := HQ.out.2.1
                  unfold unCo at hq
                  rw [hd, if_pos (by simpa using h58)] at hq
                  exact (drop_inj HQ.out.1 (by omega) hq).symm)
                have h5 : ((y.toNat : Int) == 58) = true := u8_eq y 58 (by decide) _ h58
                clear h58 hd hy
                go_wp2
                go_meet
                case rel => exact ⟨by rw [← HE.out]; go_num, HT.out.1, Lib.hid HT.out.2⟩
            · have m1 : ¬ (M : Int) < S.length := by omega
              have HE : Hid (M = I) := Lib.hid (by
                have hq := HQ.out.2.1
                rw [List.drop_eq_nil_of_le (show S.length ≤ M by omega)] at hq
                have hq2 := congrArg List.length hq
                rw [List.length_drop] at hq2
                have := HQ.out.1
                have h0 : (unCo ([] : List UInt8)).length = 0 := rfl
                omega)
              go_wp2
              go_meet
              case rel => exact ⟨by rw [HE.out], HT.out.1, Lib.hid HT.out.2⟩
    case rest =>
    obtain ⟨rfl, hbd, HZ⟩ := hcut
    obtain ⟨E1, E2, x1, x2, x3, x4, x5, x6, x7, x8⟩ := lxEnds S I HI.out.1
    obtain ⟨OP, hOP⟩ : ∃ OP, mkS (lxOp (lxRest S)) = OP := ⟨_, rfl⟩
    obtain ⟨AR, hAR⟩ : ∃ AR, mkS (lxArg (lxRest S)) = AR := ⟨_, rfl⟩
    have HV : Hid (lyA R = #[.string LB, .string OP, .string AR] ∧ R.ok = true) := Lib.hid (by
      rw [HC.out, HI.out.2.2.2, hbd, if_neg (by decide)]
      unfold lyA
      exact ⟨by rw [HI.out.2.2.1, hOP, hAR], rfl⟩)
    have HO : Hid (mkS (((S.drop E1).take (E2 - E1)).map up8) = OP) := Lib.hid (by rw [← hOP, HI.out.2.1, x7])
    have HA : Hid (mkS ((S.drop E2).filter nBl) = AR) := Lib.hid (by rw [← hAR, HI.out.2.1, x8])
    have X5 := Lib.hid x5
    have X6 := Lib.hid x6
    clear x5 x6 x7 x8 hOP hAR hbd
    go_upto_block 4 with (fail)
    go_cut [6] (fun u6 wx => u6 = .int .i64 (E1 : Int) ∧ wx = wc)
    case first =>
      go_wp2
      go_loop [6] (fun u6 => ∃ k : Nat, k ≤ S.length ∧ u6 = .int .i64 (k : Int) ∧ Hid (TwD isBl S I k)) (fun u6 => S.length - (intOf u6).toNat)
      case atStart => exact ⟨I, by omega, rfl, Lib.hid (TwD.zero _ _ _)⟩
      case round =>
        obtain ⟨k, hk, rfl, HT⟩ := hrel
        have k0 : (0 : Int) ≤ k := by omega
        by_cases hlt : k < S.length
        · obtain ⟨x, hx⟩ : ∃ x : UInt8, S[k]'hlt = x := ⟨_, rfl⟩
          have k1 : (k : Int) < S.length := by omega
          have ix := fun u => ix_at S k hlt hx u
          have CB := Lib.hid (fun u => refBlank_any x u)
          cases hb : isBl x
          · rw [hb] at CB
            have HE := Lib.hid (HT.out.stop hlt hx hb)
            clear hb hx
            go_wp2_with (go_at_call 21; refine (CB.out _).mono ?_; rintro e w' ⟨rfl, rfl⟩)
            go_meet
            case rel => exact ⟨by rw [HE.out, ← X5.out], rfl⟩
          · rw [hb] at CB
            have HE := Lib.hid (HT.out.step hlt hx hb)
            clear hb hx
            go_wp2_with (go_at_call 21; refine (CB.out _).mono ?_; rintro e w' ⟨rfl, rfl⟩)
            go_round
            case rel => exact ⟨k + 1, by omega, by go_num, HE⟩
            case measure => simp [intOf]; omega
        · obtain rfl : k = S.length := by omega
          have k1 : ¬ (S.length : Int) < S.length := by omega
          have HE := Lib.hid HT.out.ends
          go_wp2
          go_meet
          case rel => exact ⟨by rw [HE.out, ← X5.out], rfl⟩
    case rest =>
    obtain ⟨rfl, hwx⟩ := hcut
    replace hwx := hwx.symm
    subst hwx
    go_upto_block 6 with (fail)
    go_cut [6] (fun u6 wx => u6 = .int .i64 (E2 : Int) ∧ Hid (Lz 27 w wx g (.string LB) (.string OP) (.string ⟨#[]⟩)))
    case first =>
      go_wp2
      go_loopw [6, 7] (fun u6 u7 wr => ∃ (k : Nat) (B : List UInt8), k ≤ S.length ∧ u6 = .int .i64 (k : Int) ∧ Hid (TwD nBl S E1 k ∧ B = ((S.drop E1).take (k - E1)).map up8) ∧ Hid (Lz 27 w wr g (.string LB) (.string (mkS B)) (.string ⟨#[]⟩))) (fun u6 _ _ => S.length - (intOf u6).toNat)
      case atStart => exact ⟨E1, [], by omega, rfl, Lib.hid ⟨TwD.zero _ _ _, by rw [Nat.sub_self]; rfl⟩, HZ⟩
      case round =>
        obtain ⟨k, B, hk, rfl, HT, HZ1⟩ := hrel
        have k0 : (0 : Int) ≤ k := by omega
        by_cases hlt : k < S.length
        · obtain ⟨x, hx⟩ : ∃ x : UInt8, S[k]'hlt = x := ⟨_, rfl⟩
          have k1 : (k : Int) < S.length := by omega
          have ix := fun u => ix_at S k hlt hx u
          have CB := Lib.hid (fun u => refBlank_any x u)
          cases hb : isBl x
          · rw [hb] at CB
            have HE := Lib.hid (And.intro (HT.out.1.step hlt hx (by unfold nBl; rw [hb]; rfl)) (show B ++ [up8 x] = ((S.drop E1).take (k + 1 - E1)).map up8 by rw [dt_step HT.out.1.1 hlt hx, List.map_append, HT.out.2]; rfl))
            have hBl : B.length ≤ 1000000 := by rw [HT.out.2, List.length_map, List.length_take, List.length_drop]; omega
            have hBs : (mkS B).size = B.length := mkS_size B
            have hap : mkS B ++ mkS [up8 x] = mkS (B ++ [up8 x]) := mkS_app _ _
            have hYs : (mkS [up8 x]).size = 1 := rfl
            obtain ⟨B2, hB2⟩ : ∃ B2, B ++ [up8 x] = B2 := ⟨_, rfl⟩
            rw [hB2] at hap HE
            have hn1 : ¬ 9223372036854775807 < (mkS B).size + (mkS [up8 x]).size := by rw [hBs, hYs]; omega
            have STy := Lib.hid (fun v h => stOne wr v (up8 x) h)
            obtain ⟨c0, c1, c2⟩ := HZ1.out.2.2.c3s
            have FZ := Lib.hid (fun v : Value => And.intro ((HZ1.out.alloc (.cells #[v] 5)).2.2.frozen 1) (HZ1.out.alloc (.cells #[v] 5)).2.2.c3s.2.1)
            have HU1 := Lib.hid (up8_yes x)
            have HU2 := Lib.hid (up8_no x)
            obtain ⟨Y, hY⟩ : ∃ Y, mkS [up8 x] = Y := ⟨_, rfl⟩
            rw [hY] at hap hYs hn1 STy
            have xl := x.toNat_lt
            clear hb hx hB2 hY
            by_cases h1 : 97 ≤ x.toNat
            · by_cases h2 : x.toNat ≤ 122
              · have i1 : (97 : Int) ≤ (x.toNat : Int) := by omega
                have i2 : (x.toNat : Int) ≤ 122 := by omega
                have st := STy.out ((x.toNat : Int) - 32) (by rw [HU1.out h1 h2]; omega)
                obtain ⟨f1, f2⟩ := FZ.out (.int .u8 ((x.toNat : Int) - 32))
                go_wp2_with (go_at_call 21; refine (CB.out _).mono ?_; rintro e w' ⟨rfl, rfl⟩)
                go_roundw
                case rel => exact ⟨k + 1, B2, by omega, by go_num, HE, Lib.hid ((HZ1.out.alloc _).set1 _)⟩
                case measure => simp [intOf]; omega
              · have i1 : (97 : Int) ≤ (x.toNat : Int) := by omega
                have i2 : ¬ (x.toNat : Int) ≤ 122 := by omega
                have st := STy.out (x.toNat : Int) (by rw [HU2.out (fun e => h2 e.2)])
                obtain ⟨f1, f2⟩ := FZ.out (.int .u8 (x.toNat : Int))
                go_wp2_with (go_at_call 21; refine (CB.out _).mono ?_; rintro e w' ⟨rfl, rfl⟩)
                go_roundw
                case rel => exact ⟨k + 1, B2, by omega, by go_num, HE, Lib.hid ((HZ1.out.alloc _).set1 _)⟩
                case measure => simp [intOf]; omega
            · have i1 : ¬ (97 : Int) ≤ (x.toNat : Int) := by omega
              have st := STy.out (x.toNat : Int) (by rw [HU2.out (fun e => h1 e.1)])
              obtain ⟨f1, f2⟩ := FZ.out (.int .u8 (x.toNat : Int))
              go_wp2_with (go_at_call 21; refine (CB.out _).mono ?_; rintro e w' ⟨rfl, rfl⟩)
              go_roundw
              case rel => exact ⟨k + 1, B2, by omega, by go_num, HE, Lib.hid ((HZ1.out.alloc _).set1 _)⟩
              case measure => simp [intOf]; omega
          · rw [hb] at CB
            have HE := Lib.hid (HT.out.1.stop hlt hx (by unfold nBl; rw [hb]; rfl))
            clear hb hx
            go_wp2_with (go_at_call 21; refine (CB.out _).mono ?_; rintro e w' ⟨rfl, rfl⟩)
            go_meet
            case rel => exact ⟨by rw [HE.out, ← X6.out], by rw [← HO.out, show E2 = k by rw [HE.out, ← X6.out], ← HT.out.2]; exact HZ1⟩
        · obtain rfl : k = S.length := by omega
          have k1 : ¬ (S.length : Int) < S.length := by omega
          have HE := Lib.hid HT.out.1.ends
          go_wp2
          go_meet
          case rel => exact ⟨by rw [HE.out, ← X6.out], by rw [← HO.out, show E2 = S.length by rw [HE.out, ← X6.out], ← HT.out.2]; exact HZ1⟩
    case rest =>
    obtain ⟨rfl, HZ2⟩ := hcut
    go_upto_block 8 with (fail)
    go_cut [6] (fun u6 wx => Hid (Lz 27 w wx g (.string LB) (.string OP) (.string AR)))
    case first =>
      go_wp2
      go_loopw [6] (fun u6 wr => ∃ (k : Nat) (B : List UInt8), E2 ≤ k ∧ k ≤ S.length ∧ u6 = .int .i64 (k : Int) ∧ Hid (B = ((S.drop E2).take (k - E2)).filter nBl) ∧ Hid (Lz 27 w wr g (.string LB) (.string OP) (.string (mkS B)))) (fun u6 _ => S.length - (intOf u6).toNat)
      case atStart => exact ⟨E2, [], Nat.le_refl _, by omega, rfl, Lib.hid (by rw [Nat.sub_self]; rfl), HZ2⟩
      case round =>
        obtain ⟨k, B, hEk, hk, rfl, HT, HZ1⟩ := hrel
        have k0 : (0 : Int) ≤ k := by omega
        by_cases hlt : k < S.length
        · obtain ⟨x, hx⟩ : ∃ x : UInt8, S[k]'hlt = x := ⟨_, rfl⟩
          have k1 : (k : Int) < S.length := by omega
          have ix := fun u => ix_at S k hlt hx u
          have CB := Lib.hid (fun u => refBlank_any x u)
          cases hb : isBl x
          · rw [hb] at CB
            have HE := Lib.hid (show B ++ [x] = ((S.drop E2).take (k + 1 - E2)).filter nBl by rw [dt_step hEk hlt hx, List.filter_append, ← HT.out, List.filter_cons_of_pos (by unfold nBl; rw [hb]; rfl)]; rfl)
            have hBl : B.length ≤ 1000000 := by rw [HT.out]; exact Nat.le_trans (List.length_filter_le _ _) (by rw [List.length_take, List.length_drop]; omega)
            have hBs : (mkS B).size = B.length := mkS_size B
            have hap : mkS B ++ mkS [x] = mkS (B ++ [x]) := mkS_app _ _
            have hYs : (mkS [x]).size = 1 := rfl
            obtain ⟨B2, hB2⟩ : ∃ B2, B ++ [x] = B2 := ⟨_, rfl⟩
            rw [hB2] at hap HE
            have hn1 : ¬ 9223372036854775807 < (mkS B).size + (mkS [x]).size := by rw [hBs, hYs]; omega
            have hn2 : ¬ 9223372036854775807 < B.length + 1 := by omega
            have so := fun u => sl_one S k hlt hx u
            have kw : IntKind.i64.wrap ((k : Int) + 1) = (k : Int) + 1 := IntWalk.i64_in _ (by omega)
            obtain ⟨c0, c1, c2⟩ := HZ1.out.2.2.c3s
            have f2 := HZ1.out.2.2.frozen 2
            obtain ⟨d0, d1, d2⟩ := HZ1.out.drew.2.2.c3s
            have e2 := HZ1.out.drew.2.2.frozen 2
            have CBk := Lib.hid (fun u => CB.out u)
            clear hb hx hB2
            go_upto_region 25 with (go_at_call 21; refine (CB.out _).mono ?_; rintro e w' ⟨rfl, rfl⟩)
            refine wp_region_noPanic ?_
            refine wp_region_held_drew (S := (fun _ => True)) (by kernel_rfl) ?_ (fun hH0 => ?_)
            · trivial
            refine wpAnyH_take (i := 0) (oi := ({ dst := some 124, op := Op.fieldAddr 27 (Operand.tmp 5) 2, type := 0, pos := "ref.go:48", after := #[], guard := none } : Oper)) (v := ?_) rfl (by kernel_rfl) (by kernel_rfl) (by kernel_rfl) (fun _ _ _ h => h) (Or.inl ⟨by rfl, ?_⟩) (by assumption) ?_
            rotate_left 1
            · (intro w hSw; (try dsimp only at hSw); go_simp; (try with_reducible rfl))
            (try simp only [Act.put, List.setIfInBounds_toArray, List.set_cons_zero, List.set_cons_succ])
            refine wpAnyH_take (i := 2) (oi := ({ dst := some 126, op := Op.move (Operand.tmp 0), type := 9, pos := "ref.go:48", after := #[], guard := none } : Oper)) (v := ?_) rfl (by kernel_rfl) (by kernel_rfl) (by kernel_rfl) (fun _ _ _ h => h) (Or.inl ⟨by rfl, ?_⟩) (by assumption) ?_
            rotate_left 1
            · (intro w hSw; (try dsimp only at hSw); go_simp; (try with_reducible rfl))
            (try simp only [Act.put, List.setIfInBounds_toArray, List.set_cons_zero, List.set_cons_succ])
            refine wpAnyH_take (i := 3) (oi := ({ dst := some 127, op := Op.move (Operand.tmp 6), type := 3, pos := "ref.go:48", after := #[], guard := none } : Oper)) (v := ?_) rfl (by kernel_rfl) (by kernel_rfl) (by kernel_rfl) (fun _ _ _ h => h) (Or.inl ⟨by rfl, ?_⟩) (by assumption) ?_
            rotate_left 1
            · (intro w hSw; (try dsimp only at hSw); go_simp; (try with_reducible rfl))
            (try simp only [Act.put, List.setIfInBounds_toArray, List.set_cons_zero, List.set_cons_succ])
            refine wpAnyH_take (i := 4) (oi := ({ dst := some 128, op := Op.move (Operand.tmp 6), type := 3, pos := "ref.go:48", after := #[], guard := none } : Oper)) (v := ?_) rfl (by kernel_rfl) (by kernel_rfl) (by kernel_rfl) (fun _ _ _ h => h) (Or.inl ⟨by rfl, ?_⟩) (by assumption) ?_
            rotate_left 1
            · (intro w hSw; (try dsimp only at hSw); go_simp; (try with_reducible rfl))
            (try simp only [Act.put, List.setIfInBounds_toArray, List.set_cons_zero, List.set_cons_succ])
            refine wpAnyH_take (i := 5) (oi := ({ dst := some 129, op := Op.binOp BinOp.add 3 (Operand.tmp 128) (Operand.const (Value.int IntKind.i64 1)) 3, type := 3, pos := "ref.go:48", after := #[{ on := 4, ground := Ground.data }], guard := none } : Oper)) (v := ?_) rfl (by kernel_rfl) (by kernel_rfl) (by kernel_rfl) (fun _ _ _ h => h) (Or.inl ⟨by rfl, ?_⟩) (by assumption) ?_
            rotate_left 1
            · (intro w hSw; (try dsimp only at hSw); go_simp; (try with_reducible rfl))
            (try simp only [Act.put, List.setIfInBounds_toArray, List.set_cons_zero, List.set_cons_succ])
            refine wpAnyH_take (i := 6) (oi := ({ dst := some 130, op := Op.slice 9 (Operand.tmp 126) (some (Operand.tmp 127)) (some (Operand.tmp 129)) none, type := 9, pos := "ref.go:48", after := #[{ on := 2, ground := Ground.data }, { on := 3, ground := Ground.data }, { on := 5, ground := Ground.data }], guard := none } : Oper)) (v := ?_) rfl (by kernel_rfl) (by kernel_rfl) (by kernel_rfl) (fun _ _ _ h => h) (Or.inl ⟨by rfl, ?_⟩) (by assumption) ?_
            rotate_left 1
            · (intro w hSw; (try dsimp only at hSw); go_simp; (try with_reducible rfl))
            (try simp only [Act.put, List.setIfInBounds_toArray, List.set_cons_zero, List.set_cons_succ])
            refine wpAnyH_ready (rs := [1]) (by kernel_rfl) (by simp) ?_
            refine AllReadyH.cons (o := ({ dst := some 125, op := Op.load 9 (Operand.tmp 124), type := 9, pos := "ref.go:48", after := #[{ on := 0, ground := Ground.data }], guard := none } : Oper)) rfl (fun K hK => ?_) ?_
            rotate_left 1
            · exact AllReadyH.nil
            go_simp
            first | (refine hK.out _ _ ?_ (fun hH1 => ?_)) | (go_wp2_with fail; refine hK.out _ _ ?_ (fun hH1 => ?_))
            · trivial
            clear hK K hH0
            (try simp only [Act.put, List.setIfInBounds_toArray, List.set_cons_zero, List.set_cons_succ])
            refine wpAnyH_take (i := 7) (oi := ({ dst := some 131, op := Op.binOp BinOp.add 9 (Operand.tmp 125) (Operand.tmp 130) 9, type := 9, pos := "ref.go:48", after := #[{ on := 1, ground := Ground.data }, { on := 6, ground := Ground.data }], guard := none } : Oper)) (v := ?_) rfl (by kernel_rfl) (by kernel_rfl) (by kernel_rfl) (fun _ _ _ h => h) (Or.inl ⟨by rfl, ?_⟩) (by assumption) ?_
            rotate_left 1
            · (intro w hSw; (try dsimp only at hSw); go_simp; (try with_reducible rfl))
            (try simp only [Act.put, List.setIfInBounds_toArray, List.set_cons_zero, List.set_cons_succ])
            refine wpAnyH_take (i := 8) (oi := ({ dst := some 132, op := Op.fieldAddr 27 (Operand.tmp 5) 2, type := 0, pos := "ref.go:48", after := #[{ on := 0, ground := Ground.phase }, { on := 1, ground := Ground.phase }, { on := 2, ground := Ground.phase }, { on := 3, ground := Ground.phase }, { on := 4, ground := Ground.phase }, { on := 5, ground := Ground.phase }, { on := 6, ground := Ground.phase }, { on := 7, ground := Ground.phase }], guard := none } : Oper)) (v := ?_) rfl (by kernel_rfl) (by kernel_rfl) (by kernel_rfl) (fun _ _ _ h => h) (Or.inl ⟨by rfl, ?_⟩) (by assumption) ?_
            rotate_left 1
            · (intro w hSw; (try dsimp only at hSw); go_simp; (try with_reducible rfl))
            (try simp only [Act.put, List.setIfInBounds_toArray, List.set_cons_zero, List.set_cons_succ])
            refine wpAnyH_ready (rs := [9]) (by kernel_rfl) (by simp) ?_
            refine AllReadyH.cons (o := ({ dst := none, op := Op.store 9 (Operand.tmp 132) (Operand.tmp 131), type := 0, pos := "ref.go:48", after := #[{ on := 8, ground := Ground.data }, { on := 7, ground := Ground.data }, { on := 0, ground := Ground.phase }, { on := 1, ground := Ground.phase }, { on := 2, ground := Ground.phase }, { on := 3, ground := Ground.phase }, { on := 4, ground := Ground.phase }, { on := 5, ground := Ground.phase }, { on := 6, ground := Ground.phase }, { on := 7, ground := Ground.phase }], guard := none } : Oper)) rfl (fun K hK => ?_) ?_
            rotate_left 1
            · exact AllReadyH.nil
            go_simp
            first | (refine hK.out _ _ ?_ (fun hH2 => ?_)) | (go_wp2_with fail; refine hK.out _ _ ?_ (fun hH2 => ?_))
            · trivial
            clear hK K hH1
            (try simp only [Act.put, List.setIfInBounds_toArray, List.set_cons_zero, List.set_cons_succ])
            refine wpAnyH_done (by kernel_rfl) ?_ _
            refine NoPanic.normal ?_
            clear c0 c1 c2 d0 d1 d2 f2 e2 so ix
            go_wp2
            go_roundw
            case rel => exact ⟨k + 1, B2, by omega, by omega, by go_num, HE, Lib.hid (by first | exact (HZ1.out.set2 _).drew | exact HZ1.out.drew.set2 _)⟩
            case measure => simp [intOf]; omega
          · rw [hb] at CB
            have HE := Lib.hid (show B = ((S.drop E2).take (k + 1 - E2)).filter nBl by rw [dt_step hEk hlt hx, List.filter_append, ← HT.out, List.filter_cons_of_neg (by unfold nBl; rw [hb]; decide)]; simp)
            clear hb hx
            go_wp2_with (go_at_call 21; refine (CB.out _).mono ?_; rintro e w' ⟨rfl, rfl⟩)
            go_roundw
            case rel => exact ⟨k + 1, B, by omega, by omega, by go_num, HE, HZ1⟩
            case measure => simp [intOf]; omega
        · obtain rfl : k = S.length := by omega
          have k1 : ¬ (S.length : Int) < S.length := by omega
          have HE : Hid (mkS B = AR) := Lib.hid (by rw [← HA.out, HT.out, List.take_of_length_le (by rw [List.length_drop]; omega)])
          go_wp2
          go_meet
          case rel => rw [← HE.out]; exact HZ1
    case rest =>
    have HZ3 := hcut
    obtain ⟨c0, c1, c2⟩ := HZ3.out.2.2.c3s
    obtain ⟨d0, d1, d2⟩ := HZ3.out.2.1.c3s
    have f0 := HZ3.out.2.1.frozen 0
    have f1 := HZ3.out.2.1.frozen 1
    have f2 := HZ3.out.2.1.frozen 2
    go_wp2
    exact bodyPost_ret (v := .tuple #[.agg #[.string LB, .string OP, .string AR], .bool true]) (resLy _ _ g _ (Blk.set3s HZ3.out.2.1 _ _ _) rfl rfl true rfl) rfl ⟨by rw [HV.out.1, HV.out.2], by rw [HG.out]; exact Below.set3s HZ3.out.1 _ _ _⟩
end Go.Proofs.YtmdpgekbiohfbaaDoor
