/- Contracts of package expr's reader, the small calls: take, sign, char, number, name. -/
import Derived.Test.YtmdpgekbiohfbabDoorExpN
import Derived.Test.YtmdpgekbiohfbabDoorSym
import Derived.Test.YtmdpgekbiohfbabDoorStc
import Derived.Deep.QuietTactic
import Derived.BigQuiet
namespace Go.Proofs.YtmdpgekbiohfbabDoor
open Go.ChangeShapes Go.WideShapes Go.ChangeAt Go.RowKit
set_option linter.unusedVariables false

/-- No block but g is another one behind, and none is new. -/
def OnB (g : Nat) (w w' : World) : Prop := w.grownBy w' (some g) ∧ w'.heap.size = w.heap.size
theorem OnB.refl (g : Nat) (w : World) : OnB g w w := ⟨World.grownBy.refl _ _, rfl⟩
theorem OnB.trans {g : Nat} {w w1 w2 : World} (h : OnB g w w1) (h2 : OnB g w1 w2) : OnB g w w2 :=
  ⟨⟨h2.1.os.trans h.1.os, h2.1.tape.trans h.1.tape, h2.1.output.trans h.1.output, by rw [h2.2, h.2]; exact Nat.le_refl _, fun k hk hne => (h2.1.block k (by rw [h.2]; exact hk) hne).trans (h.1.block k hk hne)⟩, h2.2.trans h.2⟩
theorem OnB.set (w : World) (g i : Nat) (u : Value) : OnB g w (w.setCell ⟨g, i, none⟩ u) :=
  ⟨⟨rfl, rfl, rfl, by simp, fun k _ hk => Below.heap_setCell w _ u k (fun e => hk (by rw [e]))⟩, by simp⟩
theorem OnB.blk {g g' : Nat} {w w' : World} {t : TypeId} {cs : Array Value} {fr : Nat × Nat} (h : OnB g w w') (hb : Blk w g' t cs fr) (hn : g' ≠ g) : Blk w' g' t cs fr := (h.1.block g' hb.lt (fun e => hn (by injection e))).trans hb
theorem ext_take (S : ByteArray) (k : Nat) : S.extract 0 k = strOfNums ((nums S).take k) := by
  rw [← nums_str (S.extract 0 k)]
  congr 1
  unfold nums
  rw [ByteArray.data_extract, Array.toList_extract, List.extract_eq_take_drop, List.map_take, List.map_drop]
  simp
theorem ext_drop (S : ByteArray) (k : Nat) : S.extract k S.size = strOfNums ((nums S).drop k) := by
  rw [← nums_str (S.extract k S.size)]
  congr 1
  unfold nums
  have hl : S.data.toList.length = S.size := by rw [Array.length_toList]; rfl
  rw [ByteArray.data_extract, Array.toList_extract, List.extract_eq_take_drop, List.map_take, List.map_drop, List.take_of_length_le (by rw [List.length_drop, List.length_map, hl]; omega)]
theorem ext_one (S : ByteArray) (k : Nat) (h : k < S.size) : S.extract k (k + 1) = strOfNums [iat (nums S) k] := by
  rw [← nums_str (S.extract k (k + 1))]
  congr 1
  have e : nums (S.extract k (k + 1)) = ((nums S).drop k).take 1 := by
    unfold nums
    rw [ByteArray.data_extract, Array.toList_extract, List.extract_eq_take_drop, List.map_take, List.map_drop]
    congr 1
    omega
  rw [e, List.drop_eq_getElem_cons (show k < (nums S).length by rw [nums_len]; exact h), List.take_succ_cons, List.take_zero, iat_eq _ _ (by rw [nums_len]; exact h)]
theorem nums_drop (S : ByteArray) (k : Nat) : nums (strOfNums ((nums S).drop k)) = (nums S).drop k := str_nums _ (BytL.drop (BytL.nums S) k)
theorem size_drop (S : ByteArray) (k : Nat) : (strOfNums ((nums S).drop k)).size = S.size - k := by rw [← nums_len, nums_drop, List.length_drop, nums_len]

/-- A reader in block g: what is still to be read, the address, the names, was the address asked for? -/
def RdX (w : World) (g : Nat) (S : ByteArray) (a : Int) (tp : Option Addr) (p : Bool) : Prop := Blk w g 184 #[.string S, .int .u16 a, .pointer tp, .bool p]
theorem RdX.c {w : World} {g : Nat} {S : ByteArray} {a : Int} {tp : Option Addr} {p : Bool} (h : RdX w g S a tp p) : w.cell? ⟨g, 0, none⟩ = some (.string S) ∧ w.cell? ⟨g, 1, none⟩ = some (.int .u16 a) ∧ w.cell? ⟨g, 2, none⟩ = some (.pointer tp) ∧ w.cell? ⟨g, 3, none⟩ = some (.bool p) := Blk.c4 h
theorem RdX.f {w : World} {g : Nat} {S : ByteArray} {a : Int} {tp : Option Addr} {p : Bool} (h : RdX w g S a tp p) (i : Nat) : w.frozen? ⟨g, i, none⟩ = false := Blk.frozen h i
set_option maxRecDepth 100000 in
set_option maxHeartbeats 1000000 in
theorem exTake_any (w : World) (g : Nat) (S : ByteArray) (a : Int) (tp : Option Addr) (p : Bool) (h : RdX w g S a tp p) (k : Nat) (hk : k ≤ S.size) (hs : S.size ≤ 1099511627776) :
    Calls Tryd.prog 127 #[.pointer (some ⟨g, 0, none⟩), .int .i64 (k : Int)] w fun e w' => e = .returned (.string (strOfNums ((nums S).take k))) ∧ RdX w' g (strOfNums ((nums S).drop k)) a tp p ∧ OnB g w w' := by
  have H := Lib.hid h
  obtain ⟨c0, -, -, -⟩ := h.c
  have f0 := h.f 0
  have k0 : (0 : Int) ≤ (k : Int) := by omega
  have k1 : (k : Int) ≤ (S.size : Int) := by omega
  have e1 := Lib.hid (ext_take S k)
  have e2 := Lib.hid (ext_drop S k)
  clear h
  go_enter Tryd.func127, Tryd.ntmps127
  go_wp2
  go_ret
  refine ⟨by rw [e1.out]; rfl, ?_, OnB.set _ _ _ _⟩
  rw [e2.out]
  exact Blk.set_ H.out 0 _
/-- What stands in front: 43, 45. -/
def sgn (l : List Int) : Bool := decide (0 < l.length) && (decide (iat l 0 = 43) || decide (iat l 0 = 45))
set_option maxRecDepth 100000 in
set_option maxHeartbeats 1000000 in
theorem exSign_any (w : World) (g : Nat) (S : ByteArray) (a : Int) (tp : Option Addr) (p : Bool) (h : RdX w g S a tp p) (hs : S.size ≤ 1099511627776) :
    Calls Tryd.prog 120 #[.pointer (some ⟨g, 0, none⟩)] w fun e w' => OnB g w w' ∧
      ((sgn (nums S) = false ∧ e = .returned (.tuple #[.bool false, .bool false]) ∧ RdX w' g S a tp p) ∨
       (sgn (nums S) = true ∧ e = .returned (.tuple #[.bool (decide (iat (nums S) 0 = 45)), .bool true]) ∧ RdX w' g (strOfNums ((nums S).drop 1)) a tp p)) := by
  have HT := Lib.hid (exTake_any w g S a tp p h 1)
  have H := Lib.hid h
  obtain ⟨c0, -, -, -⟩ := h.c
  have HL := Lib.hid (nums_len S)
  have hb := get_nums S
  clear h
  by_cases he : S.size = 0
  · have HR : Hid (sgn (nums S) = false) := Lib.hid (by unfold sgn; rw [HL.out, he]; rfl)
    obtain rfl : S = ByteArray.empty := ByteArray.size_eq_zero_iff.1 he
    clear hb he
    go_enter Tryd.func120, Tryd.ntmps120
    go_wp2
    go_ret2
    exact ⟨OnB.refl _ _, .inl ⟨HR.out, rfl, H.out⟩⟩
  · have hne := empty_beqS S (by omega)
    have hgt : 0 < S.size := by omega
    obtain ⟨r0, r1⟩ := iat_nums_range S 0
    have HX : Hid (sgn (nums S) = (decide (iat (nums S) 0 = 43) || decide (iat (nums S) 0 = 45))) := Lib.hid (by unfold sgn; rw [HL.out, decide_eq_true hgt, Bool.true_and])
    have HT1 := Lib.hid (HT.out (by omega) hs)
    obtain ⟨x, hx⟩ : ∃ x, iat (nums S) 0 = x := ⟨_, rfl⟩
    rw [hx] at HX r0 r1 ⊢
    have hb0 : ∀ h : 0 < S.size, ((S[0]'h).toNat : Int) = x := fun h => by rw [hb 0 h, hx]
    clear HT hb hx he
    by_cases h43 : x = 43
    · subst h43
      go_enter Tryd.func120, Tryd.ntmps120
      go_wp2_with (go_at_call 127; refine HT1.out.mono ?_; rintro e w' ⟨rfl, h1, h2⟩)
      go_ret2
      exact ⟨h2, .inr ⟨HX.out.trans rfl, rfl, h1⟩⟩
    · by_cases h45 : x = 45
      · subst h45
        go_enter Tryd.func120, Tryd.ntmps120
        go_wp2_with (go_at_call 127; refine HT1.out.mono ?_; rintro e w' ⟨rfl, h1, h2⟩)
        go_ret2
        exact ⟨h2, .inr ⟨HX.out.trans rfl, rfl, h1⟩⟩
      · have b1 : (x != 43) = true := by simpa using h43
        have b2 : (x != 45) = true := by simpa using h45
        have HY := Lib.hid (HX.out.trans (by rw [decide_eq_false h43, decide_eq_false h45]; rfl : _ = false))
        clear h43 h45
        go_enter Tryd.func120, Tryd.ntmps120
        go_wp2
        go_ret2
        exact ⟨OnB.refl _ _, .inl ⟨HY.out, rfl, H.out⟩⟩
set_option maxRecDepth 100000 in
set_option maxHeartbeats 1000000 in
theorem exChar_any (w : World) (g : Nat) (S : ByteArray) (a : Int) (tp : Option Addr) (p : Bool) (h : RdX w g S a tp p) (hs : S.size ≤ 1099511627776) :
    Calls Tryd.prog 129 #[.pointer (some ⟨g, 0, none⟩)] w fun e w' => OnB g w w' ∧
      ((S.size = 0 ∧ e = .returned (.tuple #[.int .u16 0, .int .i64 21]) ∧ RdX w' g S a tp p) ∨
       (0 < S.size ∧ e = .returned (.tuple #[.int .u16 (iat (nums S) 0), .int .i64 0]) ∧ RdX w' g (strOfNums ((nums S).drop 1)) a tp p)) := by
  have HT := Lib.hid (exTake_any w g S a tp p h 1)
  have H := Lib.hid h
  obtain ⟨c0, -, -, -⟩ := h.c
  have hb := get_nums S
  clear h
  by_cases he : S.size = 0
  · obtain rfl : S = ByteArray.empty := ByteArray.size_eq_zero_iff.1 he
    clear hb he
    go_enter Tryd.func129, Tryd.ntmps129
    go_wp2
    go_ret2
    exact ⟨OnB.refl _ _, .inl ⟨rfl, rfl, H.out⟩⟩
  · have hne := empty_beqS S (by omega)
    have hgt : 0 < S.size := by omega
    obtain ⟨r0, r1⟩ := iat_nums_range S 0
    have HT1 := Lib.hid (HT.out (by omega) hs)
    obtain ⟨x, hx⟩ : ∃ x, iat (nums S) 0 = x := ⟨_, rfl⟩
    rw [hx] at r0 r1 ⊢
    have hb0 : ∀ h : 0 < S.size, ((S[0]'h).toNat : Int) = x := fun h => by rw [hb 0 h, hx]
    clear HT hb hx he
    go_enter Tryd.func129, Tryd.ntmps129
    go_wp2_with (go_at_call 127; refine HT1.out.mono ?_; rintro e w' ⟨rfl, h1, h2⟩)
    go_ret2
    exact ⟨h2, .inr ⟨hgt, rfl, h1⟩⟩
theorem one_read (x : Int) (h0 : 0 ≤ x) (h1 : x < 256) : numV 16 16 (nums (strOfNums [x])) = (if valOf x < 16 then valOf x else 0) ∧ numE 16 16 (nums (strOfNums [x])) = (if valOf x < 16 then 0 else 21) := by
  have hv := valOf_range x
  rw [str_nums [x] (by intro y hy; simp at hy; subst hy; exact ⟨h0, h1⟩)]
  by_cases h : valOf x < 16
  · rw [if_pos h, if_pos h]
    have hs : scan 16 [x] 0 = some (valOf x) := by
      unfold scan
      rw [if_neg (by omega)]
      show scan 16 [] _ = _
      unfold scan
      simp
    exact num_some (by simp [chk, allGood, good, h]) hs
  · rw [if_neg h, if_neg h]
    have hc : chk 16 16 [x] = 21 := by simp [chk, allGood, good, h]
    have := num_bad (b := 16) (most := 16) (xs := [x]) (by rw [hc]; decide)
    rw [hc] at this; exact this
/-- Digits that stand here: satV of the first k of them, none above 65535 yet. -/
theorem numT_none {b : Int} {l : List Int} (h : run (good b) l = 0) : (numT b 0 l).v = 0 ∧ (numT b 0 l).e = 21 := by unfold numT; rw [if_pos h]; exact ⟨rfl, rfl⟩
theorem numT_big {b : Int} {l : List Int} (h : run (good b) l ≠ 0) (h2 : satV b (l.take (run (good b) l)) = 65536) : (numT b 0 l).v = 0 ∧ (numT b 0 l).e = 50 := by unfold numT; rw [if_neg h, if_pos (by omega)]; exact ⟨rfl, rfl⟩
theorem numT_ok {b : Int} {l : List Int} {k : Nat} {n : Int} (h : run (good b) l = k) (h0 : k ≠ 0) (h2 : satV b (l.take k) = n) (h3 : n ≤ 65535) : (numT b 0 l).v = n ∧ (numT b 0 l).e = 0 ∧ (numT b 0 l).k = k := by
  subst h; subst h2
  unfold numT; rw [if_neg h0, if_neg (by omega)]; exact ⟨rfl, rfl, by simp⟩
theorem numT_far (b : Int) (f : Nat) (l : List Int) : (numT b f l).v = (numT b 0 l).v ∧ (numT b f l).e = (numT b 0 l).e ∧ ((numT b 0 l).e = 0 → (numT b f l).k = f + (numT b 0 l).k) := by
  unfold numT
  by_cases h : run (good b) l = 0
  · rw [if_pos h, if_pos h]; exact ⟨rfl, rfl, fun h => by simp at h⟩
  · rw [if_neg h, if_neg h]
    by_cases h2 : 65535 < satV b (l.take (run (good b) l))
    · rw [if_pos h2, if_pos h2]; exact ⟨rfl, rfl, fun h => by simp at h⟩
    · rw [if_neg h2, if_neg h2]; exact ⟨rfl, rfl, fun _ => by simp⟩
/-- Behind a call that answers a term's value and error: the reader stands behind it, if there is no error. -/
def ExPost (g : Nat) (w : World) (l : List Int) (a : Int) (tp : Option Addr) (p : Bool) (v e' : Int) (k : Nat) (e : Ending) (w' : World) : Prop :=
  e = .returned (.tuple #[.int .u16 v, .int .i64 e']) ∧ OnB g w w' ∧ ∃ S', RdX w' g S' a tp p ∧ (e' = 0 → S' = strOfNums (l.drop k))
set_option maxRecDepth 100000 in
set_option maxHeartbeats 2000000 in
theorem exNumber2_any (w : World) (g : Nat) (S : ByteArray) (a : Int) (tp : Option Addr) (p : Bool) (h : RdX w g S a tp p) (hs : S.size ≤ 1099511627776) :
    Calls Tryd.prog 128 #[.pointer (some ⟨g, 0, none⟩), .int .u64 2] w (ExPost g w (nums S) a tp p (numT 2 0 (nums S)).v (numT 2 0 (nums S)).e (numT 2 0 (nums S)).k) := by
  have HT := Lib.hid (fun k hk => exTake_any w g S a tp p h k hk hs)
  have H := Lib.hid h
  obtain ⟨c0, -, -, -⟩ := h.c
  have hb := get_nums S
  have HL := Lib.hid (nums_len S)
  have HSL := Lib.hid (fun (u : World) (k : Nat) (hk : k < S.size) => (by
    rw [run_slice_string u 9 S .i64 .i64 _ _ Tryd.underlying9 (by omega) (by omega) (by omega), show (k : Int).toNat = k by omega, show ((k : Int) + 1).toNat = k + 1 by omega, ext_one S k hk] : (Instr.slice 9 (.string S) (some (.int .i64 (k : Int))) (some (.int .i64 ((k : Int) + 1))) none).run Tryd.prog u = .ok (.string (strOfNums [iat (nums S) k])) u))
  clear h
  unfold ExPost
  go_enter Tryd.func128, Tryd.ntmps128
  go_wp2
  go_loop [6, 7] (fun n i => ∃ (k : Nat) (m : Int), k ≤ S.size ∧ i = .int .i64 k ∧ n = .int .u64 m ∧ 0 ≤ m ∧ m ≤ 65535 ∧ Hid (m = satV 2 ((nums S).take k)) ∧ Hid (∀ j, j < k → good 2 (iat (nums S) j) = true)) (fun _ i => S.size - (intOf i).toNat)
  case atStart => exact ⟨0, 0, Nat.zero_le _, rfl, rfl, by omega, by omega, Lib.hid rfl, Lib.hid (fun j hj => absurd hj (by omega))⟩
  case round =>
    obtain ⟨k, m, hk, rfl, rfl, m0, m1, hm, hg⟩ := hrel
    by_cases hlt : k < S.size
    · obtain ⟨r0, r1⟩ := iat_nums_range S k
      have hsl : ∀ u : World, (Instr.slice 9 (.string S) (some (.int .i64 (k : Int))) (some (.int .i64 ((k : Int) + 1))) none).run Tryd.prog u = .ok (.string (strOfNums [iat (nums S) k])) u := fun u => HSL.out u k hlt
      have RD := Lib.hid (fun u => readHex_any (strOfNums [iat (nums S) k]) u (by rw [strOfNums_size]; simp [maxLen]))
      have R1 := Lib.hid (one_read _ r0 r1)
      have hv := valOf_range (iat (nums S) k)
      have HST := Lib.hid (satV_take 2 (nums S) k (by rw [HL.out]; exact hlt))
      obtain ⟨x, hx⟩ : ∃ x, iat (nums S) k = x := ⟨_, rfl⟩
      have HX := Lib.hid hx
      rw [hx] at hsl RD R1 hv HST r0 r1
      clear hx
      by_cases hgo : valOf x < 2
      · have h16 : valOf x < 16 := by omega
        have R2 : Hid (numV 16 16 (nums (strOfNums [x])) = valOf x ∧ numE 16 16 (nums (strOfNums [x])) = 0) := Lib.hid (by have := R1.out; rwa [if_pos h16, if_pos h16] at this)
        have HG' : Hid (∀ j, j < k + 1 → good 2 (iat (nums S) j) = true) := Lib.hid (fun j hj => by
          rcases Nat.lt_or_ge j k with h1 | h1
          · exact hg.out j h1
          · have : j = k := by omega
            subst this
            rw [HX.out]; simp [good, hgo])
        have HM : Hid (satV 2 ((nums S).take (k + 1)) = min (2 * m + valOf x) 65536) := Lib.hid (by rw [HST.out, ← hm.out])
        clear R1 HST
        by_cases hov : 65535 < m * 2 + valOf x
        · have HN : Hid ((numT 2 0 (nums S)).v = 0 ∧ (numT 2 0 (nums S)).e = 50) := Lib.hid (by
            have hrl : k < run (good 2) (nums S) := by
              rcases Nat.lt_or_ge k (run (good 2) (nums S)) with h1 | h1
              · exact h1
              · have h2 := run_stop (good 2) (nums S) (by rw [HL.out]; omega)
                rw [HG'.out _ (by omega)] at h2; cases h2
            refine numT_big (by omega) (satV_over 2 (by omega) _ (k + 1) ?_)
            rw [List.take_take, Nat.min_eq_left (by omega), HM.out]; omega)
          go_wp2_with (go_at_call 134; refine (RD.out _).mono ?_; rintro e w' ⟨rfl, rfl⟩; rw [R2.out.1, R2.out.2])
          go_ret2
          rw [HN.out.1, HN.out.2]
          exact ⟨rfl, OnB.refl _ _, S, H.out, fun h => absurd h (by decide)⟩
        · have HM' : Hid (m * 2 + valOf x = satV 2 ((nums S).take (k + 1))) := Lib.hid (by rw [HM.out]; omega)
          go_wp2_with (go_at_call 134; refine (RD.out _).mono ?_; rintro e w' ⟨rfl, rfl⟩; rw [R2.out.1, R2.out.2])
          go_round
          case rel => exact ⟨k + 1, m * 2 + valOf x, by omega, by go_num, rfl, by omega, by omega, HM', HG'⟩
          case measure => simp [intOf]; omega
      · have HR : Hid (run (good 2) (nums S) = k) := Lib.hid (run_is _ _ _ (by rw [HL.out]; exact hk) hg.out (fun _ => by rw [HX.out]; simp [good, hgo]))
        have hR2 : Hid ((numV 16 16 (nums (strOfNums [x])) = valOf x ∧ numE 16 16 (nums (strOfNums [x])) = 0) ∨ numE 16 16 (nums (strOfNums [x])) = 21) := Lib.hid (by
          have := R1.out
          by_cases h16 : valOf x < 16
          · rw [if_pos h16, if_pos h16] at this; exact .inl this
          · rw [if_neg h16, if_neg h16] at this; exact .inr this.2)
        have hge : 2 ≤ valOf x := by omega
        generalize numV 16 16 (nums (strOfNums [x])) = V at RD hR2
        generalize numE 16 16 (nums (strOfNums [x])) = E at RD hR2
        clear R1 HST
        have HT1 := Lib.hid (HT.out k hk)
        by_cases hk0 : k = 0
        · have HN := Lib.hid (numT_none (HR.out.trans hk0))
          have hkz : ((k : Int) == 0) = true := by simp; omega
          clear hk0
          rcases hR2.out with ⟨rfl, rfl⟩ | rfl
          all_goals
            go_wp2_with (go_at_call 134; refine (RD.out _).mono ?_; rintro e w' ⟨rfl, rfl⟩)
            go_ret2
            rw [HN.out.1, HN.out.2]
            exact ⟨rfl, OnB.refl _ _, S, H.out, fun h => absurd h (by decide)⟩
        · have HN := Lib.hid (numT_ok HR.out hk0 hm.out.symm m1)
          have hkz : ((k : Int) == 0) = false := by simp; omega
          rcases hR2.out with ⟨rfl, rfl⟩ | rfl
          all_goals
            go_wp2_with (first
              | (go_at_call 134; refine (RD.out _).mono ?_; rintro e w' ⟨rfl, rfl⟩)
              | (go_at_call 127; refine HT1.out.mono ?_; rintro e w' ⟨rfl, h1, h2⟩))
            go_ret2
            rw [HN.out.1, HN.out.2.1, HN.out.2.2]
            exact ⟨rfl, h2, _, h1, fun _ => rfl⟩
    · have HR : Hid (run (good 2) (nums S) = k) := Lib.hid (run_is _ _ _ (by rw [HL.out]; exact hk) hg.out (fun h => absurd h (by rw [HL.out]; exact hlt)))
      have HT1 := Lib.hid (HT.out k hk)
      by_cases hk0 : k = 0
      · have HN := Lib.hid (numT_none (HR.out.trans hk0))
        subst hk0
        go_wp2
        go_ret2
        rw [HN.out.1, HN.out.2]
        exact ⟨rfl, OnB.refl _ _, S, H.out, fun h => absurd h (by decide)⟩
      · have HN := Lib.hid (numT_ok HR.out hk0 hm.out.symm m1)
        have hkz : ((k : Int) == 0) = false := by simp; omega
        go_wp2_with (go_at_call 127; refine HT1.out.mono ?_; rintro e w' ⟨rfl, h1, h2⟩)
        go_ret2
        rw [HN.out.1, HN.out.2.1, HN.out.2.2]
        exact ⟨rfl, h2, _, h1, fun _ => rfl⟩
set_option maxRecDepth 100000 in
set_option maxHeartbeats 2000000 in
theorem exNumber10_any (w : World) (g : Nat) (S : ByteArray) (a : Int) (tp : Option Addr) (p : Bool) (h : RdX w g S a tp p) (hs : S.size ≤ 1099511627776) :
    Calls Tryd.prog 128 #[.pointer (some ⟨g, 0, none⟩), .int .u64 10] w (ExPost g w (nums S) a tp p (numT 10 0 (nums S)).v (numT 10 0 (nums S)).e (numT 10 0 (nums S)).k) := by
  have HT := Lib.hid (fun k hk => exTake_any w g S a tp p h k hk hs)
  have H := Lib.hid h
  obtain ⟨c0, -, -, -⟩ := h.c
  have hb := get_nums S
  have HL := Lib.hid (nums_len S)
  have HSL := Lib.hid (fun (u : World) (k : Nat) (hk : k < S.size) => (by
    rw [run_slice_string u 9 S .i64 .i64 _ _ Tryd.underlying9 (by omega) (by omega) (by omega), show (k : Int).toNat = k by omega, show ((k : Int) + 1).toNat = k + 1 by omega, ext_one S k hk] : (Instr.slice 9 (.string S) (some (.int .i64 (k : Int))) (some (.int .i64 ((k : Int) + 1))) none).run Tryd.prog u = .ok (.string (strOfNums [iat (nums S) k])) u))
  clear h
  unfold ExPost
  go_enter Tryd.func128, Tryd.ntmps128
  go_wp2
  go_loop [6, 7] (fun n i => ∃ (k : Nat) (m : Int), k ≤ S.size ∧ i = .int .i64 k ∧ n = .int .u64 m ∧ 0 ≤ m ∧ m ≤ 65535 ∧ Hid (m = satV 10 ((nums S).take k)) ∧ Hid (∀ j, j < k → good 10 (iat (nums S) j) = true)) (fun _ i => S.size - (intOf i).toNat)
  case atStart => exact ⟨0, 0, Nat.zero_le _, rfl, rfl, by omega, by omega, Lib.hid rfl, Lib.hid (fun j hj => absurd hj (by omega))⟩
  case round =>
    obtain ⟨k, m, hk, rfl, rfl, m0, m1, hm, hg⟩ := hrel
    by_cases hlt : k < S.size
    · obtain ⟨r0, r1⟩ := iat_nums_range S k
      have hsl : ∀ u : World, (Instr.slice 9 (.string S) (some (.int .i64 (k : Int))) (some (.int .i64 ((k : Int) + 1))) none).run Tryd.prog u = .ok (.string (strOfNums [iat (nums S) k])) u := fun u => HSL.out u k hlt
      have RD := Lib.hid (fun u => readHex_any (strOfNums [iat (nums S) k]) u (by rw [strOfNums_size]; simp [maxLen]))
      have R1 := Lib.hid (one_read _ r0 r1)
      have hv := valOf_range (iat (nums S) k)
      have HST := Lib.hid (satV_take 10 (nums S) k (by rw [HL.out]; exact hlt))
      obtain ⟨x, hx⟩ : ∃ x, iat (nums S) k = x := ⟨_, rfl⟩
      have HX := Lib.hid hx
      rw [hx] at hsl RD R1 hv HST r0 r1
      clear hx
      by_cases hgo : valOf x < 10
      · have h16 : valOf x < 16 := by omega
        have R2 : Hid (numV 16 16 (nums (strOfNums [x])) = valOf x ∧ numE 16 16 (nums (strOfNums [x])) = 0) := Lib.hid (by have := R1.out; rwa [if_pos h16, if_pos h16] at this)
        have HG' : Hid (∀ j, j < k + 1 → good 10 (iat (nums S) j) = true) := Lib.hid (fun j hj => by
          rcases Nat.lt_or_ge j k with h1 | h1
          · exact hg.out j h1
          · have : j = k := by omega
            subst this
            rw [HX.out]; simp [good, hgo])
        have HM : Hid (satV 10 ((nums S).take (k + 1)) = min (10 * m + valOf x) 65536) := Lib.hid (by rw [HST.out, ← hm.out])
        clear R1 HST
        by_cases hov : 65535 < m * 10 + valOf x
        · have HN : Hid ((numT 10 0 (nums S)).v = 0 ∧ (numT 10 0 (nums S)).e = 50) := Lib.hid (by
            have hrl : k < run (good 10) (nums S) := by
              rcases Nat.lt_or_ge k (run (good 10) (nums S)) with h1 | h1
              · exact h1
              · have h2 := run_stop (good 10) (nums S) (by rw [HL.out]; omega)
                rw [HG'.out _ (by omega)] at h2; cases h2
            refine numT_big (by omega) (satV_over 10 (by omega) _ (k + 1) ?_)
            rw [List.take_take, Nat.min_eq_left (by omega), HM.out]; omega)
          go_wp2_with (go_at_call 134; refine (RD.out _).mono ?_; rintro e w' ⟨rfl, rfl⟩; rw [R2.out.1, R2.out.2])
          go_ret2
          rw [HN.out.1, HN.out.2]
          exact ⟨rfl, OnB.refl _ _, S, H.out, fun h => absurd h (by decide)⟩
        · have HM' : Hid (m * 10 + valOf x = satV 10 ((nums S).take (k + 1))) := Lib.hid (by rw [HM.out]; omega)
          go_wp2_with (go_at_call 134; refine (RD.out _).mono ?_; rintro e w' ⟨rfl, rfl⟩; rw [R2.out.1, R2.out.2])
          go_round
          case rel => exact ⟨k + 1, m * 10 + valOf x, by omega, by go_num, rfl, by omega, by omega, HM', HG'⟩
          case measure => simp [intOf]; omega
      · have HR : Hid (run (good 10) (nums S) = k) := Lib.hid (run_is _ _ _ (by rw [HL.out]; exact hk) hg.out (fun _ => by rw [HX.out]; simp [good, hgo]))
        have hR2 : Hid ((numV 16 16 (nums (strOfNums [x])) = valOf x ∧ numE 16 16 (nums (strOfNums [x])) = 0) ∨ numE 16 16 (nums (strOfNums [x])) = 21) := Lib.hid (by
          have := R1.out
          by_cases h16 : valOf x < 16
          · rw [if_pos h16, if_pos h16] at this; exact .inl this
          · rw [if_neg h16, if_neg h16] at this; exact .inr this.2)
        have hge : 10 ≤ valOf x := by omega
        generalize numV 16 16 (nums (strOfNums [x])) = V at RD hR2
        generalize numE 16 16 (nums (strOfNums [x])) = E at RD hR2
        clear R1 HST
        have HT1 := Lib.hid (HT.out k hk)
        by_cases hk0 : k = 0
        · have HN := Lib.hid (numT_none (HR.out.trans hk0))
          have hkz : ((k : Int) == 0) = true := by simp; omega
          clear hk0
          rcases hR2.out with ⟨rfl, rfl⟩ | rfl
          all_goals
            go_wp2_with (go_at_call 134; refine (RD.out _).mono ?_; rintro e w' ⟨rfl, rfl⟩)
            go_ret2
            rw [HN.out.1, HN.out.2]
            exact ⟨rfl, OnB.refl _ _, S, H.out, fun h => absurd h (by decide)⟩
        · have HN := Lib.hid (numT_ok HR.out hk0 hm.out.symm m1)
          have hkz : ((k : Int) == 0) = false := by simp; omega
          rcases hR2.out with ⟨rfl, rfl⟩ | rfl
          all_goals
            go_wp2_with (first
              | (go_at_call 134; refine (RD.out _).mono ?_; rintro e w' ⟨rfl, rfl⟩)
              | (go_at_call 127; refine HT1.out.mono ?_; rintro e w' ⟨rfl, h1, h2⟩))
            go_ret2
            rw [HN.out.1, HN.out.2.1, HN.out.2.2]
            exact ⟨rfl, h2, _, h1, fun _ => rfl⟩
    · have HR : Hid (run (good 10) (nums S) = k) := Lib.hid (run_is _ _ _ (by rw [HL.out]; exact hk) hg.out (fun h => absurd h (by rw [HL.out]; exact hlt)))
      have HT1 := Lib.hid (HT.out k hk)
      by_cases hk0 : k = 0
      · have HN := Lib.hid (numT_none (HR.out.trans hk0))
        subst hk0
        go_wp2
        go_ret2
        rw [HN.out.1, HN.out.2]
        exact ⟨rfl, OnB.refl _ _, S, H.out, fun h => absurd h (by decide)⟩
      · have HN := Lib.hid (numT_ok HR.out hk0 hm.out.symm m1)
        have hkz : ((k : Int) == 0) = false := by simp; omega
        go_wp2_with (go_at_call 127; refine HT1.out.mono ?_; rintro e w' ⟨rfl, h1, h2⟩)
        go_ret2
        rw [HN.out.1, HN.out.2.1, HN.out.2.2]
        exact ⟨rfl, h2, _, h1, fun _ => rfl⟩
set_option maxRecDepth 100000 in
set_option maxHeartbeats 2000000 in
theorem exNumber16_any (w : World) (g : Nat) (S : ByteArray) (a : Int) (tp : Option Addr) (p : Bool) (h : RdX w g S a tp p) (hs : S.size ≤ 1099511627776) :
    Calls Tryd.prog 128 #[.pointer (some ⟨g, 0, none⟩), .int .u64 16] w (ExPost g w (nums S) a tp p (numT 16 0 (nums S)).v (numT 16 0 (nums S)).e (numT 16 0 (nums S)).k) := by
  have HT := Lib.hid (fun k hk => exTake_any w g S a tp p h k hk hs)
  have H := Lib.hid h
  obtain ⟨c0, -, -, -⟩ := h.c
  have hb := get_nums S
  have HL := Lib.hid (nums_len S)
  have HSL := Lib.hid (fun (u : World) (k : Nat) (hk : k < S.size) => (by
    rw [run_slice_string u 9 S .i64 .i64 _ _ Tryd.underlying9 (by omega) (by omega) (by omega), show (k : Int).toNat = k by omega, show ((k : Int) + 1).toNat = k + 1 by omega, ext_one S k hk] : (Instr.slice 9 (.string S) (some (.int .i64 (k : Int))) (some (.int .i64 ((k : Int) + 1))) none).run Tryd.prog u = .ok (.string (strOfNums [iat (nums S) k])) u))
  clear h
  unfold ExPost
  go_enter Tryd.func128, Tryd.ntmps128
  go_wp2
  go_loop [6, 7] (fun n i => ∃ (k : Nat) (m : Int), k ≤ S.size ∧ i = .int .i64 k ∧ n = .int .u64 m ∧ 0 ≤ m ∧ m ≤ 65535 ∧ Hid (m = satV 16 ((nums S).take k)) ∧ Hid (∀ j, j < k → good 16 (iat (nums S) j) = true)) (fun _ i => S.size - (intOf i).toNat)
  case atStart => exact ⟨0, 0, Nat.zero_le _, rfl, rfl, by omega, by omega, Lib.hid rfl, Lib.hid (fun j hj => absurd hj (by omega))⟩
  case round =>
    obtain ⟨k, m, hk, rfl, rfl, m0, m1, hm, hg⟩ := hrel
    by_cases hlt : k < S.size
    · obtain ⟨r0, r1⟩ := iat_nums_range S k
      have hsl : ∀ u : World, (Instr.slice 9 (.string S) (some (.int .i64 (k : Int))) (some (.int .i64 ((k : Int) + 1))) none).run Tryd.prog u = .ok (.string (strOfNums [iat (nums S) k])) u := fun u => HSL.out u k hlt
      have RD := Lib.hid (fun u => readHex_any (strOfNums [iat (nums S) k]) u (by rw [strOfNums_size]; simp [maxLen]))
      have R1 := Lib.hid (one_read _ r0 r1)
      have hv := valOf_range (iat (nums S) k)
      have HST := Lib.hid (satV_take 16 (nums S) k (by rw [HL.out]; exact hlt))
      obtain ⟨x, hx⟩ : ∃ x, iat (nums S) k = x := ⟨_, rfl⟩
      have HX := Lib.hid hx
      rw [hx] at hsl RD R1 hv HST r0 r1
      clear hx
      by_cases hgo : valOf x < 16
      · have h16 : valOf x < 16 := by omega
        have R2 : Hid (numV 16 16 (nums (strOfNums [x])) = valOf x ∧ numE 16 16 (nums (strOfNums [x])) = 0) := Lib.hid (by have := R1.out; rwa [if_pos h16, if_pos h16] at this)
        have HG' : Hid (∀ j, j < k + 1 → good 16 (iat (nums S) j) = true) := Lib.hid (fun j hj => by
          rcases Nat.lt_or_ge j k with h1 | h1
          · exact hg.out j h1
          · have : j = k := by omega
            subst this
            rw [HX.out]; simp [good, hgo])
        have HM : Hid (satV 16 ((nums S).take (k + 1)) = min (16 * m + valOf x) 65536) := Lib.hid (by rw [HST.out, ← hm.out])
        clear R1 HST
        by_cases hov : 65535 < m * 16 + valOf x
        · have HN : Hid ((numT 16 0 (nums S)).v = 0 ∧ (numT 16 0 (nums S)).e = 50) := Lib.hid (by
            have hrl : k < run (good 16) (nums S) := by
              rcases Nat.lt_or_ge k (run (good 16) (nums S)) with h1 | h1
              · exact h1
              · have h2 := run_stop (good 16) (nums S) (by rw [HL.out]; omega)
                rw [HG'.out _ (by omega)] at h2; cases h2
            refine numT_big (by omega) (satV_over 16 (by omega) _ (k + 1) ?_)
            rw [List.take_take, Nat.min_eq_left (by omega), HM.out]; omega)
          go_wp2_with (go_at_call 134; refine (RD.out _).mono ?_; rintro e w' ⟨rfl, rfl⟩; rw [R2.out.1, R2.out.2])
          go_ret2
          rw [HN.out.1, HN.out.2]
          exact ⟨rfl, OnB.refl _ _, S, H.out, fun h => absurd h (by decide)⟩
        · have HM' : Hid (m * 16 + valOf x = satV 16 ((nums S).take (k + 1))) := Lib.hid (by rw [HM.out]; omega)
          go_wp2_with (go_at_call 134; refine (RD.out _).mono ?_; rintro e w' ⟨rfl, rfl⟩; rw [R2.out.1, R2.out.2])
          go_round
          case rel => exact ⟨k + 1, m * 16 + valOf x, by omega, by go_num, rfl, by omega, by omega, HM', HG'⟩
          case measure => simp [intOf]; omega
      · have HR : Hid (run (good 16) (nums S) = k) := Lib.hid (run_is _ _ _ (by rw [HL.out]; exact hk) hg.out (fun _ => by rw [HX.out]; simp [good, hgo]))
        have hR2 : Hid ((numV 16 16 (nums (strOfNums [x])) = valOf x ∧ numE 16 16 (nums (strOfNums [x])) = 0) ∨ numE 16 16 (nums (strOfNums [x])) = 21) := Lib.hid (by
          have := R1.out
          by_cases h16 : valOf x < 16
          · rw [if_pos h16, if_pos h16] at this; exact .inl this
          · rw [if_neg h16, if_neg h16] at this; exact .inr this.2)
        have hge : 16 ≤ valOf x := by omega
        generalize numV 16 16 (nums (strOfNums [x])) = V at RD hR2
        generalize numE 16 16 (nums (strOfNums [x])) = E at RD hR2
        clear R1 HST
        have HT1 := Lib.hid (HT.out k hk)
        by_cases hk0 : k = 0
        · have HN := Lib.hid (numT_none (HR.out.trans hk0))
          have hkz : ((k : Int) == 0) = true := by simp; omega
          clear hk0
          rcases hR2.out with ⟨rfl, rfl⟩ | rfl
          all_goals
            go_wp2_with (go_at_call 134; refine (RD.out _).mono ?_; rintro e w' ⟨rfl, rfl⟩)
            go_ret2
            rw [HN.out.1, HN.out.2]
            exact ⟨rfl, OnB.refl _ _, S, H.out, fun h => absurd h (by decide)⟩
        · have HN := Lib.hid (numT_ok HR.out hk0 hm.out.symm m1)
          have hkz : ((k : Int) == 0) = false := by simp; omega
          rcases hR2.out with ⟨rfl, rfl⟩ | rfl
          all_goals
            go_wp2_with (first
              | (go_at_call 134; refine (RD.out _).mono ?_; rintro e w' ⟨rfl, rfl⟩)
              | (go_at_call 127; refine HT1.out.mono ?_; rintro e w' ⟨rfl, h1, h2⟩))
            go_ret2
            rw [HN.out.1, HN.out.2.1, HN.out.2.2]
            exact ⟨rfl, h2, _, h1, fun _ => rfl⟩
    · have HR : Hid (run (good 16) (nums S) = k) := Lib.hid (run_is _ _ _ (by rw [HL.out]; exact hk) hg.out (fun h => absurd h (by rw [HL.out]; exact hlt)))
      have HT1 := Lib.hid (HT.out k hk)
      by_cases hk0 : k = 0
      · have HN := Lib.hid (numT_none (HR.out.trans hk0))
        subst hk0
        go_wp2
        go_ret2
        rw [HN.out.1, HN.out.2]
        exact ⟨rfl, OnB.refl _ _, S, H.out, fun h => absurd h (by decide)⟩
      · have HN := Lib.hid (numT_ok HR.out hk0 hm.out.symm m1)
        have hkz : ((k : Int) == 0) = false := by simp; omega
        go_wp2_with (go_at_call 127; refine HT1.out.mono ?_; rintro e w' ⟨rfl, h1, h2⟩)
        go_ret2
        rw [HN.out.1, HN.out.2.1, HN.out.2.2]
        exact ⟨rfl, h2, _, h1, fun _ => rfl⟩
end Go.Proofs.YtmdpgekbiohfbabDoor
