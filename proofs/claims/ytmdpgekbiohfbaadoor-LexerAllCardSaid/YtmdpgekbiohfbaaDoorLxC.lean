/- Contracts: the pieces of lexer.Cut: upTo, label, capitals, dense. -/
import Derived.Test.YtmdpgekbiohfbaaDoorIxA
import Derived.Test.YtmdpgekbiohfbaaDoorOwn
import Derived.Test.YtmdpgekbiohfbaaDoorSym
import Derived.Lib.ConvBytes
import Derived.Shelf.Strings.SlTrimAscii
namespace Go.Proofs.YtmdpgekbiohfbaaDoor
open Go.ChangeShapes Go.WideShapes Go.ChangeAt Go.RowKit
set_option linter.unusedVariables false

/-- The library's variable internal/bytealg.MaxLen holds some number. -/
def MxL (w : World) : Prop := ∃ m, w.cell? ⟨0, 0, none⟩ = some (.int .i64 m)
theorem MxL.below {w w' : World} (h : MxL w) (hb : Below w.heap.size w w') : MxL w' := by
  obtain ⟨m, hm⟩ := h
  exact ⟨m, (hb.cell (p := ⟨0, 0, none⟩) (cell_lt hm)).trans hm⟩
theorem MxL.of_shaped {w : World} (h : w.ShapedOpen Tryd.prog) : MxL w :=
  cell_of_shapedOpen_int (P := Tryd.prog) (g := 0) (t := 3) (zero := #[.int .i64 0]) h (of_decide_eq_true (by kernel_rfl)) (by kernel_rfl) rfl (by kernel_rfl) (by kernel_rfl) Tryd.underlying3
theorem retSS {a b c d : ByteArray} (h : a = b) (h2 : c = d) : Ending.returned (.tuple #[.string a, .string c]) = .returned (.tuple #[.string b, .string d]) := by rw [h, h2]
theorem retS1 {a b : ByteArray} (h : a = b) : Ending.returned (.string a) = .returned (.string b) := by rw [h]
theorem trimPre_unCo (l : List UInt8) : Lib.trimPrefix l [58] = unCo l := by
  unfold Lib.trimPrefix unCo
  cases l with
  | nil => rfl
  | cons c l =>
    by_cases h : c = 58
    · subst h; simp [Lib.hasPrefix]
    · have h2 : ¬ 58 = c := fun e => h e.symm
      simp [Lib.hasPrefix, h, h2]
set_option maxRecDepth 100000 in
theorem upTo_any (cs : ByteArray) (p : UInt8 → Bool) (hp : ∀ c, p c = !cs.data.toList.contains c) (hc2 : 2 ≤ cs.size) (hc3 : cs.size ≤ 3) (hac : cs.data.toList.all (fun b => decide (b.toNat < 128)) = true) (l : List UInt8) (hl : l.length ≤ 1000000) (w : World) :
    Calls Tryd.prog 18 #[.string (mkS l), .string cs] w fun e w' => e = .returned (.int .i64 ((l.takeWhile p).length : Int)) ∧ Below w.heap.size w w' := by
  have CI := Lib.hid (idxAny_any (mkS l) cs (by rw [mkS_size]; omega) hc2 hc3 hac w)
  rw [mkS_data, idxAny_tw cs.data.toList p hp l] at CI
  have hle := tw_le p l
  have hz : (mkS l).size = l.length := mkS_size l
  clear hac hc2 hc3 hp
  obtain ⟨n, hn⟩ : ∃ n, (l.takeWhile p).length = n := ⟨_, rfl⟩
  rw [hn] at hle CI ⊢
  clear hn
  by_cases h : n = l.length
  · rw [if_pos h] at CI
    have HN := Lib.hid h
    clear h hle
    go_enter Tryd.func18, Tryd.ntmps18
    go_wp2_with (go_at_call 34; refine CI.out.mono ?_; rintro e w' ⟨rfl, hb⟩)
    go_ret
    exact ⟨ret_i (by rw [HN.out]), hb⟩
  · rw [if_neg h] at CI
    have n0 : (0 : Int) ≤ (n : Int) := by omega
    clear h hle
    go_enter Tryd.func18, Tryd.ntmps18
    go_wp2_with (go_at_call 34; refine CI.out.mono ?_; rintro e w' ⟨rfl, hb⟩)
    go_ret
    exact ⟨rfl, hb⟩
theorem upBc (l : List UInt8) (hl : l.length ≤ 1000000) (w : World) : Calls Tryd.prog 18 #[.string (mkS l), .string ⟨#[32, 9, 58]⟩] w fun e w' => e = .returned (.int .i64 ((l.takeWhile nBc).length : Int)) ∧ Below w.heap.size w w' :=
  upTo_any ⟨#[32, 9, 58]⟩ nBc (fun c => by unfold nBc isBc; simp [Bool.or_assoc]; rfl) (by decide) (by decide) (by decide) l hl w
theorem upBl (l : List UInt8) (hl : l.length ≤ 1000000) (w : World) : Calls Tryd.prog 18 #[.string (mkS l), .string ⟨#[32, 9]⟩] w fun e w' => e = .returned (.int .i64 ((l.takeWhile nBl).length : Int)) ∧ Below w.heap.size w w' :=
  upTo_any ⟨#[32, 9]⟩ nBl (fun c => by unfold nBl isBl; simp; rfl) (by decide) (by decide) (by decide) l hl w
set_option maxRecDepth 100000 in
set_option maxHeartbeats 1000000 in
theorem lxLabel_any (l : List UInt8) (hl : l.length ≤ 1000000) (w : World) :
    Calls Tryd.prog 15 #[.string (mkS l)] w fun e w' => e = .returned (.tuple #[.string (mkS (lxLab l)), .string (mkS (lxBeh l))]) ∧ Below w.heap.size w w' := by
  have CU := Lib.hid (upBc l hl w)
  obtain ⟨s1, s2⟩ := tw_split nBc l
  have hle := tw_le nBc l
  have hz : (mkS l).size = l.length := mkS_size l
  have HB : Hid (lxBeh l = unCo (l.drop (l.takeWhile nBc).length)) := Lib.hid (by unfold lxBeh; rw [s2])
  have HA : Hid (lxLab l = l.take (l.takeWhile nBc).length) := Lib.hid (by unfold lxLab; rw [s1])
  obtain ⟨n, hn⟩ : ∃ n, (l.takeWhile nBc).length = n := ⟨_, rfl⟩
  rw [hn] at CU HA HB hle
  have CT := Lib.hid (fun u => Tryd.strings_TrimPrefix (mkS (l.drop n)) ⟨#[58]⟩ u)
  have e1 : (mkS l).extract 0 n = mkS (l.take n) := mkS_take l n
  have e2 : (mkS l).extract n (mkS l).size = mkS (l.drop n) := mkS_drop l n
  have n0 : (0 : Int) ≤ (n : Int) := by omega
  have n1 : (n : Int) ≤ ((mkS l).size : Int) := by omega
  have r1 : ∀ u, (Instr.slice 9 (.string (mkS l)) none (some (.int .i64 (n : Int))) none).run Tryd.prog u = .ok (.string (mkS (l.take n))) u := fun u => by
    go_simp
    first | exact e1 | skip
  have r2 : ∀ u, (Instr.slice 9 (.string (mkS l)) (some (.int .i64 (n : Int))) none none).run Tryd.prog u = .ok (.string (mkS (l.drop n))) u := fun u => by
    go_simp
    first | exact e2 | skip
  clear s1 s2 hn e1 e2
  go_enter Tryd.func15, Tryd.ntmps15
  go_wp2_with (go_at_call 18; refine CU.out.mono ?_; rintro e w1 ⟨rfl, hb⟩)
  have HW := Lib.hid hb
  clear hb
  go_quiet ((go_at_call 27; exact Calls.quiet_of ((CT.out _).mono (fun e w' h => ⟨h.1, 0, h.2⟩))))
  go_wp2
  go_ret2
  exact ⟨retSS (by rw [HA.out]) (by rw [HB.out, ← trimPre_unCo]; rfl), Below.drewN0 HW.out _⟩
theorem conv8B (w : World) (l : List UInt8) :
    ∃ c C m w2, (convert 9 47 (.string (mkS l))).run Tryd.prog w = .ok (.slice (some ⟨w.heap.size, 0, none⟩) l.length c) w2 ∧ Below w.heap.size w w2 ∧ Blk w2 w.heap.size 5 C (m, m + 1) ∧ l.length ≤ m ∧ l.length ≤ C.size ∧ ∀ i (h : i < l.length), C[i]? = some (.int .u8 ((l[i]'h).toNat : Int)) := by
  have hs : (mkS l).size = l.length := mkS_size l
  refine ⟨_, Lib.bytesCells w 5 (mkS l), (Lib.bytesCells w 5 (mkS l)).size, _, by rw [← hs]; exact Lib.run_convert_string_bytes w _ _ _ (mkS l) Tryd.underlying9 Tryd.underlying47 Tryd.underlying5, ?_, Lib.bytesWorld_at_new w _ _, ?_, ?_, ?_⟩
  · exact ⟨rfl, rfl, rfl, by rw [Lib.bytesWorld_size]; omega, fun k hk => Lib.bytesWorld_at_old w _ _ k hk⟩
  · unfold Lib.bytesCells; simp [mkS]
  · unfold Lib.bytesCells; simp [mkS]
  · intro i hi
    unfold Lib.bytesCells
    rw [Array.getElem?_append_left (by rw [Array.size_map]; show i < (mkS l).size; omega)]
    simp [mkS, hi]
/-- What is done of the capitals: the first k. -/
def capK (l : List UInt8) (k : Nat) : List UInt8 := (l.take k).map up8 ++ l.drop k
theorem capK_len (l : List UInt8) (k : Nat) : (capK l k).length = l.length := by
  unfold capK
  rw [List.length_append, List.length_map, List.length_take, List.length_drop]; omega
theorem capK_zero (l : List UInt8) : capK l 0 = l := rfl
theorem capK_all (l : List UInt8) : capK l l.length = l.map up8 := by unfold capK; simp
theorem capK_at (l : List UInt8) (k i : Nat) (hi : i < l.length) : (capK l k)[i]? = some (if i < k then up8 (l[i]'hi) else l[i]'hi) := by
  unfold capK
  by_cases h : i < k
  · rw [List.getElem?_append_left (by rw [List.length_map, List.length_take]; omega), if_pos h]
    simp [h, hi]
  · rw [List.getElem?_append_right (by rw [List.length_map, List.length_take]; omega), if_neg h, List.length_map, List.length_take, List.getElem?_drop]
    rw [show k + (i - min k l.length) = i by omega]
    exact List.getElem?_eq_getElem hi
theorem up8_yes (c : UInt8) (h1 : 97 ≤ c.toNat) (h2 : c.toNat ≤ 122) : ((up8 c).toNat : Int) = (c.toNat : Int) - 97 + 65 := by
  unfold up8
  rw [if_pos ⟨h1, h2⟩, UInt8.toNat_sub_of_le _ _ (by rw [UInt8.le_iff_toNat_le]; show 32 ≤ c.toNat; omega)]
  show ((c.toNat - 32 : Nat) : Int) = _
  omega
theorem up8_no (c : UInt8) (h : ¬ (97 ≤ c.toNat ∧ c.toNat ≤ 122)) : up8 c = c := by unfold up8; rw [if_neg h]
set_option maxRecDepth 100000 in
set_option maxHeartbeats 4000000 in
theorem capitals_any (l : List UInt8) (hl : l.length ≤ 1000000) (w : World) :
    Calls Tryd.prog 19 #[.string (mkS l)] w fun e w' => e = .returned (.string (mkS (l.map up8))) ∧ Below w.heap.size w w' := by
  obtain ⟨c, C, m, w2, hr, hb, hk, hm, hC, hc⟩ := conv8B w l
  have HB := Lib.hid hb
  have HK := Lib.hid hk
  have HC := Lib.hid hc
  have HM := Lib.hid (And.intro hm hC)
  obtain ⟨n, hn⟩ : ∃ n, l.length = n := ⟨_, rfl⟩
  obtain ⟨g, hg⟩ : ∃ g, w.heap.size = g := ⟨_, rfl⟩
  have HG := Lib.hid hg
  simp only [hn, hg] at hr
  rw [hg] at HB HK
  rw [hn] at hl HM
  have HN := Lib.hid hn
  clear hb hk hc hm hC hn hg
  go_enter Tryd.func19, Tryd.ntmps19
  go_wp2
  go_loopw [4, 5, 10] (fun u4 u5 u10 wr => ∃ (k : Nat) (D : Array Value), k ≤ n ∧ u10 = .int .i64 k ∧ Hid (Below g w wr) ∧ Hid (Blk wr g 5 D (m, m + 1)) ∧ Hid (n ≤ D.size ∧ ∀ i, i < n → ∃ x, (capK l k)[i]? = some x ∧ D[i]? = some (.int .u8 (x.toNat : Int)))) (fun _ _ u10 _ => n - (intOf u10).toNat)
  case atStart => exact ⟨0, C, Nat.zero_le _, rfl, HB, HK, Lib.hid ⟨HM.out.2, fun i hi => ⟨l[i]'(by have := HN.out; omega), List.getElem?_eq_getElem _, HC.out i _⟩⟩⟩
  case round =>
    obtain ⟨k, D, hk, rfl, HB1, HK1, HD⟩ := hrel
    by_cases hlt : k < n
    · have hkl : k < l.length := by have := HN.out; omega
      obtain ⟨x, hx⟩ : ∃ x : UInt8, l[k]'hkl = x := ⟨_, rfl⟩
      have k0 : (0 : Int) ≤ k := by omega
      have k1 : (k : Int) < n := by omega
      have cx : wr.cell? ⟨g, k, none⟩ = some (.int .u8 (x.toNat : Int)) := by
        obtain ⟨y, h1, h2⟩ := HD.out.2 k hlt
        rw [capK_at l k k hkl, if_neg (Nat.lt_irrefl _), hx] at h1
        injection h1 with h1
        rw [HK1.out.cell, h2, h1]
      have fx : wr.frozen? ⟨g, k, none⟩ = false := HK1.out.frozen' k (by have := HM.out.1; omega)
      have hxl := x.toNat_lt
      have HX := Lib.hid hx
      have fin : ∀ y : UInt8, up8 x = y → ∀ D' : Array Value, D'.size = D.size → (∀ i, i < n → D'[i]? = if i = k then some (.int .u8 (y.toNat : Int)) else D[i]?) →
          (n ≤ D'.size ∧ ∀ i, i < n → ∃ z, (capK l (k + 1))[i]? = some z ∧ D'[i]? = some (.int .u8 (z.toNat : Int))) := fun y hy D' hs hD => by
        refine ⟨by rw [hs]; exact HD.out.1, fun i hi => ?_⟩
        have hil : i < l.length := by have := HN.out; omega
        obtain ⟨z, h1, h2⟩ := HD.out.2 i hi
        rw [capK_at l k i hil] at h1
        rw [capK_at l (k + 1) i hil, hD i hi]
        by_cases e : i = k
        · subst e
          rw [if_pos rfl, if_pos (by omega), HX.out, hy]; exact ⟨y, rfl, rfl⟩
        · rw [if_neg e, h2]
          by_cases e2 : i < k
          · rw [if_pos e2] at h1
            rw [if_pos (by omega), h1]; exact ⟨z, rfl, rfl⟩
          · rw [if_neg e2] at h1
            rw [if_neg (by omega), h1]; exact ⟨z, rfl, rfl⟩
      have FIN := Lib.hid fin
      clear fin hx
      by_cases h1 : 97 ≤ x.toNat
      · by_cases h2 : x.toNat ≤ 122
        · have HU := Lib.hid (up8_yes x h1 h2)
          have i1 : (97 : Int) ≤ (x.toNat : Int) := by omega
          have i2 : (x.toNat : Int) ≤ 122 := by omega
          go_wp2
          go_roundw
          case rel =>
            refine ⟨k + 1, D.setIfInBounds k (.int .u8 ((up8 x).toNat : Int)), by omega, by go_num, Lib.hid (Below.setCell HB1.out (Nat.le_refl _) _), Lib.hid ?_, Lib.hid (FIN.out _ rfl _ (by simp) (fun i hi => ?_))⟩
            · rw [HU.out]; exact Blk.set_ HK1.out k _
            · rw [Array.getElem?_setIfInBounds]
              have := HD.out.1
              by_cases e : i = k
              · subst e; rw [if_pos rfl, if_pos rfl, if_pos (by omega)]
              · rw [if_neg e, if_neg (fun e2 => e e2.symm)]
          case measure => simp [intOf]; omega
        · have HU := Lib.hid (up8_no x (fun e => h2 e.2))
          have i1 : (97 : Int) ≤ (x.toNat : Int) := by omega
          have i2 : ¬ (x.toNat : Int) ≤ 122 := by omega
          go_wp2
          go_roundw
          case rel => exact ⟨k + 1, D, by omega, by go_num, HB1, HK1, Lib.hid (FIN.out x HU.out D rfl (fun i hi => by
              by_cases e : i = k
              · subst e; rw [if_pos rfl, ← HK1.out.cell, cx]
              · rw [if_neg e]))⟩
          case measure => simp [intOf]; omega
      · have HU := Lib.hid (up8_no x (fun e => h1 e.1))
        have i1 : ¬ (97 : Int) ≤ (x.toNat : Int) := by omega
        go_wp2
        go_roundw
        case rel => exact ⟨k + 1, D, by omega, by go_num, HB1, HK1, Lib.hid (FIN.out x HU.out D rfl (fun i hi => by
            by_cases e : i = k
            · subst e; rw [if_pos rfl, ← HK1.out.cell, cx]
            · rw [if_neg e]))⟩
        case measure => simp [intOf]; omega
    · obtain rfl : k = n := by omega
      have hL : l.length = k := HN.out
      have ST := bytes_at' wr g 0 k c (nmL (l.map up8)) (by unfold nmL; rw [List.length_map, List.length_map]; exact hL) (fun i hi => by
        obtain ⟨z, h1, h2⟩ := HD.out.2 i hi
        rw [← hL, capK_all] at h1
        rw [Nat.zero_add, HK1.out.cell, h2]
        congr 2
        have hlz : i < (nmL (l.map up8)).length := by unfold nmL; rw [List.length_map, List.length_map]; omega
        rw [iat_eq _ _ hlz]
        have h3 := (List.getElem?_eq_some_iff.1 h1).2
        simp only [nmL, List.getElem_map] at h3 ⊢
        rw [h3])
      rw [str_nmL] at ST
      clear hL
      go_wp2
      go_ret
      exact ⟨rfl, by rw [HG.out]; exact HB1.out⟩
set_option maxRecDepth 100000 in
set_option maxHeartbeats 4000000 in
theorem dense_any (l : List UInt8) (hl : l.length ≤ 1000000) (w : World) (hM : MxL w) :
    Calls Tryd.prog 20 #[.string (mkS l)] w fun e w' => e = .returned (.string (mkS (l.filter nBl))) ∧ Below w.heap.size w w' := by
  have C1 := Lib.hid (fun u (h : MxL u) => let ⟨m, hm⟩ := h; Tryd.strings_ReplaceAll (mkS l) ⟨#[32]⟩ ⟨#[]⟩ m u (by rw [mkS_size]; omega) hm (by decide) (by show _ + _ * 0 ≤ _; rw [mkS_size]; omega))
  have hl2 : (l.filter (neB 32)).length ≤ 1000000 := Nat.le_trans (List.length_filter_le _ _) hl
  have C2 := Lib.hid (fun u (h : MxL u) => let ⟨m, hm⟩ := h; Tryd.strings_ReplaceAll (mkS (l.filter (neB 32))) ⟨#[9]⟩ ⟨#[]⟩ m u (by rw [mkS_size]; omega) hm (by decide) (by show _ + _ * 0 ≤ _; rw [mkS_size]; omega))
  have HM := Lib.hid hM
  have HD := Lib.hid (dense_filter l)
  have e1 : (⟨(Lib.replaceAll (mkS l).data.toList [32] []).toArray⟩ : ByteArray) = mkS (l.filter (neB 32)) := by rw [mkS_data, replaceAll_one]; rfl
  have e2 : (⟨(Lib.replaceAll (mkS (l.filter (neB 32))).data.toList [9] []).toArray⟩ : ByteArray) = mkS (l.filter nBl) := by rw [mkS_data, ← dense_filter, replaceAll_one 32 l]; rfl
  have C1' : Hid (∀ u, MxL u → Calls Tryd.prog 35 #[.string (mkS l), .string ⟨#[32]⟩, .string ⟨#[]⟩] u fun e w' => e = .returned (.string (mkS (l.filter (neB 32)))) ∧ Below u.heap.size u w') := Lib.hid (fun u h => by have := C1.out u h; rw [← e1]; exact this)
  have C2' : Hid (∀ u, MxL u → Calls Tryd.prog 35 #[.string (mkS (l.filter (neB 32))), .string ⟨#[9]⟩, .string ⟨#[]⟩] u fun e w' => e = .returned (.string (mkS (l.filter nBl))) ∧ Below u.heap.size u w') := Lib.hid (fun u h => by have := C2.out u h; rw [← e2]; exact this)
  obtain ⟨A, hA⟩ : ∃ A, mkS (l.filter (neB 32)) = A := ⟨_, rfl⟩
  obtain ⟨B, hB⟩ : ∃ B, mkS (l.filter nBl) = B := ⟨_, rfl⟩
  rw [hA] at C1' C2'
  rw [hB] at C2' ⊢
  clear C1 C2 e1 e2 hl hl2 hM hA hB
  go_enter Tryd.func20, Tryd.ntmps20
  go_wp2
  go_loopw [0, 4] (fun u0 u4 wr => ∃ (k : Nat), u4 = .int .i64 k ∧ k ≤ 2 ∧ Hid (Below w.heap.size w wr) ∧ ((k = 0 ∧ u0 = .string (mkS l)) ∨ (k = 1 ∧ u0 = .string A) ∨ (k = 2 ∧ u0 = .string B))) (fun _ u4 _ => 2 - (intOf u4).toNat)
  case atStart => exact ⟨0, rfl, by omega, Lib.hid (Below.refl _ _), .inl ⟨rfl, rfl⟩⟩
  case round =>
    obtain ⟨k, rfl, hk, HB, (⟨rfl, rfl⟩ | ⟨rfl, rfl⟩ | ⟨rfl, rfl⟩)⟩ := hrel
    · go_wp2_with fail
      refine (C1'.out _ (HM.out.below HB.out)).mono ?_
      rintro e w1 ⟨rfl, hb⟩
      have HB1 := Lib.hid (Below.trans0 HB.out hb)
      clear hb
      go_wp2
      go_roundw
      case rel => exact ⟨1, rfl, by omega, HB1, .inr (.inl ⟨rfl, rfl⟩)⟩
      case measure => decide
    · go_wp2_with fail
      refine (C2'.out _ (HM.out.below HB.out)).mono ?_
      rintro e w1 ⟨rfl, hb⟩
      have HB1 := Lib.hid (Below.trans0 HB.out hb)
      clear hb
      go_wp2
      go_roundw
      case rel => exact ⟨2, rfl, by omega, HB1, .inr (.inr ⟨rfl, rfl⟩)⟩
      case measure => decide
    · go_wp2
      go_ret
      exact ⟨rfl, HB.out⟩
end Go.Proofs.YtmdpgekbiohfbaaDoor
