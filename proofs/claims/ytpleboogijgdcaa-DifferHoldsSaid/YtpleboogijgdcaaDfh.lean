/- Differ: the law's own fields; differ.Own, and the law's own records. -/
import Derived.Test.YtpleboogijgdcaaDfa
import Derived.Deep.CutBlock
namespace Go.Proofs.Ytpleboogijgdcaa
open Go.ChangeShapes Go.WideShapes Go.ChangeAt Go.RowKit
set_option linter.unusedVariables false

theorem isE_no (S : ByteArray) (h : S.size ≠ 0) : S.toList.isEmpty = false := by
  rw [ByteArray.toList_eq]
  cases h2 : S.data.toList with
  | nil => exact absurd (by show S.data.size = 0; rw [← Array.length_toList, h2]; rfl) h
  | cons c r => rfl
theorem isE_no2 (S : ByteArray) (h : S.size ≠ 0) : (S.toList == (⟨#[]⟩ : ByteArray).toList) = false := by
  have := isE_no S h
  rw [show (⟨#[]⟩ : ByteArray).toList = [] from by rw [ByteArray.toList_eq]]
  cases h2 : S.toList with
  | nil => rw [h2] at this; cases this
  | cons c r => rfl
theorem nmF_pos : ∀ k : Fin 9, 0 < (nmF k.val).size ∧ (nmF k.val).size ≤ 4 := by decide
theorem fldT_next (x y : Rc) (k : Nat) : fldT x y (k + 1) = if dfl x y k then ((if (fldT x y k).size = 0 then fldT x y k else fldT x y k ++ ⟨#[32]⟩) ++ nmF k) else fldT x y k := by
  unfold fldT
  rw [fldL]
  split
  · cases h : fldL (dfl x y) k with
    | nil => simp [ByteArray.size]; apply ByteArray.ext; simp
    | cons c r => simp [ByteArray.size]; apply ByteArray.ext; simp
  · rfl
set_option maxRecDepth 100000 in
set_option maxHeartbeats 4000000 in
theorem lawFields_any (x y : Rc) (w : World) : Calls Try.prog 13 #[.agg x.cells, .agg y.cells] w fun e w' => e = .returned (.string (fldT x y 9)) ∧ Below w.heap.size w w' := by
  have HZ := Lib.hid (fun k (hk : k < 10) => show (fldT x y k).size ≤ 60 by simpa [fldT, ByteArray.size] using (dfl_ck x y).2.1 k hk)
  have HB0 : Hid (Below w.heap.size w ((((w.alloc (.cells (rc9 x) 26)).alloc (.cells (rc9 y) 26)).alloc (.cells #[.string ⟨#[65, 68, 68, 82]⟩, .string ⟨#[68, 65, 84, 65]⟩, .string ⟨#[82, 69, 65, 68]⟩, .string ⟨#[66, 65]⟩, .string ⟨#[66, 83]⟩, .string ⟨#[76, 73, 67]⟩, .string ⟨#[65, 86, 77, 65]⟩, .string ⟨#[66, 85, 83, 89]⟩, .string ⟨#[77, 73, 78, 69]⟩] 75)).alloc (.cells #[.bool (x.a != y.a), .bool (x.d != y.d), .bool (x.r != y.r), .bool (x.b1 != y.b1), .bool (x.b2 != y.b2), .bool (x.b3 != y.b3), .bool (x.b4 != y.b4), .bool (x.b5 != y.b5), .bool (x.m != y.m)] 76))) := Lib.hid (Below.alloc0 (Below.alloc0 (Below.alloc0 (Below.alloc0 (Below.refl _ _) _) _) _) _)
  have HN0 : Hid (Blk ((((w.alloc (.cells (rc9 x) 26)).alloc (.cells (rc9 y) 26)).alloc (.cells #[.string ⟨#[65, 68, 68, 82]⟩, .string ⟨#[68, 65, 84, 65]⟩, .string ⟨#[82, 69, 65, 68]⟩, .string ⟨#[66, 65]⟩, .string ⟨#[66, 83]⟩, .string ⟨#[76, 73, 67]⟩, .string ⟨#[65, 86, 77, 65]⟩, .string ⟨#[66, 85, 83, 89]⟩, .string ⟨#[77, 73, 78, 69]⟩] 75)).alloc (.cells #[.bool (x.a != y.a), .bool (x.d != y.d), .bool (x.r != y.r), .bool (x.b1 != y.b1), .bool (x.b2 != y.b2), .bool (x.b3 != y.b3), .bool (x.b4 != y.b4), .bool (x.b5 != y.b5), .bool (x.m != y.m)] 76)) (w.heap.size + 2) 75 #[.string ⟨#[65, 68, 68, 82]⟩, .string ⟨#[68, 65, 84, 65]⟩, .string ⟨#[82, 69, 65, 68]⟩, .string ⟨#[66, 65]⟩, .string ⟨#[66, 83]⟩, .string ⟨#[76, 73, 67]⟩, .string ⟨#[65, 86, 77, 65]⟩, .string ⟨#[66, 85, 83, 89]⟩, .string ⟨#[77, 73, 78, 69]⟩]) := Lib.hid (Blk.alloc (Blk.at2 _ _) _)
  have HL0 : Hid (Blk ((((w.alloc (.cells (rc9 x) 26)).alloc (.cells (rc9 y) 26)).alloc (.cells #[.string ⟨#[65, 68, 68, 82]⟩, .string ⟨#[68, 65, 84, 65]⟩, .string ⟨#[82, 69, 65, 68]⟩, .string ⟨#[66, 65]⟩, .string ⟨#[66, 83]⟩, .string ⟨#[76, 73, 67]⟩, .string ⟨#[65, 86, 77, 65]⟩, .string ⟨#[66, 85, 83, 89]⟩, .string ⟨#[77, 73, 78, 69]⟩] 75)).alloc (.cells #[.bool (x.a != y.a), .bool (x.d != y.d), .bool (x.r != y.r), .bool (x.b1 != y.b1), .bool (x.b2 != y.b2), .bool (x.b3 != y.b3), .bool (x.b4 != y.b4), .bool (x.b5 != y.b5), .bool (x.m != y.m)] 76)) (w.heap.size + 3) 76 #[.bool (x.a != y.a), .bool (x.d != y.d), .bool (x.r != y.r), .bool (x.b1 != y.b1), .bool (x.b2 != y.b2), .bool (x.b3 != y.b3), .bool (x.b4 != y.b4), .bool (x.b5 != y.b5), .bool (x.m != y.m)]) := Lib.hid (Blk.at3 _ _ _)
  go_enter Try.func13, Try.ntmps13
  go_wp2
  go_loopw [7, 8] (fun s i wr => ∃ k : Nat, k ≤ 9 ∧ i = .int .i64 k ∧ s = .string (fldT x y k) ∧ Hid (Blk wr (w.heap.size + 2) 75 #[.string ⟨#[65, 68, 68, 82]⟩, .string ⟨#[68, 65, 84, 65]⟩, .string ⟨#[82, 69, 65, 68]⟩, .string ⟨#[66, 65]⟩, .string ⟨#[66, 83]⟩, .string ⟨#[76, 73, 67]⟩, .string ⟨#[65, 86, 77, 65]⟩, .string ⟨#[66, 85, 83, 89]⟩, .string ⟨#[77, 73, 78, 69]⟩]) ∧ Hid (Blk wr (w.heap.size + 3) 76 #[.bool (x.a != y.a), .bool (x.d != y.d), .bool (x.r != y.r), .bool (x.b1 != y.b1), .bool (x.b2 != y.b2), .bool (x.b3 != y.b3), .bool (x.b4 != y.b4), .bool (x.b5 != y.b5), .bool (x.m != y.m)]) ∧ Hid (Below w.heap.size w wr)) (fun _ i _ => 9 - (intOf i).toNat)
  case atStart => exact ⟨0, Nat.zero_le _, rfl, rfl, HN0, HL0, HB0⟩
  case round =>
    obtain ⟨k, hk, rfl, rfl, hN, hL, hB⟩ := hrel
    have HN := hN
    have HL := hL
    have z0 := HZ.out k (by omega)
    by_cases hlt : k < 9
    · have q0 : wr.cell? ⟨w.heap.size + 2, k, none⟩ = some (.string (nmF k)) := by
        rw [hN.out.cell]
        rcases (show k = 0 ∨ k = 1 ∨ k = 2 ∨ k = 3 ∨ k = 4 ∨ k = 5 ∨ k = 6 ∨ k = 7 ∨ k = 8 by omega) with rfl | rfl | rfl | rfl | rfl | rfl | rfl | rfl | rfl <;> rfl
      have q1 : wr.cell? ⟨w.heap.size + 3, k, none⟩ = some (.bool (dfl x y k)) := by
        rw [hL.out.cell]
        rcases (show k = 0 ∨ k = 1 ∨ k = 2 ∨ k = 3 ∨ k = 4 ∨ k = 5 ∨ k = 6 ∨ k = 7 ∨ k = 8 by omega) with rfl | rfl | rfl | rfl | rfl | rfl | rfl | rfl | rfl <;> rfl
      have k0 : (0 : Int) ≤ k := by omega
      have k1 : (k : Int) < 9 := by omega
      have zn := (nmF_pos ⟨k, hlt⟩).2
      simp only at zn
      have FN := Lib.hid (fldT_next x y k)
      obtain ⟨nm, hnm⟩ : ∃ z, nmF k = z := ⟨_, rfl⟩
      rw [hnm] at q0 zn FN
      obtain ⟨q, hq⟩ : ∃ z, dfl x y k = z := ⟨_, rfl⟩
      rw [hq] at q1 FN
      obtain ⟨S, hS⟩ : ∃ z, fldT x y k = z := ⟨_, rfl⟩
      rw [hS] at z0 FN ⊢
      clear hnm hq hS hN hL
      cases q
      case false =>
        go_wp2
        go_roundw
        case rel => exact ⟨k + 1, by omega, by go_num, by rw [FN.out]; rfl, HN, HL, hB⟩
        case measure => simp [intOf]; omega
      case true =>
        by_cases h0 : S.size = 0
        · have e : S = ⟨#[]⟩ := by
            apply ByteArray.ext
            exact Array.eq_empty_of_size_eq_zero h0
          subst e
          clear h0 z0
          have y1 : ¬ 9223372036854775807 < 0 + nm.size := by omega
          have y2 : ¬ 9223372036854775807 < nm.size := by omega
          go_wp2
          go_roundw
          case rel => exact ⟨k + 1, by omega, by go_num, by rw [FN.out]; rfl, HN, HL, hB⟩
          case measure => simp [intOf]; omega
        · have e1 := isE_no S h0
          have e2 := isE_no2 S h0
          have y1 : ¬ 9223372036854775807 < S.size + 1 := by omega
          have y2 : ¬ 9223372036854775807 < (S ++ ⟨#[32]⟩).size + nm.size := by rw [ByteArray.size_append]; have : (⟨#[32]⟩ : ByteArray).size = 1 := rfl; omega
          have y3 : ¬ 9223372036854775807 < S.size + 1 + nm.size := by omega
          go_wp2
          go_roundw
          case rel => exact ⟨k + 1, by omega, by go_num, by rw [FN.out, if_pos rfl, if_neg h0], HN, HL, hB⟩
          case measure => simp [intOf]; omega
    · obtain rfl : k = 9 := by omega
      go_wp2
      go_ret
      exact ⟨rfl, hB.out⟩
theorem wpList_appRc {ops : Array Oper} {rest : List Oper} {o : Oper} {a : Act} {Q : Exit → Act → World → Prop} (hgd : o.guard = none) (w : World) (s x : Operand)
    (ho : o.op = .call { callee := .builtin .append, args := #[s, x], argTypes := #[22, 22] })
    (base : Nat) (v y : Value) (l m : List Rc) (hs : a.eval s = v) (hown : eR.Own 26 w base v l) (hx : a.eval x = y) (hr : eR.Rd w y m) (hn : l.length + m.length ≤ 1099511627776) (hbase : base ≤ w.heap.size)
    (h : ∀ v' w', eR.Own 26 w' base v' (l ++ m) → Below base w w' → w.grownBy w' v.ownBlock → (v'.ownBlock = v.ownBlock ∨ v'.ownBlock = some w.heap.size) → wpList Try.prog ops Q rest (a.put o.dst v') w') : wpList Try.prog ops Q (o :: rest) a w := by
  obtain ⟨i0, hi, hz0, hz1, hz2⟩ := info_parts infoR
  exact wpList_plain hgd fun _ hK => Els.app (E := eR) w s x 22 26 i0 _ 10 Try.underlying22 hi hz0 hz1 hz2 (by decide) rfl ho base v y l m hs hown hx hr hn hbase fun v' w' h2 h3 h4 h5 => hK _ _ (h v' w' h2 h3 h4 h5)
/-- The law's own records. -/
def ownL (l : List Rc) : List Rc := l.filter (·.m)
theorem ownL_next (l : List Rc) (k : Nat) (x : Rc) (h : l[k]? = some x) : ownL (l.take (k + 1)) = ownL (l.take k) ++ (if x.m then [x] else []) := by
  unfold ownL
  rw [List.take_add_one, h, List.filter_append]
  simp only [Option.toList, List.filter_cons, List.filter_nil]
theorem ownL_len (l : List Rc) (k : Nat) : (ownL (l.take k)).length ≤ k := by
  unfold ownL
  refine Nat.le_trans (List.length_filter_le _ _) ?_
  rw [List.length_take]; omega
set_option maxRecDepth 100000 in
set_option maxHeartbeats 4000000 in
theorem dfOwn_any (v : Value) (l : List Rc) (w : World) (hr : eR.Rd w v l) (hn : l.length ≤ 1000000) :
    Calls Try.prog 16 #[v] w fun e w' => ∃ v', e = .returned v' ∧ eR.Own 26 w' w.heap.size v' (ownL l) ∧ Below w.heap.size w w' := by
  obtain ⟨A, c, rfl, hc⟩ := hr.open_
  obtain ⟨n, hl⟩ : ∃ n, l.length = n := ⟨_, rfl⟩
  rw [hl] at hc hn ⊢
  have HL := Lib.hid hl
  have HC := Lib.hid hc
  clear hr hc hl
  go_enter Try.func16, Try.ntmps16
  go_wp2
  go_loopw [3, 8] (fun s i wr => ∃ k : Nat, k ≤ n ∧ i = .int .i64 k ∧ Hid (eR.Own 26 wr w.heap.size s (ownL (l.take k))) ∧ Hid (Below w.heap.size w wr)) (fun _ i _ => n - (intOf i).toNat)
  case atStart => exact ⟨0, Nat.zero_le _, rfl, Lib.hid (Els.Own.nil_ _ _), Lib.hid (Below.refl _ _)⟩
  case round =>
    obtain ⟨k, hk, rfl, hO, hB⟩ := hrel
    by_cases hlt : k < n
    · obtain ⟨g, off, rfl, hg, hcell⟩ := HC.out (by omega)
      obtain ⟨x, hx⟩ : ∃ x, l[k]? = some x := ⟨_, List.getElem?_eq_getElem (by rw [HL.out]; exact hlt)⟩
      obtain ⟨d0, d1, d2, d3, d4, d5, d6, d7, d8⟩ := rc9_at hB.out hg (fun jj u hu => hcell k x hx jj u hu)
      have NX := Lib.hid (ownL_next l k x hx)
      have LN := ownL_len l k
      have k0 : (0 : Int) ≤ k := by omega
      have k1 : (k : Int) < n := by omega
      obtain ⟨L, hL⟩ : ∃ L, ownL (l.take k) = L := ⟨_, rfl⟩
      rw [hL] at hO NX LN
      clear hcell hx hL
      obtain ⟨a, d, r, b1, b2, b3, b4, b5, m⟩ := x
      simp only at d0 d1 d2 d3 d4 d5 d6 d7 d8 NX
      cases m
      case false =>
        have HB2 := Lib.hid (Below.alloc0 hB.out (.cells #[.int .u16 a, .int .u8 d, .bool r, .bool b1, .bool b2, .bool b3, .bool b4, .bool b5, .bool false] 26))
        have HO2 := Lib.hid (hO.out.alloc (.cells #[.int .u16 a, .int .u8 d, .bool r, .bool b1, .bool b2, .bool b3, .bool b4, .bool b5, .bool false] 26))
        go_wp2
        go_roundw
        case rel => exact ⟨k + 1, by omega, by go_num, by rw [NX.out]; first | exact HO2 | (rw [List.append_nil]; exact HO2) | (rw [if_neg (by decide), List.append_nil]; exact HO2), HB2⟩
        case measure => simp [intOf]; omega
      case true =>
        have HB2 := Lib.hid (Below.alloc0 (Below.alloc0 hB.out (.cells #[.int .u16 a, .int .u8 d, .bool r, .bool b1, .bool b2, .bool b3, .bool b4, .bool b5, .bool true] 26)) (.cells #[.int .u16 a, .int .u8 d, .bool r, .bool b1, .bool b2, .bool b3, .bool b4, .bool b5, .bool true] 26))
        have HO2 := Lib.hid ((hO.out.alloc (.cells #[.int .u16 a, .int .u8 d, .bool r, .bool b1, .bool b2, .bool b3, .bool b4, .bool b5, .bool true] 26)).alloc (.cells #[.int .u16 a, .int .u8 d, .bool r, .bool b1, .bool b2, .bool b3, .bool b4, .bool b5, .bool true] 26))
        have HR2 : Hid (eR.Rd ((wr.alloc (.cells #[.int .u16 a, .int .u8 d, .bool r, .bool b1, .bool b2, .bool b3, .bool b4, .bool b5, .bool true] 26)).alloc (.cells #[.int .u16 a, .int .u8 d, .bool r, .bool b1, .bool b2, .bool b3, .bool b4, .bool b5, .bool true] 26)) (.slice (some ⟨wr.heap.size + 1, 0, none⟩) 1 1) [⟨a, d, r, b1, b2, b3, b4, b5, true⟩]) := Lib.hid (Els.Rd.new (E := eR) (g := wr.heap.size + 1) (wr.alloc (.cells #[.int .u16 a, .int .u8 d, .bool r, .bool b1, .bool b2, .bool b3, .bool b4, .bool b5, .bool true] 26)) (by simp) 26 [⟨a, d, r, b1, b2, b3, b4, b5, true⟩] #[.int .u16 a, .int .u8 d, .bool r, .bool b1, .bool b2, .bool b3, .bool b4, .bool b5, .bool true] 1 rfl rfl 1)
        have CE : Hid (w.heap.size ≤ wr.heap.size) := Lib.hid hB.out.size
        go_wp2_with (at_builtin; refine wpList_appRc rfl _ (.tmp 14) (.tmp 16) rfl w.heap.size u3 _ L _ rfl HO2.out rfl HR2.out (by first | omega | (simp; omega)) (by have := CE.out; first | omega | (simp; omega)) ?_; intro v' w2 hown hbel hgr hwh; have HO3 := Lib.hid hown; have HB3 := Lib.hid (Below.trans HB2.out hbel); clear hown hbel hgr hwh)
        go_roundw
        case rel => exact ⟨k + 1, by omega, by go_num, by rw [NX.out]; exact HO3, HB3⟩
        case measure => simp [intOf]; omega
    · obtain rfl : k = n := by omega
      have HO2 : Hid (eR.Own 26 wr w.heap.size u3 (ownL l)) := Lib.hid (by have := hO.out; rwa [List.take_of_length_le (by rw [HL.out]; exact Nat.le_refl _)] at this)
      go_wp2
      go_ret
      exact ⟨u3, rfl, HO2.out, hB.out⟩
end Go.Proofs.Ytpleboogijgdcaa
