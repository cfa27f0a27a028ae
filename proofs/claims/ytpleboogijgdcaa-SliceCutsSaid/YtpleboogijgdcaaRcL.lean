/- Records: record.Put; the library's Equal on records; record.Lines. -/
import Derived.Test.YtpleboogijgdcaaRcZ
import Derived.Test.YtpleboogijgdcaaRcR
import Derived.Test.YtpleboogijgdcaaOct
import Derived.Test.YtpleboogijgdcaaBld
import Derived.Test.YtpleboogijgdcaaShelf
import Derived.Deep.RegionHeld3
import Derived.BigQuiet
import Derived.Deep.DeepCutAuto
namespace Go.Proofs.Ytpleboogijgdcaa
open Go.ChangeShapes Go.WideShapes Go.ChangeAt Go.RowKit
set_option linter.unusedVariables false

theorem or_fin : ∀ k : Fin 7, ∀ s : Fin 64, s.val < 2 ^ k.val → bits .or .u8 (s.val : Int) ((2 ^ k.val : Nat) : Int) = (s.val : Int) + ((2 ^ k.val : Nat) : Int) := by decide +kernel
theorem pwN_pow : ∀ k : Fin 7, pwN k.val = ((2 ^ k.val : Nat) : Int) := by decide +kernel
theorem or_sm (k : Nat) (hk : k < 7) (s : Int) (h0 : 0 ≤ s) (h1 : s < pwN k) (h2 : pwN k ≤ 64) : bits .or .u8 s (pwN k) = s + pwN k := by
  have e := pwN_pow ⟨k, hk⟩
  simp only at e
  have := or_fin ⟨k, hk⟩ ⟨s.toNat, by omega⟩ (by simp only; omega)
  simp only [Int.toNat_of_nonneg h0] at this
  rw [e]
  exact this
theorem neq_rcS (x : Rc) (w : World) : (binOp .neq 26 (.agg #[.int .u16 x.a, .int .u8 x.d, .bool x.r, .bool x.b1, .bool x.b2, .bool x.b3, .bool x.b4, .bool x.b5, .bool x.m]) (.agg #[.int .u16 x.a, .int .u8 x.d, .bool x.r, .bool x.b1, .bool x.b2, .bool x.b3, .bool x.b4, .bool x.b5, .bool x.m])).run Try.prog w = .ok (.bool false) w := by
  have e1 : (x.a == x.a) = true := by simp
  have e2 : (x.d == x.d) = true := by simp
  have e3 : (x.r == x.r) = true := by simp
  have e4 : (x.b1 == x.b1) = true := by simp
  have e5 : (x.b2 == x.b2) = true := by simp
  have e6 : (x.b3 == x.b3) = true := by simp
  have e7 : (x.b4 == x.b4) = true := by simp
  have e8 : (x.b5 == x.b5) = true := by simp
  have e9 : (x.m == x.m) = true := by simp
  go_simp
set_option maxRecDepth 100000 in
set_option maxHeartbeats 1000000 in
theorem rcEq_same (v v' : Value) (l : List Rc) (w : World) (h : eR.Rd w v l) (h' : eR.Rd w v' l) (hn : l.length ≤ 1000000) :
    Calls Try.prog 7 #[v, v'] w fun e w' => e = .returned (.bool true) ∧ ∃ k, w' = w.drewN k := by
  obtain ⟨A, c, rfl, hc⟩ := h.open_
  obtain ⟨A', c', rfl, hc'⟩ := h'.open_
  obtain ⟨n, hl⟩ : ∃ n, l.length = n := ⟨_, rfl⟩
  rw [hl] at hc hc' hn ⊢
  have HL := Lib.hid hl
  have H := Lib.hid hc
  have H' := Lib.hid hc'
  clear h h' hc hc' hl
  go_enter Try.func7, Try.ntmps7
  go_wp2
  go_loopw [13] (fun i wr => ∃ k : Nat, k ≤ n ∧ i = .int .i64 k ∧ ∃ j, wr = w.drewN j) (fun i _ => n - (intOf i).toNat)
  case atStart => exact ⟨0, Nat.zero_le _, rfl, 0, rfl⟩
  case round =>
    obtain ⟨k, hk, rfl, j, rfl⟩ := hrel
    by_cases hlt : k < n
    · obtain ⟨b, off, rfl, hb, hcell⟩ := H.out (by omega)
      obtain ⟨b', off', rfl, hb', hcell'⟩ := H'.out (by omega)
      obtain ⟨x, hx⟩ : ∃ x, l[k]? = some x := ⟨_, List.getElem?_eq_getElem (by rw [HL.out]; exact hlt)⟩
      have hcx := fun jj u (h : (eR.enc x)[jj]? = some u) => hcell k x hx jj u h
      have hcy := fun jj u (h : (eR.enc x)[jj]? = some u) => hcell' k x hx jj u h
      have d0 : w.cell? ⟨b, off + k * 9, none⟩ = some (.int .u16 x.a) := hcx 0 _ rfl
      have d1 : w.cell? ⟨b, off + k * 9 + 1, none⟩ = some (.int .u8 x.d) := hcx 1 _ rfl
      have d2 : w.cell? ⟨b, off + k * 9 + 2, none⟩ = some (.bool x.r) := hcx 2 _ rfl
      have d3 : w.cell? ⟨b, off + k * 9 + 3, none⟩ = some (.bool x.b1) := hcx 3 _ rfl
      have d4 : w.cell? ⟨b, off + k * 9 + 4, none⟩ = some (.bool x.b2) := hcx 4 _ rfl
      have d5 : w.cell? ⟨b, off + k * 9 + 5, none⟩ = some (.bool x.b3) := hcx 5 _ rfl
      have d6 : w.cell? ⟨b, off + k * 9 + 6, none⟩ = some (.bool x.b4) := hcx 6 _ rfl
      have d7 : w.cell? ⟨b, off + k * 9 + 7, none⟩ = some (.bool x.b5) := hcx 7 _ rfl
      have d8 : w.cell? ⟨b, off + k * 9 + 8, none⟩ = some (.bool x.m) := hcx 8 _ rfl
      have f0 : w.cell? ⟨b', off' + k * 9, none⟩ = some (.int .u16 x.a) := hcy 0 _ rfl
      have f1 : w.cell? ⟨b', off' + k * 9 + 1, none⟩ = some (.int .u8 x.d) := hcy 1 _ rfl
      have f2 : w.cell? ⟨b', off' + k * 9 + 2, none⟩ = some (.bool x.r) := hcy 2 _ rfl
      have f3 : w.cell? ⟨b', off' + k * 9 + 3, none⟩ = some (.bool x.b1) := hcy 3 _ rfl
      have f4 : w.cell? ⟨b', off' + k * 9 + 4, none⟩ = some (.bool x.b2) := hcy 4 _ rfl
      have f5 : w.cell? ⟨b', off' + k * 9 + 5, none⟩ = some (.bool x.b3) := hcy 5 _ rfl
      have f6 : w.cell? ⟨b', off' + k * 9 + 6, none⟩ = some (.bool x.b4) := hcy 6 _ rfl
      have f7 : w.cell? ⟨b', off' + k * 9 + 7, none⟩ = some (.bool x.b5) := hcy 7 _ rfl
      have f8 : w.cell? ⟨b', off' + k * 9 + 8, none⟩ = some (.bool x.m) := hcy 8 _ rfl
      have hk0 : (0 : Int) ≤ k := by omega
      have hkn : (k : Int) < n := by omega
      have HE := neq_rcS x
      clear hcell hcell' hcx hcy hx
      go_wp2
      go_quiet (fail)
      go_wp2
      go_roundw
      case rel => exact ⟨k + 1, by omega, by go_num, by first | exact ⟨_, rfl⟩ | exact ⟨_, World.drewN_drewN _ _ _⟩⟩
      case measure => simp [intOf]; omega
    · go_wp2
      go_ret
      exact ⟨rfl, j, rfl⟩
/-- A record's line. -/
noncomputable def lnN (x : Rc) : List Int := txN x ++ [10]
theorem strCells_nums (xs : List Int) (h : ∀ x ∈ xs, 0 ≤ x ∧ x < 256) : Lib.strCells (strOfNums xs) = xs.map (Value.int .u8) := by
  unfold Lib.strCells strOfNums
  rw [List.map_map]
  apply List.map_congr_left
  intro x hx
  have := h x hx
  simp only [Function.comp_apply]
  congr 1
  simp [Nat.mod_eq_of_lt (show x.toNat < 256 by omega)]
  omega
theorem byteCells_nums (xs : List Int) (h : ∀ x ∈ xs, 0 ≤ x ∧ x < 256) : Lib.byteCells ((strOfNums xs).data.toList) = xs.map (Value.int .u8) := by
  rw [← Lib.strCells_toArray]
  have : (⟨(strOfNums xs).data.toList.toArray⟩ : ByteArray) = strOfNums xs := by apply ByteArray.ext; simp
  rw [this]
  exact strCells_nums xs h
theorem bld_below {B b : Nat} {bs : List Value} {w w' : World} (h : Bld B b bs w) (hb : Below w.heap.size w w') : Bld B b bs w' := by
  have key : ∀ p, Lib.BuilderAt 63 5 B b p bs w → Lib.BuilderAt 63 5 B b p bs w' := by
    rintro p ⟨h1, v, h2, h3, h4⟩
    refine ⟨h1, v, (hb.block b (Blk.lt (t := _) (cs := _) (fr := (0, 0)) h2)).trans h2, ?_, h4⟩
    obtain ⟨hl, h5⟩ := h3
    refine ⟨hl, ?_⟩
    rcases h5 with h5 | ⟨g, cap, cur, rfl, h6, h7, h8⟩
    · exact .inl h5
    · exact .inr ⟨g, cap, cur, rfl, h6, (hb.block g (Blk.lt (t := _) (cs := cur) (fr := (0, 0)) h7)).trans h7, h8⟩
  rcases h with h | h
  · exact .inl (key _ h)
  · exact .inr (key _ h)
set_option maxRecDepth 100000 in
set_option maxHeartbeats 2000000 in
theorem rcLines_any (v : Value) (l : List Rc) (w : World) (hr : eR.Rd w v l) (hok : ∀ x ∈ l, x.Ok) (hn : l.length ≤ 1000) (hrg : ∀ x : Rc, x.Ok → ∀ z ∈ txN x, 0 ≤ z ∧ z < 256) :
    Calls Try.prog 42 #[v] w fun e w' => e = .returned (.string (strOfNums (l.flatMap lnN))) ∧ Below w.heap.size w w' := by
  obtain ⟨A, c, rfl, hc⟩ := hr.open_
  obtain ⟨n, hl⟩ : ∃ n, l.length = n := ⟨_, rfl⟩
  rw [hl] at hc hn ⊢
  have HL := Lib.hid hl
  have HC := Lib.hid hc
  have HOK := Lib.hid hok
  have HRG := Lib.hid hrg
  have HF := Lib.hid (Lib.fresh_isBuilder 63 5 w)
  have B0 := Lib.hid (Below.alloc0 (Below.refl w.heap.size w) (.cells #[.pointer none, .slice none 0 0] 63))
  clear hr hc hl hok hrg
  go_enter Try.func42, Try.ntmps42
  go_wp2
  go_loopw [8] (fun i wr => ∃ k : Nat, k ≤ n ∧ i = .int .i64 k ∧ Hid (Bld w.heap.size w.heap.size (((l.take k).flatMap lnN).map (Value.int .u8)) wr) ∧ Hid (Below w.heap.size w wr)) (fun i _ => n - (intOf i).toNat)
  case atStart => exact ⟨0, Nat.zero_le _, rfl, Lib.hid (by simpa using HF.out), B0⟩
  case round =>
    obtain ⟨k, hk, rfl, HBd, HB⟩ := hrel
    by_cases hlt : k < n
    · obtain ⟨g, off, rfl, hg, hcell⟩ := HC.out (by omega)
      obtain ⟨x, hx⟩ : ∃ x, l[k]? = some x := ⟨_, List.getElem?_eq_getElem (by rw [HL.out]; exact hlt)⟩
      have hxo := HOK.out x (List.mem_of_getElem? hx)
      have hcx := fun j u (h : (eR.enc x)[j]? = some u) => (HB.out.cell (p := ⟨g, off + (k * 9 + j), none⟩) hg).trans (hcell k x hx j u h)
      have d0 : wr.cell? ⟨g, off + k * 9, none⟩ = some (.int .u16 x.a) := hcx 0 _ rfl
      have d1 : wr.cell? ⟨g, off + k * 9 + 1, none⟩ = some (.int .u8 x.d) := hcx 1 _ rfl
      have d2 : wr.cell? ⟨g, off + k * 9 + 2, none⟩ = some (.bool x.r) := hcx 2 _ rfl
      have d3 : wr.cell? ⟨g, off + k * 9 + 3, none⟩ = some (.bool x.b1) := hcx 3 _ rfl
      have d4 : wr.cell? ⟨g, off + k * 9 + 4, none⟩ = some (.bool x.b2) := hcx 4 _ rfl
      have d5 : wr.cell? ⟨g, off + k * 9 + 5, none⟩ = some (.bool x.b3) := hcx 5 _ rfl
      have d6 : wr.cell? ⟨g, off + k * 9 + 6, none⟩ = some (.bool x.b4) := hcx 6 _ rfl
      have d7 : wr.cell? ⟨g, off + k * 9 + 7, none⟩ = some (.bool x.b5) := hcx 7 _ rfl
      have d8 : wr.cell? ⟨g, off + k * 9 + 8, none⟩ = some (.bool x.m) := hcx 8 _ rfl
      have HT : Hid (l.take (k + 1) = l.take k ++ [x]) := Lib.hid (by rw [List.take_succ_eq_append_getElem (by rw [HL.out]; exact hlt)]; congr 2; have := List.getElem?_eq_getElem (l := l) (i := k) (by rw [HL.out]; exact hlt); rw [hx] at this; exact (Option.some.inj this).symm)
      have CT := Lib.hid (fun u => rcText_any x hxo u)
      have HTL : Hid ((strOfNums (txN x)).size = 17) := Lib.hid (txN_len x hxo)
      have HRx := Lib.hid (HRG.out x hxo)
      have HLN : Hid ((((l.take k).flatMap lnN).map (Value.int .u8)).length ≤ 18 * k) := Lib.hid (by
        rw [List.length_map]
        have key : ∀ m : List Rc, (∀ y ∈ m, y.Ok) → (m.flatMap lnN).length = 18 * m.length := by
          intro m
          induction m with
          | nil => intro _; rfl
          | cons y m ih =>
            intro hm
            rw [List.flatMap_cons, List.length_append, ih (fun z hz => hm z (List.mem_cons_of_mem _ hz)), List.length_cons]
            have h17 := txN_len y (hm y (List.mem_cons_self ..))
            rw [strOfNums_size] at h17
            unfold lnN
            rw [List.length_append, h17]; simp; omega
        rw [key _ (fun y hy => HOK.out y (List.mem_of_mem_take hy)), List.length_take]
        omega)
      have t0 : (0 : Int) ≤ k := by omega
      have t1 : (k : Int) < n := by omega
      obtain ⟨bs, hbs⟩ : ∃ bs, ((l.take k).flatMap lnN).map (Value.int .u8) = bs := ⟨_, rfl⟩
      rw [hbs] at HLN HBd
      have HBS := Lib.hid hbs
      clear hcell hx hcx hxo hbs
      go_wp2_with fail
      refine (CT.out _).mono ?_
      rintro e W4 ⟨rfl, hb⟩
      have HB4 := Lib.hid (Below.trans0 (Below.alloc0 HB.out _) hb)
      have HD4 := Lib.hid (bld_below (bld_below HBd.out (Below.alloc0 (Below.refl _ _) _)) hb)
      clear hb d0 d1 d2 d3 d4 d5 d6 d7 d8
      have CW := Lib.hid (bldStr_any w.heap.size w.heap.size bs (strOfNums (txN x)) W4 HD4.out (by have := HLN.out; have := HTL.out; omega) HB4.out.size)
      go_wp2_with fail
      refine CW.out.mono ?_
      rintro e W5 ⟨rfl, hd, hb⟩
      have HB5 := Lib.hid (Below.trans HB4.out hb)
      have HD5 : Hid (Bld w.heap.size w.heap.size (bs ++ Lib.strCells (strOfNums (txN x))) W5) := Lib.hid (.inr hd)
      have CB := Lib.hid (bldByte_any w.heap.size w.heap.size _ 10 W5 HD5.out (by have := HLN.out; have := HTL.out; rw [List.length_append, Lib.strCells_length]; omega) HB5.out.size)
      clear hd hb CW
      go_wp2_with fail
      refine CB.out.mono ?_
      rintro e W6 ⟨rfl, hd, hb⟩
      have HB6 := Lib.hid (Below.trans HB5.out hb)
      have HD6 : Hid (Bld w.heap.size w.heap.size (((l.take (k + 1)).flatMap lnN).map (Value.int .u8)) W6) := Lib.hid (.inr (by
        have e : ((l.take (k + 1)).flatMap lnN).map (Value.int .u8) = bs ++ Lib.strCells (strOfNums (txN x)) ++ [.int .u8 10] := by
          rw [HT.out, List.flatMap_append, List.flatMap_cons, List.flatMap_nil, List.append_nil, List.map_append, HBS.out, strCells_nums _ HRx.out]
          unfold lnN
          rw [List.map_append, ← List.append_assoc]; rfl
        rw [e]
        exact hd))
      clear hd hb CB
      go_wp2
      go_roundw
      case rel => exact ⟨k + 1, by omega, by go_num, HD6, HB6⟩
      case measure => simp [intOf]; omega
    · have HD : Hid (Bld w.heap.size w.heap.size (Lib.byteCells ((strOfNums (l.flatMap lnN)).data.toList)) wr) := Lib.hid (by
        have := HBd.out
        rw [List.take_of_length_le (by rw [HL.out]; omega)] at this
        rw [byteCells_nums _ (fun z hz => by
          obtain ⟨y, hy, hz⟩ := List.mem_flatMap.1 hz
          unfold lnN at hz
          rcases List.mem_append.1 hz with h | h
          · exact HRG.out y (HOK.out y hy) z h
          · obtain rfl : z = 10 := by simpa using h
            omega)]
        exact this)
      have CS := Lib.hid (Try.Builder_String_any w.heap.size w.heap.size _ wr HD.out HB.out.size)
      go_wp2_with fail
      refine CS.out.mono ?_
      rintro e W7 ⟨rfl, hb⟩
      have HB7 := Lib.hid (Below.trans HB.out hb)
      have HS : Hid ((⟨(strOfNums (l.flatMap lnN)).data.toList.toArray⟩ : ByteArray) = strOfNums (l.flatMap lnN)) := Lib.hid (by apply ByteArray.ext; simp)
      rw [HS.out]
      clear hb CS
      go_wp2
      go_ret
      exact ⟨rfl, HB7.out⟩
end Go.Proofs.Ytpleboogijgdcaa
