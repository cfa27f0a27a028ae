/- Contracts: strings.Cut at one byte; package lists' Read. -/
import Derived.Test.YtfkcogccbeolfabDoorLstF
import Derived.Test.YtfkcogccbeolfabDoorShelf
import Derived.Test.YtfkcogccbeolfabDoorBit
import Derived.Deep.QuietTactic
import Derived.BigQuiet
namespace Go.Proofs.YtfkcogccbeolfabDoor
open Go.ChangeShapes Go.WideShapes Go.ChangeAt Go.RowKit
set_option linter.unusedVariables false

/-- Ahead of the first comma; behind it; is there one? -/
def cutL (l : List UInt8) : List UInt8 × List UInt8 × Bool := if 0 ≤ Lib.indexByte l 44 then (l.take (Lib.indexByte l 44).toNat, l.drop ((Lib.indexByte l 44).toNat + 1), true) else (l, [], false)
theorem indexByte_lt (l : List UInt8) (c : UInt8) : Lib.indexByte l c < l.length := by
  induction l with
  | nil => simp [Lib.indexByte]
  | cons b l ih =>
    simp only [Lib.indexByte, List.length_cons]
    split
    · omega
    · split <;> omega
theorem cutL_len (l : List UInt8) (h : (cutL l).2.2 = true) : (cutL l).2.1.length < l.length := by
  unfold cutL at h ⊢
  by_cases h0 : 0 ≤ Lib.indexByte l 44
  · have := indexByte_lt l 44
    rw [if_pos h0]
    simp only [List.length_drop]; omega
  · rw [if_neg h0] at h; cases h
theorem cutL_le (l : List UInt8) : (cutL l).2.1.length ≤ l.length := by
  unfold cutL
  split
  · simp only [List.length_drop]; omega
  · simp
theorem extract_take (s : ByteArray) (k : Nat) : s.extract 0 k = ⟨(s.data.toList.take k).toArray⟩ := by
  apply ByteArray.ext
  apply Array.toList_inj.1
  simp [ByteArray.data_extract]
theorem extract_drop (s : ByteArray) (k : Nat) : s.extract k s.size = ⟨(s.data.toList.drop k).toArray⟩ := by
  apply ByteArray.ext
  have h := Lib.extract_to_end s k
  apply Array.toList_inj.1
  simpa using h
def strL (l : List UInt8) : ByteArray := ⟨l.toArray⟩
/-- The postbyte of names with commas between, of which p are read already; 40, 41: why not. -/
def readF (u : Bool) : Nat → List UInt8 → Int → Int × Int
  | 0, _, p => (p, 0)
  | f + 1, l, p =>
    if namedF (strL (cutL l).1) u = 0 then (0, 40)
    else if 0 < bits .and .u8 p (namedF (strL (cutL l).1) u) then (0, 41)
    else if (cutL l).2.2 then readF u f (cutL l).2.1 (bits .or .u8 p (namedF (strL (cutL l).1) u))
    else (bits .or .u8 p (namedF (strL (cutL l).1) u), 0)
/-- What Read answers. -/
def readS (l : List UInt8) (u : Bool) : Int × Int := if l = [] then (0, 0) else readF u (l.length + 1) l 0
theorem ret_cut {a b c d : ByteArray} {p q : Bool} (h : a = c) (h2 : b = d) (h3 : p = q) : Ending.returned (.tuple #[.string a, .string b, .bool p]) = .returned (.tuple #[.string c, .string d, .bool q]) := by rw [h, h2, h3]
set_option maxRecDepth 100000 in
set_option maxHeartbeats 2000000 in
theorem cut0_any (s : ByteArray) (hs : s.size ≤ 1099511627776) (w : World) :
    Calls Tryd.prog 51 #[.string s, .string ⟨#[44]⟩] w fun e w' => e = .returned (.tuple #[.string ⟨(cutL s.data.toList).1.toArray⟩, .string ⟨(cutL s.data.toList).2.1.toArray⟩, .bool (cutL s.data.toList).2.2]) ∧ ∃ n, w' = w.drewN n := by
  have hge := Lib.indexByte_ge s.data.toList 44
  have hlt := indexByte_lt s.data.toList 44
  have hlen : s.data.toList.length = s.size := by rw [Array.length_toList]; rfl
  rw [hlen] at hlt
  have CI := Lib.hid (fun w => Tryd.stringslite_Index_one s 44 w)
  have HC : Hid (cutL s.data.toList = if 0 ≤ Lib.indexByte s.data.toList 44 then (s.data.toList.take (Lib.indexByte s.data.toList 44).toNat, s.data.toList.drop ((Lib.indexByte s.data.toList 44).toNat + 1), true) else (s.data.toList, [], false)) := Lib.hid rfl
  obtain ⟨i, hi⟩ : ∃ i, Lib.indexByte s.data.toList 44 = i := ⟨_, rfl⟩
  rw [hi] at CI HC hge hlt
  clear hlen hi
  by_cases h0 : 0 ≤ i
  · obtain ⟨k, rfl⟩ := Int.eq_ofNat_of_zero_le h0
    have hk : k < s.size := by omega
    have HC' := Lib.hid (HC.out.trans (if_pos h0))
    have k0 : (0 : Int) ≤ (k : Int) := h0
    have k1 : (k : Int) ≤ (s.size : Int) := by omega
    have k2 : (k : Int) + 1 ≤ (s.size : Int) := by omega
    have t1 : IntKind.i64.wrap ((k : Int) + 1) = (k : Int) + 1 := IntWalk.i64_in _ (by omega)
    clear HC hge hlt h0
    go_enter Tryd.func51, Tryd.ntmps51
    go_wp2_with (go_at_call 71; refine (CI.out _).mono ?_; rintro e w' ⟨rfl, rfl⟩)
    go_quiet (fail)
    go_wp2
    go_ret3
    refine ⟨ret_cut ?_ ?_ (by rw [HC'.out]), _, rfl⟩
    all_goals rw [HC'.out]
    · exact extract_take s k
    · exact extract_drop s (k + 1)
  · have HC' := Lib.hid (HC.out.trans (if_neg h0))
    have hi1 : i = -1 := by omega
    subst hi1
    clear HC hge hlt h0
    go_enter Tryd.func51, Tryd.ntmps51
    go_wp2_with (go_at_call 71; refine (CI.out _).mono ?_; rintro e w' ⟨rfl, rfl⟩)
    go_ret3
    exact ⟨ret_cut (by rw [HC'.out]) (by rw [HC'.out]) (by rw [HC'.out]), 0, rfl⟩
theorem cut_any (s : ByteArray) (hs : s.size ≤ 1099511627776) (w : World) :
    Calls Tryd.prog 30 #[.string s, .string ⟨#[44]⟩] w fun e w' => e = .returned (.tuple #[.string ⟨(cutL s.data.toList).1.toArray⟩, .string ⟨(cutL s.data.toList).2.1.toArray⟩, .bool (cutL s.data.toList).2.2]) ∧ ∃ n, w' = w.drewN n := by
  go_enter Tryd.func30, Tryd.ntmps30
  go_wp2_with (go_at_call 51; refine (cut0_any s hs _).mono ?_; rintro e w' ⟨rfl, n, rfl⟩)
  go_ret3
  exact ⟨rfl, _, rfl⟩
theorem ret_read {a b c d : Int} (h : a = c) (h2 : b = d) : Ending.returned (.tuple #[.int .u8 a, .int .i64 b]) = .returned (.tuple #[.int .u8 c, .int .i64 d]) := by rw [h, h2]
theorem or_range8 (a b : Int) (ha : 0 ≤ a) (ha' : a < 256) (hb : 0 ≤ b) (hb' : b < 256) : 0 ≤ bits .or .u8 a b ∧ bits .or .u8 a b < 256 := by
  rw [bv_or]
  have := (bv a ||| bv b).isLt
  omega
theorem drewN2 (w : World) (n m : Nat) : (w.drewN n).drewN m = w.drewN (n + m) := by simp [World.drewN, Nat.add_assoc]
theorem OregAt.drewN {w : World} (h : OregAt w) (n : Nat) : OregAt (w.drewN n) := h
theorem LregAt.drewN {w : World} (h : LregAt w) (n : Nat) : LregAt (w.drewN n) := h
def ReadIs (w : World) (x : Int × Int) (e : Ending) (w' : World) : Prop := e = .returned (.tuple #[.int .u8 x.1, .int .i64 x.2]) ∧ ∃ n, w' = w.drewN n
set_option maxRecDepth 100000 in
set_option maxHeartbeats 4000000 in
theorem read_some (l : List UInt8) (hl : l.length ≤ 1099511627776) (hne : l ≠ []) (st : Int) (w : World) (hT : OregAt w) (hR : LregAt w) :
    Calls Tryd.prog 8 #[.string (strL l), .int .i64 st] w (ReadIs w (readF (st == 3) (l.length + 1) l 0)) := by
  have HT := Lib.hid hT
  have HR := Lib.hid hR
  have HL := Lib.hid hl
  have hE : (strL l).toList.isEmpty = false := by
    rw [ByteArray.toList_eq]
    cases l with
    | nil => exact absurd rfl hne
    | cons a b => rfl
  have hE2 : (strL l).toList = [] ↔ False := by
    rw [ByteArray.toList_eq]
    cases l with
    | nil => exact absurd rfl hne
    | cons a b => simp [strL]
  obtain ⟨u, hu⟩ : ∃ u, (st == 3) = u := ⟨_, rfl⟩
  have HU := Lib.hid hu
  rw [hu]
  obtain ⟨V, hV⟩ : ∃ V, readF u (l.length + 1) l 0 = V := ⟨_, rfl⟩
  have HV := Lib.hid hV
  rw [hV]
  clear hT hR hl hne hu hV
  go_enter Tryd.func8, Tryd.ntmps8
  go_wp2
  clear hE hE2
  go_loopw [0, 6, 7] (fun u0 u6 u7 wr => ∃ (l' : List UInt8) (p : Int) (more : Bool) (f : Nat), u0 = .string (strL l') ∧ u6 = .int .u8 p ∧ u7 = .bool more ∧ 0 ≤ p ∧ p < 256 ∧ Hid ((more = true → l'.length < f) ∧ l'.length ≤ 1099511627776) ∧ Hid (∃ n, wr = w.drewN n) ∧ Hid (V = if more then readF u f l' p else (p, 0)))
    (fun u0 _ u7 _ => match u0, u7 with | .string s, .bool true => s.data.toList.length + 1 | _, _ => 0)
  case atStart => exact ⟨l, 0, true, l.length + 1, rfl, rfl, rfl, by omega, by omega, Lib.hid ⟨fun _ => by omega, HL.out⟩, Lib.hid ⟨0, rfl⟩, Lib.hid HV.out.symm⟩
  case round =>
    obtain ⟨l', p, more, f, rfl, rfl, rfl, p0, p1, HLt, HW, HV'⟩ := hrel
    cases more
    · obtain ⟨n, hn⟩ := HW.out
      go_wp2
      go_ret2
      exact ⟨ret_read (by rw [HV'.out]; rfl) (by rw [HV'.out]; rfl), n, hn⟩
    · have CC := Lib.hid (fun w => cut_any (strL l') (by show l'.toArray.size ≤ _; have := HLt.out.2; simpa using this) w)
      have hdt : (strL l').data.toList = l' := by simp [strL]
      rw [hdt] at CC
      have CN := Lib.hid (fun w hT hR => named_any (strL (cutL l').1) st w hT hR)
      obtain ⟨n0, n1⟩ := namedF_range (strL (cutL l').1) u
      have HC := Lib.hid (And.intro (cutL_len l') (cutL_le l'))
      have HTr := Lib.hid (show OregAt wr by obtain ⟨n, rfl⟩ := HW.out; exact HT.out.drewN n)
      have HRr := Lib.hid (show LregAt wr by obtain ⟨n, rfl⟩ := HW.out; exact HR.out.drewN n)
      have HVS : Hid (V = if namedF (strL (cutL l').1) u = 0 then (0, 40)
        else if 0 < bits .and .u8 p (namedF (strL (cutL l').1) u) then (0, 41)
        else if (cutL l').2.2 then readF u (f - 1) (cutL l').2.1 (bits .or .u8 p (namedF (strL (cutL l').1) u))
        else (bits .or .u8 p (namedF (strL (cutL l').1) u), 0)) := Lib.hid (by
          have h1 := HV'.out
          have h2 := HLt.out.1 rfl
          rw [if_pos rfl, show f = (f - 1) + 1 by omega] at h1
          exact h1)
      rw [HU.out] at CN
      obtain ⟨r0, r1⟩ := or_range8 p (namedF (strL (cutL l').1) u) p0 p1 n0 n1
      obtain ⟨x1, x2, x3⟩ : True ∧ True ∧ True := ⟨trivial, trivial, trivial⟩
      obtain ⟨N, hN⟩ : ∃ N, namedF (strL (cutL l').1) u = N := ⟨_, rfl⟩
      rw [hN] at CN n0 n1 HVS r0 r1
      clear hN
      have hcs : (⟨(cutL l').1.toArray⟩ : ByteArray) = strL (cutL l').1 := rfl
      have hcs2 : (⟨(cutL l').2.1.toArray⟩ : ByteArray) = strL (cutL l').2.1 := rfl
      rw [hcs, hcs2] at CC
      obtain ⟨q1, hq1⟩ : ∃ q, (cutL l').1 = q := ⟨_, rfl⟩
      obtain ⟨q2, hq2⟩ : ∃ q, (cutL l').2.1 = q := ⟨_, rfl⟩
      obtain ⟨q3, hq3⟩ : ∃ q, (cutL l').2.2 = q := ⟨_, rfl⟩
      rw [hq1] at CC CN
      rw [hq2] at CC HC HVS
      rw [hq3] at CC HC HVS
      obtain ⟨A, hA⟩ : ∃ A, bits .and .u8 p N = A := ⟨_, rfl⟩
      rw [hA] at HVS
      obtain ⟨B, hB⟩ : ∃ B, bits .or .u8 p N = B := ⟨_, rfl⟩
      rw [hB] at HVS r0 r1
      clear hq1 hq2 hq3 hcs hcs2 hdt x1 x2 x3
      by_cases c1 : N = 0
      · subst c1
        have HV2 := Lib.hid (HVS.out.trans (if_pos rfl))
        clear hA hB
        go_wp2_with fail
        refine (CC.out _).mono ?_
        rintro e w1 ⟨rfl, m, rfl⟩
        go_wp2_with fail
        refine (CN.out _ (HTr.out.drewN m) (HRr.out.drewN m)).mono ?_
        rintro e w1 ⟨rfl, rfl⟩
        go_wp2
        go_ret2
        obtain ⟨n, rfl⟩ := HW.out
        exact ⟨ret_read (by rw [HV2.out]) (by rw [HV2.out]), n + m, drewN2 w n m⟩
      · have e1 : (N == 0) = false := by simpa using c1
        by_cases c2 : 0 < A
        · have d2 : decide (0 < A) = true := decide_eq_true c2
          have HV2 := Lib.hid ((HVS.out.trans (if_neg c1)).trans (if_pos c2))
          clear c1 c2
          go_wp2_with fail
          refine (CC.out _).mono ?_
          rintro e w1 ⟨rfl, m, rfl⟩
          go_wp2_with fail
          refine (CN.out _ (HTr.out.drewN m) (HRr.out.drewN m)).mono ?_
          rintro e w1 ⟨rfl, rfl⟩
          go_wp2
          go_ret2
          obtain ⟨n, rfl⟩ := HW.out
          exact ⟨ret_read (by rw [HV2.out]) (by rw [HV2.out]), n + m, drewN2 w n m⟩
        · have d2 : decide (0 < A) = false := decide_eq_false c2
          have HV2 := Lib.hid ((HVS.out.trans (if_neg c1)).trans (if_neg c2))
          clear c1 c2
          go_wp2_with fail
          refine (CC.out _).mono ?_
          rintro e w1 ⟨rfl, m, rfl⟩
          go_wp2_with fail
          refine (CN.out _ (HTr.out.drewN m) (HRr.out.drewN m)).mono ?_
          rintro e w1 ⟨rfl, rfl⟩
          go_wp2
          go_roundw
          case rel =>
            exact ⟨q2, B, q3, f - 1, rfl, rfl, rfl, r0, r1, Lib.hid ⟨fun h => by have := HC.out.1 h; have := HLt.out.1 (by trivial); omega, by have := HC.out.2; have := HLt.out.2; omega⟩, Lib.hid (by obtain ⟨n, rfl⟩ := HW.out; exact ⟨n + m, drewN2 w n m⟩), HV2⟩
          case measure =>
            have h1 := HC.out.1
            cases q3
            · simp [strL]
            · have := h1 rfl
              simp [strL]; omega
end Go.Proofs.YtfkcogccbeolfabDoor
