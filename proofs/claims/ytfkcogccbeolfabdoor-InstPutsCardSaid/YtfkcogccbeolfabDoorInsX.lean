/- Contracts: bytes.HasPrefix; package inst's Next, Target, Same; the chapter's example (alive18). -/
import Derived.Test.YtfkcogccbeolfabDoorInsW
import Derived.Deep.CutBlock
import Derived.Test.YtfkcogccbeolfabDoorEq
namespace Go.Proofs.YtfkcogccbeolfabDoor
open Go.ChangeShapes Go.WideShapes Go.ChangeAt Go.RowKit
set_option linter.unusedVariables false

theorem Ints.take_ {k : IntKind} {w : World} {B n : Nat} {A : Option Addr} {xs : List Int} (h : Ints k w B A n xs) (m : Nat) (hm : m ≤ n) : Ints k w B A m (xs.take m) := by
  obtain ⟨h1, h2, h3⟩ := h
  refine ⟨by rw [List.length_take]; omega, fun z hz => h2 z (List.mem_of_mem_take hz), fun h0 => ?_⟩
  obtain ⟨b, off, e, hb, hc⟩ := h3 (by omega)
  refine ⟨b, off, e, hb, fun i hi => ?_⟩
  rw [hc i (by omega), iat_eq _ _ (by rw [h1]; omega), iat_eq _ _ (by rw [List.length_take, h1]; omega), List.getElem_take]
theorem ints_blk18 {w : World} {g : Nat} {t : TypeId} {xs : List Int} (h : Blk w g t (xs.map (Value.int .u8)).toArray) (hwf : ∀ z ∈ xs, (Lit.int .u8 z).wf = true) (n : Nat) (hn : xs.length = n) :
    Ints .u8 w w.heap.size (some ⟨g, 0, none⟩) n xs :=
  ⟨hn, hwf, fun _ => ⟨g, 0, rfl, h.lt, fun i hi => by
    rw [Nat.zero_add, h.cell, List.getElem?_toArray, List.getElem?_map, List.getElem?_eq_getElem (by omega), iat_eq _ _ (by omega)]; rfl⟩⟩
def hasPre (xs ys : List Int) : Bool := decide (ys.length ≤ xs.length) && (xs.take ys.length == ys)
set_option maxRecDepth 100000 in
set_option maxHeartbeats 1000000 in
theorem hasPrefix_any (A A' : Option Addr) (n c n' c' : Nat) (xs ys : List Int) (B B' : Nat) (w : World) (h : Ints .u8 w B A n xs) (h' : Ints .u8 w B' A' n' ys) (hA : A = none → n = 0 ∧ c = 0) (hc : n ≤ c) :
    Calls Tryd.prog 45 #[.slice A n c, .slice A' n' c'] w fun e w' => e = .returned (.bool (hasPre xs ys)) ∧ w = w' := by
  have hl : hasPre xs ys = (decide (n' ≤ n) && (xs.take n' == ys)) := by unfold hasPre; rw [h.1, h'.1]
  rw [hl]
  clear hl
  by_cases hn : n' ≤ n
  · have CE := Lib.hid (fun c1 c2 => bytesEqual_any A A' n' c1 n' c2 (xs.take n') ys B B' w (h.take_ n' hn) h')
    have d1 : decide ((n' : Int) ≤ (n : Int)) = true := decide_eq_true (by omega)
    have d2 : decide (n' ≤ n) = true := decide_eq_true hn
    have b1 : (n' : Int) ≤ (c : Int) := by omega
    have b2 : n' ≤ c := by omega
    rw [d2, Bool.true_and]
    generalize (xs.take n' == ys) = Z at CE ⊢
    clear h h'
    cases A with
    | none =>
      obtain ⟨rfl, rfl⟩ := hA rfl
      obtain rfl : n' = 0 := by omega
      clear hA hc hn
      go_enter Tryd.func45, Tryd.ntmps45
      go_wp2_with (go_at_call 18; refine (CE.out _ _).mono ?_; rintro e w' ⟨rfl, rfl⟩)
      go_ret
      exact ⟨rfl, rfl⟩
    | some a =>
      clear hA hc hn
      go_enter Tryd.func45, Tryd.ntmps45
      go_wp2_with (go_at_call 18; refine (CE.out _ _).mono ?_; rintro e w' ⟨rfl, rfl⟩)
      go_ret
      exact ⟨rfl, rfl⟩
  · have d1 : decide ((n' : Int) ≤ (n : Int)) = false := decide_eq_false (by omega)
    have d2 : decide (n' ≤ n) = false := decide_eq_false hn
    rw [d2, Bool.false_and]
    clear h h' hA hc hn
    go_enter Tryd.func45, Tryd.ntmps45
    go_wp2
    go_ret
    exact ⟨rfl, rfl⟩
set_option maxRecDepth 100000 in
set_option maxHeartbeats 1000000 in
theorem nextI_any (p c o m r b v l a : Int) (l0 : 0 ≤ l) (l1 : l ≤ 100) (a0 : 0 ≤ a) (a1 : a < 65536) (w : World) :
    Calls Tryd.prog 20 #[.agg (iC p c o m r b v l), .int .u16 a] w fun e w' => e = .returned (.int .u16 ((a + l) % 65536)) ∧ Below w.heap.size w w' := by
  have HB := Lib.hid (Below.alloc0 (Below.refl w.heap.size w) (Obj.cells (iC p c o m r b v l) 36))
  have t1 : IntKind.u16.wrap l = l := by rw [IntKind.wrap_u16]; omega
  go_enter Tryd.func20, Tryd.ntmps20
  go_wp2
  go_ret
  exact ⟨ret_int (by first | rfl | (rw [IntKind.wrap_u16])), HB.out⟩
def tgtI (m l v a : Int) : Int := if m = 6 ∨ m = 7 then (a + l + v) % 65536 else 0
def isRel (m : Int) : Bool := m == 6 || m == 7
theorem ret_tgt {a b : Int} {p q : Bool} (h : a = b) (h2 : p = q) : Ending.returned (.tuple #[.int .u16 a, .bool p]) = .returned (.tuple #[.int .u16 b, .bool q]) := by rw [h, h2]
set_option maxRecDepth 100000 in
set_option maxHeartbeats 2000000 in
theorem target_any (p c o m r b v l a : Int) (l0 : 0 ≤ l) (l1 : l ≤ 100) (v0 : 0 ≤ v) (v1 : v < 65536) (a0 : 0 ≤ a) (a1 : a < 65536) (w : World) :
    Calls Tryd.prog 17 #[.agg (iC p c o m r b v l), .int .u16 a] w fun e w' => e = .returned (.tuple #[.int .u16 (tgtI m l v a), .bool (isRel m)]) ∧ Below w.heap.size w w' := by
  have HB := Lib.hid (Below.alloc0 (Below.refl w.heap.size w) (Obj.cells (iC p c o m r b v l) 36))
  have HI := Lib.hid (Blk.new w 36 (iC p c o m r b v l) (0, 0))
  have CN := Lib.hid (fun w => nextI_any p c o m r b v l a l0 l1 a0 a1 w)
  have HX : Hid (((a + l) % 65536 + v) % 65536 = (a + l + v) % 65536) := Lib.hid (by omega)
  obtain ⟨x, hx⟩ : ∃ x, (a + l) % 65536 = x := ⟨_, rfl⟩
  rw [hx] at CN HX
  have x0 : 0 ≤ x := by omega
  have x1 : x < 65536 := by omega
  clear hx
  have t1 : IntKind.u16.wrap (x + v) = (x + v) % 65536 := by rw [IntKind.wrap_u16]
  rcases (show m = 6 ∨ m = 7 ∨ (¬ m = 6 ∧ ¬ m = 7) by omega) with rfl | rfl | ⟨h6, h7⟩
  · have HId := Lib.hid (Blk.drew HI.out)
    have HBd := Lib.hid (Below.drew0 HB.out)
    go_enter Tryd.func17, Tryd.ntmps17
    go_wp2
    go_region_held3 (fun w' => w'.cell? ⟨w.heap.size, 0, none⟩ = some (.int .i64 p) ∧ w'.cell? ⟨w.heap.size, 1, none⟩ = some (.int .u8 c) ∧ w'.cell? ⟨w.heap.size, 2, none⟩ = some (.int .i64 o) ∧ w'.cell? ⟨w.heap.size, 3, none⟩ = some (.int .i64 6) ∧ w'.cell? ⟨w.heap.size, 4, none⟩ = some (.int .i64 r) ∧ w'.cell? ⟨w.heap.size, 5, none⟩ = some (.int .u8 b) ∧ w'.cell? ⟨w.heap.size, 6, none⟩ = some (.int .u16 v) ∧ w'.cell? ⟨w.heap.size, 7, none⟩ = some (.int .i64 l))
      (first
        | (with_reducible exact HId.out.s8)
        | (with_reducible exact HI2.out.s8))
      ((go_at_call 20; (with_reducible refine (CN.out _).mono ?_); rintro e w2 ⟨rfl, hb2⟩; have HI2 := Lib.hid (Blk.below HId.out hb2 HId.out.lt); have HB2 := Lib.hid (Below.trans0 HBd.out hb2); clear hb2))
    go_wp2
    all_goals
      go_ret2
      refine ⟨ret_tgt ?_ rfl, HB2.out⟩
      unfold tgtI
      first
        | (rw [if_pos (by simp)]; exact HX.out)
        | (rw [if_pos (by simp), ← HX.out, ← t1])
  · have HId := Lib.hid (Blk.drew HI.out)
    have HBd := Lib.hid (Below.drew0 HB.out)
    go_enter Tryd.func17, Tryd.ntmps17
    go_wp2
    go_region_held3 (fun w' => w'.cell? ⟨w.heap.size, 0, none⟩ = some (.int .i64 p) ∧ w'.cell? ⟨w.heap.size, 1, none⟩ = some (.int .u8 c) ∧ w'.cell? ⟨w.heap.size, 2, none⟩ = some (.int .i64 o) ∧ w'.cell? ⟨w.heap.size, 3, none⟩ = some (.int .i64 7) ∧ w'.cell? ⟨w.heap.size, 4, none⟩ = some (.int .i64 r) ∧ w'.cell? ⟨w.heap.size, 5, none⟩ = some (.int .u8 b) ∧ w'.cell? ⟨w.heap.size, 6, none⟩ = some (.int .u16 v) ∧ w'.cell? ⟨w.heap.size, 7, none⟩ = some (.int .i64 l))
      (first
        | (with_reducible exact HId.out.s8)
        | (with_reducible exact HI2.out.s8))
      ((go_at_call 20; (with_reducible refine (CN.out _).mono ?_); rintro e w2 ⟨rfl, hb2⟩; have HI2 := Lib.hid (Blk.below HId.out hb2 HId.out.lt); have HB2 := Lib.hid (Below.trans0 HBd.out hb2); clear hb2))
    go_wp2
    all_goals
      go_ret2
      refine ⟨ret_tgt ?_ rfl, HB2.out⟩
      unfold tgtI
      first
        | (rw [if_pos (by simp)]; exact HX.out)
        | (rw [if_pos (by simp), ← HX.out, ← t1])
  · have e6 := ne_beq h6
    have e7 := ne_beq h7
    have hr : tgtI m l v a = 0 := by unfold tgtI; rw [if_neg (by omega)]
    have hb : isRel m = false := by unfold isRel; rw [e6, e7]; rfl
    rw [hr, hb]
    clear h6 h7 hr hb
    go_enter Tryd.func17, Tryd.ntmps17
    go_wp2
    go_ret2
    exact ⟨rfl, HB.out⟩
set_option maxRecDepth 100000 in
set_option maxHeartbeats 2000000 in
theorem same18_any (p c o m r v l : Int) (b : Nat) (hc0 : 0 ≤ c) (hc1 : c < 256) (hb : b < 256) (v0 : 0 ≤ v) (v1 : v < 65536) (A : Option Addr) (n cap : Nat) (xs : List Int) (w : World) (hI : Ints .u8 w w.heap.size A n xs) (hA : A = none → n = 0 ∧ cap = 0) (hn : n ≤ cap) (hP : PagAt w) (hK : KindsAt w) :
    Calls Tryd.prog 19 #[.agg (iC p c o m r (b : Int) v l), .slice A n cap] w fun e w' => e = .returned (.bool (putOk p c o m r b v l (putX p c m b v) && hasPre xs (putX p c m b v))) ∧ Below w.heap.size w w' := by
  have hb1 := Below.alloc0 (Below.refl w.heap.size w) (Obj.cells (iC p c o m r (b : Int) v l) 36)
  have HB := Lib.hid hb1
  have HI := Lib.hid (Blk.new w 36 (iC p c o m r (b : Int) v l) (0, 0))
  have CP := Lib.hid (put_any p c o m r v l b hc0 hc1 hb v0 v1 _ (hP.below hb1) (kinds_below hK hb1))
  have CH := Lib.hid (fun A' c' n' ys B' wx (hbx : Below w.heap.size w wx) (h' : Ints .u8 wx B' A' n' ys) => hasPrefix_any A A' n cap n' c' xs ys w.heap.size B' wx (hI.below (Nat.le_refl _) hbx) h' hA hn)
  generalize putX p c m b v = X at CP ⊢
  generalize putOk p c o m r b v l X = ok at CP ⊢
  clear hI hA hn hP hK hb1
  go_enter Tryd.func19, Tryd.ntmps19
  go_wp2_with fail
  refine CP.out.mono ?_
  rintro e w2 ⟨A', c', rfl, hi, hb2⟩
  have HB2 := Lib.hid (Below.trans0 HB.out hb2)
  have HI2 := Lib.hid hi
  clear hb2 hi
  cases ok
  · go_wp2
    go_ret
    exact ⟨rfl, HB2.out⟩
  · have C2 := Lib.hid (CH.out A' c' _ _ _ _ HB2.out HI2.out)
    simp only [if_true] at C2
    go_wp2_with (go_at_call 45; refine C2.out.mono ?_; rintro e w' ⟨rfl, rfl⟩)
    go_ret
    exact ⟨rfl, HB2.out⟩
theorem ok18 : inOk [16, 39, 255, 252] = true := by decide +kernel
theorem parts18 : inPg [16, 39, 255, 252] = 2 ∧ inCo [16, 39, 255, 252] = 39 ∧ eOp (inE [16, 39, 255, 252]) = 35 ∧ eMode (inE [16, 39, 255, 252]) = 7 ∧ eReg (inE [16, 39, 255, 252]) = 7 ∧ inPo [16, 39, 255, 252] = 0 ∧ inVa [16, 39, 255, 252] = 65532 ∧ inLn [16, 39, 255, 252] = 4 := by decide +kernel
theorem agg18 : inAgg [16, 39, 255, 252] = iC 2 39 35 7 7 0 65532 4 := by
  obtain ⟨a, b, c, d, e, f, g, h⟩ := parts18
  unfold inAgg insC
  rw [if_pos ok18, a, b, c, d, e, f, g, h]; rfl
theorem wf18 : ∀ z ∈ ([16, 39, 255, 252] : List Int), (Lit.int .u8 z).wf = true := by decide +kernel
set_option maxRecDepth 100000 in
set_option maxHeartbeats 1000000 in
theorem alive18 (w : World) (hP : PagAt w) (hK : KindsAt w) : Calls Tryd.prog 15 #[] w fun e w' => e = .returned (.bool true) ∧ Below w.heap.size w w' := by
  have hb0 := Below.alloc0 (Below.refl w.heap.size w) (Obj.cells #[.int .u8 16, .int .u8 39, .int .u8 255, .int .u8 252] 5)
  have HB0 := Lib.hid hb0
  have C1 := ofI_any (some ⟨w.heap.size, 0, none⟩) 4 4 [16, 39, 255, 252] _ (ints_blk18 (xs := [16, 39, 255, 252]) (Blk.new w 5 _ (0, 0)) wf18 4 rfl) (by decide) (hP.below hb0) (kinds_below hK hb0)
  rw [agg18, ok18] at C1
  have CO := Lib.hid C1
  have CT := Lib.hid (fun w => target_any 2 39 35 7 7 0 65532 4 4096 (by decide) (by decide) (by decide) (by decide) (by decide) (by decide) w)
  rw [show tgtI 7 4 65532 4096 = 4096 by decide, show isRel 7 = true by decide] at CT
  clear hP hK hb0 C1
  go_enter Tryd.func15, Tryd.ntmps15
  go_wp2_with fail
  refine CO.out.mono ?_
  rintro e w1 ⟨rfl, hb1⟩
  have HB1 := Lib.hid (Below.alloc0 (Below.trans0 HB0.out hb1) (Obj.cells (iC 2 39 35 7 7 0 65532 4) 36))
  have HS1 := Lib.hid (Blk.new w1 36 (iC 2 39 35 7 7 0 65532 4) (0, 0))
  clear hb1
  go_wp2_with fail
  refine (CT.out _).mono ?_
  rintro e w2 ⟨rfl, hb2⟩
  have HB2 := Lib.hid (Below.trans0 HB1.out hb2)
  have HS2 := Lib.hid (Blk.below HS1.out hb2 HS1.out.lt)
  clear hb2
  obtain ⟨c0, c1, c2, c3, c4, c5, c6, c7⟩ := HS2.out.s8
  go_wp2
  go_ret
  exact ⟨rfl, HB2.out⟩
end Go.Proofs.YtfkcogccbeolfabDoor
