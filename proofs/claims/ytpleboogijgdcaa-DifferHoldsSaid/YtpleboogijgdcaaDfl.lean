/- In what two records differ, as a text: differ.Fields, and the law's own. -/
import Derived.Test.YtpleboogijgdcaaRcB
import Derived.Test.YtpleboogijgdcaaStE
namespace Go.Proofs.Ytpleboogijgdcaa
open Go.ChangeShapes Go.WideShapes Go.ChangeAt Go.RowKit
set_option linter.unusedVariables false

def selF (c0 c1 c2 c3 c4 c5 c6 c7 c8 : Bool) (k : Nat) : Bool := match k with | 0 => c0 | 1 => c1 | 2 => c2 | 3 => c3 | 4 => c4 | 5 => c5 | 6 => c6 | 7 => c7 | 8 => c8 | _ => false
def nmF (k : Nat) : ByteArray := match k with | 0 => ⟨#[65, 68, 68, 82]⟩ | 1 => ⟨#[68, 65, 84, 65]⟩ | 2 => ⟨#[82, 69, 65, 68]⟩ | 3 => ⟨#[66, 65]⟩ | 4 => ⟨#[66, 83]⟩ | 5 => ⟨#[76, 73, 67]⟩ | 6 => ⟨#[65, 86, 77, 65]⟩ | 7 => ⟨#[66, 85, 83, 89]⟩ | 8 => ⟨#[77, 73, 78, 69]⟩ | _ => ⟨#[]⟩
def fldS (d : Nat → Bool) : Nat → List ByteArray
  | 0 => []
  | k + 1 => if d k then fldS d k ++ [nmF k] else fldS d k
def fldL (d : Nat → Bool) : Nat → List UInt8
  | 0 => []
  | k + 1 => if d k then (bif (fldL d k).isEmpty then [] else fldL d k ++ [32]) ++ (nmF k).data.toList else fldL d k
def joinF (L : List ByteArray) : List UInt8 := Lib.join (L.map (·.data.toList)) [32]
def allF (f : (Nat → Bool) → Bool) : Bool := [true, false].all fun c0 => [true, false].all fun c1 => [true, false].all fun c2 => [true, false].all fun c3 => [true, false].all fun c4 => [true, false].all fun c5 => [true, false].all fun c6 => [true, false].all fun c7 => [true, false].all fun c8 => f (selF c0 c1 c2 c3 c4 c5 c6 c7 c8)
theorem all2 (f : Bool → Bool) (h : [true, false].all f = true) (b : Bool) : f b = true := by
  simp only [List.all_cons, List.all_nil, Bool.and_true, Bool.and_eq_true] at h
  cases b
  · exact h.2
  · exact h.1
theorem allF_of (f : (Nat → Bool) → Bool) (h : allF f = true) (c0 c1 c2 c3 c4 c5 c6 c7 c8 : Bool) : f (selF c0 c1 c2 c3 c4 c5 c6 c7 c8) = true := all2 _ (all2 _ (all2 _ (all2 _ (all2 _ (all2 _ (all2 _ (all2 _ (all2 _ h c0) c1) c2) c3) c4) c5) c6) c7) c8
def dfl (x y : Rc) : Nat → Bool := selF (x.a != y.a) (x.d != y.d) (x.r != y.r) (x.b1 != y.b1) (x.b2 != y.b2) (x.b3 != y.b3) (x.b4 != y.b4) (x.b5 != y.b5) (x.m != y.m)
def fldT (x y : Rc) (k : Nat) : ByteArray := ⟨(fldL (dfl x y) k).toArray⟩
def ckF (d : Nat → Bool) : Bool := (joinF (fldS d 9) == fldL d 9) && ((List.range 10).all fun k => decide ((fldL d k).length ≤ 60)) && decide ((fldS d 9).length ≤ 9)
theorem ckF_all : allF ckF = true := by decide +kernel
theorem dfl_ck (x y : Rc) : joinF (fldS (dfl x y) 9) = fldL (dfl x y) 9 ∧ (∀ k, k < 10 → (fldL (dfl x y) k).length ≤ 60) ∧ (fldS (dfl x y) 9).length ≤ 9 := by
  have h := allF_of ckF ckF_all (x.a != y.a) (x.d != y.d) (x.r != y.r) (x.b1 != y.b1) (x.b2 != y.b2) (x.b3 != y.b3) (x.b4 != y.b4) (x.b5 != y.b5) (x.m != y.m)
  unfold ckF at h
  simp only [Bool.and_eq_true, beq_iff_eq, List.all_eq_true, List.mem_range, decide_eq_true_eq] at h
  exact ⟨h.1.1, h.1.2, h.2⟩
theorem fldS_len (d : Nat → Bool) (k : Nat) : (fldS d k).length ≤ k := by
  induction k with
  | zero => simp [fldS]
  | succ k ih =>
    unfold fldS
    split
    · rw [List.length_append]; simp; exact ih
    · omega
set_option maxRecDepth 100000 in
set_option maxHeartbeats 2000000 in
theorem fldOne (g base : Nat) (L : List ByteArray) (nm : ByteArray) (on : Bool) (w : World) (h : BoxS w base g L) (hL : L.length ≤ 1000) (hb : base ≤ w.heap.size) (hg : base ≤ g) :
    Calls Try.prog 37 #[.string nm, .bool on, .pointer (some ⟨g, 0, none⟩)] w fun e w' => (∃ v, e = .returned v) ∧ BoxS w' base g (if on then L ++ [nm] else L) ∧ Below base w w' := by
  obtain ⟨v, h1, h2, h3⟩ := h
  cases on
  case false =>
    have HX : Hid (BoxS w base g L) := Lib.hid ⟨v, h1, h2, h3⟩
    clear h1 h2 h3
    go_enter Try.func37, Try.ntmps37
    go_wp2
    go_end0
    exact ⟨⟨_, rfl⟩, HX.out, Below.refl _ _⟩
  case true =>
    have H1 := Lib.hid h1
    have H2 := Lib.hid h2
    have H3 := Lib.hid h3
    have q0 : w.cell? ⟨g, 0, none⟩ = some v := by rw [h1.cell]; rfl
    have HR : Hid (eS.Rd (w.alloc (.cells #[.string nm] 9)) (.slice (some ⟨w.heap.size, 0, none⟩) 1 1) [nm]) := Lib.hid (Els.Rd.lit w _ [nm] _ 1 rfl rfl 1)
    clear h1 h2 h3
    go_enter Try.func37, Try.ntmps37
    go_wp2_with (at_builtin; refine wpList_appS rfl _ (.tmp 6) (.tmp 8) rfl base v _ L [nm] rfl (H2.out.alloc _) rfl HR.out (by simp; omega) (by simp; omega) ?_; intro v' w2 hown hbel hgr hwh; have hb2 : Blk w2 g 77 #[v] := Blk.grown (Blk.alloc H1.out _) hgr (fun e => H3.out e.symm); have q2 : w2.cell? ⟨g, 0, none⟩ = some v := (hb2.cell 0).trans rfl; have f2 := hb2.frozen 0; have HB2 := Lib.hid hb2; have HO2 := Lib.hid hown; have HN2 : Hid (v'.ownBlock ≠ some g) := Lib.hid (by have hlt := H1.out.lt; rcases hwh with e | e; (rw [e]; exact H3.out); (rw [e]; simp; omega)); have HL2 := Lib.hid hbel; obtain ⟨g', cap', hv'⟩ := Els.Own.val hown; subst hv'; clear hb2 hown hbel hgr hwh)
    go_wp2
    go_end0
    exact ⟨⟨_, rfl⟩, ⟨_, Blk.set_ HB2.out 0 _, Els.Own.setFar HO2.out HN2.out _, HN2.out⟩, Below.set0 (Below.trans (Below.alloc (Below.refl _ _) hb _) HL2.out) hg _⟩
abbrev StF (w : World) (x y : Rc) (k : Nat) (W : World) : Prop := Blk W w.heap.size 26 (rc9 x) ∧ Blk W (w.heap.size + 1) 26 (rc9 y) ∧ BoxS W (w.heap.size + 2) (w.heap.size + 2) (fldS (dfl x y) k) ∧ Below w.heap.size w W
theorem fld_step (w : World) (x y : Rc) (k : Nat) (hk : k < 9) (W : World) (h : StF w x y k W) :
    Calls Try.prog 37 #[.string (nmF k), .bool (dfl x y k), .pointer (some ⟨w.heap.size + 2, 0, none⟩)] W fun e W' => (∃ v, e = .returned v) ∧ StF w x y (k + 1) W' := by
  obtain ⟨h1, h2, h3, h4⟩ := h
  have l3 : w.heap.size + 2 < W.heap.size := by obtain ⟨v, hb, _⟩ := h3; exact hb.lt
  refine (fldOne _ _ _ (nmF k) (dfl x y k) W h3 (Nat.le_trans (fldS_len _ _) (by omega)) (by omega) (Nat.le_refl _)).mono ?_
  rintro e W' ⟨he, hb, hbel⟩
  exact ⟨he, h1.below hbel (by omega), h2.below hbel (by omega), hb, Below.trans h4 (hbel.mono (by omega))⟩
set_option maxRecDepth 100000 in
set_option maxHeartbeats 4000000 in
theorem fields_any (x y : Rc) (w : World) : Calls Try.prog 14 #[.agg x.cells, .agg y.cells] w fun e w' => e = .returned (.string (fldT x y 9)) ∧ Below w.heap.size w w' := by
  have S0 : Hid (StF w x y 0 (((w.alloc (.cells (rc9 x) 26)).alloc (.cells (rc9 y) 26)).alloc (.cells #[.slice none 0 0] 77))) := Lib.hid ⟨Blk.alloc (Blk.alloc (Blk.new _ _ _ _) _) _, Blk.alloc (Blk.at1 _) _, ⟨_, Blk.at2 _ _, Els.Own.nil_ _ _, by intro h; cases h⟩, Below.alloc0 (Below.alloc0 (Below.alloc0 (Below.refl _ _) _) _) _⟩
  have C0 : Hid (∀ W, StF w x y 0 W → Calls Try.prog 37 #[.string ⟨#[65, 68, 68, 82]⟩, .bool (x.a != y.a), .pointer (some ⟨w.heap.size + 2, 0, none⟩)] W fun e W' => (∃ v, e = .returned v) ∧ StF w x y 1 W') := Lib.hid (fun W h => fld_step w x y 0 (by decide) W h)
  have C1 : Hid (∀ W, StF w x y 1 W → Calls Try.prog 37 #[.string ⟨#[68, 65, 84, 65]⟩, .bool (x.d != y.d), .pointer (some ⟨w.heap.size + 2, 0, none⟩)] W fun e W' => (∃ v, e = .returned v) ∧ StF w x y 2 W') := Lib.hid (fun W h => fld_step w x y 1 (by decide) W h)
  have C2 : Hid (∀ W, StF w x y 2 W → Calls Try.prog 37 #[.string ⟨#[82, 69, 65, 68]⟩, .bool (x.r != y.r), .pointer (some ⟨w.heap.size + 2, 0, none⟩)] W fun e W' => (∃ v, e = .returned v) ∧ StF w x y 3 W') := Lib.hid (fun W h => fld_step w x y 2 (by decide) W h)
  have C3 : Hid (∀ W, StF w x y 3 W → Calls Try.prog 37 #[.string ⟨#[66, 65]⟩, .bool (x.b1 != y.b1), .pointer (some ⟨w.heap.size + 2, 0, none⟩)] W fun e W' => (∃ v, e = .returned v) ∧ StF w x y 4 W') := Lib.hid (fun W h => fld_step w x y 3 (by decide) W h)
  have C4 : Hid (∀ W, StF w x y 4 W → Calls Try.prog 37 #[.string ⟨#[66, 83]⟩, .bool (x.b2 != y.b2), .pointer (some ⟨w.heap.size + 2, 0, none⟩)] W fun e W' => (∃ v, e = .returned v) ∧ StF w x y 5 W') := Lib.hid (fun W h => fld_step w x y 4 (by decide) W h)
  have C5 : Hid (∀ W, StF w x y 5 W → Calls Try.prog 37 #[.string ⟨#[76, 73, 67]⟩, .bool (x.b3 != y.b3), .pointer (some ⟨w.heap.size + 2, 0, none⟩)] W fun e W' => (∃ v, e = .returned v) ∧ StF w x y 6 W') := Lib.hid (fun W h => fld_step w x y 5 (by decide) W h)
  have C6 : Hid (∀ W, StF w x y 6 W → Calls Try.prog 37 #[.string ⟨#[65, 86, 77, 65]⟩, .bool (x.b4 != y.b4), .pointer (some ⟨w.heap.size + 2, 0, none⟩)] W fun e W' => (∃ v, e = .returned v) ∧ StF w x y 7 W') := Lib.hid (fun W h => fld_step w x y 6 (by decide) W h)
  have C7 : Hid (∀ W, StF w x y 7 W → Calls Try.prog 37 #[.string ⟨#[66, 85, 83, 89]⟩, .bool (x.b5 != y.b5), .pointer (some ⟨w.heap.size + 2, 0, none⟩)] W fun e W' => (∃ v, e = .returned v) ∧ StF w x y 8 W') := Lib.hid (fun W h => fld_step w x y 7 (by decide) W h)
  have C8 : Hid (∀ W, StF w x y 8 W → Calls Try.prog 37 #[.string ⟨#[77, 73, 78, 69]⟩, .bool (x.m != y.m), .pointer (some ⟨w.heap.size + 2, 0, none⟩)] W fun e W' => (∃ v, e = .returned v) ∧ StF w x y 9 W') := Lib.hid (fun W h => fld_step w x y 8 (by decide) W h)
  obtain ⟨W0, hW0⟩ : ∃ W0, (((w.alloc (.cells (rc9 x) 26)).alloc (.cells (rc9 y) 26)).alloc (.cells #[.slice none 0 0] 77)) = W0 := ⟨_, rfl⟩
  rw [hW0] at S0
  have JJ := Lib.hid (dfl_ck x y)
  go_enter Try.func14, Try.ntmps14
  obtain ⟨p0, p1, p2, p3, p4, p5, p6, p7, p8⟩ := Blk.c9 S0.out.1
  obtain ⟨r0, r1, r2, r3, r4, r5, r6, r7, r8⟩ := Blk.c9 S0.out.2.1
  simp only [rc9] at hW0
  go_wp2_with fail
  refine (C0.out _ S0.out).mono ?_
  rintro e W1 ⟨⟨v, rfl⟩, hS⟩
  have S1 := Lib.hid hS
  clear hS C0 p0 p1 p2 p3 p4 p5 p6 p7 p8 r0 r1 r2 r3 r4 r5 r6 r7 r8
  obtain ⟨p0, p1, p2, p3, p4, p5, p6, p7, p8⟩ := Blk.c9 S1.out.1
  obtain ⟨r0, r1, r2, r3, r4, r5, r6, r7, r8⟩ := Blk.c9 S1.out.2.1
  go_wp2_with fail
  refine (C1.out _ S1.out).mono ?_
  rintro e W2 ⟨⟨v, rfl⟩, hS⟩
  have S2 := Lib.hid hS
  clear hS C1 p0 p1 p2 p3 p4 p5 p6 p7 p8 r0 r1 r2 r3 r4 r5 r6 r7 r8
  obtain ⟨p0, p1, p2, p3, p4, p5, p6, p7, p8⟩ := Blk.c9 S2.out.1
  obtain ⟨r0, r1, r2, r3, r4, r5, r6, r7, r8⟩ := Blk.c9 S2.out.2.1
  go_wp2_with fail
  refine (C2.out _ S2.out).mono ?_
  rintro e W3 ⟨⟨v, rfl⟩, hS⟩
  have S3 := Lib.hid hS
  clear hS C2 p0 p1 p2 p3 p4 p5 p6 p7 p8 r0 r1 r2 r3 r4 r5 r6 r7 r8
  obtain ⟨p0, p1, p2, p3, p4, p5, p6, p7, p8⟩ := Blk.c9 S3.out.1
  obtain ⟨r0, r1, r2, r3, r4, r5, r6, r7, r8⟩ := Blk.c9 S3.out.2.1
  go_wp2_with fail
  refine (C3.out _ S3.out).mono ?_
  rintro e W4 ⟨⟨v, rfl⟩, hS⟩
  have S4 := Lib.hid hS
  clear hS C3 p0 p1 p2 p3 p4 p5 p6 p7 p8 r0 r1 r2 r3 r4 r5 r6 r7 r8
  obtain ⟨p0, p1, p2, p3, p4, p5, p6, p7, p8⟩ := Blk.c9 S4.out.1
  obtain ⟨r0, r1, r2, r3, r4, r5, r6, r7, r8⟩ := Blk.c9 S4.out.2.1
  go_wp2_with fail
  refine (C4.out _ S4.out).mono ?_
  rintro e W5 ⟨⟨v, rfl⟩, hS⟩
  have S5 := Lib.hid hS
  clear hS C4 p0 p1 p2 p3 p4 p5 p6 p7 p8 r0 r1 r2 r3 r4 r5 r6 r7 r8
  obtain ⟨p0, p1, p2, p3, p4, p5, p6, p7, p8⟩ := Blk.c9 S5.out.1
  obtain ⟨r0, r1, r2, r3, r4, r5, r6, r7, r8⟩ := Blk.c9 S5.out.2.1
  go_wp2_with fail
  refine (C5.out _ S5.out).mono ?_
  rintro e W6 ⟨⟨v, rfl⟩, hS⟩
  have S6 := Lib.hid hS
  clear hS C5 p0 p1 p2 p3 p4 p5 p6 p7 p8 r0 r1 r2 r3 r4 r5 r6 r7 r8
  obtain ⟨p0, p1, p2, p3, p4, p5, p6, p7, p8⟩ := Blk.c9 S6.out.1
  obtain ⟨r0, r1, r2, r3, r4, r5, r6, r7, r8⟩ := Blk.c9 S6.out.2.1
  go_wp2_with fail
  refine (C6.out _ S6.out).mono ?_
  rintro e W7 ⟨⟨v, rfl⟩, hS⟩
  have S7 := Lib.hid hS
  clear hS C6 p0 p1 p2 p3 p4 p5 p6 p7 p8 r0 r1 r2 r3 r4 r5 r6 r7 r8
  obtain ⟨p0, p1, p2, p3, p4, p5, p6, p7, p8⟩ := Blk.c9 S7.out.1
  obtain ⟨r0, r1, r2, r3, r4, r5, r6, r7, r8⟩ := Blk.c9 S7.out.2.1
  go_wp2_with fail
  refine (C7.out _ S7.out).mono ?_
  rintro e W8 ⟨⟨v, rfl⟩, hS⟩
  have S8 := Lib.hid hS
  clear hS C7 p0 p1 p2 p3 p4 p5 p6 p7 p8 r0 r1 r2 r3 r4 r5 r6 r7 r8
  obtain ⟨p0, p1, p2, p3, p4, p5, p6, p7, p8⟩ := Blk.c9 S8.out.1
  obtain ⟨r0, r1, r2, r3, r4, r5, r6, r7, r8⟩ := Blk.c9 S8.out.2.1
  go_wp2_with fail
  refine (C8.out _ S8.out).mono ?_
  rintro e W9 ⟨⟨v, rfl⟩, hS⟩
  have S9 := Lib.hid hS
  clear hS C8 p0 p1 p2 p3 p4 p5 p6 p7 p8 r0 r1 r2 r3 r4 r5 r6 r7 r8
  obtain ⟨p0, p1, p2, p3, p4, p5, p6, p7, p8⟩ := Blk.c9 S9.out.1
  obtain ⟨r0, r1, r2, r3, r4, r5, r6, r7, r8⟩ := Blk.c9 S9.out.2.1
  obtain ⟨v, hv, hO, hne⟩ := S9.out.2.2.1
  have q0 : W9.cell? ⟨w.heap.size + 2, 0, none⟩ = some v := (hv.cell 0).trans rfl
  have CJ := Lib.hid (joinS_any v _ _ ⟨#[32]⟩ W9 hO (Nat.le_trans (fldS_len _ _) (by omega)) (by have h1 := JJ.out.1; have h2 := JJ.out.2.1 9 (by omega); unfold joinF at h1; rw [h1]; omega))
  clear hv hO hne
  go_wp2_with fail
  refine CJ.out.mono ?_
  rintro e w2 ⟨rfl, hb⟩
  have HB := Lib.hid (Below.trans0 S9.out.2.2.2 hb)
  go_wp2
  go_ret
  exact ⟨congrArg (fun l => Ending.returned (.string ⟨List.toArray l⟩)) JJ.out.1, HB.out⟩
end Go.Proofs.Ytpleboogijgdcaa
