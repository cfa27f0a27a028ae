/- The law FrameEnters answers true for every input, and each argument reads afterwards as it read before. Conditions: none. -/
import Derived.Test.YtkdekhcnamkcgacRows
import Derived.WalkKit
import Derived.ProofKit
import Derived.OpenShut
import Derived.ShutString
import Derived.ChangeOld
import Derived.Below
import Derived.Test.YtkdekhcnamkcgacFrmR
namespace Go.Proofs.Ytkdekhcnamkcgac.frameEnters
open Go.ChangeShapes Go.WideShapes Go.ChangeAt Go.RowKit
open Go.ChangeMaps (open_string shut_string)
set_option linter.unusedVariables false      -- a walk need not use every 'w<i>' (that an integer argument fits its kind)

theorem own : ownKnob Try.prog.godebug = none := by kernel_rfl

set_option maxRecDepth 100000 in
set_option maxHeartbeats 8000000 in
theorem walk (a0 : Int) (a1 : Int) (a2 : Int) (w0 : (Lit.int .i64 a0).wf = true) (w1 : (Lit.int .i64 a1).wf = true) (w2 : (Lit.int .u8 a2).wf = true) (w : World) :
    Calls Try.prog 5 #[.int .i64 a0, .int .i64 a1, .int .u8 a2] w fun e w' => e = .returned (.bool true) ∧ Below w.heap.size w w' := by
  -- heartbeats 8000000
  have b2 := bounds_u8 w2
  have hcc : CC a2 := CC.mk' b2.1 (by omega)
  clear w0 w1 w2 b2
  have C1 := Lib.hid (fun w => frameOf_any a0 a2 hcc w)
  have C2 := Lib.hid (fun w => frameSoft_any a1 a2 hcc w)
  have D1 := Lib.hid (fun h w => refOf25_any a0 a2 hcc (Or.inl h) w)
  have D2 := Lib.hid (fun (h : 1 ≤ a1 ∧ a1 ≤ 3) w => refOf25_any (10 + a1) a2 hcc (Or.inr (by omega)) w)
  have H1 := Lib.hid (show enO a0 a2 = if 1 ≤ a0 ∧ a0 ≤ 7 then enT a0 a2 else noE from rfl)
  have H2 := Lib.hid (show enS a1 a2 = if 1 ≤ a1 ∧ a1 ≤ 3 then enT (10 + a1) a2 else noE from rfl)
  generalize enO a0 a2 = r at C1 H1
  generalize enS a1 a2 = s at C2 H2
  generalize enT a0 a2 = r' at D1 H1
  generalize enT (10 + a1) a2 = s' at D2 H2
  have q10 : ∀ (h : 1 ≤ a1 ∧ a1 ≤ 3), IntKind.i64.wrap (10 + a1) = 10 + a1 := fun h => IntWalk.i64_in _ (by omega)
  have HX : Hid ((1 ≤ a0 ∧ a0 ≤ 7 ∧ r = r') ∨ ((a0 < 1 ∨ 7 < a0) ∧ r = noE)) := Lib.hid (by
    have := H1.out
    by_cases h : 1 ≤ a0 ∧ a0 ≤ 7
    · rw [if_pos h] at this; exact .inl ⟨h.1, h.2, this⟩
    · rw [if_neg h] at this; exact .inr ⟨by omega, this⟩)
  have HY : Hid ((1 ≤ a1 ∧ a1 ≤ 3 ∧ s = s') ∨ ((a1 < 1 ∨ 3 < a1) ∧ s = noE)) := Lib.hid (by
    have := H2.out
    by_cases h : 1 ≤ a1 ∧ a1 ≤ 3
    · rw [if_pos h] at this; exact .inl ⟨h.1, h.2, this⟩
    · rw [if_neg h] at this; exact .inr ⟨by omega, this⟩)
  clear H1 H2
  have Q10 := Lib.hid q10
  clear q10
  rcases HX.out with ⟨p1, p2, rfl⟩ | ⟨p1 | p1, rfl⟩ <;> rcases HY.out with ⟨p3, p4, rfl⟩ | ⟨p3 | p3, rfl⟩
  all_goals
    clear HX HY
  · obtain ⟨r1, r2, r3, r4, r5⟩ := r
    obtain ⟨s1, s2, s3, s4, s5⟩ := s
    unfold enC at C1 C2 D1 D2
    simp only at C1 C2 D1 D2
    have Q := Q10.out ⟨p3, p4⟩
    go_enter Try.func5, Try.ntmps5
    go_wp2_with fail
    refine (C1.out _).mono ?_
    rintro e w1 ⟨rfl, hb⟩
    have FA := Lib.hid (Blk.new w1 35 #[.int .u8 r1, .int .u8 r2, .int .u16 r3, .bool r4] (0, 0))
    have HB := Lib.hid (Below.alloc0 hb (Obj.cells #[.int .u8 r1, .int .u8 r2, .int .u16 r3, .bool r4] 35))
    clear hb
    go_wp2_with fail
    refine (C2.out _).mono ?_
    rintro e w2 ⟨rfl, hb⟩
    obtain ⟨ga, hga⟩ : ∃ g, w1.heap.size = g := ⟨_, rfl⟩
    rw [hga] at FA ⊢
    have LA := Lib.hid (Nat.lt_of_lt_of_le FA.out.lt hb.size)
    replace FA := Lib.hid ((FA.out.below hb FA.out.lt).alloc (Obj.cells #[.int .u8 s1, .int .u8 s2, .int .u16 s3, .bool s4] 35))
    replace FA := Lib.hid (FA.out.alloc (Obj.cells #[.int .u8 0, .int .u8 0, .int .u16 0, .bool false] 38))
    have FC := Lib.hid ((Blk.new w2 35 #[.int .u8 s1, .int .u8 s2, .int .u16 s3, .bool s4] (0, 0)).alloc (Obj.cells #[.int .u8 0, .int .u8 0, .int .u16 0, .bool false] 38))
    have FB := Lib.hid (Blk.newF w2 (Obj.cells #[.int .u8 s1, .int .u8 s2, .int .u16 s3, .bool s4] 35) 38 #[.int .u8 0, .int .u8 0, .int .u16 0, .bool false])
    have LB := Lib.hid (Below.trans0 HB.out hb).size
    replace HB := Lib.hid (Below.alloc0 (Below.alloc0 (Below.trans0 HB.out hb) (Obj.cells #[.int .u8 s1, .int .u8 s2, .int .u16 s3, .bool s4] 35)) (Obj.cells #[.int .u8 0, .int .u8 0, .int .u16 0, .bool false] 38))
    clear hb hga
    go_wp2_with fail
    refine (D1.out ⟨p1, p2⟩ _).mono ?_
    rintro e w3 ⟨rfl, hb⟩
    obtain ⟨gc, hgc⟩ : ∃ g, w2.heap.size = g := ⟨_, rfl⟩
    rw [hgc] at FB FC LA LB ⊢
    replace FA := Lib.hid (FA.out.below hb FA.out.lt)
    replace FC := Lib.hid (FC.out.below hb FC.out.lt)
    replace FB := Lib.hid (FB.out.below hb FB.out.lt)
    replace HB := Lib.hid (Below.trans0 HB.out hb)
    clear hb hgc
    obtain ⟨b0, b1, b2, b3⟩ := FB.out.c4
    have f0 := FB.out.frozen 0
    have f1 := FB.out.frozen 1
    have f2 := FB.out.frozen 2
    have f3 := FB.out.frozen 3
    have LC := Lib.hid FB.out.lt
    have LW := Lib.hid HB.out.size
    replace FA := Lib.hid ((FA.out.far4 (g' := gc + 1) (by have := LA.out; omega) (.int .u8 r1) (.int .u8 r2) (.int .u16 r3) (.bool r4)).alloc (Obj.cells #[.int .u8 0, .int .u8 0, .int .u16 0, .bool false] 38))
    replace FC := Lib.hid ((FC.out.far4 (g' := gc + 1) (by omega) (.int .u8 r1) (.int .u8 r2) (.int .u16 r3) (.bool r4)).alloc (Obj.cells #[.int .u8 0, .int .u8 0, .int .u16 0, .bool false] 38))
    replace FB := Lib.hid ((FB.out.set4 (.int .u8 r1) (.int .u8 r2) (.int .u16 r3) (.bool r4)).alloc (Obj.cells #[.int .u8 0, .int .u8 0, .int .u16 0, .bool false] 38))
    have FD := Lib.hid (Blk.new (w4set w3 (gc + 1) (.int .u8 r1) (.int .u8 r2) (.int .u16 r3) (.bool r4)) 38 #[.int .u8 0, .int .u8 0, .int .u16 0, .bool false] (0, 0))
    replace HB := Lib.hid (Below.alloc0 (Below.set4 HB.out (g := gc + 1) (by have := LB.out; omega) (.int .u8 r1) (.int .u8 r2) (.int .u16 r3) (.bool r4)) (Obj.cells #[.int .u8 0, .int .u8 0, .int .u16 0, .bool false] 38))
    rw [size_w4] at FD
    obtain ⟨gd, hgd⟩ : ∃ g, w3.heap.size = g := ⟨_, rfl⟩
    rw [hgd] at FD LC LW
    go_wp2_with fail
    refine (D2.out ⟨p3, p4⟩ _).mono ?_
    rintro e w5 ⟨rfl, hb⟩
    replace FA := Lib.hid (FA.out.below hb FA.out.lt)
    replace FB := Lib.hid (FB.out.below hb FB.out.lt)
    replace FC := Lib.hid (FC.out.below hb FC.out.lt)
    replace FD := Lib.hid (FD.out.below hb FD.out.lt)
    replace HB := Lib.hid (Below.trans0 HB.out hb)
    clear hb
    obtain ⟨d0, d1, d2, d3⟩ := FD.out.c4
    have k0 := FD.out.frozen 0
    have k1 := FD.out.frozen 1
    have k2 := FD.out.frozen 2
    have k3 := FD.out.frozen 3
    replace FA := Lib.hid (FA.out.far4 (g' := gd) (by have := LA.out; have := LC.out; omega) (.int .u8 s1) (.int .u8 s2) (.int .u16 s3) (.bool s4))
    replace FC := Lib.hid (FC.out.far4 (g' := gd) (by have := LC.out; omega) (.int .u8 s1) (.int .u8 s2) (.int .u16 s3) (.bool s4))
    replace FB := Lib.hid (FB.out.far4 (g' := gd) (by have := LC.out; omega) (.int .u8 s1) (.int .u8 s2) (.int .u16 s3) (.bool s4))
    replace FD := Lib.hid (FD.out.set4 (.int .u8 s1) (.int .u8 s2) (.int .u16 s3) (.bool s4))
    replace HB := Lib.hid (Below.set4 HB.out (g := gd) (by have := LW.out; omega) (.int .u8 s1) (.int .u8 s2) (.int .u16 s3) (.bool s4))
    clear b0 b1 b2 b3 f0 f1 f2 f3
    obtain ⟨fax0, fax1, fax2, fax3⟩ := FA.out.c4
    obtain ⟨fbx0, fbx1, fbx2, fbx3⟩ := FB.out.c4
    obtain ⟨fcx0, fcx1, fcx2, fcx3⟩ := FC.out.c4
    obtain ⟨fdx0, fdx1, fdx2, fdx3⟩ := FD.out.c4
    go_wp2_with fail
    refine (same25_any _ _ _ _ _ _).mono ?_
    rintro e w6 ⟨rfl, hb⟩
    replace FA := Lib.hid (FA.out.below hb FA.out.lt)
    replace FB := Lib.hid (FB.out.below hb FB.out.lt)
    replace FC := Lib.hid (FC.out.below hb FC.out.lt)
    replace FD := Lib.hid (FD.out.below hb FD.out.lt)
    replace HB := Lib.hid (Below.trans0 HB.out hb)
    clear hb
    clear fax0 fax1 fax2 fax3 fbx0 fbx1 fbx2 fbx3 fcx0 fcx1 fcx2 fcx3 fdx0 fdx1 fdx2 fdx3
    obtain ⟨fay0, fay1, fay2, fay3⟩ := FA.out.c4
    obtain ⟨fby0, fby1, fby2, fby3⟩ := FB.out.c4
    obtain ⟨fcy0, fcy1, fcy2, fcy3⟩ := FC.out.c4
    obtain ⟨fdy0, fdy1, fdy2, fdy3⟩ := FD.out.c4
    go_wp2_with fail
    refine (same25_any _ _ _ _ _ _).mono ?_
    rintro e w7 ⟨rfl, hb⟩
    replace HB := Lib.hid (Below.trans0 HB.out hb)
    clear hb
    clear fay0 fay1 fay2 fay3 fby0 fby1 fby2 fby3 fcy0 fcy1 fcy2 fcy3 fdy0 fdy1 fdy2 fdy3
    go_wp2_with fail
    refine (alive25 _).mono ?_
    rintro e w8 ⟨rfl, hb⟩
    replace HB := Lib.hid (Below.trans0 HB.out hb)
    clear hb
    go_wp2
    go_ret
    exact ⟨rfl, HB.out⟩
  · obtain ⟨r1, r2, r3, r4, r5⟩ := r
    unfold enC at C1 C2 D1 D2
    simp only [noE] at C1 C2 D1 D2
    go_enter Try.func5, Try.ntmps5
    go_wp2_with fail
    refine (C1.out _).mono ?_
    rintro e w1 ⟨rfl, hb⟩
    have FA := Lib.hid (Blk.new w1 35 #[.int .u8 r1, .int .u8 r2, .int .u16 r3, .bool r4] (0, 0))
    have HB := Lib.hid (Below.alloc0 hb (Obj.cells #[.int .u8 r1, .int .u8 r2, .int .u16 r3, .bool r4] 35))
    clear hb
    go_wp2_with fail
    refine (C2.out _).mono ?_
    rintro e w2 ⟨rfl, hb⟩
    obtain ⟨ga, hga⟩ : ∃ g, w1.heap.size = g := ⟨_, rfl⟩
    rw [hga] at FA ⊢
    have LA := Lib.hid (Nat.lt_of_lt_of_le FA.out.lt hb.size)
    replace FA := Lib.hid ((FA.out.below hb FA.out.lt).alloc (Obj.cells #[.int .u8 0, .int .u8 0, .int .u16 0, .bool false] 35))
    replace FA := Lib.hid (FA.out.alloc (Obj.cells #[.int .u8 0, .int .u8 0, .int .u16 0, .bool false] 38))
    have FC := Lib.hid ((Blk.new w2 35 #[.int .u8 0, .int .u8 0, .int .u16 0, .bool false] (0, 0)).alloc (Obj.cells #[.int .u8 0, .int .u8 0, .int .u16 0, .bool false] 38))
    have FB := Lib.hid (Blk.newF w2 (Obj.cells #[.int .u8 0, .int .u8 0, .int .u16 0, .bool false] 35) 38 #[.int .u8 0, .int .u8 0, .int .u16 0, .bool false])
    have LB := Lib.hid (Below.trans0 HB.out hb).size
    replace HB := Lib.hid (Below.alloc0 (Below.alloc0 (Below.trans0 HB.out hb) (Obj.cells #[.int .u8 0, .int .u8 0, .int .u16 0, .bool false] 35)) (Obj.cells #[.int .u8 0, .int .u8 0, .int .u16 0, .bool false] 38))
    clear hb hga
    go_wp2_with fail
    refine (D1.out ⟨p1, p2⟩ _).mono ?_
    rintro e w3 ⟨rfl, hb⟩
    obtain ⟨gc, hgc⟩ : ∃ g, w2.heap.size = g := ⟨_, rfl⟩
    rw [hgc] at FB FC LA LB ⊢
    replace FA := Lib.hid (FA.out.below hb FA.out.lt)
    replace FC := Lib.hid (FC.out.below hb FC.out.lt)
    replace FB := Lib.hid (FB.out.below hb FB.out.lt)
    replace HB := Lib.hid (Below.trans0 HB.out hb)
    clear hb hgc
    obtain ⟨b0, b1, b2, b3⟩ := FB.out.c4
    have f0 := FB.out.frozen 0
    have f1 := FB.out.frozen 1
    have f2 := FB.out.frozen 2
    have f3 := FB.out.frozen 3
    have LC := Lib.hid FB.out.lt
    have LW := Lib.hid HB.out.size
    replace FA := Lib.hid ((FA.out.far4 (g' := gc + 1) (by have := LA.out; omega) (.int .u8 r1) (.int .u8 r2) (.int .u16 r3) (.bool r4)).alloc (Obj.cells #[.int .u8 0, .int .u8 0, .int .u16 0, .bool false] 38))
    replace FC := Lib.hid ((FC.out.far4 (g' := gc + 1) (by omega) (.int .u8 r1) (.int .u8 r2) (.int .u16 r3) (.bool r4)).alloc (Obj.cells #[.int .u8 0, .int .u8 0, .int .u16 0, .bool false] 38))
    replace FB := Lib.hid ((FB.out.set4 (.int .u8 r1) (.int .u8 r2) (.int .u16 r3) (.bool r4)).alloc (Obj.cells #[.int .u8 0, .int .u8 0, .int .u16 0, .bool false] 38))
    have FD := Lib.hid (Blk.new (w4set w3 (gc + 1) (.int .u8 r1) (.int .u8 r2) (.int .u16 r3) (.bool r4)) 38 #[.int .u8 0, .int .u8 0, .int .u16 0, .bool false] (0, 0))
    replace HB := Lib.hid (Below.alloc0 (Below.set4 HB.out (g := gc + 1) (by have := LB.out; omega) (.int .u8 r1) (.int .u8 r2) (.int .u16 r3) (.bool r4)) (Obj.cells #[.int .u8 0, .int .u8 0, .int .u16 0, .bool false] 38))
    rw [size_w4] at FD
    obtain ⟨gd, hgd⟩ : ∃ g, w3.heap.size = g := ⟨_, rfl⟩
    rw [hgd] at FD LC LW
    obtain ⟨fax0, fax1, fax2, fax3⟩ := FA.out.c4
    obtain ⟨fbx0, fbx1, fbx2, fbx3⟩ := FB.out.c4
    obtain ⟨fcx0, fcx1, fcx2, fcx3⟩ := FC.out.c4
    obtain ⟨fdx0, fdx1, fdx2, fdx3⟩ := FD.out.c4
    skip
    go_wp2_with fail
    refine (same25_any _ _ _ _ _ _).mono ?_
    rintro e w6 ⟨rfl, hb⟩
    replace FA := Lib.hid (FA.out.below hb FA.out.lt)
    replace FB := Lib.hid (FB.out.below hb FB.out.lt)
    replace FC := Lib.hid (FC.out.below hb FC.out.lt)
    replace FD := Lib.hid (FD.out.below hb FD.out.lt)
    replace HB := Lib.hid (Below.trans0 HB.out hb)
    clear hb
    clear fax0 fax1 fax2 fax3 fbx0 fbx1 fbx2 fbx3 fcx0 fcx1 fcx2 fcx3 fdx0 fdx1 fdx2 fdx3
    obtain ⟨fay0, fay1, fay2, fay3⟩ := FA.out.c4
    obtain ⟨fby0, fby1, fby2, fby3⟩ := FB.out.c4
    obtain ⟨fcy0, fcy1, fcy2, fcy3⟩ := FC.out.c4
    obtain ⟨fdy0, fdy1, fdy2, fdy3⟩ := FD.out.c4
    go_wp2_with fail
    refine (same25_any _ _ _ _ _ _).mono ?_
    rintro e w7 ⟨rfl, hb⟩
    replace HB := Lib.hid (Below.trans0 HB.out hb)
    clear hb
    clear fay0 fay1 fay2 fay3 fby0 fby1 fby2 fby3 fcy0 fcy1 fcy2 fcy3 fdy0 fdy1 fdy2 fdy3
    go_wp2_with fail
    refine (alive25 _).mono ?_
    rintro e w8 ⟨rfl, hb⟩
    replace HB := Lib.hid (Below.trans0 HB.out hb)
    clear hb
    go_wp2
    go_ret
    exact ⟨rfl, HB.out⟩
  · obtain ⟨r1, r2, r3, r4, r5⟩ := r
    unfold enC at C1 C2 D1 D2
    simp only [noE] at C1 C2 D1 D2
    go_enter Try.func5, Try.ntmps5
    go_wp2_with fail
    refine (C1.out _).mono ?_
    rintro e w1 ⟨rfl, hb⟩
    have FA := Lib.hid (Blk.new w1 35 #[.int .u8 r1, .int .u8 r2, .int .u16 r3, .bool r4] (0, 0))
    have HB := Lib.hid (Below.alloc0 hb (Obj.cells #[.int .u8 r1, .int .u8 r2, .int .u16 r3, .bool r4] 35))
    clear hb
    go_wp2_with fail
    refine (C2.out _).mono ?_
    rintro e w2 ⟨rfl, hb⟩
    obtain ⟨ga, hga⟩ : ∃ g, w1.heap.size = g := ⟨_, rfl⟩
    rw [hga] at FA ⊢
    have LA := Lib.hid (Nat.lt_of_lt_of_le FA.out.lt hb.size)
    replace FA := Lib.hid ((FA.out.below hb FA.out.lt).alloc (Obj.cells #[.int .u8 0, .int .u8 0, .int .u16 0, .bool false] 35))
    replace FA := Lib.hid (FA.out.alloc (Obj.cells #[.int .u8 0, .int .u8 0, .int .u16 0, .bool false] 38))
    have FC := Lib.hid ((Blk.new w2 35 #[.int .u8 0, .int .u8 0, .int .u16 0, .bool false] (0, 0)).alloc (Obj.cells #[.int .u8 0, .int .u8 0, .int .u16 0, .bool false] 38))
    have FB := Lib.hid (Blk.newF w2 (Obj.cells #[.int .u8 0, .int .u8 0, .int .u16 0, .bool false] 35) 38 #[.int .u8 0, .int .u8 0, .int .u16 0, .bool false])
    have LB := Lib.hid (Below.trans0 HB.out hb).size
    replace HB := Lib.hid (Below.alloc0 (Below.alloc0 (Below.trans0 HB.out hb) (Obj.cells #[.int .u8 0, .int .u8 0, .int .u16 0, .bool false] 35)) (Obj.cells #[.int .u8 0, .int .u8 0, .int .u16 0, .bool false] 38))
    clear hb hga
    go_wp2_with fail
    refine (D1.out ⟨p1, p2⟩ _).mono ?_
    rintro e w3 ⟨rfl, hb⟩
    obtain ⟨gc, hgc⟩ : ∃ g, w2.heap.size = g := ⟨_, rfl⟩
    rw [hgc] at FB FC LA LB ⊢
    replace FA := Lib.hid (FA.out.below hb FA.out.lt)
    replace FC := Lib.hid (FC.out.below hb FC.out.lt)
    replace FB := Lib.hid (FB.out.below hb FB.out.lt)
    replace HB := Lib.hid (Below.trans0 HB.out hb)
    clear hb hgc
    obtain ⟨b0, b1, b2, b3⟩ := FB.out.c4
    have f0 := FB.out.frozen 0
    have f1 := FB.out.frozen 1
    have f2 := FB.out.frozen 2
    have f3 := FB.out.frozen 3
    have LC := Lib.hid FB.out.lt
    have LW := Lib.hid HB.out.size
    replace FA := Lib.hid ((FA.out.far4 (g' := gc + 1) (by have := LA.out; omega) (.int .u8 r1) (.int .u8 r2) (.int .u16 r3) (.bool r4)).alloc (Obj.cells #[.int .u8 0, .int .u8 0, .int .u16 0, .bool false] 38))
    replace FC := Lib.hid ((FC.out.far4 (g' := gc + 1) (by omega) (.int .u8 r1) (.int .u8 r2) (.int .u16 r3) (.bool r4)).alloc (Obj.cells #[.int .u8 0, .int .u8 0, .int .u16 0, .bool false] 38))
    replace FB := Lib.hid ((FB.out.set4 (.int .u8 r1) (.int .u8 r2) (.int .u16 r3) (.bool r4)).alloc (Obj.cells #[.int .u8 0, .int .u8 0, .int .u16 0, .bool false] 38))
    have FD := Lib.hid (Blk.new (w4set w3 (gc + 1) (.int .u8 r1) (.int .u8 r2) (.int .u16 r3) (.bool r4)) 38 #[.int .u8 0, .int .u8 0, .int .u16 0, .bool false] (0, 0))
    replace HB := Lib.hid (Below.alloc0 (Below.set4 HB.out (g := gc + 1) (by have := LB.out; omega) (.int .u8 r1) (.int .u8 r2) (.int .u16 r3) (.bool r4)) (Obj.cells #[.int .u8 0, .int .u8 0, .int .u16 0, .bool false] 38))
    rw [size_w4] at FD
    obtain ⟨gd, hgd⟩ : ∃ g, w3.heap.size = g := ⟨_, rfl⟩
    rw [hgd] at FD LC LW
    obtain ⟨fax0, fax1, fax2, fax3⟩ := FA.out.c4
    obtain ⟨fbx0, fbx1, fbx2, fbx3⟩ := FB.out.c4
    obtain ⟨fcx0, fcx1, fcx2, fcx3⟩ := FC.out.c4
    obtain ⟨fdx0, fdx1, fdx2, fdx3⟩ := FD.out.c4
    skip
    go_wp2_with fail
    refine (same25_any _ _ _ _ _ _).mono ?_
    rintro e w6 ⟨rfl, hb⟩
    replace FA := Lib.hid (FA.out.below hb FA.out.lt)
    replace FB := Lib.hid (FB.out.below hb FB.out.lt)
    replace FC := Lib.hid (FC.out.below hb FC.out.lt)
    replace FD := Lib.hid (FD.out.below hb FD.out.lt)
    replace HB := Lib.hid (Below.trans0 HB.out hb)
    clear hb
    clear fax0 fax1 fax2 fax3 fbx0 fbx1 fbx2 fbx3 fcx0 fcx1 fcx2 fcx3 fdx0 fdx1 fdx2 fdx3
    obtain ⟨fay0, fay1, fay2, fay3⟩ := FA.out.c4
    obtain ⟨fby0, fby1, fby2, fby3⟩ := FB.out.c4
    obtain ⟨fcy0, fcy1, fcy2, fcy3⟩ := FC.out.c4
    obtain ⟨fdy0, fdy1, fdy2, fdy3⟩ := FD.out.c4
    go_wp2_with fail
    refine (same25_any _ _ _ _ _ _).mono ?_
    rintro e w7 ⟨rfl, hb⟩
    replace HB := Lib.hid (Below.trans0 HB.out hb)
    clear hb
    clear fay0 fay1 fay2 fay3 fby0 fby1 fby2 fby3 fcy0 fcy1 fcy2 fcy3 fdy0 fdy1 fdy2 fdy3
    go_wp2_with fail
    refine (alive25 _).mono ?_
    rintro e w8 ⟨rfl, hb⟩
    replace HB := Lib.hid (Below.trans0 HB.out hb)
    clear hb
    go_wp2
    go_ret
    exact ⟨rfl, HB.out⟩
  · obtain ⟨s1, s2, s3, s4, s5⟩ := s
    unfold enC at C1 C2 D1 D2
    simp only [noE] at C1 C2 D1 D2
    have Q := Q10.out ⟨p3, p4⟩
    go_enter Try.func5, Try.ntmps5
    go_wp2_with fail
    refine (C1.out _).mono ?_
    rintro e w1 ⟨rfl, hb⟩
    have FA := Lib.hid (Blk.new w1 35 #[.int .u8 0, .int .u8 0, .int .u16 0, .bool false] (0, 0))
    have HB := Lib.hid (Below.alloc0 hb (Obj.cells #[.int .u8 0, .int .u8 0, .int .u16 0, .bool false] 35))
    clear hb
    go_wp2_with fail
    refine (C2.out _).mono ?_
    rintro e w2 ⟨rfl, hb⟩
    obtain ⟨ga, hga⟩ : ∃ g, w1.heap.size = g := ⟨_, rfl⟩
    rw [hga] at FA ⊢
    have LA := Lib.hid (Nat.lt_of_lt_of_le FA.out.lt hb.size)
    replace FA := Lib.hid ((FA.out.below hb FA.out.lt).alloc (Obj.cells #[.int .u8 s1, .int .u8 s2, .int .u16 s3, .bool s4] 35))
    replace FA := Lib.hid (FA.out.alloc (Obj.cells #[.int .u8 0, .int .u8 0, .int .u16 0, .bool false] 38))
    have FC := Lib.hid ((Blk.new w2 35 #[.int .u8 s1, .int .u8 s2, .int .u16 s3, .bool s4] (0, 0)).alloc (Obj.cells #[.int .u8 0, .int .u8 0, .int .u16 0, .bool false] 38))
    have FB := Lib.hid (Blk.newF w2 (Obj.cells #[.int .u8 s1, .int .u8 s2, .int .u16 s3, .bool s4] 35) 38 #[.int .u8 0, .int .u8 0, .int .u16 0, .bool false])
    have LB := Lib.hid (Below.trans0 HB.out hb).size
    replace HB := Lib.hid (Below.alloc0 (Below.alloc0 (Below.trans0 HB.out hb) (Obj.cells #[.int .u8 s1, .int .u8 s2, .int .u16 s3, .bool s4] 35)) (Obj.cells #[.int .u8 0, .int .u8 0, .int .u16 0, .bool false] 38))
    clear hb hga
    have LC := Lib.hid FB.out.lt
    have LW := Lib.hid HB.out.size
    replace FA := Lib.hid (FA.out.alloc (Obj.cells #[.int .u8 0, .int .u8 0, .int .u16 0, .bool false] 38))
    replace FC := Lib.hid (FC.out.alloc (Obj.cells #[.int .u8 0, .int .u8 0, .int .u16 0, .bool false] 38))
    replace FB := Lib.hid (FB.out.alloc (Obj.cells #[.int .u8 0, .int .u8 0, .int .u16 0, .bool false] 38))
    have FD := Lib.hid (Blk.new ((w2.alloc (Obj.cells #[.int .u8 s1, .int .u8 s2, .int .u16 s3, .bool s4] 35)).alloc (Obj.cells #[.int .u8 0, .int .u8 0, .int .u16 0, .bool false] 38)) 38 #[.int .u8 0, .int .u8 0, .int .u16 0, .bool false] (0, 0))
    replace HB := Lib.hid (Below.alloc0 HB.out (Obj.cells #[.int .u8 0, .int .u8 0, .int .u16 0, .bool false] 38))
    have hs2 : ((w2.alloc (Obj.cells #[.int .u8 s1, .int .u8 s2, .int .u16 s3, .bool s4] 35)).alloc (Obj.cells #[.int .u8 0, .int .u8 0, .int .u16 0, .bool false] 38)).heap.size = w2.heap.size + 1 + 1 := by simp
    rw [hs2] at FD LC LW
    clear hs2
    obtain ⟨gc, hgc⟩ : ∃ g, w2.heap.size = g := ⟨_, rfl⟩
    rw [hgc] at FB FC FD LA LB LC LW
    obtain ⟨gd, hgd⟩ : ∃ g, gc + 1 + 1 = g := ⟨_, rfl⟩
    rw [hgd] at FD LC LW
    go_wp2_with fail
    refine (D2.out ⟨p3, p4⟩ _).mono ?_
    rintro e w5 ⟨rfl, hb⟩
    replace FA := Lib.hid (FA.out.below hb FA.out.lt)
    replace FB := Lib.hid (FB.out.below hb FB.out.lt)
    replace FC := Lib.hid (FC.out.below hb FC.out.lt)
    replace FD := Lib.hid (FD.out.below hb FD.out.lt)
    replace HB := Lib.hid (Below.trans0 HB.out hb)
    clear hb
    obtain ⟨d0, d1, d2, d3⟩ := FD.out.c4
    have k0 := FD.out.frozen 0
    have k1 := FD.out.frozen 1
    have k2 := FD.out.frozen 2
    have k3 := FD.out.frozen 3
    replace FA := Lib.hid (FA.out.far4 (g' := gd) (by have := LA.out; have := LC.out; omega) (.int .u8 s1) (.int .u8 s2) (.int .u16 s3) (.bool s4))
    replace FC := Lib.hid (FC.out.far4 (g' := gd) (by have := LC.out; omega) (.int .u8 s1) (.int .u8 s2) (.int .u16 s3) (.bool s4))
    replace FB := Lib.hid (FB.out.far4 (g' := gd) (by have := LC.out; omega) (.int .u8 s1) (.int .u8 s2) (.int .u16 s3) (.bool s4))
    replace FD := Lib.hid (FD.out.set4 (.int .u8 s1) (.int .u8 s2) (.int .u16 s3) (.bool s4))
    replace HB := Lib.hid (Below.set4 HB.out (g := gd) (by have := LW.out; omega) (.int .u8 s1) (.int .u8 s2) (.int .u16 s3) (.bool s4))
    obtain ⟨fax0, fax1, fax2, fax3⟩ := FA.out.c4
    obtain ⟨fbx0, fbx1, fbx2, fbx3⟩ := FB.out.c4
    obtain ⟨fcx0, fcx1, fcx2, fcx3⟩ := FC.out.c4
    obtain ⟨fdx0, fdx1, fdx2, fdx3⟩ := FD.out.c4
    go_wp2_with fail
    refine (same25_any _ _ _ _ _ _).mono ?_
    rintro e w6 ⟨rfl, hb⟩
    replace FA := Lib.hid (FA.out.below hb FA.out.lt)
    replace FB := Lib.hid (FB.out.below hb FB.out.lt)
    replace FC := Lib.hid (FC.out.below hb FC.out.lt)
    replace FD := Lib.hid (FD.out.below hb FD.out.lt)
    replace HB := Lib.hid (Below.trans0 HB.out hb)
    clear hb
    clear fax0 fax1 fax2 fax3 fbx0 fbx1 fbx2 fbx3 fcx0 fcx1 fcx2 fcx3 fdx0 fdx1 fdx2 fdx3
    obtain ⟨fay0, fay1, fay2, fay3⟩ := FA.out.c4
    obtain ⟨fby0, fby1, fby2, fby3⟩ := FB.out.c4
    obtain ⟨fcy0, fcy1, fcy2, fcy3⟩ := FC.out.c4
    obtain ⟨fdy0, fdy1, fdy2, fdy3⟩ := FD.out.c4
    go_wp2_with fail
    refine (same25_any _ _ _ _ _ _).mono ?_
    rintro e w7 ⟨rfl, hb⟩
    replace HB := Lib.hid (Below.trans0 HB.out hb)
    clear hb
    clear fay0 fay1 fay2 fay3 fby0 fby1 fby2 fby3 fcy0 fcy1 fcy2 fcy3 fdy0 fdy1 fdy2 fdy3
    go_wp2_with fail
    refine (alive25 _).mono ?_
    rintro e w8 ⟨rfl, hb⟩
    replace HB := Lib.hid (Below.trans0 HB.out hb)
    clear hb
    go_wp2
    go_ret
    exact ⟨rfl, HB.out⟩
  · skip
    unfold enC at C1 C2 D1 D2
    simp only [noE] at C1 C2 D1 D2
    go_enter Try.func5, Try.ntmps5
    go_wp2_with fail
    refine (C1.out _).mono ?_
    rintro e w1 ⟨rfl, hb⟩
    have FA := Lib.hid (Blk.new w1 35 #[.int .u8 0, .int .u8 0, .int .u16 0, .bool false] (0, 0))
    have HB := Lib.hid (Below.alloc0 hb (Obj.cells #[.int .u8 0, .int .u8 0, .int .u16 0, .bool false] 35))
    clear hb
    go_wp2_with fail
    refine (C2.out _).mono ?_
    rintro e w2 ⟨rfl, hb⟩
    obtain ⟨ga, hga⟩ : ∃ g, w1.heap.size = g := ⟨_, rfl⟩
    rw [hga] at FA ⊢
    have LA := Lib.hid (Nat.lt_of_lt_of_le FA.out.lt hb.size)
    replace FA := Lib.hid ((FA.out.below hb FA.out.lt).alloc (Obj.cells #[.int .u8 0, .int .u8 0, .int .u16 0, .bool false] 35))
    replace FA := Lib.hid (FA.out.alloc (Obj.cells #[.int .u8 0, .int .u8 0, .int .u16 0, .bool false] 38))
    have FC := Lib.hid ((Blk.new w2 35 #[.int .u8 0, .int .u8 0, .int .u16 0, .bool false] (0, 0)).alloc (Obj.cells #[.int .u8 0, .int .u8 0, .int .u16 0, .bool false] 38))
    have FB := Lib.hid (Blk.newF w2 (Obj.cells #[.int .u8 0, .int .u8 0, .int .u16 0, .bool false] 35) 38 #[.int .u8 0, .int .u8 0, .int .u16 0, .bool false])
    have LB := Lib.hid (Below.trans0 HB.out hb).size
    replace HB := Lib.hid (Below.alloc0 (Below.alloc0 (Below.trans0 HB.out hb) (Obj.cells #[.int .u8 0, .int .u8 0, .int .u16 0, .bool false] 35)) (Obj.cells #[.int .u8 0, .int .u8 0, .int .u16 0, .bool false] 38))
    clear hb hga
    have LC := Lib.hid FB.out.lt
    have LW := Lib.hid HB.out.size
    replace FA := Lib.hid (FA.out.alloc (Obj.cells #[.int .u8 0, .int .u8 0, .int .u16 0, .bool false] 38))
    replace FC := Lib.hid (FC.out.alloc (Obj.cells #[.int .u8 0, .int .u8 0, .int .u16 0, .bool false] 38))
    replace FB := Lib.hid (FB.out.alloc (Obj.cells #[.int .u8 0, .int .u8 0, .int .u16 0, .bool false] 38))
    have FD := Lib.hid (Blk.new ((w2.alloc (Obj.cells #[.int .u8 0, .int .u8 0, .int .u16 0, .bool false] 35)).alloc (Obj.cells #[.int .u8 0, .int .u8 0, .int .u16 0, .bool false] 38)) 38 #[.int .u8 0, .int .u8 0, .int .u16 0, .bool false] (0, 0))
    replace HB := Lib.hid (Below.alloc0 HB.out (Obj.cells #[.int .u8 0, .int .u8 0, .int .u16 0, .bool false] 38))
    have hs2 : ((w2.alloc (Obj.cells #[.int .u8 0, .int .u8 0, .int .u16 0, .bool false] 35)).alloc (Obj.cells #[.int .u8 0, .int .u8 0, .int .u16 0, .bool false] 38)).heap.size = w2.heap.size + 1 + 1 := by simp
    rw [hs2] at FD LC LW
    clear hs2
    obtain ⟨gc, hgc⟩ : ∃ g, w2.heap.size = g := ⟨_, rfl⟩
    rw [hgc] at FB FC FD LA LB LC LW
    obtain ⟨gd, hgd⟩ : ∃ g, gc + 1 + 1 = g := ⟨_, rfl⟩
    rw [hgd] at FD LC LW
    obtain ⟨fax0, fax1, fax2, fax3⟩ := FA.out.c4
    obtain ⟨fbx0, fbx1, fbx2, fbx3⟩ := FB.out.c4
    obtain ⟨fcx0, fcx1, fcx2, fcx3⟩ := FC.out.c4
    obtain ⟨fdx0, fdx1, fdx2, fdx3⟩ := FD.out.c4
    skip
    go_wp2_with fail
    refine (same25_any _ _ _ _ _ _).mono ?_
    rintro e w6 ⟨rfl, hb⟩
    replace FA := Lib.hid (FA.out.below hb FA.out.lt)
    replace FB := Lib.hid (FB.out.below hb FB.out.lt)
    replace FC := Lib.hid (FC.out.below hb FC.out.lt)
    replace FD := Lib.hid (FD.out.below hb FD.out.lt)
    replace HB := Lib.hid (Below.trans0 HB.out hb)
    clear hb
    clear fax0 fax1 fax2 fax3 fbx0 fbx1 fbx2 fbx3 fcx0 fcx1 fcx2 fcx3 fdx0 fdx1 fdx2 fdx3
    obtain ⟨fay0, fay1, fay2, fay3⟩ := FA.out.c4
    obtain ⟨fby0, fby1, fby2, fby3⟩ := FB.out.c4
    obtain ⟨fcy0, fcy1, fcy2, fcy3⟩ := FC.out.c4
    obtain ⟨fdy0, fdy1, fdy2, fdy3⟩ := FD.out.c4
    go_wp2_with fail
    refine (same25_any _ _ _ _ _ _).mono ?_
    rintro e w7 ⟨rfl, hb⟩
    replace HB := Lib.hid (Below.trans0 HB.out hb)
    clear hb
    clear fay0 fay1 fay2 fay3 fby0 fby1 fby2 fby3 fcy0 fcy1 fcy2 fcy3 fdy0 fdy1 fdy2 fdy3
    go_wp2_with fail
    refine (alive25 _).mono ?_
    rintro e w8 ⟨rfl, hb⟩
    replace HB := Lib.hid (Below.trans0 HB.out hb)
    clear hb
    go_wp2
    go_ret
    exact ⟨rfl, HB.out⟩
  · skip
    unfold enC at C1 C2 D1 D2
    simp only [noE] at C1 C2 D1 D2
    go_enter Try.func5, Try.ntmps5
    go_wp2_with fail
    refine (C1.out _).mono ?_
    rintro e w1 ⟨rfl, hb⟩
    have FA := Lib.hid (Blk.new w1 35 #[.int .u8 0, .int .u8 0, .int .u16 0, .bool false] (0, 0))
    have HB := Lib.hid (Below.alloc0 hb (Obj.cells #[.int .u8 0, .int .u8 0, .int .u16 0, .bool false] 35))
    clear hb
    go_wp2_with fail
    refine (C2.out _).mono ?_
    rintro e w2 ⟨rfl, hb⟩
    obtain ⟨ga, hga⟩ : ∃ g, w1.heap.size = g := ⟨_, rfl⟩
    rw [hga] at FA ⊢
    have LA := Lib.hid (Nat.lt_of_lt_of_le FA.out.lt hb.size)
    replace FA := Lib.hid ((FA.out.below hb FA.out.lt).alloc (Obj.cells #[.int .u8 0, .int .u8 0, .int .u16 0, .bool false] 35))
    replace FA := Lib.hid (FA.out.alloc (Obj.cells #[.int .u8 0, .int .u8 0, .int .u16 0, .bool false] 38))
    have FC := Lib.hid ((Blk.new w2 35 #[.int .u8 0, .int .u8 0, .int .u16 0, .bool false] (0, 0)).alloc (Obj.cells #[.int .u8 0, .int .u8 0, .int .u16 0, .bool false] 38))
    have FB := Lib.hid (Blk.newF w2 (Obj.cells #[.int .u8 0, .int .u8 0, .int .u16 0, .bool false] 35) 38 #[.int .u8 0, .int .u8 0, .int .u16 0, .bool false])
    have LB := Lib.hid (Below.trans0 HB.out hb).size
    replace HB := Lib.hid (Below.alloc0 (Below.alloc0 (Below.trans0 HB.out hb) (Obj.cells #[.int .u8 0, .int .u8 0, .int .u16 0, .bool false] 35)) (Obj.cells #[.int .u8 0, .int .u8 0, .int .u16 0, .bool false] 38))
    clear hb hga
    have LC := Lib.hid FB.out.lt
    have LW := Lib.hid HB.out.size
    replace FA := Lib.hid (FA.out.alloc (Obj.cells #[.int .u8 0, .int .u8 0, .int .u16 0, .bool false] 38))
    replace FC := Lib.hid (FC.out.alloc (Obj.cells #[.int .u8 0, .int .u8 0, .int .u16 0, .bool false] 38))
    replace FB := Lib.hid (FB.out.alloc (Obj.cells #[.int .u8 0, .int .u8 0, .int .u16 0, .bool false] 38))
    have FD := Lib.hid (Blk.new ((w2.alloc (Obj.cells #[.int .u8 0, .int .u8 0, .int .u16 0, .bool false] 35)).alloc (Obj.cells #[.int .u8 0, .int .u8 0, .int .u16 0, .bool false] 38)) 38 #[.int .u8 0, .int .u8 0, .int .u16 0, .bool false] (0, 0))
    replace HB := Lib.hid (Below.alloc0 HB.out (Obj.cells #[.int .u8 0, .int .u8 0, .int .u16 0, .bool false] 38))
    have hs2 : ((w2.alloc (Obj.cells #[.int .u8 0, .int .u8 0, .int .u16 0, .bool false] 35)).alloc (Obj.cells #[.int .u8 0, .int .u8 0, .int .u16 0, .bool false] 38)).heap.size = w2.heap.size + 1 + 1 := by simp
    rw [hs2] at FD LC LW
    clear hs2
    obtain ⟨gc, hgc⟩ : ∃ g, w2.heap.size = g := ⟨_, rfl⟩
    rw [hgc] at FB FC FD LA LB LC LW
    obtain ⟨gd, hgd⟩ : ∃ g, gc + 1 + 1 = g := ⟨_, rfl⟩
    rw [hgd] at FD LC LW
    obtain ⟨fax0, fax1, fax2, fax3⟩ := FA.out.c4
    obtain ⟨fbx0, fbx1, fbx2, fbx3⟩ := FB.out.c4
    obtain ⟨fcx0, fcx1, fcx2, fcx3⟩ := FC.out.c4
    obtain ⟨fdx0, fdx1, fdx2, fdx3⟩ := FD.out.c4
    skip
    go_wp2_with fail
    refine (same25_any _ _ _ _ _ _).mono ?_
    rintro e w6 ⟨rfl, hb⟩
    replace FA := Lib.hid (FA.out.below hb FA.out.lt)
    replace FB := Lib.hid (FB.out.below hb FB.out.lt)
    replace FC := Lib.hid (FC.out.below hb FC.out.lt)
    replace FD := Lib.hid (FD.out.below hb FD.out.lt)
    replace HB := Lib.hid (Below.trans0 HB.out hb)
    clear hb
    clear fax0 fax1 fax2 fax3 fbx0 fbx1 fbx2 fbx3 fcx0 fcx1 fcx2 fcx3 fdx0 fdx1 fdx2 fdx3
    obtain ⟨fay0, fay1, fay2, fay3⟩ := FA.out.c4
    obtain ⟨fby0, fby1, fby2, fby3⟩ := FB.out.c4
    obtain ⟨fcy0, fcy1, fcy2, fcy3⟩ := FC.out.c4
    obtain ⟨fdy0, fdy1, fdy2, fdy3⟩ := FD.out.c4
    go_wp2_with fail
    refine (same25_any _ _ _ _ _ _).mono ?_
    rintro e w7 ⟨rfl, hb⟩
    replace HB := Lib.hid (Below.trans0 HB.out hb)
    clear hb
    clear fay0 fay1 fay2 fay3 fby0 fby1 fby2 fby3 fcy0 fcy1 fcy2 fcy3 fdy0 fdy1 fdy2 fdy3
    go_wp2_with fail
    refine (alive25 _).mono ?_
    rintro e w8 ⟨rfl, hb⟩
    replace HB := Lib.hid (Below.trans0 HB.out hb)
    clear hb
    go_wp2
    go_ret
    exact ⟨rfl, HB.out⟩
  · obtain ⟨s1, s2, s3, s4, s5⟩ := s
    unfold enC at C1 C2 D1 D2
    simp only [noE] at C1 C2 D1 D2
    have Q := Q10.out ⟨p3, p4⟩
    go_enter Try.func5, Try.ntmps5
    go_wp2_with fail
    refine (C1.out _).mono ?_
    rintro e w1 ⟨rfl, hb⟩
    have FA := Lib.hid (Blk.new w1 35 #[.int .u8 0, .int .u8 0, .int .u16 0, .bool false] (0, 0))
    have HB := Lib.hid (Below.alloc0 hb (Obj.cells #[.int .u8 0, .int .u8 0, .int .u16 0, .bool false] 35))
    clear hb
    go_wp2_with fail
    refine (C2.out _).mono ?_
    rintro e w2 ⟨rfl, hb⟩
    obtain ⟨ga, hga⟩ : ∃ g, w1.heap.size = g := ⟨_, rfl⟩
    rw [hga] at FA ⊢
    have LA := Lib.hid (Nat.lt_of_lt_of_le FA.out.lt hb.size)
    replace FA := Lib.hid ((FA.out.below hb FA.out.lt).alloc (Obj.cells #[.int .u8 s1, .int .u8 s2, .int .u16 s3, .bool s4] 35))
    replace FA := Lib.hid (FA.out.alloc (Obj.cells #[.int .u8 0, .int .u8 0, .int .u16 0, .bool false] 38))
    have FC := Lib.hid ((Blk.new w2 35 #[.int .u8 s1, .int .u8 s2, .int .u16 s3, .bool s4] (0, 0)).alloc (Obj.cells #[.int .u8 0, .int .u8 0, .int .u16 0, .bool false] 38))
    have FB := Lib.hid (Blk.newF w2 (Obj.cells #[.int .u8 s1, .int .u8 s2, .int .u16 s3, .bool s4] 35) 38 #[.int .u8 0, .int .u8 0, .int .u16 0, .bool false])
    have LB := Lib.hid (Below.trans0 HB.out hb).size
    replace HB := Lib.hid (Below.alloc0 (Below.alloc0 (Below.trans0 HB.out hb) (Obj.cells #[.int .u8 s1, .int .u8 s2, .int .u16 s3, .bool s4] 35)) (Obj.cells #[.int .u8 0, .int .u8 0, .int .u16 0, .bool false] 38))
    clear hb hga
    have LC := Lib.hid FB.out.lt
    have LW := Lib.hid HB.out.size
    replace FA := Lib.hid (FA.out.alloc (Obj.cells #[.int .u8 0, .int .u8 0, .int .u16 0, .bool false] 38))
    replace FC := Lib.hid (FC.out.alloc (Obj.cells #[.int .u8 0, .int .u8 0, .int .u16 0, .bool false] 38))
    replace FB := Lib.hid (FB.out.alloc (Obj.cells #[.int .u8 0, .int .u8 0, .int .u16 0, .bool false] 38))
    have FD := Lib.hid (Blk.new ((w2.alloc (Obj.cells #[.int .u8 s1, .int .u8 s2, .int .u16 s3, .bool s4] 35)).alloc (Obj.cells #[.int .u8 0, .int .u8 0, .int .u16 0, .bool false] 38)) 38 #[.int .u8 0, .int .u8 0, .int .u16 0, .bool false] (0, 0))
    replace HB := Lib.hid (Below.alloc0 HB.out (Obj.cells #[.int .u8 0, .int .u8 0, .int .u16 0, .bool false] 38))
    have hs2 : ((w2.alloc (Obj.cells #[.int .u8 s1, .int .u8 s2, .int .u16 s3, .bool s4] 35)).alloc (Obj.cells #[.int .u8 0, .int .u8 0, .int .u16 0, .bool false] 38)).heap.size = w2.heap.size + 1 + 1 := by simp
    rw [hs2] at FD LC LW
    clear hs2
    obtain ⟨gc, hgc⟩ : ∃ g, w2.heap.size = g := ⟨_, rfl⟩
    rw [hgc] at FB FC FD LA LB LC LW
    obtain ⟨gd, hgd⟩ : ∃ g, gc + 1 + 1 = g := ⟨_, rfl⟩
    rw [hgd] at FD LC LW
    go_wp2_with fail
    refine (D2.out ⟨p3, p4⟩ _).mono ?_
    rintro e w5 ⟨rfl, hb⟩
    replace FA := Lib.hid (FA.out.below hb FA.out.lt)
    replace FB := Lib.hid (FB.out.below hb FB.out.lt)
    replace FC := Lib.hid (FC.out.below hb FC.out.lt)
    replace FD := Lib.hid (FD.out.below hb FD.out.lt)
    replace HB := Lib.hid (Below.trans0 HB.out hb)
    clear hb
    obtain ⟨d0, d1, d2, d3⟩ := FD.out.c4
    have k0 := FD.out.frozen 0
    have k1 := FD.out.frozen 1
    have k2 := FD.out.frozen 2
    have k3 := FD.out.frozen 3
    replace FA := Lib.hid (FA.out.far4 (g' := gd) (by have := LA.out; have := LC.out; omega) (.int .u8 s1) (.int .u8 s2) (.int .u16 s3) (.bool s4))
    replace FC := Lib.hid (FC.out.far4 (g' := gd) (by have := LC.out; omega) (.int .u8 s1) (.int .u8 s2) (.int .u16 s3) (.bool s4))
    replace FB := Lib.hid (FB.out.far4 (g' := gd) (by have := LC.out; omega) (.int .u8 s1) (.int .u8 s2) (.int .u16 s3) (.bool s4))
    replace FD := Lib.hid (FD.out.set4 (.int .u8 s1) (.int .u8 s2) (.int .u16 s3) (.bool s4))
    replace HB := Lib.hid (Below.set4 HB.out (g := gd) (by have := LW.out; omega) (.int .u8 s1) (.int .u8 s2) (.int .u16 s3) (.bool s4))
    obtain ⟨fax0, fax1, fax2, fax3⟩ := FA.out.c4
    obtain ⟨fbx0, fbx1, fbx2, fbx3⟩ := FB.out.c4
    obtain ⟨fcx0, fcx1, fcx2, fcx3⟩ := FC.out.c4
    obtain ⟨fdx0, fdx1, fdx2, fdx3⟩ := FD.out.c4
    go_wp2_with fail
    refine (same25_any _ _ _ _ _ _).mono ?_
    rintro e w6 ⟨rfl, hb⟩
    replace FA := Lib.hid (FA.out.below hb FA.out.lt)
    replace FB := Lib.hid (FB.out.below hb FB.out.lt)
    replace FC := Lib.hid (FC.out.below hb FC.out.lt)
    replace FD := Lib.hid (FD.out.below hb FD.out.lt)
    replace HB := Lib.hid (Below.trans0 HB.out hb)
    clear hb
    clear fax0 fax1 fax2 fax3 fbx0 fbx1 fbx2 fbx3 fcx0 fcx1 fcx2 fcx3 fdx0 fdx1 fdx2 fdx3
    obtain ⟨fay0, fay1, fay2, fay3⟩ := FA.out.c4
    obtain ⟨fby0, fby1, fby2, fby3⟩ := FB.out.c4
    obtain ⟨fcy0, fcy1, fcy2, fcy3⟩ := FC.out.c4
    obtain ⟨fdy0, fdy1, fdy2, fdy3⟩ := FD.out.c4
    go_wp2_with fail
    refine (same25_any _ _ _ _ _ _).mono ?_
    rintro e w7 ⟨rfl, hb⟩
    replace HB := Lib.hid (Below.trans0 HB.out hb)
    clear hb
    clear fay0 fay1 fay2 fay3 fby0 fby1 fby2 fby3 fcy0 fcy1 fcy2 fcy3 fdy0 fdy1 fdy2 fdy3
    go_wp2_with fail
    refine (alive25 _).mono ?_
    rintro e w8 ⟨rfl, hb⟩
    replace HB := Lib.hid (Below.trans0 HB.out hb)
    clear hb
    go_wp2
    go_ret
    exact ⟨rfl, HB.out⟩
  · skip
    unfold enC at C1 C2 D1 D2
    simp only [noE] at C1 C2 D1 D2
    go_enter Try.func5, Try.ntmps5
    go_wp2_with fail
    refine (C1.out _).mono ?_
    rintro e w1 ⟨rfl, hb⟩
    have FA := Lib.hid (Blk.new w1 35 #[.int .u8 0, .int .u8 0, .int .u16 0, .bool false] (0, 0))
    have HB := Lib.hid (Below.alloc0 hb (Obj.cells #[.int .u8 0, .int .u8 0, .int .u16 0, .bool false] 35))
    clear hb
    go_wp2_with fail
    refine (C2.out _).mono ?_
    rintro e w2 ⟨rfl, hb⟩
    obtain ⟨ga, hga⟩ : ∃ g, w1.heap.size = g := ⟨_, rfl⟩
    rw [hga] at FA ⊢
    have LA := Lib.hid (Nat.lt_of_lt_of_le FA.out.lt hb.size)
    replace FA := Lib.hid ((FA.out.below hb FA.out.lt).alloc (Obj.cells #[.int .u8 0, .int .u8 0, .int .u16 0, .bool false] 35))
    replace FA := Lib.hid (FA.out.alloc (Obj.cells #[.int .u8 0, .int .u8 0, .int .u16 0, .bool false] 38))
    have FC := Lib.hid ((Blk.new w2 35 #[.int .u8 0, .int .u8 0, .int .u16 0, .bool false] (0, 0)).alloc (Obj.cells #[.int .u8 0, .int .u8 0, .int .u16 0, .bool false] 38))
    have FB := Lib.hid (Blk.newF w2 (Obj.cells #[.int .u8 0, .int .u8 0, .int .u16 0, .bool false] 35) 38 #[.int .u8 0, .int .u8 0, .int .u16 0, .bool false])
    have LB := Lib.hid (Below.trans0 HB.out hb).size
    replace HB := Lib.hid (Below.alloc0 (Below.alloc0 (Below.trans0 HB.out hb) (Obj.cells #[.int .u8 0, .int .u8 0, .int .u16 0, .bool false] 35)) (Obj.cells #[.int .u8 0, .int .u8 0, .int .u16 0, .bool false] 38))
    clear hb hga
    have LC := Lib.hid FB.out.lt
    have LW := Lib.hid HB.out.size
    replace FA := Lib.hid (FA.out.alloc (Obj.cells #[.int .u8 0, .int .u8 0, .int .u16 0, .bool false] 38))
    replace FC := Lib.hid (FC.out.alloc (Obj.cells #[.int .u8 0, .int .u8 0, .int .u16 0, .bool false] 38))
    replace FB := Lib.hid (FB.out.alloc (Obj.cells #[.int .u8 0, .int .u8 0, .int .u16 0, .bool false] 38))
    have FD := Lib.hid (Blk.new ((w2.alloc (Obj.cells #[.int .u8 0, .int .u8 0, .int .u16 0, .bool false] 35)).alloc (Obj.cells #[.int .u8 0, .int .u8 0, .int .u16 0, .bool false] 38)) 38 #[.int .u8 0, .int .u8 0, .int .u16 0, .bool false] (0, 0))
    replace HB := Lib.hid (Below.alloc0 HB.out (Obj.cells #[.int .u8 0, .int .u8 0, .int .u16 0, .bool false] 38))
    have hs2 : ((w2.alloc (Obj.cells #[.int .u8 0, .int .u8 0, .int .u16 0, .bool false] 35)).alloc (Obj.cells #[.int .u8 0, .int .u8 0, .int .u16 0, .bool false] 38)).heap.size = w2.heap.size + 1 + 1 := by simp
    rw [hs2] at FD LC LW
    clear hs2
    obtain ⟨gc, hgc⟩ : ∃ g, w2.heap.size = g := ⟨_, rfl⟩
    rw [hgc] at FB FC FD LA LB LC LW
    obtain ⟨gd, hgd⟩ : ∃ g, gc + 1 + 1 = g := ⟨_, rfl⟩
    rw [hgd] at FD LC LW
    obtain ⟨fax0, fax1, fax2, fax3⟩ := FA.out.c4
    obtain ⟨fbx0, fbx1, fbx2, fbx3⟩ := FB.out.c4
    obtain ⟨fcx0, fcx1, fcx2, fcx3⟩ := FC.out.c4
    obtain ⟨fdx0, fdx1, fdx2, fdx3⟩ := FD.out.c4
    skip
    go_wp2_with fail
    refine (same25_any _ _ _ _ _ _).mono ?_
    rintro e w6 ⟨rfl, hb⟩
    replace FA := Lib.hid (FA.out.below hb FA.out.lt)
    replace FB := Lib.hid (FB.out.below hb FB.out.lt)
    replace FC := Lib.hid (FC.out.below hb FC.out.lt)
    replace FD := Lib.hid (FD.out.below hb FD.out.lt)
    replace HB := Lib.hid (Below.trans0 HB.out hb)
    clear hb
    clear fax0 fax1 fax2 fax3 fbx0 fbx1 fbx2 fbx3 fcx0 fcx1 fcx2 fcx3 fdx0 fdx1 fdx2 fdx3
    obtain ⟨fay0, fay1, fay2, fay3⟩ := FA.out.c4
    obtain ⟨fby0, fby1, fby2, fby3⟩ := FB.out.c4
    obtain ⟨fcy0, fcy1, fcy2, fcy3⟩ := FC.out.c4
    obtain ⟨fdy0, fdy1, fdy2, fdy3⟩ := FD.out.c4
    go_wp2_with fail
    refine (same25_any _ _ _ _ _ _).mono ?_
    rintro e w7 ⟨rfl, hb⟩
    replace HB := Lib.hid (Below.trans0 HB.out hb)
    clear hb
    clear fay0 fay1 fay2 fay3 fby0 fby1 fby2 fby3 fcy0 fcy1 fcy2 fcy3 fdy0 fdy1 fdy2 fdy3
    go_wp2_with fail
    refine (alive25 _).mono ?_
    rintro e w8 ⟨rfl, hb⟩
    replace HB := Lib.hid (Below.trans0 HB.out hb)
    clear hb
    go_wp2
    go_ret
    exact ⟨rfl, HB.out⟩
  · skip
    unfold enC at C1 C2 D1 D2
    simp only [noE] at C1 C2 D1 D2
    go_enter Try.func5, Try.ntmps5
    go_wp2_with fail
    refine (C1.out _).mono ?_
    rintro e w1 ⟨rfl, hb⟩
    have FA := Lib.hid (Blk.new w1 35 #[.int .u8 0, .int .u8 0, .int .u16 0, .bool false] (0, 0))
    have HB := Lib.hid (Below.alloc0 hb (Obj.cells #[.int .u8 0, .int .u8 0, .int .u16 0, .bool false] 35))
    clear hb
    go_wp2_with fail
    refine (C2.out _).mono ?_
    rintro e w2 ⟨rfl, hb⟩
    obtain ⟨ga, hga⟩ : ∃ g, w1.heap.size = g := ⟨_, rfl⟩
    rw [hga] at FA ⊢
    have LA := Lib.hid (Nat.lt_of_lt_of_le FA.out.lt hb.size)
    replace FA := Lib.hid ((FA.out.below hb FA.out.lt).alloc (Obj.cells #[.int .u8 0, .int .u8 0, .int .u16 0, .bool false] 35))
    replace FA := Lib.hid (FA.out.alloc (Obj.cells #[.int .u8 0, .int .u8 0, .int .u16 0, .bool false] 38))
    have FC := Lib.hid ((Blk.new w2 35 #[.int .u8 0, .int .u8 0, .int .u16 0, .bool false] (0, 0)).alloc (Obj.cells #[.int .u8 0, .int .u8 0, .int .u16 0, .bool false] 38))
    have FB := Lib.hid (Blk.newF w2 (Obj.cells #[.int .u8 0, .int .u8 0, .int .u16 0, .bool false] 35) 38 #[.int .u8 0, .int .u8 0, .int .u16 0, .bool false])
    have LB := Lib.hid (Below.trans0 HB.out hb).size
    replace HB := Lib.hid (Below.alloc0 (Below.alloc0 (Below.trans0 HB.out hb) (Obj.cells #[.int .u8 0, .int .u8 0, .int .u16 0, .bool false] 35)) (Obj.cells #[.int .u8 0, .int .u8 0, .int .u16 0, .bool false] 38))
    clear hb hga
    have LC := Lib.hid FB.out.lt
    have LW := Lib.hid HB.out.size
    replace FA := Lib.hid (FA.out.alloc (Obj.cells #[.int .u8 0, .int .u8 0, .int .u16 0, .bool false] 38))
    replace FC := Lib.hid (FC.out.alloc (Obj.cells #[.int .u8 0, .int .u8 0, .int .u16 0, .bool false] 38))
    replace FB := Lib.hid (FB.out.alloc (Obj.cells #[.int .u8 0, .int .u8 0, .int .u16 0, .bool false] 38))
    have FD := Lib.hid (Blk.new ((w2.alloc (Obj.cells #[.int .u8 0, .int .u8 0, .int .u16 0, .bool false] 35)).alloc (Obj.cells #[.int .u8 0, .int .u8 0, .int .u16 0, .bool false] 38)) 38 #[.int .u8 0, .int .u8 0, .int .u16 0, .bool false] (0, 0))
    replace HB := Lib.hid (Below.alloc0 HB.out (Obj.cells #[.int .u8 0, .int .u8 0, .int .u16 0, .bool false] 38))
    have hs2 : ((w2.alloc (Obj.cells #[.int .u8 0, .int .u8 0, .int .u16 0, .bool false] 35)).alloc (Obj.cells #[.int .u8 0, .int .u8 0, .int .u16 0, .bool false] 38)).heap.size = w2.heap.size + 1 + 1 := by simp
    rw [hs2] at FD LC LW
    clear hs2
    obtain ⟨gc, hgc⟩ : ∃ g, w2.heap.size = g := ⟨_, rfl⟩
    rw [hgc] at FB FC FD LA LB LC LW
    obtain ⟨gd, hgd⟩ : ∃ g, gc + 1 + 1 = g := ⟨_, rfl⟩
    rw [hgd] at FD LC LW
    obtain ⟨fax0, fax1, fax2, fax3⟩ := FA.out.c4
    obtain ⟨fbx0, fbx1, fbx2, fbx3⟩ := FB.out.c4
    obtain ⟨fcx0, fcx1, fcx2, fcx3⟩ := FC.out.c4
    obtain ⟨fdx0, fdx1, fdx2, fdx3⟩ := FD.out.c4
    skip
    go_wp2_with fail
    refine (same25_any _ _ _ _ _ _).mono ?_
    rintro e w6 ⟨rfl, hb⟩
    replace FA := Lib.hid (FA.out.below hb FA.out.lt)
    replace FB := Lib.hid (FB.out.below hb FB.out.lt)
    replace FC := Lib.hid (FC.out.below hb FC.out.lt)
    replace FD := Lib.hid (FD.out.below hb FD.out.lt)
    replace HB := Lib.hid (Below.trans0 HB.out hb)
    clear hb
    clear fax0 fax1 fax2 fax3 fbx0 fbx1 fbx2 fbx3 fcx0 fcx1 fcx2 fcx3 fdx0 fdx1 fdx2 fdx3
    obtain ⟨fay0, fay1, fay2, fay3⟩ := FA.out.c4
    obtain ⟨fby0, fby1, fby2, fby3⟩ := FB.out.c4
    obtain ⟨fcy0, fcy1, fcy2, fcy3⟩ := FC.out.c4
    obtain ⟨fdy0, fdy1, fdy2, fdy3⟩ := FD.out.c4
    go_wp2_with fail
    refine (same25_any _ _ _ _ _ _).mono ?_
    rintro e w7 ⟨rfl, hb⟩
    replace HB := Lib.hid (Below.trans0 HB.out hb)
    clear hb
    clear fay0 fay1 fay2 fay3 fby0 fby1 fby2 fby3 fcy0 fcy1 fcy2 fcy3 fdy0 fdy1 fdy2 fdy3
    go_wp2_with fail
    refine (alive25 _).mono ?_
    rintro e w8 ⟨rfl, hb⟩
    replace HB := Lib.hid (Below.trans0 HB.out hb)
    clear hb
    go_wp2
    go_ret
    exact ⟨rfl, HB.out⟩

set_option maxRecDepth 100000 in
theorem lifted (os : Os) (started : os.Started) (H : Type) (enc : TypeId × Value → H) :
    ReturnsInHanded {} Try.checked os 5 .any (Rows.frameEntersSpec.pre6 enc Try.prog Try.f5 Rows.frameEntersRow.domain false) (Rows.frameEntersSpec.post enc Try.prog Try.f5 false true false false) := by
  refine returnsInHanded_of_change (C := Try.checked) own started (by kernel_rfl) Try.func5
    (ChangeSpec.witness6 (enc := enc) (C := Try.checked) false ⟨#[], #[.int .i64 0, .int .i64 0, .int .u8 0], []⟩ 8 (by kernel_rfl) (by kernel_rfl) (by kernel_rfl) (by kernel_rfl)) ?_
  intro W base args ds gs before hval0 hW hcnd _
  have hval : ∀ (j : Nat) t v, Try.f5.params[j]? = some t → args[j]? = some v → Value.okWide Try.prog W .any base t v := hval0
  have hW' := hW
  obtain ⟨p, q, hA0, hV, rfl, hfz, hnd⟩ := hW
  have hA : DataW.TrodAll enc Try.prog W 0 (fun _ => true) true Try.f5.params.toList args.toList ds p := hA0
  rw [Try.params5] at hA hval
  obtain ⟨v0, vs0, d0, ds0, p0, q0, hargs, rfl, rfl, h0, r0⟩ := trodAll_cons hA
  obtain ⟨v1, vs1, d1, ds1, p1, q1, rfl, rfl, rfl, h1, r1⟩ := trodAll_cons r0
  obtain ⟨v2, vs2, d2, ds2, p2, q2, rfl, rfl, rfl, h2, r2⟩ := trodAll_cons r1
  obtain ⟨rfl, rfl, rfl⟩ := trodAll_nil r2
  obtain rfl : args = #[v0, v1, v2] := by cases args; simp_all
  obtain ⟨rfl, rfl⟩ := trodVars_none hV
  obtain ⟨a0, rfl, rfl, rfl, w0⟩ := open_int Try.underlying3 (hval 0 3 v0 rfl rfl) h0
  obtain ⟨a1, rfl, rfl, rfl, w1⟩ := open_int Try.underlying3 (hval 1 3 v1 rfl rfl) h1
  obtain ⟨a2, rfl, rfl, rfl, w2⟩ := open_int Try.underlying5 (hval 2 5 v2 rfl rfl) h2
  clear hA0 hval0
  refine (walk a0 a1 a2 w0 w1 w2 W).mono fun e W' ⟨he, bel⟩ => ?_
  subst he
  exact ⟨_, rfl, _, _, _, [], _, [], hW', trodAll_mk1 (shut_bool Try.underlying4 _), (trodAll_cons_mk (shut_int Try.underlying3 w0) (trodAll_cons_mk (shut_int Try.underlying3 w1) (trodAll_cons_mk (shut_int Try.underlying5 w2) trodAll_mk0))), rfl, bel.frame _, fun h => by cases h⟩

theorem over : Rows.frameEntersRow.holds Try.pinned (OpenSpec.ofChange Rows.frameEntersSpec) :=
  OpenClaim.holds_of_wide 5 Try.f5 rfl rfl rfl rfl rfl rfl rfl ⟨rfl, rfl, rfl, rfl, rfl⟩ rfl rfl rfl rfl rfl (by kernel_rfl) Try.func5 (by kernel_rfl)
    (of_decide_eq_true (by kernel_rfl)) (by unfold Func.isWrapper; first | (rw [if_pos (by decide +kernel)]; kernel_rfl) | (rw [if_neg (by decide +kernel)]; exact ⟨rfl, rfl⟩))
    (fun os started H enc _ => lifted os started H enc)

theorem proved : Rows.FrameEntersSaid :=
  over
#print axioms proved
end Go.Proofs.Ytkdekhcnamkcgac.frameEnters
