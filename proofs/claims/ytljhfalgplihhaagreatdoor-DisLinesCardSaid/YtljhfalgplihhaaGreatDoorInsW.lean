/- The contract of package inst's Put. -/
import Derived.Test.YtljhfalgplihhaaGreatDoorInsP
import Derived.Deep.AppendLies
import Derived.StillTailTactics
namespace Go.Proofs.YtljhfalgplihhaaGreatDoor
open Go.ChangeShapes Go.WideShapes Go.ChangeAt Go.RowKit
set_option linter.unusedVariables false

/-- The bytes that Put makes. -/
def putA (p : Int) : List Int := if p = 2 then [16] else if p = 3 then [17] else []
def putB (m b : Int) : List Int := if pstdI m then [b] else []
def putC (m : Int) (b : Nat) (v : Int) : List Int := if widI m b = 1 then [v % 256] else if widI m b = 2 then [v / 256, v % 256] else []
def putX (p c m : Int) (b : Nat) (v : Int) : List Int := putA p ++ [c] ++ putB m b ++ putC m b v
def insEq (p c o m r b v l p' c' o' m' r' b' v' l' : Int) : Bool := p == p' && (c == c' && ((o == o' && (m == m' && r == r')) && (b == b' && (v == v' && l == l'))))
def putOk (p c o m r : Int) (b : Nat) (v l : Int) (X : List Int) : Bool :=
  inOk X && insEq (inPg X : Int) (inCo X) (eOp (inE X)) (eMode (inE X)) (eReg (inE X)) (inPo X) (inVa X) (inLn X : Int) p c o m r b v l
theorem putA_len (p : Int) : (putA p).length ≤ 1 := by unfold putA; split <;> (try split) <;> simp
theorem putB_len (m b : Int) : (putB m b).length ≤ 1 := by unfold putB; split <;> simp
theorem putC_len (m : Int) (b : Nat) (v : Int) : (putC m b v).length ≤ 2 := by unfold putC; split <;> (try split) <;> simp
theorem putX_len (p c m : Int) (b : Nat) (v : Int) : (putX p c m b v).length ≤ 5 := by
  have := putA_len p
  have := putB_len m b
  have := putC_len m b v
  unfold putX
  simp only [List.length_append, List.length_cons, List.length_nil]
  omega
theorem putX_wf (p c m : Int) (b : Nat) (v : Int) (hc0 : 0 ≤ c) (hc1 : c < 256) (hb : b < 256) (v0 : 0 ≤ v) (v1 : v < 65536) : ∀ z ∈ putX p c m b v, (Lit.int .u8 z).wf = true := by
  have mk : ∀ z : Int, 0 ≤ z → z < 256 → (Lit.int .u8 z).wf = true := fun z h0 h1 => by simp [Lit.wf, IntKind.min, IntKind.max, IntKind.signed, IntKind.bits]; omega
  intro z hz
  unfold putX putA putB putC at hz
  simp only [List.mem_append, List.mem_singleton] at hz
  rcases hz with ((hz | hz) | hz) | hz
  · split at hz
    · simp at hz; subst hz; decide
    · split at hz
      · simp at hz; subst hz; decide
      · simp at hz
  · subst hz; exact mk _ hc0 hc1
  · split at hz
    · simp at hz; subst hz; exact mk _ (by omega) (by omega)
    · simp at hz
  · split at hz
    · simp at hz; subst hz; exact mk _ (by omega) (by omega)
    · split at hz
      · simp at hz
        rcases hz with rfl | rfl
        · exact mk _ (by omega) (by omega)
        · exact mk _ (by omega) (by omega)
      · simp at hz
set_option maxRecDepth 100000 in
set_option maxHeartbeats 1000000 in
theorem neq_ins (w : World) (p c o m r b v l p' c' o' m' r' b' v' l' : Int) :
    (binOp .neq 37 (.agg #[.int .i64 p, .int .u8 c, .int .i64 o, .int .i64 m, .int .i64 r, .int .u8 b, .int .u16 v, .int .i64 l]) (.agg #[.int .i64 p', .int .u8 c', .int .i64 o', .int .i64 m', .int .i64 r', .int .u8 b', .int .u16 v', .int .i64 l'])).run Tryz.prog w = .ok (.bool (!insEq p c o m r b v l p' c' o' m' r' b' v' l')) w := by
  unfold insEq
  by_cases h1 : p = p'
  · subst h1
    by_cases h2 : c = c'
    · subst h2
      by_cases h3 : o = o'
      · subst h3
        by_cases h4 : m = m'
        · subst h4
          by_cases h5 : r = r'
          · subst h5
            by_cases h6 : b = b'
            · subst h6
              by_cases h7 : v = v'
              · subst h7
                by_cases h8 : l = l'
                · subst h8
                  go_simp
                · have e : (l == l') = false := by simpa using h8
                  go_simp
              · have e : (v == v') = false := by simpa using h7
                go_simp
            · have e : (b == b') = false := by simpa using h6
              go_simp
          · have e : (r == r') = false := by simpa using h5
            go_simp
        · have e : (m == m') = false := by simpa using h4
          go_simp
      · have e : (o == o') = false := by simpa using h3
        go_simp
    · have e : (c == c') = false := by simpa using h2
      go_simp
  · have e : (p == p') = false := by simpa using h1
    go_simp
/-- The boxed instruction, the bytes so far (a slice of the call's own), and what stands below. -/
structure PuSt (w wx : World) (cs : Array Value) (v : Value) (zs : List Int) : Prop where
  box : Blk wx w.heap.size 37 cs
  own : Own .u8 5 wx (w.heap.size + 1) v zs
  bel : Below w.heap.size w wx
theorem PuSt.app {w wx w' : World} {cs : Array Value} {v v' : Value} {zs ys : List Int} {o : Obj} (h : PuSt w wx cs v zs) (ho : Own .u8 5 w' (w.heap.size + 1) v' ys) (hb : Below (w.heap.size + 1) (wx.alloc o) w') : PuSt w w' cs v' ys :=
  ⟨Blk.below (Blk.alloc h.box o) hb (by omega), ho, (Below.alloc0 h.bel o).trans (hb.mono (by omega))⟩
theorem Below.undrew {B : Nat} {w w' : World} (h : Below B w.drew w') : Below B w w' := ⟨h.os, h.tape, h.output, h.size, h.block⟩
theorem PuSt.step {w wx w' : World} {cs : Array Value} {v : Value} {zs : List Int} (h : PuSt w wx cs v zs) (hb : Below wx.heap.size wx w') : PuSt w w' cs v zs :=
  ⟨Blk.below h.box hb h.box.lt, h.own.below hb (fun g hg => (h.own.lt g hg).2), Below.trans0 h.bel hb⟩
theorem PuSt.lt {w wx : World} {cs : Array Value} {v : Value} {zs : List Int} (h : PuSt w wx cs v zs) : w.heap.size + 1 ≤ wx.heap.size := h.box.lt
def PutIs (w : World) (X : List Int) (ok : Bool) (e : Ending) (w' : World) : Prop :=
  ∃ A c, e = .returned (.tuple #[.slice A (if ok then X else []).length c, .int .i64 (if ok then 0 else 10)]) ∧ Ints .u8 w' w'.heap.size A (if ok then X else []).length (if ok then X else []) ∧ Below w.heap.size w w'
set_option maxRecDepth 100000 in
set_option maxHeartbeats 4000000 in
theorem put_any (p c o m r v l : Int) (b : Nat) (hc0 : 0 ≤ c) (hc1 : c < 256) (hb : b < 256) (v0 : 0 ≤ v) (v1 : v < 65536) (w : World) (hP : PagAt w) (hK : KindsAt w) :
    Calls Tryz.prog 24 #[.agg (iC p c o m r (b : Int) v l)] w (PutIs w (putX p c m b v) (putOk p c o m r b v l (putX p c m b v))) := by
  have hwf := putX_wf p c m b v hc0 hc1 hb v0 v1
  have hln := putX_len p c m b v
  have HPx := Lib.hid (fun wx (hb : Below w.heap.size w wx) => hP.below hb)
  have HKx := Lib.hid (fun wx (hb : Below w.heap.size w wx) => kinds_below hK hb)
  have CO := Lib.hid (fun A cap wx (hI : Ints .u8 wx wx.heap.size A (putX p c m b v).length (putX p c m b v)) hp hk => ofI_any A (putX p c m b v).length cap (putX p c m b v) wx hI (by omega) hp hk)
  have HX : Hid (putX p c m b v = putA p ++ [c] ++ putB m b ++ putC m b v) := Lib.hid rfl
  have HLs := Lib.hid (And.intro (putA_len p) (And.intro (putB_len m b) (putC_len m b v)))
  have HAg : Hid (inOk (putX p c m b v) = true → inAgg (putX p c m b v) = iC (inPg (putX p c m b v) : Int) (inCo (putX p c m b v)) (eOp (inE (putX p c m b v))) (eMode (inE (putX p c m b v))) (eReg (inE (putX p c m b v))) (inPo (putX p c m b v)) (inVa (putX p c m b v)) (inLn (putX p c m b v) : Int)) := Lib.hid (fun h => by unfold inAgg insC; rw [if_pos h])
  have HAz : Hid (inOk (putX p c m b v) = false → inAgg (putX p c m b v) = zInst) := Lib.hid (fun h => by unfold inAgg; rw [h]; rfl)
  have HOk : Hid (putOk p c o m r b v l (putX p c m b v) = (inOk (putX p c m b v) && insEq (inPg (putX p c m b v) : Int) (inCo (putX p c m b v)) (eOp (inE (putX p c m b v))) (eMode (inE (putX p c m b v))) (eReg (inE (putX p c m b v))) (inPo (putX p c m b v)) (inVa (putX p c m b v)) (inLn (putX p c m b v) : Int) p c o m r b v l)) := Lib.hid rfl
  generalize putOk p c o m r b v l (putX p c m b v) = OKP at HOk ⊢
  generalize (inPg (putX p c m b v) : Int) = p' at HAg HOk
  generalize inCo (putX p c m b v) = c' at HAg HOk
  generalize (eOp (inE (putX p c m b v)) : Int) = o' at HAg HOk
  generalize (eMode (inE (putX p c m b v)) : Int) = m' at HAg HOk
  generalize (eReg (inE (putX p c m b v)) : Int) = r' at HAg HOk
  generalize inPo (putX p c m b v) = b' at HAg HOk
  generalize inVa (putX p c m b v) = v' at HAg HOk
  generalize (inLn (putX p c m b v) : Int) = l' at HAg HOk
  generalize inAgg (putX p c m b v) = ag at CO HAg HAz
  generalize inOk (putX p c m b v) = ok at CO HAg HAz HOk
  obtain ⟨X, hX⟩ : ∃ X, putX p c m b v = X := ⟨_, rfl⟩
  rw [hX] at hwf hln CO HX ⊢
  have HWf := Lib.hid hwf
  have HLn := Lib.hid hln
  have HXA : Hid (putA p = if p = 2 then [16] else if p = 3 then [17] else []) := Lib.hid rfl
  have HXB : Hid (putB m b = if pstdI m then [(b : Int)] else []) := Lib.hid rfl
  have HXC : Hid (putC m b v = if widI m b = 1 then [v % 256] else if widI m b = 2 then [v / 256, v % 256] else []) := Lib.hid rfl
  generalize putA p = XA at HX HLs HXA
  generalize putB m b = XB at HX HLs HXB
  generalize putC m b v = XC at HX HLs HXC
  have CPo := Lib.hid (fun w => posted_any m w)
  have CWd := Lib.hid (fun wx h => width_any p c o m r v l b hb wx h)
  have hwd := widI_le m b hb
  obtain ⟨N, hN⟩ : ∃ N, widI m b = N := ⟨_, rfl⟩
  obtain ⟨P, hPs⟩ : ∃ P, pstdI m = P := ⟨_, rfl⟩
  rw [hN] at CWd HXC hwd
  rw [hPs] at CPo HXB
  have CH := Lib.hid (fun w => high_any v w v0 v1)
  have CLo := Lib.hid (fun w => low_any v w v0 v1)
  clear hX hwf hln hN hPs hP hK
  go_enter Tryz.func24, Tryz.ntmps24
  go_upto_block 0 with (fail)
  have HS0 := Lib.hid (show PuSt w (w.alloc (Obj.cells (iC p c o m r (b : Int) v l) 37)) (iC p c o m r (b : Int) v l) (.slice none 0 0) [] from ⟨Blk.new _ _ _ _, Own.nil_ _ _ _ _, Below.alloc0 (Below.refl _ _) _⟩)
  generalize w.alloc (Obj.cells (iC p c o m r (b : Int) v l) 37) = W0 at HS0 ⊢
  go_cut [4] (fun u4 wx => Hid (PuSt w wx (iC p c o m r (b : Int) v l) u4 XA))
  case first =>
    obtain ⟨c0, c1, c2, c3, c4, c5, c6, c7⟩ := HS0.out.box.s8
    rcases (show p = 2 ∨ p = 3 ∨ (¬ p = 2 ∧ ¬ p = 3) by omega) with rfl | rfl | ⟨h2, h3⟩
    · have HQ : Hid (XA = [16]) := Lib.hid HXA.out
      go_wp2_with (at_builtin; refine wpList_app8 rfl _ (.tmp 11) (.tmp 12) rfl (w.heap.size + 1) _ [] rfl (HS0.out.own.alloc _) ⟨W0.heap.size, 0, none⟩ 1 1 [16] rfl rfl (cells_lit _ _ _ _ _ rfl _ rfl) (by simp) (by have := HS0.out.lt; simp; omega) ?_; intro v1 w1 ho1 hb1 hg1)
      go_meet
      case rel => rw [HQ.out]; exact Lib.hid (HS0.out.app ho1 hb1)
    · have HQ : Hid (XA = [17]) := Lib.hid HXA.out
      go_wp2_with (at_builtin; refine wpList_app8 rfl _ (.tmp 16) (.tmp 17) rfl (w.heap.size + 1) _ [] rfl (HS0.out.own.alloc _) ⟨W0.heap.size, 0, none⟩ 1 1 [17] rfl rfl (cells_lit _ _ _ _ _ rfl _ rfl) (by simp) (by have := HS0.out.lt; simp; omega) ?_; intro v1 w1 ho1 hb1 hg1)
      go_meet
      case rel => rw [HQ.out]; exact Lib.hid (HS0.out.app ho1 hb1)
    · have HQ : Hid (XA = []) := Lib.hid (by rw [HXA.out, if_neg h2, if_neg h3])
      have e2 := ne_beq h2
      have e3 := ne_beq h3
      clear h2 h3
      go_wp2_with fail
      go_meet
      case rel => rw [HQ.out]; exact HS0
  case rest =>
    have HS1 := hcut
    clear hcut HS0
    obtain ⟨c0, c1, c2, c3, c4, c5, c6, c7⟩ := HS1.out.box.s8
    go_upto_region 8 with (at_builtin; refine wpList_app8 rfl _ (.tmp 19) (.tmp 22) rfl (w.heap.size + 1) u4 XA rfl (HS1.out.own.alloc _) ⟨wc.heap.size, 0, none⟩ 1 1 [c] rfl rfl (cells_lit _ _ _ _ _ rfl _ rfl) (by have := HLs.out.1; simp; omega) (by have := HS1.out.lt; simp; omega) ?_; intro v2 w2 ho2 hb2 hg2)
    have HS2 := Lib.hid (HS1.out.app ho2 hb2)
    clear c0 c1 c2 c3 c4 c5 c6 c7 ho2 hb2 hg2 HS1
    obtain ⟨c0, c1, c2, c3, c4, c5, c6, c7⟩ := HS2.out.box.s8
    go_upto_if 27 with (go_at_call 39; refine (CPo.out _).mono ?_; rintro e w' ⟨rfl, rfl⟩)
    go_cut [4] (fun u4 wx => Hid (PuSt w wx (iC p c o m r (b : Int) v l) u4 (XA ++ [c] ++ XB)))
    case first =>
      cases P
      · have HQ : Hid (XB = []) := Lib.hid HXB.out
        go_wp2_with fail
        go_meet
        case rel => rw [HQ.out, List.append_nil]; exact HS2
      · have HQ : Hid (XB = [(b : Int)]) := Lib.hid HXB.out
        go_wp2_with (at_builtin; refine wpList_app8 rfl _ (.tmp 28) (.tmp 31) rfl (w.heap.size + 1) v2 (XA ++ [c]) rfl (HS2.out.own.alloc _) ⟨w2.heap.size, 0, none⟩ 1 1 [(b : Int)] rfl rfl (cells_lit _ _ _ _ _ rfl _ rfl) (by have := HLs.out.1; simp; omega) (by have := HS2.out.lt; simp; omega) ?_; intro v3 w3 ho3 hb3 hg3)
        go_meet
        case rel => rw [HQ.out]; exact Lib.hid (HS2.out.app ho3 hb3)
    case rest =>
      have HS3 := hcut
      clear hcut HS2 c0 c1 c2 c3 c4 c5 c6 c7
      obtain ⟨c0, c1, c2, c3, c4, c5, c6, c7⟩ := HS3.out.box.s8
      go_upto_block 1 with (go_at_call 40; refine (CWd.out _ (HKx.out _ HS3.out.bel)).mono ?_; rintro e w4 ⟨rfl, hb4⟩)
      have HS4 := Lib.hid (HS3.out.step hb4)
      clear hb4 HS3 c0 c1 c2 c3 c4 c5 c6 c7
      go_cut [4] (fun u4 wx => Hid (PuSt w wx (iC p c o m r (b : Int) v l) u4 X))
      case first =>
        obtain ⟨c0, c1, c2, c3, c4, c5, c6, c7⟩ := HS4.out.box.s8
        rcases (show N = 0 ∨ N = 1 ∨ N = 2 by omega) with rfl | rfl | rfl
        · have HQ : Hid (X = XA ++ [c] ++ XB) := Lib.hid (by rw [HX.out, HXC.out]; simp)
          go_wp2_with fail
          go_meet
          case rel => rw [HQ.out]; exact HS4
        · have HQ : Hid (X = XA ++ [c] ++ XB ++ [v % 256]) := Lib.hid (by rw [HX.out, HXC.out]; rfl)
          go_wp2_with (first
            | (go_at_call 41; refine (CLo.out _).mono ?_; rintro e w' ⟨rfl, rfl⟩)
            | (at_builtin; refine wpList_app8 rfl _ (.tmp 37) (.tmp 41) rfl (w.heap.size + 1) u4 (XA ++ [c] ++ XB) rfl (HS4.out.own.alloc _) ⟨w4.heap.size, 0, none⟩ 1 1 [v % 256] rfl rfl (cells_lit _ _ _ _ _ rfl _ rfl) (by have := HLs.out.1; have := HLs.out.2.1; simp; omega) (by have := HS4.out.lt; simp; omega) ?_; intro v5 w5 ho5 hb5 hg5))
          go_meet
          case rel => rw [HQ.out]; exact Lib.hid (HS4.out.app ho5 hb5)
        · have HQ : Hid (X = XA ++ [c] ++ XB ++ [v / 256, v % 256]) := Lib.hid (by rw [HX.out, HXC.out]; rfl)
          have HSd := Lib.hid (show w4.drew.cell? ⟨w.heap.size, 6, none⟩ = some (.int .u16 v) from c6)
          go_upto_region 14 with (fail)
          go_region_held3 (fun w' => w'.cell? ⟨w.heap.size, 6, none⟩ = some (.int .u16 v))
            (first
              | (with_reducible exact HSd.out)
              | exact (Blk.s8 (show Blk _ w.heap.size 37 (iC p c o m r (b : Int) v l) from Blk.alloc HS4.out.box _)).2.2.2.2.2.2.1
              | exact (Blk.s8 (show Blk _ w.heap.size 37 (iC p c o m r (b : Int) v l) from (HS4.out.app ho5 (Below.undrew hb5)).box)).2.2.2.2.2.2.1)
            (first
              | (go_at_call 42; refine (CH.out _).mono ?_; rintro e w' ⟨rfl, rfl⟩)
              | (go_at_call 41; refine (CLo.out _).mono ?_; rintro e w' ⟨rfl, rfl⟩)
              | (refine step_app8 (by rfl) _ _ _ (by rfl) (w.heap.size + 1) u4 (XA ++ [c] ++ XB) (by rfl) ((HS4.out.own.alloc _).drew)
                  ⟨w4.heap.size, 0, none⟩ 2 2 [v / 256, v % 256] (by rfl) (by rfl) (cells_new _ _ _ _ _ _ rfl (heap_alloc_new w4 _)) (by have := HLs.out.1; have := HLs.out.2.1; simp; omega) (by have := HS4.out.lt; simp; omega) ?_; intro v5 w5 ho5 hb5 hg5))
          all_goals
            go_wp2_with fail
            go_meet
            case rel => rw [HQ.out]; exact Lib.hid (HS4.out.app ho5 (Below.undrew hb5))
      case rest =>
        have HS5 := hcut
        clear hcut HS4
        obtain ⟨A5, c5', rfl, HI5⟩ := HS5.out.own.ints HWf.out
        cases ok
        · obtain rfl := HAz.out rfl
          have HQ : Hid (OKP = false) := Lib.hid HOk.out
          go_wp2_with fail
          refine (CO.out A5 c5' _ HI5 (HPx.out _ HS5.out.bel) (HKx.out _ HS5.out.bel)).mono ?_
          rintro e w6 ⟨rfl, hb6⟩
          have HB6 := Lib.hid (Below.trans0 HS5.out.bel hb6)
          clear hb6
          go_wp2
          go_ret2
          refine ⟨none, 0, ?_, ?_, Below.alloc0 HB6.out _⟩
          · rw [HQ.out]; rfl
          · rw [HQ.out]; exact Ints.nil_ _ _ _ _
        · obtain rfl := HAg.out rfl
          have HQ : Hid (OKP = insEq p' c' o' m' r' b' v' l' p c o m r b v l) := Lib.hid (by rw [HOk.out]; rfl)
          obtain ⟨Z, hZ⟩ : ∃ Z, insEq p' c' o' m' r' b' v' l' p c o m r b v l = Z := ⟨_, rfl⟩
          have he := fun w => neq_ins w p' c' o' m' r' b' v' l' p c o m r b v l
          rw [hZ] at he HQ
          clear hZ
          cases Z
          · simp only [Bool.not_false] at he
            go_wp2_with fail
            refine (CO.out A5 c5' _ HI5 (HPx.out _ HS5.out.bel) (HKx.out _ HS5.out.bel)).mono ?_
            rintro e w6 ⟨rfl, hb6⟩
            have HB6 := Lib.hid (Below.alloc0 (Below.trans0 HS5.out.bel hb6) (Obj.cells (iC p' c' o' m' r' b' v' l') 37))
            have HX6 := Lib.hid (Blk.alloc (Blk.below HS5.out.box hb6 HS5.out.box.lt) (Obj.cells (iC p' c' o' m' r' b' v' l') 37))
            have HG6 := Lib.hid (Blk.new w6 37 (iC p' c' o' m' r' b' v' l') (0, 0))
            clear hb6
            go_upto_region 16 with (fail)
            obtain ⟨g, hg⟩ : ∃ g, w6.heap.size = g := ⟨_, rfl⟩
            rw [hg] at HG6 ⊢
            generalize w6.alloc (Obj.cells (iC p' c' o' m' r' b' v' l') 37) = W6 at HB6 HX6 HG6 ⊢
            obtain ⟨c0, c1, c2, c3, c4, c5, c6, c7⟩ := HX6.out.s8
            obtain ⟨d0, d1, d2, d3, d4, d5, d6, d7⟩ := HG6.out.s8
            go_wp2
            go_ret2
            refine ⟨none, 0, ?_, ?_, HB6.out⟩
            · rw [HQ.out]; rfl
            · rw [HQ.out]; exact Ints.nil_ _ _ _ _
          · simp only [Bool.not_true] at he
            go_wp2_with fail
            refine (CO.out A5 c5' _ HI5 (HPx.out _ HS5.out.bel) (HKx.out _ HS5.out.bel)).mono ?_
            rintro e w6 ⟨rfl, hb6⟩
            have hbl := Below.alloc0 hb6 (Obj.cells (iC p' c' o' m' r' b' v' l') 37)
            have HIx := Lib.hid (HI5.below hbl.size hbl)
            have HB6 := Lib.hid (Below.trans0 HS5.out.bel hbl)
            have HX6 := Lib.hid (Blk.alloc (Blk.below HS5.out.box hb6 HS5.out.box.lt) (Obj.cells (iC p' c' o' m' r' b' v' l') 37))
            have HG6 := Lib.hid (Blk.new w6 37 (iC p' c' o' m' r' b' v' l') (0, 0))
            clear hb6 hbl
            go_upto_region 16 with (fail)
            obtain ⟨g, hg⟩ : ∃ g, w6.heap.size = g := ⟨_, rfl⟩
            rw [hg] at HG6 ⊢
            generalize w6.alloc (Obj.cells (iC p' c' o' m' r' b' v' l') 37) = W6 at HB6 HX6 HG6 HIx ⊢
            obtain ⟨c0, c1, c2, c3, c4, c5, c6, c7⟩ := HX6.out.s8
            obtain ⟨d0, d1, d2, d3, d4, d5, d6, d7⟩ := HG6.out.s8
            go_wp2
            go_ret2
            refine ⟨A5, c5', ?_, ?_, HB6.out⟩
            · rw [HQ.out]; rfl
            · rw [HQ.out]; exact HIx.out
end Go.Proofs.YtljhfalgplihhaaGreatDoor
