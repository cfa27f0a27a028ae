/- Points at addresses: the law's made. -/
import Derived.Test.YteaajmoclgfhnaaWop
import Derived.Deep.RegionHeld3
namespace Go.Proofs.Yteaajmoclgfhnaa
open Go.ChangeShapes Go.WideShapes Go.ChangeAt Go.RowKit
set_option linter.unusedVariables false

/-- Points and the last number behind a call; behind calls. -/
def opS (s : List Pt × Int) (x : OpV) : List Pt × Int :=
  if x.d = true then (stay x.n s.1, s.2) else if adE x.k x.f x.t = 0 then (s.1 ++ [⟨s.2 + 1, x.k, x.f, x.t⟩], s.2 + 1) else s
def opsS (l : List OpV) : List Pt × Int := l.foldl opS ([], 0)
theorem opsS_next (l : List OpV) (x : OpV) : opsS (l ++ [x]) = opS (opsS l) x := by unfold opsS; rw [List.foldl_append]; rfl
theorem opS_len (s : List Pt × Int) (x : OpV) : (opS s x).1.length ≤ s.1.length + 1 ∧ s.2 ≤ (opS s x).2 ∧ (opS s x).2 ≤ s.2 + 1 := by
  have hs := stay_len x.n s.1
  unfold opS
  split
  · exact ⟨by show (stay x.n s.1).length ≤ _; omega, Int.le_refl _, by show s.2 ≤ _; omega⟩
  · split
    · exact ⟨by simp, by show s.2 ≤ s.2 + 1; omega, Int.le_refl _⟩
    · exact ⟨by omega, Int.le_refl _, by omega⟩
theorem foldl_ops (l : List OpV) : ∀ s : List Pt × Int, (l.foldl opS s).1.length ≤ s.1.length + l.length ∧ s.2 ≤ (l.foldl opS s).2 ∧ (l.foldl opS s).2 ≤ s.2 + l.length := by
  induction l with
  | nil => intro s; exact ⟨Nat.le_refl _, Int.le_refl _, by simp⟩
  | cons x l ih =>
    intro s
    obtain ⟨h1, h2, h3⟩ := ih (opS s x)
    obtain ⟨g1, g2, g3⟩ := opS_len s x
    rw [List.foldl_cons, List.length_cons]
    refine ⟨by omega, by omega, by omega⟩
theorem opsS_len (l : List OpV) : (opsS l).1.length ≤ l.length ∧ 0 ≤ (opsS l).2 ∧ (opsS l).2 ≤ l.length := by
  obtain ⟨h1, h2, h3⟩ := foldl_ops l ([], 0)
  unfold opsS
  refine ⟨by simpa using h1, h2, by simpa using h3⟩
/-- What the law's made holds: the points in the program's block and in a row of its own. -/
structure MdI (B g : Nat) (w0 : World) (s : List Pt × Int) (u v : Value) (wr : World) : Prop where
  at_ : WAt wr g v s.1 s.2
  own : eP.Own 88 wr B u s.1
  apart : ∀ b, u.ownBlock = some b → b ≠ g ∧ v.ownBlock ≠ some b
  below : Below B w0 wr
theorem MdI.next {g : Nat} {w0 wr w' : World} {s : List Pt × Int} {u v : Value} (h : MdI w0.heap.size g w0 s u v wr) (hb : Below wr.heap.size wr w') : MdI w0.heap.size g w0 s u v w' :=
  ⟨h.at_.below hb, Els.Own.below h.own hb, h.apart, Below.trans0 h.below hb⟩
theorem md_drop {g : Nat} {w0 W1 w2 w3 : World} {P : List Pt} {la n : Int} {u v r v' : Value} (hI : MdI w0.heap.size g w0 (P, la) u v W1) (hBg : w0.heap.size ≤ g) (ho : eP.Own 88 w2 W1.heap.size r (stay n P)) (hb : Below W1.heap.size W1 w2) (hw : WAt w3 g v' (stay n P) la) (hk : Kp g v w2 w3) (he : v'.ownBlock = v.ownBlock) : MdI w0.heap.size g w0 (stay n P, la) r v' w3 := by
  have hlt := hI.at_.2.lt
  have hgl := hI.at_.lt
  have hr := ho.lt
  have hap : ∀ b, r.ownBlock = some b → b ≠ g ∧ v.ownBlock ≠ some b := fun b h => ⟨by have := hr b h; omega, fun h' => by have := hr b h; have := hlt b h'; omega⟩
  refine ⟨hw, Els.Own.more (Kp.own hk ho hap) (by omega), fun b h => by rw [he]; exact hap b h, Kp.below hk (Below.trans0 hI.below hb) hBg (fun b h => by have := hlt b h; omega) (by have := hb.size; omega)⟩
theorem md_add {g : Nat} {w0 W1 w2 w3 : World} {o : Obj} {P : List Pt} {x : Pt} {la : Int} {u v u' v' : Value} (hI : MdI w0.heap.size g w0 (P, la) u v W1) (hBg : w0.heap.size ≤ g) (hw : WAt w2 g v' (P ++ [x]) (la + 1)) (hk : Kp g v W1 w2)
    (he : v'.ownBlock = v.ownBlock ∨ ∃ b, v'.ownBlock = some b ∧ W1.heap.size ≤ b) (hown : eP.Own 88 w3 w0.heap.size u' (P ++ [x])) (hbel : Below w0.heap.size (w2.alloc o) w3) (hgr : (w2.alloc o).grownBy w3 u.ownBlock)
    (hwh : u'.ownBlock = u.ownBlock ∨ u'.ownBlock = some (w2.alloc o).heap.size) : MdI w0.heap.size g w0 (P ++ [x], la + 1) u' v' w3 := by
  have hlt := hI.at_.2.lt
  have hgl := hI.at_.lt
  have hul := hI.own.lt
  have hsz := hk.size
  have hsa : (w2.alloc o).heap.size = w2.heap.size + 1 := by simp
  have hvl := hw.2.lt
  have hne : ∀ b, u.ownBlock = some b → v'.ownBlock ≠ some b := fun b h h' => by
    rcases he with he | ⟨b', h1, h2⟩
    · exact (hI.apart b h).2 (he.symm.trans h')
    · rw [h1] at h'; injection h' with h'; have := hul b h; omega
  refine ⟨(hw.below (Below.alloc0 (Below.refl _ _) o)).grown hgr (fun e => (hI.apart g e).1 rfl) ?_, hown, fun b h => ?_, (Below.alloc0 (Kp.below hk hI.below hBg (fun b h => by have := hlt b h; omega) (by omega)) o).trans hbel⟩
  · rcases hv : v'.ownBlock with _ | b
    · exact .inl rfl
    · exact .inr (fun e => hne b e.symm hv)
  · rcases hwh with hwh | hwh
    · rw [hwh] at h; exact ⟨(hI.apart b h).1, hne b h⟩
    · rw [hwh, hsa] at h; injection h with h; exact ⟨by omega, fun h' => by have := hvl b h'; omega⟩
theorem adE_cases (k f t : Int) : (adE k f t = 10 ∧ k < 0) ∨ (adE k f t = 10 ∧ ¬ k < 0 ∧ 2 < k) ∨ (adE k f t = 11 ∧ ¬ k < 0 ∧ ¬ 2 < k ∧ t < f) ∨ (adE k f t = 0 ∧ ¬ k < 0 ∧ ¬ 2 < k ∧ ¬ t < f) := by
  unfold adE
  by_cases h1 : k < 0
  · exact .inl ⟨if_pos (.inl h1), h1⟩
  by_cases h2 : 2 < k
  · exact .inr (.inl ⟨if_pos (.inr h2), h1, h2⟩)
  by_cases h3 : t < f
  · exact .inr (.inr (.inl ⟨by rw [if_neg (by omega), if_pos h3], h1, h2, h3⟩))
  · exact .inr (.inr (.inr ⟨by rw [if_neg (by omega), if_neg h3], h1, h2, h3⟩))
set_option maxRecDepth 100000 in
set_option maxHeartbeats 32000000 in
theorem made_any (g n c : Nat) (A : Option Addr) (l : List OpV) (w0 w : World) (hB : Below w0.heap.size w0 w) (hg : w0.heap.size ≤ g) (h : WAt w g (.slice none 0 0) [] 0) (hr : eO.Rd w0 (.slice A n c) l) (hl : l.length = n) (hn : n ≤ 40) :
    Calls Try.prog 16 #[.pointer (some ⟨g, 0, none⟩), .slice A n c] w fun e w' => ∃ u v, e = .returned (.tuple #[u, .bool true]) ∧ MdI w0.heap.size g w0 (opsS l) u v w' := by
  obtain ⟨A', c', hA, hc⟩ := hr.open_
  injection hA with hA1 hA2 hA3
  subst hA1 hA3
  rw [hl] at hc
  have HL := Lib.hid hl
  have HC := Lib.hid hc
  have HG := Lib.hid hg
  have HN := Lib.hid hn
  have H0 : Hid (MdI w0.heap.size g w0 (opsS (l.take 0)) (.slice none 0 0) (.slice none 0 0) w) := Lib.hid ⟨h, Els.Own.nil_ _ _, (fun b hb => by cases hb), hB⟩
  clear hr hc hl hg h hB hA2
  go_enter Try.func16, Try.ntmps16
  go_wp2
  go_loopw [6, 7, 8] (fun u la i wr => ∃ k : Nat, k ≤ n ∧ i = .int .i64 k ∧ ∃ (s : List Pt × Int) (v : Value), Hid (opsS (l.take k) = s) ∧ la = .int .i64 s.2 ∧ Hid (MdI w0.heap.size g w0 s u v wr)) (fun _ _ i _ => n - (intOf i).toNat)
  case atStart => exact ⟨0, Nat.zero_le _, rfl, _, _, Lib.hid rfl, rfl, H0⟩
  case round =>
    obtain ⟨k, hk, rfl, s, v, hS, rfl, hI⟩ := hrel
    by_cases hlt : k < n
    · obtain ⟨gc, off, rfl, hgc, hcell⟩ := HC.out (by omega)
      have hkl : k < l.length := by rw [HL.out]; exact hlt
      have CE := hcell k _ (List.getElem?_eq_getElem hkl)
      have NX := Lib.hid (show opsS (l.take (k + 1)) = opS s l[k] from (by rw [takeP l k hkl] : opsS (l.take (k + 1)) = opsS (l.take k ++ [l[k]])).trans ((opsS_next _ _).trans (by rw [hS.out])))
      have LS := Lib.hid (show s.1.length ≤ 40 ∧ 0 ≤ s.2 ∧ s.2 ≤ 40 from by have h := opsS_len (l.take k); rw [hS.out, List.length_take] at h; have := HN.out; omega)
      generalize l[k] = x at CE NX
      obtain ⟨q0, q1, q2, q3, q4⟩ := op5_at hI.out.below hgc CE
      have z0 := (op5_at (Below.alloc0 hI.out.below (Obj.cells #[.int .i64 x.n, .int .i64 x.k, .int .u16 x.f, .int .u16 x.t] 88)) hgc CE).1
      have HP := Lib.hid (Blk.new wr 88 #[.int .i64 x.n, .int .i64 x.k, .int .u16 x.f, .int .u16 x.t] (0, 0))
      have HI1 := Lib.hid (MdI.next hI.out (Below.alloc0 (Below.refl _ _) (Obj.cells #[.int .i64 x.n, .int .i64 x.k, .int .u16 x.f, .int .u16 x.t] 88)))
      have HS1 : Hid ((wr.alloc (Obj.cells #[.int .i64 x.n, .int .i64 x.k, .int .u16 x.f, .int .u16 x.t] 88)).heap.size = wr.heap.size + 1) := Lib.hid (by simp)
      have hgS := hI.out.at_.lt
      obtain ⟨G6, hG6⟩ : ∃ G, wr.heap.size = G := ⟨_, rfl⟩
      rw [hG6] at hgS
      have k0 : (0 : Int) ≤ (k : Int) := by omega
      have k1 : (k : Int) < (n : Int) := by omega
      obtain ⟨P, la⟩ := s
      obtain ⟨xd, xn, xk, xf, xt⟩ := x
      simp only at q0 q1 q2 q3 q4 z0 LS HP HI1 HS1
      clear hcell hkl CE hS
      go_upto_region 7 with (fail)
      clear q0 q1 q2 q3 q4
      generalize wr.alloc (Obj.cells #[.int .i64 xn, .int .i64 xk, .int .u16 xf, .int .u16 xt] 88) = W1 at z0 HP HI1 HS1 ⊢
      rw [hG6] at HP HS1
      obtain ⟨A6, c6, rfl, hc6⟩ := HI1.out.own.rd.open_
      obtain ⟨m, hm⟩ : ∃ m, P.length = m := ⟨_, rfl⟩
      rw [hm] at hc6 HI1 ⊢
      have hm40 : m ≤ 40 := by have := LS.out.1; omega
      have HM := Lib.hid hm
      have HC6 := Lib.hid hc6
      have HV := Lib.hid (show ∀ b, v.ownBlock = some b → b < G6 from fun b h => by have := (hI.out.at_.2.lt b h).2; omega)
      clear hm hc6 hI hG6
      have HGG := Lib.hid (show g < G6 from by have := hgS; omega)
      cases xd
      case false =>
        obtain ⟨p0, p1, p2, p3⟩ := Blk.c4 HP.out
        have CD := Lib.hid (add_any g v P la xk xf xt W1 HI1.out.at_ (by have := LS.out.1; omega) (by have := LS.out; omega) (by have := LS.out; omega))
        rcases adE_cases xk xf xt with ⟨hE, h1⟩ | ⟨hE, h1, h2⟩ | ⟨hE, h1, h2, h3⟩ | ⟨hE, h1, h2, h3⟩
        · have d2 : decide (xk < 0) = true := decide_eq_true h1
          by_cases h9 : xt < xf
          · have d1 : decide (xt < xf) = true := decide_eq_true h9
            clear h1 h9
            go_wp2_with fail
            refine CD.out.mono ?_
            unfold AddPost
            rw [hE]
            rintro e w2 (⟨-, rfl, rfl⟩ | ⟨hbad, -⟩)
            case inr => exact absurd hbad (by decide)
            have HEE := Lib.hid hE
            clear CD hE
            have HI5 := HI1
            have CL := Lib.hid (all_any g v P la w2 HI5.out.at_ (by have := LS.out.1; omega))
            go_wp2_with fail
            refine CL.out.mono ?_
            rintro e w6 ⟨v6, rfl, ho6, hb6⟩
            have HI6 := Lib.hid (HI5.out.next hb6)
            have CQ := Lib.hid (eqP_same v6 _ P w6 ho6.rd HI6.out.own.rd (by have := LS.out.1; omega))
            obtain ⟨A66, c66, rfl, -⟩ := ho6.rd.open_
            clear CL hb6 ho6
            go_wp2_with fail
            refine CQ.out.mono ?_
            rintro e w7 ⟨rfl, hb7⟩
            have HI7 := Lib.hid (HI6.out.next hb7)
            clear CQ hb7
            go_wp2
            go_roundw
            case rel => exact ⟨k + 1, by omega, by go_num, (P, la), v, Lib.hid (NX.out.trans (by unfold opS; rw [if_neg (fun hh => Bool.noConfusion hh), if_neg (by show ¬ adE xk xf xt = 0; rw [HEE.out]; decide)])), rfl, HI7⟩
            case measure => simp [intOf]; omega
          · have d1 : decide (xt < xf) = false := decide_eq_false h9
            clear h1 h9
            go_wp2_with fail
            refine CD.out.mono ?_
            unfold AddPost
            rw [hE]
            rintro e w2 (⟨-, rfl, rfl⟩ | ⟨hbad, -⟩)
            case inr => exact absurd hbad (by decide)
            have HEE := Lib.hid hE
            clear CD hE
            have HI5 := HI1
            have CL := Lib.hid (all_any g v P la w2 HI5.out.at_ (by have := LS.out.1; omega))
            go_wp2_with fail
            refine CL.out.mono ?_
            rintro e w6 ⟨v6, rfl, ho6, hb6⟩
            have HI6 := Lib.hid (HI5.out.next hb6)
            have CQ := Lib.hid (eqP_same v6 _ P w6 ho6.rd HI6.out.own.rd (by have := LS.out.1; omega))
            obtain ⟨A66, c66, rfl, -⟩ := ho6.rd.open_
            clear CL hb6 ho6
            go_wp2_with fail
            refine CQ.out.mono ?_
            rintro e w7 ⟨rfl, hb7⟩
            have HI7 := Lib.hid (HI6.out.next hb7)
            clear CQ hb7
            go_wp2
            go_roundw
            case rel => exact ⟨k + 1, by omega, by go_num, (P, la), v, Lib.hid (NX.out.trans (by unfold opS; rw [if_neg (fun hh => Bool.noConfusion hh), if_neg (by show ¬ adE xk xf xt = 0; rw [HEE.out]; decide)])), rfl, HI7⟩
            case measure => simp [intOf]; omega
        · have d2 : decide (xk < 0) = false := decide_eq_false h1
          have d3 : decide (2 < xk) = true := decide_eq_true h2
          by_cases h9 : xt < xf
          · have d1 : decide (xt < xf) = true := decide_eq_true h9
            clear h1 h9 h2
            go_wp2_with fail
            refine CD.out.mono ?_
            unfold AddPost
            rw [hE]
            rintro e w2 (⟨-, rfl, rfl⟩ | ⟨hbad, -⟩)
            case inr => exact absurd hbad (by decide)
            have HEE := Lib.hid hE
            clear CD hE
            have HI5 := HI1
            have CL := Lib.hid (all_any g v P la w2 HI5.out.at_ (by have := LS.out.1; omega))
            go_wp2_with fail
            refine CL.out.mono ?_
            rintro e w6 ⟨v6, rfl, ho6, hb6⟩
            have HI6 := Lib.hid (HI5.out.next hb6)
            have CQ := Lib.hid (eqP_same v6 _ P w6 ho6.rd HI6.out.own.rd (by have := LS.out.1; omega))
            obtain ⟨A66, c66, rfl, -⟩ := ho6.rd.open_
            clear CL hb6 ho6
            go_wp2_with fail
            refine CQ.out.mono ?_
            rintro e w7 ⟨rfl, hb7⟩
            have HI7 := Lib.hid (HI6.out.next hb7)
            clear CQ hb7
            go_wp2
            go_roundw
            case rel => exact ⟨k + 1, by omega, by go_num, (P, la), v, Lib.hid (NX.out.trans (by unfold opS; rw [if_neg (fun hh => Bool.noConfusion hh), if_neg (by show ¬ adE xk xf xt = 0; rw [HEE.out]; decide)])), rfl, HI7⟩
            case measure => simp [intOf]; omega
          · have d1 : decide (xt < xf) = false := decide_eq_false h9
            clear h1 h9 h2
            go_wp2_with fail
            refine CD.out.mono ?_
            unfold AddPost
            rw [hE]
            rintro e w2 (⟨-, rfl, rfl⟩ | ⟨hbad, -⟩)
            case inr => exact absurd hbad (by decide)
            have HEE := Lib.hid hE
            clear CD hE
            have HI5 := HI1
            have CL := Lib.hid (all_any g v P la w2 HI5.out.at_ (by have := LS.out.1; omega))
            go_wp2_with fail
            refine CL.out.mono ?_
            rintro e w6 ⟨v6, rfl, ho6, hb6⟩
            have HI6 := Lib.hid (HI5.out.next hb6)
            have CQ := Lib.hid (eqP_same v6 _ P w6 ho6.rd HI6.out.own.rd (by have := LS.out.1; omega))
            obtain ⟨A66, c66, rfl, -⟩ := ho6.rd.open_
            clear CL hb6 ho6
            go_wp2_with fail
            refine CQ.out.mono ?_
            rintro e w7 ⟨rfl, hb7⟩
            have HI7 := Lib.hid (HI6.out.next hb7)
            clear CQ hb7
            go_wp2
            go_roundw
            case rel => exact ⟨k + 1, by omega, by go_num, (P, la), v, Lib.hid (NX.out.trans (by unfold opS; rw [if_neg (fun hh => Bool.noConfusion hh), if_neg (by show ¬ adE xk xf xt = 0; rw [HEE.out]; decide)])), rfl, HI7⟩
            case measure => simp [intOf]; omega
        · have d1 : decide (xt < xf) = true := decide_eq_true h3
          have d2 : decide (xk < 0) = false := decide_eq_false h1
          have d3 : decide (2 < xk) = false := decide_eq_false h2
          clear h1 h2 h3
          go_wp2_with fail
          refine CD.out.mono ?_
          unfold AddPost
          rw [hE]
          rintro e w2 (⟨-, rfl, rfl⟩ | ⟨hbad, -⟩)
          case inr => exact absurd hbad (by decide)
          have HEE := Lib.hid hE
          clear CD hE
          have HI5 := HI1
          have CL := Lib.hid (all_any g v P la w2 HI5.out.at_ (by have := LS.out.1; omega))
          go_wp2_with fail
          refine CL.out.mono ?_
          rintro e w6 ⟨v6, rfl, ho6, hb6⟩
          have HI6 := Lib.hid (HI5.out.next hb6)
          have CQ := Lib.hid (eqP_same v6 _ P w6 ho6.rd HI6.out.own.rd (by have := LS.out.1; omega))
          obtain ⟨A66, c66, rfl, -⟩ := ho6.rd.open_
          clear CL hb6 ho6
          go_wp2_with fail
          refine CQ.out.mono ?_
          rintro e w7 ⟨rfl, hb7⟩
          have HI7 := Lib.hid (HI6.out.next hb7)
          clear CQ hb7
          go_wp2
          go_roundw
          case rel => exact ⟨k + 1, by omega, by go_num, (P, la), v, Lib.hid (NX.out.trans (by unfold opS; rw [if_neg (fun hh => Bool.noConfusion hh), if_neg (by show ¬ adE xk xf xt = 0; rw [HEE.out]; decide)])), rfl, HI7⟩
          case measure => simp [intOf]; omega
        · have d1 : decide (xt < xf) = false := decide_eq_false h3
          have d2 : decide (xk < 0) = false := decide_eq_false h1
          have d3 : decide (2 < xk) = false := decide_eq_false h2
          clear h1 h2 h3
          have wl : IntKind.i64.wrap (la + 1) = la + 1 := IntWalk.i64_in _ (by have := LS.out; omega)
          go_wp2_with fail
          refine CD.out.mono ?_
          unfold AddPost
          rw [hE]
          rintro e w2 (⟨hbad, -⟩ | ⟨-, rfl, v', hw, hk, ho⟩)
          case inl => exact absurd rfl hbad
          have HEE := Lib.hid hE
          have HU2 := Lib.hid (Kp.own hk HI1.out.own HI1.out.apart)
          have HP2 : Hid (Blk w2 G6 88 #[.int .i64 xn, .int .i64 xk, .int .u16 xf, .int .u16 xt]) := Lib.hid ((hk.block G6 HP.out.lt (by have := HGG.out; omega) (fun e => by have := HV.out G6 e; omega)).trans HP.out)
          have HW := Lib.hid hw
          have HK := Lib.hid hk
          have HO := Lib.hid ho
          have HUA := Lib.hid (Els.Own.alloc HU2.out (Obj.cells #[.int .i64 (la + 1), .int .i64 xk, .int .u16 xf, .int .u16 xt] 88))
          have HBS : Hid (w0.heap.size ≤ (w2.alloc (Obj.cells #[.int .i64 (la + 1), .int .i64 xk, .int .u16 xf, .int .u16 xt] 88)).heap.size) := Lib.hid (by have h1 := HI1.out.below.size; have h2 := hk.size; simp; omega)
          clear CD hE hw hk ho p0 p1 p2 p3
          obtain ⟨p0, p1, p2, p3⟩ := Blk.c4 HP2.out
          go_wp2_with (at_builtin; refine wpList_appP rfl _ (.tmp 91) (.tmp 100) rfl w0.heap.size (.slice A6 m c6) _ P [⟨la + 1, xk, xf, xt⟩] rfl HUA.out rfl (Els.Rd.new (E := eP) _ rfl 88 [⟨la + 1, xk, xf, xt⟩] #[.int .i64 (la + 1), .int .i64 xk, .int .u16 xf, .int .u16 xt] 1 rfl rfl 1) (by have := LS.out.1; simp; omega) (by exact HBS.out) ?_; intro u' w4 hown hbel hgr hwh; have HI4 := Lib.hid (md_add HI1.out HG.out HW.out HK.out HO.out hown hbel hgr hwh); clear hown hbel hgr hwh p0 p1 p2 p3; obtain ⟨PN, hPN⟩ : ∃ Q, P ++ [(⟨la + 1, xk, xf, xt⟩ : Pt)] = Q := ⟨_, rfl⟩; rw [hPN] at HI4; have HPN := Lib.hid hPN; have HLN := Lib.hid (show PN.length ≤ 41 from by rw [← hPN]; have := LS.out.1; simp; omega); clear hPN HW; obtain ⟨A44, c44, rfl, -⟩ := HI4.out.own.rd.open_; obtain ⟨pl, hpl⟩ : ∃ n, PN.length = n := ⟨_, rfl⟩; rw [hpl] at HI4 ⊢; have CL := Lib.hid (all_any g v' PN (la + 1) w4 HI4.out.at_ (by have := HLN.out; omega)); rw [hpl] at HLN; have HPL := Lib.hid hpl; clear hpl)
          have HI5 := HI4
          refine CL.out.mono ?_
          rintro e w6 ⟨v6, rfl, ho6, hb6⟩
          have HI6 := Lib.hid (HI5.out.next hb6)
          have CQ := Lib.hid (eqP_same v6 _ PN w6 ho6.rd HI6.out.own.rd (by rw [HPL.out]; have := HLN.out; omega))
          obtain ⟨A66, c66, rfl, -⟩ := ho6.rd.open_
          have CQ' := CQ.out
          rw [HPL.out] at CQ' ⊢
          clear CQ
          have CQ := Lib.hid CQ'
          clear CQ'
          clear CL hb6 ho6
          go_wp2_with fail
          refine CQ.out.mono ?_
          rintro e w7 ⟨rfl, hb7⟩
          have HI7 := Lib.hid (HI6.out.next hb7)
          clear CQ hb7
          go_wp2
          go_roundw
          case rel => exact ⟨k + 1, by omega, by go_num, (PN, (la + 1)), v', Lib.hid (NX.out.trans (by unfold opS; rw [if_neg (fun hh => Bool.noConfusion hh), if_pos (show adE xk xf xt = 0 from HEE.out)]; exact congrArg (fun q => (q, la + 1)) HPN.out)), rfl, HI7⟩
          case measure => simp [intOf]; omega
      case true =>
        go_wp2
        clear z0
        go_loopw [10, 11] (fun r j w2 => ∃ q : Nat, q ≤ m ∧ j = .int .i64 q ∧ Hid (eP.Own 88 w2 W1.heap.size r (stay xn (P.take q))) ∧ Hid (Below W1.heap.size W1 w2)) (fun _ j _ => m - (intOf j).toNat)
        case atStart => exact ⟨0, Nat.zero_le _, rfl, Lib.hid (Els.Own.nil_ _ _), Lib.hid (Below.refl _ _)⟩
        case round =>
          obtain ⟨q, hq, rfl, hO, hB⟩ := hrel
          by_cases hltq : q < m
          · obtain ⟨g6, off6, rfl, hg6, hcell6⟩ := HC6.out (by omega)
            have hql : q < P.length := by rw [HM.out]; exact hltq
            have CE := hcell6 q _ (List.getElem?_eq_getElem hql)
            have NY := Lib.hid (show stay xn (P.take (q + 1)) = _ from (by rw [takeP P q hql] : stay xn (P.take (q + 1)) = stay xn (P.take q ++ [P[q]])).trans (stay_next _ _ _))
            have LQ : Hid ((stay xn (P.take q)).length ≤ 40) := Lib.hid (by have h1 := stay_len xn (P.take q); have := LS.out.1; rw [List.length_take] at h1; omega)
            generalize P[q] = y at CE NY
            generalize stay xn (P.take q) = H at hO NY LQ
            obtain ⟨y0, y1, y2, y3⟩ := pt4_at hB.out hg6 CE
            have HCE := Lib.hid (fun nq => pt4_at (Below.drewN0 hB.out nq) hg6 CE)
            obtain ⟨p0, p1, p2, p3⟩ := Blk.c4 (Blk.below HP.out hB.out HP.out.lt)
            have j0 : (0 : Int) ≤ (q : Int) := by omega
            have j1 : (q : Int) < (m : Int) := by omega
            obtain ⟨yn, yk, yf, yt⟩ := y
            simp only at y0 y1 y2 y3 HCE
            clear hcell6 hql CE
            obtain ⟨T1, h1⟩ : ∃ T, (yn == xn) = T := ⟨_, rfl⟩
            rw [show (Pt.mk yn yk yf yt).n = yn from rfl, h1] at NY
            have h1' : (yn != xn) = !T1 := by rw [← h1]; rfl
            clear h1
            cases T1
            case true =>
              go_wp2_with fail
              go_quiet (fail)
              go_wp2
              go_roundw
              case rel => exact ⟨q + 1, by omega, by go_num, Lib.hid (by rw [NY.out]; simpa using Els.Own.below hO.out (Below.drewN0 (Below.refl _ _) _)), Lib.hid (Below.drewN0 hB.out _)⟩
              case measure => simp [intOf]; omega
            case false =>
              go_wp2_with fail
              go_quiet (fail)
              have HO1 := Lib.hid (Els.Own.below hO.out (Below.drewN0 (Below.refl _ _) nq))
              have HB1 := Lib.hid (Below.drewN0 hB.out nq)
              clear y0 y1 y2 y3 p0 p1 p2 p3
              obtain ⟨y0, y1, y2, y3⟩ := HCE.out nq
              generalize wr.drewN nq = W3 at HO1 HB1 y0 y1 y2 y3 ⊢
              have HO2 := Lib.hid (Els.Own.alloc HO1.out (Obj.cells #[.int .i64 yn, .int .i64 yk, .int .u16 yf, .int .u16 yt] 88))
              have HB2 := Lib.hid (Below.alloc0 HB1.out (Obj.cells #[.int .i64 yn, .int .i64 yk, .int .u16 yf, .int .u16 yt] 88))
              have LB := Lib.hid HB2.out.size
              go_wp2_with (at_builtin; refine wpList_appP rfl _ (.tmp 45) (.tmp 50) rfl W1.heap.size u10 _ H [⟨yn, yk, yf, yt⟩] rfl HO2.out rfl (Els.Rd.new (E := eP) _ rfl 88 [⟨yn, yk, yf, yt⟩] #[.int .i64 yn, .int .i64 yk, .int .u16 yf, .int .u16 yt] 1 rfl rfl 1) (by have := LQ.out; simp; omega) (by exact LB.out) ?_; intro v' w4 hown hbel hgr hwh)
              have HO4 : Hid (eP.Own 88 w4 W1.heap.size v' (stay xn (P.take (q + 1)))) := Lib.hid (by rw [NY.out]; exact hown)
              have HB4 := Lib.hid (HB2.out.trans hbel)
              clear hown hbel hgr hwh
              go_wp2
              go_roundw
              case rel => exact ⟨q + 1, by omega, by go_num, HO4, HB4⟩
              case measure => simp [intOf]; omega
          · obtain rfl : q = m := by omega
            rw [List.take_of_length_le (by rw [HM.out]; exact Nat.le_refl _)] at hO
            obtain ⟨p0, p1, p2, p3⟩ := Blk.c4 (Blk.below HP.out hB.out HP.out.lt)
            obtain ⟨A10, c10, rfl, -⟩ := hO.out.rd.open_
            have CD := Lib.hid (drop_any g v P la xn wr (WAt.below HI1.out.at_ hB.out) (by have := LS.out.1; omega))
            have hO' := hO.out
            obtain ⟨rl, hrl⟩ : ∃ rl, (stay xn P).length = rl := ⟨_, rfl⟩
            have CD' := CD.out
            rw [hrl, HM.out] at CD'
            rw [hrl] at hO' ⊢
            have HO1 := Lib.hid hO'
            obtain ⟨T, hT⟩ : ∃ T, decide (rl < q) = T := ⟨_, rfl⟩
            rw [hT] at CD'
            have hTT : (T != T) = false := by cases T <;> rfl
            have CD2 := Lib.hid CD'
            have HRL := Lib.hid hrl
            clear CD CD' hO' hO hrl
            go_wp2_with fail
            refine CD2.out.mono ?_
            rintro e w3 ⟨v', rfl, hw, hk, he⟩
            have HI3 := Lib.hid (md_drop HI1.out HG.out HO1.out hB.out hw hk he)
            clear CD2 hw hk he p0 p1 p2 p3
            have HI5 := HI3
            have CL := Lib.hid (all_any g v' (stay xn P) la w3 HI5.out.at_ (by have := LS.out.1; have := HRL.out; have := stay_len xn P; omega))
            go_wp2_with fail
            refine CL.out.mono ?_
            rintro e w6 ⟨v6, rfl, ho6, hb6⟩
            have HI6 := Lib.hid (HI5.out.next hb6)
            have CQ := Lib.hid (eqP_same v6 _ (stay xn P) w6 ho6.rd HI6.out.own.rd (by have := LS.out.1; have := HRL.out; have := stay_len xn P; omega))
            obtain ⟨A66, c66, rfl, -⟩ := ho6.rd.open_
            have CQ' := CQ.out
            rw [HRL.out] at CQ' ⊢
            clear CQ
            have CQ := Lib.hid CQ'
            clear CQ'
            clear CL hb6 ho6
            go_wp2_with fail
            refine CQ.out.mono ?_
            rintro e w7 ⟨rfl, hb7⟩
            have HI7 := Lib.hid (HI6.out.next hb7)
            clear CQ hb7
            go_wp2
            go_roundw
            case rel => exact ⟨k + 1, by omega, by go_num, ((stay xn P), la), v', Lib.hid (NX.out.trans (by unfold opS; rw [if_pos rfl])), rfl, HI7⟩
            case measure => simp [intOf]; omega
    · obtain rfl : k = n := by omega
      rw [List.take_of_length_le (by rw [HL.out]; exact Nat.le_refl _)] at hS
      go_wp2
      go_ret2
      exact ⟨_, _, rfl, by rw [hS.out]; exact hI.out⟩
end Go.Proofs.Yteaajmoclgfhnaa
