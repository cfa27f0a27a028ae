/- Audit: contracts of Check and Tally over a row of records; the chapter's example. -/
import Derived.Test.YteaajmoclgfhnaaAud
import Derived.Deep.CutBlock
namespace Go.Proofs.Yteaajmoclgfhnaa
open Go.ChangeShapes Go.WideShapes Go.ChangeAt Go.RowKit
set_option linter.unusedVariables false

/-- The last own record so far; is the bus used behind it? -/
def lsR (l : List Rc) : Option Rc := l.foldl (fun o x => bif x.m then some x else o) none
def usR (l : List Rc) : Bool := match lsR l with | none => true | some y => y.b4
theorem lsR_next (l : List Rc) (x : Rc) : lsR (l ++ [x]) = bif x.m then some x else lsR l := by unfold lsR; rw [List.foldl_append]; rfl
theorem usR_next (l : List Rc) (x : Rc) : usR (l ++ [x]) = bif x.m then x.b4 else usR l := by
  unfold usR; rw [lsR_next]; cases x.m <;> rfl
theorem take_at {α : Type} (l : List α) (k : Nat) (h : k < l.length) : l.take (k + 1) = l.take k ++ [l[k]] := List.take_succ_eq_append_getElem h
abbrev zeroRc : Rc := ⟨0, 0, false, false, false, false, false, false, false⟩
/-- The first wrong record of the first k, and what is wrong; else k, 0. -/
def ckR (l : List Rc) : Nat → Nat × Int
  | 0 => (0, 0)
  | k + 1 => if (ckR l k).2 = 0 then (if wrN (l.getD k zeroRc) (usR (l.take k)) = 0 then (k + 1, 0) else (k, wrN (l.getD k zeroRc) (usR (l.take k)))) else ckR l k
theorem ckR_next (l : List Rc) (k : Nat) (h : k < l.length) : ckR l (k + 1) = if (ckR l k).2 = 0 then (if wrN l[k] (usR (l.take k)) = 0 then (k + 1, 0) else (k, wrN l[k] (usR (l.take k)))) else ckR l k := by
  have e : l.getD k zeroRc = l[k] := by simp [List.getD_eq_getElem?_getD, h]
  rw [← e]; rfl
theorem ckR_zero (l : List Rc) (k : Nat) : (ckR l k).2 = 0 → (ckR l k).1 = k := by
  induction k with
  | zero => intro _; rfl
  | succ k ih =>
    intro h
    unfold ckR at h ⊢
    by_cases h1 : (ckR l k).2 = 0
    · rw [if_pos h1] at h ⊢
      by_cases h2 : wrN (l.getD k zeroRc) (usR (l.take k)) = 0
      · rw [if_pos h2]
      · rw [if_neg h2] at h; exact absurd h h2
    · rw [if_neg h1] at h; exact absurd h h1
theorem ckR_le (l : List Rc) (k : Nat) : (ckR l k).1 ≤ k := by
  induction k with
  | zero => exact Nat.le_refl _
  | succ k ih =>
    unfold ckR
    split
    · split
      · exact Nat.le_refl _
      · exact Nat.le_succ _
    · omega
theorem ckR_same (l : List Rc) (k : Nat) (h : (ckR l k).2 ≠ 0) : ∀ j, ckR l (k + j) = ckR l k := by
  intro j
  induction j with
  | zero => rfl
  | succ j ih =>
    rw [← Nat.add_assoc]
    show (if (ckR l (k + j)).2 = 0 then _ else ckR l (k + j)) = _
    rw [ih, if_neg h]
/-- How many there are of each kind. -/
def kdR (x : Rc) : Nat := bif x.m then 0 else bif x.b3 then 2 else bif x.b1 then 1 else 3
def ctR (j : Nat) (l : List Rc) : Nat := (l.filter fun x => Nat.beq (kdR x) j).length
theorem ctR_next (j : Nat) (l : List Rc) (x : Rc) : ctR j (l ++ [x]) = ctR j l + if kdR x = j then 1 else 0 := by
  unfold ctR
  rw [List.filter_append, List.length_append]
  congr 1
  by_cases h : kdR x = j
  · rw [if_pos h]; simp [List.filter, h]
  · have : Nat.beq (kdR x) j = false := by rw [← Bool.not_eq_true, Nat.beq_eq]; exact h
    rw [if_neg h]; simp [List.filter, this]
theorem ctR_le (j : Nat) (l : List Rc) : ctR j l ≤ l.length := List.length_filter_le _ _
abbrev tlA (l : List Rc) : Array Value := #[.int .i64 (ctR 0 l : Int), .int .i64 (ctR 1 l : Int), .int .i64 (ctR 2 l : Int), .int .i64 (ctR 3 l : Int)]
set_option maxRecDepth 100000 in
set_option maxHeartbeats 4000000 in
theorem check_any (v : Value) (l : List Rc) (w : World) (hr : eR.Rd w v l) (hn : l.length ≤ 1000000) :
    Calls Try.prog 8 #[v] w fun e w' => e = .returned (.tuple #[.int .i64 ((ckR l l.length).1 : Int), .int .i64 (ckR l l.length).2]) ∧ Below w.heap.size w w' := by
  obtain ⟨A, c, rfl, hc⟩ := hr.open_
  obtain ⟨n, hl⟩ : ∃ n, l.length = n := ⟨_, rfl⟩
  rw [hl] at hc hn ⊢
  have HL := Lib.hid hl
  have HC := Lib.hid hc
  obtain ⟨R1, hR1⟩ : ∃ R, ckR l n = R := ⟨_, rfl⟩
  have HR := Lib.hid hR1
  rw [hR1]
  have HSame := Lib.hid (fun k (h : (ckR l k).2 ≠ 0) (hk : k ≤ n) => show ckR l n = ckR l k by have := ckR_same l k h (n - k); rwa [show k + (n - k) = n by omega] at this)
  clear hr hc hl hR1
  go_enter Try.func8, Try.ntmps8
  go_wp2
  go_loopw [4, 10] (fun u i wr => ∃ k : Nat, k ≤ n ∧ i = .int .i64 k ∧ u = .bool (usR (l.take k)) ∧ Hid ((ckR l k).2 = 0) ∧ Hid (Below w.heap.size w wr)) (fun _ i _ => n - (intOf i).toNat)
  case atStart => exact ⟨0, Nat.zero_le _, rfl, rfl, Lib.hid rfl, Lib.hid (Below.refl _ _)⟩
  case round =>
    obtain ⟨k, hk, rfl, rfl, hZ, hB⟩ := hrel
    by_cases hlt : k < n
    · obtain ⟨g, off, rfl, hg, hcell⟩ := HC.out (by omega)
      have hkl : k < l.length := by rw [HL.out]; exact hlt
      have CE := hcell k _ (List.getElem?_eq_getElem hkl)
      have NK := Lib.hid (ckR_next l k hkl)
      have TU : Hid (usR (l.take (k + 1)) = bif l[k].m then l[k].b4 else usR (l.take k)) := Lib.hid (by rw [take_at l k hkl, usR_next])
      generalize l[k] = x at CE NK TU
      generalize usR (l.take k) = u at NK TU ⊢
      have CK := Lib.hid (fun v => check_rc x u v)
      obtain ⟨q0, q1, q2, q3, q4, q5, q6, q7, q8⟩ := rc9_at hB.out hg CE
      have k0 : (0 : Int) ≤ (k : Int) := by omega
      have k1 : (k : Int) < (n : Int) := by omega
      have P1 : Hid (Blk (wr.alloc (Obj.cells x.cells 25)) wr.heap.size 25 x.cells) := Lib.hid (Blk.new _ _ _ (0, 0))
      have HB1 := Lib.hid (Below.alloc0 hB.out (Obj.cells x.cells 25))
      clear hcell hkl CE
      go_wp2_with fail
      clear q0 q1 q2 q3 q4 q5 q6 q7 q8
      refine (CK.out _).mono ?_
      rintro e w2 ⟨rfl, hb⟩
      have HB2 := Lib.hid (Below.trans0 HB1.out hb)
      have P2 := Lib.hid (rc_blk x P1.out hb)
      obtain ⟨x0, x1, x2, x3, x4, x5, x6, x7, x8⟩ := Blk.c9 P2.out
      clear hb
      obtain ⟨E, hE⟩ : ∃ E, wrN x u = E := ⟨_, rfl⟩
      rw [hE] at NK ⊢
      have HE := Lib.hid hE
      clear hE
      by_cases he : E = 0
      · have NK0 : Hid ((ckR l (k + 1)).2 = 0) := Lib.hid (by rw [NK.out, if_pos hZ.out, if_pos he])
        subst he
        obtain ⟨a, d, r, b1, b2, b3, b4, b5, m⟩ := x
        simp only at x0 x1 x2 x3 x4 x5 x6 x7 x8
        cases m
        · go_wp2
          go_roundw
          case rel => exact ⟨k + 1, by omega, by go_num, by rw [TU.out]; rfl, NK0, HB2⟩
          case measure => simp [intOf]; omega
        · go_wp2
          go_roundw
          case rel => exact ⟨k + 1, by omega, by go_num, by rw [TU.out]; rfl, NK0, HB2⟩
          case measure => simp [intOf]; omega
      · have NK1 : Hid (ckR l (k + 1) = (k, E)) := Lib.hid (by rw [NK.out, if_pos hZ.out, if_neg he])
        have NK2 : Hid (ckR l n = (k, E)) := Lib.hid (by rw [HSame.out (k + 1) (by rw [NK1.out]; exact he) (by omega), NK1.out])
        have hne : (E != 0) = true := by rw [bne_iff_ne]; exact he
        clear he
        go_wp2
        go_ret2
        exact ⟨by rw [← HR.out, NK2.out]; rfl, HB2.out⟩
    · obtain rfl : k = n := by omega
      have h0 := ckR_zero l k hZ.out
      have hz := hZ.out
      rw [HR.out] at h0 hz
      have H0 := Lib.hid h0
      have HZ := Lib.hid hz
      clear h0 hz
      go_wp2
      go_ret2
      exact ⟨by rw [H0.out, HZ.out]; rfl, hB.out⟩
theorem res4 (tmps : Array Value) (W : World) (g : Nat) (cs : Array Value) (h : Blk W g 26 cs) (hc : cs.size = 4) (h2 : tmps.getD 2 undef = .pointer (some ⟨g, 0, none⟩)) :
    (results Try.f9 tmps).run Try.prog W = .ok (.agg cs) W := by
  have hi : (Try.prog.info? 26).map (·.size) = some cs.size := by rw [hc]; kernel_rfl
  have hld := run_loadVar_row (P := Try.prog) W g 26 26 cs (0, 0) _ h Try.underlying26 rfl hi
  have h2' : tmps[2]?.getD undef = .pointer (some ⟨g, 0, none⟩) := by simpa using h2
  simp [results, Try.results9, h2', asAddr, hld]
abbrev z4 : Array Value := #[.int .i64 0, .int .i64 0, .int .i64 0, .int .i64 0]
theorem tlA_next (l : List Rc) (x : Rc) : tlA (l ++ [x]) = #[.int .i64 ((ctR 0 l : Int) + if kdR x = 0 then 1 else 0), .int .i64 ((ctR 1 l : Int) + if kdR x = 1 then 1 else 0), .int .i64 ((ctR 2 l : Int) + if kdR x = 2 then 1 else 0), .int .i64 ((ctR 3 l : Int) + if kdR x = 3 then 1 else 0)] := by
  have h : ∀ j, ((ctR j (l ++ [x]) : Nat) : Int) = (ctR j l : Int) + if kdR x = j then 1 else 0 := fun j => by
    rw [ctR_next]; split <;> simp
  unfold tlA
  rw [h 0, h 1, h 2, h 3]
set_option maxRecDepth 100000 in
set_option maxHeartbeats 4000000 in
theorem tally_any (v : Value) (l : List Rc) (w : World) (hr : eR.Rd w v l) (hn : l.length ≤ 1000000) :
    Calls Try.prog 9 #[v] w fun e w' => e = .returned (.agg (tlA l)) ∧ Below w.heap.size w w' := by
  obtain ⟨A, c, rfl, hc⟩ := hr.open_
  obtain ⟨n, hl⟩ : ∃ n, l.length = n := ⟨_, rfl⟩
  rw [hl] at hc hn ⊢
  have HL := Lib.hid hl
  have HC := Lib.hid hc
  clear hr hc hl
  obtain ⟨T, hT⟩ : ∃ T, tlA l = T := ⟨_, rfl⟩
  have HT := Lib.hid hT
  rw [hT]
  clear hT
  go_enter Try.func9, Try.ntmps9
  go_wp2
  go_loopw [8] (fun i wr => ∃ k : Nat, k ≤ n ∧ i = .int .i64 k ∧ Hid (Blk wr w.heap.size 26 z4) ∧ Hid (Blk wr (w.heap.size + 1) 26 (tlA (l.take k))) ∧ Hid (Below w.heap.size w wr)) (fun i _ => n - (intOf i).toNat)
  case atStart =>
    refine ⟨0, Nat.zero_le _, rfl, Lib.hid (Blk.alloc (Blk.new w _ z4 (0, 0)) _), Lib.hid (Blk.at1 _), Lib.hid (Below.alloc0 (Below.alloc0 (Below.refl _ _) _) _)⟩
  case round =>
    obtain ⟨k, hk, rfl, hZ, hO, hB⟩ := hrel
    by_cases hlt : k < n
    · obtain ⟨g, off, rfl, hg, hcell⟩ := HC.out (by omega)
      have hkl : k < l.length := by rw [HL.out]; exact hlt
      have CE := hcell k _ (List.getElem?_eq_getElem hkl)
      have ta := tlA_next (l.take k) l[k]
      rw [← take_at l k hkl] at ta
      have TA := Lib.hid ta
      clear ta
      have L0 := ctR_le 0 (l.take k)
      have L1 := ctR_le 1 (l.take k)
      have L2 := ctR_le 2 (l.take k)
      have L3 := ctR_le 3 (l.take k)
      have LK : (l.take k).length ≤ 1000000 := by rw [List.length_take]; omega
      unfold tlA at hO
      generalize l[k] = x at CE TA
      generalize ctR 0 (l.take k) = c0 at hO TA L0
      generalize ctR 1 (l.take k) = c1 at hO TA L1
      generalize ctR 2 (l.take k) = c2 at hO TA L2
      generalize ctR 3 (l.take k) = c3 at hO TA L3
      generalize (l.take k).length = LN at L0 L1 L2 L3 LK
      obtain ⟨q0, q1, q2, q3, q4, q5, q6, q7, q8⟩ := rc9_at hB.out hg CE
      have k0 : (0 : Int) ≤ (k : Int) := by omega
      have k1 : (k : Int) < (n : Int) := by omega
      obtain ⟨a, d, r, b1, b2, b3, b4, b5, m⟩ := x
      simp only at q0 q1 q2 q3 q4 q5 q6 q7 q8
      have HO1 := Lib.hid (Blk.alloc hO.out (Obj.cells #[.int .u16 a, .int .u8 d, .bool r, .bool b1, .bool b2, .bool b3, .bool b4, .bool b5, .bool m] 25))
      have HZ1 := Lib.hid (Blk.alloc hZ.out (Obj.cells #[.int .u16 a, .int .u8 d, .bool r, .bool b1, .bool b2, .bool b3, .bool b4, .bool b5, .bool m] 25))
      have HB1 := Lib.hid (Below.alloc0 hB.out (Obj.cells #[.int .u16 a, .int .u8 d, .bool r, .bool b1, .bool b2, .bool b3, .bool b4, .bool b5, .bool m] 25))
      have P1 := Lib.hid (Blk.new wr 25 #[.int .u16 a, .int .u8 d, .bool r, .bool b1, .bool b2, .bool b3, .bool b4, .bool b5, .bool m] (0, 0))
      clear hcell hkl CE
      go_upto_region 6 with (fail)
      clear q0 q1 q2 q3 q4 q5 q6 q7 q8
      generalize wr.alloc (Obj.cells #[.int .u16 a, .int .u8 d, .bool r, .bool b1, .bool b2, .bool b3, .bool b4, .bool b5, .bool m] 25) = W1 at HO1 HZ1 HB1 P1 ⊢
      obtain ⟨x0, x1, x2, x3, x4, x5, x6, x7, x8⟩ := Blk.c9 P1.out
      obtain ⟨⟨y0, y1, y2, y3⟩, f0, f1, f2, f3⟩ := Blk.b4 HO1.out
      have fin : ∀ (j : Nat) (u : Value), Below w.heap.size w (W1.setCell ⟨w.heap.size + 1, j, none⟩ u) ∧ Blk (W1.setCell ⟨w.heap.size + 1, j, none⟩ u) w.heap.size 26 z4 := fun j u => ⟨Below.set0 HB1.out (by omega) u, Blk.far HZ1.out (by show w.heap.size ≠ w.heap.size + 1; omega) u⟩
      have FIN := Lib.hid fin
      clear fin
      cases m
      case true =>
        have HN := Lib.hid (Blk.set_ HO1.out 0 (.int .i64 ((c0 : Int) + 1)))
        go_wp2
        go_roundw
        case rel => exact ⟨k + 1, by omega, by go_num, Lib.hid (FIN.out _ _).2, Lib.hid (by rw [TA.out]; simpa [kdR] using HN.out), Lib.hid (FIN.out _ _).1⟩
        case measure => simp [intOf]; omega
      case false =>
        cases b3
        case true =>
          have HN := Lib.hid (Blk.set_ HO1.out 2 (.int .i64 ((c2 : Int) + 1)))
          go_wp2
          go_roundw
          case rel => exact ⟨k + 1, by omega, by go_num, Lib.hid (FIN.out _ _).2, Lib.hid (by rw [TA.out]; simpa [kdR] using HN.out), Lib.hid (FIN.out _ _).1⟩
          case measure => simp [intOf]; omega
        case false =>
          cases b1
          case true =>
            have HN := Lib.hid (Blk.set_ HO1.out 1 (.int .i64 ((c1 : Int) + 1)))
            go_wp2
            go_roundw
            case rel => exact ⟨k + 1, by omega, by go_num, Lib.hid (FIN.out _ _).2, Lib.hid (by rw [TA.out]; simpa [kdR] using HN.out), Lib.hid (FIN.out _ _).1⟩
            case measure => simp [intOf]; omega
          case false =>
            have HN := Lib.hid (Blk.set_ HO1.out 3 (.int .i64 ((c3 : Int) + 1)))
            go_wp2
            go_roundw
            case rel => exact ⟨k + 1, by omega, by go_num, Lib.hid (FIN.out _ _).2, Lib.hid (by rw [TA.out]; simpa [kdR] using HN.out), Lib.hid (FIN.out _ _).1⟩
            case measure => simp [intOf]; omega
    · obtain rfl : k = n := by omega
      rw [List.take_of_length_le (by rw [HL.out]; exact Nat.le_refl _), HT.out] at hO
      obtain ⟨t0, t1, t2, t3, rfl⟩ : ∃ t0 t1 t2 t3 : Int, T = #[.int .i64 t0, .int .i64 t1, .int .i64 t2, .int .i64 t3] := ⟨_, _, _, _, HT.out.symm⟩
      obtain ⟨⟨y0, y1, y2, y3⟩, f0, f1, f2, f3⟩ := Blk.b4 hO.out
      obtain ⟨⟨z0, z1, z2, z3⟩, e0, e1, e2, e3⟩ := Blk.b4 hZ.out
      go_wp2
      refine bodyPost_ret (v := .agg #[.int .i64 t0, .int .i64 t1, .int .i64 t2, .int .i64 t3]) (res4 _ _ w.heap.size _ (Blk.set_ (Blk.set_ (Blk.set_ (Blk.set_ hZ.out 0 (.int .i64 t0)) 1 (.int .i64 t1)) 2 (.int .i64 t2)) 3 (.int .i64 t3)) rfl rfl) rfl ⟨rfl, ?_⟩
      exact Below.set0 (Below.set0 (Below.set0 (Below.set0 hB.out (Nat.le_refl _) _) (Nat.le_refl _) _) (Nat.le_refl _) _) (Nat.le_refl _) _
end Go.Proofs.Yteaajmoclgfhnaa
