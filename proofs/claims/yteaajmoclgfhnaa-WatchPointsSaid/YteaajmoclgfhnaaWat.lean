/- Points at addresses: rows of them; what a point meets (watch.met, Cycle, Boundary; the law's hits). -/
import Derived.Test.YteaajmoclgfhnaaRec
import Derived.Test.YteaajmoclgfhnaaEqI
import Derived.Deep.QuietTactic
import Derived.BigQuiet
import Derived.Deep.CutBlock
namespace Go.Proofs.Yteaajmoclgfhnaa
open Go.ChangeShapes Go.WideShapes Go.ChangeAt Go.RowKit
set_option linter.unusedVariables false

/-- A point: its number, kind, from, to. -/
structure Pt where
  n : Int
  k : Int
  f : Int
  t : Int
abbrev Pt.cells (x : Pt) : Array Value := #[.int .i64 x.n, .int .i64 x.k, .int .u16 x.f, .int .u16 x.t]
abbrev eP : Els Pt := ⟨fun x => [.int .i64 x.n, .int .i64 x.k, .int .u16 x.f, .int .u16 x.t], 4, fun _ => rfl, fun x u h => by
  simp only [List.mem_cons, List.not_mem_nil, or_false] at h
  rcases h with rfl | rfl | rfl | rfl <;> rfl, by decide⟩
def hitB (kd a : Int) (x : Pt) : Bool := (x.k == kd) && (decide (x.f ≤ a) && decide (a ≤ x.t))
def hitsL (P : List Pt) (kd a : Int) : List Int := (P.filter (hitB kd a)).map Pt.n
theorem hitsL_next (P : List Pt) (kd a : Int) (x : Pt) : hitsL (P ++ [x]) kd a = hitsL P kd a ++ bif hitB kd a x then [x.n] else [] := by
  unfold hitsL
  rw [List.filter_append, List.map_append]
  congr 1
  cases h : hitB kd a x <;> simp [List.filter, h]
theorem hitsL_len (P : List Pt) (kd a : Int) : (hitsL P kd a).length ≤ P.length := by
  unfold hitsL
  rw [List.length_map]
  exact List.length_filter_le _ _
theorem pt4_at {w wr : World} {B g off k : Nat} {x : Pt} (hB : Below B w wr) (hg : g < B)
    (CE : ∀ (j : Nat) (u : Value), [Value.int IntKind.i64 x.n, Value.int IntKind.i64 x.k, Value.int IntKind.u16 x.f, Value.int IntKind.u16 x.t][j]? = some u → w.cell? { block := g, off := off + (k * 4 + j) } = some u) :
    wr.cell? ⟨g, off + k * 4, none⟩ = some (.int .i64 x.n) ∧ wr.cell? ⟨g, off + k * 4 + 1, none⟩ = some (.int .i64 x.k) ∧ wr.cell? ⟨g, off + k * 4 + 2, none⟩ = some (.int .u16 x.f) ∧ wr.cell? ⟨g, off + k * 4 + 3, none⟩ = some (.int .u16 x.t) := by
  have key : ∀ (j : Nat) (u : Value), [Value.int IntKind.i64 x.n, Value.int IntKind.i64 x.k, Value.int IntKind.u16 x.f, Value.int IntKind.u16 x.t][j]? = some u → wr.cell? ⟨g, off + k * 4 + j, none⟩ = some u := fun j u h => by
    rw [Nat.add_assoc]
    exact (hB.cell (p := ⟨g, off + (k * 4 + j), none⟩) hg).trans (CE j u h)
  exact ⟨key 0 _ rfl, key 1 _ rfl, key 2 _ rfl, key 3 _ rfl⟩
/-- An answer: a row of numbers of its own. -/
def GivesI (L : List Int) (w : World) (e : Ending) (w' : World) : Prop := ∃ v, e = .returned v ∧ eI.Own 3 w' w.heap.size v L ∧ Below w.heap.size w w'
theorem takeP {α : Type} (l : List α) (k : Nat) (h : k < l.length) : l.take (k + 1) = l.take k ++ [l[k]] := List.take_succ_eq_append_getElem h
set_option maxRecDepth 100000 in
set_option maxHeartbeats 4000000 in
theorem met_any (g : Nat) (v : Value) (la : Int) (P : List Pt) (kd a : Int) (w : World) (hb : Blk w g 49 #[v, .int .i64 la]) (hr : eP.Rd w v P) (hn : P.length ≤ 1000) :
    Calls Try.prog 46 #[.pointer (some ⟨g, 0, none⟩), .int .i64 kd, .int .u16 a] w (GivesI (hitsL P kd a) w) := by
  obtain ⟨A, c, rfl, hc⟩ := hr.open_
  obtain ⟨n, hl⟩ : ∃ n, P.length = n := ⟨_, rfl⟩
  rw [hl] at hc hn hb
  have HL := Lib.hid hl
  have HC := Lib.hid hc
  obtain ⟨b0, b1⟩ := Blk.c2 hb
  clear hr hc hl hb
  go_enter Try.func46, Try.ntmps46
  go_wp2
  clear b0 b1
  go_loopw [7, 15] (fun u7 i wr => ∃ k : Nat, k ≤ n ∧ i = .int .i64 k ∧ Hid (eI.Own 3 wr w.heap.size u7 (hitsL (P.take k) kd a)) ∧ Hid (Below w.heap.size w wr)) (fun _ i _ => n - (intOf i).toNat)
  case atStart => exact ⟨0, Nat.zero_le _, rfl, Lib.hid (Els.Own.nil_ _ _), Lib.hid (Below.refl _ _)⟩
  case round =>
    obtain ⟨k, hk, rfl, hO, hB⟩ := hrel
    by_cases hlt : k < n
    · obtain ⟨g, off, rfl, hg, hcell⟩ := HC.out (by omega)
      have hkl : k < P.length := by rw [HL.out]; exact hlt
      have CE := hcell k _ (List.getElem?_eq_getElem hkl)
      have NX := Lib.hid (show hitsL (P.take (k + 1)) kd a = _ from (by rw [takeP P k hkl] : hitsL (P.take (k + 1)) kd a = hitsL (P.take k ++ [P[k]]) kd a).trans (hitsL_next _ _ _ _))
      have LK : Hid ((hitsL (P.take k) kd a).length ≤ 1000) := Lib.hid (by have := hitsL_len (P.take k) kd a; rw [List.length_take] at this; omega)
      generalize P[k] = x at CE NX
      generalize hitsL (P.take k) kd a = H at hO NX LK
      obtain ⟨q0, q1, q2, q3⟩ := pt4_at hB.out hg CE
      have k0 : (0 : Int) ≤ (k : Int) := by omega
      have k1 : (k : Int) < (n : Int) := by omega
      obtain ⟨pn, pk, pf, pt⟩ := x
      simp only at q0 q1 q2 q3
      have HO1 := Lib.hid (Els.Own.alloc hO.out (Obj.cells #[.int .i64 pn, .int .i64 pk, .int .u16 pf, .int .u16 pt] 88))
      have HB1 := Lib.hid (Below.alloc0 hB.out (Obj.cells #[.int .i64 pn, .int .i64 pk, .int .u16 pf, .int .u16 pt] 88))
      have P1 := Lib.hid (Blk.new wr 88 #[.int .i64 pn, .int .i64 pk, .int .u16 pf, .int .u16 pt] (0, 0))
      clear hcell hkl CE
      go_upto_region 5 with (fail)
      clear q0 q1 q2 q3
      generalize wr.alloc (Obj.cells #[.int .i64 pn, .int .i64 pk, .int .u16 pf, .int .u16 pt] 88) = W1 at HO1 HB1 P1 ⊢
      obtain ⟨x0, x1, x2, x3⟩ := Blk.c4 P1.out
      obtain ⟨T1, h1⟩ : ∃ T, (pk == kd) = T := ⟨_, rfl⟩
      obtain ⟨T2, h2⟩ : ∃ T, decide (pf ≤ a) = T := ⟨_, rfl⟩
      obtain ⟨T3, h3⟩ : ∃ T, decide (a ≤ pt) = T := ⟨_, rfl⟩
      have HH : Hid (hitB kd a ⟨pn, pk, pf, pt⟩ = (T1 && (T2 && T3))) := Lib.hid (by unfold hitB; rw [h1, h2, h3])
      rw [HH.out] at NX
      clear HH
      cases T1
      case false =>
        go_wp2
        go_roundw
        case rel => exact ⟨k + 1, by omega, by go_num, Lib.hid (by rw [NX.out]; simpa using HO1.out), HB1⟩
        case measure => simp [intOf]; omega
      case true =>
        cases T2
        case false =>
          go_wp2
          go_roundw
          case rel => exact ⟨k + 1, by omega, by go_num, Lib.hid (by rw [NX.out]; simpa using HO1.out), HB1⟩
          case measure => simp [intOf]; omega
        case true =>
          cases T3
          case false =>
            go_wp2
            go_roundw
            case rel => exact ⟨k + 1, by omega, by go_num, Lib.hid (by rw [NX.out]; simpa using HO1.out), HB1⟩
            case measure => simp [intOf]; omega
          case true =>
            have HO2 := Lib.hid (Els.Own.alloc HO1.out (Obj.cells #[.int .i64 pn] 3))
            have HB2 := Lib.hid (Below.alloc0 HB1.out (Obj.cells #[.int .i64 pn] 3))
            go_wp2_with (at_builtin; refine wpList_appI rfl _ (.tmp 35) (.tmp 38) rfl w.heap.size u7 _ H [pn] rfl HO2.out rfl (Els.Rd.new (E := eI) _ rfl 3 [pn] #[.int .i64 pn] 1 rfl rfl 1) (by have := LK.out; simp; omega) (by have := HB2.out.size; simpa using this) ?_; intro v' w4 hown hbel hgr hwh)
            have HO4 : Hid (eI.Own 3 w4 w.heap.size v' (hitsL (P.take (k + 1)) kd a)) := Lib.hid (by rw [NX.out]; exact hown)
            have HB4 := Lib.hid (HB2.out.trans hbel)
            clear hown hbel hgr hwh
            go_wp2
            go_roundw
            case rel => exact ⟨k + 1, by omega, by go_num, HO4, HB4⟩
            case measure => simp [intOf]; omega
    · obtain rfl : k = n := by omega
      rw [List.take_of_length_le (by rw [HL.out]; exact Nat.le_refl _)] at hO
      go_wp2
      go_ret
      exact ⟨_, rfl, hO.out, hB.out⟩
end Go.Proofs.Yteaajmoclgfhnaa
