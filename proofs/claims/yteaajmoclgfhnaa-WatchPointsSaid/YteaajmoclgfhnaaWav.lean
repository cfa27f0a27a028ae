/- Points at addresses: which is the first with a number (the library's IndexFunc, the closure of Drop). -/
import Derived.Test.YteaajmoclgfhnaaWau
namespace Go.Proofs.Yteaajmoclgfhnaa
open Go.ChangeShapes Go.WideShapes Go.ChangeAt Go.RowKit
set_option linter.unusedVariables false

set_option maxRecDepth 100000 in
theorem del_any (x : Pt) (gi : Nat) (id : Int) (w : World) (hc : w.cell? ⟨gi, 0, none⟩ = some (.int .i64 id)) :
    Calls Try.prog 59 #[.agg x.cells, .pointer (some ⟨gi, 0, none⟩)] w fun e w' => e = .returned (.bool (x.n == id)) ∧ Below w.heap.size w w' := by
  have hc2 := (Below.alloc0 (Below.refl w.heap.size w) (Obj.cells x.cells 88)).cell (p := ⟨gi, 0, none⟩) (cell_lt hc) |>.trans hc
  have HB := Lib.hid (Below.alloc0 (Below.refl w.heap.size w) (Obj.cells x.cells 88))
  obtain ⟨n, k, f, t⟩ := x
  go_enter Try.func59, Try.ntmps59
  go_wp2
  go_ret
  exact ⟨rfl, HB.out⟩
def nAt (P : List Pt) (q : Nat) : Int := (P.getD q ⟨0, 0, 0, 0⟩).n
theorem nAt_eq (P : List Pt) (q : Nat) (h : q < P.length) : nAt P q = P[q].n := by simp [nAt, List.getD_eq_getElem?_getD, h]
set_option maxRecDepth 100000 in
set_option maxHeartbeats 2000000 in
theorem idxF_any (v : Value) (P : List Pt) (gi : Nat) (id : Int) (w : World) (hr : eP.Rd w v P) (hn : P.length ≤ 1000000) (hc0 : w.cell? ⟨gi, 0, none⟩ = some (.int .i64 id)) :
    Calls Try.prog 74 #[v, .func (.func 59) #[] #[.pointer (some ⟨gi, 0, none⟩)]] w fun e w' => (∃ j : Nat, Below w.heap.size w w' ∧ ((e = .returned (.int .i64 (j : Int)) ∧ j < P.length ∧ nAt P j = id ∧ ∀ q, q < j → nAt P q ≠ id) ∨ (e = .returned (.int .i64 (-1)) ∧ ∀ q, q < P.length → nAt P q ≠ id))) := by
  obtain ⟨A, c, rfl, hc⟩ := hr.open_
  obtain ⟨n, hl⟩ : ∃ n, P.length = n := ⟨_, rfl⟩
  rw [hl] at hc hn ⊢
  have HL := Lib.hid hl
  have HC := Lib.hid hc
  have HC0 := Lib.hid hc0
  clear hr hc hl hc0
  go_enter Try.func74, Try.ntmps74
  go_wp2
  go_loopw [8] (fun i wr => ∃ k : Nat, k ≤ n ∧ i = .int .i64 k ∧ Hid (∀ q, q < k → nAt P q ≠ id) ∧ Hid (Below w.heap.size w wr)) (fun i _ => n - (intOf i).toNat)
  case atStart => exact ⟨0, Nat.zero_le _, rfl, Lib.hid (fun q hq => absurd hq (Nat.not_lt_zero _)), Lib.hid (Below.refl _ _)⟩
  case round =>
    obtain ⟨k, hk, rfl, hN, hB⟩ := hrel
    by_cases hlt : k < n
    · obtain ⟨g, off, rfl, hg, hcell⟩ := HC.out (by omega)
      have hkl : k < P.length := by rw [HL.out]; exact hlt
      have CE := hcell k _ (List.getElem?_eq_getElem hkl)
      have HXX := Lib.hid (nAt_eq P k hkl)
      generalize P[k] = x at CE HXX
      have CD := Lib.hid (fun u h => del_any x gi id u h)
      obtain ⟨q0, q1, q2, q3⟩ := pt4_at hB.out hg CE
      have k0 : (0 : Int) ≤ (k : Int) := by omega
      have k1 : (k : Int) < (n : Int) := by omega
      have HCC := Lib.hid (hB.out.cell (p := ⟨gi, 0, none⟩) (cell_lt HC0.out) |>.trans HC0.out)
      clear hcell CE
      have HKL := Lib.hid hkl
      clear hkl
      go_wp2_with fail
      refine (CD.out _ HCC.out).mono ?_
      rintro e w2 ⟨rfl, hb⟩
      have HB2 := Lib.hid (Below.trans0 hB.out hb)
      clear hb CD
      by_cases he : x.n = id
      · have hE : (x.n == id) = true := by simpa using he
        rw [hE]
        have HE := Lib.hid he
        clear he hE
        go_wp2
        go_ret
        exact ⟨k, HB2.out, .inl ⟨rfl, by omega, by rw [HXX.out]; exact HE.out, hN.out⟩⟩
      · have hE : (x.n == id) = false := by simpa using he
        rw [hE]
        have HE := Lib.hid he
        clear he hE
        go_wp2
        go_roundw
        case rel =>
          refine ⟨k + 1, by omega, by go_num, Lib.hid (fun q hq => ?_), HB2⟩
          rcases Nat.lt_succ_iff_lt_or_eq.1 hq with h1 | h1
          · exact hN.out q h1
          · subst h1; rw [HXX.out]; exact HE.out
        case measure => simp [intOf]; omega
    · obtain rfl : k = n := by omega
      go_wp2
      go_ret
      exact ⟨0, hB.out, .inr ⟨rfl, hN.out⟩⟩
end Go.Proofs.Yteaajmoclgfhnaa
