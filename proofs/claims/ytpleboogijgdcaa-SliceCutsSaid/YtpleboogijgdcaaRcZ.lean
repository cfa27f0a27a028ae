/- Records: the chapter's example; bytes as records and back. -/
import Derived.Test.YtpleboogijgdcaaRcT
import Derived.Test.YtpleboogijgdcaaRcG
import Derived.Test.YtpleboogijgdcaaRcP
import Derived.Test.YtpleboogijgdcaaEq
namespace Go.Proofs.Ytpleboogijgdcaa
open Go.ChangeShapes Go.WideShapes Go.ChangeAt Go.RowKit
set_option linter.unusedVariables false

abbrev zR : Array Value := #[.int .u16 0, .int .u8 0, .bool false, .bool false, .bool false, .bool false, .bool false, .bool false, .bool false]
theorem neq_rc0 (w : World) : (binOp .neq 26 (.agg zR) (.agg zR)).run Try.prog w = .ok (.bool false) w := by go_simp
abbrev exR : Rc := ⟨65534, 18, true, false, true, false, true, true, true⟩
theorem exR_ok : exR.Ok := ⟨by decide, by decide, by decide, by decide⟩
theorem exR_tx : strOfNums (txN exR) = ⟨#[70, 70, 70, 69, 32, 49, 50, 32, 82, 32, 45, 83, 45, 86, 66, 32, 77]⟩ := by
  unfold txN
  rw [(need4 exR exR_ok).1]
  apply ByteArray.ext
  decide +kernel
theorem eU_cells (l : List Int) : eU.cells l = l.map (Value.int .u8) := by
  induction l with
  | nil => rfl
  | cons x l ih => rw [Els.cells_cons, ih]; rfl
theorem eU_own {t : TypeId} {w : World} {base : Nat} {v : Value} {l : List Int} (h : eU.Own t w base v l) : Own .u8 t w base v l := by
  unfold Els.Own at h
  rw [eU_cells] at h
  exact h
theorem own_eU {t : TypeId} {w : World} {base : Nat} {v : Value} {l : List Int} (h : Own .u8 t w base v l) : eU.Own t w base v l := by
  unfold Els.Own
  rw [eU_cells]
  exact h
theorem sm_fin : ∀ s : Fin 128, smN ⟨0, 0, sbB (s.val : Int) 0, sbB (s.val : Int) 1, sbB (s.val : Int) 2, sbB (s.val : Int) 3, sbB (s.val : Int) 4, sbB (s.val : Int) 5, sbB (s.val : Int) 6⟩ 7 = (s.val : Int) := by decide +kernel
theorem sm_any (x : Rc) (s : Int) (h0 : 0 ≤ s) (h1 : s < 128) (e0 : x.r = sbB s 0) (e1 : x.b1 = sbB s 1) (e2 : x.b2 = sbB s 2) (e3 : x.b3 = sbB s 3) (e4 : x.b4 = sbB s 4) (e5 : x.b5 = sbB s 5) (e6 : x.m = sbB s 6) : smN x 7 = s := by
  have h := sm_fin ⟨s.toNat, by omega⟩
  simp only [Int.toNat_of_nonneg h0] at h
  rw [← h]
  obtain ⟨a, d, r, b1, b2, b3, b4, b5, m⟩ := x
  simp only at e0 e1 e2 e3 e4 e5 e6
  subst e0 e1 e2 e3 e4 e5 e6
  rfl
theorem pu_gt (xs : List Int) (hx : ∀ z ∈ xs, (Lit.int .u8 z).wf = true) (k : Nat) (hk : 4 * k + 3 < xs.length) (h : iat xs (4 * k + 3) < 128) : puN (gtR xs k) = [iat xs (4 * k), iat xs (4 * k + 1), iat xs (4 * k + 2), iat xs (4 * k + 3)] := by
  have r0 := bounds_u8 (iat_wf hx (4 * k) (by omega))
  have r1 := bounds_u8 (iat_wf hx (4 * k + 1) (by omega))
  have r3 := bounds_u8 (iat_wf hx (4 * k + 3) (by omega))
  unfold puN
  rw [sm_any (gtR xs k) (iat xs (4 * k + 3)) r3.1 h rfl rfl rfl rfl rfl rfl rfl]
  have e1 : (gtR xs k).a / 256 = iat xs (4 * k) := by show (256 * iat xs (4 * k) + iat xs (4 * k + 1)) / 256 = _; omega
  have e2 : (gtR xs k).a % 256 = iat xs (4 * k + 1) := by show (256 * iat xs (4 * k) + iat xs (4 * k + 1)) % 256 = _; omega
  rw [e1, e2]
  rfl
theorem gt_ok (xs : List Int) (hx : ∀ z ∈ xs, (Lit.int .u8 z).wf = true) (k : Nat) (hk : 4 * k + 3 < xs.length) : (gtR xs k).Ok := by
  have r0 := bounds_u8 (iat_wf hx (4 * k) (by omega))
  have r1 := bounds_u8 (iat_wf hx (4 * k + 1) (by omega))
  have r2 := bounds_u8 (iat_wf hx (4 * k + 2) (by omega))
  refine ⟨?_, ?_, r2.1, by show iat xs (4 * k + 2) < 256; omega⟩
  · show 0 ≤ 256 * iat xs (4 * k) + iat xs (4 * k + 1); omega
  · show 256 * iat xs (4 * k) + iat xs (4 * k + 1) < 65536; omega
theorem take4 (xs : List Int) (k : Nat) (hk : 4 * k + 3 < xs.length) : xs.take (4 * (k + 1)) = xs.take (4 * k) ++ [iat xs (4 * k), iat xs (4 * k + 1), iat xs (4 * k + 2), iat xs (4 * k + 3)] := by
  rw [show 4 * (k + 1) = 4 * k + 1 + 1 + 1 + 1 by omega, List.take_succ_eq_append_getElem (by omega), List.take_succ_eq_append_getElem (by omega), List.take_succ_eq_append_getElem (by omega), List.take_succ_eq_append_getElem (by omega), ← iat_eq _ _ (by omega), ← iat_eq _ _ (by omega), ← iat_eq _ _ (by omega), ← iat_eq _ _ (by omega)]
  simp
/-- Is a byte of the first k records too great? -/
def anyG (xs : List Int) (k : Nat) : Bool := (List.range k).any fun j => decide (127 < iat xs (4 * j + 3))
theorem anyG_next (xs : List Int) (k : Nat) : anyG xs (k + 1) = (anyG xs k || decide (127 < iat xs (4 * k + 3))) := by simp [anyG, List.range_succ]
theorem anyG_no (xs : List Int) (k : Nat) (h : ∀ j, j < k → iat xs (4 * j + 3) < 128) : anyG xs k = false := by
  simp only [anyG, List.any_eq_false, List.mem_range, decide_eq_true_eq]
  intro j hj; have := h j hj; omega
theorem anyG_yes (xs : List Int) (k j : Nat) (hj : j < k) (h : 127 < iat xs (4 * j + 3)) : anyG xs k = true := by
  simp only [anyG, List.any_eq_true, List.mem_range, decide_eq_true_eq]
  exact ⟨j, hj, h⟩
theorem wpList_appU {ops : Array Oper} {rest : List Oper} {o : Oper} {a : Act} {Q : Exit → Act → World → Prop} (hgd : o.guard = none) (w : World) (s x : Operand)
    (ho : o.op = .call { callee := .builtin .append, args := #[s, x], argTypes := #[61, 61] })
    (base : Nat) (v y : Value) (l m : List Int) (hs : a.eval s = v) (hown : eU.Own 5 w base v l) (hx : a.eval x = y) (hr : eU.Rd w y m) (hn : l.length + m.length ≤ 1099511627776) (hbase : base ≤ w.heap.size)
    (h : ∀ v' w', eU.Own 5 w' base v' (l ++ m) → Below base w w' → w.grownBy w' v.ownBlock → (v'.ownBlock = v.ownBlock ∨ v'.ownBlock = some w.heap.size) → wpList Try.prog ops Q rest (a.put o.dst v') w') : wpList Try.prog ops Q (o :: rest) a w := by
  obtain ⟨i0, hi, hz0, hz1, hz2⟩ := info_parts info8
  exact wpList_plain hgd fun _ hK => Els.app (E := eU) w s x 61 5 i0 (.int .u8 0) 1 Try.underlying61 hi hz0 hz1 hz2 (by decide) rfl ho base v y l m hs hown hx hr hn hbase fun v' w' h2 h3 h4 h5 => hK _ _ (h v' w' h2 h3 h4 h5)
end Go.Proofs.Ytpleboogijgdcaa
