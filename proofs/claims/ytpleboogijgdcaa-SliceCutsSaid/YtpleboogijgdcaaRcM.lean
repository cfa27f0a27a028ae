/- Records: a record's text, read, is that record again. -/
import Derived.Test.YtpleboogijgdcaaRcR
import Derived.Test.YtpleboogijgdcaaRcG
import Derived.Test.YtpleboogijgdcaaRws
namespace Go.Proofs.Ytpleboogijgdcaa
open Go.ChangeShapes Go.WideShapes Go.ChangeAt Go.RowKit
set_option linter.unusedVariables false

theorem adN_rng (x : Rc) (h : x.Ok) : ∀ z ∈ adN x, 0 ≤ z ∧ z < 256 := by
  rw [(need4 x h).1]
  exact fun z hz => ⟨(digitsTo_mem 16 x.a 4 (by decide) (by decide) z hz).1, (digitsTo_mem 16 x.a 4 (by decide) (by decide) z hz).2.1⟩
theorem daN_dig (x : Rc) (h : x.Ok) : daN x = digitsTo 16 x.d 2 := by
  have q2 : qv 16 x.d 2 = 0 := qv_small 16 x.d 2 h.d0 (by have := h.d1; omega)
  rw [← (need4 x h).2, written_eq (m := 2) (by decide) ⟨Nat.le_refl _, q2, .inl rfl⟩]
theorem daN_rng (x : Rc) (h : x.Ok) : ∀ z ∈ daN x, 0 ≤ z ∧ z < 256 := by
  rw [daN_dig x h]
  exact fun z hz => ⟨(digitsTo_mem 16 x.d 2 (by decide) (by decide) z hz).1, (digitsTo_mem 16 x.d 2 (by decide) (by decide) z hz).2.1⟩
theorem txN_rng (x : Rc) (h : x.Ok) : ∀ z ∈ txN x, 0 ≤ z ∧ z < 256 := by
  intro z hz
  simp only [txN, lnL, List.mem_append, List.mem_cons, List.not_mem_nil, or_false] at hz
  rcases hz with hz | rfl | hz | rfl | rfl | rfl | (rfl | rfl | rfl | rfl | rfl) | rfl | rfl
  · exact adN_rng x h z hz
  · decide
  · exact daN_rng x h z hz
  all_goals (first | decide | (split <;> decide))
theorem strOf_extract (l : List Int) (i j : Nat) : (strOfNums l).extract i j = strOfNums ((l.take j).drop i) := by
  apply ByteArray.ext
  unfold strOfNums
  simp [ByteArray.data_extract, List.drop_take]
theorem adN_list (x : Rc) (h : x.Ok) : ∃ p q r s, adN x = [p, q, r, s] := by
  rw [(need4 x h).1]
  exact ⟨_, _, _, _, rfl⟩
theorem rdX_back (x : Rc) (h : x.Ok) : rdX (strOfNums (txN x)) = x := by
  have hn : nums (strOfNums (txN x)) = txN x := str_nums _ (txN_rng x h)
  obtain ⟨p, q, r, s, ha⟩ := adN_list x h
  have e0 : (strOfNums (txN x)).extract 0 4 = strOfNums (adN x) := by rw [strOf_extract]; unfold txN; rw [ha]; rfl
  have e1 : (strOfNums (txN x)).extract 5 7 = strOfNums (daN x) := by rw [strOf_extract]; unfold txN; rw [ha]; rfl
  have v0 : numV 16 16 (nums (strOfNums (adN x))) = x.a := by
    have q4 : qv 16 x.a 4 = 0 := qv_small 16 x.a 4 h.a0 (by have := h.a1; omega)
    rw [(need4 x h).1]
    exact (read_back 16 x.a 16 4 4 (by decide) (by decide) h.a0 (by have := h.a1; omega) ⟨Nat.le_refl _, q4, .inl rfl⟩ (by decide) (by decide)).1
  have v1 : numV 16 16 (nums (strOfNums (daN x))) = x.d := by
    have q2 : qv 16 x.d 2 = 0 := qv_small 16 x.d 2 h.d0 (by have := h.d1; omega)
    rw [daN_dig x h]
    exact (read_back 16 x.d 16 2 2 (by decide) (by decide) h.d0 (by have := h.d1; omega) ⟨Nat.le_refl _, q2, .inl rfl⟩ (by decide) (by decide)).1
  have w0 : IntKind.u16.wrap x.a = x.a := by have := h.a0; have := h.a1; rw [IntKind.wrap_u16]; omega
  have w1 : IntKind.u8.wrap x.d = x.d := by have := h.d0; have := h.d1; rw [IntKind.wrap_u8]; omega
  have t : txN x = [p, q, r, s, 32, sg (x.d / 16), sg (x.d % 16), 32, if x.r then 82 else 87, 32] ++ (lnL x 5 ++ ([32] ++ [if x.m then 77 else 45])) := by unfold txN; rw [ha]; rfl
  unfold rdX
  rw [e0, e1, v0, v1, w0, w1, hn, t]
  obtain ⟨a, d, r', b1, b2, b3, b4, b5, m⟩ := x
  cases r' <;> cases b1 <;> cases b2 <;> cases b3 <;> cases b4 <;> cases b5 <;> cases m <;> rfl
/-- What Read answers on a record's own text. -/
theorem rdPost_back (x : Rc) (h : x.Ok) (w : World) (e : Ending) (w' : World) (H : RdPost (strOfNums (txN x)) (rdX (strOfNums (txN x))) w e w') : e = .returned (.tuple #[.agg x.cells, .int .i64 0]) ∧ Below w.heap.size w w' := by
  rw [rdX_back x h] at H
  rcases H with ⟨⟨he, _⟩ | ⟨_, hne⟩, hb⟩
  · exact ⟨he, hb⟩
  · exact absurd rfl hne
end Go.Proofs.Ytpleboogijgdcaa
