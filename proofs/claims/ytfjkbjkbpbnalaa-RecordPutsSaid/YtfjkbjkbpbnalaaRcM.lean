/- Records: a record's text, read, is that record again. -/
import Derived.Test.YtfjkbjkbpbnalaaRcR
import Derived.Test.YtfjkbjkbpbnalaaRcG
import Derived.Test.YtfjkbjkbpbnalaaRws
namespace Go.Proofs.Ytfjkbjkbpbnalaa
open Go.ChangeShapes Go.WideShapes Go.ChangeAt Go.RowKit
set_option linter.unusedVariables false

theorem adN_rng (x : Rc) (h : x.Ok) : ∀ z ∈ adN x, 0 ≤ z ∧ z < 256 := by
  rw [(need4 x h).1]
  exact fun z hz => ⟨(digitsTo_mem 16 x.a 4 (by decide) (by decide) z hz).1, (digitsTo_mem 16 x.a 4 (by decide) (by decide) z hz).2.1⟩
theorem daN_dig (x : Rc) (h : x.Ok) : daN x = digitsTo 16 x.d 2 := by
  have q2 : qv 16 x.d 2 = 0 := qv_small 16 x.d 2 h.d0 (by have := h.d1; omega)
  rw [← (need4 x h).2, written_eq (m := 2) (by decide) ⟨Nat.le_refl _, q2, .inl rfl⟩]
theorem daN_rng (x : Rc) (h : x.Ok) : ∀ z ∈ daN x, 0 ≤ z ∧ z < 256 := by
  rw [daN_dig x h]
  exact fun z hz => ⟨(digitsTo_mem 16 x.d 2 (by decide) (by decide) z hz).1, (digitsTo_mem 16 x.d 2 (by decide) (by decide) z hz).2.1⟩
theorem txN_rng (x : Rc) (h : x.Ok) : ∀ z ∈ txN x, 0 ≤ z ∧ z < 256 := by
  intro z hz
  simp only [txN, lnL, List.mem_append, List.mem_cons, List.not_mem_nil, or_false] at hz
  rcases hz with hz | rfl | hz | rfl | rfl | rfl | (rfl | rfl | rfl | rfl | rfl) | rfl | rfl
  · exact adN_rng x h z hz
  · decide
  · exact daN_rng x h z hz
  all_goals (first | decide | (split <;> decide))
theorem strOf_extract (l : List Int) (i j : Nat) : (strOfNums l).extract i j = strOfNums ((l.take j).drop i) := by
  apply ByteArray.ext
  unfold strOfNums
  simp [ByteArray.data_extract, List.drop_take]
theorem adN_list (x : Rc) (h : x.Ok) : ∃ p q r s, adN x = [p, q, r, s] := by
  rw [(need4 x h).1]
  exact ⟨_, _, _, _, rfl⟩
theorem rdX_back (x : Rc) (h : x.Ok) : rdX (strOfNums (txN x)) = x := by
  have hn : nums (strOfNums (txN x)) = txN x := str_nums _ (txN_rng x h)
  obtain ⟨p, q, r, s, ha⟩ := adN_list x h
  have e0 : (strOfNums (txN x)).extract 0 4 = strOfNums (adN x) := by rw [strOf_extract]; unfold txN; rw [ha]; rfl
  have e1 : (strOfNums (txN x)).extract 5 7 = strOfNums (daN x) := by rw [strOf_extract]; unfold txN; rw [ha]; rfl
  have v0 : numV 16 16 (nums (strOfNums (adN x))) = x.a := by
    have q4 : qv 16 x.a 4 = 0 := qv_small 16 x.a 4 h.a0 (by have := h.a1; omega)
    rw [(need4 x h).1]
    exact (read_back 16 x.a 16 4 4 (by decide) (by decide) h.a0 (by have := h.a1; omega) ⟨Nat.le_refl _, q4, .inl rfl⟩ (by decide) (by decide)).1
  have v1 : numV 16 16 (nums (strOfNums (daN x))) = x.d := by
    have q2 : qv 16 x.d 2 = 0 := qv_small 16 x.d 2 h.d0 (by have := h.d1; omega)
    rw [daN_dig x h]
    exact (read_back 16 x.d 16 2 2 (by decide) (by decide) h.d0 (by have := h.d1; omega) ⟨Nat.le_refl _, q2, .inl rfl⟩ (by decide) (by decide)).1
  have w0 : IntKind.u16.wrap x.a = x.a := by have := h.a0; have := h.a1; rw [IntKind.wrap_u16]; omega
  have w1 : IntKind.u8.wrap x.d = x.d := by have := h.d0; have := h.d1; rw [IntKind.wrap_u8]; omega
  have t : txN x = [p, q, r, s, 32, sg (x.d / 16), sg (x.d % 16), 32, if x.r then 82 else 87, 32] ++ (lnL x 5 ++ ([32] ++ [if x.m then 77 else 45])) := by unfold txN; rw [ha]; rfl
  unfold rdX
  rw [e0, e1, v0, v1, w0, w1, hn, t]
  obtain ⟨a, d, r', b1, b2, b3, b4, b5, m⟩ := x
  cases r' <;> cases b1 <;> cases b2 <;> cases b3 <;> cases b4 <;> cases b5 <;> cases m <;> rfl
/-- What Read answers on a record's own text. -/
theorem rdPost_back (x : Rc) (h : x.Ok) (w : World) (e : Ending) (w' : World) (H : RdPost (strOfNums (txN x)) (rdX (strOfNums (txN x))) w e w') : e = .returned (.tuple #[.agg x.cells, .int .i64 0]) ∧ Below w.heap.size w w' := by
  rw [rdX_back x h] at H
  rcases H with ⟨⟨he, _⟩ | ⟨_, hne⟩, hb⟩
  · exact ⟨he, hb⟩
  · exact absurd rfl hne
theorem open_recs {H : Type} {ee : TypeId × Value → H} {W : World} {base : Nat} {sp : Nat → Bool} {held : Bool} {fuel : Nat} {A : Option Addr} {n c : Nat} {x : DataW H × List MemPlace} (h : DataW.trod ee Try.prog W base sp held fuel 32 (Value.slice A n c).cells.toList = some x) :
    ∃ l, eR.In Rc.Ok W A n c l :=
  Els.open_in (E := eR) Rc.Ok Try.underlying32 (by kernel_rfl) (fun n cs x hl h => by
    match cs, hl with
    | [c0, c1, c2, c3, c4, c5, c6, c7, c8], _ =>
      obtain ⟨ys, m, _, _, _, hlen, hf⟩ := DataW.trod_struct Try.underlying37 h
      have k16 : Try.prog.cellsOf 35 = 1 := by kernel_rfl
      have k8 : Try.prog.cellsOf 5 = 1 := by kernel_rfl
      have kb : Try.prog.cellsOf 4 = 1 := by kernel_rfl
      match ys, hlen with
      | [y0, y1, y2, y3, y4, y5, y6, y7, y8], _ =>
        have h0 : DataW.trod ee Try.prog W base sp held m 35 (([c0, c1, c2, c3, c4, c5, c6, c7, c8].drop 0).take (Try.prog.cellsOf 35)) = some y0 := hf 0 _ rfl
        rw [k16] at h0
        change DataW.trod ee Try.prog W base sp held m 35 [c0] = some y0 at h0
        have h1 : DataW.trod ee Try.prog W base sp held m 5 (([c0, c1, c2, c3, c4, c5, c6, c7, c8].drop 1).take (Try.prog.cellsOf 5)) = some y1 := hf 1 _ rfl
        rw [k8] at h1
        change DataW.trod ee Try.prog W base sp held m 5 [c1] = some y1 at h1
        have h2 : DataW.trod ee Try.prog W base sp held m 4 (([c0, c1, c2, c3, c4, c5, c6, c7, c8].drop 2).take (Try.prog.cellsOf 4)) = some y2 := hf 2 _ rfl
        rw [kb] at h2
        change DataW.trod ee Try.prog W base sp held m 4 [c2] = some y2 at h2
        have h3 : DataW.trod ee Try.prog W base sp held m 4 (([c0, c1, c2, c3, c4, c5, c6, c7, c8].drop 3).take (Try.prog.cellsOf 4)) = some y3 := hf 3 _ rfl
        rw [kb] at h3
        change DataW.trod ee Try.prog W base sp held m 4 [c3] = some y3 at h3
        have h4 : DataW.trod ee Try.prog W base sp held m 4 (([c0, c1, c2, c3, c4, c5, c6, c7, c8].drop 4).take (Try.prog.cellsOf 4)) = some y4 := hf 4 _ rfl
        rw [kb] at h4
        change DataW.trod ee Try.prog W base sp held m 4 [c4] = some y4 at h4
        have h5 : DataW.trod ee Try.prog W base sp held m 4 (([c0, c1, c2, c3, c4, c5, c6, c7, c8].drop 5).take (Try.prog.cellsOf 4)) = some y5 := hf 5 _ rfl
        rw [kb] at h5
        change DataW.trod ee Try.prog W base sp held m 4 [c5] = some y5 at h5
        have h6 : DataW.trod ee Try.prog W base sp held m 4 (([c0, c1, c2, c3, c4, c5, c6, c7, c8].drop 6).take (Try.prog.cellsOf 4)) = some y6 := hf 6 _ rfl
        rw [kb] at h6
        change DataW.trod ee Try.prog W base sp held m 4 [c6] = some y6 at h6
        have h7 : DataW.trod ee Try.prog W base sp held m 4 (([c0, c1, c2, c3, c4, c5, c6, c7, c8].drop 7).take (Try.prog.cellsOf 4)) = some y7 := hf 7 _ rfl
        rw [kb] at h7
        change DataW.trod ee Try.prog W base sp held m 4 [c7] = some y7 at h7
        have h8 : DataW.trod ee Try.prog W base sp held m 4 (([c0, c1, c2, c3, c4, c5, c6, c7, c8].drop 8).take (Try.prog.cellsOf 4)) = some y8 := hf 8 _ rfl
        rw [kb] at h8
        change DataW.trod ee Try.prog W base sp held m 4 [c8] = some y8 at h8
        obtain ⟨a, e0, _, wa⟩ := DataW.trod_int Try.underlying35 h0
        obtain ⟨d, e1, _, wd⟩ := DataW.trod_int Try.underlying5 h1
        obtain ⟨r, e2, _⟩ := DataW.trod_bool Try.underlying4 h2
        obtain ⟨b1, e3, _⟩ := DataW.trod_bool Try.underlying4 h3
        obtain ⟨b2, e4, _⟩ := DataW.trod_bool Try.underlying4 h4
        obtain ⟨b3, e5, _⟩ := DataW.trod_bool Try.underlying4 h5
        obtain ⟨b4, e6, _⟩ := DataW.trod_bool Try.underlying4 h6
        obtain ⟨b5, e7, _⟩ := DataW.trod_bool Try.underlying4 h7
        obtain ⟨mm, e8, _⟩ := DataW.trod_bool Try.underlying4 h8
        simp only [List.cons.injEq, and_true] at e0 e1 e2 e3 e4 e5 e6 e7 e8
        subst e0 e1 e2 e3 e4 e5 e6 e7 e8
        have q0 := bounds_u16 wa
        have q1 := bounds_u8 wd
        exact ⟨⟨a, d, r, b1, b2, b3, b4, b5, mm⟩, rfl, ⟨q0.1, Int.lt_add_one_of_le q0.2, q1.1, Int.lt_add_one_of_le q1.2⟩⟩) h
end Go.Proofs.Ytfjkbjkbpbnalaa
