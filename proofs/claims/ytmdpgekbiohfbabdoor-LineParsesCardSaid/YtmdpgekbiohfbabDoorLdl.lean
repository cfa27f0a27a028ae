/- The law LineParses. -/
import Derived.Test.YtmdpgekbiohfbabDoorLdp
import Derived.Test.YtmdpgekbiohfbabDoorLiv
import Derived.Test.YtmdpgekbiohfbabDoorLpw
namespace Go.Proofs.YtmdpgekbiohfbabDoor
open Go.ChangeShapes Go.WideShapes Go.ChangeAt Go.RowKit
set_option linter.unusedVariables false

theorem offL_o (s r : Int) (i : Bool) (x : List Int) (hx : BytL x) : 0 ≤ (offL s r i x).2 ∧ (offL s r i x).2 < 65536 := by
  have hv := constV_in x hx
  unfold offL
  repeat' split
  all_goals first | exact hv | exact ⟨by decide, by decide⟩
theorem idxR_o (left : List Int) (r : Int) (ok : Bool) (k : Int) (i : Bool) (hl : BytL left) : 0 ≤ (idxR left r ok k i).1.o ∧ (idxR left r ok k i).1.o < 65536 := by
  unfold idxR
  split
  · exact ⟨by decide, by decide⟩
  split
  · exact ⟨Int.le_refl 0, (by decide : (0 : Int) < 65536)⟩
  split
  · exact ⟨by decide, by decide⟩
  split
  · exact ⟨Int.le_refl 0, (by decide : (0 : Int) < 65536)⟩
  · exact offL_o _ _ _ _ (sizL_byt hl)
theorem memL_o (s : ByteArray) (i : Bool) : 0 ≤ (memL s i).1.o ∧ (memL s i).1.o < 65536 := by
  unfold memL
  split
  · rw [idxL_eq]; exact idxR_o _ _ _ _ _ ((BytL.nums s).take _)
  split
  · split
    · exact ⟨by decide, by decide⟩
    · exact ⟨Int.le_refl 0, (by decide : (0 : Int) < 65536)⟩
  · exact ⟨Int.le_refl 0, (by decide : (0 : Int) < 65536)⟩
theorem parR_o (m : AgV × Bool) (h : 0 ≤ m.1.o ∧ m.1.o < 65536) : (0 ≤ (parR m).1.o ∧ (parR m).1.o < 65536) ∧ ((parR m).2 = 0 ∨ parR m = (agZ, 21)) := by
  unfold parR
  split
  · exact ⟨h, .inl rfl⟩
  · exact ⟨⟨by decide, by decide⟩, .inr rfl⟩
theorem parL_o (s : ByteArray) : (0 ≤ (parL s).1.o ∧ (parL s).1.o < 65536) ∧ ((parL s).2 = 0 ∨ parL s = (agZ, 21)) := by
  unfold parL
  split
  · exact ⟨⟨by decide, by decide⟩, .inl rfl⟩
  split
  · exact ⟨⟨Int.le_refl 0, (by decide : (0 : Int) < 65536)⟩, .inl rfl⟩
  split
  · split
    · exact parR_o _ (memL_o _ _)
    · exact ⟨⟨by decide, by decide⟩, .inr rfl⟩
  · exact parR_o _ (memL_o _ _)
theorem eql_arg (w : World) (f z k r o : Int) (X : ByteArray) (i : Bool) : (binOp .eql 42 (.agg #[.int .i64 f, .int .i64 z, .string X, .int .i64 k, .int .i64 r, .int .u16 o, .bool i]) (.agg #[.int .i64 f, .int .i64 z, .string X, .int .i64 k, .int .i64 r, .int .u16 o, .bool i])).run Tryd.prog w = .ok (.bool true) w := by
  have e1 : (f == f) = true := by simp
  have e2 : (z == z) = true := by simp
  have e3 : (k == k) = true := by simp
  have e4 : (r == r) = true := by simp
  have e5 : (o == o) = true := by simp
  have e6 : (i == i) = true := by simp
  have e7 : (X.toList == X.toList) = true := by simp
  go_simp
set_option maxRecDepth 100000 in
set_option maxHeartbeats 4000000 in
theorem law_parses (s : ByteArray) (w : World) (hT : OregAt w) :
    Calls Tryd.prog 4 #[.string s] w fun e w' => e = .returned (.bool true) ∧ Below w.heap.size w w' := by
  by_cases h100 : s.size ≤ 100
  · have CP := liParse_any s w hT (by omega)
    have CR := fun u => rfParse s u (by omega)
    have CA := Lib.hid (fun u (h : Below w.heap.size w u) => alive45 u (hT.below h))
    obtain ⟨ho, hq⟩ := parL_o s
    generalize parL s = P at CP CR ho hq
    obtain ⟨⟨f, z, x, k, r, o, i⟩, q⟩ := P
    unfold PaPost at CR
    unfold AgV.c at CP
    dsimp only at CP CR ho hq
    obtain ⟨o0, o1⟩ := ho
    have wo : IntKind.u16.wrap o = o := by rw [IntKind.wrap_u16]; omega
    obtain ⟨X, hX⟩ : ∃ X, strOfNums x = X := ⟨_, rfl⟩
    rw [hX] at CP CR
    have DP := Lib.hid CP
    have DR := Lib.hid CR
    clear CP CR hT
    rcases hq with rfl | hq
    · clear hX
      have hE := fun u => eql_arg u f z k r o X i
      go_enter Tryd.func4, Tryd.ntmps4
      go_wp2_with fail
      refine DP.out.mono ?_
      rintro e w1 ⟨rfl, hb⟩
      have HB1 := Lib.hid (Below.alloc0 hb (Obj.cells #[.int .i64 f, .int .i64 z, .string X, .int .i64 k, .int .i64 r, .int .u16 o, .bool i] 42))
      have HS1 := Lib.hid (Blk.new w1 42 #[.int .i64 f, .int .i64 z, .string X, .int .i64 k, .int .i64 r, .int .u16 o, .bool i] (0, 0))
      clear hb
      go_wp2_with fail
      refine (DR.out _).mono ?_
      rintro e w2 ⟨f', z', X', k', r', o', d', rfl, hm, hb⟩
      obtain ⟨rfl, rfl, rfl, rfl, rfl, rfl, rfl⟩ := hm (by trivial)
      have HB2 := Lib.hid (Below.alloc0 (Below.trans0 HB1.out hb) (Obj.cells #[.int .i64 f', .int .i64 z', .string X', .int .i64 k', .int .i64 r', .int .i64 o', .bool d'] 47))
      have HS2 := Lib.hid (Blk.alloc (Blk.below HS1.out hb HS1.out.lt) (Obj.cells #[.int .i64 f', .int .i64 z', .string X', .int .i64 k', .int .i64 r', .int .i64 o', .bool d'] 47))
      clear hb hm
      obtain ⟨q0, q1, q2, q3, q4, q5, q6⟩ := Blk.c7 HS2.out
      go_wp2_with (go_at_call 19; refine (CA.out _ HB2.out).mono ?_; rintro e w3 ⟨rfl, hb3⟩; have HB3 := Lib.hid (Below.trans0 HB2.out hb3))
      go_wp2
      go_ret
      exact ⟨rfl, HB3.out⟩
    · unfold agZ at hq
      simp only [Prod.mk.injEq, AgV.mk.injEq] at hq
      obtain ⟨⟨rfl, rfl, rfl, rfl, rfl, rfl, rfl⟩, rfl⟩ := hq
      obtain rfl : X = ⟨#[]⟩ := hX.symm
      clear hX
      go_enter Tryd.func4, Tryd.ntmps4
      go_wp2_with fail
      refine DP.out.mono ?_
      rintro e w1 ⟨rfl, hb⟩
      have HB1 := Lib.hid (Below.alloc0 hb (Obj.cells #[.int .i64 0, .int .i64 0, .string ⟨#[]⟩, .int .i64 0, .int .i64 0, .int .u16 0, .bool false] 42))
      have HS1 := Lib.hid (Blk.new w1 42 #[.int .i64 0, .int .i64 0, .string ⟨#[]⟩, .int .i64 0, .int .i64 0, .int .u16 0, .bool false] (0, 0))
      clear hb
      go_wp2_with fail
      refine (DR.out _).mono ?_
      rintro e w2 ⟨f', z', X', k', r', o', d', rfl, hm, hb⟩
      have HB2 := Lib.hid (Below.alloc0 (Below.trans0 HB1.out hb) (Obj.cells #[.int .i64 f', .int .i64 z', .string X', .int .i64 k', .int .i64 r', .int .i64 o', .bool d'] 47))
      have HS2 := Lib.hid (Blk.alloc (Blk.below HS1.out hb HS1.out.lt) (Obj.cells #[.int .i64 f', .int .i64 z', .string X', .int .i64 k', .int .i64 r', .int .i64 o', .bool d'] 47))
      have hd0 : decide ((21 : Int) = 0) = false := by decide
      clear hb hm
      obtain ⟨q0, q1, q2, q3, q4, q5, q6⟩ := Blk.c7 HS2.out
      go_wp2_with (go_at_call 19; refine (CA.out _ HB2.out).mono ?_; rintro e w3 ⟨rfl, hb3⟩; have HB3 := Lib.hid (Below.trans0 HB2.out hb3))
      go_wp2
      go_ret
      exact ⟨rfl, HB3.out⟩
  · have h1 : ¬ (s.size : Int) ≤ 100 := by omega
    go_enter Tryd.func4, Tryd.ntmps4
    go_wp2
    go_ret
    exact ⟨rfl, Below.refl _ _⟩
end Go.Proofs.YtmdpgekbiohfbabDoor
