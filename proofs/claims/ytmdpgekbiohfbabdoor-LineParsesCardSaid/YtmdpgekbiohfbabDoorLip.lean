/- Contract of line.Parse. -/
import Derived.Test.YtmdpgekbiohfbabDoorLim
namespace Go.Proofs.YtmdpgekbiohfbabDoor
open Go.ChangeShapes Go.WideShapes Go.ChangeAt Go.RowKit
set_option linter.unusedVariables false

def parR (m : AgV × Bool) : AgV × Int := if m.2 = true then (m.1, 0) else (agZ, 21)
def parL (s : ByteArray) : AgV × Int :=
  if s.size = 0 then (agZ, 0)
  else if preL [35] (nums s) = true then (⟨1, 0, (nums s).drop 1, 0, 0, 0, false⟩, 0)
  else if preL [91] (nums s) = true then
    (if sufL [93] ((nums s).drop 1) = true then parR (memL (strOfNums (((nums s).drop 1).take ((nums s).length - 1 - 1))) true) else (agZ, 21))
  else parR (memL s false)
theorem resPar (tmps : Array Value) (W : World) (g : Nat) (cs : Array Value) (h : Blk W g 42 cs) (hc : cs.size = 7) (h2 : tmps.getD 2 undef = .pointer (some ⟨g, 0, none⟩)) (c : Int) (h3 : tmps.getD 3 undef = .int .i64 c) :
    (results Tryd.f17 tmps).run Tryd.prog W = .ok (.tuple #[.agg cs, .int .i64 c]) W := by
  have hi : (Tryd.prog.info? 42).map (·.size) = some cs.size := by rw [hc]; kernel_rfl
  have hld := run_loadVar_row (P := Tryd.prog) W g 42 42 cs (0, 0) _ h Tryd.underlying42 rfl hi
  have h2' : tmps[2]?.getD undef = .pointer (some ⟨g, 0, none⟩) := by simpa using h2
  have h3' : tmps[3]?.getD undef = .int .i64 c := by simpa using h3
  simp [results, Tryd.results17, h2', h3', asAddr, hld]
set_option maxRecDepth 100000 in
set_option maxHeartbeats 4000000 in
theorem liParse_any (s : ByteArray) (w : World) (hT : OregAt w) (hs : s.size ≤ 1099511627776) :
    Calls Tryd.prog 17 #[.string s] w fun e w' => e = .returned (.tuple #[.agg (parL s).1.c, .int .i64 (parL s).2]) ∧ Below w.heap.size w w' := by
  have C35 := Lib.hid (fun u => cutPre_any s ⟨#[35]⟩ u hs (by decide))
  rw [show nums ⟨#[35]⟩ = [35] from rfl, show (⟨#[35]⟩ : ByteArray).size = 1 from rfl] at C35
  have C91 := Lib.hid (fun u => cutPre_any s ⟨#[91]⟩ u hs (by decide))
  rw [show nums ⟨#[91]⟩ = [91] from rfl, show (⟨#[91]⟩ : ByteArray).size = 1 from rfl] at C91
  obtain ⟨P, hP⟩ : ∃ R, parL s = R := ⟨_, rfl⟩
  have HE := Lib.hid hP
  rw [hP]
  unfold parL at HE
  clear hP
  have Z0 := Lib.hid (Blk.new w 42 #[.int .i64 0, .int .i64 0, .string ⟨#[]⟩, .int .i64 0, .int .i64 0, .int .u16 0, .bool false] (0, 0))
  have B0 := Lib.hid (Below.alloc0 (Below.refl w.heap.size w) (.cells #[.int .i64 0, .int .i64 0, .string ⟨#[]⟩, .int .i64 0, .int .i64 0, .int .u16 0, .bool false] 42))
  by_cases hl0 : s.size = 0
  · have hE := HE.out
    rw [if_pos hl0] at hE
    subst hE
    obtain rfl : s = ByteArray.empty := ByteArray.size_eq_zero_iff.1 hl0
    rw [agZ_c]
    clear HE hl0 C35 C91
    go_enter Tryd.func17, Tryd.ntmps17
    go_wp2
    exact bodyPost_ret (v := .tuple #[.agg #[.int .i64 0, .int .i64 0, .string ⟨#[]⟩, .int .i64 0, .int .i64 0, .int .u16 0, .bool false], .int .i64 0]) (resPar _ _ w.heap.size _ Z0.out rfl rfl 0 rfl) rfl ⟨rfl, B0.out⟩
  have hne := empty_beqS s (by omega)
  have hE := HE.out
  rw [if_neg hl0] at hE
  obtain ⟨N, hN⟩ : ∃ N, strOfNums ((nums s).drop 1) = N := ⟨_, rfl⟩
  rw [hN] at C35 C91
  cases h35 : preL [35] (nums s)
  rotate_left 1
  · rw [h35] at hE C35
    rw [if_pos rfl] at hE
    subst hE
    unfold AgV.c
    dsimp only
    rw [hN]
    clear HE hl0 h35 hN C91 hs hT
    go_enter Tryd.func17, Tryd.ntmps17
    go_wp2_with fail
    refine (C35.out _).mono ?_
    rintro e w' ⟨rfl, ⟨hf, -⟩ | ⟨-, rfl⟩⟩
    · cases hf
    go_wp2
    exact bodyPost_ret (v := .tuple #[.agg #[.int .i64 1, .int .i64 0, .string N, .int .i64 0, .int .i64 0, .int .u16 0, .bool false], .int .i64 0]) (resPar _ _ w.heap.size _ (Blk.new _ _ _ _) rfl rfl 0 rfl) rfl ⟨rfl, Below.alloc0 (Below.refl _ _) _⟩
  rw [h35] at hE C35
  rw [if_neg (by decide)] at hE
  cases h91 : preL [91] (nums s)
  · rw [h91] at hE C91
    rw [if_neg (by decide)] at hE
    have CM := Lib.hid (fun u (h : Below w.heap.size w u) => liMemory_any s false u (hT.below h) hs)
    obtain ⟨M, hM⟩ : ∃ M, memL s false = M := ⟨_, rfl⟩
    rw [hM] at CM hE
    clear HE hl0 h35 h91 hN hM
    obtain ⟨⟨rf, rs, rx, rk, rr, ro, ri⟩, rok⟩ := M
    unfold AgV.c at CM
    dsimp only at CM
    cases rok
    all_goals
      simp only [parR, Bool.false_eq_true, if_false, if_true] at hE
      subst hE
      dsimp only
      first | rw [agZ_c] | (unfold AgV.c; dsimp only)
      generalize strOfNums rx = RX at CM ⊢
      go_enter Tryd.func17, Tryd.ntmps17
      go_wp2_with fail
      refine (C35.out _).mono ?_
      rintro e w' ⟨rfl, ⟨-, rfl⟩ | ⟨hf, -⟩⟩
      rotate_left 1
      · cases hf
      go_wp2_with fail
      refine (C91.out _).mono ?_
      rintro e w' ⟨rfl, ⟨-, rfl⟩ | ⟨hf, -⟩⟩
      rotate_left 1
      · cases hf
      go_wp2_with fail
      refine (CM.out _ B0.out).mono ?_
      rintro e v1 ⟨rfl, hb⟩
      have ZZ := Lib.hid (Blk.alloc (Blk.below Z0.out hb (by simp)) (.cells #[.int .i64 rf, .int .i64 rs, .string RX, .int .i64 rk, .int .i64 rr, .int .u16 ro, .bool ri] 42))
      have BB := Lib.hid (Below.alloc0 (Below.trans0 B0.out hb) (.cells #[.int .i64 rf, .int .i64 rs, .string RX, .int .i64 rk, .int .i64 rr, .int .u16 ro, .bool ri] 42))
      obtain ⟨c0, c1, c2, c3, c4, c5, c6⟩ := ZZ.out.c7
      have f0 := ZZ.out.frozen 0
      have f1 := ZZ.out.frozen 1
      have f2 := ZZ.out.frozen 2
      have f3 := ZZ.out.frozen 3
      have f4 := ZZ.out.frozen 4
      have f5 := ZZ.out.frozen 5
      have f6 := ZZ.out.frozen 6
      clear hb CM hT hs Z0 B0
      go_wp2
    · exact bodyPost_ret (v := .tuple #[.agg #[.int .i64 0, .int .i64 0, .string ⟨#[]⟩, .int .i64 0, .int .i64 0, .int .u16 0, .bool false], .int .i64 21]) (resPar _ _ w.heap.size _ (Blk.set7 ZZ.out) rfl rfl 21 rfl) rfl ⟨rfl, Below.set7 BB.out (Nat.le_refl _) _ _ _ _ _ _ _⟩
    · exact bodyPost_ret (v := .tuple #[.agg #[.int .i64 rf, .int .i64 rs, .string RX, .int .i64 rk, .int .i64 rr, .int .u16 ro, .bool ri], .int .i64 0]) (resPar _ _ w.heap.size _ (Blk.set7 ZZ.out) rfl rfl 0 rfl) rfl ⟨rfl, Below.set7 BB.out (Nat.le_refl _) _ _ _ _ _ _ _⟩
  rw [h91] at hE C91
  rw [if_pos rfl] at hE
  have hbN := (BytL.nums s).drop 1
  have hnN : nums N = (nums s).drop 1 := by rw [← hN]; exact str_nums _ hbN
  have hsN : N.size = (nums s).length - 1 := by rw [← nums_len N, hnN, List.length_drop]
  have hsN' : N.size ≤ 1099511627776 := by rw [hsN, nums_len]; omega
  have C93 := Lib.hid (fun u => cutSuf_any N ⟨#[93]⟩ u hsN' (by decide))
  rw [show nums ⟨#[93]⟩ = [93] from rfl, show (⟨#[93]⟩ : ByteArray).size = 1 from rfl, hnN, hsN] at C93
  obtain ⟨S2, hS2⟩ : ∃ N, strOfNums (((nums s).drop 1).take ((nums s).length - 1 - 1)) = N := ⟨_, rfl⟩
  rw [hS2] at C93 hE
  have hsS : S2.size ≤ 1099511627776 := by rw [← hS2, strOfNums_size, List.length_take, List.length_drop, nums_len]; omega
  cases h93 : sufL [93] ((nums s).drop 1)
  · rw [h93] at hE C93
    rw [if_neg (by decide)] at hE
    subst hE
    rw [agZ_c]
    clear HE hl0 h35 h91 h93 hN hT hs hbN hnN hsN hsN' hS2 hsS
    go_enter Tryd.func17, Tryd.ntmps17
    go_wp2_with fail
    refine (C35.out _).mono ?_
    rintro e w' ⟨rfl, ⟨-, rfl⟩ | ⟨hf, -⟩⟩
    rotate_left 1
    · cases hf
    go_wp2_with fail
    refine (C91.out _).mono ?_
    rintro e w' ⟨rfl, ⟨hf, -⟩ | ⟨-, rfl⟩⟩
    · cases hf
    go_wp2_with fail
    refine (C93.out _).mono ?_
    rintro e w' ⟨rfl, ⟨-, rfl⟩ | ⟨hf, -⟩⟩
    rotate_left 1
    · cases hf
    go_wp2
    exact bodyPost_ret (v := .tuple #[.agg #[.int .i64 0, .int .i64 0, .string ⟨#[]⟩, .int .i64 0, .int .i64 0, .int .u16 0, .bool false], .int .i64 21]) (resPar _ _ w.heap.size _ Z0.out rfl rfl 21 rfl) rfl ⟨rfl, B0.out⟩
  · rw [h93] at hE C93
    rw [if_pos rfl] at hE
    have CM := Lib.hid (fun u (h : Below w.heap.size w u) => liMemory_any S2 true u (hT.below h) hsS)
    obtain ⟨M, hM⟩ : ∃ M, memL S2 true = M := ⟨_, rfl⟩
    rw [hM] at CM hE
    clear HE hl0 h35 h91 h93 hN hM hbN hnN hsN hsN' hS2 hsS
    obtain ⟨⟨rf, rs, rx, rk, rr, ro, ri⟩, rok⟩ := M
    unfold AgV.c at CM
    dsimp only at CM
    cases rok
    all_goals
      simp only [parR, Bool.false_eq_true, if_false, if_true] at hE
      subst hE
      dsimp only
      first | rw [agZ_c] | (unfold AgV.c; dsimp only)
      generalize strOfNums rx = RX at CM ⊢
      go_enter Tryd.func17, Tryd.ntmps17
      go_wp2_with fail
      refine (C35.out _).mono ?_
      rintro e w' ⟨rfl, ⟨-, rfl⟩ | ⟨hf, -⟩⟩
      rotate_left 1
      · cases hf
      go_wp2_with fail
      refine (C91.out _).mono ?_
      rintro e w' ⟨rfl, ⟨hf, -⟩ | ⟨-, rfl⟩⟩
      · cases hf
      go_wp2_with fail
      refine (C93.out _).mono ?_
      rintro e w' ⟨rfl, ⟨hf, -⟩ | ⟨-, rfl⟩⟩
      · cases hf
      go_wp2_with fail
      refine (CM.out _ B0.out).mono ?_
      rintro e v1 ⟨rfl, hb⟩
      have ZZ := Lib.hid (Blk.alloc (Blk.below Z0.out hb (by simp)) (.cells #[.int .i64 rf, .int .i64 rs, .string RX, .int .i64 rk, .int .i64 rr, .int .u16 ro, .bool ri] 42))
      have BB := Lib.hid (Below.alloc0 (Below.trans0 B0.out hb) (.cells #[.int .i64 rf, .int .i64 rs, .string RX, .int .i64 rk, .int .i64 rr, .int .u16 ro, .bool ri] 42))
      obtain ⟨c0, c1, c2, c3, c4, c5, c6⟩ := ZZ.out.c7
      have f0 := ZZ.out.frozen 0
      have f1 := ZZ.out.frozen 1
      have f2 := ZZ.out.frozen 2
      have f3 := ZZ.out.frozen 3
      have f4 := ZZ.out.frozen 4
      have f5 := ZZ.out.frozen 5
      have f6 := ZZ.out.frozen 6
      clear hb CM hT hs Z0 B0
      go_wp2
    · exact bodyPost_ret (v := .tuple #[.agg #[.int .i64 0, .int .i64 0, .string ⟨#[]⟩, .int .i64 0, .int .i64 0, .int .u16 0, .bool false], .int .i64 21]) (resPar _ _ w.heap.size _ (Blk.set7 ZZ.out) rfl rfl 21 rfl) rfl ⟨rfl, Below.set7 BB.out (Nat.le_refl _) _ _ _ _ _ _ _⟩
    · exact bodyPost_ret (v := .tuple #[.agg #[.int .i64 rf, .int .i64 rs, .string RX, .int .i64 rk, .int .i64 rr, .int .u16 ro, .bool ri], .int .i64 0]) (resPar _ _ w.heap.size _ (Blk.set7 ZZ.out) rfl rfl 0 rfl) rfl ⟨rfl, Below.set7 BB.out (Nat.le_refl _) _ _ _ _ _ _ _⟩
end Go.Proofs.YtmdpgekbiohfbabDoor
