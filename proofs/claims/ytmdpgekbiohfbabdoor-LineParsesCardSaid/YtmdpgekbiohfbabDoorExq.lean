/- Contracts of package expr's reader: name, named, term. -/
import Derived.Test.YtmdpgekbiohfbabDoorExp
import Derived.Test.YtmdpgekbiohfbabDoorTab
namespace Go.Proofs.YtmdpgekbiohfbabDoor
open Go.ChangeShapes Go.WideShapes Go.ChangeAt Go.RowKit
set_option linter.unusedVariables false

theorem right_first (S : ByteArray) (h : 0 < S.size) : rightL (nums (S.extract 0 1)) = letC (iat (nums S) 0) := by
  have hl : 0 < (nums S).length := by rw [nums_len]; exact h
  rw [show S.extract 0 1 = S.extract 0 (0 + 1) from rfl, ext_one S 0 h, str_nums _ (by intro y hy; simp at hy; subst hy; exact iat_nums_range S 0)]
  simp [rightL, iat, worC]
  intro h; simp [h]
theorem right_next (x : Int) (h0 : 0 ≤ x) (h1 : x < 256) : rightL (nums ((⟨#[95]⟩ : ByteArray) ++ strOfNums [x])) = worC x := by
  rw [show (⟨#[95]⟩ : ByteArray) = strOfNums [95] from rfl, strOf_append, str_nums _ (by intro y hy; simp at hy; rcases hy with rfl | rfl; decide; exact ⟨h0, h1⟩)]
  have e1 : letC 95 = true := by decide
  have e2 : worC 95 = true := by decide
  simp [rightL, iat, e1, e2]
set_option maxRecDepth 100000 in
set_option maxHeartbeats 2000000 in
theorem exName_any (w : World) (g : Nat) (S : ByteArray) (a : Int) (tp : Option Addr) (p : Bool) (h : RdX w g S a tp p) (hs : S.size ≤ 1099511627776) (hgt : 0 < S.size) :
    Calls Tryd.prog 130 #[.pointer (some ⟨g, 0, none⟩)] w fun e w' => OnB g w w' ∧
      ((letC (iat (nums S) 0) = false ∧ e = .returned (.string ⟨#[]⟩) ∧ RdX w' g S a tp p) ∨
       (letC (iat (nums S) 0) = true ∧ e = .returned (.string (strOfNums ((nums S).take (run worC (nums S))))) ∧ RdX w' g (strOfNums ((nums S).drop (run worC (nums S)))) a tp p)) := by
  have HT := Lib.hid (fun k hk => exTake_any w g S a tp p h k hk hs)
  have H := Lib.hid h
  obtain ⟨c0, -, -, -⟩ := h.c
  have HL := Lib.hid (nums_len S)
  have HSL := Lib.hid (fun (u : World) (k : Nat) (hk : k < S.size) => (by
    rw [run_slice_string u 9 S .i64 .i64 _ _ Tryd.underlying9 (by omega) (by omega) (by omega), show (k : Int).toNat = k by omega, show ((k : Int) + 1).toNat = k + 1 by omega, ext_one S k hk] : (Instr.slice 9 (.string S) (some (.int .i64 (k : Int))) (some (.int .i64 ((k : Int) + 1))) none).run Tryd.prog u = .ok (.string (strOfNums [iat (nums S) k])) u))
  have RF := Lib.hid (fun u => symRight_any (S.extract 0 1) u)
  rw [right_first S hgt] at RF
  have h11 : (1 : Int) ≤ (S.size : Int) := by omega
  clear h
  cases hf : letC (iat (nums S) 0)
  · rw [hf] at RF
    go_enter Tryd.func130, Tryd.ntmps130
    go_wp2_with (go_at_call 135; refine (RF.out _).mono ?_; rintro e w' ⟨rfl, rfl⟩)
    go_ret
    exact ⟨OnB.refl _ _, .inl ⟨trivial, rfl, H.out⟩⟩
  · rw [hf] at RF
    have HF := Lib.hid hf
    clear hf
    go_enter Tryd.func130, Tryd.ntmps130
    go_wp2_with (go_at_call 135; refine (RF.out _).mono ?_; rintro e w' ⟨rfl, rfl⟩)
    go_loop [3] (fun i => ∃ k : Nat, k ≤ S.size ∧ 1 ≤ k ∧ i = .int .i64 k ∧ Hid (∀ j, j < k → worC (iat (nums S) j) = true)) (fun i => S.size - (intOf i).toNat)
    case atStart => exact ⟨1, hgt, Nat.le_refl _, rfl, Lib.hid (fun j hj => by
      obtain rfl : j = 0 := by omega
      simp [worC, HF.out])⟩
    case round =>
      obtain ⟨k, hk, hk1, rfl, hg⟩ := hrel
      by_cases hlt : k < S.size
      · obtain ⟨r0, r1⟩ := iat_nums_range S k
        have hsl : ∀ u : World, (Instr.slice 9 (.string S) (some (.int .i64 (k : Int))) (some (.int .i64 ((k : Int) + 1))) none).run Tryd.prog u = .ok (.string (strOfNums [iat (nums S) k])) u := fun u => HSL.out u k hlt
        obtain ⟨x, hx⟩ : ∃ x, iat (nums S) k = x := ⟨_, rfl⟩
        have HX := Lib.hid hx
        rw [hx] at hsl r0 r1
        have hz : (strOfNums [x]).size = 1 := by rw [strOfNums_size]; rfl
        have RW := Lib.hid (fun u => symRight_any ((⟨#[95]⟩ : ByteArray) ++ strOfNums [x]) u)
        rw [right_next x r0 r1] at RW
        clear hx
        cases hw : worC x
        · have HR : Hid (run worC (nums S) = k) := Lib.hid (run_is _ _ _ (by rw [HL.out]; exact hk) hg.out (fun _ => by rw [HX.out]; exact hw))
          have HT1 := Lib.hid (HT.out k hk)
          rw [hw] at RW
          clear hw
          go_wp2_with (first
            | (go_at_call 135; refine (RW.out _).mono ?_; rintro e w' ⟨rfl, rfl⟩)
            | (go_at_call 127; refine HT1.out.mono ?_; rintro e w' ⟨rfl, h1, h2⟩))
          go_ret
          rw [HR.out]
          exact ⟨h2, .inr ⟨trivial, rfl, h1⟩⟩
        · have HG' : Hid (∀ j, j < k + 1 → worC (iat (nums S) j) = true) := Lib.hid (fun j hj => by
            rcases Nat.lt_or_ge j k with h1 | h1
            · exact hg.out j h1
            · have : j = k := by omega
              subst this
              rw [HX.out]; exact hw)
          rw [hw] at RW
          clear hw
          go_wp2_with (go_at_call 135; refine (RW.out _).mono ?_; rintro e w' ⟨rfl, rfl⟩)
          go_round
          case rel => exact ⟨k + 1, by omega, by omega, by go_num, HG'⟩
          case measure => simp [intOf]; omega
      · have HR : Hid (run worC (nums S) = k) := Lib.hid (run_is _ _ _ (by rw [HL.out]; exact hk) hg.out (fun h => absurd h (by rw [HL.out]; exact hlt)))
        have HT1 := Lib.hid (HT.out k hk)
        go_wp2_with (go_at_call 127; refine HT1.out.mono ?_; rintro e w' ⟨rfl, h1, h2⟩)
        go_ret
        rw [HR.out]
        exact ⟨h2, .inr ⟨trivial, rfl, h1⟩⟩
def lookL (look : ByteArray → Option Int) : List Int → Option Int := fun l => look (strOfNums l)
set_option maxRecDepth 100000 in
set_option maxHeartbeats 2000000 in
theorem exNamed_any (w : World) (g B gt n : Nat) (look : ByteArray → Option Int) (hT : Tab w B gt n look) (S N : ByteArray) (a : Int) (p : Bool) (h : RdX w g S a (some ⟨gt, 0, none⟩) p) (hN : N.size ≤ maxLen) :
    Calls Tryd.prog 131 #[.pointer (some ⟨g, 0, none⟩), .string N] w fun e w' => w' = w ∧
      ((look N = none ∧ e = .returned (.tuple #[.int .u16 0, .int .i64 40])) ∨ (∃ v, look N = some v ∧ e = .returned (.tuple #[.int .u16 v, .int .i64 0]))) := by
  obtain ⟨-, -, c2, -⟩ := h.c
  have CG := Lib.hid (fun u (e : u = w) => by subst e; exact tabGet_any u B gt n look hT N hN : ∀ u, u = w → Calls Tryd.prog 136 #[.pointer (some ⟨gt, 0, none⟩), .string N] u _)
  clear h hT
  cases hl : look N with
  | none =>
    rw [hl] at CG
    dsimp only [Option.isSome] at CG
    go_enter Tryd.func131, Tryd.ntmps131
    go_wp2_with (go_at_call 136; refine (CG.out _ rfl).mono ?_; rintro e w' ⟨rfl, rfl⟩)
    go_ret2
    exact ⟨rfl, .inl ⟨trivial, rfl⟩⟩
  | some v =>
    rw [hl] at CG
    dsimp only [Option.isSome] at CG
    go_enter Tryd.func131, Tryd.ntmps131
    go_wp2_with (go_at_call 136; refine (CG.out _ rfl).mono ?_; rintro e w' ⟨rfl, rfl⟩)
    go_ret2
    exact ⟨rfl, .inr ⟨v, rfl, rfl⟩⟩
end Go.Proofs.YtmdpgekbiohfbabDoor
