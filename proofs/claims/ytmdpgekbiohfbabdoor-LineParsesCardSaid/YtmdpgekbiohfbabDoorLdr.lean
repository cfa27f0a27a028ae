/- The document's operands (spinetref45): begins, ends, sized, register. -/
import Derived.Test.YtmdpgekbiohfbabDoorLinN
import Derived.Deep.CutBlock
import Derived.Deep.DeepCutAuto
import Derived.Deep.CutRange
import Derived.Deep.QuietTactic
import Derived.BigQuiet
namespace Go.Proofs.YtmdpgekbiohfbabDoor
open Go.ChangeShapes Go.WideShapes Go.ChangeAt Go.RowKit
set_option linter.unusedVariables false

theorem preL_len {p l : List Int} (h : preL p l = true) : p.length ≤ l.length := by
  unfold preL at h
  rw [decide_eq_true_eq] at h
  have := congrArg List.length h
  rw [List.length_take] at this
  omega
theorem sufL_len {p l : List Int} (h : sufL p l = true) : p.length ≤ l.length := by
  unfold sufL at h
  rw [Bool.and_eq_true, decide_eq_true_eq] at h
  exact h.1
set_option maxRecDepth 100000 in
set_option maxHeartbeats 1000000 in
theorem rfBegins (s p : ByteArray) (w : World) (hs : s.size ≤ 1099511627776) (hp : p.size ≤ 1099511627776) :
    Calls Tryd.prog 89 #[.string s, .string p] w fun e w' => e = .returned (.bool (preL (nums p) (nums s))) ∧ w' = w := by
  have HL := nums_len s
  have HP := nums_len p
  by_cases hle : p.size ≤ s.size
  · have h1 : (p.size : Int) ≤ (s.size : Int) := by omega
    have h0 : (0 : Int) ≤ (p.size : Int) := by omega
    have hd : decide (p.size ≤ s.size) = true := by simpa using hle
    have e1 : ((s.extract 0 p.size).toList == p.toList) = preL (nums p) (nums s) := by
      rw [str_eqP, ext_takeP]
      unfold preL
      rw [HP]
      congr 1
      apply propext
      rw [← nums_str p, str_inj (fun x hx => nums_range s x (List.mem_of_mem_take hx)) (nums_range p), nums_str p]
    clear HL HP
    cases hq : preL (nums p) (nums s) <;> rw [hq] at e1 <;> clear hq
    all_goals
      go_enter Tryd.func89, Tryd.ntmps89
      go_wp2
      go_ret
      exact ⟨rfl, rfl⟩
  · have h1 : ¬ (p.size : Int) ≤ (s.size : Int) := by omega
    have hd : decide (p.size ≤ s.size) = false := by simpa using hle
    have hq : preL (nums p) (nums s) = false := by
      cases hh : preL (nums p) (nums s)
      · rfl
      · have := preL_len hh; omega
    rw [hq]
    clear hq hle HL HP
    go_enter Tryd.func89, Tryd.ntmps89
    go_wp2
    go_ret
    exact ⟨rfl, rfl⟩
set_option maxRecDepth 100000 in
set_option maxHeartbeats 1000000 in
theorem rfEnds (s p : ByteArray) (w : World) (hs : s.size ≤ 1099511627776) (hp : p.size ≤ 1099511627776) :
    Calls Tryd.prog 90 #[.string s, .string p] w fun e w' => e = .returned (.bool (sufL (nums p) (nums s))) ∧ w' = w := by
  have HL := nums_len s
  have HP := nums_len p
  by_cases hle : p.size ≤ s.size
  · have h1 : (p.size : Int) ≤ (s.size : Int) := by omega
    have h2 : (0 : Int) ≤ (s.size : Int) - (p.size : Int) := by omega
    have h3 : (s.size : Int) - (p.size : Int) ≤ (s.size : Int) := by omega
    have e0 : ((s.size : Int) - (p.size : Int)).toNat = s.size - p.size := by omega
    have hd : decide (p.size ≤ s.size) = true := by simpa using hle
    have e1 : ((s.extract (s.size - p.size) s.size).toList == p.toList) = sufL (nums p) (nums s) := by
      rw [str_eqP, ext_dropP]
      unfold sufL
      rw [HP, HL, decide_eq_true hle, Bool.true_and]
      congr 1
      apply propext
      rw [← nums_str p, str_inj (fun x hx => nums_range s x (List.mem_of_mem_drop hx)) (nums_range p), nums_str p]
    clear HL HP
    cases hq : sufL (nums p) (nums s) <;> rw [hq] at e1 <;> clear hq
    all_goals
      go_enter Tryd.func90, Tryd.ntmps90
      go_wp2
      go_ret
      exact ⟨rfl, rfl⟩
  · have h1 : ¬ (p.size : Int) ≤ (s.size : Int) := by omega
    have hd : decide (p.size ≤ s.size) = false := by simpa using hle
    have hq : sufL (nums p) (nums s) = false := by
      cases hh : sufL (nums p) (nums s)
      · rfl
      · have := sufL_len hh; omega
    rw [hq]
    clear hq hle HL HP
    go_enter Tryd.func90, Tryd.ntmps90
    go_wp2
    go_ret
    exact ⟨rfl, rfl⟩
set_option maxRecDepth 100000 in
set_option maxHeartbeats 1000000 in
theorem rfSized (s : ByteArray) (w : World) (hs : s.size ≤ 1099511627776) :
    Calls Tryd.prog 58 #[.string s] w fun e w' => e = .returned (.tuple #[.int .i64 (sizL (nums s)).1, .string (strOfNums (sizL (nums s)).2)]) ∧ Below w.heap.size w w' := by
  have C1 := fun u => rfBegins s ⟨#[60]⟩ u hs (by decide)
  have C2 := fun u => rfBegins s ⟨#[62]⟩ u hs (by decide)
  rw [show nums ⟨#[60]⟩ = [60] from rfl] at C1
  rw [show nums ⟨#[62]⟩ = [62] from rfl] at C2
  have HL := nums_len s
  have E1 := Lib.hid (ext_dropP s 1)
  have HS : Hid (strOfNums (nums s) = s) := Lib.hid (nums_str s)
  unfold sizL
  cases h1 : preL [60] (nums s)
  · rw [h1] at C1
    rw [if_neg (by decide)]
    cases h2 : preL [62] (nums s)
    · rw [h2] at C2
      rw [if_neg (by decide)]
      dsimp only
      rw [HS.out]
      have D1 := Lib.hid C1
      have D2 := Lib.hid C2
      clear C1 C2 h1 h2 HL
      go_enter Tryd.func58, Tryd.ntmps58
      go_wp2_with fail
      refine (D1.out _).mono ?_
      rintro e w' ⟨rfl, rfl⟩
      go_wp2_with fail
      refine (D2.out _).mono ?_
      rintro e w' ⟨rfl, rfl⟩
      go_wp2
      go_ret2
      exact ⟨rfl, Below.refl _ _⟩
    · rw [h2] at C2
      rw [if_pos rfl]
      dsimp only
      have h3 : 1 ≤ s.size := by have := preL_len h2; rw [HL] at this; simpa using this
      have h4 : (1 : Int) ≤ (s.size : Int) := by omega
      rw [← E1.out]
      have D1 := Lib.hid C1
      have D2 := Lib.hid C2
      clear C1 C2 h1 h2 HL
      go_enter Tryd.func58, Tryd.ntmps58
      go_wp2_with fail
      refine (D1.out _).mono ?_
      rintro e w' ⟨rfl, rfl⟩
      go_wp2_with fail
      refine (D2.out _).mono ?_
      rintro e w' ⟨rfl, rfl⟩
      go_wp2
      go_quiet (fail)
      go_wp2
      go_ret2
      exact ⟨rfl, Below.drewN0 (Below.refl _ _) _⟩
  · rw [h1] at C1
    rw [if_pos rfl]
    dsimp only
    have h3 : 1 ≤ s.size := by have := preL_len h1; rw [HL] at this; simpa using this
    have h4 : (1 : Int) ≤ (s.size : Int) := by omega
    rw [← E1.out]
    have D1 := Lib.hid C1
    clear C1 C2 h1 HL
    go_enter Tryd.func58, Tryd.ntmps58
    go_wp2_with fail
    refine (D1.out _).mono ?_
    rintro e w' ⟨rfl, rfl⟩
    go_wp2
    go_quiet (fail)
    go_wp2
    go_ret2
    exact ⟨rfl, Below.drewN0 (Below.refl _ _) _⟩
def rgN (b : List Int) (k : Int) : Int × Int :=
  if b = [88] then (1, k) else if b = [89] then (2, k) else if b = [85] then (3, k) else if b = [83] then (4, k) else if b = [80, 67] ∧ k = 0 then (5, k) else (-1, 0)
/-- The rest of that choice, from the n-th name on. -/
def rgX (b : List Int) (k : Int) (n : Nat) : Int × Int :=
  if n ≤ 0 ∧ b = [88] then (1, k) else if n ≤ 1 ∧ b = [89] then (2, k) else if n ≤ 2 ∧ b = [85] then (3, k) else if n ≤ 3 ∧ b = [83] then (4, k) else if n ≤ 4 ∧ b = [80, 67] ∧ k = 0 then (5, k) else (-1, 0)
theorem rgX_0 (b : List Int) (k : Int) : rgX b k 0 = rgN b k := by unfold rgX rgN; simp
theorem rgX_5 (b : List Int) (k : Int) : rgX b k 5 = (-1, 0) := by unfold rgX; simp
def nmR (n : Nat) : List Int := [[88], [89], [85], [83], [80, 67]].getD n []
theorem rgX_hit (b : List Int) (k : Int) (n : Nat) (hn : n < 5) (h : b = nmR n) (h5 : n < 4 ∨ k = 0) : rgX b k n = ((n : Int) + 1, k) := by
  subst h
  rcases (show n = 0 ∨ n = 1 ∨ n = 2 ∨ n = 3 ∨ n = 4 by omega) with rfl | rfl | rfl | rfl | rfl
  · rfl
  · rfl
  · rfl
  · rfl
  · obtain rfl : k = 0 := by omega
    rfl
theorem rgX_next (b : List Int) (k : Int) (n : Nat) (hn : n < 5) (h : b = nmR n → ¬ (n < 4 ∨ k = 0)) : rgX b k n = rgX b k (n + 1) := by
  unfold rgX
  rcases (show n = 0 ∨ n = 1 ∨ n = 2 ∨ n = 3 ∨ n = 4 by omega) with rfl | rfl | rfl | rfl | rfl
  · have : b ≠ [88] := fun e => h e (.inl (by decide)); simp [this]
  · have : b ≠ [89] := fun e => h e (.inl (by decide)); simp [this]
  · have : b ≠ [85] := fun e => h e (.inl (by decide)); simp [this]
  · have : b ≠ [83] := fun e => h e (.inl (by decide)); simp [this]
  · have : ¬ (b = [80, 67] ∧ k = 0) := fun e => h e.1 (.inr e.2)
    simp [this]
set_option maxRecDepth 100000 in
set_option maxHeartbeats 4000000 in
theorem rfRegister (s : ByteArray) (w : World) (hs : s.size ≤ 1099511627776) :
    Calls Tryd.prog 59 #[.string s] w fun e w' => e = .returned (.tuple #[.int .i64 (rgN (stepL (nums s)).1 (stepL (nums s)).2).1, .int .i64 (rgN (stepL (nums s)).1 (stepL (nums s)).2).2]) ∧ Below w.heap.size w w' := by
  have C1 := fun u => rfBegins s ⟨#[45, 45]⟩ u hs (by decide)
  have C2 := fun u => rfBegins s ⟨#[45]⟩ u hs (by decide)
  have C3 := fun u => rfEnds s ⟨#[43, 43]⟩ u hs (by decide)
  have C4 := fun u => rfEnds s ⟨#[43]⟩ u hs (by decide)
  rw [show nums ⟨#[45, 45]⟩ = [45, 45] from rfl] at C1
  rw [show nums ⟨#[45]⟩ = [45] from rfl] at C2
  rw [show nums ⟨#[43, 43]⟩ = [43, 43] from rfl] at C3
  rw [show nums ⟨#[43]⟩ = [43] from rfl] at C4
  have HL := nums_len s
  have HBY : Hid (BytL (stepL (nums s)).1) := Lib.hid (by
    unfold stepL
    repeat' split
    all_goals first | exact (BytL.nums s).drop _ | exact (BytL.nums s).take _ | exact BytL.nums s)
  obtain ⟨R, hR⟩ : ∃ R, rgN (stepL (nums s)).1 (stepL (nums s)).2 = R := ⟨_, rfl⟩
  have HR := Lib.hid hR
  rw [hR]
  clear hR
  obtain ⟨T, hT⟩ : ∃ T, stepL (nums s) = T := ⟨_, rfl⟩
  rw [hT] at HBY HR
  have HT := Lib.hid hT
  clear hT
  go_enter Tryd.func59, Tryd.ntmps59
  go_wp2_with fail
  refine (C1 _).mono ?_
  rintro e w' ⟨rfl, rfl⟩
  go_upto_if 8 with (fail)
  go_cut [0, 4] (fun u0 u4 wx => u0 = .string (strOfNums T.1) ∧ u4 = .int .i64 T.2 ∧ Hid (Below w'.heap.size w' wx))
  case first =>
    have hT := HT.out
    unfold stepL at hT
    cases h1 : preL [45, 45] (nums s)
    rotate_left 1
    · rw [h1, if_pos rfl] at hT
      subst hT
      have h2 := preL_len h1
      have h3 : (2 : Int) ≤ (s.size : Int) := by rw [HL] at h2; simp at h2; omega
      have E := Lib.hid (ext_dropP s 2)
      clear h1 h2 C1 C2 C3 C4 HL HR HBY HT
      go_wp2
      go_quiet (fail)
      go_wp2
      go_meet
      case rel => exact ⟨by rw [← E.out], rfl, Lib.hid (Below.drewN0 (Below.refl _ _) _)⟩
    rw [h1, if_neg (by decide)] at hT
    cases h2 : preL [45] (nums s)
    rotate_left 1
    · rw [h2, if_pos rfl] at hT
      subst hT
      rw [h2] at C2
      have h5 := preL_len h2
      have h3 : (1 : Int) ≤ (s.size : Int) := by rw [HL] at h5; simp at h5; omega
      have E := Lib.hid (ext_dropP s 1)
      clear h1 h2 h5 C1 C3 C4 HL HR HBY HT
      go_wp2_with fail
      refine (C2 _).mono ?_
      rintro e w' ⟨rfl, rfl⟩
      go_wp2
      go_quiet (fail)
      go_wp2
      go_meet
      case rel => exact ⟨by rw [← E.out], rfl, Lib.hid (Below.drewN0 (Below.refl _ _) _)⟩
    rw [h2, if_neg (by decide)] at hT
    rw [h2] at C2
    cases h4 : sufL [43, 43] (nums s)
    rotate_left 1
    · rw [h4, if_pos rfl] at hT
      subst hT
      rw [h4] at C3
      have h5 := sufL_len h4
      have h3 : (0 : Int) ≤ (s.size : Int) - 2 := by rw [HL] at h5; simp at h5; omega
      have h6 : (s.size : Int) - 2 ≤ (s.size : Int) := by omega
      have e0 : ((s.size : Int) - 2).toNat = s.size - 2 := by omega
      have E := Lib.hid (ext_takeP s (s.size - 2))
      have HL2 := Lib.hid HL
      clear h1 h2 h4 h5 C1 C4 HL HR HBY HT
      go_wp2_with fail
      refine (C2 _).mono ?_
      rintro e w' ⟨rfl, rfl⟩
      go_wp2_with fail
      refine (C3 _).mono ?_
      rintro e w' ⟨rfl, rfl⟩
      go_wp2
      go_quiet (fail)
      go_wp2
      go_meet
      case rel => exact ⟨by rw [HL2.out, ← E.out], rfl, Lib.hid (Below.drewN0 (Below.refl _ _) _)⟩
    rw [h4, if_neg (by decide)] at hT
    rw [h4] at C3
    cases h7 : sufL [43] (nums s)
    rotate_left 1
    · rw [h7, if_pos rfl] at hT
      subst hT
      rw [h7] at C4
      have h5 := sufL_len h7
      have h3 : (0 : Int) ≤ (s.size : Int) - 1 := by rw [HL] at h5; simp at h5; omega
      have h6 : (s.size : Int) - 1 ≤ (s.size : Int) := by omega
      have e0 : ((s.size : Int) - 1).toNat = s.size - 1 := by omega
      have E := Lib.hid (ext_takeP s (s.size - 1))
      have HL2 := Lib.hid HL
      clear h1 h2 h4 h5 h7 C1 HL HR HBY HT
      go_wp2_with fail
      refine (C2 _).mono ?_
      rintro e w' ⟨rfl, rfl⟩
      go_wp2_with fail
      refine (C3 _).mono ?_
      rintro e w' ⟨rfl, rfl⟩
      go_wp2_with fail
      refine (C4 _).mono ?_
      rintro e w' ⟨rfl, rfl⟩
      go_wp2
      go_quiet (fail)
      go_wp2
      go_meet
      case rel => exact ⟨by rw [HL2.out, ← E.out], rfl, Lib.hid (Below.drewN0 (Below.refl _ _) _)⟩
    · rw [h7, if_neg (by decide)] at hT
      subst hT
      rw [h7] at C4
      have E : Hid (strOfNums (nums s) = s) := Lib.hid (nums_str s)
      clear h1 h2 h4 h7 C1 HL HR HBY HT
      go_wp2_with fail
      refine (C2 _).mono ?_
      rintro e w' ⟨rfl, rfl⟩
      go_wp2_with fail
      refine (C3 _).mono ?_
      rintro e w' ⟨rfl, rfl⟩
      go_wp2_with fail
      refine (C4 _).mono ?_
      rintro e w' ⟨rfl, rfl⟩
      go_wp2
      go_meet
      case rel => exact ⟨by rw [E.out], rfl, Lib.hid (Below.refl _ _)⟩
  case rest =>
    obtain ⟨rfl, rfl, hB⟩ := hcut
    clear C1 C2 C3 C4 HL HT
    obtain ⟨b, k⟩ := T
    simp only at HBY HR
    simp only
    have HE : Hid (∀ n, n < 5 → ((strOfNums (nmR n)).toList == (strOfNums b).toList) = decide (b = nmR n)) := Lib.hid (fun n hn => by
      rw [str_eqP]
      congr 1
      apply propext
      rw [str_inj (by rcases (show n = 0 ∨ n = 1 ∨ n = 2 ∨ n = 3 ∨ n = 4 by omega) with rfl | rfl | rfl | rfl | rfl <;> decide) HBY.out]
      exact eq_comm)
    generalize strOfNums b = B at HE ⊢
    have HX : Hid (rgX b k 0 = R) := Lib.hid (by rw [rgX_0]; exact HR.out)
    clear HR HBY
    go_wp2
    have HBA := Lib.hid (Below.alloc0 hB.out (Obj.cells #[.string ⟨#[88]⟩, .string ⟨#[89]⟩, .string ⟨#[85]⟩, .string ⟨#[83]⟩, .string ⟨#[80, 67]⟩] 149))
    go_loop [6] (fun i => ∃ n : Nat, n ≤ 5 ∧ i = .int .i64 n ∧ Hid (rgX b k n = R)) (fun i => 5 - (intOf i).toNat)
    case atStart => exact ⟨0, by decide, rfl, HX⟩
    case round =>
      obtain ⟨n, hn, rfl, hX⟩ := hrel
      clear HX
      by_cases h5 : n < 5
      · have HI := Lib.hid (rgX_hit b k n h5)
        have HN := Lib.hid (rgX_next b k n h5)
        have HEn := HE.out n h5
        rcases (show n = 0 ∨ n = 1 ∨ n = 2 ∨ n = 3 ∨ n = 4 by omega) with rfl | rfl | rfl | rfl | rfl
        · have q : ((⟨#[88]⟩ : ByteArray).toList == B.toList) = decide (b = nmR 0) := HEn
          rw [ByteArray.toList_eq ⟨#[88]⟩] at q
          dsimp only at q
          clear HEn hn h5 HE
          by_cases hb : b = nmR 0
          · rw [decide_eq_true hb] at q
            have e := HI.out hb (.inl (by decide))
            rw [hX.out] at e
            subst e
            clear hb HI HN hX
            go_wp2
            go_ret2
            exact ⟨rfl, HBA.out⟩
          · rw [decide_eq_false hb] at q
            have e := Lib.hid ((HN.out (fun h => absurd h hb)).symm.trans hX.out)
            clear hb HI HN hX
            go_wp2
            go_round
            case rel => exact ⟨1, by decide, rfl, e⟩
            case measure => simp [intOf]
        · have q : ((⟨#[89]⟩ : ByteArray).toList == B.toList) = decide (b = nmR 1) := HEn
          rw [ByteArray.toList_eq ⟨#[89]⟩] at q
          dsimp only at q
          clear HEn hn h5 HE
          by_cases hb : b = nmR 1
          · rw [decide_eq_true hb] at q
            have e := HI.out hb (.inl (by decide))
            rw [hX.out] at e
            subst e
            clear hb HI HN hX
            go_wp2
            go_ret2
            exact ⟨rfl, HBA.out⟩
          · rw [decide_eq_false hb] at q
            have e := Lib.hid ((HN.out (fun h => absurd h hb)).symm.trans hX.out)
            clear hb HI HN hX
            go_wp2
            go_round
            case rel => exact ⟨2, by decide, rfl, e⟩
            case measure => simp [intOf]
        · have q : ((⟨#[85]⟩ : ByteArray).toList == B.toList) = decide (b = nmR 2) := HEn
          rw [ByteArray.toList_eq ⟨#[85]⟩] at q
          dsimp only at q
          clear HEn hn h5 HE
          by_cases hb : b = nmR 2
          · rw [decide_eq_true hb] at q
            have e := HI.out hb (.inl (by decide))
            rw [hX.out] at e
            subst e
            clear hb HI HN hX
            go_wp2
            go_ret2
            exact ⟨rfl, HBA.out⟩
          · rw [decide_eq_false hb] at q
            have e := Lib.hid ((HN.out (fun h => absurd h hb)).symm.trans hX.out)
            clear hb HI HN hX
            go_wp2
            go_round
            case rel => exact ⟨3, by decide, rfl, e⟩
            case measure => simp [intOf]
        · have q : ((⟨#[83]⟩ : ByteArray).toList == B.toList) = decide (b = nmR 3) := HEn
          rw [ByteArray.toList_eq ⟨#[83]⟩] at q
          dsimp only at q
          clear HEn hn h5 HE
          by_cases hb : b = nmR 3
          · rw [decide_eq_true hb] at q
            have e := HI.out hb (.inl (by decide))
            rw [hX.out] at e
            subst e
            clear hb HI HN hX
            go_wp2
            go_ret2
            exact ⟨rfl, HBA.out⟩
          · rw [decide_eq_false hb] at q
            have e := Lib.hid ((HN.out (fun h => absurd h hb)).symm.trans hX.out)
            clear hb HI HN hX
            go_wp2
            go_round
            case rel => exact ⟨4, by decide, rfl, e⟩
            case measure => simp [intOf]
        · have q : ((⟨#[80, 67]⟩ : ByteArray).toList == B.toList) = decide (b = nmR 4) := HEn
          rw [ByteArray.toList_eq ⟨#[80, 67]⟩] at q
          dsimp only at q
          clear HEn hn h5 HE
          by_cases hb : b = nmR 4
          · rw [decide_eq_true hb] at q
            by_cases hk : k = 0
            · have e := HI.out hb (.inr hk)
              rw [hX.out] at e
              subst e
              subst hk
              clear hb HI HN hX
              go_wp2
              go_ret2
              exact ⟨rfl, HBA.out⟩
            · have hk' : (k == 0) = false := by simpa using hk
              have e := Lib.hid ((HN.out (fun _ h => h.elim (by decide) hk)).symm.trans hX.out)
              clear hb HI HN hX hk
              go_wp2
              go_round
              case rel => exact ⟨5, by decide, rfl, e⟩
              case measure => simp [intOf]
          · rw [decide_eq_false hb] at q
            have e := Lib.hid ((HN.out (fun h => absurd h hb)).symm.trans hX.out)
            clear hb HI HN hX
            go_wp2
            go_round
            case rel => exact ⟨5, by decide, rfl, e⟩
            case measure => simp [intOf]
      · obtain rfl : n = 5 := by omega
        have e := hX.out
        rw [rgX_5] at e
        subst e
        clear hX HE
        go_wp2
        go_ret2
        exact ⟨rfl, HBA.out⟩
end Go.Proofs.YtmdpgekbiohfbabDoor
