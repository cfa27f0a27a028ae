/- Contracts of package line: half, Pair. -/
import Derived.Test.YteaajmoclgfhnabDoorLinN
import Derived.Test.YteaajmoclgfhnabDoorLstF
import Derived.Test.YteaajmoclgfhnabDoorLstK
namespace Go.Proofs.YteaajmoclgfhnabDoor
open Go.ChangeShapes Go.WideShapes Go.ChangeAt Go.RowKit
set_option linter.unusedVariables false

def halfS (s : ByteArray) : Int × Bool := if nums s = [82, 54] then (6, true) else if nums s = [82, 55] then (7, true) else if nums s = [82, 49, 50] then (12, true) else if nums s = [82, 49, 51] then (13, true) else if nums s = [82, 49, 52] then (14, true) else if nums s = [82, 49, 53] then (15, true) else regOf s
theorem halfS_range (s : ByteArray) : 0 ≤ (halfS s).1 ∧ (halfS s).1 < 16 := by
  have h := regIn_range s 12 0 (by decide)
  unfold halfS
  repeat' split
  all_goals first | exact ⟨by decide, by decide⟩ | (unfold regOf; omega)
set_option maxRecDepth 100000 in
set_option maxHeartbeats 1000000 in
theorem liHalf_any (s : ByteArray) (w : World) (hT : OregAt w) :
    Calls Tryd.prog 23 #[.string s] w fun e w' => e = .returned (.tuple #[.int .i64 (halfS s).1, .bool (halfS s).2]) ∧ w = w' := by
  have CF := Lib.hid (fun u (h : Below w.heap.size w u) => findReg_any s u (hT.below h))
  have e0 := str_is s [82, 54] ⟨#[82, 54]⟩ rfl
  rw [ByteArray.toList_eq ⟨#[82, 54]⟩] at e0
  dsimp only at e0
  have e1 := str_is s [82, 55] ⟨#[82, 55]⟩ rfl
  rw [ByteArray.toList_eq ⟨#[82, 55]⟩] at e1
  dsimp only at e1
  have e2 := str_is s [82, 49, 50] ⟨#[82, 49, 50]⟩ rfl
  rw [ByteArray.toList_eq ⟨#[82, 49, 50]⟩] at e2
  dsimp only at e2
  have e3 := str_is s [82, 49, 51] ⟨#[82, 49, 51]⟩ rfl
  rw [ByteArray.toList_eq ⟨#[82, 49, 51]⟩] at e3
  dsimp only at e3
  have e4 := str_is s [82, 49, 52] ⟨#[82, 49, 52]⟩ rfl
  rw [ByteArray.toList_eq ⟨#[82, 49, 52]⟩] at e4
  dsimp only at e4
  have e5 := str_is s [82, 49, 53] ⟨#[82, 49, 53]⟩ rfl
  rw [ByteArray.toList_eq ⟨#[82, 49, 53]⟩] at e5
  dsimp only at e5
  have HE : Hid (halfS s = if nums s = [82, 54] then (6, true) else if nums s = [82, 55] then (7, true) else if nums s = [82, 49, 50] then (12, true) else if nums s = [82, 49, 51] then (13, true) else if nums s = [82, 49, 52] then (14, true) else if nums s = [82, 49, 53] then (15, true) else regOf s) := Lib.hid rfl
  obtain ⟨R, hR⟩ : ∃ R, halfS s = R := ⟨_, rfl⟩
  rw [hR] at HE ⊢
  clear hR
  by_cases h0 : nums s = [82, 54]
  · rw [decide_eq_true h0] at e0
    have hE := HE.out
    rw [if_pos h0] at hE
    subst hE
    clear e1 e2 e3 e4 e5 h0
    go_enter Tryd.func23, Tryd.ntmps23
    go_wp2
    go_ret2
    exact ⟨rfl, rfl⟩
  rw [decide_eq_false h0] at e0
  by_cases h1 : nums s = [82, 55]
  · rw [decide_eq_true h1] at e1
    have hE := HE.out
    rw [if_neg h0, if_pos h1] at hE
    subst hE
    clear e2 e3 e4 e5 h0 h1
    go_enter Tryd.func23, Tryd.ntmps23
    go_wp2
    go_ret2
    exact ⟨rfl, rfl⟩
  rw [decide_eq_false h1] at e1
  by_cases h2 : nums s = [82, 49, 50]
  · rw [decide_eq_true h2] at e2
    have hE := HE.out
    rw [if_neg h0, if_neg h1, if_pos h2] at hE
    subst hE
    clear e3 e4 e5 h0 h1 h2
    go_enter Tryd.func23, Tryd.ntmps23
    go_wp2
    go_ret2
    exact ⟨rfl, rfl⟩
  rw [decide_eq_false h2] at e2
  by_cases h3 : nums s = [82, 49, 51]
  · rw [decide_eq_true h3] at e3
    have hE := HE.out
    rw [if_neg h0, if_neg h1, if_neg h2, if_pos h3] at hE
    subst hE
    clear e4 e5 h0 h1 h2 h3
    go_enter Tryd.func23, Tryd.ntmps23
    go_wp2
    go_ret2
    exact ⟨rfl, rfl⟩
  rw [decide_eq_false h3] at e3
  by_cases h4 : nums s = [82, 49, 52]
  · rw [decide_eq_true h4] at e4
    have hE := HE.out
    rw [if_neg h0, if_neg h1, if_neg h2, if_neg h3, if_pos h4] at hE
    subst hE
    clear e5 h0 h1 h2 h3 h4
    go_enter Tryd.func23, Tryd.ntmps23
    go_wp2
    go_ret2
    exact ⟨rfl, rfl⟩
  rw [decide_eq_false h4] at e4
  by_cases h5 : nums s = [82, 49, 53]
  · rw [decide_eq_true h5] at e5
    have hE := HE.out
    rw [if_neg h0, if_neg h1, if_neg h2, if_neg h3, if_neg h4, if_pos h5] at hE
    subst hE
    clear  h0 h1 h2 h3 h4 h5
    go_enter Tryd.func23, Tryd.ntmps23
    go_wp2
    go_ret2
    exact ⟨rfl, rfl⟩
  rw [decide_eq_false h5] at e5
  have hE := HE.out
  rw [if_neg h0, if_neg h1, if_neg h2, if_neg h3, if_neg h4, if_neg h5] at hE
  rw [← hE] at CF
  clear h0 h1 h2 h3 h4 h5 hE HE
  go_enter Tryd.func23, Tryd.ntmps23
  go_wp2_with (go_at_call 40; refine (CF.out _ (Below.refl _ _)).mono ?_; rintro e w' ⟨rfl, rfl⟩)
  go_ret2
  exact ⟨rfl, rfl⟩
def pairV (a b : Int × Bool) (ok : Bool) : Int × Int := if ok = false then (0, 21) else if a.2 = false ∨ b.2 = false then (0, 40) else (16 * a.1 + b.1, 0)
def pairS (s : ByteArray) : Int × Int := pairV (halfS ⟨(cutL s.data.toList).1.toArray⟩) (halfS ⟨(cutL s.data.toList).2.1.toArray⟩) (cutL s.data.toList).2.2
theorem pair_bits : ∀ (a b : Fin 16), bits .or .i64 (wrap64 (((a : Nat) : Int) * 16)) ((b : Nat) : Int) % 256 = 16 * ((a : Nat) : Int) + ((b : Nat) : Int) := by decide +kernel
set_option maxRecDepth 100000 in
set_option maxHeartbeats 1000000 in
theorem liPair_any (s : ByteArray) (hs : s.size ≤ 1099511627776) (w : World) (hT : OregAt w) :
    Calls Tryd.prog 7 #[.string s] w fun e w' => e = .returned (.tuple #[.int .u8 (pairS s).1, .int .i64 (pairS s).2]) ∧ ∃ n, w' = w.drewN n := by
  have CC := Lib.hid (fun u => cut_any s hs u)
  unfold pairS
  obtain ⟨A, hA⟩ : ∃ A : ByteArray, (⟨(cutL s.data.toList).1.toArray⟩ : ByteArray) = A := ⟨_, rfl⟩
  obtain ⟨B, hB⟩ : ∃ A : ByteArray, (⟨(cutL s.data.toList).2.1.toArray⟩ : ByteArray) = A := ⟨_, rfl⟩
  obtain ⟨ok, hok⟩ : ∃ A, (cutL s.data.toList).2.2 = A := ⟨_, rfl⟩
  rw [hA, hB, hok] at CC
  rw [hA, hB, hok]
  clear hA hB hok
  have CA := Lib.hid (fun n => liHalf_any A (w.drewN n) hT)
  have CB := Lib.hid (fun n => liHalf_any B (w.drewN n) hT)
  have HA := Lib.hid (halfS_range A)
  have HB := Lib.hid (halfS_range B)
  generalize halfS A = ra at CA HA ⊢
  generalize halfS B = rb at CB HB ⊢
  obtain ⟨a, oa⟩ := ra
  obtain ⟨b, ob⟩ := rb
  obtain ⟨R, hR⟩ : ∃ R, pairV (a, oa) (b, ob) ok = R := ⟨_, rfl⟩
  rw [hR]
  unfold pairV at hR
  dsimp only at CA CB HA HB hR
  have HE := Lib.hid hR
  clear hR
  cases ok
  · have hE := HE.out
    rw [if_pos rfl] at hE
    subst hE
    clear HE CA CB HA HB
    go_enter Tryd.func7, Tryd.ntmps7
    go_wp2_with fail
    refine (CC.out _).mono ?_
    rintro e w1 ⟨rfl, n, rfl⟩
    go_wp2
    go_ret2
    exact ⟨rfl, _, rfl⟩
  have hE := HE.out
  rw [if_neg (by decide)] at hE
  have HE2 := Lib.hid hE
  clear hE HE
  cases oa
  · have hE := HE2.out
    rw [if_pos (.inl rfl)] at hE
    subst hE
    clear HE2 HA HB
    go_enter Tryd.func7, Tryd.ntmps7
    go_wp2_with fail
    refine (CC.out _).mono ?_
    rintro e w1 ⟨rfl, n, rfl⟩
    go_wp2_with fail
    refine (CA.out _).mono ?_
    rintro e w2 ⟨rfl, rfl⟩
    go_wp2_with fail
    refine (CB.out _).mono ?_
    rintro e w2 ⟨rfl, rfl⟩
    go_wp2
    go_ret2
    exact ⟨rfl, _, rfl⟩
  cases ob
  · have hE := HE2.out
    rw [if_pos (.inr rfl)] at hE
    subst hE
    clear HE2 HA HB
    go_enter Tryd.func7, Tryd.ntmps7
    go_wp2_with fail
    refine (CC.out _).mono ?_
    rintro e w1 ⟨rfl, n, rfl⟩
    go_wp2_with fail
    refine (CA.out _).mono ?_
    rintro e w2 ⟨rfl, rfl⟩
    go_wp2_with fail
    refine (CB.out _).mono ?_
    rintro e w2 ⟨rfl, rfl⟩
    go_wp2
    go_ret2
    exact ⟨rfl, _, rfl⟩
  have hE := HE2.out
  rw [if_neg (by rintro (h | h) <;> cases h)] at hE
  subst hE
  clear HE2
  obtain ⟨ha, ha'⟩ := HA.out
  obtain ⟨hb, hb'⟩ := HB.out
  obtain ⟨a, rfl⟩ := Int.eq_ofNat_of_zero_le ha
  obtain ⟨b, rfl⟩ := Int.eq_ofNat_of_zero_le hb
  have HPB : Hid (bits .or .i64 (wrap64 ((a : Int) * 16)) (b : Int) % 256 = 16 * (a : Int) + (b : Int)) := Lib.hid (pair_bits ⟨a, by omega⟩ ⟨b, by omega⟩)
  dsimp only
  clear HA HB ha ha' hb hb'
  go_enter Tryd.func7, Tryd.ntmps7
  go_wp2_with fail
  refine (CC.out _).mono ?_
  rintro e w1 ⟨rfl, n, rfl⟩
  go_wp2_with fail
  refine (CA.out _).mono ?_
  rintro e w2 ⟨rfl, rfl⟩
  go_wp2_with fail
  refine (CB.out _).mono ?_
  rintro e w2 ⟨rfl, rfl⟩
  go_wp2
  go_ret2
  exact ⟨by rw [← HPB.out]; rfl, _, rfl⟩
end Go.Proofs.YteaajmoclgfhnabDoor
