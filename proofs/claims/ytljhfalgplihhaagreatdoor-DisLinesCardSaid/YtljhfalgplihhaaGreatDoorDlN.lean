/- Reading an instruction byte by byte: what fewer bytes say. No program in sight. -/
import Derived.Test.YtljhfalgplihhaaGreatDoorInsY
namespace Go.Proofs.YtljhfalgplihhaaGreatDoor
set_option linter.unusedVariables false
theorem dec_not {bs : List Int} {k : Nat} (hk : k < inLn bs) : inOk (bs.take k) = false := by
  rw [Bool.eq_false_iff]
  intro h
  have h1 : inLn (bs.take k) ≤ (bs.take k).length := of_decide_eq_true h
  have h2 : (bs.take k).length ≤ k := List.length_take_le k bs
  have := (in_agree (xs := bs.take k) (zs := bs) (fun i hi => (iat_take bs k i (by omega)).symm)).2.2.2.2.2
  omega
theorem dec_yes {bs : List Int} (hl : inLn bs ≤ bs.length) : inOk (bs.take (inLn bs)) = true ∧ inAgg (bs.take (inLn bs)) = inAgg bs := by
  obtain ⟨h1, h2, h3, h4, h5, h6⟩ := in_agree (xs := bs) (zs := bs.take (inLn bs)) (fun i hi => iat_take bs _ i hi)
  have hok : inOk (bs.take (inLn bs)) = true := by
    unfold inOk
    rw [h6, List.length_take]
    exact decide_eq_true (by omega)
  have hok2 : inOk bs = true := decide_eq_true hl
  refine ⟨hok, ?_⟩
  unfold inAgg
  rw [if_pos hok, if_pos hok2, h1, h2, h3, h4, h5, h6]
theorem inLn_le5 {xs : List Int} (h : ∀ z ∈ xs, (Lit.int .u8 z).wf = true) : 1 ≤ inLn xs ∧ inLn xs ≤ 5 := by
  have hn := inN_le h
  have h1 := inL1_le xs
  have h2 : inL1 xs ≤ 2 := by unfold inL1; split <;> omega
  have h3 : inL2 xs ≤ inL1 xs + 1 := by unfold inL2; split <;> omega
  have h4 : inLn xs = inL2 xs + inN xs := rfl
  omega
end Go.Proofs.YtljhfalgplihhaaGreatDoor
