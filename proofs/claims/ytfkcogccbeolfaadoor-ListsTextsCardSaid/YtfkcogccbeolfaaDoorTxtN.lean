/- The names of a postbyte's registers with commas between, in plain lists of bytes; read again. No program in sight. -/
import Derived.Test.YtfkcogccbeolfaaDoorLstK
import Derived.Lib.Join
namespace Go.Proofs.YtfkcogccbeolfaaDoor
set_option linter.unusedVariables false

/-- The registers of the bits below place k that are on. -/
def nmP (p : Nat) (u : Bool) : Nat → List Nat
  | 0 => []
  | k + 1 => nmP p u k ++ (if bitN p k then [regN k u] else [])
def nmS (p : Nat) (u : Bool) (k : Nat) : List ByteArray := (nmP p u k).map regS
def txtL (p : Nat) (u : Bool) (k : Nat) : List UInt8 := Lib.join ((nmP p u k).map fun r => regNames.getD r []) [44]
theorem nmP_len (p : Nat) (u : Bool) : ∀ k, (nmP p u k).length ≤ k
  | 0 => Nat.le_refl _
  | k + 1 => by
    have := nmP_len p u k
    unfold nmP
    rw [List.length_append]
    split <;> simp <;> omega
theorem nmS_data (p : Nat) (u : Bool) (k : Nat) : (nmS p u k).map (·.data.toList) = (nmP p u k).map fun r => regNames.getD r [] := by
  unfold nmS
  rw [List.map_map]
  apply List.map_congr_left
  intro r _
  simp [regS, byteStr]
theorem nmS_on (p : Nat) (u : Bool) (k : Nat) (h : bitN p k = true) : nmS p u (k + 1) = nmS p u k ++ [regS (regN k u)] := by
  unfold nmS
  rw [show nmP p u (k + 1) = nmP p u k ++ (if bitN p k then [regN k u] else []) from rfl, if_pos h, List.map_append]; rfl
theorem nmS_off (p : Nat) (u : Bool) (k : Nat) (h : bitN p k = false) : nmS p u (k + 1) = nmS p u k := by
  unfold nmS
  rw [show nmP p u (k + 1) = nmP p u k ++ (if bitN p k then [regN k u] else []) from rfl, h]; simp
def stepOk (p : Nat) (u : Bool) (k : Nat) : Bool :=
  decide (txtL p u (k + 1) = if bitN p k then (if txtL p u k = [] then regNames.getD (regN k u) [] else txtL p u k ++ 44 :: regNames.getD (regN k u) []) else txtL p u k) && Nat.ble (txtL p u k).length 40
theorem step_fin : ((List.range 256).all fun p => (List.range 8).all fun k => stepOk p true k && stepOk p false k) = true := by decide +kernel
theorem step_txt (p : Nat) (hp : p < 256) (u : Bool) (k : Nat) (hk : k < 8) :
    txtL p u (k + 1) = (if bitN p k then (if txtL p u k = [] then regNames.getD (regN k u) [] else txtL p u k ++ 44 :: regNames.getD (regN k u) []) else txtL p u k) ∧ (txtL p u k).length ≤ 40 := by
  have h1 := allB2 256 _ step_fin p hp
  have h2 := allB2 8 _ h1 k hk
  rw [Bool.and_eq_true] at h2
  have h3 : stepOk p u k = true := by cases u
                                      · exact h2.2
                                      · exact h2.1
  unfold stepOk at h3
  rw [Bool.and_eq_true, decide_eq_true_eq] at h3
  exact ⟨h3.1, Nat.le_of_ble_eq_true h3.2⟩
def backOk (p : Nat) (u : Bool) : Bool := Nat.ble (txtL p u 8).length 40 && (if p = 0 then decide (txtL p u 8 = []) else !decide (txtL p u 8 = []) && decide (readF u ((txtL p u 8).length + 1) (txtL p u 8) 0 = ((p : Int), 0)))
theorem back_fin : ((List.range 256).all fun p => backOk p true && backOk p false) = true := by decide +kernel
theorem back_txt (p : Nat) (hp : p < 256) (u : Bool) : (txtL p u 8).length ≤ 40 ∧ (p = 0 → txtL p u 8 = []) ∧ (¬ p = 0 → ¬ txtL p u 8 = [] ∧ readF u ((txtL p u 8).length + 1) (txtL p u 8) 0 = ((p : Int), 0)) := by
  have h1 := allB2 256 _ back_fin p hp
  rw [Bool.and_eq_true] at h1
  have h3 : backOk p u = true := by cases u
                                    · exact h1.2
                                    · exact h1.1
  unfold backOk at h3
  rw [Bool.and_eq_true] at h3
  refine ⟨Nat.le_of_ble_eq_true h3.1, fun h => ?_, fun h => ?_⟩
  · have := h3.2
    rw [if_pos h] at this
    exact of_decide_eq_true this
  · have := h3.2
    rw [if_neg h, Bool.and_eq_true] at this
    exact ⟨by simpa using this.1, of_decide_eq_true this.2⟩
end Go.Proofs.YtfkcogccbeolfaaDoor
