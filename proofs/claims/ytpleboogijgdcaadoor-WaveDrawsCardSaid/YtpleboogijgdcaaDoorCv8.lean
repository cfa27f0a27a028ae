/- A text as bytes of the call's own. -/
import Derived.Test.YtpleboogijgdcaaDoorOwn
import Derived.Lib.ConvBytes
namespace Go.Proofs.YtpleboogijgdcaaDoor
open Go.ChangeShapes Go.WideShapes Go.ChangeAt Go.RowKit
set_option linter.unusedVariables false

theorem conv8 (w : World) (xs : List Int) (hx : ∀ x ∈ xs, 0 ≤ x ∧ x < 256) :
    ∃ c w2, (convert 9 42 (.string (strOfNums xs))).run Tryd.prog w = .ok (.slice (some ⟨w.heap.size, 0, none⟩) xs.length c) w2 ∧ Below w.heap.size w w2 ∧ w.heap.size < w2.heap.size ∧ ∀ i, i < xs.length → w2.cell? ⟨w.heap.size, i, none⟩ = some (.int .u8 (iat xs i)) := by
  have hs : (strOfNums xs).size = xs.length := by
    unfold strOfNums
    show (List.map _ xs).toArray.size = _
    simp
  refine ⟨_, _, by rw [← hs]; exact Lib.run_convert_string_bytes w _ _ _ (strOfNums xs) Tryd.underlying9 Tryd.underlying42 Tryd.underlying5, ?_, ?_, ?_⟩
  · exact ⟨rfl, rfl, rfl, by rw [Lib.bytesWorld_size]; omega, fun k hk => Lib.bytesWorld_at_old w _ _ k hk⟩
  · rw [Lib.bytesWorld_size]; omega
  · intro i hi
    have hb : Blk (Lib.bytesWorld w 5 (strOfNums xs)) w.heap.size 5 (Lib.bytesCells w 5 (strOfNums xs)) _ := Lib.bytesWorld_at_new w _ _
    rw [hb.cell]
    unfold Lib.bytesCells
    rw [Array.getElem?_append_left (by rw [Array.size_map]; show i < (strOfNums xs).size; omega)]
    have := get_nums (strOfNums xs) i (by omega)
    rw [str_nums xs hx] at this
    rw [Array.getElem?_map, Array.getElem?_eq_getElem (show i < (strOfNums xs).data.size from by show i < (strOfNums xs).size; omega)]
    simp only [Option.map_some]
    rw [← this]; rfl
end Go.Proofs.YtpleboogijgdcaaDoor
