/- Contracts of the document's own Tfr and Exg (spinetref16). -/
import Derived.Test.YtfkcogccbeolfaaFilT
import Derived.IntWalk
namespace Go.Proofs.Ytfkcogccbeolfaa
open Go.ChangeShapes Go.WideShapes Go.ChangeAt Go.RowKit
set_option linter.unusedVariables false

theorem below_row (w : World) (g B : Nat) (cs : Array Value) (hB : B ≤ g) : Below B w (w.setRow g cs) := ⟨rfl, rfl, rfl, by simp, fun k hk => setRow_other w g k cs (by omega)⟩
def zeroR : Rg := ⟨0, 0, 0, 0, 0, 0, 0, 0, 0⟩
theorem RgAt.frozens {w : World} {g : Nat} {t : TypeId} {r : Rg} (h : RgAt w g t r) :
    w.frozen? ⟨g, 0, none⟩ = false ∧ w.frozen? ⟨g, 1, none⟩ = false ∧ w.frozen? ⟨g, 2, none⟩ = false ∧ w.frozen? ⟨g, 3, none⟩ = false ∧ w.frozen? ⟨g, 4, none⟩ = false ∧ w.frozen? ⟨g, 5, none⟩ = false ∧ w.frozen? ⟨g, 6, none⟩ = false ∧ w.frozen? ⟨g, 7, none⟩ = false ∧ w.frozen? ⟨g, 8, none⟩ = false :=
  ⟨h.frozen _, h.frozen _, h.frozen _, h.frozen _, h.frozen _, h.frozen _, h.frozen _, h.frozen _, h.frozen _⟩
theorem RgAt.belowD {w w' : World} {g B : Nat} {t : TypeId} {r : Rg} (h : RgAt w g t r) (hb : Below B w.drew w') (hg : g < B) : RgAt w' g t r := RgAt.below (w := w.drew) h hb hg
theorem RgAt.new1 (w : World) (t : TypeId) (r : Rg) : RgAt (w.alloc (.cells r.cells t)) w.heap.size t r := Blk.new _ _ _ _
theorem RgAt.new2 (w : World) (o : Obj) (t : TypeId) (r : Rg) : RgAt ((w.alloc o).alloc (.cells r.cells t)) (w.heap.size + 1) t r := by
  have e : (w.alloc o).heap.size = w.heap.size + 1 := by simp
  have := Blk.new (w.alloc o) t r.cells (0, 0)
  rw [e] at this
  exact this
theorem refSet_eq (r s : Rg) (hr : r.Ok) (c v : Int) (h0 : 0 ≤ v) (h1 : v < 65536) (hs : Hid (setR r c v = s)) (w : World) :
    Calls Try.prog 9 #[.agg r.cells, .int .i64 c, .int .u16 v] w fun e w' => e = .returned (.agg s.cells) ∧ Below w.heap.size w w' := by
  have := refSet_any r hr c v h0 h1 w
  rw [hs.out] at this
  exact this.mono fun e w' h => ⟨h.1, h.2.below⟩
theorem refGet_below (r : Rg) (hr : r.Ok) (c : Int) (w : World) :
    Calls Try.prog 8 #[.agg r.cells, .int .i64 c] w fun e w' => e = .returned (.int .u16 (getR r c)) ∧ Below w.heap.size w w' :=
  (refGet_any r hr c w).mono fun e w' h => ⟨h.1, h.2.below⟩
theorem alive16 (w : World) : Calls Try.prog 10 #[] w fun e w' => e = .returned (.bool true) ∧ Below w.heap.size w w' := by
  obtain ⟨r, hr⟩ : ∃ r : Rg, r = ⟨1, 2, 0, 0, 0, 0, 0, 0, 0⟩ := ⟨_, rfl⟩
  have ok : r.Ok := by subst hr; constructor <;> decide
  have g1 : getR r 0 = 258 := by subst hr; decide
  have g2 : getR r 8 = 65281 := by subst hr; decide
  have HA := Lib.hid (show RgAt (w.alloc (.cells #[.int .u8 1, .int .u8 2, .int .u8 0, .int .u8 0, .int .u16 0, .int .u16 0, .int .u16 0, .int .u16 0, .int .u16 0] 27)) w.heap.size 27 r from by subst hr; exact RgAt.new1 w _ ⟨1, 2, 0, 0, 0, 0, 0, 0, 0⟩)
  clear hr
  go_enter Try.func10, Try.ntmps10
  go_wp2_with fail
  refine (get_any r ok 0 _ _ _ HA.out).mono ?_
  rw [g1]
  rintro e w1 ⟨rfl, n1, rfl⟩
  go_wp2_with fail
  refine (get_any r ok 8 _ _ _ (HA.out.drewN n1)).mono ?_
  rw [g2]
  rintro e w1 ⟨rfl, n2, rfl⟩
  go_wp2
  go_ret
  exact ⟨rfl, by repeat (first | exact Below.refl _ _ | apply Below.drewN0 | apply Below.alloc0)⟩
end Go.Proofs.Ytfkcogccbeolfaa
