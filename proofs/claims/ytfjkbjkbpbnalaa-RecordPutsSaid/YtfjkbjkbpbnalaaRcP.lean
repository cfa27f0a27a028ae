/- Records: contract of the law's own put; the number of a record's levels. -/
import Derived.Test.YtfjkbjkbpbnalaaRcT
namespace Go.Proofs.Ytfjkbjkbpbnalaa
open Go.ChangeShapes Go.WideShapes Go.ChangeAt Go.RowKit
set_option linter.unusedVariables false

abbrev eU : Els Int := ⟨fun b => [.int .u8 b], 1, fun _ => rfl, fun x u h => by simp only [List.mem_singleton] at h; subst h; rfl, by decide⟩
def lvB (x : Rc) (k : Nat) : Bool := if k = 0 then x.r else if k = 1 then x.b1 else if k = 2 then x.b2 else if k = 3 then x.b3 else if k = 4 then x.b4 else if k = 5 then x.b5 else x.m
def pwN (k : Nat) : Int := ([1, 2, 4, 8, 16, 32, 64, 128] : List Int).getD k 0
def smN (x : Rc) : Nat → Int
  | 0 => 0
  | k + 1 => smN x k + if lvB x k then pwN k else 0
theorem lt7 {k : Nat} (h : k < 7) : k = 0 ∨ k = 1 ∨ k = 2 ∨ k = 3 ∨ k = 4 ∨ k = 5 ∨ k = 6 := by omega
theorem pwN_next (k : Nat) (h : k < 7) : pwN (k + 1) = 2 * pwN k ∧ 0 < pwN k ∧ pwN k ≤ 64 := by
  rcases lt7 h with rfl | rfl | rfl | rfl | rfl | rfl | rfl <;> decide
theorem smN_bd (x : Rc) (k : Nat) (h : k ≤ 7) : 0 ≤ smN x k ∧ smN x k < pwN k := by
  induction k with
  | zero => exact ⟨Int.le_refl 0, show (0 : Int) < pwN 0 by decide⟩
  | succ k ih =>
    have := ih (by omega)
    obtain ⟨a, b, c⟩ := pwN_next k (by omega)
    simp only [smN]
    split <;> omega
/-- The bytes of a record. -/
def puN (x : Rc) : List Int := [x.a / 256, x.a % 256, x.d, smN x 7]
def GivesU (w : World) (l : List Int) (e : Ending) (w' : World) : Prop := ∃ v, e = .returned v ∧ eU.Rd w' v l ∧ Below w.heap.size w w'
set_option maxRecDepth 100000 in
set_option maxHeartbeats 1000000 in
theorem rcPut_any (x : Rc) (hx : x.Ok) (w : World) :
    Calls Try.prog 15 #[.agg x.cells] w (GivesU w (puN x)) := by
  obtain ⟨a0, a1, d0, d1⟩ := hx
  have P0 : Hid (Blk ((w.alloc (Obj.cells x.cells 37)).alloc (Obj.cells x.lv 83)) w.heap.size 37 x.cells) := Lib.hid (Blk.alloc (Blk.new _ _ _ (0, 0)) _)
  have L0 : Hid (Blk ((w.alloc (Obj.cells x.cells 37)).alloc (Obj.cells x.lv 83)) (w.heap.size + 1) 83 x.lv) := Lib.hid (Blk.at1 _)
  have B0 := Lib.hid (Below.alloc0 (Below.alloc0 (Below.refl w.heap.size w) (Obj.cells x.cells 37)) (Obj.cells x.lv 83))
  go_enter Try.func15, Try.ntmps15
  go_wp2
  go_loop [4, 5, 6] (fun n v i => ∃ k : Nat, k ≤ 7 ∧ i = .int .i64 k ∧ n = .int .i64 (smN x k) ∧ v = .int .i64 (pwN k)) (fun _ _ i => 7 - (intOf i).toNat)
  case atStart => exact ⟨0, by decide, rfl, rfl, rfl⟩
  case round =>
    obtain ⟨k, hk, rfl, rfl, rfl⟩ := hrel
    by_cases hlt : k < 7
    · have cb : ((w.alloc (Obj.cells x.cells 37)).alloc (Obj.cells x.lv 83)).cell? ⟨w.heap.size + 1, k, none⟩ = some (.bool (lvB x k)) := by
        rw [L0.out.cell]
        rcases lt7 hlt with rfl | rfl | rfl | rfl | rfl | rfl | rfl <;> rfl
      obtain ⟨b0, b1⟩ := smN_bd x k hk
      obtain ⟨e1, e2, e3⟩ := pwN_next k hlt
      have E1 := Lib.hid e1
      have hk0 : (0 : Int) ≤ k := by omega
      have hk7 : (k : Int) < 7 := by omega
      have SN := Lib.hid (show smN x (k + 1) = smN x k + if lvB x k then pwN k else 0 from rfl)
      have b2 : smN x k < 64 := by omega
      generalize smN x k = S at b0 b1 b2 SN ⊢
      generalize pwN k = V at e2 e3 E1 b1 SN ⊢
      generalize lvB x k = bt at cb SN
      clear e1 b1
      cases bt
      · go_wp2
        go_round
        case rel => exact ⟨k + 1, by omega, by go_num, by rw [SN.out]; simp, by rw [E1.out]⟩
        case measure => simp [intOf]; omega
      · go_wp2
        go_round
        case rel => exact ⟨k + 1, by omega, by go_num, by rw [SN.out]; simp, by rw [E1.out]⟩
        case measure => simp [intOf]; omega
    · obtain rfl : k = 7 := by omega
      obtain ⟨b0, b1⟩ := smN_bd x 7 hk
      obtain ⟨x0, x1, -⟩ := Blk.c9 P0.out
      have b2 : smN x 7 < 128 := b1
      have PU := Lib.hid (show puN x = [x.a / 256, x.a % 256, x.d, smN x 7] from rfl)
      generalize smN x 7 = S at b0 b2 PU ⊢
      clear b1
      have q1 : IntKind.u16.wrap (x.a.tdiv 256) = x.a / 256 := by
        rw [Int.tdiv_eq_ediv_of_nonneg (by omega)]
        simp only [IntKind.wrap, IntKind.bits, IntKind.signed]
        first | omega | (simp; omega)
      have q2 : x.a / 256 % 256 = x.a / 256 := by omega
      go_wp2
      go_ret
      exact ⟨_, rfl, by rw [PU.out]; exact Els.Rd.blk (E := eU) [x.a / 256, x.a % 256, x.d, S] #[.int .u8 (x.a / 256), .int .u8 (x.a % 256), .int .u8 x.d, .int .u8 S] (0, 0) (Blk.at2 _ _) 4 rfl rfl 4, Below.alloc0 B0.out _⟩
end Go.Proofs.Ytfjkbjkbpbnalaa
