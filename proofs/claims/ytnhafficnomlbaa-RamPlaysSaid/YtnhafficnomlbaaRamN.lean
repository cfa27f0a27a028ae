/- Memory of package ram: New, Copy, Same. -/
import Derived.Test.YtnhafficnomlbaaRamU
namespace Go.Proofs.Ytnhafficnomlbaa
open Go.ChangeShapes Go.WideShapes Go.ChangeAt Go.RowKit
set_option linter.unusedVariables false

/-- Memory made anew: its blocks are new. -/
def NewPost (w : World) (rom : Int) (f : Nat → Int) (e : Ending) (w' : World) : Prop :=
  ∃ m p, e = .returned (.tuple #[.pointer (some ⟨m, 0, none⟩), .int .i64 0]) ∧ Ra w' m p rom f ∧ Below w.heap.size w w' ∧ ∀ b, RS m p b → w.heap.size ≤ b
theorem raNew_arg (A : Option Addr) (n c : Nat) (rom : Int) (w : World) (hr : rom < 0 ∨ 65536 < rom) :
    Calls Try.prog 22 #[.slice A n c, .int .i64 rom] w fun e w' => e = .returned (.tuple #[.pointer none, .int .i64 10]) ∧ w = w' := by
  by_cases h0 : rom < 0
  · have d0 := decide_eq_true h0
    go_enter Try.func22, Try.ntmps22
    go_wp2
    go_ret2
    exact ⟨rfl, rfl⟩
  · have h1 : 65536 < rom := by omega
    have d0 := decide_eq_false h0
    have d1 := decide_eq_true h1
    go_enter Try.func22, Try.ntmps22
    go_wp2
    go_ret2
    exact ⟨rfl, rfl⟩
def pNo : Nat → Option Nat := fun _ => none
theorem ra_new (w : World) (rom : Int) : Ra (w.alloc (.cells (raCs pNo rom) 71)) w.heap.size pNo rom (fun _ => 0) :=
  ⟨Blk.new w _ _ _, fun _ _ _ _ _ => rfl, fun i g hi hg => (by cases hg), fun i j g hi hj hg => (by cases hg), fun _ => ⟨Int.le_refl _, by omega⟩⟩
set_option maxRecDepth 100000 in
set_option maxHeartbeats 2000000 in
theorem raNew_size (A : Option Addr) (n c : Nat) (rom : Int) (w : World) (hr : 0 ≤ rom ∧ rom ≤ 65536) (hn : n ≤ 9223372036854775807) (hb : 65536 < n) :
    Calls Try.prog 22 #[.slice A n c, .int .i64 rom] w fun e w' => e = .returned (.tuple #[.pointer none, .int .i64 12]) ∧ Below w.heap.size w w' := by
  have h0 : ¬ rom < 0 := by omega
  have h1 : ¬ 65536 < rom := by omega
  have d0 := decide_eq_false h0
  have d1 := decide_eq_false h1
  have W1 := Lib.hid (Below.alloc0 (Below.refl w.heap.size w) (.cells (raCs pNo rom) 71))
  have HL := Lib.hid (fun u => raLoad_no w.heap.size 0 A n c u (by omega) hn (by omega))
  go_enter Try.func22, Try.ntmps22
  go_upto_region 3 with (fail)
  refine wp_region_lit ?_
  refine Great.wpList_readTo rfl (some 13) rfl (.int .i64 rom) (by rfl) ?_
  refine Great.wpList_readTo rfl (some 14) rfl (.agg (raCs pNo rom)) (by kernel_rfl) ?_
  refine Great.wpList_allocTo rfl (some 15) rfl (.pointer (some ⟨w.heap.size, 0, none⟩)) (.cells (raCs pNo rom) 71) (by kernel_rfl) ?_
  generalize w.alloc (.cells (raCs pNo rom) 71) = w1 at W1 ⊢
  obtain ⟨g, hg⟩ : ∃ g, w.heap.size = g := ⟨_, rfl⟩
  rw [hg] at HL ⊢
  clear hr hn hb hg
  go_wp2_with fail
  refine (HL.out _).mono ?_
  rintro e w' ⟨rfl, rfl⟩
  go_wp2
  go_ret2
  exact ⟨rfl, W1.out⟩
set_option maxRecDepth 100000 in
set_option maxHeartbeats 2000000 in
theorem raNew_any (v : Value) (xs : List Int) (rom : Int) (w : World) (hv : eY.Rd w v xs) (hx : Byt xs) (hr : 0 ≤ rom ∧ rom ≤ 65536) (hn : xs.length ≤ 65536) :
    Calls Try.prog 22 #[v, .int .i64 rom] w (NewPost w rom (ldF (fun _ => 0) 0 xs xs.length)) := by
  have h0 : ¬ rom < 0 := by omega
  have h1 : ¬ 65536 < rom := by omega
  have d0 := decide_eq_false h0
  have d1 := decide_eq_false h1
  have R1 := ra_new w rom
  have V1 := Els.Rd.alloc hv (.cells (raCs pNo rom) 71)
  have HOF : OffR w.heap.size pNo v := by
    obtain ⟨A, c, rfl, h2⟩ := rdY_open hv
    intro b o n c' e hn' hb
    obtain ⟨rfl, rfl, rfl⟩ := Value.slice.inj e
    obtain ⟨g, off, e2, hlt, _⟩ := h2 hn'
    obtain ⟨rfl, _, _⟩ := Addr.mk.inj (Option.some.inj e2)
    rcases hb with hb | ⟨i, hi, hb⟩
    · omega
    · cases hb
  have HL := Lib.hid (raLoad_ok w.heap.size pNo rom (fun _ => 0) 0 v xs _ R1 V1 hx HOF (by omega))
  have W1 := Lib.hid (Below.alloc0 (Below.refl w.heap.size w) (.cells (raCs pNo rom) 71))
  clear R1 V1 HOF hv
  go_enter Try.func22, Try.ntmps22
  go_upto_region 3 with (fail)
  refine wp_region_lit ?_
  refine Great.wpList_readTo rfl (some 13) rfl (.int .i64 rom) (by rfl) ?_
  refine Great.wpList_readTo rfl (some 14) rfl (.agg (raCs pNo rom)) (by kernel_rfl) ?_
  refine Great.wpList_allocTo rfl (some 15) rfl (.pointer (some ⟨w.heap.size, 0, none⟩)) (.cells (raCs pNo rom) 71) (by kernel_rfl) ?_
  have HS : Hid (w.heap.size + 1 = (w.alloc (.cells (raCs pNo rom) 71)).heap.size) := Lib.hid (by simp)
  generalize w.alloc (.cells (raCs pNo rom) 71) = w1 at W1 HL HS ⊢
  clear hr hn
  go_wp2_with fail
  refine HL.out.mono ?_
  rintro e w' ⟨rfl, p', hra, hst⟩
  have HRA := Lib.hid hra
  have HST := Lib.hid hst
  clear hra hst HL
  go_wp2
  go_ret2
  refine ⟨_, p', rfl, HRA.out, ?_, fun b hb => ?_⟩
  · refine W1.out.trans ⟨HST.out.os, HST.out.tape, HST.out.output, HST.out.size, fun k hk => HST.out.block k (by have := HS.out; omega) (fun e => ?_)⟩
    rcases e with e | ⟨i, hi, e⟩
    · omega
    · cases e
  · rcases HST.out.own b hb with e | e
    · rcases e with e | ⟨i, hi, e⟩
      · omega
      · cases e
    · have := HS.out; omega
end Go.Proofs.Ytnhafficnomlbaa
