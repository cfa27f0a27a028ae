/- Parts of a trace: the chapter's example; the parts read. -/
import Derived.Test.YtpleboogijgdcaaSlc
import Derived.Test.YtpleboogijgdcaaSld
namespace Go.Proofs.Ytpleboogijgdcaa
open Go.ChangeShapes Go.WideShapes Go.ChangeAt Go.RowKit
set_option linter.unusedVariables false

theorem cutOne {x : Rc} {xs : List (List Rc × Bool)} (h : CutOf [x] xs) (he : endP x = true) : xs = [([x], true)] := by
  have h0 := h.len
  have ha := h.all
  match xs, h0 with
  | [], _ => simp at ha
  | [y], _ =>
    simp only [List.flatMap_cons, List.flatMap_nil, List.append_nil] at ha
    obtain ⟨_, _, h3⟩ := h.each 0 y rfl
    have := h3 0 x (by rw [ha]; rfl)
    rw [he, ha] at this
    simp at this
    obtain ⟨y1, y2⟩ := y
    simp only at ha this
    subst ha; subst this; rfl
theorem cutNone {xs : List (List Rc × Bool)} (h : CutOf [] xs) : xs = [] := by
  have h0 := h.len
  match xs, h0 with
  | [], _ => rfl
abbrev xRc : Rc := ⟨5, 0, false, false, false, true, false, false, true⟩
set_option maxRecDepth 100000 in
set_option maxHeartbeats 600000 in
theorem alive48 (w : World) : Calls Try.prog 19 #[] w fun e w' => e = .returned (.bool true) ∧ Below w.heap.size w w' := by
  have HR : Hid (eR.Rd (w.alloc (.cells xRc.cells 26)) (.slice (some ⟨w.heap.size, 0, none⟩) 1 1) [xRc]) := Lib.hid (Els.Rd.lit w _ [xRc] _ 1 rfl rfl 1)
  have HB := Lib.hid (Below.alloc0 (Below.refl w.heap.size w) (.cells xRc.cells 26))
  have C1 := Lib.hid (slCut_any (some ⟨w.heap.size, 0, none⟩) 1 [xRc] _ HR.out (by decide) (by decide))
  have C2 := Lib.hid (fun u => slCut_any none 0 [] u (Els.Rd.nil_ _) (by decide) (by decide))
  go_enter Try.func19, Try.ntmps19
  go_wp2_with fail
  refine C1.out.mono ?_
  rintro e w1 ⟨v, ps, xs, rfl, hc, ho, hp, hb⟩
  obtain rfl := cutOne hc rfl
  obtain ⟨hp1, hp2⟩ := hp
  match ps, hp1 with
  | [p], _ =>
  obtain ⟨q1, q2, q3, _⟩ := hp2 0 p _ rfl rfl
  have q4 : p.n = 1 := q2
  rw [q4] at q3
  clear q2
  have Q4 := Lib.hid q4
  clear q4
  obtain ⟨A, c, hv, hcell⟩ := ho.rd.open_
  obtain ⟨g, off, rfl, hg, hce⟩ := hcell (by simp)
  change v = .slice (some ⟨g, off, none⟩) 1 c at hv
  subst hv
  have HB1 := Lib.hid (Below.trans0 HB.out hb)
  clear C1 hc ho hp2 hcell hb
  go_wp2_with fail
  refine (C2.out _).mono ?_
  rintro e w2 ⟨v, ps2, xs2, rfl, hc, ho, hp, hb⟩
  obtain rfl := cutNone hc
  obtain ⟨hp1, _⟩ := hp
  match ps2, hp1 with
  | [], _ =>
  obtain ⟨A2, c2, hv, _⟩ := ho.rd.open_
  change v = .slice A2 0 c2 at hv
  subst hv
  have d0 : w2.cell? ⟨g, off, none⟩ = some (.slice p.A 1 p.c) := by rw [hb.cell (p := ⟨g, off, none⟩) hg]; have := hce 0 p rfl 0 (.slice p.A p.n p.c) rfl; rw [Q4.out] at this; exact this
  have d1 : w2.cell? ⟨g, off + 1, none⟩ = some (.bool true) := by rw [hb.cell (p := ⟨g, off + 1, none⟩) hg]; have := hce 0 p rfl 1 (.bool p.e) rfl; rw [q1] at this; exact this
  have HB2 := Lib.hid (Below.trans0 HB1.out hb)
  have C3 := Lib.hid (slOwn_any (.slice p.A 1 p.c) true [xRc] w2 (q3.rd.below hb) (by decide))
  have eo : owN [xRc] = 1 := rfl
  rw [eo] at C3
  clear hc ho hb hce q1 q3 C2
  go_wp2_with fail
  refine C3.out.mono ?_
  rintro e w3 ⟨rfl, hb⟩
  go_wp2
  go_ret
  exact ⟨rfl, Below.trans0 HB2.out hb⟩
/-- An argument that is a row of records, its bound of capacity too. -/
def RIn (W : World) (A : Option Addr) (n c : Nat) (l : List Rc) : Prop := eR.In Rc.Ok W A n c l ∧ n ≤ c
theorem open_recsC {H : Type} {ee : TypeId × Value → H} {W : World} {base : Nat} {sp : Nat → Bool} {held : Bool} {fuel : Nat} {A : Option Addr} {n c : Nat} {x : DataW H × List MemPlace} (h : DataW.trod ee Try.prog W base sp held fuel 22 (Value.slice A n c).cells.toList = some x) :
    ∃ l, RIn W A n c l := by
  obtain ⟨l, hl⟩ := open_recs h
  refine ⟨l, hl, ?_⟩
  rcases Go.Deep.open_slice Try.underlying22 h with ⟨hcs, _⟩ | ⟨a, len, cap, m, k, D, Pl, hcs, hb, hl, hm, hmm, hx, hx2⟩
  · simp [Value.cells] at hcs
    obtain ⟨rfl, rfl, rfl⟩ := hcs
    omega
  · simp [Value.cells] at hcs
    obtain ⟨rfl, rfl, rfl⟩ := hcs
    exact hl
theorem flat_next (xs : List (List Rc × Bool)) (k : Nat) (x : List Rc × Bool) (h : xs[k]? = some x) : (xs.take (k + 1)).flatMap (·.1) = (xs.take k).flatMap (·.1) ++ x.1 := by
  rw [List.take_add_one, h, List.flatMap_append]; simp
theorem flat_len (xs : List (List Rc × Bool)) (k : Nat) : ((xs.take k).flatMap (·.1)).length ≤ (xs.flatMap (·.1)).length := by
  conv => rhs; rw [← List.take_append_drop k xs, List.flatMap_append, List.length_append]
  omega
theorem flat_mem {xs : List (List Rc × Bool)} {x : List Rc × Bool} (h : x ∈ xs) : ∀ r ∈ x.1, r ∈ xs.flatMap (·.1) := fun r hr => List.mem_flatMap.2 ⟨x, h, hr⟩
theorem flat_one {xs : List (List Rc × Bool)} {x : List Rc × Bool} (h : x ∈ xs) : x.1.length ≤ (xs.flatMap (·.1)).length := by
  induction xs with
  | nil => cases h
  | cons y ys ih =>
    rw [List.flatMap_cons, List.length_append]
    rcases List.mem_cons.1 h with rfl | h
    · omega
    · have := ih h; omega
end Go.Proofs.Ytpleboogijgdcaa
