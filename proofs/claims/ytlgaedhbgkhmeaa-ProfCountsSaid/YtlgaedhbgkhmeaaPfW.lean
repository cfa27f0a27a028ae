/- Package prof: Top. -/
import Derived.Test.YtlgaedhbgkhmeaaPfV
import Derived.Test.YtlgaedhbgkhmeaaPfB
import Derived.Test.YtlgaedhbgkhmeaaOwK
import Derived.Test.YtlgaedhbgkhmeaaShelf
namespace Go.Proofs.Ytlgaedhbgkhmeaa
open Go.ChangeShapes Go.WideShapes Go.ChangeAt Go.RowKit
open Go.Sort (HoldsK SWO PermIn SortedIn grow)
set_option linter.unusedVariables false
instance : Inhabited SpN := ⟨z4⟩
def cfN (x y : SpN) : Int := orN (cmpN y.c x.c) (cmpN x.a y.a)
theorem ltOf_cfN (x y : SpN) : ltOf cfN x y = befN x y := by
  unfold ltOf cfN
  rw [Bool.eq_iff_iff, decide_eq_true_iff]
  exact ordN_lt x y
theorem swoN : SWO (ltOf cfN) where
  irrefl := fun x => by rw [ltOf_cfN, Bool.eq_false_iff]; intro h; rw [befN_iff] at h; omega
  trans := fun x y z h1 h2 => by rw [ltOf_cfN] at *; exact befN_trans h1 h2
  ntrans := fun x y z h1 h2 => by
    rw [ltOf_cfN, Bool.eq_false_iff] at *
    intro h; rw [Ne, befN_iff] at h1 h2; rw [befN_iff] at h; omega
theorem ordN_of {d : Array SpN} (h : SortedIn (ltOf cfN) 0 d.size d) (hd : DisN d.toList) : OrdN d.toList := by
  unfold OrdN
  rw [List.pairwise_iff_getElem]
  intro i j hi hj hij
  have hd' := List.pairwise_iff_getElem.1 hd i j hi hj hij
  rw [Array.length_toList] at hi hj
  have := h i j (Nat.zero_le _) hij hj
  rw [ltOf_cfN, getElem!_pos d j hj, getElem!_pos d i hi] at this
  rw [Array.getElem_toList, Array.getElem_toList] at *
  rcases befN_total hd' with e | e
  · exact e
  · rw [e] at this; cases this
theorem DisN.perm {l m : List SpN} (h : DisN l) (hp : m.Perm l) : DisN m := (hp.pairwise_iff (fun {x y} hxy e => hxy e.symm)).2 h
theorem cmpLaysSp (blk off size : Nat) (w : World) : CmpLays Try.prog 21 #[] eSp.enc 4 cfN blk off size w := fun m os dk hs x y => by
  obtain ⟨a, t, c, l⟩ := x
  obtain ⟨b, u, d, q⟩ := y
  refine (spotOrder_any a t c l b u d q _).mono ?_
  rintro e w' ⟨rfl, _, h⟩
  exact ⟨rfl, h⟩
set_option maxRecDepth 100000 in
theorem sortSp_any (v : Value) (l : List SpN) (base : Nat) (w : World) (h : eSp.Own 35 w base v l) (hn : l.length ≤ 100000) (hd : DisN l) :
    Calls Try.prog 20 #[v, .func (.func 21) #[] #[]] w fun e w' => e = .returned (.tuple #[]) ∧ ∃ top : List SpN, top.Perm l ∧ OrdN top ∧ eSp.Own 35 w' base v top ∧ w.grownBy w' v.ownBlock := by
  have h0 := h
  obtain ⟨hl, h2⟩ := h
  rcases h2 with ⟨rfl, hn0⟩ | ⟨g, cap, cur, rfl, h3, h4, h5, h6, h7, h8⟩
  · obtain rfl : l = [] := List.eq_nil_of_length_eq_zero hn0
    refine (Try.slices_SortFunc_none (α := SpN) none 0 _ w).mono ?_
    rintro e w' ⟨rfl, rfl⟩
    exact ⟨rfl, [], List.Perm.refl _, List.Pairwise.nil, h0, ⟨rfl, rfl, rfl, Nat.le_refl _, fun _ _ _ => rfl⟩⟩
  · have hlt : g < w.heap.size := (Array.getElem?_eq_some_iff.1 h4).1
    have hc := Try.slices_SortFunc (α := SpN) 4 (fun w => by kernel_rfl) (fun w => by kernel_rfl) eSp.enc eSp.len eSp.one cfN swoN 21 #[] g 0 cap l.toArray w (fun args w => by kernel_rfl) (cmpLaysSp g 0 _ w) (holdsK_own eSp h0) hlt (by simp; omega)
    rw [List.size_toArray] at hc
    refine hc.mono ?_
    rintro e w' ⟨rfl, d', n, os, hp, hs, rfl⟩
    obtain ⟨hp1, _, hp3⟩ := hp
    have hsz : d'.size = l.length := by simpa using hp1
    have hperm : d'.toList.Perm l := by
      have e1 : (d'.extract 0 l.length).toList = d'.toList := by rw [← hsz]; simp
      have e2 : (l.toArray.extract 0 l.length).toList = l := by simp
      rw [e1, e2] at hp3
      exact hp3
    rw [← hsz] at hs
    have ho := own_sortedK eSp (n := n) (os := os) (m := d'.toList) h0 (by rw [Array.length_toList]; exact hsz)
    have ho' : eSp.Own 35 (sortWorldK eSp.enc eSp.k w g 0 n d' os) base (.slice (some ⟨g, 0, none⟩) l.length cap) d'.toList := ho
    exact ⟨rfl, d'.toList, hperm, ordN_of hs (hd.perm hperm), ho', grownBy_sortedK eSp d'⟩
end Go.Proofs.Ytlgaedhbgkhmeaa
