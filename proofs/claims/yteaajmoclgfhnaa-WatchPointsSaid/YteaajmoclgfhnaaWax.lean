/- Points at addresses: contracts of Drop, Add, All. -/
import Derived.Test.YteaajmoclgfhnaaWaw
import Derived.Deep.RegionHeld3
namespace Go.Proofs.Yteaajmoclgfhnaa
open Go.ChangeShapes Go.WideShapes Go.ChangeAt Go.RowKit
set_option linter.unusedVariables false

/-- Block g is points that read so, in a row of their own behind it, and the last number. -/
def WAt (w : World) (g : Nat) (v : Value) (P : List Pt) (la : Int) : Prop := Blk w g 49 #[v, .int .i64 la] ∧ eP.Own 88 w (g + 1) v P
/-- All blocks stand but g and the row's. -/
structure Kp (g : Nat) (v : Value) (w w' : World) : Prop where
  os : w'.os = w.os
  tape : w'.tape = w.tape
  output : w'.output = w.output
  size : w.heap.size ≤ w'.heap.size
  block : ∀ b, b < w.heap.size → b ≠ g → v.ownBlock ≠ some b → w'.heap[b]? = w.heap[b]?
theorem Kp.below0 {g : Nat} {v : Value} {w w' : World} (h : Below w.heap.size w w') : Kp g v w w' := ⟨h.os, h.tape, h.output, h.size, fun b hb _ _ => h.block b hb⟩
theorem Kp.below {g B : Nat} {v : Value} {w0 w w' : World} (h : Kp g v w w') (hb : Below B w0 w) (hg : B ≤ g) (hv : ∀ b, v.ownBlock = some b → B ≤ b) (hs : B ≤ w.heap.size) : Below B w0 w' :=
  ⟨h.os.trans hb.os, h.tape.trans hb.tape, h.output.trans hb.output, Nat.le_trans hb.size h.size, fun b hlt => (h.block b (by omega) (by omega) (fun e => by have := hv b e; omega)).trans (hb.block b hlt)⟩
theorem Kp.own {α : Type} {E : Els α} {t : TypeId} {g base : Nat} {v x : Value} {l : List α} {w w' : World} (h : Kp g v w w') (ho : E.Own t w base x l) (hx : ∀ b, x.ownBlock = some b → b ≠ g ∧ v.ownBlock ≠ some b) : E.Own t w' base x l := by
  have hlt := ho.lt
  obtain ⟨hl, h2⟩ := ho
  refine ⟨hl, ?_⟩
  rcases h2 with h2 | ⟨b, cap, cur, rfl, h3, h4, h5⟩
  · exact .inl h2
  · exact .inr ⟨b, cap, cur, rfl, h3, (h.block b (hlt b rfl).2 (hx b rfl).1 (hx b rfl).2).trans h4, h5⟩
theorem WAt.lt {w : World} {g : Nat} {v : Value} {P : List Pt} {la : Int} (h : WAt w g v P la) : g < w.heap.size := h.1.lt
theorem WAt.below {w w' : World} {g : Nat} {v : Value} {P : List Pt} {la : Int} (h : WAt w g v P la) (hb : Below w.heap.size w w') : WAt w' g v P la := ⟨Blk.below h.1 hb h.1.lt, Els.Own.below h.2 hb⟩
theorem WAt.grown {w w' : World} {g : Nat} {v : Value} {P : List Pt} {la : Int} {row : Option Nat} (h : WAt w g v P la) (hg : w.grownBy w' row) (h1 : row ≠ some g) (h2 : v.ownBlock = none ∨ v.ownBlock ≠ row) : WAt w' g v P la := ⟨Blk.grown h.1 hg (fun e => h1 e.symm), Els.Own.grown h.2 hg h2⟩
set_option maxRecDepth 100000 in
theorem delF_nil (gi : Nat) (id : Int) (w : World) (hc0 : w.cell? ⟨gi, 0, none⟩ = some (.int .i64 id)) :
    Calls Try.prog 58 #[.slice none 0 0, .func (.func 59) #[] #[.pointer (some ⟨gi, 0, none⟩)]] w fun e w' => e = .returned (.slice none 0 0) ∧ Below w.heap.size w w' := by
  have CI := Lib.hid (idxF_any _ [] gi id w (Els.Rd.nil_ w) (by simp) hc0)
  clear hc0
  go_enter Try.func58, Try.ntmps58
  go_wp2_with fail
  refine CI.out.mono ?_
  rintro e w1 ⟨j0, hb, ⟨rfl, hj0, hj1, hj2⟩ | ⟨rfl, hj⟩⟩
  · simp at hj0
  · have HB1 := Lib.hid hb
    clear hb hj CI
    go_wp2
    go_ret
    exact ⟨rfl, HB1.out⟩
set_option maxRecDepth 100000 in
set_option maxHeartbeats 4000000 in
theorem drop_any (g : Nat) (v : Value) (P : List Pt) (la id : Int) (w : World) (h : WAt w g v P la) (hn : P.length ≤ 1000) :
    Calls Try.prog 42 #[.pointer (some ⟨g, 0, none⟩), .int .i64 id] w fun e w' => ∃ v', e = .returned (.bool (decide ((stay id P).length < P.length))) ∧ WAt w' g v' (stay id P) la ∧ Kp g v w w' ∧ v'.ownBlock = v.ownBlock := by
  obtain ⟨hb, ho⟩ := h
  have hgs := hb.lt
  have HB := Lib.hid (Blk.alloc hb (Obj.cells #[.int .i64 id] 3))
  have HW := Lib.hid (Below.alloc0 (Below.refl w.heap.size w) (Obj.cells #[.int .i64 id] 3))
  have hc0 : (w.alloc (Obj.cells #[.int .i64 id] 3)).cell? ⟨w.heap.size, 0, none⟩ = some (.int .i64 id) := by rw [(Blk.new w 3 #[.int .i64 id] (0, 0)).cell]; rfl
  have hlt := ho.lt
  obtain ⟨hl, ⟨rfl, hn0⟩ | ⟨b, cap, cur, rfl, h3, h4, h5, h6, h7, h8⟩⟩ := ho
  · have hP : P = [] := List.eq_nil_of_length_eq_zero hn0
    subst hP
    have CD := Lib.hid (delF_nil w.heap.size id _ hc0)
    obtain ⟨b0, b1⟩ := Blk.c2 HB.out
    clear hc0 hb hl hn0 hlt
    go_enter Try.func42, Try.ntmps42
    go_wp2_with fail
    clear b0 b1
    refine CD.out.mono ?_
    rintro e w2 ⟨rfl, hb⟩
    have HB2 := Lib.hid (Below.trans0 HW.out hb)
    have HK2 := Lib.hid (Blk.below HB.out hb HB.out.lt)
    obtain ⟨⟨b0, b1⟩, f0, f1⟩ := Blk.b2 HK2.out
    clear hb CD
    go_wp2
    go_ret
    refine ⟨.slice none 0 0, rfl, ⟨Blk.set_ HK2.out 0 (.slice none 0 0), Els.Own.nil_ _ _⟩, ?_, rfl⟩
    exact ⟨HB2.out.os, HB2.out.tape, HB2.out.output, by simpa using HB2.out.size, fun q hq hne _ => (Below.heap_setCell _ _ _ _ (by exact hne)).trans (HB2.out.block q hq)⟩
  · have hbs : b < w.heap.size := (hlt b rfl).2
    have hgb : g ≠ b := by omega
    have H4 : Blk w b 88 cur := h4
    have CD := Lib.hid (delF_any b P.length cap P w.heap.size id _ cur (Blk.alloc H4 _) rfl hn h5 h6 h7 h8 (by omega) hc0)
    obtain ⟨b0, b1⟩ := Blk.c2 HB.out
    have HL5 := Lib.hid (Nat.le_trans (stay_len id P) h5)
    have H6 := Lib.hid h6
    clear hc0 hb hl hlt h4 h7 h8 H4 h6 h5
    obtain ⟨n, hPn⟩ : ∃ n, P.length = n := ⟨_, rfl⟩
    rw [hPn] at CD hn b0 ⊢
    have HPn := Lib.hid hPn
    clear hPn
    obtain ⟨m, hm⟩ : ∃ m, (stay id P).length = m := ⟨_, rfl⟩
    rw [hm] at CD HL5 ⊢
    have HM := Lib.hid hm
    clear hm
    go_enter Try.func42, Try.ntmps42
    go_wp2_with fail
    clear b0 b1
    refine CD.out.mono ?_
    rintro e w2 ⟨rfl, ⟨cur', d1, d2, d3⟩, hg⟩
    have HG := Lib.hid (World.grownBy.trans (grown_below HW.out b) hg)
    have HK2 := Lib.hid (Blk.grown HB.out hg (by intro e; injection e with e; exact hgb e))
    have HD := Lib.hid d1
    have HD2 := Lib.hid d2
    have HD3 := Lib.hid d3
    obtain ⟨⟨b0, b1⟩, f0, f1⟩ := Blk.b2 HK2.out
    clear hg CD d1 d2 d3
    go_wp2
    go_ret
    refine ⟨.slice (some ⟨b, 0, none⟩) m cap, by simp, ⟨Blk.set_ HK2.out 0 (.slice (some ⟨b, 0, none⟩) m cap), ?_⟩, ?_, rfl⟩
    · refine ⟨by rw [Els.cells_len eP], .inr ⟨b, cap, cur', by rw [HM.out], h3, (Blk.far HD.out (by exact fun e => hgb e.symm) _), by rw [HM.out]; exact HL5.out, H6.out, HD2.out, by rw [HM.out]; exact HD3.out⟩⟩
    · exact ⟨HG.out.os, HG.out.tape, HG.out.output, by simpa using HG.out.size, fun q hq hne hv => (Below.heap_setCell _ _ _ _ (by exact hne)).trans (HG.out.block q hq (fun e => hv (by rw [e]; rfl)))⟩
set_option maxRecDepth 100000 in
theorem all_any (g : Nat) (v : Value) (P : List Pt) (la : Int) (w : World) (h : WAt w g v P la) (hn : P.length ≤ 1000) :
    Calls Try.prog 45 #[.pointer (some ⟨g, 0, none⟩)] w fun e w' => ∃ v', e = .returned v' ∧ eP.Own 88 w' w.heap.size v' P ∧ Below w.heap.size w w' := by
  have CC := Lib.hid (cloneP v P w h.2.rd (by omega))
  obtain ⟨A, c, rfl, -⟩ := Els.Rd.open_ h.2.rd
  obtain ⟨b0, b1⟩ := Blk.c2 h.1
  clear h
  go_enter Try.func45, Try.ntmps45
  go_wp2_with fail
  refine CC.out.mono ?_
  rintro e w2 ⟨v2, rfl, ho, hb⟩
  have HO := Lib.hid ho
  have HB2 := Lib.hid hb
  clear ho hb
  go_wp2
  go_ret
  exact ⟨_, rfl, HO.out, HB2.out⟩
end Go.Proofs.Yteaajmoclgfhnaa
