/- Contracts: pins.One, the document's One and count. -/
import Derived.Test.YtnmgjgeniaheoaaDoorPnC
import Derived.Deep.RegionHeld3
import Derived.Deep.CutBlock
namespace Go.Proofs.YtnmgjgeniaheoaaDoor
open Go.ChangeShapes Go.WideShapes Go.ChangeAt Go.RowKit
set_option linter.unusedVariables false

theorem Blk.set6 {w : World} {g : Nat} {t : TypeId} {v0 v1 v2 v3 v4 v5 x0 x1 x2 x3 x4 x5 : Value} (h : Blk w g t #[v0, v1, v2, v3, v4, v5]) :
    Blk ((((((w.setCell ⟨g, 0, none⟩ x0).setCell ⟨g, 1, none⟩ x1).setCell ⟨g, 2, none⟩ x2).setCell ⟨g, 3, none⟩ x3).setCell ⟨g, 4, none⟩ x4).setCell ⟨g, 5, none⟩ x5) g t #[x0, x1, x2, x3, x4, x5] := by
  have h0 := Blk.set_ h 0 x0
  simp only [List.setIfInBounds_toArray, List.set_cons_zero] at h0
  have h1 := Blk.set_ h0 1 x1
  simp only [List.setIfInBounds_toArray, List.set_cons_zero, List.set_cons_succ] at h1
  have h2 := Blk.set_ h1 2 x2
  simp only [List.setIfInBounds_toArray, List.set_cons_zero, List.set_cons_succ] at h2
  have h3 := Blk.set_ h2 3 x3
  simp only [List.setIfInBounds_toArray, List.set_cons_zero, List.set_cons_succ] at h3
  have h4 := Blk.set_ h3 4 x4
  simp only [List.setIfInBounds_toArray, List.set_cons_zero, List.set_cons_succ] at h4
  have h5 := Blk.set_ h4 5 x5
  simp only [List.setIfInBounds_toArray, List.set_cons_zero, List.set_cons_succ] at h5
  exact h5
theorem Below.set6 {B : Nat} {w0 w : World} (h : Below B w0 w) {g : Nat} (hB : B ≤ g) (x0 x1 x2 x3 x4 x5 : Value) :
    Below B w0 ((((((w.setCell ⟨g, 0, none⟩ x0).setCell ⟨g, 1, none⟩ x1).setCell ⟨g, 2, none⟩ x2).setCell ⟨g, 3, none⟩ x3).setCell ⟨g, 4, none⟩ x4).setCell ⟨g, 5, none⟩ x5) :=
  Below.set0 (Below.set0 (Below.set0 (Below.set0 (Below.set0 (Below.set0 h hB x0) hB x1) hB x2) hB x3) hB x4) hB x5
theorem Blk.fr6 {w : World} {g : Nat} {t : TypeId} {cs : Array Value} (h : Blk w g t cs) : w.frozen? ⟨g, 0, none⟩ = false ∧ w.frozen? ⟨g, 1, none⟩ = false ∧ w.frozen? ⟨g, 2, none⟩ = false ∧ w.frozen? ⟨g, 3, none⟩ = false ∧ w.frozen? ⟨g, 4, none⟩ = false ∧ w.frozen? ⟨g, 5, none⟩ = false :=
  ⟨h.frozen _, h.frozen _, h.frozen _, h.frozen _, h.frozen _, h.frozen _⟩
abbrev zPn : Pn := ⟨false, false, false, false, false, false⟩
/-- What One answers. -/
abbrev onP (s : ByteArray) : Pn := (oneP s).getD zPn
abbrev onB (s : ByteArray) : Bool := (oneP s).isSome
def lt8 (k : Nat) : UInt8 := match k with | 0 => 82 | 1 => 78 | 2 => 70 | 3 => 73 | 4 => 72 | _ => 81
theorem lt8_str (k : Nat) (h : k < 6) : strOfNums [ltr k] = ⟨#[lt8 k]⟩ := by
  rcases (show k = 0 ∨ k = 1 ∨ k = 2 ∨ k = 3 ∨ k = 4 ∨ k = 5 by omega) with rfl | rfl | rfl | rfl | rfl | rfl <;> rfl
theorem retOne {x y : Pn} {a b : Bool} (h : x = y) (h2 : a = b) : Ending.returned (.tuple #[.agg x.cells, .bool a]) = .returned (.tuple #[.agg y.cells, .bool b]) := by rw [h, h2]
theorem res5 (tmps : Array Value) (W : World) (g : Nat) (cs : Array Value) (h : Blk W g 24 cs) (hc : cs.size = 6) (h2 : tmps.getD 2 undef = .pointer (some ⟨g, 0, none⟩)) (b : Bool) (h3 : tmps.getD 3 undef = .bool b) :
    (results Tryd.f5 tmps).run Tryd.prog W = .ok (.tuple #[.agg cs, .bool b]) W := by
  have hi : (Tryd.prog.info? 24).map (·.size) = some cs.size := by rw [hc]; kernel_rfl
  have hld := run_loadVar_row (P := Tryd.prog) W g 24 24 cs (0, 0) _ h Tryd.underlying24 rfl hi
  have h2' : tmps[2]?.getD undef = .pointer (some ⟨g, 0, none⟩) := by simpa using h2
  have h3' : tmps[3]?.getD undef = .bool b := by simpa using h3
  simp [results, Tryd.results5, h2', h3', asAddr, hld]
theorem res14 (tmps : Array Value) (W : World) (g : Nat) (cs : Array Value) (h : Blk W g 24 cs) (hc : cs.size = 6) (h2 : tmps.getD 2 undef = .pointer (some ⟨g, 0, none⟩)) (b : Bool) (h3 : tmps.getD 3 undef = .bool b) :
    (results Tryd.f14 tmps).run Tryd.prog W = .ok (.tuple #[.agg cs, .bool b]) W := by
  have hi : (Tryd.prog.info? 24).map (·.size) = some cs.size := by rw [hc]; kernel_rfl
  have hld := run_loadVar_row (P := Tryd.prog) W g 24 24 cs (0, 0) _ h Tryd.underlying24 rfl hi
  have h2' : tmps[2]?.getD undef = .pointer (some ⟨g, 0, none⟩) := by simpa using h2
  have h3' : tmps[3]?.getD undef = .bool b := by simpa using h3
  simp [results, Tryd.results14, h2', h3', asAddr, hld]
set_option maxRecDepth 100000 in
set_option maxHeartbeats 2000000 in
theorem has_any (s : ByteArray) (b k : Nat) (hk : k < 6) (ki : Int) (hki : ki = (k : Int)) (u : World) (h : Blk u b 9 #[.string s]) :
    Calls Tryd.prog 15 #[.int .i64 ki, .pointer (some ⟨b, 0, none⟩)] u fun e w' => e = .returned (.bool (hasB s (lt8 k))) ∧ ∃ n, w' = u.drewN n := by
  subst hki
  have q : u.cell? ⟨b, 0, none⟩ = some (.string s) := (h.cell 0).trans rfl
  have sl : ∀ u : World, (Instr.slice 9 (.string ⟨#[82, 78, 70, 73, 72, 81]⟩) (some (.int .i64 (k : Int))) (some (.int .i64 ((k : Int) + 1))) none).run Tryd.prog u = .ok (.string ⟨#[lt8 k]⟩) u := fun u => by rw [← lt8_str k hk]; exact ltr_cut k hk u
  have k0 : (0 : Int) ≤ k := by omega
  have k1 : (k : Int) < 6 := by omega
  have t1 : IntKind.i64.wrap ((k : Int) + 1) = (k : Int) + 1 := IntWalk.i64_in _ (by omega)
  have CC := Lib.hid (fun u => Tryd.strings_Contains_one s (lt8 k) u)
  go_enter Tryd.func15, Tryd.ntmps15
  go_wp2
  go_quiet ((go_at_call 16; exact Calls.quiet_of ((CC.out _).mono (fun e w' h => ⟨h.1, 0, h.2⟩))))
  go_wp2
  go_ret
  exact ⟨rfl, _, rfl⟩
set_option maxRecDepth 100000 in
set_option maxHeartbeats 8000000 in
theorem one_any (s : ByteArray) (w : World) : Calls Tryd.prog 5 #[.string s] w fun e w' => e = .returned (.tuple #[.agg (onP s).cells, .bool (onB s)]) ∧ Below w.heap.size w w' := by
  obtain ⟨n, hn⟩ : ∃ n, w.heap.size = n := ⟨_, rfl⟩
  obtain ⟨V, hV⟩ : ∃ V, (w.alloc (.cells #[.string s] 9)).alloc (.cells zPn.cells 24) = V := ⟨_, rfl⟩
  have K0 : Hid (Blk V n 9 #[.string s]) := Lib.hid (by rw [← hV, ← hn]; exact (Blk.new _ _ _ _).alloc _)
  have Z0 : Hid (Blk V (n + 1) 24 zPn.cells) := Lib.hid (by rw [← hV, ← hn]; exact Blk.at1 _)
  have B0 : Hid (Below n w V) := Lib.hid (by rw [← hV, ← hn]; exact Below.alloc0 (Below.alloc0 (Below.refl _ _) _) _)
  have S0 : Hid (V.heap.size = n + 2) := Lib.hid (by rw [← hV]; simp [hn])
  have C0 := Lib.hid (fun u h => has_any s n 0 (by omega) 0 rfl u h)
  have C1 := Lib.hid (fun u h => has_any s n 1 (by omega) 1 rfl u h)
  have C2 := Lib.hid (fun u h => has_any s n 2 (by omega) 2 rfl u h)
  have C3 := Lib.hid (fun u h => has_any s n 3 (by omega) 3 rfl u h)
  have C4 := Lib.hid (fun u h => has_any s n 4 (by omega) 4 rfl u h)
  have C5 := Lib.hid (fun u h => has_any s n 5 (by omega) 5 rfl u h)
  have HP : Hid (hasP s = ⟨hasB s (lt8 0), hasB s (lt8 1), hasB s (lt8 2), hasB s (lt8 3), hasB s (lt8 4), hasB s (lt8 5)⟩) := Lib.hid rfl
  have CW := Lib.hid (fun u => pnWord_any (hasP s) u)
  have HY := Lib.hid (one_yes (s := s))
  have HN := Lib.hid (one_not (s := s))
  generalize hasB s (lt8 0) = h0 at C0 HP
  generalize hasB s (lt8 1) = h1 at C1 HP
  generalize hasB s (lt8 2) = h2 at C2 HP
  generalize hasB s (lt8 3) = h3 at C3 HP
  generalize hasB s (lt8 4) = h4 at C4 HP
  generalize hasB s (lt8 5) = h5 at C5 HP
  rw [HP.out] at CW HY HN
  rw [hn]
  go_enter Tryd.func5, Tryd.ntmps5
  go_wp2_with fail
  refine (C0.out _ K0.out).mono ?_
  rintro e w1 ⟨rfl, hw⟩
  have K1 : Hid (Blk w1 n 9 #[.string s]) := Lib.hid (by obtain ⟨z, hz⟩ := hw; rw [hz]; exact K0.out)
  have Z1 : Hid (Blk w1 (n + 1) 24 zPn.cells) := Lib.hid (by obtain ⟨z, hz⟩ := hw; rw [hz]; exact Z0.out)
  have B1 : Hid (Below n w w1) := Lib.hid (by obtain ⟨z, hz⟩ := hw; rw [hz]; exact B0.out.trans (Below.drewN0 (Below.refl _ _) z |>.mono (by have := S0.out; omega)))
  have S1 : Hid (w1.heap.size = n + 2) := Lib.hid (by obtain ⟨z, hz⟩ := hw; rw [hz]; exact S0.out)
  clear hw hV
  go_wp2_with fail
  refine (C1.out _ K1.out).mono ?_
  rintro e w2 ⟨rfl, hw⟩
  have K2 : Hid (Blk w2 n 9 #[.string s]) := Lib.hid (by obtain ⟨z, hz⟩ := hw; rw [hz]; exact K1.out)
  have Z2 : Hid (Blk w2 (n + 1) 24 zPn.cells) := Lib.hid (by obtain ⟨z, hz⟩ := hw; rw [hz]; exact Z1.out)
  have B2 : Hid (Below n w w2) := Lib.hid (by obtain ⟨z, hz⟩ := hw; rw [hz]; exact B1.out.trans (Below.drewN0 (Below.refl _ _) z |>.mono (by have := S1.out; omega)))
  have S2 : Hid (w2.heap.size = n + 2) := Lib.hid (by obtain ⟨z, hz⟩ := hw; rw [hz]; exact S1.out)
  clear hw
  go_wp2_with fail
  refine (C2.out _ K2.out).mono ?_
  rintro e w3 ⟨rfl, hw⟩
  have K3 : Hid (Blk w3 n 9 #[.string s]) := Lib.hid (by obtain ⟨z, hz⟩ := hw; rw [hz]; exact K2.out)
  have Z3 : Hid (Blk w3 (n + 1) 24 zPn.cells) := Lib.hid (by obtain ⟨z, hz⟩ := hw; rw [hz]; exact Z2.out)
  have B3 : Hid (Below n w w3) := Lib.hid (by obtain ⟨z, hz⟩ := hw; rw [hz]; exact B2.out.trans (Below.drewN0 (Below.refl _ _) z |>.mono (by have := S2.out; omega)))
  have S3 : Hid (w3.heap.size = n + 2) := Lib.hid (by obtain ⟨z, hz⟩ := hw; rw [hz]; exact S2.out)
  clear hw
  go_wp2_with fail
  refine (C3.out _ K3.out).mono ?_
  rintro e w4 ⟨rfl, hw⟩
  have K4 : Hid (Blk w4 n 9 #[.string s]) := Lib.hid (by obtain ⟨z, hz⟩ := hw; rw [hz]; exact K3.out)
  have Z4 : Hid (Blk w4 (n + 1) 24 zPn.cells) := Lib.hid (by obtain ⟨z, hz⟩ := hw; rw [hz]; exact Z3.out)
  have B4 : Hid (Below n w w4) := Lib.hid (by obtain ⟨z, hz⟩ := hw; rw [hz]; exact B3.out.trans (Below.drewN0 (Below.refl _ _) z |>.mono (by have := S3.out; omega)))
  have S4 : Hid (w4.heap.size = n + 2) := Lib.hid (by obtain ⟨z, hz⟩ := hw; rw [hz]; exact S3.out)
  clear hw
  go_wp2_with fail
  refine (C4.out _ K4.out).mono ?_
  rintro e w5 ⟨rfl, hw⟩
  have K5 : Hid (Blk w5 n 9 #[.string s]) := Lib.hid (by obtain ⟨z, hz⟩ := hw; rw [hz]; exact K4.out)
  have Z5 : Hid (Blk w5 (n + 1) 24 zPn.cells) := Lib.hid (by obtain ⟨z, hz⟩ := hw; rw [hz]; exact Z4.out)
  have B5 : Hid (Below n w w5) := Lib.hid (by obtain ⟨z, hz⟩ := hw; rw [hz]; exact B4.out.trans (Below.drewN0 (Below.refl _ _) z |>.mono (by have := S4.out; omega)))
  have S5 : Hid (w5.heap.size = n + 2) := Lib.hid (by obtain ⟨z, hz⟩ := hw; rw [hz]; exact S4.out)
  clear hw
  go_wp2_with fail
  refine (C5.out _ K5.out).mono ?_
  rintro e w6 ⟨rfl, hw⟩
  have K6 : Hid (Blk w6 n 9 #[.string s]) := Lib.hid (by obtain ⟨z, hz⟩ := hw; rw [hz]; exact K5.out)
  have Z6 : Hid (Blk w6 (n + 1) 24 zPn.cells) := Lib.hid (by obtain ⟨z, hz⟩ := hw; rw [hz]; exact Z5.out)
  have B6 : Hid (Below n w w6) := Lib.hid (by obtain ⟨z, hz⟩ := hw; rw [hz]; exact B5.out.trans (Below.drewN0 (Below.refl _ _) z |>.mono (by have := S5.out; omega)))
  have S6 : Hid (w6.heap.size = n + 2) := Lib.hid (by obtain ⟨z, hz⟩ := hw; rw [hz]; exact S5.out)
  clear hw
  have sz := S6.out
  go_upto_region 3 with (fail)
  obtain ⟨W, hW⟩ : ∃ W, w6.alloc (Obj.cells #[.bool h0, .bool h1, .bool h2, .bool h3, .bool h4, .bool h5] 24) = W := ⟨_, rfl⟩
  rw [hW]
  have KD : Hid (Blk W.drew n 9 #[.string s]) := Lib.hid (by rw [← hW]; exact Blk.drew (Blk.alloc K6.out _))
  have ZD : Hid (Blk W.drew (n + 1) 24 zPn.cells) := Lib.hid (by rw [← hW]; exact Blk.drew (Blk.alloc Z6.out _))
  have PD : Hid (Blk W.drew (n + 2) 24 #[.bool h0, .bool h1, .bool h2, .bool h3, .bool h4, .bool h5]) := Lib.hid (by rw [← hW, ← sz]; exact Blk.drew (Blk.new _ _ _ _))
  have BD : Hid (Below n w W.drew) := Lib.hid (by rw [← hW]; exact B6.out.trans (((Below.alloc0 (Below.refl _ _) _).mono (by omega)).trans (Below.drew0 (Below.refl _ _) |>.mono (by rw [World.size_alloc]; omega))))
  have HS : Hid (∀ u : World, Blk u (n + 2) 24 #[.bool h0, .bool h1, .bool h2, .bool h3, .bool h4, .bool h5] → Blk u n 9 #[.string s] → (fun w' : World => (w'.cell? ⟨n + 2, 0, none⟩ = some (.bool h0) ∧ w'.cell? ⟨n + 2, 1, none⟩ = some (.bool h1) ∧ w'.cell? ⟨n + 2, 2, none⟩ = some (.bool h2) ∧ w'.cell? ⟨n + 2, 3, none⟩ = some (.bool h3) ∧ w'.cell? ⟨n + 2, 4, none⟩ = some (.bool h4) ∧ w'.cell? ⟨n + 2, 5, none⟩ = some (.bool h5)) ∧ w'.cell? ⟨n, 0, none⟩ = some (.string s)) u) := Lib.hid (fun u p q => ⟨p.c6, (q.cell 0).trans rfl⟩)
  have SW := Lib.hid (HS.out _ PD.out KD.out)
  obtain ⟨T, hT⟩ : ∃ T, pnW ⟨h0, h1, h2, h3, h4, h5⟩ = T := ⟨_, rfl⟩
  rw [hT] at CW HY HN
  by_cases hq : T = s
  · have ON := Lib.hid (HY.out hq)
    have e1 : (T.toList == s.toList) = true := by rw [hq]; simp
    clear hW K0 K1 K2 K3 K4 K5 K6 Z0 Z1 Z2 Z3 Z4 Z5 Z6 B0 B1 B2 B3 B4 B5 B6 S0 S1 S2 S3 S4 S5 S6 sz hq hT HY HN C0 C1 C2 C3 C4 C5 HP
    refine wp_region_noPanic ?_
    refine wp_region_held_drew (S := (fun w' : World => (w'.cell? ⟨n + 2, 0, none⟩ = some (.bool h0) ∧ w'.cell? ⟨n + 2, 1, none⟩ = some (.bool h1) ∧ w'.cell? ⟨n + 2, 2, none⟩ = some (.bool h2) ∧ w'.cell? ⟨n + 2, 3, none⟩ = some (.bool h3) ∧ w'.cell? ⟨n + 2, 4, none⟩ = some (.bool h4) ∧ w'.cell? ⟨n + 2, 5, none⟩ = some (.bool h5)) ∧ w'.cell? ⟨n, 0, none⟩ = some (.string s))) (by kernel_rfl) ?_ (fun hH0 => ?_)
    · (try dsimp only); with_reducible exact SW.out
    refine wpAnyH_take (i := 0) (oi := ({ dst := some 20, op := Op.load 24 (Operand.tmp 5), type := 24, pos := "pins.go:39", after := #[], guard := none } : Oper)) (v := ?_) rfl (by kernel_rfl) (by kernel_rfl) (by kernel_rfl) (fun _ _ _ h => h) (Or.inl ⟨by rfl, ?_⟩) (by assumption) ?_
    rotate_left 1
    · (intro w hSw; (try dsimp only at hSw); go_simp; (try with_reducible rfl))
    (try simp only [Act.put, List.setIfInBounds_toArray, List.set_cons_zero, List.set_cons_succ])
    refine wpAnyH_take (i := 2) (oi := ({ dst := some 22, op := Op.load 9 (Operand.tmp 1), type := 9, pos := "pins.go:39", after := #[], guard := none } : Oper)) (v := ?_) rfl (by kernel_rfl) (by kernel_rfl) (by kernel_rfl) (fun _ _ _ h => h) (Or.inl ⟨by rfl, ?_⟩) (by assumption) ?_
    rotate_left 1
    · (intro w hSw; (try dsimp only at hSw); go_simp; (try with_reducible rfl))
    (try simp only [Act.put, List.setIfInBounds_toArray, List.set_cons_zero, List.set_cons_succ])
    refine wpAnyH_ready (rs := [1]) (by kernel_rfl) (by simp) ?_
    refine AllReadyH.cons (o := ({ dst := some 21, op := Op.call { callee := Callee.value (Operand.func 6), args := #[Operand.tmp 20], argTypes := #[24] }, type := 9, pos := "pins.go:39", after := #[{ on := 0, ground := Ground.data }], guard := none } : Oper)) rfl (fun K hK => ?_) ?_
    rotate_left 1
    · exact AllReadyH.nil
    go_simp
    go_at_call 6
    ((with_reducible refine (CW.out _).mono ?_); rintro e w8 ⟨rfl, hb8⟩; have P8 := Lib.hid (Blk.below PD.out hb8 PD.out.lt); have Z8 := Lib.hid (Blk.below ZD.out hb8 ZD.out.lt); have K8 := Lib.hid (Blk.below KD.out hb8 KD.out.lt); have S8 := Lib.hid (HS.out _ P8.out K8.out); have B8 := Lib.hid (BD.out.trans (hb8.mono (by have := PD.out.lt; omega))); clear hb8)
    first | (refine hK.out _ _ ?_ (fun hH1 => ?_)) | (go_wp2_with fail; refine hK.out _ _ ?_ (fun hH1 => ?_))
    · (try dsimp only); with_reducible exact S8.out
    clear hK K hH0
    (try simp only [Act.put, List.setIfInBounds_toArray, List.set_cons_zero, List.set_cons_succ])
    refine wpAnyH_take (i := 3) (oi := ({ dst := some 23, op := Op.binOp BinOp.neq 9 (Operand.tmp 21) (Operand.tmp 22) 9, type := 4, pos := "pins.go:39", after := #[{ on := 1, ground := Ground.data }, { on := 2, ground := Ground.data }], guard := none } : Oper)) (v := ?_) rfl (by kernel_rfl) (by kernel_rfl) (by kernel_rfl) (fun _ _ _ h => h) (Or.inl ⟨by rfl, ?_⟩) (by assumption) ?_
    rotate_left 1
    · (intro w hSw; (try dsimp only at hSw); go_simp; (try with_reducible rfl))
    (try simp only [Act.put, List.setIfInBounds_toArray, List.set_cons_zero, List.set_cons_succ])
    refine wpAnyH_done (by kernel_rfl) ?_ _
    refine NoPanic.normal ?_
    all_goals
      obtain ⟨p0, p1, p2, p3, p4, p5⟩ := P8.out.c6
      obtain ⟨z0, z1, z2, z3, z4, z5⟩ := Z8.out.c6
      obtain ⟨f0, f1, f2, f3, f4, f5⟩ := Z8.out.fr6
      go_wp2
      exact bodyPost_ret (v := .tuple #[.agg #[.bool h0, .bool h1, .bool h2, .bool h3, .bool h4, .bool h5], .bool true]) (res5 _ _ (n + 1) _ (Blk.set6 Z8.out) rfl rfl true rfl) rfl ⟨retOne (x := ⟨h0, h1, h2, h3, h4, h5⟩) (by rw [onP, ON.out]; rfl) (by rw [onB, ON.out]; rfl), Below.set6 B8.out (by omega) _ _ _ _ _ _⟩
  · have ON := Lib.hid (HN.out hq)
    have e1 : (T.toList == s.toList) = false := by
      rw [beq_eq_false_iff_ne]
      intro q
      rw [ByteArray.toList_eq, ByteArray.toList_eq] at q
      exact hq (ByteArray.ext (Array.toList_inj.1 q))
    clear hW K0 K1 K2 K3 K4 K5 K6 Z0 Z1 Z2 Z3 Z4 Z5 Z6 B0 B1 B2 B3 B4 B5 B6 S0 S1 S2 S3 S4 S5 S6 sz hq hT HY HN C0 C1 C2 C3 C4 C5 HP
    refine wp_region_noPanic ?_
    refine wp_region_held_drew (S := (fun w' : World => (w'.cell? ⟨n + 2, 0, none⟩ = some (.bool h0) ∧ w'.cell? ⟨n + 2, 1, none⟩ = some (.bool h1) ∧ w'.cell? ⟨n + 2, 2, none⟩ = some (.bool h2) ∧ w'.cell? ⟨n + 2, 3, none⟩ = some (.bool h3) ∧ w'.cell? ⟨n + 2, 4, none⟩ = some (.bool h4) ∧ w'.cell? ⟨n + 2, 5, none⟩ = some (.bool h5)) ∧ w'.cell? ⟨n, 0, none⟩ = some (.string s))) (by kernel_rfl) ?_ (fun hH0 => ?_)
    · (try dsimp only); with_reducible exact SW.out
    refine wpAnyH_take (i := 0) (oi := ({ dst := some 20, op := Op.load 24 (Operand.tmp 5), type := 24, pos := "pins.go:39", after := #[], guard := none } : Oper)) (v := ?_) rfl (by kernel_rfl) (by kernel_rfl) (by kernel_rfl) (fun _ _ _ h => h) (Or.inl ⟨by rfl, ?_⟩) (by assumption) ?_
    rotate_left 1
    · (intro w hSw; (try dsimp only at hSw); go_simp; (try with_reducible rfl))
    (try simp only [Act.put, List.setIfInBounds_toArray, List.set_cons_zero, List.set_cons_succ])
    refine wpAnyH_take (i := 2) (oi := ({ dst := some 22, op := Op.load 9 (Operand.tmp 1), type := 9, pos := "pins.go:39", after := #[], guard := none } : Oper)) (v := ?_) rfl (by kernel_rfl) (by kernel_rfl) (by kernel_rfl) (fun _ _ _ h => h) (Or.inl ⟨by rfl, ?_⟩) (by assumption) ?_
    rotate_left 1
    · (intro w hSw; (try dsimp only at hSw); go_simp; (try with_reducible rfl))
    (try simp only [Act.put, List.setIfInBounds_toArray, List.set_cons_zero, List.set_cons_succ])
    refine wpAnyH_ready (rs := [1]) (by kernel_rfl) (by simp) ?_
    refine AllReadyH.cons (o := ({ dst := some 21, op := Op.call { callee := Callee.value (Operand.func 6), args := #[Operand.tmp 20], argTypes := #[24] }, type := 9, pos := "pins.go:39", after := #[{ on := 0, ground := Ground.data }], guard := none } : Oper)) rfl (fun K hK => ?_) ?_
    rotate_left 1
    · exact AllReadyH.nil
    go_simp
    go_at_call 6
    ((with_reducible refine (CW.out _).mono ?_); rintro e w8 ⟨rfl, hb8⟩; have P8 := Lib.hid (Blk.below PD.out hb8 PD.out.lt); have Z8 := Lib.hid (Blk.below ZD.out hb8 ZD.out.lt); have K8 := Lib.hid (Blk.below KD.out hb8 KD.out.lt); have S8 := Lib.hid (HS.out _ P8.out K8.out); have B8 := Lib.hid (BD.out.trans (hb8.mono (by have := PD.out.lt; omega))); clear hb8)
    first | (refine hK.out _ _ ?_ (fun hH1 => ?_)) | (go_wp2_with fail; refine hK.out _ _ ?_ (fun hH1 => ?_))
    · (try dsimp only); with_reducible exact S8.out
    clear hK K hH0
    (try simp only [Act.put, List.setIfInBounds_toArray, List.set_cons_zero, List.set_cons_succ])
    refine wpAnyH_take (i := 3) (oi := ({ dst := some 23, op := Op.binOp BinOp.neq 9 (Operand.tmp 21) (Operand.tmp 22) 9, type := 4, pos := "pins.go:39", after := #[{ on := 1, ground := Ground.data }, { on := 2, ground := Ground.data }], guard := none } : Oper)) (v := ?_) rfl (by kernel_rfl) (by kernel_rfl) (by kernel_rfl) (fun _ _ _ h => h) (Or.inl ⟨by rfl, ?_⟩) (by assumption) ?_
    rotate_left 1
    · (intro w hSw; (try dsimp only at hSw); go_simp; (try with_reducible rfl))
    (try simp only [Act.put, List.setIfInBounds_toArray, List.set_cons_zero, List.set_cons_succ])
    refine wpAnyH_done (by kernel_rfl) ?_ _
    refine NoPanic.normal ?_
    all_goals
      obtain ⟨p0, p1, p2, p3, p4, p5⟩ := P8.out.c6
      obtain ⟨z0, z1, z2, z3, z4, z5⟩ := Z8.out.c6
      obtain ⟨f0, f1, f2, f3, f4, f5⟩ := Z8.out.fr6
      go_wp2
      exact bodyPost_ret (v := .tuple #[.agg zPn.cells, .bool false]) (res5 _ _ (n + 1) _ (Blk.set6 Z8.out) rfl rfl false rfl) rfl ⟨retOne (x := zPn) (by rw [onP, ON.out]; rfl) (by rw [onB, ON.out]; rfl), Below.set6 B8.out (by omega) _ _ _ _ _ _⟩
end Go.Proofs.YtnmgjgeniaheoaaDoor
