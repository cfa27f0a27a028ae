/- The law PackShort answers true for every input, and each argument reads afterwards as it read before. Conditions: none. -/
import Derived.Test.YtnhafficnomlbaaRows
import Derived.WalkKit
import Derived.ProofKit
import Derived.OpenShut
import Derived.ShutString
import Derived.ChangeOld
import Derived.Below
import Derived.Test.YtnhafficnomlbaaPckV
import Derived.Test.YtnhafficnomlbaaPckA
import Derived.Test.YtnhafficnomlbaaRpB
namespace Go.Proofs.Ytnhafficnomlbaa.packShort
open Go.ChangeShapes Go.WideShapes Go.ChangeAt Go.RowKit
open Go.ChangeMaps (open_string shut_string)
set_option linter.unusedVariables false

theorem own : ownKnob Try.prog.godebug = none := by kernel_rfl
theorem laidOut : laidOutB Try.prog = true := by kernel_rfl


set_option maxRecDepth 100000 in
set_option maxHeartbeats 1000000 in
theorem walk (a0 : Option Addr) (len0 cap0 : Nat) (z0 : List Int) (a1 : Int) (a2 : Int) (w : World) (w0 : IsRow .u8 w a0 len0 cap0 z0) (w1 : (Lit.int .u8 a1).wf = true) (w2 : (Lit.int .i64 a2).wf = true) :
    Calls Try.prog 7 #[.slice a0 len0 cap0, .int .u8 a1, .int .i64 a2] w fun e w' => e = .returned (.bool true) ∧ Below w.heap.size w w' := by
  obtain ⟨xs, hx, hl, hm, hz⟩ := rdY_of_row w0
  have hcap : len0 ≤ cap0 := by
    rcases w0 with ⟨_, rfl, _⟩ | ⟨_, _, h, _⟩
    · exact Nat.zero_le _
    · exact h
  obtain ⟨r0, r1⟩ := bounds_u8 w1
  obtain ⟨s0, s1⟩ := bounds_i64 w2
  unfold maxLen at hm
  clear w0 w1 w2
  by_cases h1 : len0 ≤ 600
  · by_cases h2 : a2 < 3
    · have e1 : ¬ ((600 : Int) < (len0 : Int)) := by omega
      go_enter Try.func7, Try.ntmps7
      go_wp2
      go_ret
      exact ⟨rfl, Below.refl _ _⟩
    · by_cases h3 : 600 < a2
      · have e1 : ¬ ((600 : Int) < (len0 : Int)) := by omega
        go_enter Try.func7, Try.ntmps7
        go_wp2
        go_ret
        exact ⟨rfl, Below.refl _ _⟩
      · obtain ⟨n, rfl⟩ := Int.eq_ofNat_of_zero_le (show 0 ≤ a2 by omega)
        have PL := pack_long xs.length xs (Nat.le_refl _)
        rw [hl] at PL
        have PR := pack_rep n n a1 (Nat.le_refl _)
        have hbr : Byt (List.replicate n a1) := fun x hx => by rw [List.eq_of_mem_replicate hx]; omega
        have RX := Lib.hid hx
        have CP := Lib.hid (fun (u : World) (hb : Below w.heap.size w u) => pack_any a0 len0 cap0 xs u (Els.Rd.below hx hb) hcap hz (by omega))
        have HBR := Lib.hid hbr
        have hn0 : 0 < n := by omega
        have CB := Lib.hid (fun (u : World) => repeatB u.heap.size 0 1 a1 n hn0 (by omega) (u.alloc (.cells #[.int .u8 a1] 5)) (by simp) (by rw [(Blk.new u _ _ (0, 0)).cell]; rfl))
        obtain ⟨p, hp⟩ : ∃ p, (packL xs).length = p := ⟨_, rfl⟩
        obtain ⟨r, hr⟩ : ∃ r, (packL (List.replicate n a1)).length = r := ⟨_, rfl⟩
        rw [hp] at PL
        rw [hr] at PR
        have f1 : p ≤ len0 + (len0 + 126) / 127 := PL
        have f2 : 2 * ((n + 127) / 128) ≤ r := by rw [PR]; split <;> (try split) <;> omega
        have f3 : r ≤ 2 * (n / 128) + 3 := by rw [PR]; split <;> (try split) <;> omega
        have HPp := Lib.hid hp
        have HPr := Lib.hid hr
        clear PL PR hx hl hz hp hr hbr
        go_enter Try.func7, Try.ntmps7
        go_wp2_with fail
        refine (CB.out _).mono ?_
        rintro e w1 ⟨v1, rfl, hr1, ⟨A1, c1, rfl, hc1⟩, hb⟩
        have B1 := Lib.hid (Below.trans0 (Below.alloc0 (Below.refl w.heap.size w) _) hb)
        have CP1 := Lib.hid (pack_any A1 n c1 _ w1 hr1 hc1 HBR.out (by omega))
        clear hb hr1 hc1 CB
        go_wp2_with fail
        refine CP1.out.mono ?_
        rintro e w2 ⟨v2, rfl, ho, hb⟩
        have B2 := Lib.hid (Below.trans0 B1.out hb)
        obtain ⟨A2, c2, rfl, _⟩ := ownP_cap ho
        rw [HPr.out]
        clear ho hb CP1
        go_wp2_with fail
        refine (CP.out _ B2.out).mono ?_
        rintro e w3 ⟨v3, rfl, ho, hb⟩
        have B3 := Lib.hid (Below.trans0 B2.out hb)
        obtain ⟨A3, c3, rfl, _⟩ := ownP_cap ho
        rw [HPp.out]
        have g1 : (p : Int) ≤ (len0 : Int) + ((len0 : Int) + 126) / 127 := by omega
        have g2 : 2 * (((n : Int) + 127) / 128) ≤ (r : Int) := by omega
        have g3 : (r : Int) ≤ 2 * ((n : Int) / 128) + 3 := by omega
        clear ho hb CP
        go_wp2_with fail
        refine (alive38 _).mono ?_
        rintro e w5 ⟨rfl, hb⟩
        have B5 := Lib.hid (Below.trans0 B3.out hb)
        clear hb
        go_wp2
        go_ret
        exact ⟨rfl, B5.out⟩
  · go_enter Try.func7, Try.ntmps7
    go_wp2
    go_ret
    exact ⟨rfl, Below.refl _ _⟩

set_option maxRecDepth 100000 in
theorem lifted (os : Os) (started : os.Started) (H : Type) (enc : TypeId × Value → H) :
    ReturnsInHanded {} Try.checked os 7 .any (Rows.packShortSpec.pre6 enc Try.prog Try.f7 Rows.packShortRow.domain false) (Rows.packShortSpec.post enc Try.prog Try.f7 false true false false) := by
  refine returnsInHanded_of_change (C := Try.checked) own started (by kernel_rfl) Try.func7
    (ChangeSpec.witness6 (enc := enc) (C := Try.checked) false ⟨#[], #[.slice none 0 0, .int .u8 0, .int .i64 0], []⟩ 8 (by kernel_rfl) (by kernel_rfl) (by kernel_rfl) (by kernel_rfl)) ?_
  intro W base args ds gs before hval0 hW hcnd _
  have hval : ∀ (j : Nat) t v, Try.f7.params[j]? = some t → args[j]? = some v → Value.okWide Try.prog W .any base t v := hval0
  have hW' := hW
  obtain ⟨p, q, hA0, hV, rfl, hfz, hnd⟩ := hW
  have hA : DataW.TrodAll enc Try.prog W 0 (fun _ => true) true Try.f7.params.toList args.toList ds p := hA0
  rw [Try.params7] at hA hval
  obtain ⟨v0, vs0, d0, ds0, p0, q0, hargs, rfl, rfl, h0, r0⟩ := trodAll_cons hA
  obtain ⟨v1, vs1, d1, ds1, p1, q1, rfl, rfl, rfl, h1, r1⟩ := trodAll_cons r0
  obtain ⟨v2, vs2, d2, ds2, p2, q2, rfl, rfl, rfl, h2, r2⟩ := trodAll_cons r1
  obtain ⟨rfl, rfl, rfl⟩ := trodAll_nil r2
  obtain rfl : args = #[v0, v1, v2] := by cases args; simp_all
  obtain ⟨rfl, rfl⟩ := trodVars_none hV
  obtain ⟨a0, len0, cap0, rfl⟩ := okWide_slice Try.underlying22 (hval 0 22 v0 rfl rfl)
  have k0 := h0
  have lt0 : ∀ x ∈ p0, x.block < W.heap.size := by obtain ⟨m, hm⟩ := k0; exact DataW.trod_lt m _ _ _ hm
  obtain ⟨z0, w0⟩ : ∃ zs, IsRow .u8 W a0 len0 cap0 zs := by
    obtain ⟨fuel, hf⟩ := h0
    rcases open_ints Try.underlying22 Try.underlying5 (by kernel_rfl) hf with ⟨hcs, _⟩ | ⟨x, l, c, zs, hcs, _, hl, hm, hz, _, hcell, hwz⟩
    · simp [Value.cells] at hcs
      obtain ⟨rfl, rfl, rfl⟩ := hcs
      exact ⟨[], .inl ⟨rfl, rfl, rfl, rfl⟩⟩
    · simp [Value.cells] at hcs
      obtain ⟨rfl, rfl, rfl⟩ := hcs
      exact ⟨zs, .inr ⟨_, rfl, hl, hm, by simpa using hz, hcell, hwz⟩⟩
  obtain ⟨a1, rfl, rfl, rfl, w1⟩ := open_int Try.underlying5 (hval 1 5 v1 rfl rfl) h1
  obtain ⟨a2, rfl, rfl, rfl, w2⟩ := open_int Try.underlying3 (hval 2 3 v2 rfl rfl) h2
  clear hA0 hval0
  refine (walk a0 len0 cap0 z0 a1 a2 W w0 w1 w2).mono fun e W' ⟨he, bel⟩ => ?_
  subst he
  exact ⟨_, rfl, _, _, _, [], _, [], hW', trodAll_mk1 (shut_bool Try.underlying4 _), (trodAll_cons_mk (Below.trod laidOut (by kernel_rfl) (of_decide_eq_true (by kernel_rfl)) k0 bel lt0) (trodAll_cons_mk (shut_int Try.underlying5 w1) (trodAll_cons_mk (shut_int Try.underlying3 w2) trodAll_mk0))), rfl, bel.frame _, fun h => by cases h⟩

theorem over : Rows.packShortRow.holds Try.pinned (OpenSpec.ofChange Rows.packShortSpec) :=
  OpenClaim.holds_of_wide 7 Try.f7 rfl rfl rfl rfl rfl rfl rfl ⟨rfl, rfl, rfl, rfl, rfl⟩ rfl rfl rfl rfl rfl (by kernel_rfl) Try.func7 (by kernel_rfl)
    (of_decide_eq_true (by kernel_rfl)) (by unfold Func.isWrapper; first | (rw [if_pos (by decide +kernel)]; kernel_rfl) | (rw [if_neg (by decide +kernel)]; exact ⟨rfl, rfl⟩))
    (fun os started H enc _ => lifted os started H enc)

theorem proved : Rows.PackShortSaid := over
#print axioms proved
end Go.Proofs.Ytnhafficnomlbaa.packShort
