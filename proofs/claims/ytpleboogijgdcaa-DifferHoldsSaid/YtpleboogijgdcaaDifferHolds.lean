/- The law DifferHolds answers true for every input, and each argument reads afterwards as it read before. Conditions: none. -/
import Derived.Test.YtpleboogijgdcaaRows
import Derived.WalkKit
import Derived.ProofKit
import Derived.OpenShut
import Derived.ShutString
import Derived.ChangeOld
import Derived.Below
import Derived.Test.YtpleboogijgdcaaDfw
import Derived.Deep.CutBlock
import Derived.Deep.RegionHeld3
namespace Go.Proofs.Ytpleboogijgdcaa.differHolds
open Go.ChangeShapes Go.WideShapes Go.ChangeAt Go.RowKit
open Go.ChangeMaps (open_string shut_string)
set_option linter.unusedVariables false

theorem own : ownKnob Try.prog.godebug = none := by kernel_rfl
theorem laidOut : laidOutB Try.prog = true := by kernel_rfl

set_option maxRecDepth 100000 in
set_option maxHeartbeats 4000000 in
theorem walk (a0 : Option Addr) (len0 cap0 : Nat) (z0 : List Rc) (a1 : Option Addr) (len1 cap1 : Nat) (z1 : List Rc) (a2 : Int) (w : World) (w0 : eR.In Rc.Ok w a0 len0 cap0 z0) (w1 : eR.In Rc.Ok w a1 len1 cap1 z1) (w2 : (Lit.int .i64 a2).wf = true) :
    Calls Try.prog 4 #[.slice a0 len0 cap0, .slice a1 len1 cap1, .int .i64 a2] w fun e w' => e = .returned (.bool true) ∧ Below w.heap.size w w' := by
  -- open 0 : List Rc | eR.In Rc.Ok | open_recs
  -- open 1 : List Rc | eR.In Rc.Ok | open_recs
  -- heartbeats 4000000
  obtain ⟨l, hL⟩ : ∃ l, eR.In Rc.Ok w a0 len0 cap0 l := ⟨_, w0⟩
  obtain ⟨m, hM⟩ : ∃ m, eR.In Rc.Ok w a1 len1 cap1 m := ⟨_, w1⟩
  clear w0 w1
  obtain ⟨hR, hln, hlm, hok⟩ := hL
  obtain ⟨hR', hln', hlm', hok'⟩ := hM
  by_cases h1 : len0 ≤ 100
  case neg =>
    go_enter Try.func4, Try.ntmps4
    go_wp2
    go_ret
    exact ⟨rfl, Below.refl _ _⟩
  by_cases h2 : len1 ≤ 100
  case neg =>
    go_enter Try.func4, Try.ntmps4
    go_wp2
    go_ret
    exact ⟨rfl, Below.refl _ _⟩
  have hmo := bounds_i64 w2
  have hx : mxD l m ≤ 1000000 := by unfold mxD; omega
  have HMX := Lib.hid (fun k => mxD_lt l m k)
  have HR := Lib.hid hR
  have HR' := Lib.hid hR'
  have HOK := Lib.hid hok
  have HOK' := Lib.hid hok'
  have HL := Lib.hid hln
  have HL' := Lib.hid hln'
  have CF := Lib.hid (fun u (q : Below w.heap.size w u) => dfFirst_any _ _ l m u (hR.below q) (hR'.below q) (by omega) (by omega))
  have CC := Lib.hid (fun u (q : Below w.heap.size w u) => dfCount_any _ _ l m u (hR.below q) (hR'.below q) (by omega) (by omega))
  have CR := Lib.hid (fun u (q : Below w.heap.size w u) => dfReport_any a2 hmo.1 hmo.2 _ _ l m hok hok' u (hR.below q) (hR'.below q) (by omega) (by omega))
  have CO := Lib.hid (fun u (q : Below w.heap.size w u) => dfOwn_any _ l u (hR.below q) (by omega))
  have CQ := Lib.hid (fun v v' u (q : eR.Rd u v (ownL l)) (q' : eR.Rd u v' (ownL l)) => rcEq_any v v' (ownL l) (ownL l) u q q' (Nat.le_trans (by have := ownL_len l l.length; rwa [List.take_length] at this) (by omega)))
  have CA := Lib.hid (fun u => alive51 u)
  rw [← fsP_all l m] at CF
  obtain ⟨A, c, hv, hc⟩ := hR.open_
  obtain ⟨A', c', hv', hc'⟩ := hR'.open_
  injection hv with e1 e2 e3
  subst e1
  subst e3
  clear e2
  injection hv' with e1 e2 e3
  subst e1
  subst e3
  clear e2
  rw [hln] at hc
  rw [hln'] at hc'
  have HC := Lib.hid hc
  have HC' := Lib.hid hc'
  clear hR hR' hln hln' hlm hlm' hok hok' hc hc' w2
  obtain ⟨M, hM⟩ : ∃ M, mxD l m = M := ⟨_, rfl⟩
  rw [hM] at hx HMX CF CC CR
  clear hM
  go_enter Try.func4, Try.ntmps4
  go_wp2
  go_loopw [7, 8, 9, 10] (fun f c s i wr => ∃ k : Nat, k ≤ M ∧ i = .int .i64 k ∧ f = .int .i64 (fsP l m k) ∧ c = .int .i64 (ctD l m k : Nat) ∧ s = .string (repS l m a2 k).1 ∧ Hid (Below w.heap.size w wr)) (fun _ _ _ i _ => M - (intOf i).toNat)
  case atStart => exact ⟨0, Nat.zero_le _, rfl, rfl, rfl, rfl, Lib.hid (Below.refl _ _)⟩
  case round =>
    obtain ⟨k, hk, rfl, rfl, rfl, rfl, hB⟩ := hrel
    have k0 : (0 : Int) ≤ k := by omega
    have zc := ctD_le l m k
    have zf := fsP_le l m k
    have ZT := repS_size l m HOK.out HOK'.out a2 k (by omega)
    by_cases hlt : k < M
    · have kM : (k : Int) ≤ 1000000 := by omega
      have FN := fsP_next l m k
      have CN := ctD_next l m k
      have z1 := decS_size k (by omega)
      have z2 := txS_size l HOK.out k
      have z3 := txS_size m HOK'.out k
      have z4 := wtS_size l m k
      have HE : lnS l m k = ((((((decS k ++ ⟨#[58, 32]⟩) ++ txS l k) ++ ⟨#[32, 47, 32]⟩) ++ txS m k) ++ wtS l m k) ++ ⟨#[10]⟩) := rfl
      have CD := Lib.hid (fun u => refDigits10_int (k : Int) 1 1 u (by omega) (by omega) (by decide) (by decide) rfl)
      have RM := repS_more l m a2 k
      have RY := repS_yes l m a2 k
      have RN := repS_no l m a2 k
      have RS := repS_stop l m a2 k

      by_cases hb1 : k < len0
      · have t1 : (k : Int) < len0 := by omega
        by_cases hb2 : k < len1
        · have t2 : (k : Int) < len1 := by omega
          obtain ⟨b, off, rfl, hgb, hcell⟩ := HC.out (by omega)
          obtain ⟨b', off', rfl, hgb', hcell'⟩ := HC'.out (by omega)
          obtain ⟨x, hx'⟩ : ∃ x, l[k]? = some x := ⟨_, List.getElem?_eq_getElem (by rw [HL.out]; exact hb1)⟩
          obtain ⟨y, hy'⟩ : ∃ y, m[k]? = some y := ⟨_, List.getElem?_eq_getElem (by rw [HL'.out]; exact hb2)⟩
          have S0 : Hid (∀ u : World, Below w.heap.size w u → (fun w' : World => (w'.cell? ⟨b, off + k * 9, none⟩ = some (.int .u16 x.a) ∧ w'.cell? ⟨b, off + k * 9 + 1, none⟩ = some (.int .u8 x.d) ∧ w'.cell? ⟨b, off + k * 9 + 2, none⟩ = some (.bool x.r) ∧ w'.cell? ⟨b, off + k * 9 + 3, none⟩ = some (.bool x.b1) ∧ w'.cell? ⟨b, off + k * 9 + 4, none⟩ = some (.bool x.b2) ∧ w'.cell? ⟨b, off + k * 9 + 5, none⟩ = some (.bool x.b3) ∧ w'.cell? ⟨b, off + k * 9 + 6, none⟩ = some (.bool x.b4) ∧ w'.cell? ⟨b, off + k * 9 + 7, none⟩ = some (.bool x.b5) ∧ w'.cell? ⟨b, off + k * 9 + 8, none⟩ = some (.bool x.m)) ∧ (w'.cell? ⟨b', off' + k * 9, none⟩ = some (.int .u16 y.a) ∧ w'.cell? ⟨b', off' + k * 9 + 1, none⟩ = some (.int .u8 y.d) ∧ w'.cell? ⟨b', off' + k * 9 + 2, none⟩ = some (.bool y.r) ∧ w'.cell? ⟨b', off' + k * 9 + 3, none⟩ = some (.bool y.b1) ∧ w'.cell? ⟨b', off' + k * 9 + 4, none⟩ = some (.bool y.b2) ∧ w'.cell? ⟨b', off' + k * 9 + 5, none⟩ = some (.bool y.b3) ∧ w'.cell? ⟨b', off' + k * 9 + 6, none⟩ = some (.bool y.b4) ∧ w'.cell? ⟨b', off' + k * 9 + 7, none⟩ = some (.bool y.b5) ∧ w'.cell? ⟨b', off' + k * 9 + 8, none⟩ = some (.bool y.m))) u) := Lib.hid (fun u hu => ⟨rc9_at hu hgb (fun jj u hu => hcell k x hx' jj u hu), rc9_at hu hgb' (fun jj u hu => hcell' k y hy' jj u hu)⟩)
          have CTX := Lib.hid (fun u => rcText_any x (HOK.out x (List.mem_of_getElem? hx')) u)
          have CTY := Lib.hid (fun u => rcText_any y (HOK'.out y (List.mem_of_getElem? hy')) u)
          have eD := dfB_both l m k x y hx' hy'
          have eX : txS l k = strOfNums (txN x) := by unfold txS; rw [hx']
          have eY : txS m k = strOfNums (txN y) := by unfold txS; rw [hy']
          have eW : wtS l m k = ⟨#[32]⟩ ++ fldT x y 9 := by unfold wtS; rw [hx', hy']
          have HQ := eql_rc x y
          obtain ⟨⟨p0, p1, p2, p3, p4, p5, p6, p7, p8⟩, r0, r1, r2, r3, r4, r5, r6, r7, r8⟩ := S0.out wr hB.out
          rw [eX] at z2 HE
          rw [eY] at z3 HE
          rw [eW] at z4 HE
          rw [eD] at RY RN CN FN
          obtain ⟨s2, hs2⟩ : ∃ z, strOfNums (txN x) = z := ⟨_, rfl⟩
          obtain ⟨s3, hs3⟩ : ∃ z, strOfNums (txN y) = z := ⟨_, rfl⟩
          rw [hs2] at z2 HE CTX
          rw [hs3] at z3 HE CTY
          by_cases hxy : x = y
          · rw [eqB_yes hxy] at HQ RN CN FN
            have E1 := Lib.hid (show fsP l m (k + 1) = fsP l m k by rw [FN]; simp)
            have E2 := Lib.hid (show ctD l m (k + 1) = ctD l m k by rw [CN]; simp)
            have E3 := Lib.hid (RN rfl)
            clear hcell hcell' hx' hy' eD eX eY eW hxy RY RN CN FN RM RS HE hs2 hs3 z1 z2 z3 z4
            generalize fsP l m k = fp at *
            generalize ctD l m k = cp at *
            obtain ⟨T, hT⟩ : ∃ T, (repS l m a2 k).1 = T := ⟨_, rfl⟩
            have E4 := Lib.hid (show (repS l m a2 (k + 1)).1 = T by rw [E3.out, hT])
            rw [hT] at ZT ⊢
            clear hT E3
            go_wp2_with fail
            refine (CTX.out _).mono ?_
            rintro e w1 ⟨rfl, hb⟩
            have HB1 := Lib.hid (Below.trans0 hB.out hb)
            obtain ⟨⟨p0, p1, p2, p3, p4, p5, p6, p7, p8⟩, r0, r1, r2, r3, r4, r5, r6, r7, r8⟩ := S0.out _ HB1.out
            clear hb
            go_wp2_with fail
            refine (CTY.out _).mono ?_
            rintro e w2 ⟨rfl, hb⟩
            have HB2 := Lib.hid (Below.trans0 HB1.out hb)
            obtain ⟨⟨p0, p1, p2, p3, p4, p5, p6, p7, p8⟩, r0, r1, r2, r3, r4, r5, r6, r7, r8⟩ := S0.out _ HB2.out
            clear hb
            go_wp2
            go_quiet (fail)
            go_wp2
            go_roundw
            case rel => exact ⟨k + 1, by omega, by go_num, by rw [E1.out], by rw [E2.out], by rw [E4.out], Lib.hid (Below.drewN0 HB2.out _)⟩
            case measure => simp [intOf]; omega
          · rw [eqB_no hxy] at HQ RY CN FN
            have E1 : Hid (fsP l m (k + 1) = if fsP l m k < 0 then (k : Int) else fsP l m k) := Lib.hid (by rw [FN]; by_cases q : fsP l m k < 0 <;> simp [q])
            have E2 : Hid (ctD l m (k + 1) = ctD l m k + 1) := Lib.hid (by rw [CN]; rfl)
            have E4 : Hid ((ctD l m k : Int) < a2 → (repS l m a2 (k + 1)).1 = (repS l m a2 k).1 ++ lnS l m k) := Lib.hid (fun q => by
              have h0 : 0 < (repS l m a2 k).2 := by have := RM; rw [decide_eq_true q] at this; exact of_decide_eq_true this
              rw [RY h0 rfl])
            have E5 : Hid (a2 ≤ (ctD l m k : Int) → (repS l m a2 (k + 1)).1 = (repS l m a2 k).1) := Lib.hid (fun q => by
              have h0 : ¬ 0 < (repS l m a2 k).2 := by have := RM; rw [decide_eq_false (Int.not_lt.2 q)] at this; exact of_decide_eq_false this
              rw [RS h0 1])
            clear RY RN CN FN RM RS
            generalize fsP l m k = fp at *
            generalize ctD l m k = cp at *
            obtain ⟨T, hT⟩ : ∃ T, (repS l m a2 k).1 = T := ⟨_, rfl⟩
            rw [hT] at ZT E4 E5 ⊢
            clear hT

            have CW := Lib.hid (fun u => lawFields_any x y u)
            have CP := Lib.hid (fun u => fields_any x y u)
            obtain ⟨s4, hs4⟩ : ∃ z, fldT x y 9 = z := ⟨_, rfl⟩
            rw [hs4] at z4 HE CW CP
            have z5 : s4.size ≤ 61 := by rw [ByteArray.size_append] at z4; omega
            clear hcell hcell' hx' hy' eD eX eY eW hxy hs2 hs3 hs4
            go_wp2_with fail
            refine (CTX.out _).mono ?_
            rintro e w1 ⟨rfl, hb⟩
            have HB1 := Lib.hid (Below.trans0 hB.out hb)
            clear p0 p1 p2 p3 p4 p5 p6 p7 p8 r0 r1 r2 r3 r4 r5 r6 r7 r8
            obtain ⟨⟨p0, p1, p2, p3, p4, p5, p6, p7, p8⟩, r0, r1, r2, r3, r4, r5, r6, r7, r8⟩ := S0.out _ HB1.out
            clear hb
            go_wp2_with fail
            refine (CTY.out _).mono ?_
            rintro e w2 ⟨rfl, hb⟩
            have HB2 := Lib.hid (Below.trans0 HB1.out hb)
            clear p0 p1 p2 p3 p4 p5 p6 p7 p8 r0 r1 r2 r3 r4 r5 r6 r7 r8
            obtain ⟨⟨p0, p1, p2, p3, p4, p5, p6, p7, p8⟩, r0, r1, r2, r3, r4, r5, r6, r7, r8⟩ := S0.out _ HB2.out
            clear hb
            go_wp2
            go_quiet (fail)
            have HB3 := Lib.hid (Below.drewN0 HB2.out nq)
            generalize w2.drewN nq = w3 at HB3 ⊢
            clear p0 p1 p2 p3 p4 p5 p6 p7 p8 r0 r1 r2 r3 r4 r5 r6 r7 r8 HQ
            have v1 : ¬ 9223372036854775807 < 1 + s4.size := by omega
            have SW := Lib.hid (S0.out _ (Below.drew0 HB3.out))
            have HB3d := Lib.hid (Below.drew0 HB3.out)
            go_wp2
            refine wp_region_noPanic ?_
            refine wp_region_held_drew (S := (fun w' : World => (w'.cell? ⟨b, off + k * 9, none⟩ = some (.int .u16 x.a) ∧ w'.cell? ⟨b, off + k * 9 + 1, none⟩ = some (.int .u8 x.d) ∧ w'.cell? ⟨b, off + k * 9 + 2, none⟩ = some (.bool x.r) ∧ w'.cell? ⟨b, off + k * 9 + 3, none⟩ = some (.bool x.b1) ∧ w'.cell? ⟨b, off + k * 9 + 4, none⟩ = some (.bool x.b2) ∧ w'.cell? ⟨b, off + k * 9 + 5, none⟩ = some (.bool x.b3) ∧ w'.cell? ⟨b, off + k * 9 + 6, none⟩ = some (.bool x.b4) ∧ w'.cell? ⟨b, off + k * 9 + 7, none⟩ = some (.bool x.b5) ∧ w'.cell? ⟨b, off + k * 9 + 8, none⟩ = some (.bool x.m)) ∧ (w'.cell? ⟨b', off' + k * 9, none⟩ = some (.int .u16 y.a) ∧ w'.cell? ⟨b', off' + k * 9 + 1, none⟩ = some (.int .u8 y.d) ∧ w'.cell? ⟨b', off' + k * 9 + 2, none⟩ = some (.bool y.r) ∧ w'.cell? ⟨b', off' + k * 9 + 3, none⟩ = some (.bool y.b1) ∧ w'.cell? ⟨b', off' + k * 9 + 4, none⟩ = some (.bool y.b2) ∧ w'.cell? ⟨b', off' + k * 9 + 5, none⟩ = some (.bool y.b3) ∧ w'.cell? ⟨b', off' + k * 9 + 6, none⟩ = some (.bool y.b4) ∧ w'.cell? ⟨b', off' + k * 9 + 7, none⟩ = some (.bool y.b5) ∧ w'.cell? ⟨b', off' + k * 9 + 8, none⟩ = some (.bool y.m)))) (by kernel_rfl) ?_ (fun hH0 => ?_)
            · (try dsimp only); with_reducible exact SW.out
            refine wpAnyH_take (i := 0) (oi := ({ dst := some 73, op := Op.move (Operand.tmp 0), type := 22, pos := "law.go:50", after := #[], guard := none } : Oper)) (v := ?_) rfl (by kernel_rfl) (by kernel_rfl) (by kernel_rfl) (fun _ _ _ h => h) (Or.inl ⟨by rfl, ?_⟩) (by assumption) ?_
            rotate_left 1
            · (intro w hSw; (try dsimp only at hSw); go_simp; (try with_reducible rfl))
            (try simp only [Act.put, List.setIfInBounds_toArray, List.set_cons_zero, List.set_cons_succ])
            refine wpAnyH_take (i := 1) (oi := ({ dst := some 74, op := Op.move (Operand.tmp 10), type := 3, pos := "law.go:50", after := #[], guard := none } : Oper)) (v := ?_) rfl (by kernel_rfl) (by kernel_rfl) (by kernel_rfl) (fun _ _ _ h => h) (Or.inl ⟨by rfl, ?_⟩) (by assumption) ?_
            rotate_left 1
            · (intro w hSw; (try dsimp only at hSw); go_simp; (try with_reducible rfl))
            (try simp only [Act.put, List.setIfInBounds_toArray, List.set_cons_zero, List.set_cons_succ])
            refine wpAnyH_take (i := 2) (oi := ({ dst := some 75, op := Op.indexAddr 22 (Operand.tmp 73) (Operand.tmp 74), type := 0, pos := "law.go:50", after := #[{ on := 0, ground := Ground.data }, { on := 1, ground := Ground.data }], guard := none } : Oper)) (v := ?_) rfl (by kernel_rfl) (by kernel_rfl) (by kernel_rfl) (fun _ _ _ h => h) (Or.inl ⟨by rfl, ?_⟩) (by assumption) ?_
            rotate_left 1
            · (intro w hSw; (try dsimp only at hSw); go_simp; (try with_reducible rfl))
            (try simp only [Act.put, List.setIfInBounds_toArray, List.set_cons_zero, List.set_cons_succ])
            refine wpAnyH_take (i := 3) (oi := ({ dst := some 76, op := Op.load 26 (Operand.tmp 75), type := 26, pos := "law.go:50", after := #[{ on := 2, ground := Ground.data }], guard := none } : Oper)) (v := ?_) rfl (by kernel_rfl) (by kernel_rfl) (by kernel_rfl) (fun _ _ _ h => h) (Or.inl ⟨by rfl, ?_⟩) (by assumption) ?_
            rotate_left 1
            · (intro w hSw; (try dsimp only at hSw); go_simp; (try with_reducible rfl))
            (try simp only [Act.put, List.setIfInBounds_toArray, List.set_cons_zero, List.set_cons_succ])
            refine wpAnyH_take (i := 4) (oi := ({ dst := some 77, op := Op.move (Operand.tmp 1), type := 22, pos := "law.go:50", after := #[], guard := none } : Oper)) (v := ?_) rfl (by kernel_rfl) (by kernel_rfl) (by kernel_rfl) (fun _ _ _ h => h) (Or.inl ⟨by rfl, ?_⟩) (by assumption) ?_
            rotate_left 1
            · (intro w hSw; (try dsimp only at hSw); go_simp; (try with_reducible rfl))
            (try simp only [Act.put, List.setIfInBounds_toArray, List.set_cons_zero, List.set_cons_succ])
            refine wpAnyH_take (i := 5) (oi := ({ dst := some 78, op := Op.move (Operand.tmp 10), type := 3, pos := "law.go:50", after := #[], guard := none } : Oper)) (v := ?_) rfl (by kernel_rfl) (by kernel_rfl) (by kernel_rfl) (fun _ _ _ h => h) (Or.inl ⟨by rfl, ?_⟩) (by assumption) ?_
            rotate_left 1
            · (intro w hSw; (try dsimp only at hSw); go_simp; (try with_reducible rfl))
            (try simp only [Act.put, List.setIfInBounds_toArray, List.set_cons_zero, List.set_cons_succ])
            refine wpAnyH_take (i := 6) (oi := ({ dst := some 79, op := Op.indexAddr 22 (Operand.tmp 77) (Operand.tmp 78), type := 0, pos := "law.go:50", after := #[{ on := 4, ground := Ground.data }, { on := 5, ground := Ground.data }], guard := none } : Oper)) (v := ?_) rfl (by kernel_rfl) (by kernel_rfl) (by kernel_rfl) (fun _ _ _ h => h) (Or.inl ⟨by rfl, ?_⟩) (by assumption) ?_
            rotate_left 1
            · (intro w hSw; (try dsimp only at hSw); go_simp; (try with_reducible rfl))
            (try simp only [Act.put, List.setIfInBounds_toArray, List.set_cons_zero, List.set_cons_succ])
            refine wpAnyH_take (i := 7) (oi := ({ dst := some 80, op := Op.load 26 (Operand.tmp 79), type := 26, pos := "law.go:50", after := #[{ on := 6, ground := Ground.data }], guard := none } : Oper)) (v := ?_) rfl (by kernel_rfl) (by kernel_rfl) (by kernel_rfl) (fun _ _ _ h => h) (Or.inl ⟨by rfl, ?_⟩) (by assumption) ?_
            rotate_left 1
            · (intro w hSw; (try dsimp only at hSw); go_simp; (try with_reducible rfl))
            (try simp only [Act.put, List.setIfInBounds_toArray, List.set_cons_zero, List.set_cons_succ])
            refine wpAnyH_ready (rs := [8]) (by kernel_rfl) (by simp) ?_
            refine AllReadyH.cons (o := ({ dst := some 81, op := Op.call { callee := Callee.value (Operand.func 13), args := #[Operand.tmp 76, Operand.tmp 80], argTypes := #[26, 26] }, type := 9, pos := "law.go:50", after := #[{ on := 3, ground := Ground.data }, { on := 7, ground := Ground.data }], guard := none } : Oper)) rfl (fun K hK => ?_) ?_
            rotate_left 1
            · exact AllReadyH.nil
            go_simp
            go_at_call 13
            ((with_reducible refine (CW.out _).mono ?_); rintro e w4 ⟨rfl, hb4⟩; have HB4 := Lib.hid (Below.trans0 HB3d.out hb4); have S4 := Lib.hid (S0.out _ HB4.out); clear hb4)
            first | (refine hK.out _ _ ?_ (fun hH1 => ?_)) | (go_wp2_with fail; refine hK.out _ _ ?_ (fun hH1 => ?_))
            · (try dsimp only); with_reducible exact S4.out
            clear hK K hH0
            (try simp only [Act.put, List.setIfInBounds_toArray, List.set_cons_zero, List.set_cons_succ])
            refine wpAnyH_take (i := 9) (oi := ({ dst := some 82, op := Op.binOp BinOp.add 9 (Operand.const (Value.string { data := #[32] })) (Operand.tmp 81) 9, type := 9, pos := "law.go:50", after := #[{ on := 8, ground := Ground.data }], guard := none } : Oper)) (v := ?_) rfl (by kernel_rfl) (by kernel_rfl) (by kernel_rfl) (fun _ _ _ h => h) (Or.inl ⟨by rfl, ?_⟩) (by assumption) ?_
            rotate_left 1
            · (intro w hSw; (try dsimp only at hSw); go_simp; (try with_reducible rfl))
            (try simp only [Act.put, List.setIfInBounds_toArray, List.set_cons_zero, List.set_cons_succ])
            refine wpAnyH_take (i := 10) (oi := ({ dst := some 13, op := Op.assign (Operand.tmp 82), type := 9, pos := "law.go:50", after := #[{ on := 9, ground := Ground.data }, { on := 8, ground := Ground.chain }, { on := 0, ground := Ground.phase }, { on := 1, ground := Ground.phase }, { on := 2, ground := Ground.phase }, { on := 3, ground := Ground.phase }, { on := 4, ground := Ground.phase }, { on := 5, ground := Ground.phase }, { on := 6, ground := Ground.phase }, { on := 7, ground := Ground.phase }, { on := 8, ground := Ground.phase }, { on := 9, ground := Ground.phase }], guard := none } : Oper)) (v := ?_) rfl (by kernel_rfl) (by kernel_rfl) (by kernel_rfl) (fun _ _ _ h => h) (Or.inl ⟨by rfl, ?_⟩) (by assumption) ?_
            rotate_left 1
            · (intro w hSw; (try dsimp only at hSw); go_simp; (try with_reducible rfl))
            (try simp only [Act.put, List.setIfInBounds_toArray, List.set_cons_zero, List.set_cons_succ])
            refine wpAnyH_done (by kernel_rfl) ?_ _
            refine NoPanic.normal ?_
            have SW5 := Lib.hid (S0.out _ (Below.drew0 HB4.out))
            have HB4d := Lib.hid (Below.drew0 HB4.out)
            have v2 : (s4.toList == s4.toList) = true := by simp
            have v3 : (s4.toList != s4.toList) = false := by simp
            clear SW S4 v1
            go_wp2
            refine wp_region_noPanic ?_
            refine wp_region_held_drew (S := (fun w' : World => (w'.cell? ⟨b, off + k * 9, none⟩ = some (.int .u16 x.a) ∧ w'.cell? ⟨b, off + k * 9 + 1, none⟩ = some (.int .u8 x.d) ∧ w'.cell? ⟨b, off + k * 9 + 2, none⟩ = some (.bool x.r) ∧ w'.cell? ⟨b, off + k * 9 + 3, none⟩ = some (.bool x.b1) ∧ w'.cell? ⟨b, off + k * 9 + 4, none⟩ = some (.bool x.b2) ∧ w'.cell? ⟨b, off + k * 9 + 5, none⟩ = some (.bool x.b3) ∧ w'.cell? ⟨b, off + k * 9 + 6, none⟩ = some (.bool x.b4) ∧ w'.cell? ⟨b, off + k * 9 + 7, none⟩ = some (.bool x.b5) ∧ w'.cell? ⟨b, off + k * 9 + 8, none⟩ = some (.bool x.m)) ∧ (w'.cell? ⟨b', off' + k * 9, none⟩ = some (.int .u16 y.a) ∧ w'.cell? ⟨b', off' + k * 9 + 1, none⟩ = some (.int .u8 y.d) ∧ w'.cell? ⟨b', off' + k * 9 + 2, none⟩ = some (.bool y.r) ∧ w'.cell? ⟨b', off' + k * 9 + 3, none⟩ = some (.bool y.b1) ∧ w'.cell? ⟨b', off' + k * 9 + 4, none⟩ = some (.bool y.b2) ∧ w'.cell? ⟨b', off' + k * 9 + 5, none⟩ = some (.bool y.b3) ∧ w'.cell? ⟨b', off' + k * 9 + 6, none⟩ = some (.bool y.b4) ∧ w'.cell? ⟨b', off' + k * 9 + 7, none⟩ = some (.bool y.b5) ∧ w'.cell? ⟨b', off' + k * 9 + 8, none⟩ = some (.bool y.m)))) (by kernel_rfl) ?_ (fun hH0 => ?_)
            · (try dsimp only); with_reducible exact SW5.out
            refine wpAnyH_take (i := 0) (oi := ({ dst := some 83, op := Op.move (Operand.tmp 0), type := 22, pos := "law.go:51", after := #[], guard := none } : Oper)) (v := ?_) rfl (by kernel_rfl) (by kernel_rfl) (by kernel_rfl) (fun _ _ _ h => h) (Or.inl ⟨by rfl, ?_⟩) (by assumption) ?_
            rotate_left 1
            · (intro w hSw; (try dsimp only at hSw); go_simp; (try with_reducible rfl))
            (try simp only [Act.put, List.setIfInBounds_toArray, List.set_cons_zero, List.set_cons_succ])
            refine wpAnyH_take (i := 1) (oi := ({ dst := some 84, op := Op.move (Operand.tmp 10), type := 3, pos := "law.go:51", after := #[], guard := none } : Oper)) (v := ?_) rfl (by kernel_rfl) (by kernel_rfl) (by kernel_rfl) (fun _ _ _ h => h) (Or.inl ⟨by rfl, ?_⟩) (by assumption) ?_
            rotate_left 1
            · (intro w hSw; (try dsimp only at hSw); go_simp; (try with_reducible rfl))
            (try simp only [Act.put, List.setIfInBounds_toArray, List.set_cons_zero, List.set_cons_succ])
            refine wpAnyH_take (i := 2) (oi := ({ dst := some 85, op := Op.indexAddr 22 (Operand.tmp 83) (Operand.tmp 84), type := 0, pos := "law.go:51", after := #[{ on := 0, ground := Ground.data }, { on := 1, ground := Ground.data }], guard := none } : Oper)) (v := ?_) rfl (by kernel_rfl) (by kernel_rfl) (by kernel_rfl) (fun _ _ _ h => h) (Or.inl ⟨by rfl, ?_⟩) (by assumption) ?_
            rotate_left 1
            · (intro w hSw; (try dsimp only at hSw); go_simp; (try with_reducible rfl))
            (try simp only [Act.put, List.setIfInBounds_toArray, List.set_cons_zero, List.set_cons_succ])
            refine wpAnyH_take (i := 3) (oi := ({ dst := some 86, op := Op.load 26 (Operand.tmp 85), type := 26, pos := "law.go:51", after := #[{ on := 2, ground := Ground.data }], guard := none } : Oper)) (v := ?_) rfl (by kernel_rfl) (by kernel_rfl) (by kernel_rfl) (fun _ _ _ h => h) (Or.inl ⟨by rfl, ?_⟩) (by assumption) ?_
            rotate_left 1
            · (intro w hSw; (try dsimp only at hSw); go_simp; (try with_reducible rfl))
            (try simp only [Act.put, List.setIfInBounds_toArray, List.set_cons_zero, List.set_cons_succ])
            refine wpAnyH_take (i := 4) (oi := ({ dst := some 87, op := Op.move (Operand.tmp 1), type := 22, pos := "law.go:51", after := #[], guard := none } : Oper)) (v := ?_) rfl (by kernel_rfl) (by kernel_rfl) (by kernel_rfl) (fun _ _ _ h => h) (Or.inl ⟨by rfl, ?_⟩) (by assumption) ?_
            rotate_left 1
            · (intro w hSw; (try dsimp only at hSw); go_simp; (try with_reducible rfl))
            (try simp only [Act.put, List.setIfInBounds_toArray, List.set_cons_zero, List.set_cons_succ])
            refine wpAnyH_take (i := 5) (oi := ({ dst := some 88, op := Op.move (Operand.tmp 10), type := 3, pos := "law.go:51", after := #[], guard := none } : Oper)) (v := ?_) rfl (by kernel_rfl) (by kernel_rfl) (by kernel_rfl) (fun _ _ _ h => h) (Or.inl ⟨by rfl, ?_⟩) (by assumption) ?_
            rotate_left 1
            · (intro w hSw; (try dsimp only at hSw); go_simp; (try with_reducible rfl))
            (try simp only [Act.put, List.setIfInBounds_toArray, List.set_cons_zero, List.set_cons_succ])
            refine wpAnyH_take (i := 6) (oi := ({ dst := some 89, op := Op.indexAddr 22 (Operand.tmp 87) (Operand.tmp 88), type := 0, pos := "law.go:51", after := #[{ on := 4, ground := Ground.data }, { on := 5, ground := Ground.data }], guard := none } : Oper)) (v := ?_) rfl (by kernel_rfl) (by kernel_rfl) (by kernel_rfl) (fun _ _ _ h => h) (Or.inl ⟨by rfl, ?_⟩) (by assumption) ?_
            rotate_left 1
            · (intro w hSw; (try dsimp only at hSw); go_simp; (try with_reducible rfl))
            (try simp only [Act.put, List.setIfInBounds_toArray, List.set_cons_zero, List.set_cons_succ])
            refine wpAnyH_take (i := 7) (oi := ({ dst := some 90, op := Op.load 26 (Operand.tmp 89), type := 26, pos := "law.go:51", after := #[{ on := 6, ground := Ground.data }], guard := none } : Oper)) (v := ?_) rfl (by kernel_rfl) (by kernel_rfl) (by kernel_rfl) (fun _ _ _ h => h) (Or.inl ⟨by rfl, ?_⟩) (by assumption) ?_
            rotate_left 1
            · (intro w hSw; (try dsimp only at hSw); go_simp; (try with_reducible rfl))
            (try simp only [Act.put, List.setIfInBounds_toArray, List.set_cons_zero, List.set_cons_succ])
            refine wpAnyH_take (i := 9) (oi := ({ dst := some 92, op := Op.move (Operand.tmp 0), type := 22, pos := "law.go:51", after := #[], guard := none } : Oper)) (v := ?_) rfl (by kernel_rfl) (by kernel_rfl) (by kernel_rfl) (fun _ _ _ h => h) (Or.inl ⟨by rfl, ?_⟩) (by assumption) ?_
            rotate_left 1
            · (intro w hSw; (try dsimp only at hSw); go_simp; (try with_reducible rfl))
            (try simp only [Act.put, List.setIfInBounds_toArray, List.set_cons_zero, List.set_cons_succ])
            refine wpAnyH_take (i := 10) (oi := ({ dst := some 93, op := Op.move (Operand.tmp 10), type := 3, pos := "law.go:51", after := #[], guard := none } : Oper)) (v := ?_) rfl (by kernel_rfl) (by kernel_rfl) (by kernel_rfl) (fun _ _ _ h => h) (Or.inl ⟨by rfl, ?_⟩) (by assumption) ?_
            rotate_left 1
            · (intro w hSw; (try dsimp only at hSw); go_simp; (try with_reducible rfl))
            (try simp only [Act.put, List.setIfInBounds_toArray, List.set_cons_zero, List.set_cons_succ])
            refine wpAnyH_take (i := 11) (oi := ({ dst := some 94, op := Op.indexAddr 22 (Operand.tmp 92) (Operand.tmp 93), type := 0, pos := "law.go:51", after := #[{ on := 9, ground := Ground.data }, { on := 10, ground := Ground.data }], guard := none } : Oper)) (v := ?_) rfl (by kernel_rfl) (by kernel_rfl) (by kernel_rfl) (fun _ _ _ h => h) (Or.inl ⟨by rfl, ?_⟩) (by assumption) ?_
            rotate_left 1
            · (intro w hSw; (try dsimp only at hSw); go_simp; (try with_reducible rfl))
            (try simp only [Act.put, List.setIfInBounds_toArray, List.set_cons_zero, List.set_cons_succ])
            refine wpAnyH_take (i := 12) (oi := ({ dst := some 95, op := Op.load 26 (Operand.tmp 94), type := 26, pos := "law.go:51", after := #[{ on := 11, ground := Ground.data }], guard := none } : Oper)) (v := ?_) rfl (by kernel_rfl) (by kernel_rfl) (by kernel_rfl) (fun _ _ _ h => h) (Or.inl ⟨by rfl, ?_⟩) (by assumption) ?_
            rotate_left 1
            · (intro w hSw; (try dsimp only at hSw); go_simp; (try with_reducible rfl))
            (try simp only [Act.put, List.setIfInBounds_toArray, List.set_cons_zero, List.set_cons_succ])
            refine wpAnyH_take (i := 13) (oi := ({ dst := some 96, op := Op.move (Operand.tmp 1), type := 22, pos := "law.go:51", after := #[], guard := none } : Oper)) (v := ?_) rfl (by kernel_rfl) (by kernel_rfl) (by kernel_rfl) (fun _ _ _ h => h) (Or.inl ⟨by rfl, ?_⟩) (by assumption) ?_
            rotate_left 1
            · (intro w hSw; (try dsimp only at hSw); go_simp; (try with_reducible rfl))
            (try simp only [Act.put, List.setIfInBounds_toArray, List.set_cons_zero, List.set_cons_succ])
            refine wpAnyH_take (i := 14) (oi := ({ dst := some 97, op := Op.move (Operand.tmp 10), type := 3, pos := "law.go:51", after := #[], guard := none } : Oper)) (v := ?_) rfl (by kernel_rfl) (by kernel_rfl) (by kernel_rfl) (fun _ _ _ h => h) (Or.inl ⟨by rfl, ?_⟩) (by assumption) ?_
            rotate_left 1
            · (intro w hSw; (try dsimp only at hSw); go_simp; (try with_reducible rfl))
            (try simp only [Act.put, List.setIfInBounds_toArray, List.set_cons_zero, List.set_cons_succ])
            refine wpAnyH_take (i := 15) (oi := ({ dst := some 98, op := Op.indexAddr 22 (Operand.tmp 96) (Operand.tmp 97), type := 0, pos := "law.go:51", after := #[{ on := 13, ground := Ground.data }, { on := 14, ground := Ground.data }], guard := none } : Oper)) (v := ?_) rfl (by kernel_rfl) (by kernel_rfl) (by kernel_rfl) (fun _ _ _ h => h) (Or.inl ⟨by rfl, ?_⟩) (by assumption) ?_
            rotate_left 1
            · (intro w hSw; (try dsimp only at hSw); go_simp; (try with_reducible rfl))
            (try simp only [Act.put, List.setIfInBounds_toArray, List.set_cons_zero, List.set_cons_succ])
            refine wpAnyH_take (i := 16) (oi := ({ dst := some 99, op := Op.load 26 (Operand.tmp 98), type := 26, pos := "law.go:51", after := #[{ on := 15, ground := Ground.data }], guard := none } : Oper)) (v := ?_) rfl (by kernel_rfl) (by kernel_rfl) (by kernel_rfl) (fun _ _ _ h => h) (Or.inl ⟨by rfl, ?_⟩) (by assumption) ?_
            rotate_left 1
            · (intro w hSw; (try dsimp only at hSw); go_simp; (try with_reducible rfl))
            (try simp only [Act.put, List.setIfInBounds_toArray, List.set_cons_zero, List.set_cons_succ])
            refine wpAnyH_ready (rs := [8]) (by kernel_rfl) (by simp) ?_
            refine AllReadyH.cons (o := ({ dst := some 91, op := Op.call { callee := Callee.value (Operand.func 14), args := #[Operand.tmp 86, Operand.tmp 90], argTypes := #[26, 26] }, type := 9, pos := "law.go:51", after := #[{ on := 3, ground := Ground.data }, { on := 7, ground := Ground.data }], guard := none } : Oper)) rfl (fun K hK => ?_) ?_
            rotate_left 1
            · exact AllReadyH.nil
            go_simp
            go_at_call 14
            ((with_reducible refine (CP.out _).mono ?_); rintro e w5 ⟨rfl, hb5⟩; have HB5 := Lib.hid (Below.trans0 HB4d.out hb5); have S5 := Lib.hid (S0.out _ HB5.out); clear hb5)
            first | (refine hK.out _ _ ?_ (fun hH1 => ?_)) | (go_wp2_with fail; refine hK.out _ _ ?_ (fun hH1 => ?_))
            · (try dsimp only); with_reducible exact S5.out
            clear hK K hH0
            (try simp only [Act.put, List.setIfInBounds_toArray, List.set_cons_zero, List.set_cons_succ])
            refine wpAnyH_ready (rs := [17]) (by kernel_rfl) (by simp) ?_
            refine AllReadyH.cons (o := ({ dst := some 100, op := Op.call { callee := Callee.value (Operand.func 13), args := #[Operand.tmp 95, Operand.tmp 99], argTypes := #[26, 26] }, type := 9, pos := "law.go:51", after := #[{ on := 12, ground := Ground.data }, { on := 16, ground := Ground.data }, { on := 8, ground := Ground.chain }], guard := none } : Oper)) rfl (fun K hK => ?_) ?_
            rotate_left 1
            · exact AllReadyH.nil
            go_simp
            go_at_call 13
            ((with_reducible refine (CW.out _).mono ?_); rintro e w6 ⟨rfl, hb6⟩; have HB6 := Lib.hid (Below.trans0 HB5.out hb6); have S6 := Lib.hid (S0.out _ HB6.out); clear hb6)
            first | (refine hK.out _ _ ?_ (fun hH2 => ?_)) | (go_wp2_with fail; refine hK.out _ _ ?_ (fun hH2 => ?_))
            · (try dsimp only); with_reducible exact S6.out
            clear hK K hH1
            (try simp only [Act.put, List.setIfInBounds_toArray, List.set_cons_zero, List.set_cons_succ])
            refine wpAnyH_take (i := 18) (oi := ({ dst := some 101, op := Op.binOp BinOp.neq 9 (Operand.tmp 91) (Operand.tmp 100) 9, type := 4, pos := "law.go:51", after := #[{ on := 8, ground := Ground.data }, { on := 17, ground := Ground.data }], guard := none } : Oper)) (v := ?_) rfl (by kernel_rfl) (by kernel_rfl) (by kernel_rfl) (fun _ _ _ h => h) (Or.inl ⟨by rfl, ?_⟩) (by assumption) ?_
            rotate_left 1
            · (intro w hSw; (try dsimp only at hSw); go_simp; (try with_reducible rfl))
            (try simp only [Act.put, List.setIfInBounds_toArray, List.set_cons_zero, List.set_cons_succ])
            refine wpAnyH_done (by kernel_rfl) ?_ _
            refine NoPanic.normal ?_
            clear SW5 S5 S6

            obtain ⟨d, hd⟩ : ∃ z, strOfNums (written 10 (k : Int) 1) = z := ⟨_, rfl⟩
            unfold decS at z1 HE
            rw [hd] at z1 HE CD
            clear hd
            have y1 : ¬ 9223372036854775807 < d.size + (⟨#[58, 32]⟩ : ByteArray).size := by have : (⟨#[58, 32]⟩ : ByteArray).size = 2 := rfl; omega
            have y2 : ¬ 9223372036854775807 < (d ++ ⟨#[58, 32]⟩).size + s2.size := by have : (⟨#[58, 32]⟩ : ByteArray).size = 2 := rfl; simp only [ByteArray.size_append]; omega
            have y3 : ¬ 9223372036854775807 < ((d ++ ⟨#[58, 32]⟩) ++ s2).size + (⟨#[32, 47, 32]⟩ : ByteArray).size := by have : (⟨#[58, 32]⟩ : ByteArray).size = 2 := rfl; have : (⟨#[32, 47, 32]⟩ : ByteArray).size = 3 := rfl; simp only [ByteArray.size_append]; omega
            have y4 : ¬ 9223372036854775807 < (((d ++ ⟨#[58, 32]⟩) ++ s2) ++ ⟨#[32, 47, 32]⟩).size + s3.size := by have : (⟨#[58, 32]⟩ : ByteArray).size = 2 := rfl; have : (⟨#[32, 47, 32]⟩ : ByteArray).size = 3 := rfl; simp only [ByteArray.size_append]; omega
            have y5 : ¬ 9223372036854775807 < ((((d ++ ⟨#[58, 32]⟩) ++ s2) ++ ⟨#[32, 47, 32]⟩) ++ s3).size + (⟨#[32]⟩ ++ s4).size := by have : (⟨#[58, 32]⟩ : ByteArray).size = 2 := rfl; have : (⟨#[32, 47, 32]⟩ : ByteArray).size = 3 := rfl; simp only [ByteArray.size_append] at *; omega
            have y6 : ¬ 9223372036854775807 < (((((d ++ ⟨#[58, 32]⟩) ++ s2) ++ ⟨#[32, 47, 32]⟩) ++ s3) ++ (⟨#[32]⟩ ++ s4)).size + (⟨#[10]⟩ : ByteArray).size := by have : (⟨#[58, 32]⟩ : ByteArray).size = 2 := rfl; have : (⟨#[32, 47, 32]⟩ : ByteArray).size = 3 := rfl; have : (⟨#[10]⟩ : ByteArray).size = 1 := rfl; simp only [ByteArray.size_append] at *; omega
            have y7 : ¬ 9223372036854775807 < T.size + ((((((d ++ ⟨#[58, 32]⟩) ++ s2) ++ ⟨#[32, 47, 32]⟩) ++ s3) ++ (⟨#[32]⟩ ++ s4)) ++ ⟨#[10]⟩).size := by have : (⟨#[58, 32]⟩ : ByteArray).size = 2 := rfl; have : (⟨#[32, 47, 32]⟩ : ByteArray).size = 3 := rfl; have : (⟨#[10]⟩ : ByteArray).size = 1 := rfl; simp only [ByteArray.size_append] at *; omega
            have HEx := Lib.hid HE
            clear HE z1 z2 z3 z4
            by_cases hf : fp < 0
            · have E1x : Hid (fsP l m (k + 1) = (k : Int)) := Lib.hid (by rw [E1.out, if_pos hf])
              by_cases hm1 : (cp : Int) < a2
              · have E4x := Lib.hid (E4.out hm1)
                clear E1 E4 E5
                go_wp2_with fail
                refine (CD.out _).mono ?_
                rintro e wD ⟨rfl, hwD⟩
                subst hwD
                go_wp2
                go_roundw
                case rel => exact ⟨k + 1, by omega, by go_num, by rw [E1x.out], by rw [E2.out]; (try go_num), by rw [E4x.out, HEx.out], HB6⟩
                case measure => simp [intOf]; omega
              · have E5x := Lib.hid (E5.out (Int.not_lt.1 hm1))
                clear E1 E4 E5 y1 y2 y3 y4 y5 y6 y7
                go_wp2
                go_roundw
                case rel => exact ⟨k + 1, by omega, by go_num, by rw [E1x.out], by rw [E2.out]; (try go_num), by rw [E5x.out], HB6⟩
                case measure => simp [intOf]; omega
            · have E1x : Hid (fsP l m (k + 1) = fp) := Lib.hid (by rw [E1.out, if_neg hf])
              by_cases hm1 : (cp : Int) < a2
              · have E4x := Lib.hid (E4.out hm1)
                clear E1 E4 E5
                go_wp2_with fail
                refine (CD.out _).mono ?_
                rintro e wD ⟨rfl, hwD⟩
                subst hwD
                go_wp2
                go_roundw
                case rel => exact ⟨k + 1, by omega, by go_num, by rw [E1x.out], by rw [E2.out]; (try go_num), by rw [E4x.out, HEx.out], HB6⟩
                case measure => simp [intOf]; omega
              · have E5x := Lib.hid (E5.out (Int.not_lt.1 hm1))
                clear E1 E4 E5 y1 y2 y3 y4 y5 y6 y7
                go_wp2
                go_roundw
                case rel => exact ⟨k + 1, by omega, by go_num, by rw [E1x.out], by rw [E2.out]; (try go_num), by rw [E5x.out], HB6⟩
                case measure => simp [intOf]; omega
        · have t2 : ¬ (k : Int) < len1 := by omega
          obtain ⟨b, off, rfl, hgb, hcell⟩ := HC.out (by omega)
          obtain ⟨x, hx'⟩ : ∃ x, l[k]? = some x := ⟨_, List.getElem?_eq_getElem (by rw [HL.out]; exact hb1)⟩
          have hy' : m[k]? = none := List.getElem?_eq_none (by rw [HL'.out]; omega)
          obtain ⟨p0, p1, p2, p3, p4, p5, p6, p7, p8⟩ := rc9_at hB.out hgb (fun jj u hu => hcell k x hx' jj u hu)
          have CTX := Lib.hid (fun u => rcText_any x (HOK.out x (List.mem_of_getElem? hx')) u)
          have eD := dfB_one l m k (by rw [HL.out]; exact .inl hb1) (by rw [HL'.out]; exact fun q => hb2 q.2)
          have eX : txS l k = strOfNums (txN x) := by unfold txS; rw [hx']
          have eY : txS m k = ⟨#[45]⟩ := by unfold txS; rw [hy']
          have eW : wtS l m k = ⟨#[]⟩ := by unfold wtS; rw [hx', hy']
          rw [eX] at z2 HE
          rw [eY] at z3 HE
          rw [eW] at z4 HE
          rw [eD] at RY RN CN FN
          obtain ⟨s2, hs2⟩ : ∃ z, strOfNums (txN x) = z := ⟨_, rfl⟩
          rw [hs2] at z2 HE CTX
          have E1 : Hid (fsP l m (k + 1) = if fsP l m k < 0 then (k : Int) else fsP l m k) := Lib.hid (by rw [FN]; by_cases q : fsP l m k < 0 <;> simp [q])
          have E2 : Hid (ctD l m (k + 1) = ctD l m k + 1) := Lib.hid (by rw [CN]; rfl)
          have E4 : Hid ((ctD l m k : Int) < a2 → (repS l m a2 (k + 1)).1 = (repS l m a2 k).1 ++ lnS l m k) := Lib.hid (fun q => by
            have h0 : 0 < (repS l m a2 k).2 := by have := RM; rw [decide_eq_true q] at this; exact of_decide_eq_true this
            rw [RY h0 rfl])
          have E5 : Hid (a2 ≤ (ctD l m k : Int) → (repS l m a2 (k + 1)).1 = (repS l m a2 k).1) := Lib.hid (fun q => by
            have h0 : ¬ 0 < (repS l m a2 k).2 := by have := RM; rw [decide_eq_false (Int.not_lt.2 q)] at this; exact of_decide_eq_false this
            rw [RS h0 1])
          clear RY RN CN FN RM RS
          generalize fsP l m k = fp at *
          generalize ctD l m k = cp at *
          obtain ⟨T, hT⟩ : ∃ T, (repS l m a2 k).1 = T := ⟨_, rfl⟩
          rw [hT] at ZT E4 E5 ⊢
          clear hT
          clear hcell hx' hy' eD eX eY eW hs2
          go_wp2_with fail
          refine (CTX.out _).mono ?_
          rintro e w1 ⟨rfl, hb⟩
          have HB1 := Lib.hid (Below.trans0 hB.out hb)
          clear p0 p1 p2 p3 p4 p5 p6 p7 p8 hb
          obtain ⟨d, hd⟩ : ∃ z, strOfNums (written 10 (k : Int) 1) = z := ⟨_, rfl⟩
          unfold decS at z1 HE
          rw [hd] at z1 HE CD
          clear hd
          have y1 : ¬ 9223372036854775807 < d.size + (⟨#[58, 32]⟩ : ByteArray).size := by have : (⟨#[58, 32]⟩ : ByteArray).size = 2 := rfl; omega
          have y2 : ¬ 9223372036854775807 < (d ++ ⟨#[58, 32]⟩).size + s2.size := by have : (⟨#[58, 32]⟩ : ByteArray).size = 2 := rfl; simp only [ByteArray.size_append]; omega
          have y3 : ¬ 9223372036854775807 < ((d ++ ⟨#[58, 32]⟩) ++ s2).size + (⟨#[32, 47, 32]⟩ : ByteArray).size := by have : (⟨#[58, 32]⟩ : ByteArray).size = 2 := rfl; have : (⟨#[32, 47, 32]⟩ : ByteArray).size = 3 := rfl; simp only [ByteArray.size_append]; omega
          have y4 : ¬ 9223372036854775807 < (((d ++ ⟨#[58, 32]⟩) ++ s2) ++ ⟨#[32, 47, 32]⟩).size + (⟨#[45]⟩ : ByteArray).size := by have : (⟨#[58, 32]⟩ : ByteArray).size = 2 := rfl; have : (⟨#[32, 47, 32]⟩ : ByteArray).size = 3 := rfl; simp only [ByteArray.size_append]; omega
          have y5 : ¬ 9223372036854775807 < ((((d ++ ⟨#[58, 32]⟩) ++ s2) ++ ⟨#[32, 47, 32]⟩) ++ (⟨#[45]⟩ : ByteArray)).size + (⟨#[]⟩ : ByteArray).size := by have : (⟨#[58, 32]⟩ : ByteArray).size = 2 := rfl; have : (⟨#[32, 47, 32]⟩ : ByteArray).size = 3 := rfl; simp only [ByteArray.size_append] at *; omega
          have y6 : ¬ 9223372036854775807 < (((((d ++ ⟨#[58, 32]⟩) ++ s2) ++ ⟨#[32, 47, 32]⟩) ++ (⟨#[45]⟩ : ByteArray)) ++ (⟨#[]⟩ : ByteArray)).size + (⟨#[10]⟩ : ByteArray).size := by have : (⟨#[58, 32]⟩ : ByteArray).size = 2 := rfl; have : (⟨#[32, 47, 32]⟩ : ByteArray).size = 3 := rfl; have : (⟨#[10]⟩ : ByteArray).size = 1 := rfl; simp only [ByteArray.size_append] at *; omega
          have y7 : ¬ 9223372036854775807 < T.size + ((((((d ++ ⟨#[58, 32]⟩) ++ s2) ++ ⟨#[32, 47, 32]⟩) ++ (⟨#[45]⟩ : ByteArray)) ++ (⟨#[]⟩ : ByteArray)) ++ ⟨#[10]⟩).size := by have : (⟨#[58, 32]⟩ : ByteArray).size = 2 := rfl; have : (⟨#[32, 47, 32]⟩ : ByteArray).size = 3 := rfl; have : (⟨#[10]⟩ : ByteArray).size = 1 := rfl; simp only [ByteArray.size_append] at *; omega
          have HEx := Lib.hid HE
          clear HE z1 z2 z3 z4
          by_cases hf : fp < 0
          · have E1x : Hid (fsP l m (k + 1) = (k : Int)) := Lib.hid (by rw [E1.out, if_pos hf])
            by_cases hm1 : (cp : Int) < a2
            · have E4x := Lib.hid (E4.out hm1)
              clear E1 E4 E5
              go_wp2_with fail
              refine (CD.out _).mono ?_
              rintro e wD ⟨rfl, hwD⟩
              subst hwD
              go_wp2
              go_roundw
              case rel => exact ⟨k + 1, by omega, by go_num, by rw [E1x.out], by rw [E2.out]; (try go_num), by rw [E4x.out, HEx.out], HB1⟩
              case measure => simp [intOf]; omega
            · have E5x := Lib.hid (E5.out (Int.not_lt.1 hm1))
              clear E1 E4 E5 y1 y2 y3 y4 y5 y6 y7
              go_wp2
              go_roundw
              case rel => exact ⟨k + 1, by omega, by go_num, by rw [E1x.out], by rw [E2.out]; (try go_num), by rw [E5x.out], HB1⟩
              case measure => simp [intOf]; omega
          · have E1x : Hid (fsP l m (k + 1) = fp) := Lib.hid (by rw [E1.out, if_neg hf])
            by_cases hm1 : (cp : Int) < a2
            · have E4x := Lib.hid (E4.out hm1)
              clear E1 E4 E5
              go_wp2_with fail
              refine (CD.out _).mono ?_
              rintro e wD ⟨rfl, hwD⟩
              subst hwD
              go_wp2
              go_roundw
              case rel => exact ⟨k + 1, by omega, by go_num, by rw [E1x.out], by rw [E2.out]; (try go_num), by rw [E4x.out, HEx.out], HB1⟩
              case measure => simp [intOf]; omega
            · have E5x := Lib.hid (E5.out (Int.not_lt.1 hm1))
              clear E1 E4 E5 y1 y2 y3 y4 y5 y6 y7
              go_wp2
              go_roundw
              case rel => exact ⟨k + 1, by omega, by go_num, by rw [E1x.out], by rw [E2.out]; (try go_num), by rw [E5x.out], HB1⟩
              case measure => simp [intOf]; omega
      · have t1 : ¬ (k : Int) < len0 := by omega
        have hb2 : k < len1 := by
          have := (HMX.out k).1 hlt
          rw [HL.out, HL'.out] at this
          exact this.resolve_left hb1
        have t2 : (k : Int) < len1 := by omega
        obtain ⟨b, off, rfl, hgb, hcell⟩ := HC'.out (by omega)
        obtain ⟨x, hx'⟩ : ∃ x, m[k]? = some x := ⟨_, List.getElem?_eq_getElem (by rw [HL'.out]; exact hb2)⟩
        have hy' : l[k]? = none := List.getElem?_eq_none (by rw [HL.out]; omega)
        obtain ⟨p0, p1, p2, p3, p4, p5, p6, p7, p8⟩ := rc9_at hB.out hgb (fun jj u hu => hcell k x hx' jj u hu)
        have CTX := Lib.hid (fun u => rcText_any x (HOK'.out x (List.mem_of_getElem? hx')) u)
        have eD := dfB_one l m k (by rw [HL'.out]; exact .inr hb2) (by rw [HL.out]; exact fun q => hb1 q.1)
        have eX : txS m k = strOfNums (txN x) := by unfold txS; rw [hx']
        have eY : txS l k = ⟨#[45]⟩ := by unfold txS; rw [hy']
        have eW : wtS l m k = ⟨#[]⟩ := by unfold wtS; rw [hx', hy']
        rw [eX] at z3 HE
        rw [eY] at z2 HE
        rw [eW] at z4 HE
        rw [eD] at RY RN CN FN
        obtain ⟨s3, hs3⟩ : ∃ z, strOfNums (txN x) = z := ⟨_, rfl⟩
        rw [hs3] at z3 HE CTX
        have E1 : Hid (fsP l m (k + 1) = if fsP l m k < 0 then (k : Int) else fsP l m k) := Lib.hid (by rw [FN]; by_cases q : fsP l m k < 0 <;> simp [q])
        have E2 : Hid (ctD l m (k + 1) = ctD l m k + 1) := Lib.hid (by rw [CN]; rfl)
        have E4 : Hid ((ctD l m k : Int) < a2 → (repS l m a2 (k + 1)).1 = (repS l m a2 k).1 ++ lnS l m k) := Lib.hid (fun q => by
          have h0 : 0 < (repS l m a2 k).2 := by have := RM; rw [decide_eq_true q] at this; exact of_decide_eq_true this
          rw [RY h0 rfl])
        have E5 : Hid (a2 ≤ (ctD l m k : Int) → (repS l m a2 (k + 1)).1 = (repS l m a2 k).1) := Lib.hid (fun q => by
          have h0 : ¬ 0 < (repS l m a2 k).2 := by have := RM; rw [decide_eq_false (Int.not_lt.2 q)] at this; exact of_decide_eq_false this
          rw [RS h0 1])
        clear RY RN CN FN RM RS
        generalize fsP l m k = fp at *
        generalize ctD l m k = cp at *
        obtain ⟨T, hT⟩ : ∃ T, (repS l m a2 k).1 = T := ⟨_, rfl⟩
        rw [hT] at ZT E4 E5 ⊢
        clear hT
        clear hcell hx' hy' eD eX eY eW hs3
        go_wp2_with fail
        refine (CTX.out _).mono ?_
        rintro e w1 ⟨rfl, hb⟩
        have HB1 := Lib.hid (Below.trans0 hB.out hb)
        clear p0 p1 p2 p3 p4 p5 p6 p7 p8 hb
        obtain ⟨d, hd⟩ : ∃ z, strOfNums (written 10 (k : Int) 1) = z := ⟨_, rfl⟩
        unfold decS at z1 HE
        rw [hd] at z1 HE CD
        clear hd
        have y1 : ¬ 9223372036854775807 < d.size + (⟨#[58, 32]⟩ : ByteArray).size := by have : (⟨#[58, 32]⟩ : ByteArray).size = 2 := rfl; omega
        have y2 : ¬ 9223372036854775807 < (d ++ ⟨#[58, 32]⟩).size + (⟨#[45]⟩ : ByteArray).size := by have : (⟨#[58, 32]⟩ : ByteArray).size = 2 := rfl; simp only [ByteArray.size_append]; omega
        have y3 : ¬ 9223372036854775807 < ((d ++ ⟨#[58, 32]⟩) ++ (⟨#[45]⟩ : ByteArray)).size + (⟨#[32, 47, 32]⟩ : ByteArray).size := by have : (⟨#[58, 32]⟩ : ByteArray).size = 2 := rfl; have : (⟨#[32, 47, 32]⟩ : ByteArray).size = 3 := rfl; simp only [ByteArray.size_append]; omega
        have y4 : ¬ 9223372036854775807 < (((d ++ ⟨#[58, 32]⟩) ++ (⟨#[45]⟩ : ByteArray)) ++ ⟨#[32, 47, 32]⟩).size + s3.size := by have : (⟨#[58, 32]⟩ : ByteArray).size = 2 := rfl; have : (⟨#[32, 47, 32]⟩ : ByteArray).size = 3 := rfl; simp only [ByteArray.size_append]; omega
        have y5 : ¬ 9223372036854775807 < ((((d ++ ⟨#[58, 32]⟩) ++ (⟨#[45]⟩ : ByteArray)) ++ ⟨#[32, 47, 32]⟩) ++ s3).size + (⟨#[]⟩ : ByteArray).size := by have : (⟨#[58, 32]⟩ : ByteArray).size = 2 := rfl; have : (⟨#[32, 47, 32]⟩ : ByteArray).size = 3 := rfl; simp only [ByteArray.size_append] at *; omega
        have y6 : ¬ 9223372036854775807 < (((((d ++ ⟨#[58, 32]⟩) ++ (⟨#[45]⟩ : ByteArray)) ++ ⟨#[32, 47, 32]⟩) ++ s3) ++ (⟨#[]⟩ : ByteArray)).size + (⟨#[10]⟩ : ByteArray).size := by have : (⟨#[58, 32]⟩ : ByteArray).size = 2 := rfl; have : (⟨#[32, 47, 32]⟩ : ByteArray).size = 3 := rfl; have : (⟨#[10]⟩ : ByteArray).size = 1 := rfl; simp only [ByteArray.size_append] at *; omega
        have y7 : ¬ 9223372036854775807 < T.size + ((((((d ++ ⟨#[58, 32]⟩) ++ (⟨#[45]⟩ : ByteArray)) ++ ⟨#[32, 47, 32]⟩) ++ s3) ++ (⟨#[]⟩ : ByteArray)) ++ ⟨#[10]⟩).size := by have : (⟨#[58, 32]⟩ : ByteArray).size = 2 := rfl; have : (⟨#[32, 47, 32]⟩ : ByteArray).size = 3 := rfl; have : (⟨#[10]⟩ : ByteArray).size = 1 := rfl; simp only [ByteArray.size_append] at *; omega
        have HEx := Lib.hid HE
        clear HE z1 z2 z3 z4
        by_cases hf : fp < 0
        · have E1x : Hid (fsP l m (k + 1) = (k : Int)) := Lib.hid (by rw [E1.out, if_pos hf])
          by_cases hm1 : (cp : Int) < a2
          · have E4x := Lib.hid (E4.out hm1)
            clear E1 E4 E5
            go_wp2_with fail
            refine (CD.out _).mono ?_
            rintro e wD ⟨rfl, hwD⟩
            subst hwD
            go_wp2
            go_roundw
            case rel => exact ⟨k + 1, by omega, by go_num, by rw [E1x.out], by rw [E2.out]; (try go_num), by rw [E4x.out, HEx.out], HB1⟩
            case measure => simp [intOf]; omega
          · have E5x := Lib.hid (E5.out (Int.not_lt.1 hm1))
            clear E1 E4 E5 y1 y2 y3 y4 y5 y6 y7
            go_wp2
            go_roundw
            case rel => exact ⟨k + 1, by omega, by go_num, by rw [E1x.out], by rw [E2.out]; (try go_num), by rw [E5x.out], HB1⟩
            case measure => simp [intOf]; omega
        · have E1x : Hid (fsP l m (k + 1) = fp) := Lib.hid (by rw [E1.out, if_neg hf])
          by_cases hm1 : (cp : Int) < a2
          · have E4x := Lib.hid (E4.out hm1)
            clear E1 E4 E5
            go_wp2_with fail
            refine (CD.out _).mono ?_
            rintro e wD ⟨rfl, hwD⟩
            subst hwD
            go_wp2
            go_roundw
            case rel => exact ⟨k + 1, by omega, by go_num, by rw [E1x.out], by rw [E2.out]; (try go_num), by rw [E4x.out, HEx.out], HB1⟩
            case measure => simp [intOf]; omega
          · have E5x := Lib.hid (E5.out (Int.not_lt.1 hm1))
            clear E1 E4 E5 y1 y2 y3 y4 y5 y6 y7
            go_wp2
            go_roundw
            case rel => exact ⟨k + 1, by omega, by go_num, by rw [E1x.out], by rw [E2.out]; (try go_num), by rw [E5x.out], HB1⟩
            case measure => simp [intOf]; omega

    · have hk1 : ¬ (k < l.length ∨ k < m.length) := fun q => hlt ((HMX.out k).2 q)
      rw [HL.out, HL'.out] at hk1
      have t1 : ¬ k < len0 := fun q => hk1 (.inl q)
      have t2 : ¬ k < len1 := fun q => hk1 (.inr q)
      have t3 : ¬ (k : Int) < len0 := by omega
      have t4 : ¬ (k : Int) < len1 := by omega
      obtain rfl : k = M := by omega
      clear hk1 hlt HMX
      generalize fsP l m k = fp at *
      generalize ctD l m k = cp at *
      obtain ⟨T, hT⟩ : ∃ T, (repS l m a2 k).1 = T := ⟨_, rfl⟩
      rw [hT] at CR ZT ⊢
      clear hT
      obtain ⟨wo, rfl⟩ : ∃ wo : World, wo = wr := ⟨_, rfl⟩
      go_wp2
      go_loopw [14, 15] (fun s i wr => ∃ k : Nat, k ≤ len0 ∧ i = .int .i64 k ∧ Hid (eR.Own 26 wr w.heap.size s (ownL (l.take k))) ∧ Hid (Below w.heap.size w wr)) (fun _ i _ => len0 - (intOf i).toNat)
      case atStart => exact ⟨0, Nat.zero_le _, rfl, Lib.hid (Els.Own.nil_ _ _), hB⟩
      case round =>
        obtain ⟨j, hj, rfl, hO, hB2⟩ := hrel
        by_cases hlt : j < len0
        · obtain ⟨g, off, rfl, hg, hcell⟩ := HC.out (by omega)
          obtain ⟨x, hx⟩ : ∃ x, l[j]? = some x := ⟨_, List.getElem?_eq_getElem (by rw [HL.out]; exact hlt)⟩
          obtain ⟨d0, d1, d2, d3, d4, d5, d6, d7, d8⟩ := rc9_at hB2.out hg (fun jj u hu => hcell j x hx jj u hu)
          have NX := Lib.hid (ownL_next l j x hx)
          have LN := ownL_len l j
          have j0 : (0 : Int) ≤ j := by omega
          have j1 : (j : Int) < len0 := by omega
          obtain ⟨L, hL⟩ : ∃ L, ownL (l.take j) = L := ⟨_, rfl⟩
          rw [hL] at hO NX LN
          clear hcell hx hL
          obtain ⟨a, d, r, b1, b2, b3, b4, b5, mn⟩ := x
          simp only at d0 d1 d2 d3 d4 d5 d6 d7 d8 NX
          cases mn
          case false =>
            go_wp2
            go_roundw
            case rel => exact ⟨j + 1, by omega, by go_num, by rw [NX.out]; first | exact hO | (rw [List.append_nil]; exact hO) | (rw [if_neg (by decide), List.append_nil]; exact hO), hB2⟩
            case measure => simp [intOf]; omega
          case true =>
            have HBx := Lib.hid (Below.alloc0 hB2.out (.cells #[.int .u16 a, .int .u8 d, .bool r, .bool b1, .bool b2, .bool b3, .bool b4, .bool b5, .bool true] 26))
            have HOx := Lib.hid (hO.out.alloc (.cells #[.int .u16 a, .int .u8 d, .bool r, .bool b1, .bool b2, .bool b3, .bool b4, .bool b5, .bool true] 26))
            have HRx : Hid (eR.Rd (wr.alloc (.cells #[.int .u16 a, .int .u8 d, .bool r, .bool b1, .bool b2, .bool b3, .bool b4, .bool b5, .bool true] 26)) (.slice (some ⟨wr.heap.size, 0, none⟩) 1 1) [⟨a, d, r, b1, b2, b3, b4, b5, true⟩]) := Lib.hid (Els.Rd.lit (E := eR) wr _ [⟨a, d, r, b1, b2, b3, b4, b5, true⟩] _ 1 rfl rfl 1)
            have CE : Hid (w.heap.size ≤ wr.heap.size) := Lib.hid hB2.out.size
            go_wp2_with (at_builtin; refine wpList_appRc rfl _ (.tmp 135) (.tmp 140) rfl w.heap.size u14 _ L _ rfl HOx.out rfl HRx.out (by first | omega | (simp; omega)) (by have := CE.out; first | omega | (simp; omega)) ?_; intro v' w2 hown hbel hgr hwh; have HO3 := Lib.hid hown; have HB3 := Lib.hid (Below.trans HBx.out hbel); clear hown hbel hgr hwh)
            go_roundw
            case rel => exact ⟨j + 1, by omega, by go_num, by rw [NX.out]; exact HO3, HB3⟩
            case measure => simp [intOf]; omega
        · obtain rfl : j = len0 := by omega
          have HO2 : Hid (eR.Own 26 wr w.heap.size u14 (ownL l)) := Lib.hid (by have := hO.out; rwa [List.take_of_length_le (by rw [HL.out]; exact Nat.le_refl _)] at this)
          have HRO := Lib.hid HO2.out.rd
          have eQ : eqB (ownL l) (ownL l) = true := eqB_self _
          rw [eQ] at CQ
          have q1 : (fp == fp) = true := by simp
          have q2 : ((cp : Int) == (cp : Int)) = true := by simp
          have q3 : (T.toList == T.toList) = true := by simp
          clear hO HO2 eQ
          go_wp2_with fail
          refine (CF.out _ hB2.out).mono ?_
          rintro e w1 ⟨rfl, j1, hw⟩
          have HB1 : Hid (Below w.heap.size w w1) := Lib.hid (by rw [hw]; exact Below.drewN0 hB2.out _)
          have HR1 : Hid (eR.Rd w1 u14 (ownL l)) := Lib.hid (by rw [hw]; exact HRO.out.drewN _)
          clear hw
          go_wp2_with fail
          refine (CC.out _ HB1.out).mono ?_
          rintro e w2 ⟨rfl, j2, hw⟩
          have HB2 : Hid (Below w.heap.size w w2) := Lib.hid (by rw [hw]; exact Below.drewN0 HB1.out _)
          have HR2 : Hid (eR.Rd w2 u14 (ownL l)) := Lib.hid (by rw [hw]; exact HR1.out.drewN _)
          clear hw
          go_wp2_with fail
          refine (CR.out _ HB2.out).mono ?_
          rintro e w3 ⟨rfl, hb⟩
          have HB3 := Lib.hid (Below.trans0 HB2.out hb)
          have HR3 := Lib.hid (HR2.out.below hb)
          clear hb
          go_wp2_with fail
          refine (CO.out _ HB3.out).mono ?_
          rintro e w4 ⟨v', rfl, ho, hb⟩
          have HB4 := Lib.hid (Below.trans0 HB3.out hb)
          have HR4 := Lib.hid (HR3.out.below hb)
          have HR5 := Lib.hid ho.rd
          clear hb ho
          go_wp2_with fail
          refine (CQ.out _ _ _ HR5.out HR4.out).mono ?_
          rintro e w5 ⟨rfl, j5, hw⟩
          have HB5 : Hid (Below w.heap.size w w5) := Lib.hid (by rw [hw]; exact Below.drewN0 HB4.out _)
          clear hw
          go_wp2_with fail
          refine (CA.out _).mono ?_
          rintro e w6 ⟨rfl, hb⟩
          have HB6 := Lib.hid (Below.trans0 HB5.out hb)
          go_wp2
          go_ret
          exact ⟨rfl, HB6.out⟩

set_option maxRecDepth 100000 in
theorem lifted (os : Os) (started : os.Started) (H : Type) (enc : TypeId × Value → H) :
    ReturnsInHanded {} Try.checked os 4 .any (Rows.differHoldsSpec.pre6 enc Try.prog Try.f4 Rows.differHoldsRow.domain false) (Rows.differHoldsSpec.post enc Try.prog Try.f4 false true false false) := by
  refine returnsInHanded_of_change (C := Try.checked) own started (by kernel_rfl) Try.func4
    (ChangeSpec.witness6 (enc := enc) (C := Try.checked) false ⟨#[], #[.slice none 0 0, .slice none 0 0, .int .i64 0], []⟩ 8 (by kernel_rfl) (by kernel_rfl) (by kernel_rfl) (by kernel_rfl)) ?_
  intro W base args ds gs before hval0 hW hcnd _
  have hval : ∀ (j : Nat) t v, Try.f4.params[j]? = some t → args[j]? = some v → Value.okWide Try.prog W .any base t v := hval0
  have hW' := hW
  obtain ⟨p, q, hA0, hV, rfl, hfz, hnd⟩ := hW
  have hA : DataW.TrodAll enc Try.prog W 0 (fun _ => true) true Try.f4.params.toList args.toList ds p := hA0
  rw [Try.params4] at hA hval
  obtain ⟨v0, vs0, d0, ds0, p0, q0, hargs, rfl, rfl, h0, r0⟩ := trodAll_cons hA
  obtain ⟨v1, vs1, d1, ds1, p1, q1, rfl, rfl, rfl, h1, r1⟩ := trodAll_cons r0
  obtain ⟨v2, vs2, d2, ds2, p2, q2, rfl, rfl, rfl, h2, r2⟩ := trodAll_cons r1
  obtain ⟨rfl, rfl, rfl⟩ := trodAll_nil r2
  obtain rfl : args = #[v0, v1, v2] := by cases args; simp_all
  obtain ⟨rfl, rfl⟩ := trodVars_none hV
  obtain ⟨a0, len0, cap0, rfl⟩ := okWide_slice Try.underlying22 (hval 0 22 v0 rfl rfl)
  have k0 := h0
  have lt0 : ∀ x ∈ p0, x.block < W.heap.size := by obtain ⟨m, hm⟩ := k0; exact DataW.trod_lt m _ _ _ hm
  obtain ⟨z0, w0⟩ : ∃ zs, eR.In Rc.Ok W a0 len0 cap0 zs := by
    obtain ⟨fuel, hf⟩ := h0
    exact open_recs hf
  obtain ⟨a1, len1, cap1, rfl⟩ := okWide_slice Try.underlying22 (hval 1 22 v1 rfl rfl)
  have k1 := h1
  have lt1 : ∀ x ∈ p1, x.block < W.heap.size := by obtain ⟨m, hm⟩ := k1; exact DataW.trod_lt m _ _ _ hm
  obtain ⟨z1, w1⟩ : ∃ zs, eR.In Rc.Ok W a1 len1 cap1 zs := by
    obtain ⟨fuel, hf⟩ := h1
    exact open_recs hf
  obtain ⟨a2, rfl, rfl, rfl, w2⟩ := open_int Try.underlying3 (hval 2 3 v2 rfl rfl) h2
  clear hA0 hval0
  refine (walk a0 len0 cap0 z0 a1 len1 cap1 z1 a2 W w0 w1 w2).mono fun e W' ⟨he, bel⟩ => ?_
  subst he
  exact ⟨_, rfl, _, _, _, [], _, [], hW', trodAll_mk1 (shut_bool Try.underlying4 _), (trodAll_cons_mk (Below.trod laidOut (by kernel_rfl) (of_decide_eq_true (by kernel_rfl)) k0 bel lt0) (trodAll_cons_mk (Below.trod laidOut (by kernel_rfl) (of_decide_eq_true (by kernel_rfl)) k1 bel lt1) (trodAll_cons_mk (shut_int Try.underlying3 w2) trodAll_mk0))), rfl, bel.frame _, fun h => by cases h⟩

theorem over : Rows.differHoldsRow.holds Try.pinned (OpenSpec.ofChange Rows.differHoldsSpec) :=
  OpenClaim.holds_of_wide 4 Try.f4 rfl rfl rfl rfl rfl rfl rfl ⟨rfl, rfl, rfl, rfl, rfl⟩ rfl rfl rfl rfl rfl (by kernel_rfl) Try.func4 (by kernel_rfl)
    (of_decide_eq_true (by kernel_rfl)) (by unfold Func.isWrapper; first | (rw [if_pos (by decide +kernel)]; kernel_rfl) | (rw [if_neg (by decide +kernel)]; exact ⟨rfl, rfl⟩))
    (fun os started H enc _ => lifted os started H enc)

theorem proved : Rows.DifferHoldsSaid := over
#print axioms proved
end Go.Proofs.Ytpleboogijgdcaa.differHolds
