/- Contracts: the document's Text of pins. -/
import Derived.Test.YtnmgjgeniaheoaaDoorPnU
namespace Go.Proofs.YtnmgjgeniaheoaaDoor
open Go.ChangeShapes Go.WideShapes Go.ChangeAt Go.RowKit
set_option linter.unusedVariables false

theorem jn_pre (l : List Pn) (h : l.length ≤ 300) (dn rest : List ByteArray) (hd : dn ++ rest = wdL l) : (jn dn).size ≤ 8400 ∧ dn.length ≤ 300 := by
  have h1 := wdL_len l
  have hl : dn.length ≤ 300 := by
    rw [← hd, List.length_append] at h1; omega
  have key := jn_len (dn.map (·.data.toList)) (fun w hw => by
    obtain ⟨b, hb, rfl⟩ := List.mem_map.1 hw
    rw [dlen]
    exact wds_size l.length l (by omega) b (by show b ∈ wdL l; rw [← hd]; exact List.mem_append.2 (.inl hb)))
  rw [List.length_map] at key
  refine ⟨?_, hl⟩
  show (Lib.join _ _).toArray.size ≤ _
  rw [List.size_toArray]; omega
theorem jn_add (dn : List ByteArray) (g : ByteArray) : jn (dn ++ [g]) = if dn = [] then g else (jn dn ++ ⟨#[32]⟩) ++ g := by
  split
  · next h => rw [h, List.nil_append, jnB_one]
  · next h => exact jnB_snoc dn g h
theorem alk_K (x : Pn) (r : List Pn) (K : Nat) (h1 : 1 ≤ K) (h : ∀ q, q < K → (x :: r)[q]? = some x) (h2 : (x :: r)[K]? ≠ some x) : alk x r + 1 = K := by
  have := alk_eq x r (K - 1) (fun q hq => by have := h (q + 1) (by omega); simpa using this) (fun e => h2 (by
    conv => lhs; rw [show K = (K - 1) + 1 by omega]
    exact e))
  omega
theorem nil_app (a : ByteArray) : (⟨#[]⟩ : ByteArray) ++ a = a := ByteArray.empty_append
set_option maxRecDepth 100000 in
set_option maxHeartbeats 8000000 in
theorem refText_any (v0 : Value) (l : List Pn) (w : World) (h : eN.Rd w v0 l) (hn : l.length ≤ 300) :
    Calls Tryd.prog 10 #[v0] w fun e w' => e = .returned (.string (jn (wdL l))) ∧ Below w.heap.size w w' := by
  obtain ⟨n, hnn⟩ : ∃ n, w.heap.size = n := ⟨_, rfl⟩
  rw [hnn]
  have HNN := Lib.hid hnn
  obtain ⟨A, c, rfl, hc⟩ := h.open_
  rw [hnn] at hc
  obtain ⟨N, hN⟩ : ∃ N, l.length = N := ⟨_, rfl⟩
  have HN := Lib.hid hN
  rw [hN] at hc hn ⊢
  have HC := Lib.hid hc
  obtain ⟨WL, hWL⟩ : ∃ WL, wdL l = WL := ⟨_, rfl⟩
  have HJ := Lib.hid (jn_pre l (by omega))
  rw [hWL] at HJ ⊢
  have CW := Lib.hid (fun x u => refPnWord_any x u)
  have CD := Lib.hid (fun (k : Nat) u (q : k ≤ 100000) => refDigits10_int (k : Int) 1 1 u (by omega) (by omega) (by decide) (by decide) rfl)
  have HWL := Lib.hid hWL
  clear h hc hN hWL hnn
  go_enter Tryd.func10, Tryd.ntmps10
  go_wp2
  go_loopw [3, 4] (fun sv i wr => ∃ (k : Nat) (dn : List ByteArray) (S : ByteArray), k ≤ N ∧ i = .int .i64 k ∧ sv = .string S ∧ Hid (jn dn = S) ∧ Hid (dn = [] ∨ S.size ≠ 0) ∧ Hid (dn ++ wdL (l.drop k) = WL) ∧ Hid (Below n w wr)) (fun _ i _ => N - (intOf i).toNat)
  case atStart => exact ⟨0, [], ⟨#[]⟩, by omega, rfl, rfl, Lib.hid rfl, Lib.hid (.inl rfl), Lib.hid (by rw [List.drop_zero]; exact HWL.out), Lib.hid (by rw [← HNN.out]; exact Below.refl _ _)⟩
  case round =>
    obtain ⟨k, dn, S, hk, rfl, rfl, HS, HE, HD, B⟩ := hrel
    by_cases hlt : k < N
    · have k0 : (0 : Int) ≤ k := by omega
      have k1 : (k : Int) < N := by omega
      have hkl : k < l.length := by rw [HN.out]; exact hlt
      obtain ⟨g, off, rfl, hg, hcell⟩ := HC.out (by omega)
      obtain ⟨x, r, hxr⟩ : ∃ x r, l.drop k = x :: r := ⟨_, _, List.drop_eq_getElem_cons hkl⟩
      have hx : l[k]? = some x := by
        have := congrArg (fun z : List Pn => z[0]?) hxr
        simpa using this
      have hr : ∀ q, (x :: r)[q]? = l[k + q]? := fun q => by rw [← hxr, List.getElem?_drop]
      have HD2 := HD.out
      rw [hxr, wdL_cons] at HD2
      obtain ⟨hSz, hdn⟩ := HJ.out dn _ HD.out
      rw [HS.out] at hSz
      have HD2 := Lib.hid HD2
      have HR := Lib.hid hr
      have HX := Lib.hid hx
      have HXR := Lib.hid hxr
      have HCL := Lib.hid hcell
      have HG := Lib.hid hg
      have HDN := Lib.hid hdn
      have HSZ := Lib.hid hSz
      have HKL := Lib.hid hkl
      clear hxr hx hr hcell hg HD hSz hdn hkl
      obtain ⟨wo, rfl⟩ : ∃ wo : World, wo = wr := ⟨_, rfl⟩
      go_wp2
      go_loopw [5] (fun nv wr => ∃ K : Nat, 1 ≤ K ∧ k + K ≤ N ∧ nv = .int .i64 K ∧ Hid (∀ q, q < K → (x :: r)[q]? = some x) ∧ Hid (Below n w wr)) (fun nv _ => N - (intOf nv).toNat)
      case atStart => exact ⟨1, by omega, by omega, rfl, Lib.hid (fun q hq => by have h0 : q = 0 := (by omega); subst h0; rfl), B⟩
      case round =>
        obtain ⟨K, hK1, hK2, rfl, HQ, B2⟩ := hrel
        obtain ⟨t, ht⟩ : ∃ t : Nat, k + K = t := ⟨_, rfl⟩
        have htI : (k : Int) + (K : Int) = (t : Int) := by omega
        have htW : IntKind.i64.wrap ((k : Int) + (K : Int)) = (t : Int) := by rw [htI]; exact IntWalk.i64_in _ (by omega)
        have t0 : (0 : Int) ≤ t := by omega
        have BD := Lib.hid (fun j => Below.drewN0 (by rw [HNN.out]; exact B2.out : Below w.heap.size w wr) j)
        by_cases htN : t < N
        · have t1 : (t : Int) < N := by omega
          obtain ⟨y, hy⟩ : ∃ y, l[t]? = some y := ⟨_, List.getElem?_eq_getElem (by rw [HN.out]; exact htN)⟩
          obtain ⟨d0, d1, d2, d3, d4, d5⟩ := pn6_at B2.out HG.out (fun jj u hu => HCL.out t y hy jj u hu)
          obtain ⟨e0, e1, e2, e3, e4, e5⟩ := pn6_at B2.out HG.out (fun jj u hu => HCL.out k x HX.out jj u hu)
          have HQE := eql_pn y x
          by_cases hxy : y = x
          · rw [eqB_yes hxy] at HQE
            have HQ2 : Hid (∀ q, q < K + 1 → (x :: r)[q]? = some x) := Lib.hid (fun q hq => by
              by_cases e : q = K
              · rw [e, HR.out, ht, hy, hxy]
              · exact HQ.out q (by omega))
            have HT := Lib.hid ht
            clear hy hxy HQ ht
            go_wp2
            go_quiet (fail)
            go_wp2
            go_roundw
            case rel => exact ⟨K + 1, by omega, by have := HT.out; omega, by go_num, HQ2, Lib.hid (by rw [← HNN.out]; exact BD.out _)⟩
            case measure => simp [intOf]; omega
          · rw [eqB_no hxy] at HQE
            have AK := alk_K x r K hK1 HQ.out (fun e => hxy (by rw [HR.out, ht, hy] at e; exact Option.some.inj e))
            have HDN2 : Hid ((dn ++ [grpT x K]) ++ wdL (l.drop (k + K)) = WL) := Lib.hid (by
              have := HD2.out
              rw [AK] at this
              rw [List.append_assoc, List.singleton_append, ← this, ← List.drop_drop, HXR.out]
              rw [show (x :: r).drop K = r.drop (alk x r) from by rw [← AK]; rfl])
            have GT : Hid (grpT x K = if 1 < K then pnW x ++ (⟨#[42]⟩ ++ dgt K) else pnW x) := Lib.hid rfl
            have GP := Lib.hid (grpT_pos x K)
            have s1 := pnW_size x
            have s2 := dgt_size K (by omega)
            have CDs := CD.out K
            have CWs := CW.out x
            obtain ⟨T1, hT1⟩ : ∃ T, pnW x = T := ⟨_, rfl⟩
            obtain ⟨T2, hT2⟩ : ∃ T, dgt K = T := ⟨_, rfl⟩
            unfold dgt at hT2
            rw [hT2] at CDs
            rw [show strOfNums (written 10 (K : Int) 1) = dgt K from rfl] at hT2
            rw [hT1] at CWs s1 GT
            rw [hT2] at s2 GT
            have CWs := Lib.hid CWs
            have CDs := Lib.hid CDs
            have JA := Lib.hid (jn_add dn (grpT x K))
            have JP := Lib.hid (jn_pos dn (grpT x K) (grpT_pos x K))
            have HT := Lib.hid ht
            have tw : IntKind.u64.wrap (K : Int) = (K : Int) := by rw [IntKind.wrap_u64]; omega
            have j0 : (0 : Int) ≤ K := by omega
            clear hT1 hT2 AK HQ HD2 ht 
            go_wp2
            go_quiet (fail)
            have BQ := Lib.hid (fun j => (by rw [← HNN.out]; exact BD.out j : Below n w (wr.drewN j)))
            by_cases hd0 : dn = []
            · have HS0 : S = ⟨#[]⟩ := by rw [← HS.out, hd0]; rfl
              have JA2 := Lib.hid (JA.out.trans (if_pos hd0))
              subst HS0
              have y1 : ¬ 9223372036854775807 < (⟨#[]⟩ : ByteArray).size + T1.size := by show ¬ 9223372036854775807 < 0 + T1.size; omega
              have y1' : ¬ 9223372036854775807 < 0 + T1.size := by omega
              clear hd0 HE HSZ
              have e := pn6_at (BQ.out nq) HG.out (fun jj u hu => HCL.out k x HX.out jj u hu)
              go_wp2_with fail
              refine (CWs.out _).mono ?_
              rintro e w2 ⟨rfl, hb2⟩
              have B3 : Hid (Below n w w2) := Lib.hid ((BQ.out _).trans (hb2.mono (by have := (BQ.out nq).size; have := HNN.out; omega)))
              clear hb2 e
              by_cases hK3 : 1 < K
              · have GT2 := Lib.hid (GT.out.trans (if_pos hK3))
                have j3 : (1 : Int) < K := by omega
                have z1 : ¬ 9223372036854775807 < (⟨#[42]⟩ : ByteArray).size + T2.size := by show ¬ 9223372036854775807 < 1 + T2.size; omega
                have z1' : ¬ 9223372036854775807 < 1 + T2.size := by omega
                have z2 : ¬ 9223372036854775807 < ((⟨#[]⟩ : ByteArray) ++ T1).size + ((⟨#[42]⟩ : ByteArray) ++ T2).size := by simp only [ByteArray.size_append]; show ¬ 9223372036854775807 < 0 + T1.size + (1 + T2.size); omega
                have z2' : ¬ 9223372036854775807 < 0 + T1.size + (1 + T2.size) := by omega
                go_wp2_with fail
                refine (CDs.out _ (by omega)).mono ?_
                rintro e w3 ⟨rfl, hw3⟩
                subst hw3
                go_wp2
                go_roundw
                case rel => exact ⟨k + K, dn ++ [grpT x K], _, by omega, by rw [HT.out], rfl, Lib.hid (by rw [JA2.out, GT2.out]; simp only [nil_app]), Lib.hid (.inr (fun e => JP.out (by rw [JA2.out, GT2.out]; simpa only [nil_app] using e))), HDN2, B3⟩
                case measure => simp [intOf]; omega
              · have GT2 := Lib.hid (GT.out.trans (if_neg hK3))
                have j3 : ¬ (1 : Int) < K := by omega
                go_wp2
                go_roundw
                case rel => exact ⟨k + K, dn ++ [grpT x K], _, by omega, by rw [HT.out], rfl, Lib.hid (by rw [JA2.out, GT2.out]; simp only [nil_app]), Lib.hid (.inr (fun e => JP.out (by rw [JA2.out, GT2.out]; simpa only [nil_app] using e))), HDN2, B3⟩
                case measure => simp [intOf]; omega
            · have JA2 := JA.out.trans (if_neg hd0)
              rw [HS.out] at JA2
              have JA2 := Lib.hid JA2
              have e0 : S.toList.isEmpty = false := empty_beq S (by have := HE.out; rcases this with h | h; exact absurd h hd0; omega)
              have sz := HSZ.out
              have y0 : ¬ 9223372036854775807 < S.size + (⟨#[32]⟩ : ByteArray).size := by show ¬ 9223372036854775807 < S.size + 1; omega
              have y0' : ¬ 9223372036854775807 < S.size + 1 := by omega
              have y1 : ¬ 9223372036854775807 < (S ++ ⟨#[32]⟩).size + T1.size := by rw [ByteArray.size_append]; show ¬ 9223372036854775807 < S.size + 1 + T1.size; omega
              have y1' : ¬ 9223372036854775807 < S.size + 1 + T1.size := by omega
              clear hd0 HE
              have e := pn6_at (BQ.out nq) HG.out (fun jj u hu => HCL.out k x HX.out jj u hu)
              go_wp2_with fail
              refine (CWs.out _).mono ?_
              rintro e w2 ⟨rfl, hb2⟩
              have B3 : Hid (Below n w w2) := Lib.hid ((BQ.out _).trans (hb2.mono (by have := (BQ.out nq).size; have := HNN.out; omega)))
              clear hb2 e
              by_cases hK3 : 1 < K
              · have GT2 := Lib.hid (GT.out.trans (if_pos hK3))
                have j3 : (1 : Int) < K := by omega
                have z1 : ¬ 9223372036854775807 < (⟨#[42]⟩ : ByteArray).size + T2.size := by show ¬ 9223372036854775807 < 1 + T2.size; omega
                have z1' : ¬ 9223372036854775807 < 1 + T2.size := by omega
                have z2 : ¬ 9223372036854775807 < ((S ++ ⟨#[32]⟩) ++ T1).size + ((⟨#[42]⟩ : ByteArray) ++ T2).size := by simp only [ByteArray.size_append]; show ¬ 9223372036854775807 < (S.size + 1) + T1.size + (1 + T2.size); omega
                have z2' : ¬ 9223372036854775807 < S.size + 1 + T1.size + (1 + T2.size) := by omega
                go_wp2_with fail
                refine (CDs.out _ (by omega)).mono ?_
                rintro e w3 ⟨rfl, hw3⟩
                subst hw3
                go_wp2
                go_roundw
                case rel => exact ⟨k + K, dn ++ [grpT x K], _, by omega, by rw [HT.out], rfl, Lib.hid (by rw [JA2.out, GT2.out]; simp only [ByteArray.append_assoc]), Lib.hid (.inr (fun e => JP.out (by rw [JA2.out, GT2.out]; simpa only [ByteArray.append_assoc] using e))), HDN2, B3⟩
                case measure => simp [intOf]; omega
              · have GT2 := Lib.hid (GT.out.trans (if_neg hK3))
                have j3 : ¬ (1 : Int) < K := by omega
                go_wp2
                go_roundw
                case rel => exact ⟨k + K, dn ++ [grpT x K], _, by omega, by rw [HT.out], rfl, Lib.hid (by rw [JA2.out, GT2.out]), Lib.hid (.inr (fun e => JP.out (by rw [JA2.out, GT2.out]; exact e))), HDN2, B3⟩
                case measure => simp [intOf]; omega
        · have t1 : ¬ (t : Int) < N := by omega
          have AK := alk_K x r K hK1 HQ.out (fun e => by rw [HR.out, ht, List.getElem?_eq_none (by rw [HN.out]; omega)] at e; cases e)
          have HDN2 : Hid ((dn ++ [grpT x K]) ++ wdL (l.drop (k + K)) = WL) := Lib.hid (by
            have := HD2.out
            rw [AK] at this
            rw [List.append_assoc, List.singleton_append, ← this, ← List.drop_drop, HXR.out]
            rw [show (x :: r).drop K = r.drop (alk x r) from by rw [← AK]; rfl])
          have GT : Hid (grpT x K = if 1 < K then pnW x ++ (⟨#[42]⟩ ++ dgt K) else pnW x) := Lib.hid rfl
          have GP := Lib.hid (grpT_pos x K)
          have s1 := pnW_size x
          have s2 := dgt_size K (by omega)
          have CDs := CD.out K
          have CWs := CW.out x
          obtain ⟨T1, hT1⟩ : ∃ T, pnW x = T := ⟨_, rfl⟩
          obtain ⟨T2, hT2⟩ : ∃ T, dgt K = T := ⟨_, rfl⟩
          unfold dgt at hT2
          rw [hT2] at CDs
          rw [show strOfNums (written 10 (K : Int) 1) = dgt K from rfl] at hT2
          rw [hT1] at CWs s1 GT
          rw [hT2] at s2 GT
          have CWs := Lib.hid CWs
          have CDs := Lib.hid CDs
          have JA := Lib.hid (jn_add dn (grpT x K))
          have JP := Lib.hid (jn_pos dn (grpT x K) (grpT_pos x K))
          have HT := Lib.hid ht
          have tw : IntKind.u64.wrap (K : Int) = (K : Int) := by rw [IntKind.wrap_u64]; omega
          have j0 : (0 : Int) ≤ K := by omega
          clear hT1 hT2 AK HQ HD2 ht 
          go_wp2
          go_quiet (fail)
          have BQ := Lib.hid (fun j => (by rw [← HNN.out]; exact BD.out j : Below n w (wr.drewN j)))
          by_cases hd0 : dn = []
          · have HS0 : S = ⟨#[]⟩ := by rw [← HS.out, hd0]; rfl
            have JA2 := Lib.hid (JA.out.trans (if_pos hd0))
            subst HS0
            have y1 : ¬ 9223372036854775807 < (⟨#[]⟩ : ByteArray).size + T1.size := by show ¬ 9223372036854775807 < 0 + T1.size; omega
            have y1' : ¬ 9223372036854775807 < 0 + T1.size := by omega
            clear hd0 HE HSZ
            have e := pn6_at (BQ.out nq) HG.out (fun jj u hu => HCL.out k x HX.out jj u hu)
            go_wp2_with fail
            refine (CWs.out _).mono ?_
            rintro e w2 ⟨rfl, hb2⟩
            have B3 : Hid (Below n w w2) := Lib.hid ((BQ.out _).trans (hb2.mono (by have := (BQ.out nq).size; have := HNN.out; omega)))
            clear hb2 e
            by_cases hK3 : 1 < K
            · have GT2 := Lib.hid (GT.out.trans (if_pos hK3))
              have j3 : (1 : Int) < K := by omega
              have z1 : ¬ 9223372036854775807 < (⟨#[42]⟩ : ByteArray).size + T2.size := by show ¬ 9223372036854775807 < 1 + T2.size; omega
              have z1' : ¬ 9223372036854775807 < 1 + T2.size := by omega
              have z2 : ¬ 9223372036854775807 < ((⟨#[]⟩ : ByteArray) ++ T1).size + ((⟨#[42]⟩ : ByteArray) ++ T2).size := by simp only [ByteArray.size_append]; show ¬ 9223372036854775807 < 0 + T1.size + (1 + T2.size); omega
              have z2' : ¬ 9223372036854775807 < 0 + T1.size + (1 + T2.size) := by omega
              go_wp2_with fail
              refine (CDs.out _ (by omega)).mono ?_
              rintro e w3 ⟨rfl, hw3⟩
              subst hw3
              go_wp2
              go_roundw
              case rel => exact ⟨k + K, dn ++ [grpT x K], _, by omega, by rw [HT.out], rfl, Lib.hid (by rw [JA2.out, GT2.out]; simp only [nil_app]), Lib.hid (.inr (fun e => JP.out (by rw [JA2.out, GT2.out]; simpa only [nil_app] using e))), HDN2, B3⟩
              case measure => simp [intOf]; omega
            · have GT2 := Lib.hid (GT.out.trans (if_neg hK3))
              have j3 : ¬ (1 : Int) < K := by omega
              go_wp2
              go_roundw
              case rel => exact ⟨k + K, dn ++ [grpT x K], _, by omega, by rw [HT.out], rfl, Lib.hid (by rw [JA2.out, GT2.out]; simp only [nil_app]), Lib.hid (.inr (fun e => JP.out (by rw [JA2.out, GT2.out]; simpa only [nil_app] using e))), HDN2, B3⟩
              case measure => simp [intOf]; omega
          · have JA2 := JA.out.trans (if_neg hd0)
            rw [HS.out] at JA2
            have JA2 := Lib.hid JA2
            have e0 : S.toList.isEmpty = false := empty_beq S (by have := HE.out; rcases this with h | h; exact absurd h hd0; omega)
            have sz := HSZ.out
            have y0 : ¬ 9223372036854775807 < S.size + (⟨#[32]⟩ : ByteArray).size := by show ¬ 9223372036854775807 < S.size + 1; omega
            have y0' : ¬ 9223372036854775807 < S.size + 1 := by omega
            have y1 : ¬ 9223372036854775807 < (S ++ ⟨#[32]⟩).size + T1.size := by rw [ByteArray.size_append]; show ¬ 9223372036854775807 < S.size + 1 + T1.size; omega
            have y1' : ¬ 9223372036854775807 < S.size + 1 + T1.size := by omega
            clear hd0 HE
            have e := pn6_at (BQ.out nq) HG.out (fun jj u hu => HCL.out k x HX.out jj u hu)
            go_wp2_with fail
            refine (CWs.out _).mono ?_
            rintro e w2 ⟨rfl, hb2⟩
            have B3 : Hid (Below n w w2) := Lib.hid ((BQ.out _).trans (hb2.mono (by have := (BQ.out nq).size; have := HNN.out; omega)))
            clear hb2 e
            by_cases hK3 : 1 < K
            · have GT2 := Lib.hid (GT.out.trans (if_pos hK3))
              have j3 : (1 : Int) < K := by omega
              have z1 : ¬ 9223372036854775807 < (⟨#[42]⟩ : ByteArray).size + T2.size := by show ¬ 9223372036854775807 < 1 + T2.size; omega
              have z1' : ¬ 9223372036854775807 < 1 + T2.size := by omega
              have z2 : ¬ 9223372036854775807 < ((S ++ ⟨#[32]⟩) ++ T1).size + ((⟨#[42]⟩ : ByteArray) ++ T2).size := by simp only [ByteArray.size_append]; show ¬ 9223372036854775807 < (S.size + 1) + T1.size + (1 + T2.size); omega
              have z2' : ¬ 9223372036854775807 < S.size + 1 + T1.size + (1 + T2.size) := by omega
              go_wp2_with fail
              refine (CDs.out _ (by omega)).mono ?_
              rintro e w3 ⟨rfl, hw3⟩
              subst hw3
              go_wp2
              go_roundw
              case rel => exact ⟨k + K, dn ++ [grpT x K], _, by omega, by rw [HT.out], rfl, Lib.hid (by rw [JA2.out, GT2.out]; simp only [ByteArray.append_assoc]), Lib.hid (.inr (fun e => JP.out (by rw [JA2.out, GT2.out]; simpa only [ByteArray.append_assoc] using e))), HDN2, B3⟩
              case measure => simp [intOf]; omega
            · have GT2 := Lib.hid (GT.out.trans (if_neg hK3))
              have j3 : ¬ (1 : Int) < K := by omega
              go_wp2
              go_roundw
              case rel => exact ⟨k + K, dn ++ [grpT x K], _, by omega, by rw [HT.out], rfl, Lib.hid (by rw [JA2.out, GT2.out]), Lib.hid (.inr (fun e => JP.out (by rw [JA2.out, GT2.out]; exact e))), HDN2, B3⟩
              case measure => simp [intOf]; omega
    · have k1 : ¬ (k : Int) < N := by omega
      have E : Hid (S = jn WL) := Lib.hid (by
        have := HD.out
        rw [List.drop_eq_nil_of_le (by rw [HN.out]; omega), wdL_nil, List.append_nil] at this
        rw [← HS.out, this])
      clear HS HE HD hlt hk
      go_wp2
      go_ret
      exact ⟨retTx E.out, B.out⟩
end Go.Proofs.YtnmgjgeniaheoaaDoor
