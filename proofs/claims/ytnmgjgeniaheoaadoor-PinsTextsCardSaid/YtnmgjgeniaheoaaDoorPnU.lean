/- Contracts: pins.alike, pins.Text, the document's Text. -/
import Derived.Test.YtnmgjgeniaheoaaDoorPnT
import Derived.Test.YtnmgjgeniaheoaaDoorPnR
namespace Go.Proofs.YtnmgjgeniaheoaaDoor
open Go.ChangeShapes Go.WideShapes Go.ChangeAt Go.RowKit
set_option linter.unusedVariables false

/-- A row of pins from its place f on. -/
def slcd (A : Option Addr) (f t c k : Nat) : Value := .slice (if c = f then A else A.map (·.add (f * k))) (t - f) (c - f)
theorem Els.Rd.from_ {α : Type} {E : Els α} {w : World} {A : Option Addr} {n c : Nat} {l : List α} (h : E.Rd w (.slice A n c) l) (hc : n ≤ c) (f : Nat) (hf : f ≤ n) :
    E.Rd w (slcd A f n c E.k) (l.drop f) := by
  rcases h with ⟨e, rfl⟩ | ⟨ad, c', e, hg, hcl⟩
  · injection e with e1 e2 e3
    subst e1 e2 e3
    obtain rfl : f = 0 := by omega
    exact .inl ⟨rfl, rfl⟩
  · injection e with e1 e2 e3
    subst e1 e2 e3
    have hl : (l.drop f).length = l.length - f := List.length_drop
    refine .inr ⟨if c = f then ad else ad.add (f * E.k), c - f, ?_, fun h0 => ?_, fun j u hj => ?_⟩
    · unfold slcd; rw [hl]; split <;> simp
    · obtain ⟨g, off, rfl, hlt⟩ := hg (by omega)
      rw [if_neg (by omega)]
      exact ⟨g, off + f * E.k, Els.add_pl _ _ _, hlt⟩
    · have h0 := E.cells_pos hj
      obtain ⟨g, off, rfl, hlt⟩ := hg (by omega)
      rw [if_neg (by omega), Els.add_pl, Els.add_pl]
      obtain ⟨x, h1, h2⟩ := E.cells_inv _ j u hj
      rw [List.getElem?_drop] at h1
      have hk : j % E.k < E.k := Nat.mod_lt _ E.pos
      have := hcl ((f + j / E.k) * E.k + j % E.k) u (by rw [E.cells_at l _ x h1 _ hk]; exact h2)
      rw [Els.add_pl] at this
      rw [← this]
      congr 2
      have := Nat.div_add_mod j E.k
      rw [Nat.add_mul, Nat.mul_comm (j / E.k)]
      omega
theorem sliceN_l (u : World) (A : Option Addr) (n c f : Nat) (h1 : f ≤ n) (h2 : n ≤ c) : (Instr.slice 22 (.slice A n c) (some (.int .i64 (f : Int))) none none).run Tryd.prog u = .ok (slcd A f n c 6) u := by
  have hs : (sizeOf (Tryd.prog.elem 22)).run Tryd.prog u = .ok 6 u := by kernel_rfl
  have ht : Tryd.prog.underlying 22 = some (.slice (Tryd.prog.elem 22)) := by kernel_rfl
  rw [run_slice_l u 22 A n c ht .i64 (f : Int) (by omega) (by omega), hs]
  rfl
set_option maxRecDepth 100000 in
set_option maxHeartbeats 4000000 in
theorem alike_any (v : Value) (x : Pn) (r : List Pn) (w : World) (h : eN.Rd w v (x :: r)) (hn : r.length ≤ 100000) :
    Calls Tryd.prog 18 #[v] w fun e w' => e = .returned (.int .i64 ((alk x r : Int) + 1)) ∧ Below w.heap.size w w' := by
  obtain ⟨A, c, hv, hc⟩ := h.open_
  obtain ⟨g, off, rfl, hg, hcell⟩ := hc (by simp)
  obtain ⟨N, hN⟩ : ∃ N, (x :: r).length = N := ⟨_, rfl⟩
  have hN2 : N = r.length + 1 := by rw [← hN]; rfl
  rw [hN] at hv
  subst hv
  have HC := Lib.hid hcell
  have HG := Lib.hid hg
  have HA := Lib.hid (alk_eq x r)
  have HN := Lib.hid hN2
  have hN3 : N ≤ 100001 := by omega
  have hN4 : 1 ≤ N := by omega
  clear h hc hcell hg hN hN2 hn
  go_enter Tryd.func18, Tryd.ntmps18
  go_wp2
  go_loopw [7] (fun i wr => ∃ k : Nat, k ≤ N ∧ i = .int .i64 k ∧ Hid (∀ q, q < k → (x :: r)[q]? = some x) ∧ Hid (Below w.heap.size w wr)) (fun i _ => N - (intOf i).toNat)
  case atStart => exact ⟨0, by omega, rfl, Lib.hid (fun q h => absurd h (by omega)), Lib.hid (Below.refl _ _)⟩
  case round =>
    obtain ⟨k, hk, rfl, HQ, HB⟩ := hrel
    by_cases hlt : k < N
    · have k0 : (0 : Int) ≤ k := by omega
      have k1 : (k : Int) < N := by omega
      obtain ⟨y, hy⟩ : ∃ y, (x :: r)[k]? = some y := ⟨_, List.getElem?_eq_getElem (by rw [List.length_cons]; have := HN.out; omega)⟩
      obtain ⟨d0, d1, d2, d3, d4, d5⟩ := pn6_at HB.out HG.out (fun jj u hu => HC.out k y hy jj u hu)
      obtain ⟨gy, hgy⟩ : ∃ gy, wr.heap.size = gy := ⟨_, rfl⟩
      obtain ⟨W, hW⟩ : ∃ W, wr.alloc (Obj.cells #[.bool y.p0, .bool y.p1, .bool y.p2, .bool y.p3, .bool y.p4, .bool y.p5] 24) = W := ⟨_, rfl⟩
      have PW : Hid (Blk W gy 24 #[.bool y.p0, .bool y.p1, .bool y.p2, .bool y.p3, .bool y.p4, .bool y.p5]) := Lib.hid (by rw [← hW, ← hgy]; exact Blk.new _ _ _ _)
      have BW : Hid (Below w.heap.size w W) := Lib.hid (by rw [← hW]; exact Below.alloc0 HB.out _)
      obtain ⟨e0, e1, e2, e3, e4, e5⟩ := pn6_at BW.out HG.out (fun jj u hu => HC.out 0 x rfl jj u hu)
      simp only [Nat.zero_mul, Nat.add_zero] at e0 e1 e2 e3 e4 e5
      have PC := PW.out.c6
      have HE := neq_pn y x
      have BD := Lib.hid (fun j => Below.drewN0 BW.out j)
      by_cases hxy : y = x
      · rw [eqB_yes hxy] at HE
        have HQ2 : Hid (∀ q, q < k + 1 → (x :: r)[q]? = some x) := Lib.hid (fun q hq => by
          by_cases e : q = k
          · rw [e, hy, hxy]
          · exact HQ.out q (by omega))
        clear hy hxy HQ
        go_wp2
        go_quiet (fail)
        go_wp2
        go_roundw
        case rel => exact ⟨k + 1, by omega, by go_num, HQ2, Lib.hid (BD.out _)⟩
        case measure => simp [intOf]; omega
      · rw [eqB_no hxy] at HE
        have hk0 : k ≠ 0 := fun e => by subst e; exact hxy (by simpa using hy.symm)
        have HF : Hid ((k : Int) = (alk x r : Int) + 1) := Lib.hid (by
          have := HA.out (k - 1) (fun q hq => by have := HQ.out (q + 1) (by omega); simpa using this) (fun e => by
            have h1 : (x :: r)[k]? = r[k - 1]? := by
              conv => lhs; rw [show k = (k - 1) + 1 by omega]
              rfl
            rw [← h1, hy] at e
            exact hxy (Option.some.inj e))
          omega)
        clear hy hxy HQ hk0
        go_wp2
        go_quiet (fail)
        go_wp2
        go_ret
        exact ⟨ret_int HF.out, BD.out _⟩
    · have k1 : ¬ (k : Int) < N := by omega
      have HF : Hid ((N : Int) = (alk x r : Int) + 1) := Lib.hid (by
        have := HA.out r.length (fun q hq => by have := HQ.out (q + 1) (by have := HN.out; omega); simpa using this) (by simp)
        have := HN.out
        omega)
      clear HQ hlt hk
      go_wp2
      go_ret
      exact ⟨ret_int HF.out, HB.out⟩
theorem retTx {a b : ByteArray} (h : a = b) : Ending.returned (.string a) = .returned (.string b) := by rw [h]
set_option maxRecDepth 100000 in
set_option maxHeartbeats 8000000 in
theorem text_any (v0 : Value) (l : List Pn) (w : World) (A0 : Option Addr) (N0 c0 : Nat) (hv0 : v0 = .slice A0 N0 c0) (h : eN.Rd w v0 l) (hc0 : N0 ≤ c0) (hn : l.length ≤ 300) :
    Calls Tryd.prog 8 #[v0] w fun e w' => e = .returned (.string (jn (wdL l))) ∧ Below w.heap.size w w' := by
  obtain ⟨n, hnn⟩ : ∃ n, w.heap.size = n := ⟨_, rfl⟩
  rw [hnn]
  have HNN := Lib.hid hnn
  have hN0 : l.length = N0 := by
    obtain ⟨A, c, hv, -⟩ := h.open_
    rw [hv0] at hv
    injection hv with _ e _
    exact e.symm
  obtain ⟨WL, hWL⟩ : ∃ WL, wdL l = WL := ⟨_, rfl⟩
  have HJ := Lib.hid (jn_size l hn)
  have HWn := Lib.hid (wdL_len l)
  rw [hWL] at HJ HWn ⊢
  have CA := Lib.hid (fun v x r u q1 q2 => alike_any v x r u q1 q2)
  have CW := Lib.hid (fun x u => pnWord_any x u)
  have CD := Lib.hid (fun (k : Nat) u (q : k ≤ 100000) => dec_any (k : Int) u (by omega) (by omega))
  have R0 := Lib.hid h
  have HWL := Lib.hid hWL
  have HN := Lib.hid hn
  have SL := Lib.hid sliceN_l
  subst hv0
  clear h hWL hn hnn
  go_enter Tryd.func8, Tryd.ntmps8
  go_wp2
  go_loopw [0, 3] (fun v o wr => ∃ (A : Option Addr) (N c : Nat) (m : List Pn) (dn : List ByteArray), v = .slice A N c ∧ N ≤ c ∧ m.length = N ∧ N ≤ 300 ∧ Hid (eN.Rd w (.slice A N c) m) ∧ Hid (dn ++ wdL m = WL) ∧ Hid (eS.Own 9 wr n o dn) ∧ Hid (Below n w wr)) (fun v _ _ => match v with | .slice _ n _ => n | _ => 0)
  case atStart => exact ⟨A0, N0, c0, l, [], rfl, hc0, hN0, by have := HN.out; omega, R0, Lib.hid (by rw [List.nil_append]; exact HWL.out), Lib.hid (Els.Own.nil_ _ _), Lib.hid (by rw [← HNN.out]; exact Below.refl _ _)⟩
  case round =>
    obtain ⟨A, N, c, m, dn, rfl, hc, hm, hN3, R, HD, O, B⟩ := hrel
    by_cases hz : 0 < N
    · obtain ⟨x, r, rfl⟩ : ∃ x r, m = x :: r := by
        cases m with
        | nil => simp at hm; omega
        | cons x r => exact ⟨x, r, rfl⟩
      have hr : r.length + 1 = N := by rw [← hm]; rfl
      have hak := alk_le x r
      have RW : eN.Rd wr (.slice A N c) (x :: r) := R.out.below (by rw [HNN.out]; exact B.out)
      have CAs := CA.out _ x r wr RW (by omega)
      obtain ⟨A', c', hv, hcc⟩ := R.out.open_
      rw [hm] at hv
      injection hv with e1 _ e3
      subst e1 e3
      obtain ⟨g, off, rfl, hg, hcell⟩ := hcc (by simp)
      rw [HNN.out] at hg
      have HDC := HD.out
      rw [wdL_cons] at HDC
      obtain ⟨K, hK⟩ : ∃ K, alk x r + 1 = K := ⟨_, rfl⟩
      have eK : ((alk x r : Nat) : Int) + 1 = (K : Int) := by rw [← hK]; rfl
      rw [eK] at CAs
      have CAs := Lib.hid CAs
      have hKN : K ≤ N := by omega
      have hK1 : 1 ≤ K := by omega
      have hdr : r.drop (alk x r) = (x :: r).drop K := by rw [← hK]; rfl
      rw [hK, hdr] at HDC
      have HDN := Lib.hid HDC
      have RN := R.out.from_ hc K hKN
      have sl := fun u => SL.out u (some ⟨g, off, none⟩) N c K hKN hc
      unfold slcd at RN sl
      obtain ⟨AA, hAA⟩ : ∃ AA, (if c = K then some (⟨g, off, none⟩ : Addr) else (some (⟨g, off, none⟩ : Addr)).map (·.add (K * 6))) = AA := ⟨_, rfl⟩
      rw [hAA] at RN sl
      have RN := Lib.hid RN
      clear RW hAA
      have LN : Hid (((x :: r).drop K).length = N - K) := Lib.hid (by rw [List.length_drop, hm])
      have HC := Lib.hid hcell
      have HG := Lib.hid hg
      have GT : Hid (grpT x K = if 1 < K then pnW x ++ (⟨#[42]⟩ ++ dgt K) else pnW x) := Lib.hid rfl
      have s1 := pnW_size x
      have s2 := dgt_size K (by omega)
      have CDs := CD.out K
      obtain ⟨T1, hT1⟩ : ∃ T, pnW x = T := ⟨_, rfl⟩
      obtain ⟨T2, hT2⟩ : ∃ T, dgt K = T := ⟨_, rfl⟩
      have CWs := CW.out x
      unfold dgt at hT2
      rw [hT2] at CDs
      rw [show strOfNums (written 10 (K : Int) 1) = dgt K from rfl] at hT2
      rw [hT1] at CWs s1 GT
      rw [hT2] at s2 GT
      have CWs := Lib.hid CWs
      have CDs := Lib.hid CDs
      clear hT1 hT2 hcc hcell hg HDC hdr hak hr eK hK R HD
      go_wp2_with fail
      refine CAs.out.mono ?_
      rintro e w1 ⟨rfl, hb1⟩
      have B1 : Hid (Below n w w1) := Lib.hid (B.out.trans (hb1.mono (by have := B.out.size; have := HNN.out; omega)))
      have O1 := Lib.hid (O.out.below hb1)
      have CE0 := HC.out 0 x rfl
      obtain ⟨d0, d1, d2, d3, d4, d5⟩ := pn6_at B1.out HG.out (fun jj u hu => CE0 jj u hu)
      simp only [Nat.zero_mul, Nat.add_zero] at d0 d1 d2 d3 d4 d5
      have k0 : (0 : Int) < N := by omega
      clear hb1 CE0
      go_wp2_with fail
      refine (CWs.out _).mono ?_
      rintro e w2 ⟨rfl, hb2⟩
      have B2 : Hid (Below n w w2) := Lib.hid (B1.out.trans (hb2.mono (by have := B1.out.size; have := HNN.out; omega)))
      have O2 := Lib.hid (O1.out.below hb2)
      have N2 : Hid (n ≤ w2.heap.size) := Lib.hid (by have := B2.out.size; have := HNN.out; omega)
      have DL : Hid (dn.length + 1 ≤ 100000) := Lib.hid (by
        have := congrArg List.length HDN.out
        rw [List.length_append, List.length_cons] at this
        have := HWn.out; have := HN.out; omega)
      have j0 : (0 : Int) ≤ K := by omega
      have j1 : (K : Int) ≤ N := by omega
      have j2 : (N : Int) ≤ c := by omega
      clear hb2 d0 d1 d2 d3 d4 d5 B1 O1
      by_cases hK2 : 1 < K
      · have GT2 := Lib.hid (GT.out.trans (if_pos hK2))
        have j3 : (1 : Int) < K := by omega
        have tw : IntKind.u64.wrap (K : Int) = (K : Int) := by rw [IntKind.wrap_u64]; omega
        have y1 : ¬ 9223372036854775807 < (⟨#[42]⟩ : ByteArray).size + T2.size := by show ¬ 9223372036854775807 < 1 + T2.size; omega
        have y2 : ¬ 9223372036854775807 < 1 + T2.size := by omega
        have y3 : ¬ 9223372036854775807 < T1.size + ((⟨#[42]⟩ : ByteArray) ++ T2).size := by rw [ByteArray.size_append]; show ¬ 9223372036854775807 < T1.size + (1 + T2.size); omega
        have y4 : ¬ 9223372036854775807 < T1.size + (1 + T2.size) := by omega
        go_wp2_with fail
        refine (CDs.out _ (by omega)).mono ?_
        rintro e w3 ⟨rfl, hb3⟩
        have B3 : Hid (Below n w w3) := Lib.hid (B2.out.trans (hb3.mono N2.out))
        have O3 := Lib.hid (O2.out.below hb3)
        have N3 : Hid (n ≤ w3.heap.size) := Lib.hid (by have := hb3.size; have := N2.out; omega)
        clear hb3
        go_wp2_with (at_builtin; refine wpList_appS rfl _ (.tmp 23) (.tmp 25) rfl n _ _ dn [T1 ++ (⟨#[42]⟩ ++ T2)] rfl (O3.out.alloc _) rfl (Els.Rd.lit (E := eS) _ _ [T1 ++ (⟨#[42]⟩ ++ T2)] _ 1 rfl rfl 1) (by have := DL.out; show _ + 1 ≤ _; omega) (by rw [World.size_alloc]; have := N3.out; omega) ?_; intro v5 w6 ho hb6 hg6 hv6)
        have O6 : Hid (eS.Own 9 w6 n v5 (dn ++ [grpT x K])) := Lib.hid (by rw [GT2.out]; exact ho)
        have B6 : Hid (Below n w w6) := Lib.hid ((B3.out.trans ((Below.alloc0 (Below.refl _ _) _).mono N3.out)).trans hb6)
        clear ho hb6 hg6 hv6
        go_roundw
        case rel => exact ⟨AA, N - K, c - K, _, dn ++ [grpT x K], rfl, by omega, LN.out, by omega, RN, Lib.hid (by rw [List.append_assoc]; exact HDN.out), O6, B6⟩
        case measure => show N - K < N; omega
      · have GT2 := Lib.hid (GT.out.trans (if_neg hK2))
        have j3 : ¬ (1 : Int) < K := by omega
        go_wp2_with (at_builtin; refine wpList_appS rfl _ (.tmp 23) (.tmp 25) rfl n _ _ dn [T1] rfl (O2.out.alloc _) rfl (Els.Rd.lit (E := eS) _ _ [T1] _ 1 rfl rfl 1) (by have := DL.out; show _ + 1 ≤ _; omega) (by rw [World.size_alloc]; have := N2.out; omega) ?_; intro v5 w6 ho hb6 hg6 hv6)
        have O6 : Hid (eS.Own 9 w6 n v5 (dn ++ [grpT x K])) := Lib.hid (by rw [GT2.out]; exact ho)
        have B6 : Hid (Below n w w6) := Lib.hid ((B2.out.trans ((Below.alloc0 (Below.refl _ _) _).mono N2.out)).trans hb6)
        clear ho hb6 hg6 hv6
        go_roundw
        case rel => exact ⟨AA, N - K, c - K, _, dn ++ [grpT x K], rfl, by omega, LN.out, by omega, RN, Lib.hid (by rw [List.append_assoc]; exact HDN.out), O6, B6⟩
        case measure => show N - K < N; omega
    · have hN0 : N = 0 := by omega
      obtain rfl : m = [] := List.eq_nil_of_length_eq_zero (hm.trans hN0)
      have E : dn = WL := by have := HD.out; rw [wdL_nil, List.append_nil] at this; exact this
      subst E
      have k0 : ¬ (0 : Int) < N := by omega
      have CJ := Lib.hid (joinS_any _ dn n ⟨#[32]⟩ wr O.out (by have := HWn.out; have := HN.out; omega) (by have := HJ.out.2; have := HN.out; show (Lib.join _ [32]).length ≤ _; omega))
      clear hm hN0 hz
      go_wp2_with fail
      refine CJ.out.mono ?_
      rintro e w3 ⟨rfl, hb3⟩
      have B3 : Hid (Below n w w3) := Lib.hid (B.out.trans (hb3.mono (by have := B.out.size; have := HNN.out; omega)))
      clear hb3
      go_wp2
      go_ret
      exact ⟨rfl, B3.out⟩
end Go.Proofs.YtnmgjgeniaheoaaDoor
