/- The document's own answer for layer 44: names as a row; term at a name. -/
import Derived.Test.YtmdpgekbiohfbabDoorExr
import Derived.Test.YtmdpgekbiohfbabDoorExt
import Derived.Deep.QuietTactic
import Derived.BigQuiet
namespace Go.Proofs.YtmdpgekbiohfbabDoor
open Go.ChangeShapes Go.WideShapes Go.ChangeAt Go.RowKit
set_option linter.unusedVariables false

abbrev NmV := ByteArray × Int
/-- A name and its value lie so. -/
abbrev eN : Els NmV := ⟨fun x => [.string x.1, .int .u16 x.2], 2, fun _ => rfl, fun x u h => by
  simp only [List.mem_cons, List.not_mem_nil, or_false] at h
  rcases h with rfl | rfl <;> rfl, by decide⟩
def lookB (l : List NmV) : ByteArray → Option Int := fun s => (l.find? (fun p => decide (p.1 = s))).map Prod.snd
theorem lookB_none {l : List NmV} {s : ByteArray} (h : ∀ k, k < l.length → ∀ x, l[k]? = some x → x.1 ≠ s) : lookB l s = none := by
  unfold lookB
  rw [Option.map_eq_none_iff, List.find?_eq_none]
  intro x hx
  obtain ⟨k, hk, e⟩ := List.mem_iff_getElem.1 hx
  simpa using h k hk x (by rw [List.getElem?_eq_getElem hk, e])
theorem lookB_some {l : List NmV} {s : ByteArray} {k : Nat} {x : NmV} (hx : l[k]? = some x) (he : x.1 = s) (h : ∀ j, j < k → ∀ y, l[j]? = some y → y.1 ≠ s) : lookB l s = some x.2 := by
  have hk : k < l.length := by
    rcases Nat.lt_or_ge k l.length with h1 | h1
    · exact h1
    · rw [List.getElem?_eq_none h1] at hx; cases hx
  unfold lookB
  have hf : l.find? (fun p => decide (p.1 = s)) = some x := by
    rw [List.find?_eq_some_iff_append]
    refine ⟨by simpa using he, l.take k, l.drop (k + 1), ?_, ?_⟩
    · have e1 : l[k] = x := by rw [List.getElem?_eq_getElem hk] at hx; injection hx
      rw [← e1]; simp
    · intro y hy
      obtain ⟨j, hj, e⟩ := List.mem_iff_getElem.1 hy
      rw [List.length_take] at hj
      rw [List.getElem_take] at e
      have := h j (by omega) y (by rw [List.getElem?_eq_getElem (by omega), e])
      simpa using this
  rw [hf]; rfl
theorem str_eq (a b : ByteArray) : (a.toList == b.toList) = decide (a = b) := by
  rw [Bool.eq_iff_iff, beq_iff_eq, decide_eq_true_eq]
  constructor
  · intro h
    rw [ByteArray.toList_eq, ByteArray.toList_eq] at h
    exact ByteArray.ext (Array.toList_inj.1 h)
  · rintro rfl; rfl
theorem notdig (x : Int) (h0 : figC x = false) (h1 : letC x = false) (h : 0 ≤ x ∧ x < 256) : ¬ valOf x < 10 := by
  simp only [figC, letC, Bool.and_eq_false_iff, Bool.or_eq_false_iff, decide_eq_false_iff_not] at h0 h1
  unfold valOf
  split <;> (try split) <;> (try split) <;> omega
theorem results_tmp4 {fn : Func} {t u v x : Tmp} (h : fn.results = #[.tmp t, .tmp u, .tmp v, .tmp x]) (tmps : Array Value) (P : Program) (w : World) :
    (results fn tmps).run P w = .ok (.tuple #[tmps.getD t undef, tmps.getD u undef, tmps.getD v undef, tmps.getD x undef]) w := by
  simp [results, h]
/-- Behind the document's term. -/
def RfTerm (w : World) (i : Nat) (T : TR) (e : Ending) (w' : World) : Prop :=
  (∃ q, w' = w.drewN q) ∧ ∃ k' : Int, e = .returned (.tuple #[.int .i64 T.v, .int .i64 k', .int .i64 T.e, .bool (T.st || T.nm)]) ∧ (T.e = 0 → k' = ((i + T.k : Nat) : Int))
theorem ext_part (S : ByteArray) (i j : Nat) : S.extract i (i + j) = strOfNums (((nums S).drop i).take j) := by
  rw [← nums_str (S.extract i (i + j))]
  congr 1
  unfold nums
  rw [ByteArray.data_extract, Array.toList_extract, List.extract_eq_take_drop, List.map_take, List.map_drop]
  congr 1
  omega
set_option maxRecDepth 100000 in
set_option maxHeartbeats 2000000 in
theorem rfTermName_any (w : World) (S : ByteArray) (i : Nat) (hlt : i < S.size) (a : Int) (ha : 0 ≤ a ∧ a < 65536) (A : Option Addr) (c : Nat) (nl : List NmV)
    (hcell : 0 < nl.length → ∃ g off, A = some ⟨g, off, none⟩ ∧ g < w.heap.size ∧ ∀ i x, nl[i]? = some x → ∀ j u, (eN.enc x)[j]? = some u → w.cell? ⟨g, off + (i * eN.k + j), none⟩ = some u) (hw : ∀ x ∈ nl, 0 ≤ x.2 ∧ x.2 < 65536) (hn : nl.length ≤ 1000) (hs : S.size ≤ 1099511627776) (hlc : letC (iat (nums S) i) = true) :
    Calls Tryd.prog 91 #[.string S, .int .i64 (i : Int), .int .u16 a, .slice A nl.length c] w (RfTerm w i (termL a (lookL (lookB nl)) ((nums S).drop i))) := by
  have HL := Lib.hid (nums_len S)
  have HD : Hid (((nums S).drop i).length = S.size - i) := Lib.hid (by rw [List.length_drop, HL.out])
  have HX0 := Lib.hid (iat_drop (nums S) i 0)
  rw [Nat.add_zero] at HX0
  obtain ⟨r0, r1⟩ := iat_nums_range S i
  obtain ⟨x, hx⟩ : ∃ x, iat (nums S) i = x := ⟨_, rfl⟩
  rw [hx] at HX0 r0 r1 hlc
  have hbx : ∀ h : i < S.size, ((S[i]'h).toNat : Int) = x := fun h => by rw [get_nums S i h, hx]
  have HB := Lib.hid (get_nums S)
  have HC := Lib.hid hcell
  have HW := Lib.hid hw
  have HE := Lib.hid (term_name a (lookL (lookB nl)) ((nums S).drop i) (by rw [HD.out]; omega) (by rw [HX0.out]; exact hlc))
  obtain ⟨T, hT0⟩ : ∃ T, termL a (lookL (lookB nl)) ((nums S).drop i) = T := ⟨_, rfl⟩
  rw [hT0] at HE ⊢
  obtain ⟨D, hD⟩ : ∃ D, (nums S).drop i = D := ⟨_, rfl⟩
  have HDE := Lib.hid hD.symm
  rw [hD] at HD HX0 HE
  obtain ⟨l42, l39, -⟩ := letC_not hlc
  have b42 : (x == 42) = false := by simpa using l42
  have b39 : (x == 39) = false := by simpa using l39
  have hlt' : ¬ (S.size : Int) ≤ (i : Int) := by omega
  have CL := Lib.hid (fun u => refLetter_any x u r0 r1)
  rw [hlc] at CL
  clear hx hcell hT0 hD hlc l42 l39 hw
  go_enter Tryd.func91, Tryd.ntmps91
  go_wp2_with (go_at_call 106; refine (CL.out _).mono ?_; rintro e w' ⟨rfl, rfl⟩)
  clear hbx b42 b39 hlt' CL
  go_loop [13] (fun k => ∃ j : Nat, i + j ≤ S.size ∧ k = .int .i64 ((i + j : Nat) : Int) ∧ Hid (∀ q, q < j → worC (iat D q) = true)) (fun k => S.size - (intOf k).toNat)
  case atStart => exact ⟨0, by omega, rfl, Lib.hid (fun q hq => absurd hq (by omega))⟩
  case round =>
    obtain ⟨j, hj, rfl, hg⟩ := hrel
    obtain ⟨K, hK⟩ : ∃ K, i + j = K := ⟨_, rfl⟩
    have HK := Lib.hid hK
    rw [hK] at hj ⊢
    have hiK : i ≤ K := by omega
    clear hK
    by_cases hKs : K < S.size
    · obtain ⟨z0, z1⟩ := iat_nums_range S K
      have HZ : Hid (iat D j = iat (nums S) K) := Lib.hid (by rw [HDE.out, iat_drop, HK.out])
      obtain ⟨z, hz⟩ : ∃ z, iat (nums S) K = z := ⟨_, rfl⟩
      have hbz : ∀ h : K < S.size, ((S[K]'h).toNat : Int) = z := fun h => by rw [HB.out K h, hz]
      rw [hz] at HZ z0 z1
      clear hz
      have CLx := Lib.hid (fun u => refLetter_any z u z0 z1)
      have HG1 : Hid (worC z = true → ∀ q, q < j + 1 → worC (iat D q) = true) := Lib.hid (fun hwz q hq => by
        rcases Nat.lt_or_ge q j with h1 | h1
        · exact hg.out q h1
        · have : q = j := by omega
          subst this
          rw [HZ.out]; exact hwz)
      cases hlz : letC z
      · rw [hlz] at CLx
        have HLZ := Lib.hid hlz
        clear hlz
        by_cases h48 : 48 ≤ z
        · by_cases h57 : z ≤ 57
          · have HG2 := Lib.hid (HG1.out (by simp [worC, figC, h48, h57]))
            clear HG1
            go_wp2_with (go_at_call 106; refine (CLx.out _).mono ?_; rintro e w' ⟨rfl, rfl⟩)
            go_round
            case rel => exact ⟨j + 1, by have := HK.out; omega, by have := HK.out; go_num, HG2⟩
            case measure => simp [intOf]; omega
          · have hwz : worC z = false := by simp [worC, figC, HLZ.out, h57]
            have HWZ := Lib.hid hwz
            clear hwz
            have HRN : Hid (run worC D = j) := Lib.hid (run_is _ _ _ (by rw [HDE.out, List.length_drop, HL.out]; have := HK.out; omega) hg.out (fun _ => by rw [HZ.out]; exact HWZ.out))
            have hsl : ∀ u : World, (Instr.slice 9 (.string S) (some (.int .i64 (i : Int))) (some (.int .i64 (K : Int))) none).run Tryd.prog u = .ok (.string (strOfNums (D.take j))) u := fun u => by
              rw [run_slice_string u 9 S .i64 .i64 _ _ Tryd.underlying9 (by omega) (by omega) (by omega), show (i : Int).toNat = i by omega, show (K : Int).toNat = K by omega, ← HK.out, ext_part, HDE.out]
            obtain ⟨N, hN⟩ : ∃ N, strOfNums (D.take j) = N := ⟨_, rfl⟩
            have hE := HE.out
            rw [HRN.out, show lookL (lookB nl) (D.take j) = lookB nl N by rw [← hN]; rfl] at hE
            have HE2 := Lib.hid hE
            rw [hN] at hsl
            have i1 : (i : Int) ≤ (K : Int) := by omega
            have i2 : (K : Int) ≤ (S.size : Int) := by omega
            clear hN hE HE HG1
            go_wp2_with (go_at_call 106; refine (CLx.out _).mono ?_; rintro e w' ⟨rfl, rfl⟩)
            go_loopw [14] (fun v wr => ∃ n : Nat, n ≤ nl.length ∧ v = .int .i64 n ∧ (∃ q, wr = w.drewN q) ∧ Hid (∀ k, k < n → ∀ y, nl[k]? = some y → y.1 ≠ N)) (fun v _ => nl.length - (intOf v).toNat)
            case atStart => exact ⟨0, Nat.zero_le _, rfl, ⟨0, rfl⟩, Lib.hid (fun k hk => absurd hk (by omega))⟩
            case round =>
              obtain ⟨n, hnn, rfl, ⟨q, rfl⟩, hno⟩ := hrel
              by_cases hnl : n < nl.length
              · obtain ⟨g, off, rfl, hgs, hcl⟩ := HC.out (by omega)
                have hy : nl[n]? = some nl[n] := List.getElem?_eq_getElem hnl
                have CE := hcl n _ hy
                have hwf := HW.out _ (List.getElem_mem hnl)
                obtain ⟨y, hy1⟩ : ∃ y, nl[n] = y := ⟨_, rfl⟩
                rw [hy1] at hy CE hwf
                have HY := Lib.hid hy
                obtain ⟨ys, yv⟩ := y
                have d0 : w.cell? ⟨g, off + n * 2, none⟩ = some (.string ys) := CE 0 _ rfl
                have d1 : w.cell? ⟨g, off + n * 2 + 1, none⟩ = some (.int .u16 yv) := CE 1 _ rfl
                have n0 : (0 : Int) ≤ (n : Int) := by omega
                have n1 : (n : Int) < (nl.length : Int) := by omega
                obtain ⟨w0, w1⟩ := hwf
                dsimp only at w0 w1
                clear hcl CE hy hy1
                by_cases hq : ys = N
                · have hq' : (ys.toList == N.toList) = true := by rw [hq]; simp
                  have HF := Lib.hid (lookB_some HY.out hq hno.out)
                  have hE := HE2.out
                  rw [HF.out] at hE
                  dsimp only at hE
                  subst hE
                  clear hq
                  go_wp2
                  go_quiet (fail)
                  go_wp2
                  ((try simp only [Exit.inBlock, Exit.then]); refine bodyPost_ret (results_tmp4 rfl _ _ _) rfl ?_)
                  exact ⟨by first | exact ⟨_, rfl⟩ | exact ⟨_, World.drewN_drewN _ _ _⟩, _, rfl, fun _ => by rw [← HK.out, ← HRN.out]⟩
                · have hq' : (ys.toList == N.toList) = false := by rw [str_eq, decide_eq_false hq]
                  have HNO : Hid (∀ k, k < n + 1 → ∀ y, nl[k]? = some y → y.1 ≠ N) := Lib.hid (fun k hk y hy => by
                    rcases Nat.lt_or_ge k n with h1 | h1
                    · exact hno.out k h1 y hy
                    · have : k = n := by omega
                      subst this
                      rw [HY.out] at hy
                      injection hy with hy
                      subst hy
                      exact hq)
                  clear hq
                  go_wp2
                  go_quiet (fail)
                  go_wp2
                  go_roundw
                  case rel => exact ⟨n + 1, by omega, by go_num, by first | exact ⟨_, rfl⟩ | exact ⟨_, World.drewN_drewN _ _ _⟩, HNO⟩
                  case measure => simp [intOf]; omega
              · have HF := Lib.hid (lookB_none (l := nl) (s := N) (fun k hk => hno.out k (by omega)))
                have hE := HE2.out
                rw [HF.out] at hE
                dsimp only at hE
                subst hE
                go_wp2
                ((try simp only [Exit.inBlock, Exit.then]); refine bodyPost_ret (results_tmp4 rfl _ _ _) rfl ?_)
                exact ⟨⟨_, rfl⟩, _, rfl, fun h => absurd h (by decide)⟩
        · have hwz : worC z = false := by simp [worC, figC, HLZ.out, h48]
          have HWZ := Lib.hid hwz
          clear hwz
          have HRN : Hid (run worC D = j) := Lib.hid (run_is _ _ _ (by rw [HDE.out, List.length_drop, HL.out]; have := HK.out; omega) hg.out (fun _ => by rw [HZ.out]; exact HWZ.out))
          have hsl : ∀ u : World, (Instr.slice 9 (.string S) (some (.int .i64 (i : Int))) (some (.int .i64 (K : Int))) none).run Tryd.prog u = .ok (.string (strOfNums (D.take j))) u := fun u => by
            rw [run_slice_string u 9 S .i64 .i64 _ _ Tryd.underlying9 (by omega) (by omega) (by omega), show (i : Int).toNat = i by omega, show (K : Int).toNat = K by omega, ← HK.out, ext_part, HDE.out]
          obtain ⟨N, hN⟩ : ∃ N, strOfNums (D.take j) = N := ⟨_, rfl⟩
          have hE := HE.out
          rw [HRN.out, show lookL (lookB nl) (D.take j) = lookB nl N by rw [← hN]; rfl] at hE
          have HE2 := Lib.hid hE
          rw [hN] at hsl
          have i1 : (i : Int) ≤ (K : Int) := by omega
          have i2 : (K : Int) ≤ (S.size : Int) := by omega
          clear hN hE HE HG1
          go_wp2_with (go_at_call 106; refine (CLx.out _).mono ?_; rintro e w' ⟨rfl, rfl⟩)
          go_loopw [14] (fun v wr => ∃ n : Nat, n ≤ nl.length ∧ v = .int .i64 n ∧ (∃ q, wr = w.drewN q) ∧ Hid (∀ k, k < n → ∀ y, nl[k]? = some y → y.1 ≠ N)) (fun v _ => nl.length - (intOf v).toNat)
          case atStart => exact ⟨0, Nat.zero_le _, rfl, ⟨0, rfl⟩, Lib.hid (fun k hk => absurd hk (by omega))⟩
          case round =>
            obtain ⟨n, hnn, rfl, ⟨q, rfl⟩, hno⟩ := hrel
            by_cases hnl : n < nl.length
            · obtain ⟨g, off, rfl, hgs, hcl⟩ := HC.out (by omega)
              have hy : nl[n]? = some nl[n] := List.getElem?_eq_getElem hnl
              have CE := hcl n _ hy
              have hwf := HW.out _ (List.getElem_mem hnl)
              obtain ⟨y, hy1⟩ : ∃ y, nl[n] = y := ⟨_, rfl⟩
              rw [hy1] at hy CE hwf
              have HY := Lib.hid hy
              obtain ⟨ys, yv⟩ := y
              have d0 : w.cell? ⟨g, off + n * 2, none⟩ = some (.string ys) := CE 0 _ rfl
              have d1 : w.cell? ⟨g, off + n * 2 + 1, none⟩ = some (.int .u16 yv) := CE 1 _ rfl
              have n0 : (0 : Int) ≤ (n : Int) := by omega
              have n1 : (n : Int) < (nl.length : Int) := by omega
              obtain ⟨w0, w1⟩ := hwf
              dsimp only at w0 w1
              clear hcl CE hy hy1
              by_cases hq : ys = N
              · have hq' : (ys.toList == N.toList) = true := by rw [hq]; simp
                have HF := Lib.hid (lookB_some HY.out hq hno.out)
                have hE := HE2.out
                rw [HF.out] at hE
                dsimp only at hE
                subst hE
                clear hq
                go_wp2
                go_quiet (fail)
                go_wp2
                ((try simp only [Exit.inBlock, Exit.then]); refine bodyPost_ret (results_tmp4 rfl _ _ _) rfl ?_)
                exact ⟨by first | exact ⟨_, rfl⟩ | exact ⟨_, World.drewN_drewN _ _ _⟩, _, rfl, fun _ => by rw [← HK.out, ← HRN.out]⟩
              · have hq' : (ys.toList == N.toList) = false := by rw [str_eq, decide_eq_false hq]
                have HNO : Hid (∀ k, k < n + 1 → ∀ y, nl[k]? = some y → y.1 ≠ N) := Lib.hid (fun k hk y hy => by
                  rcases Nat.lt_or_ge k n with h1 | h1
                  · exact hno.out k h1 y hy
                  · have : k = n := by omega
                    subst this
                    rw [HY.out] at hy
                    injection hy with hy
                    subst hy
                    exact hq)
                clear hq
                go_wp2
                go_quiet (fail)
                go_wp2
                go_roundw
                case rel => exact ⟨n + 1, by omega, by go_num, by first | exact ⟨_, rfl⟩ | exact ⟨_, World.drewN_drewN _ _ _⟩, HNO⟩
                case measure => simp [intOf]; omega
            · have HF := Lib.hid (lookB_none (l := nl) (s := N) (fun k hk => hno.out k (by omega)))
              have hE := HE2.out
              rw [HF.out] at hE
              dsimp only at hE
              subst hE
              go_wp2
              ((try simp only [Exit.inBlock, Exit.then]); refine bodyPost_ret (results_tmp4 rfl _ _ _) rfl ?_)
              exact ⟨⟨_, rfl⟩, _, rfl, fun h => absurd h (by decide)⟩
      · rw [hlz] at CLx
        have HG2 := Lib.hid (HG1.out (by simp [worC, hlz]))
        clear HG1 hlz
        go_wp2_with (go_at_call 106; refine (CLx.out _).mono ?_; rintro e w' ⟨rfl, rfl⟩)
        go_round
        case rel => exact ⟨j + 1, by have := HK.out; omega, by have := HK.out; go_num, HG2⟩
        case measure => simp [intOf]; omega
    · have HG1 := Lib.hid trivial
      have HRN : Hid (run worC D = j) := Lib.hid (run_is _ _ _ (by rw [HDE.out, List.length_drop, HL.out]; have := HK.out; omega) hg.out (fun h => absurd h (by rw [HDE.out, List.length_drop, HL.out]; have := HK.out; omega)))
      have hsl : ∀ u : World, (Instr.slice 9 (.string S) (some (.int .i64 (i : Int))) (some (.int .i64 (K : Int))) none).run Tryd.prog u = .ok (.string (strOfNums (D.take j))) u := fun u => by
        rw [run_slice_string u 9 S .i64 .i64 _ _ Tryd.underlying9 (by omega) (by omega) (by omega), show (i : Int).toNat = i by omega, show (K : Int).toNat = K by omega, ← HK.out, ext_part, HDE.out]
      obtain ⟨N, hN⟩ : ∃ N, strOfNums (D.take j) = N := ⟨_, rfl⟩
      have hE := HE.out
      rw [HRN.out, show lookL (lookB nl) (D.take j) = lookB nl N by rw [← hN]; rfl] at hE
      have HE2 := Lib.hid hE
      rw [hN] at hsl
      have i1 : (i : Int) ≤ (K : Int) := by omega
      have i2 : (K : Int) ≤ (S.size : Int) := by omega
      clear hN hE HE HG1
      go_wp2
      go_loopw [14] (fun v wr => ∃ n : Nat, n ≤ nl.length ∧ v = .int .i64 n ∧ (∃ q, wr = w.drewN q) ∧ Hid (∀ k, k < n → ∀ y, nl[k]? = some y → y.1 ≠ N)) (fun v _ => nl.length - (intOf v).toNat)
      case atStart => exact ⟨0, Nat.zero_le _, rfl, ⟨0, rfl⟩, Lib.hid (fun k hk => absurd hk (by omega))⟩
      case round =>
        obtain ⟨n, hnn, rfl, ⟨q, rfl⟩, hno⟩ := hrel
        by_cases hnl : n < nl.length
        · obtain ⟨g, off, rfl, hgs, hcl⟩ := HC.out (by omega)
          have hy : nl[n]? = some nl[n] := List.getElem?_eq_getElem hnl
          have CE := hcl n _ hy
          have hwf := HW.out _ (List.getElem_mem hnl)
          obtain ⟨y, hy1⟩ : ∃ y, nl[n] = y := ⟨_, rfl⟩
          rw [hy1] at hy CE hwf
          have HY := Lib.hid hy
          obtain ⟨ys, yv⟩ := y
          have d0 : w.cell? ⟨g, off + n * 2, none⟩ = some (.string ys) := CE 0 _ rfl
          have d1 : w.cell? ⟨g, off + n * 2 + 1, none⟩ = some (.int .u16 yv) := CE 1 _ rfl
          have n0 : (0 : Int) ≤ (n : Int) := by omega
          have n1 : (n : Int) < (nl.length : Int) := by omega
          obtain ⟨w0, w1⟩ := hwf
          dsimp only at w0 w1
          clear hcl CE hy hy1
          by_cases hq : ys = N
          · have hq' : (ys.toList == N.toList) = true := by rw [hq]; simp
            have HF := Lib.hid (lookB_some HY.out hq hno.out)
            have hE := HE2.out
            rw [HF.out] at hE
            dsimp only at hE
            subst hE
            clear hq
            go_wp2
            go_quiet (fail)
            go_wp2
            ((try simp only [Exit.inBlock, Exit.then]); refine bodyPost_ret (results_tmp4 rfl _ _ _) rfl ?_)
            exact ⟨by first | exact ⟨_, rfl⟩ | exact ⟨_, World.drewN_drewN _ _ _⟩, _, rfl, fun _ => by rw [← HK.out, ← HRN.out]⟩
          · have hq' : (ys.toList == N.toList) = false := by rw [str_eq, decide_eq_false hq]
            have HNO : Hid (∀ k, k < n + 1 → ∀ y, nl[k]? = some y → y.1 ≠ N) := Lib.hid (fun k hk y hy => by
              rcases Nat.lt_or_ge k n with h1 | h1
              · exact hno.out k h1 y hy
              · have : k = n := by omega
                subst this
                rw [HY.out] at hy
                injection hy with hy
                subst hy
                exact hq)
            clear hq
            go_wp2
            go_quiet (fail)
            go_wp2
            go_roundw
            case rel => exact ⟨n + 1, by omega, by go_num, by first | exact ⟨_, rfl⟩ | exact ⟨_, World.drewN_drewN _ _ _⟩, HNO⟩
            case measure => simp [intOf]; omega
        · have HF := Lib.hid (lookB_none (l := nl) (s := N) (fun k hk => hno.out k (by omega)))
          have hE := HE2.out
          rw [HF.out] at hE
          dsimp only at hE
          subst hE
          go_wp2
          ((try simp only [Exit.inBlock, Exit.then]); refine bodyPost_ret (results_tmp4 rfl _ _ _) rfl ?_)
          exact ⟨⟨_, rfl⟩, _, rfl, fun h => absurd h (by decide)⟩
end Go.Proofs.YtmdpgekbiohfbabDoor
