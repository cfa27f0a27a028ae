/- Contracts of package ops: Find. -/
import Derived.Test.YtnhafficnomlbabDoorOpsE
import Derived.Deep.MidRow
import Derived.Great.Walk
namespace Go.Proofs.YtnhafficnomlbabDoor
open Go.ChangeShapes Go.WideShapes Go.ChangeAt Go.RowKit
set_option linter.unusedVariables false
/-- The usual name. -/
def usualT (T : Txt) : Txt := if T = [76, 83, 76] then [65, 83, 76] else if T = [76, 83, 76, 65] then [65, 83, 76, 65] else if T = [76, 83, 76, 66] then [65, 83, 76, 66] else if T = [66, 72, 83] then [66, 67, 67] else if T = [66, 76, 79] then [66, 67, 83] else if T = [76, 66, 72, 83] then [76, 66, 67, 67] else if T = [76, 66, 76, 79] then [76, 66, 67, 83] else T
theorem byteStr_back (s : ByteArray) : byteStr s.toList = s := by
  apply ByteArray.ext
  apply Array.toList_inj.1
  rw [← ByteArray.toList_eq, ← ByteArray.toList_eq, byteStr_list]
set_option maxHeartbeats 1000000 in
theorem usual_any (s : ByteArray) (w : World) :
    Calls Tryd.prog 39 #[.string s] w fun e w' => e = .returned (.string (byteStr (usualT s.toList))) ∧ w = w' := by
  by_cases h0 : s.toList = [76, 83, 76]
  · have e : s = ⟨#[76, 83, 76]⟩ := by
      apply ByteArray.ext
      apply Array.toList_inj.1
      rw [← ByteArray.toList_eq]
      exact h0
    have HV := Lib.hid (show usualT s.toList = [65, 83, 76] by rw [h0]; rfl)
    rw [HV.out]
    clear HV h0
    subst e
    go_enter Tryd.func39, Tryd.ntmps39
    go_wp2
    go_ret
    exact ⟨rfl, rfl⟩
  have e0 : (s.toList == [76, 83, 76]) = false := by simpa using h0
  by_cases h1 : s.toList = [76, 83, 76, 65]
  · have e : s = ⟨#[76, 83, 76, 65]⟩ := by
      apply ByteArray.ext
      apply Array.toList_inj.1
      rw [← ByteArray.toList_eq]
      exact h1
    have HV := Lib.hid (show usualT s.toList = [65, 83, 76, 65] by rw [h1]; rfl)
    rw [HV.out]
    clear HV h1
    subst e
    go_enter Tryd.func39, Tryd.ntmps39
    go_wp2
    go_ret
    exact ⟨rfl, rfl⟩
  have e1 : (s.toList == [76, 83, 76, 65]) = false := by simpa using h1
  by_cases h2 : s.toList = [76, 83, 76, 66]
  · have e : s = ⟨#[76, 83, 76, 66]⟩ := by
      apply ByteArray.ext
      apply Array.toList_inj.1
      rw [← ByteArray.toList_eq]
      exact h2
    have HV := Lib.hid (show usualT s.toList = [65, 83, 76, 66] by rw [h2]; rfl)
    rw [HV.out]
    clear HV h2
    subst e
    go_enter Tryd.func39, Tryd.ntmps39
    go_wp2
    go_ret
    exact ⟨rfl, rfl⟩
  have e2 : (s.toList == [76, 83, 76, 66]) = false := by simpa using h2
  by_cases h3 : s.toList = [66, 72, 83]
  · have e : s = ⟨#[66, 72, 83]⟩ := by
      apply ByteArray.ext
      apply Array.toList_inj.1
      rw [← ByteArray.toList_eq]
      exact h3
    have HV := Lib.hid (show usualT s.toList = [66, 67, 67] by rw [h3]; rfl)
    rw [HV.out]
    clear HV h3
    subst e
    go_enter Tryd.func39, Tryd.ntmps39
    go_wp2
    go_ret
    exact ⟨rfl, rfl⟩
  have e3 : (s.toList == [66, 72, 83]) = false := by simpa using h3
  by_cases h4 : s.toList = [66, 76, 79]
  · have e : s = ⟨#[66, 76, 79]⟩ := by
      apply ByteArray.ext
      apply Array.toList_inj.1
      rw [← ByteArray.toList_eq]
      exact h4
    have HV := Lib.hid (show usualT s.toList = [66, 67, 83] by rw [h4]; rfl)
    rw [HV.out]
    clear HV h4
    subst e
    go_enter Tryd.func39, Tryd.ntmps39
    go_wp2
    go_ret
    exact ⟨rfl, rfl⟩
  have e4 : (s.toList == [66, 76, 79]) = false := by simpa using h4
  by_cases h5 : s.toList = [76, 66, 72, 83]
  · have e : s = ⟨#[76, 66, 72, 83]⟩ := by
      apply ByteArray.ext
      apply Array.toList_inj.1
      rw [← ByteArray.toList_eq]
      exact h5
    have HV := Lib.hid (show usualT s.toList = [76, 66, 67, 67] by rw [h5]; rfl)
    rw [HV.out]
    clear HV h5
    subst e
    go_enter Tryd.func39, Tryd.ntmps39
    go_wp2
    go_ret
    exact ⟨rfl, rfl⟩
  have e5 : (s.toList == [76, 66, 72, 83]) = false := by simpa using h5
  by_cases h6 : s.toList = [76, 66, 76, 79]
  · have e : s = ⟨#[76, 66, 76, 79]⟩ := by
      apply ByteArray.ext
      apply Array.toList_inj.1
      rw [← ByteArray.toList_eq]
      exact h6
    have HV := Lib.hid (show usualT s.toList = [76, 66, 67, 83] by rw [h6]; rfl)
    rw [HV.out]
    clear HV h6
    subst e
    go_enter Tryd.func39, Tryd.ntmps39
    go_wp2
    go_ret
    exact ⟨rfl, rfl⟩
  have e6 : (s.toList == [76, 66, 76, 79]) = false := by simpa using h6
  have HU : Hid (byteStr (usualT s.toList) = s) := Lib.hid (by
    unfold usualT
    rw [if_neg h0, if_neg h1, if_neg h2, if_neg h3, if_neg h4, if_neg h5, if_neg h6, byteStr_back])
  rw [HU.out]
  clear h0 h1 h2 h3 h4 h5 h6
  go_enter Tryd.func39, Tryd.ntmps39
  go_wp2
  go_ret
  exact ⟨rfl, rfl⟩
/-- What a text is the name of. -/
def lookR (T : Txt) : Int × Int × Bool := match rowsW.find? (fun p => p.1 == T) with
  | some p => ((p.2.1 : Int), (p.2.2 : Int), true)
  | none => (0, 0, false)
theorem sameR_eq (a b : Txt × Nat × Nat) (h : sameR a b = true) : a = b := by
  obtain ⟨a1, a2, a3⟩ := a
  obtain ⟨b1, b2, b3⟩ := b
  simp only [sameR, Bool.and_eq_true, beq_iff_eq, Nat.beq_eq] at h
  obtain ⟨⟨h1, h2⟩, h3⟩ := h
  rw [h1, h2, h3]
theorem code_mem (op r : Nat) (ho : op < 52) (hr : r < 16) (hn : (nameI (op : Int) (r : Int)).isEmpty = false) : (nameI (op : Int) (r : Int), op, r) ∈ rowsW := by
  have hm : (nameI (op : Int) (r : Int), op, r) ∈ codeW := by
    unfold codeW
    rw [List.mem_flatMap]
    refine ⟨op, List.mem_range.2 ho, ?_⟩
    rw [List.mem_filterMap]
    refine ⟨r, List.mem_range.2 hr, ?_⟩
    rw [if_neg (by rw [hn]; simp)]
  have := List.all_eq_true.1 code_in _ hm
  rw [List.any_eq_true] at this
  obtain ⟨q, hq, hs⟩ := this
  rw [sameR_eq _ _ hs]
  exact hq
theorem rows_mem (p : Txt × Nat × Nat) (hp : p ∈ rowsW) : p.2.1 < 52 ∧ p.2.2 < 16 ∧ (nameI (p.2.1 : Int) (p.2.2 : Int)) = p.1 ∧ p.1.isEmpty = false := by
  have := List.all_eq_true.1 rows_in _ hp
  rw [List.any_eq_true] at this
  obtain ⟨q, hq, hs⟩ := this
  obtain rfl := sameR_eq _ _ hs
  unfold codeW at hq
  rw [List.mem_flatMap] at hq
  obtain ⟨op, ho, hq⟩ := hq
  rw [List.mem_filterMap] at hq
  obtain ⟨r, hr, hq⟩ := hq
  rw [List.mem_range] at ho hr
  split at hq
  · cases hq
  · rename_i hn
    obtain rfl := Option.some.inj hq
    exact ⟨ho, hr, rfl, by simpa using hn⟩
theorem rows_uniq (p q : Txt × Nat × Nat) (hp : p ∈ rowsW) (hq : q ∈ rowsW) : (p.1 = q.1 ↔ p.2 = q.2) := by
  have h := List.all_eq_true.1 rows_one _ hp
  have h2 := List.all_eq_true.1 h _ hq
  obtain ⟨p1, p2, p3⟩ := p
  obtain ⟨q1, q2, q3⟩ := q
  simp only [beq_iff_eq] at h2
  rw [Bool.eq_iff_iff] at h2
  simpa using h2
theorem look_some (op r : Nat) (ho : op < 52) (hr : r < 16) (T : Txt) (hT : T.isEmpty = false) (h : nameI (op : Int) (r : Int) = T) : lookR T = ((op : Int), (r : Int), true) := by
  have hm := code_mem op r ho hr (by rw [h]; exact hT)
  rw [h] at hm
  unfold lookR
  cases hf : rowsW.find? (fun p => p.1 == T) with
  | none =>
    rw [List.find?_eq_none] at hf
    have := hf _ hm
    simp at this
  | some p =>
    have h1 := List.mem_of_find?_eq_some hf
    have h2 := List.find?_some hf
    have h3 := (rows_uniq p _ h1 hm).1 (by simpa using h2)
    show ((p.2.1 : Int), (p.2.2 : Int), true) = _
    rw [h3]
theorem look_none (T : Txt) (h : ∀ op r : Nat, op < 52 → r < 16 → (nameI (op : Int) (r : Int)).isEmpty = true ∨ nameI (op : Int) (r : Int) ≠ T) : lookR T = (0, 0, false) := by
  unfold lookR
  cases hf : rowsW.find? (fun p => p.1 == T) with
  | none => rfl
  | some p =>
    exfalso
    have h1 := List.mem_of_find?_eq_some hf
    have h2 := List.find?_some hf
    obtain ⟨a, b, c, d⟩ := rows_mem p h1
    rcases h _ _ a b with e | e
    · rw [c, d] at e; cases e
    · rw [c] at e; exact e (by simpa using h2)
theorem name_stem (op : Nat) (r : Int) (h : (nameI (op : Int) r).isEmpty = false) : Lib.hasPrefix (nameI (op : Int) r) (stemNames.getD op []) = true := by
  unfold nameI at h ⊢
  split at h
  · rename_i h1
    rw [if_pos h1]
    split at h
    · rename_i h2
      rw [if_pos h2]
      unfold Lib.hasPrefix
      rw [List.isPrefixOf_iff_prefix]
      exact List.prefix_append _ _
    · simp at h
  · simp at h
def stemV : List Value := (List.range 52).map fun k => Value.string (byteStr (stemNames.getD k []))
theorem stemV_at (k : Nat) (h : k < 52) : stemV[k]? = some (Value.string (byteStr (stemNames.getD k []))) := by
  unfold stemV
  rw [List.getElem?_map, List.getElem?_range h]; rfl
theorem StmAt.range {w : World} (h : StmAt w) : w.rangeAt 0 0 stemV := fun j v hj => by
  rcases Nat.lt_or_ge j 52 with a | a
  · rw [stemV_at j a] at hj
    obtain rfl := Option.some.inj hj
    rw [Nat.zero_add]; exact h j a
  · rw [List.getElem?_eq_none (by simpa [stemV] using a)] at hj; cases hj
theorem stem_index (w : World) (k : Nat) (hk : k < 52) : (Instr.index 65 (.agg stemV.toArray) (.int .i64 (k : Int))).run Tryd.prog w = .ok (.string (byteStr (stemNames.getD k []))) w := by
  rcases (show k = 0 ∨ k = 1 ∨ k = 2 ∨ k = 3 ∨ k = 4 ∨ k = 5 ∨ k = 6 ∨ k = 7 ∨ k = 8 ∨ k = 9 ∨ k = 10 ∨ k = 11 ∨ k = 12 ∨ k = 13 ∨ k = 14 ∨ k = 15 ∨ k = 16 ∨ k = 17 ∨ k = 18 ∨ k = 19 ∨ k = 20 ∨ k = 21 ∨ k = 22 ∨ k = 23 ∨ k = 24 ∨ k = 25 ∨ k = 26 ∨ k = 27 ∨ k = 28 ∨ k = 29 ∨ k = 30 ∨ k = 31 ∨ k = 32 ∨ k = 33 ∨ k = 34 ∨ k = 35 ∨ k = 36 ∨ k = 37 ∨ k = 38 ∨ k = 39 ∨ k = 40 ∨ k = 41 ∨ k = 42 ∨ k = 43 ∨ k = 44 ∨ k = 45 ∨ k = 46 ∨ k = 47 ∨ k = 48 ∨ k = 49 ∨ k = 50 ∨ k = 51 by omega) with rfl | rfl | rfl | rfl | rfl | rfl | rfl | rfl | rfl | rfl | rfl | rfl | rfl | rfl | rfl | rfl | rfl | rfl | rfl | rfl | rfl | rfl | rfl | rfl | rfl | rfl | rfl | rfl | rfl | rfl | rfl | rfl | rfl | rfl | rfl | rfl | rfl | rfl | rfl | rfl | rfl | rfl | rfl | rfl | rfl | rfl | rfl | rfl | rfl | rfl | rfl | rfl
  all_goals kernel_rfl
theorem stems_full : ∀ k : Fin 52, 0 < k.val → (stemNames.getD k.val []).isEmpty = false := by decide +kernel
set_option maxRecDepth 100000 in
set_option maxHeartbeats 2000000 in
theorem opsFind_any (s : ByteArray) (w : World) (hT : TabO w) :
    Calls Tryd.prog 24 #[.string s] w fun e w' => e = .returned (.tuple #[.int .i64 (lookR (usualT s.toList)).1, .int .i64 (lookR (usualT s.toList)).2.1, .bool (lookR (usualT s.toList)).2.2]) ∧ w = w' := by
  have CU := Lib.hid (usual_any s w)
  have HT := Lib.hid hT
  have CN := Lib.hid (fun op r => opsName_any op r w hT)
  have HR := Lib.hid hT.2.2.1.range
  obtain ⟨T, hTT⟩ : ∃ T, usualT s.toList = T := ⟨_, rfl⟩
  rw [hTT] at CU ⊢
  have HIX := Lib.hid (fun w k hk => stem_index w k hk)
  clear hT hTT
  go_enter Tryd.func24, Tryd.ntmps24
  go_upto_region 2 with (go_at_call 39; refine CU.out.mono ?_; rintro e w1 ⟨rfl, rfl⟩)
  refine wp_region_lit ?_
  refine wpList_load_mid rfl 65 (.global 0) rfl 0 0 rfl stemV _ HR.out Tryd.underlying65 (by kernel_rfl) (by kernel_rfl) ?_
  obtain ⟨V, hV⟩ : ∃ V, V = stemV.toArray := ⟨_, rfl⟩
  rw [← hV]
  have HIV : Hid (∀ w k, k < 52 → (Instr.index 65 (.agg V) (.int .i64 ((k : Nat) : Int))).run Tryd.prog w = .ok (.string (byteStr (stemNames.getD k []))) w) := Lib.hid (by rw [hV]; exact HIX.out)
  clear hV HIX
  simp only [Act.put, List.setIfInBounds_toArray, List.set_cons_zero, List.set_cons_succ]
  go_wp2
  go_loop [11] (fun i => ∃ k : Nat, k ≤ 52 ∧ i = .int .i64 k ∧ Hid (∀ op r : Nat, op < k → r < 16 → (nameI (op : Int) (r : Int)).isEmpty = true ∨ nameI (op : Int) (r : Int) ≠ T)) (fun i => 52 - (intOf i).toNat)
  case atStart => exact ⟨0, Nat.zero_le _, rfl, Lib.hid (fun op r h => absurd h (by omega))⟩
  case round =>
    obtain ⟨k, hk, rfl, hF⟩ := hrel
    by_cases hlt : k < 52
    · have hix := fun w => HIV.out w k hlt
      have h0 : (0 : Int) ≤ (k : Int) := by omega
      have h52 : (k : Int) < 52 := by omega
      have CH := Lib.hid ((Tryd.strings_HasPrefix (byteStr T) (byteStr (stemNames.getD k [])) w).mono (fun e w' h => (⟨h.1, h.2.symm⟩ : e = .returned (.bool (Lib.hasPrefix T (stemNames.getD k []))) ∧ w = w')))
      have HST := Lib.hid (fun hk0 => stems_full ⟨k, hlt⟩ hk0)
      have HNS := Lib.hid (fun r h => name_stem k r h)
      generalize stemNames.getD k [] = S at *
      by_cases hk0 : k = 0
      · subst hk0
        have HN : Hid (∀ op r : Nat, op < 0 + 1 → r < 16 → (nameI (op : Int) (r : Int)).isEmpty = true ∨ nameI (op : Int) (r : Int) ≠ T) := Lib.hid (fun op r h hr => by
          obtain rfl : op = 0 := by omega
          exact .inl rfl)
        have hix0 : ∀ w, (Instr.index 65 (.agg V) (.int .i64 0)).run Tryd.prog w = .ok (.string (byteStr S)) w := hix
        go_wp2
        go_round
        case rel => exact ⟨0 + 1, by omega, by go_num, HN⟩
        case measure => simp [intOf] <;> omega
      · have k00 : ((k : Int) == 0) = false := by simp; omega
        have HK0 := Lib.hid (show 0 < k by omega)
        cases hp : Lib.hasPrefix T S
        · have HN : Hid (∀ op r : Nat, op < k + 1 → r < 16 → (nameI (op : Int) (r : Int)).isEmpty = true ∨ nameI (op : Int) (r : Int) ≠ T) := Lib.hid (fun op r h hr => by
            rcases Nat.lt_or_ge op k with a | a
            · exact hF.out op r a hr
            · obtain rfl : op = k := by omega
              cases hn : (nameI (op : Int) (r : Int)).isEmpty
              · right
                intro e
                have := HNS.out r hn
                rw [e, hp] at this
                cases this
              · exact .inl rfl)
          rw [hp] at CH
          clear hk0 hp
          go_wp2_with fail
          refine CH.out.mono ?_
          rintro e w1 ⟨rfl, rfl⟩
          go_wp2
          go_round
          case rel => exact ⟨k + 1, by omega, by go_num, HN⟩
          case measure => simp [intOf] <;> omega
        · have HTE : Hid (T.isEmpty = false) := Lib.hid (by
            have h1 := HST.out HK0.out
            unfold Lib.hasPrefix at hp
            cases T with
            | nil => cases S with
              | nil => simp at h1
              | cons x l => simp at hp
            | cons x l => rfl)
          rw [hp] at CH
          clear hk0 hp
          go_wp2_with fail
          refine CH.out.mono ?_
          rintro e w1 ⟨rfl, rfl⟩
          go_wp2
          go_loop [23] (fun i => ∃ r : Nat, r ≤ 16 ∧ i = .int .i64 r ∧ Hid (∀ r' : Nat, r' < r → (nameI (k : Int) (r' : Int)).isEmpty = true ∨ nameI (k : Int) (r' : Int) ≠ T)) (fun i => 16 - (intOf i).toNat)
          case atStart => exact ⟨0, Nat.zero_le _, rfl, Lib.hid (fun r' h => absurd h (by omega))⟩
          case round =>
            obtain ⟨r, hr, rfl, hG⟩ := hrel
            by_cases hr16 : r < 16
            · have CNN := Lib.hid (CN.out (k : Int) (r : Int))
              cases hq : nameI (k : Int) (r : Int) == T
              · have e1 : ((byteStr (nameI (k : Int) (r : Int))).toList == (byteStr T).toList) = false := by rw [byteStr_list, byteStr_list]; exact hq
                have HG : Hid (∀ r' : Nat, r' < r + 1 → (nameI (k : Int) (r' : Int)).isEmpty = true ∨ nameI (k : Int) (r' : Int) ≠ T) := Lib.hid (fun r' h => by
                  rcases Nat.lt_or_ge r' r with a | a
                  · exact hG.out r' a
                  · obtain rfl : r' = r := by omega
                    right; simpa using hq)
                generalize byteStr (nameI (k : Int) (r : Int)) = N at *
                clear hq
                go_wp2_with fail
                refine CNN.out.mono ?_
                rintro e w1 ⟨rfl, rfl⟩
                go_wp2
                go_round
                case rel => exact ⟨r + 1, by omega, by go_num, HG⟩
                case measure => simp [intOf] <;> omega
              · have e1 : ((byteStr (nameI (k : Int) (r : Int))).toList == (byteStr T).toList) = true := by rw [byteStr_list, byteStr_list]; exact hq
                have HL := Lib.hid (look_some k r hlt hr16 T HTE.out (by simpa using hq))
                generalize byteStr (nameI (k : Int) (r : Int)) = N at *
                clear hq
                go_wp2_with fail
                refine CNN.out.mono ?_
                rintro e w1 ⟨rfl, rfl⟩
                go_wp2
                go_ret3
                exact ⟨by first | (rw [HL.out]; done) | (rw [HL.out]; rfl), rfl⟩
            · obtain rfl : r = 16 := by omega
              have HN : Hid (∀ op r : Nat, op < k + 1 → r < 16 → (nameI (op : Int) (r : Int)).isEmpty = true ∨ nameI (op : Int) (r : Int) ≠ T) := Lib.hid (fun op r h hr => by
                rcases Nat.lt_or_ge op k with a | a
                · exact hF.out op r a hr
                · obtain rfl : op = k := by omega
                  exact hG.out r hr)
              go_wp2
              go_round
              case rel => exact ⟨k + 1, by omega, by go_num, HN⟩
              case measure => simp [intOf] <;> omega
    · obtain rfl : k = 52 := by omega
      have HL := Lib.hid (look_none T (fun op r a b => hF.out op r a b))
      go_wp2
      go_ret3
      exact ⟨by first | (rw [HL.out]; done) | (rw [HL.out]; rfl), rfl⟩
end Go.Proofs.YtnhafficnomlbabDoor
