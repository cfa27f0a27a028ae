/- Contract of bytes.Repeat on a row of one byte. -/
import Derived.Test.YtnhafficnomlbaaRpY
import Derived.Lib.MakeNoZero
import Derived.Laws.Externs
namespace Go.Proofs.Ytnhafficnomlbaa
open Go.ChangeShapes Go.WideShapes Go.ChangeAt Go.RowKit
set_option linter.unusedVariables false
/-- So many that are x, and the others as they were. -/
def rowG (x : Int) (cs : List Value) (k : Nat) : List Value := List.replicate k (Value.int .u8 x) ++ cs.drop k
theorem rowG_len (x : Int) (cs : List Value) (k : Nat) (h : k ≤ cs.length) : (rowG x cs k).length = cs.length := by simp [rowG]; omega
theorem rowG_splice (x : Int) (cs : List Value) (k m : Nat) (h : k + m ≤ cs.length) : splice (rowG x cs k) k (List.replicate m (Value.int .u8 x)) = rowG x cs (k + m) := by
  unfold splice rowG
  have e1 : (List.replicate k (Value.int .u8 x) ++ cs.drop k).take k = List.replicate k (Value.int .u8 x) := by
    rw [List.take_append_of_le_length (by simp), List.take_of_length_le (by simp)]
  have e2 : (List.replicate k (Value.int .u8 x) ++ cs.drop k).drop (k + m) = cs.drop (k + m) := by
    rw [List.drop_append, List.drop_of_length_le (by simp), List.length_replicate, show k + m - k = m by omega, List.drop_drop]; rfl
  rw [e1, List.length_replicate, e2, List.replicate_append_replicate.symm, List.append_assoc]
theorem rowG_at (x : Int) (cs : List Value) (k i : Nat) (h : i < k) : (rowG x cs k)[i]? = some (Value.int .u8 x) := by
  unfold rowG
  rw [List.getElem?_append_left (by simpa using h)]
  simp [h]
theorem rowG_rd {w : World} {g : Nat} {t : TypeId} (x : Int) (cs : List Value) (n : Nat) (h : Blk w g t (rowG x cs n).toArray) (c : Nat) : eY.Rd w (.slice (some ⟨g, 0, none⟩) n c) (List.replicate n x) := by
  refine rdY_mk (by simp) h.lt (fun i hi => ?_)
  rw [List.length_replicate] at hi
  rw [Nat.zero_add, h.cell, List.getElem?_toArray, rowG_at x cs n i hi]
  congr 2
  rw [iat_eq _ _ (by simpa using hi)]; simp
set_option maxRecDepth 100000 in
set_option maxHeartbeats 1000000 in
theorem repeatB (g off c : Nat) (x : Int) (n : Nat) (hn0 : 0 < n) (hn : n ≤ 8192) (w : World) (hg : g < w.heap.size) (hx : w.cell? ⟨g, off, none⟩ = some (.int .u8 x)) :
    Calls Try.prog 21 #[.slice (some ⟨g, off, none⟩) 1 c, .int .i64 (n : Int)] w (fun e w' => ∃ v, e = .returned v ∧ eY.Rd w' v (List.replicate n x) ∧ (∃ A c', v = .slice A n c' ∧ n ≤ c') ∧ Below w.heap.size w w') := by
  have hM := fun w => (Try.bits_Mul 1 n (by decide) (by omega) w).mono (fun e w' h => (⟨h.1, h.2.symm⟩ : e = .returned (.tuple #[.int .u64 ((1 * n / 18446744073709551616 : Nat) : Int), .int .u64 ((1 * n % 18446744073709551616 : Nat) : Int)]) ∧ w = w'))
  have e1 : (1 * n / 18446744073709551616 : Nat) = 0 := by omega
  have e2 : (1 * n % 18446744073709551616 : Nat) = n := by omega
  rw [e1, e2] at hM
  have HM := Lib.hid hM
  have n0 : (0 : Int) ≤ n := by omega
  have n1 : (0 : Int) < n := by omega
  have n2 : (n : Int) ≤ 8192 := by omega
  have n3 : ((n : Int) == 0) = false := by simp; omega
  obtain ⟨cs, hrun, hle, hmax⟩ := Lib.run_makeNoZero (P := Try.prog) w #[3] 22 5 Try.underlying22 n (by omega)
  have hcall : (callFunc 41 #[.int .i64 (n : Int)]).run Try.prog w = .ok (.value (.slice (some ⟨w.heap.size, 0, none⟩) n cs.size)) (w.drew.drew.alloc (.cells cs 5)) := by
    rw [run_callFunc_extern Try.func41 (by kernel_rfl) (by kernel_rfl) (by kernel_rfl) (e := Extern.BytealgMakeNoZero.makeNoZero #[3] #[22]) (by kernel_rfl), hrun]
    rfl
  have hlen : cs.toList.length = cs.size := by simp
  have HLE := Lib.hid hle
  have HR0 : Hid (Blk (w.drew.drew.alloc (Obj.cells cs 5)) w.heap.size 5 (rowG x cs.toList 0).toArray) := Lib.hid (by
    have e : (rowG x cs.toList 0).toArray = cs := by unfold rowG; simp
    rw [e]; exact Blk.new _ _ _ (0, 0))
  have HB0 : Hid (Below w.heap.size w (w.drew.drew.alloc (Obj.cells cs 5))) := Lib.hid (Below.alloc0 (Below.drewN0 (Below.refl w.heap.size w) 2) (Obj.cells cs 5))
  have HX0 := Lib.hid ((HB0.out.cell (p := ⟨g, off, none⟩) hg).trans hx)
  have HS := Lib.hid (show ∀ j v, (List.replicate 1 (Value.int .u8 x))[j]? = some v → (w.drew.drew.alloc (Obj.cells cs 5)).cell? ((⟨g, off, none⟩ : Addr).add j) = some v from fun j v hj => by
    rw [List.getElem?_replicate] at hj
    split at hj
    · obtain rfl : Value.int .u8 x = v := Option.some.inj hj
      obtain rfl : j = 0 := by omega
      rw [Els.add_pl, Nat.add_zero]; exact HX0.out
    · cases hj)
  have hcl : n ≤ cs.toList.length := by rw [hlen]; exact hle
  generalize cs.toList = L at *
  have HCL := Lib.hid hcl
  clear hM e1 e2 hrun hmax hcl hlen
  go_enter Try.func21, Try.ntmps21
  go_wp2_with (first | (go_at_call 40; refine (HM.out _).mono ?_; rintro e w' ⟨rfl, rfl⟩) | (refine wpList_copy_splice (by rfl) (.tmp 58) (.tmp 59) 22 22 (by rfl) 5 Try.underlying22 (by kernel_rfl) _ _ n n 1 c (by rfl) (by rfl) w.heap.size 0 (rowG x L 0) 5 HR0.out (List.replicate 1 (Value.int .u8 x)) (by rw [List.length_replicate]; have : Nat.min 1 n = min 1 n := rfl; omega) (fun _ => ⟨rfl, _, rfl, HS.out⟩) (by rw [rowG_len x _ _ (Nat.zero_le _), List.length_replicate]; have := HCL.out; omega) (by intro v hv; rw [List.eq_of_mem_replicate hv]; rfl) w.heap.size w HB0.out (by omega) ?_; intro w2 HG hb2) | fail)
  have HG2 : Hid (Blk w2 w.heap.size 5 (rowG x L 1).toArray) := Lib.hid (by have := HG.out; rw [rowG_splice x L 0 1 (by have := HCL.out; omega), Nat.zero_add] at this; exact this)
  have HB2 := Lib.hid hb2
  clear HG hb2 hcall
  go_loopw [10] (fun i wr => ∃ k : Nat, k ≤ n ∧ 0 < k ∧ i = .int .i64 k ∧ Hid (Blk wr w.heap.size 5 (rowG x L k).toArray) ∧ Hid (Below w.heap.size w wr)) (fun i _ => n - (intOf i).toNat)
  case atStart => exact ⟨1, by omega, by omega, rfl, HG2, HB2⟩
  case round =>
    obtain ⟨k, hk, hk1, rfl, hG, hB⟩ := hrel
    by_cases hlt : k < n
    · obtain ⟨q, hq⟩ : ∃ q, q = Nat.min k (n - k) := ⟨_, rfl⟩
      have hq1 : k + q ≤ n ∧ q ≤ k ∧ 0 < q := by rw [hq]; have : Nat.min k (n - k) = min k (n - k) := rfl; omega
      have HQ1 := Lib.hid hq1
      have HQ2 := Lib.hid hq
      have hk0 : (0 : Int) ≤ k := by omega
      have hkn : (k : Int) < n := by omega
      have hkn' : (k : Int) ≤ n := by omega
      have hnk : ¬ (n = k) := by omega
      have kw : IntKind.i64.wrap ((k : Int) + (q : Int)) = (k : Int) + (q : Int) := IntWalk.i64_in _ (by omega)
      have HS := Lib.hid (show ∀ j v, (List.replicate q (Value.int .u8 x))[j]? = some v → wr.drew.cell? ((⟨w.heap.size, 0, none⟩ : Addr).add j) = some v from fun j v hj => by
        have h1 := HQ1.out.2.1
        rw [List.getElem?_replicate] at hj
        split at hj
        · obtain rfl : Value.int .u8 x = v := Option.some.inj hj
          rw [Els.add_pl, Nat.zero_add, (Blk.drew hG.out).cell, List.getElem?_toArray]
          exact rowG_at x L k j (by omega)
        · cases hj)
      have hmi2 : min (k : Int) (n : Int) = (k : Int) := by omega
      have hmi : (if (n : Int) < (k : Int) then (n : Int) else (k : Int)) = (k : Int) := by rw [if_neg (by omega)]
      clear hq hq1
      go_wp2
      refine wp_region_noPanic ?_
      refine wp_region_held_drew (S := (fun _ => True)) (by kernel_rfl) ?_ (fun hH0 => ?_)
      · trivial
      refine wpAnyH_take (i := 0) (oi := ({ dst := some 67, op := Op.move (Operand.tmp 10), type := 3, pos := "bytes.go:672", after := #[], guard := none } : Oper)) (v := ?_) rfl (by kernel_rfl) (by kernel_rfl) (by kernel_rfl) (fun _ _ _ h => h) (Or.inl ⟨by rfl, ?_⟩) (by assumption) ?_
      rotate_left 1
      · (intro w hSw; (try dsimp only at hSw); go_simp; (try with_reducible rfl))
      (try simp only [Act.put, List.setIfInBounds_toArray, List.set_cons_zero, List.set_cons_succ])
      refine wpAnyH_take (i := 1) (oi := ({ dst := some 68, op := Op.move (Operand.tmp 9), type := 22, pos := "bytes.go:672", after := #[], guard := none } : Oper)) (v := ?_) rfl (by kernel_rfl) (by kernel_rfl) (by kernel_rfl) (fun _ _ _ h => h) (Or.inl ⟨by rfl, ?_⟩) (by assumption) ?_
      rotate_left 1
      · (intro w hSw; (try dsimp only at hSw); go_simp; (try with_reducible rfl))
      (try simp only [Act.put, List.setIfInBounds_toArray, List.set_cons_zero, List.set_cons_succ])
      refine wpAnyH_take (i := 2) (oi := ({ dst := some 69, op := Op.move (Operand.tmp 10), type := 3, pos := "bytes.go:672", after := #[], guard := none } : Oper)) (v := ?_) rfl (by kernel_rfl) (by kernel_rfl) (by kernel_rfl) (fun _ _ _ h => h) (Or.inl ⟨by rfl, ?_⟩) (by assumption) ?_
      rotate_left 1
      · (intro w hSw; (try dsimp only at hSw); go_simp; (try with_reducible rfl))
      (try simp only [Act.put, List.setIfInBounds_toArray, List.set_cons_zero, List.set_cons_succ])
      refine wpAnyH_take (i := 3) (oi := ({ dst := some 70, op := Op.slice 22 (Operand.tmp 68) (some (Operand.tmp 69)) none none, type := 22, pos := "bytes.go:672", after := #[{ on := 1, ground := Ground.data }, { on := 2, ground := Ground.data }], guard := none } : Oper)) (v := ?_) rfl (by kernel_rfl) (by kernel_rfl) (by kernel_rfl) (fun _ _ _ h => h) (Or.inl ⟨by rfl, ?_⟩) (by assumption) ?_
      rotate_left 1
      · (intro w hSw; (try dsimp only at hSw); go_simp; (try with_reducible rfl))
      (try simp only [Act.put, List.setIfInBounds_toArray, List.set_cons_zero, List.set_cons_succ])
      refine wpAnyH_take (i := 4) (oi := ({ dst := some 71, op := Op.move (Operand.tmp 9), type := 22, pos := "bytes.go:672", after := #[], guard := none } : Oper)) (v := ?_) rfl (by kernel_rfl) (by kernel_rfl) (by kernel_rfl) (fun _ _ _ h => h) (Or.inl ⟨by rfl, ?_⟩) (by assumption) ?_
      rotate_left 1
      · (intro w hSw; (try dsimp only at hSw); go_simp; (try with_reducible rfl))
      (try simp only [Act.put, List.setIfInBounds_toArray, List.set_cons_zero, List.set_cons_succ])
      refine wpAnyH_take (i := 5) (oi := ({ dst := some 72, op := Op.move (Operand.tmp 11), type := 3, pos := "bytes.go:672", after := #[], guard := none } : Oper)) (v := ?_) rfl (by kernel_rfl) (by kernel_rfl) (by kernel_rfl) (fun _ _ _ h => h) (Or.inl ⟨by rfl, ?_⟩) (by assumption) ?_
      rotate_left 1
      · (intro w hSw; (try dsimp only at hSw); go_simp; (try with_reducible rfl))
      (try simp only [Act.put, List.setIfInBounds_toArray, List.set_cons_zero, List.set_cons_succ])
      refine wpAnyH_take (i := 6) (oi := ({ dst := some 73, op := Op.slice 22 (Operand.tmp 71) none (some (Operand.tmp 72)) none, type := 22, pos := "bytes.go:672", after := #[{ on := 4, ground := Ground.data }, { on := 5, ground := Ground.data }], guard := none } : Oper)) (v := ?_) rfl (by kernel_rfl) (by kernel_rfl) (by kernel_rfl) (fun _ _ _ h => h) (Or.inl ⟨by rfl, ?_⟩) (by assumption) ?_
      rotate_left 1
      · (intro w hSw; (try dsimp only at hSw); go_simp; (try with_reducible rfl))
      (try simp only [Act.put, List.setIfInBounds_toArray, List.set_cons_zero, List.set_cons_succ])
      refine wpAnyH_ready (rs := [7]) (by kernel_rfl) (by simp) ?_
      refine AllReadyH.cons (o := ({ dst := some 74, op := Op.call { callee := Callee.builtin Builtin.copy, args := #[Operand.tmp 70, Operand.tmp 73], argTypes := #[22, 22] }, type := 3, pos := "bytes.go:672", after := #[{ on := 3, ground := Ground.data }, { on := 6, ground := Ground.data }], guard := none } : Oper)) rfl (fun K hK => ?_) ?_
      rotate_left 1
      · exact AllReadyH.nil
      (refine step_copy_splice (by rfl) (.tmp 70) (.tmp 73) 22 22 (by rfl) 5 Try.underlying22 (by kernel_rfl) _ _ (n - k) (n - k) k n (by rfl) (by rfl) w.heap.size k (rowG x L k) 5 hG.out (List.replicate q (Value.int .u8 x)) (by rw [List.length_replicate]; exact HQ2.out) (fun _ => ⟨rfl, ⟨w.heap.size, 0, none⟩, rfl, HS.out⟩) (by rw [rowG_len x _ _ (by have := HCL.out; omega), List.length_replicate]; have h1 := HQ1.out; have h2 := HCL.out; omega) (by intro v hv; rw [List.eq_of_mem_replicate hv]; rfl) w.heap.size w (Below.drew0 hB.out) (by omega) ?_; intro w3 HG hb3; rw [List.length_replicate])
      first | (refine hK.out _ _ ?_ (fun hH1 => ?_)) | (go_wp2_with fail; refine hK.out _ _ ?_ (fun hH1 => ?_))
      · trivial
      clear hK K hH0
      (try simp only [Act.put, List.setIfInBounds_toArray, List.set_cons_zero, List.set_cons_succ])
      refine wpAnyH_take (i := 8) (oi := ({ dst := some 75, op := Op.binOp BinOp.add 3 (Operand.tmp 67) (Operand.tmp 74) 3, type := 3, pos := "bytes.go:672", after := #[{ on := 0, ground := Ground.data }, { on := 7, ground := Ground.data }], guard := none } : Oper)) (v := ?_) rfl (by kernel_rfl) (by kernel_rfl) (by kernel_rfl) (fun _ _ _ h => h) (Or.inl ⟨by rfl, ?_⟩) (by assumption) ?_
      rotate_left 1
      · (intro w hSw; (try dsimp only at hSw); go_simp; (try with_reducible rfl))
      (try simp only [Act.put, List.setIfInBounds_toArray, List.set_cons_zero, List.set_cons_succ])
      refine wpAnyH_take (i := 9) (oi := ({ dst := some 10, op := Op.assign (Operand.tmp 75), type := 3, pos := "bytes.go:672", after := #[{ on := 8, ground := Ground.data }, { on := 7, ground := Ground.chain }, { on := 0, ground := Ground.phase }, { on := 1, ground := Ground.phase }, { on := 2, ground := Ground.phase }, { on := 3, ground := Ground.phase }, { on := 4, ground := Ground.phase }, { on := 5, ground := Ground.phase }, { on := 6, ground := Ground.phase }, { on := 7, ground := Ground.phase }, { on := 8, ground := Ground.phase }], guard := none } : Oper)) (v := ?_) rfl (by kernel_rfl) (by kernel_rfl) (by kernel_rfl) (fun _ _ _ h => h) (Or.inl ⟨by rfl, ?_⟩) (by assumption) ?_
      rotate_left 1
      · (intro w hSw; (try dsimp only at hSw); go_simp; (try with_reducible rfl))
      (try simp only [Act.put, List.setIfInBounds_toArray, List.set_cons_zero, List.set_cons_succ])
      refine wpAnyH_done (by kernel_rfl) ?_ _
      refine NoPanic.normal ?_
      clear kw
      have HG3 : Hid (Blk w3 w.heap.size 5 (rowG x L (k + q)).toArray) := Lib.hid (by have := HG.out; rw [rowG_splice x L k q (by have := HQ1.out; have := HCL.out; omega)] at this; exact this)
      have HB3 := Lib.hid hb3
      clear HG hb3
      go_wp2
      go_roundw
      case rel => exact ⟨k + q, HQ1.out.1, by omega, by go_num, HG3, HB3⟩
      case measure => have := HQ1.out.2.2; simp [intOf]; omega
    · obtain rfl : k = n := by omega
      go_wp2
      go_ret
      exact ⟨_, rfl, rowG_rd x L k hG.out k, ⟨_, k, rfl, Nat.le_refl _⟩, hB.out⟩
end Go.Proofs.Ytnhafficnomlbaa
