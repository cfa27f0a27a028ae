/- The law of package symbols: rows of pairs, where a name stands, the chapter's example. -/
import Derived.Test.YtopkjniegncokaaTbo
import Derived.Test.YtopkjniegncokaaRws
namespace Go.Proofs.Ytopkjniegncokaa
open Go.ChangeShapes Go.WideShapes Go.ChangeAt Go.RowKit
set_option linter.unusedVariables false
abbrev PrV := ByteArray × Int × Bool
abbrev eP : Els PrV := ⟨fun p => [.string p.1, .int .u16 p.2.1, .bool p.2.2], 3, fun _ => rfl, fun x u h => by
  simp only [List.mem_cons, List.not_mem_nil, or_false] at h
  rcases h with rfl | rfl | rfl <;> rfl, by decide⟩
theorem pr3_at {w wr : World} {B g off k : Nat} {x : PrV} (hB : Below B w wr) (hg : g < B)
    (CE : ∀ (j : Nat) (u : Value), [Value.string x.1, Value.int IntKind.u16 x.2.1, Value.bool x.2.2][j]? = some u → w.cell? { block := g, off := off + (k * 3 + j) } = some u) :
    wr.cell? ⟨g, off + k * 3, none⟩ = some (.string x.1) ∧ wr.cell? ⟨g, off + k * 3 + 1, none⟩ = some (.int .u16 x.2.1) ∧ wr.cell? ⟨g, off + k * 3 + 2, none⟩ = some (.bool x.2.2) := by
  have key : ∀ (j : Nat) (u : Value), [Value.string x.1, Value.int IntKind.u16 x.2.1, Value.bool x.2.2][j]? = some u → wr.cell? ⟨g, off + k * 3 + j, none⟩ = some u := fun j u h => by
    have := CE j u h
    rw [show off + k * 3 + j = off + (k * 3 + j) by omega]
    exact (hB.cell (p := ⟨g, off + (k * 3 + j), none⟩) hg).trans this
  exact ⟨key 0 _ rfl, key 1 _ rfl, key 2 _ rfl⟩
def PrOk (p : PrV) : Prop := 0 ≤ p.2.1 ∧ p.2.1 < 65536
theorem open_prs {H : Type} {ee : TypeId × Value → H} {W : World} {base : Nat} {sp : Nat → Bool} {held : Bool} {fuel : Nat} {A : Option Addr} {n c : Nat} {x : DataW H × List MemPlace} (h : DataW.trod ee Try.prog W base sp held fuel 22 (Value.slice A n c).cells.toList = some x) :
    ∃ l, eP.In PrOk W A n c l :=
  Els.open_in (E := eP) PrOk Try.underlying22 (by kernel_rfl) (fun n cs x hl h => by
    match cs, hl with
    | [c0, c1, c2], _ =>
      obtain ⟨ys, m, _, _, _, hlen, hf⟩ := DataW.trod_struct Try.underlying29 h
      have k16 : Try.prog.cellsOf 23 = 1 := by kernel_rfl
      have ks : Try.prog.cellsOf 9 = 1 := by kernel_rfl
      have kb : Try.prog.cellsOf 4 = 1 := by kernel_rfl
      match ys, hlen with
      | [y0, y1, y2], _ =>
        have h0 : DataW.trod ee Try.prog W base sp held m 9 (([c0, c1, c2].drop 0).take (Try.prog.cellsOf 9)) = some y0 := hf 0 _ rfl
        rw [ks] at h0
        change DataW.trod ee Try.prog W base sp held m 9 [c0] = some y0 at h0
        have h1 : DataW.trod ee Try.prog W base sp held m 23 (([c0, c1, c2].drop 1).take (Try.prog.cellsOf 23)) = some y1 := hf 1 _ rfl
        rw [k16] at h1
        change DataW.trod ee Try.prog W base sp held m 23 [c1] = some y1 at h1
        have h2 : DataW.trod ee Try.prog W base sp held m 4 (([c0, c1, c2].drop 2).take (Try.prog.cellsOf 4)) = some y2 := hf 2 _ rfl
        rw [kb] at h2
        change DataW.trod ee Try.prog W base sp held m 4 [c2] = some y2 at h2
        obtain ⟨s, e0, _⟩ := DataW.trod_string Try.underlying9 h0
        obtain ⟨a, e1, _, wa⟩ := DataW.trod_int Try.underlying23 h1
        obtain ⟨b, e2, _⟩ := DataW.trod_bool Try.underlying4 h2
        have E0 : c0 = .string s := by simpa using e0
        have E1 : c1 = .int .u16 a := by simpa using e1
        have E2 : c2 = .bool b := by simpa using e2
        have hr := bounds_u16 wa
        exact ⟨(s, a, b), by rw [E0, E1, E2], hr.1, by show a < 65536; have := hr.2; omega⟩) h
theorem infoP : (Try.prog.info? 29).map (fun i => (i.zero, i.size, i.bytes)) = some (some (.agg #[.string ⟨#[]⟩, .int .u16 0, .bool false]), 3, 24) := by kernel_rfl
theorem wpList_appP {ops : Array Oper} {rest : List Oper} {o : Oper} {a : Act} {Q : Exit → Act → World → Prop} (hgd : o.guard = none) (w : World) (s x : Operand)
    (ho : o.op = .call { callee := .builtin .append, args := #[s, x], argTypes := #[22, 22] })
    (base : Nat) (v y : Value) (l m : List PrV) (hs : a.eval s = v) (hown : eP.Own 29 w base v l) (hx : a.eval x = y) (hr : eP.Rd w y m) (hn : l.length + m.length ≤ 1099511627776) (hbase : base ≤ w.heap.size)
    (h : ∀ v' w', eP.Own 29 w' base v' (l ++ m) → Below base w w' → w.grownBy w' v.ownBlock → (v'.ownBlock = v.ownBlock ∨ v'.ownBlock = some w.heap.size) → wpList Try.prog ops Q rest (a.put o.dst v') w') : wpList Try.prog ops Q (o :: rest) a w := by
  obtain ⟨i0, hi, hz0, hz1, hz2⟩ := info_parts infoP
  exact wpList_plain hgd fun _ hK => Els.app (E := eP) w s x 22 29 i0 (.agg #[.string ⟨#[]⟩, .int .u16 0, .bool false]) 24 Try.underlying22 hi hz0 hz1 hz2 (by decide) rfl ho base v y l m hs hown hx hr hn hbase fun v' w' h2 h3 h4 h5 => hK _ _ (h v' w' h2 h3 h4 h5)
/-- Where a name stands. -/
def FindIs (l : List PrV) (s : ByteArray) (r : Int) : Prop := (r = -1 ∧ ∀ p ∈ l, p.1 ≠ s) ∨ ∃ k : Nat, r = (k : Int) ∧ k < l.length ∧ ∃ p, l[k]? = some p ∧ p.1 = s
theorem str_beq (a b : ByteArray) : (a.toList == b.toList) = decide (a = b) := by
  rw [ByteArray.toList_eq, ByteArray.toList_eq]
  by_cases h : a = b
  · subst h; simp
  · rw [decide_eq_false h]
    rw [beq_eq_false_iff_ne]
    intro e
    exact h (ByteArray.ext (Array.toList_inj.1 e))
set_option maxRecDepth 100000 in
set_option maxHeartbeats 1000000 in
theorem find_any (v : Value) (l : List PrV) (s : ByteArray) (w : World) (h : eP.Rd w v l) (hn : l.length ≤ 1000) :
    Calls Try.prog 6 #[v, .string s] w fun e w' => (∃ r, e = .returned (.int .i64 r) ∧ FindIs l s r) ∧ w = w' := by
  obtain ⟨A, c, rfl, hc⟩ := h.open_
  have HC := Lib.hid hc
  obtain ⟨N, hN⟩ : ∃ N, l.length = N := ⟨_, rfl⟩
  have HN := Lib.hid hN
  have XL : (N : Int) ≤ 1000 := by omega
  rw [hN]
  clear h hc hN hn
  go_enter Try.func6, Try.ntmps6
  go_wp2
  go_loopw [5] (fun u5 wr => ∃ k : Nat, k ≤ N ∧ u5 = .int .i64 k ∧ (∀ j p, j < k → l[j]? = some p → p.1 ≠ s) ∧ wr = w) (fun u5 _ => N - (intOf u5).toNat)
  case atStart => exact ⟨0, Nat.zero_le _, rfl, fun j p h => absurd h (by omega), rfl⟩
  case round =>
    obtain ⟨k, hk, rfl, hall, rfl⟩ := hrel
    have HAll := Lib.hid hall
    have k0 : (0 : Int) ≤ (k : Int) := by omega
    clear hall
    by_cases hlt : k < N
    · have hkl : k < l.length := by rw [HN.out]; exact hlt
      obtain ⟨g1, off, rfl, hg1, hcell⟩ := HC.out (by omega)
      obtain ⟨p, hp⟩ : ∃ p, l[k]? = some p := ⟨_, List.getElem?_eq_getElem hkl⟩
      obtain ⟨x0, x1, x2⟩ := pr3_at (Below.refl _ _) hg1 (hcell k p hp)
      have HP := Lib.hid hp
      have hlt' : (k : Int) < (N : Int) := by omega
      have hb := str_beq p.1 s
      clear hcell hkl hp
      by_cases hps : p.1 = s
      · rw [decide_eq_true hps] at hb
        have HF : Hid (FindIs l s (k : Int)) := Lib.hid (.inr ⟨k, rfl, by rw [HN.out]; exact hlt, p, HP.out, hps⟩)
        clear hps
        go_wp2
        go_ret
        exact ⟨⟨_, rfl, HF.out⟩, rfl⟩
      · rw [decide_eq_false hps] at hb
        have HF : Hid (∀ j q, j < k + 1 → l[j]? = some q → q.1 ≠ s) := Lib.hid (fun j q hj hq => by
          rcases Nat.lt_or_ge j k with h1 | h1
          · exact HAll.out j q h1 hq
          · obtain rfl : j = k := by omega
            have e := HP.out.symm.trans hq
            injection e with e
            rw [← e]; exact hps)
        clear hps
        go_wp2
        go_roundw
        case rel => exact ⟨k + 1, by omega, by go_num, HF.out, by first | rfl | trivial⟩
        case measure => simp [intOf]; omega
    · obtain rfl : k = N := by omega
      have HF : Hid (FindIs l s (-1)) := Lib.hid (.inl ⟨rfl, fun p hp => by
        obtain ⟨j, hj, e⟩ := List.getElem_of_mem hp
        exact HAll.out j p (by rw [← HN.out]; exact hj) (by rw [List.getElem?_eq_getElem hj, e])⟩)
      go_wp2
      go_ret
      exact ⟨⟨_, rfl, HF.out⟩, rfl⟩
theorem srt_one (s : ByteArray) : srtS [s] = [s] := by unfold srtS; simp [mkB_bts]
theorem near_ex : nearF [(⟨#[97]⟩, 5)] 7 (srtS (nmsP [(⟨#[97]⟩, 5)])) = (⟨#[97]⟩, 2, true) := by
  show nearF [(⟨#[97]⟩, 5)] 7 (srtS [⟨#[97]⟩]) = _
  rw [srt_one]
  decide +kernel
set_option maxRecDepth 100000 in
set_option maxHeartbeats 1000000 in
theorem alive41 (w : World) : Calls Try.prog 16 #[] w fun e w' => e = .returned (.bool true) ∧ Below w.heap.size w w' := by
  have C1 := Lib.hid (symSet_any _ _ _ _ _ (TabP.new w) ⟨#[97]⟩ (by decide) 5 (by decide) (by decide))
  have e1 : setE [] ⟨#[97]⟩ 5 = 0 := by decide +kernel
  have e2 : setM [] ⟨#[97]⟩ 5 = [(⟨#[97]⟩, 5)] := by decide +kernel
  rw [e1, e2] at C1
  have hq : ((⟨#[97]⟩ : ByteArray).toList == (⟨#[97]⟩ : ByteArray).toList) = true := by simp
  have HB0 := Lib.hid (Below.alloc0 (Below.refl w.heap.size w) (.cells #[.map none] 27 (0, 0)))
  clear e1 e2
  go_enter Try.func16, Try.ntmps16
  go_wp2_with fail
  refine C1.out.mono ?_
  rintro e w1 ⟨rfl, ob', ⟨row, hg, hr, _⟩, ht⟩
  have HB1 := Lib.hid (HB0.out.grown hg HB0.out.size (fun j ej => by
    rcases hr j ej with h | h
    · omega
    · cases h))
  have C2 := Lib.hid (symNear_any _ _ _ _ _ ht (by decide) 7 (by decide) (by decide))
  rw [near_ex] at C2
  clear hg hr ht
  go_wp2_with fail
  refine C2.out.mono ?_
  rintro e w2 ⟨rfl, hb⟩
  have HB2 := Lib.hid (Below.trans0 HB1.out hb)
  clear hb
  go_wp2
  go_ret
  exact ⟨rfl, HB2.out⟩
end Go.Proofs.Ytopkjniegncokaa
