/- Package prof: Add. -/
import Derived.Test.YtlgaedhbgkhmeaaPfV
import Derived.Test.YtlgaedhbgkhmeaaPfP
import Derived.Test.YtlgaedhbgkhmeaaPfB
import Derived.Deep.CutBlock
import Derived.Deep.DeepCutAuto
import Derived.Deep.RegionHeld3
namespace Go.Proofs.Ytlgaedhbgkhmeaa
open Go.ChangeShapes Go.WideShapes Go.ChangeAt Go.RowKit
set_option linter.unusedVariables false
structure Pc where
  A : Option Addr
  n : Nat
  c : Nat
  e : Bool
abbrev eC : Els Pc := ⟨fun x => [.slice x.A x.n x.c, .bool x.e], 2, fun _ => rfl, fun x u h => by
  simp only [List.mem_cons, List.not_mem_nil, or_false] at h
  rcases h with rfl | rfl <;> rfl, by decide⟩
/-- A part's records, counted. -/
def addP (L : List SpN) (x : List Rc) : List SpN := match x.find? stP with | none => L | some r => addN L r.a (owN x) ((x.length : Int) - owN x)
theorem map_nilS (m : Option Nat) (w : World) : (binOp .eql 25 (.map m) (.map none)).run Try.prog w = .ok (.bool m.isNone) w := by cases m <;> kernel_rfl
/-- How Add stands: the counts in block g, their map in block b, hold L; what else there was is as it was. -/
structure AdSt (w wx : World) (g b n : Nat) (row ob : Option Nat) (L : List SpN) : Prop where
  pp : ProP wx g (some b) n L
  gr : w.grownBy wx row
  r1 : ∀ j, row = some j → j = g ∨ ob = some j
  r2 : ob = some b ∨ w.heap.size ≤ b
  r3 : row = some b ∨ w.heap.size ≤ b
theorem AdSt.below {w wx wy : World} {g b n : Nat} {row ob : Option Nat} {L : List SpN} (h : AdSt w wx g b n row ob L) (hb : Below wx.heap.size wx wy) : AdSt w wy g b n row ob L :=
  ⟨h.pp.below hb, h.gr.andThen (Below.grown0 hb) (fun j e => by cases e), h.r1, h.r2, h.r3⟩
theorem AdSt.ends {w wx : World} {g b n : Nat} {row ob : Option Nat} {L : List SpN} (h : AdSt w wx g b n row ob L) : Turned w wx g ob (some b) :=
  ⟨row, h.gr, h.r1, fun j e => by injection e with e; subst e; exact h.r2⟩
theorem AdSt.stay {w wx : World} {g b n : Nat} {row ob : Option Nat} {L : List SpN} (h : AdSt w wx g b n row ob L) : (∀ j, j < w.heap.size → j ≠ g → ob ≠ some j → wx.heap[j]? = w.heap[j]?) ∧ w.heap.size ≤ wx.heap.size :=
  ⟨fun j h1 h2 h3 => h.gr.block j h1 (fun e => by
    rcases h.r1 j e.symm with q | q
    · exact h2 q
    · exact h3 q), h.gr.size⟩
theorem AdSt.add {w wx wy : World} {g b n : Nat} {row ob : Option Nat} {L : List SpN} (h : AdSt w wx g b n row ob L) {a o l : Int} (ha : 0 ≤ a ∧ a < 65536) {D : DataW Unit} (hD : LooksS D L) (hs : Maps.size D = L.length) (ht : Maps.Tidy D)
    (h1 : wy.ownsMap Try.prog 23 spR b (n + 1) (D.put (keyU a) (spD (addV L a o l)))) (h2 : wx.mapTurned wy b) : AdSt w wy g b (n + 1) row ob (addN L a o l) := by
  have hg : b ≠ g := by
    rcases h.pp.2.2 with ⟨_, _, e⟩ | ⟨b', _, e, _, q, _⟩
    · cases e
    · injection e with e; subst e; exact q
  refine ⟨⟨fun x hx => ?_, addN_dis h.pp.2.1, .inr ⟨b, _, rfl, h.pp.blk.grown h2.grown (by intro e; injection e with e; exact hg e.symm), hg, h1, hD.add a o l, ?_⟩⟩, h.gr.andThen h2.grown (fun j e => by
    injection e with e; subst e
    rcases h.r3 with q | q
    · exact .inr q
    · exact .inl q), h.r1, h.r2, h.r3⟩
  · unfold addN at hx
    split at hx
    · obtain ⟨y, hy, rfl⟩ := List.mem_map.1 hx
      have := h.pp.1 y hy
      split
      · exact this
      · exact this
    · rcases List.mem_append.1 hx with hx | hx
      · exact h.pp.1 x hx
      · obtain rfl := List.mem_singleton.1 hx
        exact ha
  · rw [Maps.size_put ht, addN_len_eq, hs, (hD.at_ a).2]
    cases lkS L a <;> rfl
theorem AdSt.own {w wx : World} {g b n : Nat} {row ob : Option Nat} {L : List SpN} (h : AdSt w wx g b n row ob L) : ∃ D, wx.ownsMap Try.prog 23 spR b n D ∧ LooksS D L ∧ Maps.size D = L.length := by
  rcases h.pp.2.2 with ⟨_, _, e⟩ | ⟨b', D, e, _, _, q1, q2, q3⟩
  · cases e
  · injection e with e; subst e; exact ⟨D, q1, q2, q3⟩
/-- A store into a map, as a step of a region that draws its order. -/
theorem step_mapU {P : Program} {H : Type} {ops : Array Oper} {o : Oper} {a : Act} {K : Act → World → Prop} {Q : Exit → Act → World → Prop} {E : Prop} (hgd : o.guard = none) (w : World) (m x v : Operand) (t : TypeId) (hop : o.op = Op.mapUpdate t m x v)
    (k e : TypeId) (KK : Maps.Keyed P k) (ht : P.underlying t = some (.map k e)) (R : Value → Option (DataW H × List MemPlace)) (b n : Nat) (D : DataW H)
    (hm : a.eval m = .map (some b)) (hown : w.ownsMap P k R b n D) (hn : n < maxLen) (key val : Value) (kl : Lit) (hx : a.eval x = key) (hv : a.eval v = val) (hkey : keyOf P k key = some kl)
    (d : DataW H) (ps : List MemPlace) (hval : R val = some (d, ps))
    (hK : ∀ w', w'.ownsMap P k R b (n + 1) (D.put kl d) → w.mapTurned w' b → K (a.put o.dst undef) w') : if Region.wanted o (yielded ops a.tmps) = true then Oper.wp P o a w K Q else E := by
  rw [if_pos (by simp [Region.wanted, hgd])]
  obtain ⟨w', hrun, r1, r2⟩ := hown.store KK ht hn hkey hval
  unfold Oper.wp
  simp [execOp, hop, hm, hx, hv, hrun, Result.andThen]
  exact hK w' r1 r2
theorem ofN_bnd {n : Int} {L : List SpN} (h : BndN n 30 L) (h0 : 0 ≤ n) (h1 : n ≤ 100) (a : Int) : (0 ≤ (ofN L a).t ∧ (ofN L a).t ≤ 1000000 ∧ 0 ≤ (ofN L a).c ∧ (ofN L a).c ≤ 1000000 ∧ 0 ≤ (ofN L a).l ∧ (ofN L a).l ≤ 1000000) := by
  unfold ofN
  cases hl : lkS L a with
  | none => simp [z4]
  | some x =>
    have := h x (lkS_at hl).1
    simp only [Option.getD_some]
    omega
set_option maxRecDepth 100000 in
set_option maxHeartbeats 4000000 in
theorem proAdd_any (w : World) (g n : Nat) (ob : Option Nat) (L : List SpN) (h : ProP w g ob n L) (v : Value) (ps : List Pc) (xs : List (List Rc)) (hps : ps.length = xs.length) (hxn : xs.length ≤ 10)
    (hv : ∀ w', (∀ j, j < w.heap.size → j ≠ g → ob ≠ some j → w'.heap[j]? = w.heap[j]?) → w.heap.size ≤ w'.heap.size → eC.Rd w' v ps ∧ ∀ (i : Nat) (p : Pc) (x : List Rc), ps[i]? = some p → xs[i]? = some x → eR.Rd w' (.slice p.A p.n p.c) x)
    (hx : ∀ x ∈ xs, x.length ≤ 30 ∧ ∀ r ∈ x, r.Ok) (hn : n ≤ 1000) (m : Int) (hm0 : 0 ≤ m) (hm : m ≤ 80) (hB : BndN m 30 L) :
    Calls Try.prog 4 #[.pointer (some ⟨g, 0, none⟩), v] w fun e w' => e = .returned (.tuple #[]) ∧ ∃ ob', ProP w' g ob' (n + xs.length) (xs.foldl addP L) ∧ Turned w w' g ob ob' ∧ BndN (m + xs.length) 30 (xs.foldl addP L) := by
  have hlts := h.lts
  obtain ⟨A, c, hvv, hvv2⟩ := (hv w (fun _ _ _ _ => rfl) (Nat.le_refl _)).1.open_
  clear hvv2
  obtain ⟨N, hN⟩ : ∃ N, ps.length = N := ⟨_, rfl⟩
  have hN2 : xs.length = N := by omega
  rw [hN] at hvv
  subst hvv
  have HL := Lib.hid hN
  have HL2 := Lib.hid hN2
  have HV := Lib.hid hv
  have HX := Lib.hid hx
  have c0 : w.cell? ⟨g, 0, none⟩ = some (.map ob) := by rw [h.blk.cell]; rfl
  have hnl := fun u => map_nilS ob u
  have H := Lib.hid h
  have hNN : N ≤ 10 := by omega
  have HBd := Lib.hid hB
  have hgl := Lib.hid hlts.1
  rw [hN2]
  clear hv hx h hps hxn hN hN2 hB hlts
  go_enter Try.func4, Try.ntmps4
  go_upto_if 13 with (fail)
  go_cut [12] (fun _ wx => ∃ b row, AdSt w wx g b n row ob L)
  case first =>
    cases ob with
    | some b0 =>
      simp only [Option.isNone_some] at hnl
      go_wp2
      go_meet
      case rel => exact ⟨b0, some b0, H.out, ⟨rfl, rfl, rfl, Nat.le_refl _, fun _ _ _ => rfl⟩, fun j e => .inr e, .inl rfl, .inl rfl⟩
    | none =>
      simp only [Option.isNone_none] at hnl
      have hmm := @run_makeMap Try.prog
      have b1 := H.out.blk
      have hL0 : L = [] := by
        rcases H.out.2.2 with ⟨_, e, _⟩ | ⟨_, _, e, _⟩
        · exact e
        · cases e
      subst hL0
      have f0 := b1.frozen 0
      have f1 := (b1.alloc (.map #[] 0)).frozen 0
      have c1 : (w.alloc (.map #[] 0)).cell? ⟨g, 0, none⟩ = some (.map none) := by rw [(b1.alloc (.map #[] 0)).cell]; rfl
      have hne : w.heap.size ≠ g := by have := hgl.out; omega
      have HGB : Hid (w.grownBy ((w.alloc (.map #[] 0)).setCell ⟨g, 0, none⟩ (.map (some w.heap.size))) (some g)) := Lib.hid ((World.grownBy_alloc w _ (some g)).andThen (grown_cell _ g 0 _) (fun j e => .inr e))
      have HPP : Hid (ProP ((w.alloc (.map #[] 0)).setCell ⟨g, 0, none⟩ (.map (some w.heap.size))) g (some w.heap.size) n []) := Lib.hid ⟨fun x hx => by simp at hx, List.Pairwise.nil, .inr ⟨w.heap.size, .map [], rfl, Blk.set_ (Blk.alloc b1 _) 0 _, hne,
        ((World.ownsMap_made w Try.prog 23 _).kept (grown_cell _ g 0 _) (by intro e; injection e with e; exact hne e)).mono (Nat.zero_le _), LooksS.empty, rfl⟩⟩
      clear b1
      go_wp2
      go_meet
      case rel => exact ⟨w.heap.size, some g, HPP.out, HGB.out, fun j e => .inl (by injection e with e; exact e.symm), .inr (Nat.le_refl _), .inr (Nat.le_refl _)⟩
  case rest =>
    obtain ⟨b, row, hA⟩ := hcut
    have HA := Lib.hid hA
    have HS : Hid (∀ (wx : World) (n' : Nat) (L' : List SpN), AdSt w wx g b n' row ob L' → eC.Rd wx (.slice A N c) ps ∧ ∀ (i : Nat) (p : Pc) (x : List Rc), ps[i]? = some p → xs[i]? = some x → eR.Rd wx (.slice p.A p.n p.c) x) := Lib.hid (fun wx n' L' q => HV.out wx q.stay.1 q.stay.2)
    clear hA c0 hnl
    go_wp2
    go_loopw [20] (fun u20 wr => ∃ k : Nat, k ≤ N ∧ u20 = .int .i64 k ∧ Hid (AdSt w wr g b (n + k) row ob ((xs.take k).foldl addP L)) ∧ Hid (BndN (m + k) 30 ((xs.take k).foldl addP L))) (fun u20 _ => N - (intOf u20).toNat)
    case atStart => exact ⟨0, Nat.zero_le _, rfl, HA, Lib.hid (by have := HBd.out; simpa using this)⟩
    case round =>
      obtain ⟨k, hk, rfl, hA, hBk⟩ := hrel
      by_cases hlt : k < N
      · obtain ⟨x, hx⟩ : ∃ x, xs[k]? = some x := ⟨_, List.getElem?_eq_getElem (by rw [HL2.out]; exact hlt)⟩
        obtain ⟨p, hp⟩ : ∃ p, ps[k]? = some p := ⟨_, List.getElem?_eq_getElem (by rw [HL.out]; exact hlt)⟩
        have hxs := HX.out x (List.mem_of_getElem? hx)
        have NX : Hid ((xs.take (k + 1)).foldl addP L = addP ((xs.take k).foldl addP L) x) := Lib.hid (by rw [List.take_add_one, hx, Option.toList, List.foldl_append]; rfl)
        obtain ⟨hr1, hr2⟩ := HS.out wr _ _ hA.out
        have hr3 := hr2 k p x hp hx
        obtain ⟨A', c', hv', hc'⟩ := hr1.open_
        obtain ⟨q, off, hq, hqs, hcell⟩ := hc' (by rw [HL.out]; omega)
        injection hv' with e1 e2 e3
        subst e1
        subst hq
        clear e2 e3
        have d0 := hcell k p hp 0 _ rfl
        have d1 := hcell k p hp 1 _ rfl
        have d0' : wr.cell? ⟨q, off + k * 2, none⟩ = some (.slice p.A p.n p.c) := d0
        have d1' : wr.cell? ⟨q, off + k * 2 + 1, none⟩ = some (.bool p.e) := d1
        clear hcell hc' hr1 hr2 d0 d1
        obtain ⟨s5, hs5⟩ : ∃ s5, wr.heap.size = s5 := ⟨_, rfl⟩
        have k0 : (0 : Int) ≤ (k : Int) := by omega
        have k1 : (k : Int) < (N : Int) := by omega
        have HA1 := Lib.hid (hA.out.below (Below.alloc0 (Below.refl _ _) (Obj.cells #[.slice p.A p.n p.c, .bool p.e] 32)))
        have P50 := Blk.new wr 32 #[.slice p.A p.n p.c, .bool p.e] (0, 0)
        rw [hs5] at P50
        have P5 := Lib.hid P50
        have HR5 := Lib.hid (hr3.alloc (Obj.cells #[.slice p.A p.n p.c, .bool p.e] 32))
        obtain ⟨pA, pn, pc, pe⟩ := p
        simp only at *
        clear hr3 P50 hA hx hp
        generalize (xs.take k).foldl addP L = Lk at *
        go_upto_region 5 with (fail)
        clear d0' d1' hs5 hqs
        generalize wr.alloc (Obj.cells #[.slice pA pn pc, .bool pe] 32) = W1 at HA1 P5 HR5 ⊢
        have CSt := Lib.hid (slStart_any (.slice pA pn pc) pe x W1 HR5.out (by have := hxs.1; omega))
        obtain ⟨q0, q1⟩ := P5.out.c2
        go_wp2_with fail
        refine CSt.out.mono ?_
        rintro e W2 ⟨rfl, hb2⟩
        have HA2 := Lib.hid (HA1.out.below hb2)
        have P52 := Lib.hid (P5.out.below hb2 P5.out.lt)
        have HR2 := Lib.hid (HR5.out.below hb2)
        clear hb2 q0 q1 CSt HA1 P5 HR5
        cases hf : x.find? stP with
        | none =>
          have NX2 : Hid ((xs.take (k + 1)).foldl addP L = Lk) := Lib.hid (by rw [NX.out]; unfold addP; rw [hf])
          go_wp2
          go_roundw
          case rel => exact ⟨k + 1, by omega, by go_num, Lib.hid (by rw [NX2.out]; exact ⟨HA2.out.pp.mono (by omega), HA2.out.gr, HA2.out.r1, HA2.out.r2, HA2.out.r3⟩), Lib.hid (by rw [NX2.out]; intro y hy; have := hBk.out y hy; omega)⟩
          case measure => simp [intOf]; omega
        | some r =>
          obtain ⟨ha0, ha1⟩ : 0 ≤ r.a ∧ r.a < 65536 := by have := hxs.2 r (List.mem_of_find?_eq_some hf); exact ⟨this.a0, this.a1⟩
          have NX2 : Hid ((xs.take (k + 1)).foldl addP L = addN Lk r.a (owN x) ((x.length : Int) - owN x)) := Lib.hid (by rw [NX.out]; unfold addP; rw [hf])
          have ho1 : owN x ≤ x.length := by have := owN_le x x.length; rwa [List.take_length] at this
          obtain ⟨ow, how⟩ : ∃ ow : Nat, owN x = ow := ⟨_, rfl⟩
          obtain ⟨xl, hxl⟩ : ∃ xl : Nat, x.length = xl := ⟨_, rfl⟩
          obtain ⟨a, hra⟩ : ∃ a, r.a = a := ⟨_, rfl⟩
          have hxl30 : xl ≤ 30 := by have := hxs.1; omega
          have CO := Lib.hid (fun u (q : Below W2.heap.size W2 u) => slOwn_any (.slice pA pn pc) pe x u (HR2.out.below q) (by omega))
          have CL := Lib.hid (fun u (q : Below W2.heap.size W2 u) => slLost_any (.slice pA pn pc) pe x u (HR2.out.below q) (by omega))
          simp only [how, hxl, hra] at CO CL NX2 ha0 ha1 ho1
          have OB := ofN_bnd hBk.out (by omega) (by omega) a
          obtain ⟨z, hz⟩ : ∃ z, ofN Lk a = z := ⟨_, rfl⟩
          have CA := Lib.hid (fun u => spotAnd_any z.a z.t z.c z.l 0 1 ow ((xl : Int) - ow) u (by rw [← hz]; exact OB) (by omega))
          have SX : Hid (∀ wx, Below W2.heap.size W2 wx → (fun w' : World => w'.cell? ⟨g, 0, none⟩ = some (.map (some b)) ∧ (w'.cell? ⟨s5, 0, none⟩ = some (.slice pA pn pc) ∧ w'.cell? ⟨s5, 1, none⟩ = some (.bool pe)) ∧ (Instr.lookup 25 (.map (some b)) (.int .u16 a) false).run Try.prog w' = .ok (.agg #[.int .u16 z.a, .int .i64 z.t, .int .i64 z.c, .int .i64 z.l]) w') wx) := Lib.hid (fun wx hb => by
            have q := HA2.out.below hb
            refine ⟨by rw [q.pp.blk.cell]; rfl, Blk.c2 (P52.out.below hb P52.out.lt), ?_⟩
            have := (q.pp.look ⟨ha0, ha1⟩).2
            rw [hz] at this
            exact this)
          have HZ := Lib.hid hz
          have HBk := Lib.hid hBk.out
          simp only [valO, Option.isSome_some, hra]
          clear hz OB how hxl hra hf hxs hBk
          go_upto_region 7 with (fail)
          go_cut [8] (fun u8 wx => ∃ g8 : Nat, u8 = .pointer (some ⟨g8, 0, none⟩) ∧ Hid (Blk wx g8 35 (cellsSp z.a (z.t + 1) (z.c + ow) (z.l + ((xl : Int) - ow)))) ∧ Hid (Below W2.heap.size W2 wx) ∧ Hid (W2.heap.size ≤ g8))
          case first =>
            refine wp_region_noPanic ?_
            refine wp_region_held_drew (S := (fun w' : World => w'.cell? ⟨g, 0, none⟩ = some (.map (some b)) ∧ (w'.cell? ⟨s5, 0, none⟩ = some (.slice pA pn pc) ∧ w'.cell? ⟨s5, 1, none⟩ = some (.bool pe)) ∧ (Instr.lookup 25 (.map (some b)) (.int .u16 a) false).run Try.prog w' = .ok (.agg #[.int .u16 z.a, .int .i64 z.t, .int .i64 z.c, .int .i64 z.l]) w')) (by kernel_rfl) ?_ (fun hH0 => ?_)
            · (try dsimp only); with_reducible exact SX.out _ (Below.drew0 (Below.refl _ _))
            refine wpAnyH_take (i := 0) (oi := ({ dst := some 30, op := Op.move (Operand.tmp 0), type := 24, pos := "prof.go:29", after := #[], guard := none } : Oper)) (v := ?_) rfl (by kernel_rfl) (by kernel_rfl) (by kernel_rfl) (fun _ _ _ h => h) (Or.inl ⟨by rfl, ?_⟩) (by assumption) ?_
            rotate_left 1
            · (intro w hSw; (try dsimp only at hSw); go_simp; (try with_reducible rfl))
            (try simp only [Act.put, List.setIfInBounds_toArray, List.set_cons_zero, List.set_cons_succ])
            refine wpAnyH_take (i := 1) (oi := ({ dst := some 31, op := Op.nilCheck (Operand.tmp 30), type := 0, pos := "prof.go:29", after := #[{ on := 0, ground := Ground.data }], guard := none } : Oper)) (v := ?_) rfl (by kernel_rfl) (by kernel_rfl) (by kernel_rfl) (fun _ _ _ h => h) (Or.inl ⟨by rfl, ?_⟩) (by assumption) ?_
            rotate_left 1
            · (intro w hSw; (try dsimp only at hSw); go_simp; (try with_reducible rfl))
            (try simp only [Act.put, List.setIfInBounds_toArray, List.set_cons_zero, List.set_cons_succ])
            refine wpAnyH_take (i := 2) (oi := ({ dst := some 32, op := Op.fieldAddr 27 (Operand.tmp 31) 0, type := 0, pos := "prof.go:29", after := #[{ on := 1, ground := Ground.data }], guard := none } : Oper)) (v := ?_) rfl (by kernel_rfl) (by kernel_rfl) (by kernel_rfl) (fun _ _ _ h => h) (Or.inl ⟨by rfl, ?_⟩) (by assumption) ?_
            rotate_left 1
            · (intro w hSw; (try dsimp only at hSw); go_simp; (try with_reducible rfl))
            (try simp only [Act.put, List.setIfInBounds_toArray, List.set_cons_zero, List.set_cons_succ])
            refine wpAnyH_take (i := 3) (oi := ({ dst := some 33, op := Op.load 25 (Operand.tmp 32), type := 25, pos := "prof.go:29", after := #[{ on := 2, ground := Ground.data }], guard := none } : Oper)) (v := ?_) rfl (by kernel_rfl) (by kernel_rfl) (by kernel_rfl) (fun _ _ _ h => h) (Or.inl ⟨by rfl, ?_⟩) (by assumption) ?_
            rotate_left 1
            · (intro w hSw; (try dsimp only at hSw); go_simp; (try with_reducible rfl))
            (try simp only [Act.put, List.setIfInBounds_toArray, List.set_cons_zero, List.set_cons_succ])
            refine wpAnyH_take (i := 4) (oi := ({ dst := some 34, op := Op.move (Operand.tmp 6), type := 23, pos := "prof.go:29", after := #[], guard := none } : Oper)) (v := ?_) rfl (by kernel_rfl) (by kernel_rfl) (by kernel_rfl) (fun _ _ _ h => h) (Or.inl ⟨by rfl, ?_⟩) (by assumption) ?_
            rotate_left 1
            · (intro w hSw; (try dsimp only at hSw); go_simp; (try with_reducible rfl))
            (try simp only [Act.put, List.setIfInBounds_toArray, List.set_cons_zero, List.set_cons_succ])
            refine wpAnyH_take (i := 5) (oi := ({ dst := some 35, op := Op.lookup 25 (Operand.tmp 33) (Operand.tmp 34) false, type := 35, pos := "prof.go:29", after := #[{ on := 3, ground := Ground.data }, { on := 4, ground := Ground.data }], guard := none } : Oper)) (v := ?_) rfl (by kernel_rfl) (by kernel_rfl) (by kernel_rfl) (fun _ _ _ h => h) (Or.inl ⟨by rfl, ?_⟩) (by assumption) ?_
            rotate_left 1
            · (intro w hSw; (try dsimp only at hSw); go_simp; (try with_reducible rfl))
            (try simp only [Act.put, List.setIfInBounds_toArray, List.set_cons_zero, List.set_cons_succ])
            refine wpAnyH_take (i := 6) (oi := ({ dst := some 36, op := Op.load 32 (Operand.tmp 5), type := 32, pos := "prof.go:29", after := #[], guard := none } : Oper)) (v := ?_) rfl (by kernel_rfl) (by kernel_rfl) (by kernel_rfl) (fun _ _ _ h => h) (Or.inl ⟨by rfl, ?_⟩) (by assumption) ?_
            rotate_left 1
            · (intro w hSw; (try dsimp only at hSw); go_simp; (try with_reducible rfl))
            (try simp only [Act.put, List.setIfInBounds_toArray, List.set_cons_zero, List.set_cons_succ])
            refine wpAnyH_take (i := 8) (oi := ({ dst := some 38, op := Op.load 32 (Operand.tmp 5), type := 32, pos := "prof.go:29", after := #[], guard := none } : Oper)) (v := ?_) rfl (by kernel_rfl) (by kernel_rfl) (by kernel_rfl) (fun _ _ _ h => h) (Or.inl ⟨by rfl, ?_⟩) (by assumption) ?_
            rotate_left 1
            · (intro w hSw; (try dsimp only at hSw); go_simp; (try with_reducible rfl))
            (try simp only [Act.put, List.setIfInBounds_toArray, List.set_cons_zero, List.set_cons_succ])
            refine wpAnyH_ready (rs := [7, 12]) (by kernel_rfl) (by simp) ?_
            refine AllReadyH.cons (o := ({ dst := some 37, op := Op.call { callee := Callee.value (Operand.func 16), args := #[Operand.tmp 36], argTypes := #[32] }, type := 3, pos := "prof.go:29", after := #[{ on := 6, ground := Ground.data }], guard := none } : Oper)) rfl (fun K hK => ?_) ?_
            · go_simp
              go_at_call 16
              ((refine (CO.out _ (by first | exact (Below.refl _ _) | exact Below.drew0 (Below.refl _ _) | exact Below.alloc0 (Below.refl _ _) _ | exact Below.drew0 (Below.alloc0 (Below.refl _ _) _) | exact Below.alloc0 (Below.drew0 (Below.refl _ _)) _)).mono ?_); rintro e v1 ⟨rfl, hb1⟩; have B1 : Hid (Below W2.heap.size W2 v1) := Lib.hid (Below.trans0 (by first | exact (Below.refl _ _) | exact Below.drew0 (Below.refl _ _) | exact Below.alloc0 (Below.refl _ _) _ | exact Below.drew0 (Below.alloc0 (Below.refl _ _) _) | exact Below.alloc0 (Below.drew0 (Below.refl _ _)) _) hb1); (try (have ZZ1 : Hid (Blk v1 W2.heap.size 35 (cellsSp 0 0 0 0)) := Lib.hid (Blk.below (g := W2.heap.size) (by first | exact Blk.drew (Blk.new W2 35 (cellsSp 0 0 0 0) (0, 0)) | exact Blk.new W2.drew 35 (cellsSp 0 0 0 0) (0, 0)) hb1 (by simp)))))
              first | (refine hK.out _ _ ?_ (fun hH1 => ?_)) | (go_wp2_with fail; refine hK.out _ _ ?_ (fun hH1 => ?_))
              · (try dsimp only); with_reducible exact SX.out _ B1.out
              clear hK K hH0
              (try simp only [Act.put, List.setIfInBounds_toArray, List.set_cons_zero, List.set_cons_succ])
              refine wpAnyH_ready (rs := [9, 12]) (by kernel_rfl) (by simp) ?_
              refine AllReadyH.cons (o := ({ dst := some 39, op := Op.call { callee := Callee.value (Operand.func 17), args := #[Operand.tmp 38], argTypes := #[32] }, type := 3, pos := "prof.go:29", after := #[{ on := 8, ground := Ground.data }, { on := 7, ground := Ground.chain }], guard := none } : Oper)) rfl (fun K hK => ?_) ?_
              · go_simp
                go_at_call 17
                ((refine (CL.out _ (by first | exact B1.out | exact Below.drew0 B1.out | exact Below.alloc0 B1.out _ | exact Below.drew0 (Below.alloc0 B1.out _) | exact Below.alloc0 (Below.drew0 B1.out) _)).mono ?_); rintro e v2 ⟨rfl, hb2⟩; have B2 : Hid (Below W2.heap.size W2 v2) := Lib.hid (Below.trans0 (by first | exact B1.out | exact Below.drew0 B1.out | exact Below.alloc0 B1.out _ | exact Below.drew0 (Below.alloc0 B1.out _) | exact Below.alloc0 (Below.drew0 B1.out) _) hb2); (try (have ZZ2 : Hid (Blk v2 W2.heap.size 35 (cellsSp 0 0 0 0)) := Lib.hid (Blk.below ZZ1.out hb2 ZZ1.out.lt))); (try (have ZZ2 : Hid (Blk v2 v1.heap.size 35 (cellsSp 0 0 0 0)) := Lib.hid (Blk.below (g := v1.heap.size) (by first | exact Blk.new v1 35 (cellsSp 0 0 0 0) (0, 0) | exact Blk.drew (Blk.new v1 35 (cellsSp 0 0 0 0) (0, 0))) hb2 (by simp)))))
                first | (refine hK.out _ _ ?_ (fun hH2 => ?_)) | (go_wp2_with fail; refine hK.out _ _ ?_ (fun hH2 => ?_))
                · (try dsimp only); with_reducible exact SX.out _ B2.out
                clear hK K hH1
                (try simp only [Act.put, List.setIfInBounds_toArray, List.set_cons_zero, List.set_cons_succ])
                refine wpAnyH_take (i := 10) (oi := ({ dst := some 40, op := Op.build 35 #[(1, Operand.const (Value.int IntKind.i64 1)), (2, Operand.tmp 37), (3, Operand.tmp 39)], type := 35, pos := "prof.go:29", after := #[{ on := 7, ground := Ground.data }, { on := 9, ground := Ground.data }], guard := none } : Oper)) (v := ?_) rfl (by kernel_rfl) (by kernel_rfl) (by kernel_rfl) (fun _ _ _ h => h) (Or.inl ⟨by rfl, ?_⟩) (by assumption) ?_
                rotate_left 1
                · (intro w hSw; (try dsimp only at hSw); go_simp; (try with_reducible rfl))
                (try simp only [Act.put, List.setIfInBounds_toArray, List.set_cons_zero, List.set_cons_succ])
                refine wpAnyH_ready (rs := [11, 12]) (by kernel_rfl) (by simp) ?_
                refine AllReadyH.cons (o := ({ dst := some 41, op := Op.call { callee := Callee.value (Operand.func 15), args := #[Operand.tmp 35, Operand.tmp 40], argTypes := #[35, 35] }, type := 35, pos := "prof.go:29", after := #[{ on := 5, ground := Ground.data }, { on := 10, ground := Ground.data }, { on := 9, ground := Ground.chain }], guard := none } : Oper)) rfl (fun K hK => ?_) ?_
                · go_simp
                  go_at_call 15
                  ((refine (CA.out _).mono ?_); rintro e v3 ⟨rfl, hb3⟩; have B3 : Hid (Below W2.heap.size W2 v3) := Lib.hid (Below.trans0 (by first | exact B2.out | exact Below.drew0 B2.out | exact Below.alloc0 B2.out _ | exact Below.drew0 (Below.alloc0 B2.out _) | exact Below.alloc0 (Below.drew0 B2.out) _) hb3); (try (have ZZ3 := Lib.hid (Blk.below ZZ2.out hb3 ZZ2.out.lt); obtain ⟨⟨y0, y1, y2, y3⟩, f0, f1, f2, f3⟩ := ZZ3.out.b4)); (try (have ZZ3 : Hid (Blk v3 v2.heap.size 35 (cellsSp 0 0 0 0)) := Lib.hid (Blk.below (g := v2.heap.size) (by first | exact Blk.new v2 35 (cellsSp 0 0 0 0) (0, 0) | exact Blk.drew (Blk.new v2 35 (cellsSp 0 0 0 0) (0, 0))) hb3 (by simp)); obtain ⟨⟨y0, y1, y2, y3⟩, f0, f1, f2, f3⟩ := ZZ3.out.b4)))
                  first | (refine hK.out _ _ ?_ (fun hH3 => ?_)) | (go_wp2_with fail; refine hK.out _ _ ?_ (fun hH3 => ?_))
                  · (try dsimp only); with_reducible exact SX.out _ B3.out
                  clear hK K hH2
                  (try simp only [Act.put, List.setIfInBounds_toArray, List.set_cons_zero, List.set_cons_succ])
                  refine wpAnyH_ready (rs := [12]) (by kernel_rfl) (by simp) ?_
                  refine AllReadyH.cons (o := ({ dst := some 8, op := Op.alloc 35, type := 0, pos := "prof.go:29", after := #[], guard := none } : Oper)) rfl (fun K hK => ?_) ?_
                  rotate_left 1
                  · exact AllReadyH.nil
                  go_simp
                  first | (refine hK.out _ _ ?_ (fun hH4 => ?_)) | (go_wp2_with fail; refine hK.out _ _ ?_ (fun hH4 => ?_))
                  · (try dsimp only); with_reducible exact SX.out _ (by first | exact Below.alloc0 B3.out _ | exact Below.drew0 (Below.alloc0 B3.out _) | exact Below.alloc0 (Below.drew0 B3.out) _ | exact Below.alloc0 B2.out _ | exact Below.drew0 (Below.alloc0 B2.out _) | exact Below.alloc0 (Below.drew0 B2.out) _ | exact Below.alloc0 B1.out _ | exact Below.drew0 (Below.alloc0 B1.out _) | exact Below.alloc0 (Below.drew0 B1.out) _ | exact Below.alloc0 (Below.refl _ _) _ | exact Below.drew0 (Below.alloc0 (Below.refl _ _) _) | exact Below.alloc0 (Below.drew0 (Below.refl _ _)) _ | exact below4Sp B3.out (by first | exact Nat.le_refl _ | exact B1.out.size | exact B2.out.size) _ _ _ _)
                  clear hK K hH3
                  (try simp only [Act.put, List.setIfInBounds_toArray, List.set_cons_zero, List.set_cons_succ])
                  refine wpAnyH_ready (rs := [13]) (by kernel_rfl) (by simp) ?_
                  refine AllReadyH.cons (o := ({ dst := none, op := Op.store 35 (Operand.tmp 8) (Operand.tmp 41), type := 0, pos := "prof.go:29", after := #[{ on := 12, ground := Ground.data }, { on := 11, ground := Ground.data }, { on := 11, ground := Ground.chain }, { on := 0, ground := Ground.phase }, { on := 1, ground := Ground.phase }, { on := 2, ground := Ground.phase }, { on := 3, ground := Ground.phase }, { on := 4, ground := Ground.phase }, { on := 5, ground := Ground.phase }, { on := 6, ground := Ground.phase }, { on := 7, ground := Ground.phase }, { on := 8, ground := Ground.phase }, { on := 9, ground := Ground.phase }, { on := 10, ground := Ground.phase }, { on := 11, ground := Ground.phase }, { on := 12, ground := Ground.phase }], guard := none } : Oper)) rfl (fun K hK => ?_) ?_
                  rotate_left 1
                  · exact AllReadyH.nil
                  go_simp
                  first | (refine hK.out _ _ ?_ (fun hH5 => ?_)) | (go_wp2_with fail; refine hK.out _ _ ?_ (fun hH5 => ?_))
                  · (try dsimp only); with_reducible exact SX.out _ (by first | exact Below.alloc0 B3.out _ | exact Below.drew0 (Below.alloc0 B3.out _) | exact Below.alloc0 (Below.drew0 B3.out) _ | exact Below.alloc0 B2.out _ | exact Below.drew0 (Below.alloc0 B2.out _) | exact Below.alloc0 (Below.drew0 B2.out) _ | exact Below.alloc0 B1.out _ | exact Below.drew0 (Below.alloc0 B1.out _) | exact Below.alloc0 (Below.drew0 B1.out) _ | exact Below.alloc0 (Below.refl _ _) _ | exact Below.drew0 (Below.alloc0 (Below.refl _ _) _) | exact Below.alloc0 (Below.drew0 (Below.refl _ _)) _ | exact below4Sp B3.out (by first | exact Nat.le_refl _ | exact B1.out.size | exact B2.out.size) _ _ _ _)
                  clear hK K hH4
                  (try simp only [Act.put, List.setIfInBounds_toArray, List.set_cons_zero, List.set_cons_succ])
                  refine wpAnyH_done (by kernel_rfl) ?_ _
                  refine NoPanic.normal ?_
                  go_wp2
                  go_meet
                  case rel => first | exact ⟨_, rfl, Lib.hid (set4Sp ZZ3.out), Lib.hid (below4Sp B3.out (by first | exact Nat.le_refl _ | exact B1.out.size | exact B2.out.size) _ _ _ _), Lib.hid (by first | exact Nat.le_refl _ | exact B1.out.size | exact B2.out.size)⟩ | exact ⟨_, rfl, Lib.hid (Blk.new _ _ _ (0, 0)), Lib.hid (Below.alloc0 B3.out _), Lib.hid B3.out.size⟩
                refine AllReadyH.cons (o := ({ dst := some 8, op := Op.alloc 35, type := 0, pos := "prof.go:29", after := #[], guard := none } : Oper)) rfl (fun K hK => ?_) ?_
                · go_simp
                  first | (refine hK.out _ _ ?_ (fun hH3 => ?_)) | (go_wp2_with fail; refine hK.out _ _ ?_ (fun hH3 => ?_))
                  · (try dsimp only); with_reducible exact SX.out _ (by first | exact Below.alloc0 B3.out _ | exact Below.drew0 (Below.alloc0 B3.out _) | exact Below.alloc0 (Below.drew0 B3.out) _ | exact Below.alloc0 B2.out _ | exact Below.drew0 (Below.alloc0 B2.out _) | exact Below.alloc0 (Below.drew0 B2.out) _ | exact Below.alloc0 B1.out _ | exact Below.drew0 (Below.alloc0 B1.out _) | exact Below.alloc0 (Below.drew0 B1.out) _ | exact Below.alloc0 (Below.refl _ _) _ | exact Below.drew0 (Below.alloc0 (Below.refl _ _) _) | exact Below.alloc0 (Below.drew0 (Below.refl _ _)) _ | exact below4Sp B3.out (by first | exact Nat.le_refl _ | exact B1.out.size | exact B2.out.size) _ _ _ _)
                  clear hK K hH2
                  (try simp only [Act.put, List.setIfInBounds_toArray, List.set_cons_zero, List.set_cons_succ])
                  refine wpAnyH_ready (rs := [11]) (by kernel_rfl) (by simp) ?_
                  refine AllReadyH.cons (o := ({ dst := some 41, op := Op.call { callee := Callee.value (Operand.func 15), args := #[Operand.tmp 35, Operand.tmp 40], argTypes := #[35, 35] }, type := 35, pos := "prof.go:29", after := #[{ on := 5, ground := Ground.data }, { on := 10, ground := Ground.data }, { on := 9, ground := Ground.chain }], guard := none } : Oper)) rfl (fun K hK => ?_) ?_
                  rotate_left 1
                  · exact AllReadyH.nil
                  go_simp
                  go_at_call 15
                  ((refine (CA.out _).mono ?_); rintro e v3 ⟨rfl, hb3⟩; have B3 : Hid (Below W2.heap.size W2 v3) := Lib.hid (Below.trans0 (by first | exact B2.out | exact Below.drew0 B2.out | exact Below.alloc0 B2.out _ | exact Below.drew0 (Below.alloc0 B2.out _) | exact Below.alloc0 (Below.drew0 B2.out) _) hb3); (try (have ZZ3 := Lib.hid (Blk.below ZZ2.out hb3 ZZ2.out.lt); obtain ⟨⟨y0, y1, y2, y3⟩, f0, f1, f2, f3⟩ := ZZ3.out.b4)); (try (have ZZ3 : Hid (Blk v3 v2.heap.size 35 (cellsSp 0 0 0 0)) := Lib.hid (Blk.below (g := v2.heap.size) (by first | exact Blk.new v2 35 (cellsSp 0 0 0 0) (0, 0) | exact Blk.drew (Blk.new v2 35 (cellsSp 0 0 0 0) (0, 0))) hb3 (by simp)); obtain ⟨⟨y0, y1, y2, y3⟩, f0, f1, f2, f3⟩ := ZZ3.out.b4)))
                  first | (refine hK.out _ _ ?_ (fun hH4 => ?_)) | (go_wp2_with fail; refine hK.out _ _ ?_ (fun hH4 => ?_))
                  · (try dsimp only); with_reducible exact SX.out _ B3.out
                  clear hK K hH3
                  (try simp only [Act.put, List.setIfInBounds_toArray, List.set_cons_zero, List.set_cons_succ])
                  refine wpAnyH_ready (rs := [13]) (by kernel_rfl) (by simp) ?_
                  refine AllReadyH.cons (o := ({ dst := none, op := Op.store 35 (Operand.tmp 8) (Operand.tmp 41), type := 0, pos := "prof.go:29", after := #[{ on := 12, ground := Ground.data }, { on := 11, ground := Ground.data }, { on := 11, ground := Ground.chain }, { on := 0, ground := Ground.phase }, { on := 1, ground := Ground.phase }, { on := 2, ground := Ground.phase }, { on := 3, ground := Ground.phase }, { on := 4, ground := Ground.phase }, { on := 5, ground := Ground.phase }, { on := 6, ground := Ground.phase }, { on := 7, ground := Ground.phase }, { on := 8, ground := Ground.phase }, { on := 9, ground := Ground.phase }, { on := 10, ground := Ground.phase }, { on := 11, ground := Ground.phase }, { on := 12, ground := Ground.phase }], guard := none } : Oper)) rfl (fun K hK => ?_) ?_
                  rotate_left 1
                  · exact AllReadyH.nil
                  go_simp
                  first | (refine hK.out _ _ ?_ (fun hH5 => ?_)) | (go_wp2_with fail; refine hK.out _ _ ?_ (fun hH5 => ?_))
                  · (try dsimp only); with_reducible exact SX.out _ (by first | exact Below.alloc0 B3.out _ | exact Below.drew0 (Below.alloc0 B3.out _) | exact Below.alloc0 (Below.drew0 B3.out) _ | exact Below.alloc0 B2.out _ | exact Below.drew0 (Below.alloc0 B2.out _) | exact Below.alloc0 (Below.drew0 B2.out) _ | exact Below.alloc0 B1.out _ | exact Below.drew0 (Below.alloc0 B1.out _) | exact Below.alloc0 (Below.drew0 B1.out) _ | exact Below.alloc0 (Below.refl _ _) _ | exact Below.drew0 (Below.alloc0 (Below.refl _ _) _) | exact Below.alloc0 (Below.drew0 (Below.refl _ _)) _ | exact below4Sp B3.out (by first | exact Nat.le_refl _ | exact B1.out.size | exact B2.out.size) _ _ _ _)
                  clear hK K hH4
                  (try simp only [Act.put, List.setIfInBounds_toArray, List.set_cons_zero, List.set_cons_succ])
                  refine wpAnyH_done (by kernel_rfl) ?_ _
                  refine NoPanic.normal ?_
                  go_wp2
                  go_meet
                  case rel => first | exact ⟨_, rfl, Lib.hid (set4Sp ZZ3.out), Lib.hid (below4Sp B3.out (by first | exact Nat.le_refl _ | exact B1.out.size | exact B2.out.size) _ _ _ _), Lib.hid (by first | exact Nat.le_refl _ | exact B1.out.size | exact B2.out.size)⟩ | exact ⟨_, rfl, Lib.hid (Blk.new _ _ _ (0, 0)), Lib.hid (Below.alloc0 B3.out _), Lib.hid B3.out.size⟩
                exact AllReadyH.nil
              refine AllReadyH.cons (o := ({ dst := some 8, op := Op.alloc 35, type := 0, pos := "prof.go:29", after := #[], guard := none } : Oper)) rfl (fun K hK => ?_) ?_
              · go_simp
                first | (refine hK.out _ _ ?_ (fun hH2 => ?_)) | (go_wp2_with fail; refine hK.out _ _ ?_ (fun hH2 => ?_))
                · (try dsimp only); with_reducible exact SX.out _ (by first | exact Below.alloc0 B3.out _ | exact Below.drew0 (Below.alloc0 B3.out _) | exact Below.alloc0 (Below.drew0 B3.out) _ | exact Below.alloc0 B2.out _ | exact Below.drew0 (Below.alloc0 B2.out _) | exact Below.alloc0 (Below.drew0 B2.out) _ | exact Below.alloc0 B1.out _ | exact Below.drew0 (Below.alloc0 B1.out _) | exact Below.alloc0 (Below.drew0 B1.out) _ | exact Below.alloc0 (Below.refl _ _) _ | exact Below.drew0 (Below.alloc0 (Below.refl _ _) _) | exact Below.alloc0 (Below.drew0 (Below.refl _ _)) _ | exact below4Sp B3.out (by first | exact Nat.le_refl _ | exact B1.out.size | exact B2.out.size) _ _ _ _)
                clear hK K hH1
                (try simp only [Act.put, List.setIfInBounds_toArray, List.set_cons_zero, List.set_cons_succ])
                refine wpAnyH_ready (rs := [9]) (by kernel_rfl) (by simp) ?_
                refine AllReadyH.cons (o := ({ dst := some 39, op := Op.call { callee := Callee.value (Operand.func 17), args := #[Operand.tmp 38], argTypes := #[32] }, type := 3, pos := "prof.go:29", after := #[{ on := 8, ground := Ground.data }, { on := 7, ground := Ground.chain }], guard := none } : Oper)) rfl (fun K hK => ?_) ?_
                rotate_left 1
                · exact AllReadyH.nil
                go_simp
                go_at_call 17
                ((refine (CL.out _ (by first | exact B1.out | exact Below.drew0 B1.out | exact Below.alloc0 B1.out _ | exact Below.drew0 (Below.alloc0 B1.out _) | exact Below.alloc0 (Below.drew0 B1.out) _)).mono ?_); rintro e v2 ⟨rfl, hb2⟩; have B2 : Hid (Below W2.heap.size W2 v2) := Lib.hid (Below.trans0 (by first | exact B1.out | exact Below.drew0 B1.out | exact Below.alloc0 B1.out _ | exact Below.drew0 (Below.alloc0 B1.out _) | exact Below.alloc0 (Below.drew0 B1.out) _) hb2); (try (have ZZ2 : Hid (Blk v2 W2.heap.size 35 (cellsSp 0 0 0 0)) := Lib.hid (Blk.below ZZ1.out hb2 ZZ1.out.lt))); (try (have ZZ2 : Hid (Blk v2 v1.heap.size 35 (cellsSp 0 0 0 0)) := Lib.hid (Blk.below (g := v1.heap.size) (by first | exact Blk.new v1 35 (cellsSp 0 0 0 0) (0, 0) | exact Blk.drew (Blk.new v1 35 (cellsSp 0 0 0 0) (0, 0))) hb2 (by simp)))))
                first | (refine hK.out _ _ ?_ (fun hH3 => ?_)) | (go_wp2_with fail; refine hK.out _ _ ?_ (fun hH3 => ?_))
                · (try dsimp only); with_reducible exact SX.out _ B2.out
                clear hK K hH2
                (try simp only [Act.put, List.setIfInBounds_toArray, List.set_cons_zero, List.set_cons_succ])
                refine wpAnyH_take (i := 10) (oi := ({ dst := some 40, op := Op.build 35 #[(1, Operand.const (Value.int IntKind.i64 1)), (2, Operand.tmp 37), (3, Operand.tmp 39)], type := 35, pos := "prof.go:29", after := #[{ on := 7, ground := Ground.data }, { on := 9, ground := Ground.data }], guard := none } : Oper)) (v := ?_) rfl (by kernel_rfl) (by kernel_rfl) (by kernel_rfl) (fun _ _ _ h => h) (Or.inl ⟨by rfl, ?_⟩) (by assumption) ?_
                rotate_left 1
                · (intro w hSw; (try dsimp only at hSw); go_simp; (try with_reducible rfl))
                (try simp only [Act.put, List.setIfInBounds_toArray, List.set_cons_zero, List.set_cons_succ])
                refine wpAnyH_ready (rs := [11]) (by kernel_rfl) (by simp) ?_
                refine AllReadyH.cons (o := ({ dst := some 41, op := Op.call { callee := Callee.value (Operand.func 15), args := #[Operand.tmp 35, Operand.tmp 40], argTypes := #[35, 35] }, type := 35, pos := "prof.go:29", after := #[{ on := 5, ground := Ground.data }, { on := 10, ground := Ground.data }, { on := 9, ground := Ground.chain }], guard := none } : Oper)) rfl (fun K hK => ?_) ?_
                rotate_left 1
                · exact AllReadyH.nil
                go_simp
                go_at_call 15
                ((refine (CA.out _).mono ?_); rintro e v3 ⟨rfl, hb3⟩; have B3 : Hid (Below W2.heap.size W2 v3) := Lib.hid (Below.trans0 (by first | exact B2.out | exact Below.drew0 B2.out | exact Below.alloc0 B2.out _ | exact Below.drew0 (Below.alloc0 B2.out _) | exact Below.alloc0 (Below.drew0 B2.out) _) hb3); (try (have ZZ3 := Lib.hid (Blk.below ZZ2.out hb3 ZZ2.out.lt); obtain ⟨⟨y0, y1, y2, y3⟩, f0, f1, f2, f3⟩ := ZZ3.out.b4)); (try (have ZZ3 : Hid (Blk v3 v2.heap.size 35 (cellsSp 0 0 0 0)) := Lib.hid (Blk.below (g := v2.heap.size) (by first | exact Blk.new v2 35 (cellsSp 0 0 0 0) (0, 0) | exact Blk.drew (Blk.new v2 35 (cellsSp 0 0 0 0) (0, 0))) hb3 (by simp)); obtain ⟨⟨y0, y1, y2, y3⟩, f0, f1, f2, f3⟩ := ZZ3.out.b4)))
                first | (refine hK.out _ _ ?_ (fun hH4 => ?_)) | (go_wp2_with fail; refine hK.out _ _ ?_ (fun hH4 => ?_))
                · (try dsimp only); with_reducible exact SX.out _ B3.out
                clear hK K hH3
                (try simp only [Act.put, List.setIfInBounds_toArray, List.set_cons_zero, List.set_cons_succ])
                refine wpAnyH_ready (rs := [13]) (by kernel_rfl) (by simp) ?_
                refine AllReadyH.cons (o := ({ dst := none, op := Op.store 35 (Operand.tmp 8) (Operand.tmp 41), type := 0, pos := "prof.go:29", after := #[{ on := 12, ground := Ground.data }, { on := 11, ground := Ground.data }, { on := 11, ground := Ground.chain }, { on := 0, ground := Ground.phase }, { on := 1, ground := Ground.phase }, { on := 2, ground := Ground.phase }, { on := 3, ground := Ground.phase }, { on := 4, ground := Ground.phase }, { on := 5, ground := Ground.phase }, { on := 6, ground := Ground.phase }, { on := 7, ground := Ground.phase }, { on := 8, ground := Ground.phase }, { on := 9, ground := Ground.phase }, { on := 10, ground := Ground.phase }, { on := 11, ground := Ground.phase }, { on := 12, ground := Ground.phase }], guard := none } : Oper)) rfl (fun K hK => ?_) ?_
                rotate_left 1
                · exact AllReadyH.nil
                go_simp
                first | (refine hK.out _ _ ?_ (fun hH5 => ?_)) | (go_wp2_with fail; refine hK.out _ _ ?_ (fun hH5 => ?_))
                · (try dsimp only); with_reducible exact SX.out _ (by first | exact Below.alloc0 B3.out _ | exact Below.drew0 (Below.alloc0 B3.out _) | exact Below.alloc0 (Below.drew0 B3.out) _ | exact Below.alloc0 B2.out _ | exact Below.drew0 (Below.alloc0 B2.out _) | exact Below.alloc0 (Below.drew0 B2.out) _ | exact Below.alloc0 B1.out _ | exact Below.drew0 (Below.alloc0 B1.out _) | exact Below.alloc0 (Below.drew0 B1.out) _ | exact Below.alloc0 (Below.refl _ _) _ | exact Below.drew0 (Below.alloc0 (Below.refl _ _) _) | exact Below.alloc0 (Below.drew0 (Below.refl _ _)) _ | exact below4Sp B3.out (by first | exact Nat.le_refl _ | exact B1.out.size | exact B2.out.size) _ _ _ _)
                clear hK K hH4
                (try simp only [Act.put, List.setIfInBounds_toArray, List.set_cons_zero, List.set_cons_succ])
                refine wpAnyH_done (by kernel_rfl) ?_ _
                refine NoPanic.normal ?_
                go_wp2
                go_meet
                case rel => first | exact ⟨_, rfl, Lib.hid (set4Sp ZZ3.out), Lib.hid (below4Sp B3.out (by first | exact Nat.le_refl _ | exact B1.out.size | exact B2.out.size) _ _ _ _), Lib.hid (by first | exact Nat.le_refl _ | exact B1.out.size | exact B2.out.size)⟩ | exact ⟨_, rfl, Lib.hid (Blk.new _ _ _ (0, 0)), Lib.hid (Below.alloc0 B3.out _), Lib.hid B3.out.size⟩
              exact AllReadyH.nil
            refine AllReadyH.cons (o := ({ dst := some 8, op := Op.alloc 35, type := 0, pos := "prof.go:29", after := #[], guard := none } : Oper)) rfl (fun K hK => ?_) ?_
            · go_simp
              first | (refine hK.out _ _ ?_ (fun hH1 => ?_)) | (go_wp2_with fail; refine hK.out _ _ ?_ (fun hH1 => ?_))
              · (try dsimp only); with_reducible exact SX.out _ (by first | exact Below.alloc0 B3.out _ | exact Below.drew0 (Below.alloc0 B3.out _) | exact Below.alloc0 (Below.drew0 B3.out) _ | exact Below.alloc0 B2.out _ | exact Below.drew0 (Below.alloc0 B2.out _) | exact Below.alloc0 (Below.drew0 B2.out) _ | exact Below.alloc0 B1.out _ | exact Below.drew0 (Below.alloc0 B1.out _) | exact Below.alloc0 (Below.drew0 B1.out) _ | exact Below.alloc0 (Below.refl _ _) _ | exact Below.drew0 (Below.alloc0 (Below.refl _ _) _) | exact Below.alloc0 (Below.drew0 (Below.refl _ _)) _ | exact below4Sp B3.out (by first | exact Nat.le_refl _ | exact B1.out.size | exact B2.out.size) _ _ _ _)
              clear hK K hH0
              (try simp only [Act.put, List.setIfInBounds_toArray, List.set_cons_zero, List.set_cons_succ])
              refine wpAnyH_ready (rs := [7]) (by kernel_rfl) (by simp) ?_
              refine AllReadyH.cons (o := ({ dst := some 37, op := Op.call { callee := Callee.value (Operand.func 16), args := #[Operand.tmp 36], argTypes := #[32] }, type := 3, pos := "prof.go:29", after := #[{ on := 6, ground := Ground.data }], guard := none } : Oper)) rfl (fun K hK => ?_) ?_
              rotate_left 1
              · exact AllReadyH.nil
              go_simp
              go_at_call 16
              ((refine (CO.out _ (by first | exact (Below.refl _ _) | exact Below.drew0 (Below.refl _ _) | exact Below.alloc0 (Below.refl _ _) _ | exact Below.drew0 (Below.alloc0 (Below.refl _ _) _) | exact Below.alloc0 (Below.drew0 (Below.refl _ _)) _)).mono ?_); rintro e v1 ⟨rfl, hb1⟩; have B1 : Hid (Below W2.heap.size W2 v1) := Lib.hid (Below.trans0 (by first | exact (Below.refl _ _) | exact Below.drew0 (Below.refl _ _) | exact Below.alloc0 (Below.refl _ _) _ | exact Below.drew0 (Below.alloc0 (Below.refl _ _) _) | exact Below.alloc0 (Below.drew0 (Below.refl _ _)) _) hb1); (try (have ZZ1 : Hid (Blk v1 W2.heap.size 35 (cellsSp 0 0 0 0)) := Lib.hid (Blk.below (g := W2.heap.size) (by first | exact Blk.drew (Blk.new W2 35 (cellsSp 0 0 0 0) (0, 0)) | exact Blk.new W2.drew 35 (cellsSp 0 0 0 0) (0, 0)) hb1 (by simp)))))
              first | (refine hK.out _ _ ?_ (fun hH2 => ?_)) | (go_wp2_with fail; refine hK.out _ _ ?_ (fun hH2 => ?_))
              · (try dsimp only); with_reducible exact SX.out _ B1.out
              clear hK K hH1
              (try simp only [Act.put, List.setIfInBounds_toArray, List.set_cons_zero, List.set_cons_succ])
              refine wpAnyH_ready (rs := [9]) (by kernel_rfl) (by simp) ?_
              refine AllReadyH.cons (o := ({ dst := some 39, op := Op.call { callee := Callee.value (Operand.func 17), args := #[Operand.tmp 38], argTypes := #[32] }, type := 3, pos := "prof.go:29", after := #[{ on := 8, ground := Ground.data }, { on := 7, ground := Ground.chain }], guard := none } : Oper)) rfl (fun K hK => ?_) ?_
              rotate_left 1
              · exact AllReadyH.nil
              go_simp
              go_at_call 17
              ((refine (CL.out _ (by first | exact B1.out | exact Below.drew0 B1.out | exact Below.alloc0 B1.out _ | exact Below.drew0 (Below.alloc0 B1.out _) | exact Below.alloc0 (Below.drew0 B1.out) _)).mono ?_); rintro e v2 ⟨rfl, hb2⟩; have B2 : Hid (Below W2.heap.size W2 v2) := Lib.hid (Below.trans0 (by first | exact B1.out | exact Below.drew0 B1.out | exact Below.alloc0 B1.out _ | exact Below.drew0 (Below.alloc0 B1.out _) | exact Below.alloc0 (Below.drew0 B1.out) _) hb2); (try (have ZZ2 : Hid (Blk v2 W2.heap.size 35 (cellsSp 0 0 0 0)) := Lib.hid (Blk.below ZZ1.out hb2 ZZ1.out.lt))); (try (have ZZ2 : Hid (Blk v2 v1.heap.size 35 (cellsSp 0 0 0 0)) := Lib.hid (Blk.below (g := v1.heap.size) (by first | exact Blk.new v1 35 (cellsSp 0 0 0 0) (0, 0) | exact Blk.drew (Blk.new v1 35 (cellsSp 0 0 0 0) (0, 0))) hb2 (by simp)))))
              first | (refine hK.out _ _ ?_ (fun hH3 => ?_)) | (go_wp2_with fail; refine hK.out _ _ ?_ (fun hH3 => ?_))
              · (try dsimp only); with_reducible exact SX.out _ B2.out
              clear hK K hH2
              (try simp only [Act.put, List.setIfInBounds_toArray, List.set_cons_zero, List.set_cons_succ])
              refine wpAnyH_take (i := 10) (oi := ({ dst := some 40, op := Op.build 35 #[(1, Operand.const (Value.int IntKind.i64 1)), (2, Operand.tmp 37), (3, Operand.tmp 39)], type := 35, pos := "prof.go:29", after := #[{ on := 7, ground := Ground.data }, { on := 9, ground := Ground.data }], guard := none } : Oper)) (v := ?_) rfl (by kernel_rfl) (by kernel_rfl) (by kernel_rfl) (fun _ _ _ h => h) (Or.inl ⟨by rfl, ?_⟩) (by assumption) ?_
              rotate_left 1
              · (intro w hSw; (try dsimp only at hSw); go_simp; (try with_reducible rfl))
              (try simp only [Act.put, List.setIfInBounds_toArray, List.set_cons_zero, List.set_cons_succ])
              refine wpAnyH_ready (rs := [11]) (by kernel_rfl) (by simp) ?_
              refine AllReadyH.cons (o := ({ dst := some 41, op := Op.call { callee := Callee.value (Operand.func 15), args := #[Operand.tmp 35, Operand.tmp 40], argTypes := #[35, 35] }, type := 35, pos := "prof.go:29", after := #[{ on := 5, ground := Ground.data }, { on := 10, ground := Ground.data }, { on := 9, ground := Ground.chain }], guard := none } : Oper)) rfl (fun K hK => ?_) ?_
              rotate_left 1
              · exact AllReadyH.nil
              go_simp
              go_at_call 15
              ((refine (CA.out _).mono ?_); rintro e v3 ⟨rfl, hb3⟩; have B3 : Hid (Below W2.heap.size W2 v3) := Lib.hid (Below.trans0 (by first | exact B2.out | exact Below.drew0 B2.out | exact Below.alloc0 B2.out _ | exact Below.drew0 (Below.alloc0 B2.out _) | exact Below.alloc0 (Below.drew0 B2.out) _) hb3); (try (have ZZ3 := Lib.hid (Blk.below ZZ2.out hb3 ZZ2.out.lt); obtain ⟨⟨y0, y1, y2, y3⟩, f0, f1, f2, f3⟩ := ZZ3.out.b4)); (try (have ZZ3 : Hid (Blk v3 v2.heap.size 35 (cellsSp 0 0 0 0)) := Lib.hid (Blk.below (g := v2.heap.size) (by first | exact Blk.new v2 35 (cellsSp 0 0 0 0) (0, 0) | exact Blk.drew (Blk.new v2 35 (cellsSp 0 0 0 0) (0, 0))) hb3 (by simp)); obtain ⟨⟨y0, y1, y2, y3⟩, f0, f1, f2, f3⟩ := ZZ3.out.b4)))
              first | (refine hK.out _ _ ?_ (fun hH4 => ?_)) | (go_wp2_with fail; refine hK.out _ _ ?_ (fun hH4 => ?_))
              · (try dsimp only); with_reducible exact SX.out _ B3.out
              clear hK K hH3
              (try simp only [Act.put, List.setIfInBounds_toArray, List.set_cons_zero, List.set_cons_succ])
              refine wpAnyH_ready (rs := [13]) (by kernel_rfl) (by simp) ?_
              refine AllReadyH.cons (o := ({ dst := none, op := Op.store 35 (Operand.tmp 8) (Operand.tmp 41), type := 0, pos := "prof.go:29", after := #[{ on := 12, ground := Ground.data }, { on := 11, ground := Ground.data }, { on := 11, ground := Ground.chain }, { on := 0, ground := Ground.phase }, { on := 1, ground := Ground.phase }, { on := 2, ground := Ground.phase }, { on := 3, ground := Ground.phase }, { on := 4, ground := Ground.phase }, { on := 5, ground := Ground.phase }, { on := 6, ground := Ground.phase }, { on := 7, ground := Ground.phase }, { on := 8, ground := Ground.phase }, { on := 9, ground := Ground.phase }, { on := 10, ground := Ground.phase }, { on := 11, ground := Ground.phase }, { on := 12, ground := Ground.phase }], guard := none } : Oper)) rfl (fun K hK => ?_) ?_
              rotate_left 1
              · exact AllReadyH.nil
              go_simp
              first | (refine hK.out _ _ ?_ (fun hH5 => ?_)) | (go_wp2_with fail; refine hK.out _ _ ?_ (fun hH5 => ?_))
              · (try dsimp only); with_reducible exact SX.out _ (by first | exact Below.alloc0 B3.out _ | exact Below.drew0 (Below.alloc0 B3.out _) | exact Below.alloc0 (Below.drew0 B3.out) _ | exact Below.alloc0 B2.out _ | exact Below.drew0 (Below.alloc0 B2.out _) | exact Below.alloc0 (Below.drew0 B2.out) _ | exact Below.alloc0 B1.out _ | exact Below.drew0 (Below.alloc0 B1.out _) | exact Below.alloc0 (Below.drew0 B1.out) _ | exact Below.alloc0 (Below.refl _ _) _ | exact Below.drew0 (Below.alloc0 (Below.refl _ _) _) | exact Below.alloc0 (Below.drew0 (Below.refl _ _)) _ | exact below4Sp B3.out (by first | exact Nat.le_refl _ | exact B1.out.size | exact B2.out.size) _ _ _ _)
              clear hK K hH4
              (try simp only [Act.put, List.setIfInBounds_toArray, List.set_cons_zero, List.set_cons_succ])
              refine wpAnyH_done (by kernel_rfl) ?_ _
              refine NoPanic.normal ?_
              go_wp2
              go_meet
              case rel => first | exact ⟨_, rfl, Lib.hid (set4Sp ZZ3.out), Lib.hid (below4Sp B3.out (by first | exact Nat.le_refl _ | exact B1.out.size | exact B2.out.size) _ _ _ _), Lib.hid (by first | exact Nat.le_refl _ | exact B1.out.size | exact B2.out.size)⟩ | exact ⟨_, rfl, Lib.hid (Blk.new _ _ _ (0, 0)), Lib.hid (Below.alloc0 B3.out _), Lib.hid B3.out.size⟩
            exact AllReadyH.nil
          case rest =>
            obtain ⟨g8, rfl, hK8, hB8, hg8⟩ := hcut
            have K9 := Lib.hid (Blk.set_ hK8.out 0 (.int .u16 a))
            have f80 := hK8.out.frozen 0
            have c80 := hK8.out.cell 0
            have c80' : wc.cell? ⟨g8, 0, none⟩ = some (.int .u16 z.a) := c80
            have HB9 := Lib.hid (Below.set0 (i := 0) hB8.out hg8.out (.int .u16 a))
            clear c80 hK8 hB8
            go_upto_region 9 with (fail)
            clear c80' f80
            have K9' : Hid (Blk (wc.setCell ⟨g8, 0, none⟩ (.int .u16 a)) g8 35 (cellsSp a (z.t + 1) (z.c + ow) (z.l + ((xl : Int) - ow)))) := K9
            clear K9
            generalize wc.setCell ⟨g8, 0, none⟩ (.int .u16 a) = W9 at K9' HB9 ⊢
            have HA9 := Lib.hid (HA2.out.below HB9.out)
            obtain ⟨D, hD, hLo, hSz⟩ := HA9.out.own
            have HD := Lib.hid hD
            have HLo := Lib.hid hLo
            have HSz := Lib.hid hSz
            have hval : Hid (spR (.agg #[.int .u16 a, .int .i64 (z.t + 1), .int .i64 (z.c + ow), .int .i64 (z.l + ((xl : Int) - ow))]) = some (spD (addV Lk a ow ((xl : Int) - ow)), [])) := Lib.hid (by unfold addV; rw [HZ.out]; rfl)
            have hkey := Lib.hid (proKey ⟨ha0, ha1⟩)
            have hb8 : Hid (g8 ≠ b ∧ g ≠ b) := Lib.hid (by
              have h1 := HA2.out.pp.lts.2 b rfl
              have h2 := hg8.out
              refine ⟨by omega, ?_⟩
              rcases HA2.out.pp.2.2 with ⟨_, _, e⟩ | ⟨b', _, e, _, q, _⟩
              · cases e
              · injection e with e; subst e; exact fun e => q e.symm)
            have S9 : Hid ((fun w' : World => w'.cell? ⟨g, 0, none⟩ = some (.map (some b)) ∧ (w'.cell? ⟨g8, 0, none⟩ = some (.int .u16 a) ∧ w'.cell? ⟨g8, 1, none⟩ = some (.int .i64 (z.t + 1)) ∧ w'.cell? ⟨g8, 2, none⟩ = some (.int .i64 (z.c + ow)) ∧ w'.cell? ⟨g8, 3, none⟩ = some (.int .i64 (z.l + ((xl : Int) - ow))))) W9.drew) := Lib.hid ⟨by
              have := (Blk.drew HA9.out.pp.blk).cell 0
              rw [this]; rfl, (Blk.drew K9'.out).c4⟩
            clear hD hLo hSz
            refine wp_region_noPanic ?_
            refine wp_region_held_drew (S := (fun w' : World => w'.cell? ⟨g, 0, none⟩ = some (.map (some b)) ∧ (w'.cell? ⟨g8, 0, none⟩ = some (.int .u16 a) ∧ w'.cell? ⟨g8, 1, none⟩ = some (.int .i64 (z.t + 1)) ∧ w'.cell? ⟨g8, 2, none⟩ = some (.int .i64 (z.c + ow)) ∧ w'.cell? ⟨g8, 3, none⟩ = some (.int .i64 (z.l + ((xl : Int) - ow)))))) (by kernel_rfl) ?_ (fun hH0 => ?_)
            · (try dsimp only); with_reducible exact S9.out
            refine wpAnyH_take (i := 0) (oi := ({ dst := some 44, op := Op.move (Operand.tmp 0), type := 24, pos := "prof.go:31", after := #[], guard := none } : Oper)) (v := ?_) rfl (by kernel_rfl) (by kernel_rfl) (by kernel_rfl) (fun _ _ _ h => h) (Or.inl ⟨by rfl, ?_⟩) (by assumption) ?_
            rotate_left 1
            · (intro w hSw; (try dsimp only at hSw); go_simp; (try with_reducible rfl))
            (try simp only [Act.put, List.setIfInBounds_toArray, List.set_cons_zero, List.set_cons_succ])
            refine wpAnyH_take (i := 1) (oi := ({ dst := some 45, op := Op.nilCheck (Operand.tmp 44), type := 0, pos := "prof.go:31", after := #[{ on := 0, ground := Ground.data }], guard := none } : Oper)) (v := ?_) rfl (by kernel_rfl) (by kernel_rfl) (by kernel_rfl) (fun _ _ _ h => h) (Or.inl ⟨by rfl, ?_⟩) (by assumption) ?_
            rotate_left 1
            · (intro w hSw; (try dsimp only at hSw); go_simp; (try with_reducible rfl))
            (try simp only [Act.put, List.setIfInBounds_toArray, List.set_cons_zero, List.set_cons_succ])
            refine wpAnyH_take (i := 2) (oi := ({ dst := some 46, op := Op.fieldAddr 27 (Operand.tmp 45) 0, type := 0, pos := "prof.go:31", after := #[{ on := 1, ground := Ground.data }], guard := none } : Oper)) (v := ?_) rfl (by kernel_rfl) (by kernel_rfl) (by kernel_rfl) (fun _ _ _ h => h) (Or.inl ⟨by rfl, ?_⟩) (by assumption) ?_
            rotate_left 1
            · (intro w hSw; (try dsimp only at hSw); go_simp; (try with_reducible rfl))
            (try simp only [Act.put, List.setIfInBounds_toArray, List.set_cons_zero, List.set_cons_succ])
            refine wpAnyH_take (i := 3) (oi := ({ dst := some 47, op := Op.load 25 (Operand.tmp 46), type := 25, pos := "prof.go:31", after := #[{ on := 2, ground := Ground.data }], guard := none } : Oper)) (v := ?_) rfl (by kernel_rfl) (by kernel_rfl) (by kernel_rfl) (fun _ _ _ h => h) (Or.inl ⟨by rfl, ?_⟩) (by assumption) ?_
            rotate_left 1
            · (intro w hSw; (try dsimp only at hSw); go_simp; (try with_reducible rfl))
            (try simp only [Act.put, List.setIfInBounds_toArray, List.set_cons_zero, List.set_cons_succ])
            refine wpAnyH_take (i := 4) (oi := ({ dst := some 48, op := Op.move (Operand.tmp 6), type := 23, pos := "prof.go:31", after := #[], guard := none } : Oper)) (v := ?_) rfl (by kernel_rfl) (by kernel_rfl) (by kernel_rfl) (fun _ _ _ h => h) (Or.inl ⟨by rfl, ?_⟩) (by assumption) ?_
            rotate_left 1
            · (intro w hSw; (try dsimp only at hSw); go_simp; (try with_reducible rfl))
            (try simp only [Act.put, List.setIfInBounds_toArray, List.set_cons_zero, List.set_cons_succ])
            refine wpAnyH_take (i := 5) (oi := ({ dst := some 49, op := Op.load 35 (Operand.tmp 8), type := 35, pos := "prof.go:31", after := #[], guard := none } : Oper)) (v := ?_) rfl (by kernel_rfl) (by kernel_rfl) (by kernel_rfl) (fun _ _ _ h => h) (Or.inl ⟨by rfl, ?_⟩) (by assumption) ?_
            rotate_left 1
            · (intro w hSw; (try dsimp only at hSw); go_simp; (try with_reducible rfl))
            (try simp only [Act.put, List.setIfInBounds_toArray, List.set_cons_zero, List.set_cons_succ])
            refine wpAnyH_ready (rs := [6]) (by kernel_rfl) (by simp) ?_
            refine AllReadyH.cons (o := ({ dst := none, op := Op.mapUpdate 25 (Operand.tmp 47) (Operand.tmp 48) (Operand.tmp 49), type := 0, pos := "prof.go:31", after := #[{ on := 3, ground := Ground.data }, { on := 4, ground := Ground.data }, { on := 5, ground := Ground.data }, { on := 0, ground := Ground.phase }, { on := 1, ground := Ground.phase }, { on := 2, ground := Ground.phase }, { on := 3, ground := Ground.phase }, { on := 4, ground := Ground.phase }, { on := 5, ground := Ground.phase }], guard := none } : Oper)) rfl (fun K hK => ?_) ?_
            rotate_left 1
            · exact AllReadyH.nil
            (refine step_mapU rfl _ _ _ _ 25 rfl 23 35 proLaw Try.underlying25 spR b (n + k) D rfl HD.out.drew (by unfold maxLen; omega) _ _ _ rfl rfl hkey.out _ [] hval.out ?_; intro w5 h5 h6; have HA5 := Lib.hid (AdSt.add (HA9.out.below (Below.drew0 (Below.refl _ _))) ⟨ha0, ha1⟩ HLo.out HSz.out (HD.out.tidy proLaw) h5 h6); have S5 : Hid ((fun w' : World => w'.cell? ⟨g, 0, none⟩ = some (.map (some b)) ∧ (w'.cell? ⟨g8, 0, none⟩ = some (.int .u16 a) ∧ w'.cell? ⟨g8, 1, none⟩ = some (.int .i64 (z.t + 1)) ∧ w'.cell? ⟨g8, 2, none⟩ = some (.int .i64 (z.c + ow)) ∧ w'.cell? ⟨g8, 3, none⟩ = some (.int .i64 (z.l + ((xl : Int) - ow))))) w5) := Lib.hid ⟨(Blk.grown (Blk.drew HA9.out.pp.blk) h6.grown (by intro e; injection e with e; exact hb8.out.2 e)).cell 0, (Blk.grown (Blk.drew K9'.out) h6.grown (by intro e; injection e with e; exact hb8.out.1 e)).c4⟩; clear h5 h6)
            first | (refine hK.out _ _ ?_ (fun hH1 => ?_)) | (go_wp2_with fail; refine hK.out _ _ ?_ (fun hH1 => ?_))
            · (try dsimp only); with_reducible exact S5.out
            clear hK K hH0
            (try simp only [Act.put])
            refine wpAnyH_done (by kernel_rfl) ?_ _
            refine NoPanic.normal ?_
            go_wp2
            go_roundw
            case rel => exact ⟨k + 1, by omega, by go_num, Lib.hid (by rw [NX2.out]; exact HA5.out), Lib.hid (by rw [NX2.out]; have := addN_bnd HBk.out (by omega) (by omega) ⟨ha0, ha1⟩ (o := (ow : Int)) (l := (xl : Int) - ow) (by omega) (by omega); rw [show (m + ((k + 1 : Nat) : Int)) = m + k + 1 by omega]; exact this)⟩
            case measure => simp [intOf]; omega
      · obtain rfl : k = N := by omega
        have E : Hid ((xs.take k).foldl addP L = xs.foldl addP L) := Lib.hid (by rw [List.take_of_length_le (by rw [HL2.out]; exact Nat.le_refl _)])
        go_wp2
        go_end0
        exact ⟨rfl, some b, by rw [← E.out]; exact hA.out.pp, hA.out.ends, by rw [← E.out]; exact hBk.out⟩
end Go.Proofs.Ytlgaedhbgkhmeaa
