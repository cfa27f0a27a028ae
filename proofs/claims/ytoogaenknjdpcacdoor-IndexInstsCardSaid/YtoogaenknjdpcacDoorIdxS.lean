/- The contract of the document's own address (spinetref20.Of), for the kinds 0 to 10. -/
import Derived.Test.YtoogaenknjdpcacDoorIdxR
import Derived.Test.YtoogaenknjdpcacDoorStc
import Derived.OrdersHeld
namespace Go.Proofs.YtoogaenknjdpcacDoor
open Go.ChangeShapes Go.WideShapes Go.ChangeAt Go.RowKit
set_option linter.unusedVariables false

/-- What is added to the base, and what the register moves by. -/
def adK (k : Nat) (o v sA sB d : Int) : Int := ([0, o, v, v, sA, sB, d, 0, 0, 65535, 65534] : List Int).getD k 0
def mvK (k : Nat) : Int := ([0, 0, 0, 0, 0, 0, 0, 1, 2, 65535, 65534] : List Int).getD k 0
abbrev adA (o v sA sB d : Int) : Array Value := #[.int .u16 0, .int .u16 o, .int .u16 v, .int .u16 v, .int .u16 sA, .int .u16 sB, .int .u16 d, .int .u16 0, .int .u16 0, .int .u16 65535, .int .u16 65534]
abbrev mvA : Array Value := #[.int .u16 0, .int .u16 0, .int .u16 0, .int .u16 0, .int .u16 0, .int .u16 0, .int .u16 0, .int .u16 1, .int .u16 2, .int .u16 65535, .int .u16 65534]
theorem lt11 {k : Nat} (h : k < 11) : k = 0 ∨ k = 1 ∨ k = 2 ∨ k = 3 ∨ k = 4 ∨ k = 5 ∨ k = 6 ∨ k = 7 ∨ k = 8 ∨ k = 9 ∨ k = 10 := by omega
theorem adA_at (k : Nat) (hk : k < 11) (o v sA sB d : Int) : (adA o v sA sB d)[k]? = some (.int .u16 (adK k o v sA sB d)) := by
  rcases lt11 hk with rfl | rfl | rfl | rfl | rfl | rfl | rfl | rfl | rfl | rfl | rfl <;> rfl
theorem mvA_at (k : Nat) (hk : k < 11) : mvA[k]? = some (.int .u16 (mvK k)) := by
  rcases lt11 hk with rfl | rfl | rfl | rfl | rfl | rfl | rfl | rfl | rfl | rfl | rfl <;> rfl
theorem mvK_range (k : Nat) (hk : k < 11) : 0 ≤ mvK k ∧ mvK k < 65536 := by
  rcases lt11 hk with rfl | rfl | rfl | rfl | rfl | rfl | rfl | rfl | rfl | rfl | rfl <;> (unfold mvK; decide)
theorem adK_idA (k : Nat) (hk : k < 11) (g o v n : Int) (r : Rg) (hr : r.Ok) : (getR r g + adK k (IntKind.u16.wrap o) v (signOf r.A) (signOf r.B) (getR r 0)) % 65536 = idA k g o v n r := by
  obtain ⟨g0, g1⟩ := getR_range r hr g
  rcases lt11 hk with rfl | rfl | rfl | rfl | rfl | rfl | rfl | rfl | rfl | rfl | rfl
  all_goals
    simp only [adK, idA, List.getD_cons_zero, List.getD_cons_succ, IntKind.wrap_u16]
    simp
    try omega
theorem mvK_idR (k : Nat) (hk : k < 11) (g : Int) (r : Rg) (hr : r.Ok) : setR r g ((getR r g + mvK k) % 65536) = idR k g r := by
  obtain ⟨g0, g1⟩ := getR_range r hr g
  have e0 : getR r g % 65536 = getR r g := by omega
  have e9 : (getR r g + 65535) % 65536 = (getR r g - 1) % 65536 := by omega
  have e10 : (getR r g + 65534) % 65536 = (getR r g - 2) % 65536 := by omega
  rcases lt11 hk with rfl | rfl | rfl | rfl | rfl | rfl | rfl | rfl | rfl | rfl | rfl
  all_goals simp [mvK, idR, e0, e9, e10, setR_same r hr]
theorem set9i_farB {w : World} {g g' : Nat} {t : TypeId} {cs : Array Value} (h : Blk w g t cs) (hg : g ≠ g') (s : Rg) : Blk (set9i w g' s) g t cs :=
  Blk.far (Blk.far (Blk.far (Blk.far (Blk.far (Blk.far (Blk.far (Blk.far (Blk.far h hg _) hg _) hg _) hg _) hg _) hg _) hg _) hg _) hg _
theorem resIdxB (tmps : Array Value) (W : World) (g : Nat) (cs : Array Value) (h : Blk W g 34 cs) (hc : cs.size = 9) (h2 : tmps.getD 9 undef = .pointer (some ⟨g, 0, none⟩)) (a : Int) (h3 : tmps.getD 8 undef = .int .u16 a) :
    (results Tryd.f20 tmps).run Tryd.prog W = .ok (.tuple #[.int .u16 a, .agg cs]) W := by
  have hi : (Tryd.prog.info? 34).map (·.size) = some cs.size := by rw [hc]; kernel_rfl
  have hld := run_loadVar_row (P := Tryd.prog) W g 34 34 cs (0, 0) _ h Tryd.underlying34 rfl hi
  have h2' : tmps[9]?.getD undef = .pointer (some ⟨g, 0, none⟩) := by simpa using h2
  have h3' : tmps[8]?.getD undef = .int .u16 a := by simpa using h3
  simp [results, Tryd.results20, h2', h3', asAddr, hld]
set_option maxRecDepth 100000 in
set_option maxHeartbeats 8000000 in
theorem ref20_low (b : Nat) (hb : b < 256) (k : Nat) (hk : poK b = k) (hk11 : k < 11) (r : Rg) (hr : r.Ok) (v n : Int) (v0 : 0 ≤ v) (v1 : v < 65536) (n0 : 0 ≤ n) (w : World) :
    Calls Tryd.prog 20 #[.int .u8 (b : Int), .agg r.cells, .int .u16 v, .int .u16 n] w fun e w' => e = .returned (.tuple #[.int .u16 (idA k (poR b) (poO b) v n r), .agg (idR k (poR b) r).cells]) ∧ Below w.heap.size w w' := by
  have HR := Lib.hid hr
  have CP := Lib.hid (fun w => refOf_any b hb w)
  unfold refP at CP
  rw [hk] at CP
  have H2 := Lib.hid (idx_two w r)
  have HB := Lib.hid (Below.alloc0 (Below.alloc0 (Below.refl w.heap.size w) (Obj.cells r.cells 34)) (Obj.cells zRg.cells 34))
  have mr := mvK_range k hk11
  have EA := Lib.hid (adK_idA k hk11 (poR b) (poO b) v n r hr)
  have ER := Lib.hid (mvK_idR k hk11 (poR b) r hr)
  have SA := Lib.hid (fun w => sign18_any r.A w hr.a0 hr.a1)
  have SB := Lib.hid (fun w => sign18_any r.B w hr.b0 hr.b1)
  have G1 := Lib.hid (fun w => refGet_any r hr (poR b) w)
  have G0 := Lib.hid (fun w => refGet_any r hr 0 w)
  have base := getR_range r hr (poR b)
  obtain ⟨a, ha⟩ : ∃ a, getR r (poR b) = a := ⟨_, rfl⟩
  obtain ⟨d, hd⟩ : ∃ d, getR r 0 = d := ⟨_, rfl⟩
  obtain ⟨sA, hsA⟩ : ∃ d, signOf r.A = d := ⟨_, rfl⟩
  obtain ⟨sB, hsB⟩ : ∃ d, signOf r.B = d := ⟨_, rfl⟩
  obtain ⟨o, ho⟩ : ∃ o, IntKind.u16.wrap (poO b : Int) = o := ⟨_, rfl⟩
  obtain ⟨mv, hmv⟩ : ∃ o, mvK k = o := ⟨_, rfl⟩
  rw [ha, hd, hsA, hsB, ho] at EA
  rw [ha, hmv] at ER
  rw [ha] at G1 base
  rw [hd] at G0
  rw [hsA] at SA
  rw [hsB] at SB
  rw [hmv] at mr
  obtain ⟨ad, had⟩ : ∃ x, adK k o v sA sB d = x := ⟨_, rfl⟩
  rw [had] at EA
  have CS0 := fun w => refSet_any r hr (poR b) ((a + mv) % 65536) (by omega) (by omega) w
  rw [ER.out] at CS0
  have CS := Lib.hid CS0
  have AT := Lib.hid (adA_at k hk11 o v sA sB d)
  rw [had] at AT
  have MT := Lib.hid (mvA_at k hk11)
  rw [hmv] at MT
  have HO := Lib.hid ho
  have n13 : ((k : Int) == 13) = false := by rw [beq_eq_false_iff_ne]; omega
  have n11 : ((k : Int) == 11) = false := by rw [beq_eq_false_iff_ne]; omega
  have n12 : ((k : Int) == 12) = false := by rw [beq_eq_false_iff_ne]; omega
  obtain ⟨b0, b1⟩ := base
  obtain ⟨m0, m1⟩ := mr
  rw [← EA.out, ← ER.out, ER.out]
  clear hk ha hd hsA hsB ho hmv had CS0 hr
  go_enter Tryd.func20, Tryd.ntmps20
  go_wp2_with fail
  refine (CP.out _).mono ?_
  rintro e w1 ⟨rfl, hb1⟩
  have HRr := Lib.hid ((RgAt.below H2.out.1 hb1 H2.out.1.lt).al (Obj.cells #[.int .i64 (k : Int), .int .i64 (poR b : Int), .int .i64 (poO b : Int), .bool (poI b), .int .i64 (poBytes k : Int), .int .i64 (poIdle k : Int)] 37))
  have HZ := Lib.hid ((RgAt.below H2.out.2 hb1 H2.out.2.lt).al (Obj.cells #[.int .i64 (k : Int), .int .i64 (poR b : Int), .int .i64 (poO b : Int), .bool (poI b), .int .i64 (poBytes k : Int), .int .i64 (poIdle k : Int)] 37))
  have HP := Lib.hid (Blk.new w1 37 #[.int .i64 (k : Int), .int .i64 (poR b : Int), .int .i64 (poO b : Int), .bool (poI b), .int .i64 (poBytes k : Int), .int .i64 (poIdle k : Int)] (0, 0))
  replace HB := Lib.hid (Below.alloc0 (Below.trans0 HB.out hb1) (Obj.cells #[.int .i64 (k : Int), .int .i64 (poR b : Int), .int .i64 (poO b : Int), .bool (poI b), .int .i64 (poBytes k : Int), .int .i64 (poIdle k : Int)] 37))
  have LP := Lib.hid (show w.heap.size + 1 < w1.heap.size from Nat.lt_of_lt_of_le (by simp) hb1.size)
  clear hb1 H2 CP
  obtain ⟨r0, r1, r2, r3, r4, r5, r6, r7, r8⟩ := HRr.out.cells
  obtain ⟨p0, p1, p2, p3, p4, p5⟩ := Blk.c6 HP.out
  go_wp2_with fail
  refine (G1.out _).mono ?_
  rintro e w2 ⟨rfl, o1, o2, rfl⟩
  have HRr6 := Lib.hid ((HRr.out.al o1).al o2)
  clear p0 p1 p2 p3 p4 p5 r0 r1 r2 r3 r4 r5 r6 r7 r8
  obtain ⟨r0, r1, r2, r3, r4, r5, r6, r7, r8⟩ := HRr6.out.cells
  go_wp2_with fail
  refine (G0.out _).mono ?_
  rintro e w2 ⟨rfl, o3, o4, rfl⟩
  have HRr7 := Lib.hid ((((HRr.out.al o1).al o2).al o3).al o4)
  have HZ7 := Lib.hid ((((HZ.out.al o1).al o2).al o3).al o4)
  have HP7 := Lib.hid (Blk.alloc (Blk.alloc (Blk.alloc (Blk.alloc HP.out o1) o2) o3) o4)
  have HB7 := Lib.hid (Below.alloc0 (Below.alloc0 (Below.alloc0 (Below.alloc0 HB.out o1) o2) o3) o4)
  clear HRr HRr6 HZ HP HB r0 r1 r2 r3 r4 r5 r6 r7 r8 G1 G0
  go_upto_region 8 with (fail)
  generalize ((((w1.alloc _).alloc o1).alloc o2).alloc o3).alloc o4 = W at HRr7 HZ7 HP7 HB7 ⊢
  have ow := HO.out
  have S0 : Hid ((fun w' => w'.cell? ⟨w1.heap.size, 2, none⟩ = some (.int .i64 (poO b : Int)) ∧ w'.cell? ⟨w.heap.size, 0, none⟩ = some (.int .u8 r.A) ∧ w'.cell? ⟨w.heap.size, 1, none⟩ = some (.int .u8 r.B)) W.drew) := Lib.hid ⟨(Blk.c6 HP7.out).2.2.1, HRr7.out.cells.1, HRr7.out.cells.2.1⟩
  have S1 : Hid (∀ Z, (fun w' => w'.cell? ⟨w1.heap.size, 2, none⟩ = some (.int .i64 (poO b : Int)) ∧ w'.cell? ⟨w.heap.size, 0, none⟩ = some (.int .u8 r.A) ∧ w'.cell? ⟨w.heap.size, 1, none⟩ = some (.int .u8 r.B)) (W.alloc Z).drew) := Lib.hid (fun Z => ⟨(Blk.c6 (Blk.drew (Blk.alloc HP7.out Z))).2.2.1, (RgAt.cells (show RgAt (W.alloc Z).drew w.heap.size 34 r from RgAt.al HRr7.out Z)).1, (RgAt.cells (show RgAt (W.alloc Z).drew w.heap.size 34 r from RgAt.al HRr7.out Z)).2.1⟩)
  refine once ?_
  apply Exists.intro
  apply Exists.intro
  apply And.intro
  · refine wp_region_noPanic ?_
    refine wp_region_held_drew (S := (fun w' => w'.cell? ⟨w1.heap.size, 2, none⟩ = some (.int .i64 (poO b : Int)) ∧ w'.cell? ⟨w.heap.size, 0, none⟩ = some (.int .u8 r.A) ∧ w'.cell? ⟨w.heap.size, 1, none⟩ = some (.int .u8 r.B))) (by kernel_rfl) ?_ (fun hH0 => ?_)
    · (try dsimp only); with_reducible exact S0.out
    refine wpAnyH_take (i := 0) (oi := ({ dst := some 40, op := Op.fieldAddr 37 (Operand.tmp 10) 2, type := 0, pos := "ref.go:22", after := #[], guard := none } : Oper)) (v := ?_) rfl (by kernel_rfl) (by kernel_rfl) (by kernel_rfl) (fun _ _ _ h => h) (Or.inl ⟨by rfl, ?_⟩) (by assumption) ?_
    rotate_left 1
    · (intro w hSw; (try dsimp only at hSw); go_simp; (try with_reducible rfl))
    (try simp only [Act.put, List.setIfInBounds_toArray, List.set_cons_zero, List.set_cons_succ])
    refine wpAnyH_take (i := 1) (oi := ({ dst := some 41, op := Op.load 3 (Operand.tmp 40), type := 3, pos := "ref.go:22", after := #[{ on := 0, ground := Ground.data }], guard := none } : Oper)) (v := ?_) rfl (by kernel_rfl) (by kernel_rfl) (by kernel_rfl) (fun _ _ _ h => h) (Or.inl ⟨by rfl, ?_⟩) (by assumption) ?_
    rotate_left 1
    · (intro w hSw; (try dsimp only at hSw); go_simp; (try with_reducible rfl))
    (try simp only [Act.put, List.setIfInBounds_toArray, List.set_cons_zero, List.set_cons_succ])
    refine wpAnyH_take (i := 2) (oi := ({ dst := some 42, op := Op.convert 3 32 (Operand.tmp 41), type := 32, pos := "ref.go:22", after := #[{ on := 1, ground := Ground.data }], guard := none } : Oper)) (v := ?_) rfl (by kernel_rfl) (by kernel_rfl) (by kernel_rfl) (fun _ _ _ h => h) (Or.inl ⟨by rfl, ?_⟩) (by assumption) ?_
    rotate_left 1
    · (intro w hSw; (try dsimp only at hSw); go_simp; (try with_reducible rfl))
    (try simp only [Act.put, List.setIfInBounds_toArray, List.set_cons_zero, List.set_cons_succ])
    refine wpAnyH_take (i := 3) (oi := ({ dst := some 43, op := Op.move (Operand.tmp 2), type := 32, pos := "ref.go:22", after := #[], guard := none } : Oper)) (v := ?_) rfl (by kernel_rfl) (by kernel_rfl) (by kernel_rfl) (fun _ _ _ h => h) (Or.inl ⟨by rfl, ?_⟩) (by assumption) ?_
    rotate_left 1
    · (intro w hSw; (try dsimp only at hSw); go_simp; (try with_reducible rfl))
    (try simp only [Act.put, List.setIfInBounds_toArray, List.set_cons_zero, List.set_cons_succ])
    refine wpAnyH_take (i := 4) (oi := ({ dst := some 44, op := Op.move (Operand.tmp 2), type := 32, pos := "ref.go:22", after := #[], guard := none } : Oper)) (v := ?_) rfl (by kernel_rfl) (by kernel_rfl) (by kernel_rfl) (fun _ _ _ h => h) (Or.inl ⟨by rfl, ?_⟩) (by assumption) ?_
    rotate_left 1
    · (intro w hSw; (try dsimp only at hSw); go_simp; (try with_reducible rfl))
    (try simp only [Act.put, List.setIfInBounds_toArray, List.set_cons_zero, List.set_cons_succ])
    refine wpAnyH_take (i := 5) (oi := ({ dst := some 45, op := Op.fieldAddr 34 (Operand.tmp 5) 0, type := 0, pos := "ref.go:22", after := #[], guard := none } : Oper)) (v := ?_) rfl (by kernel_rfl) (by kernel_rfl) (by kernel_rfl) (fun _ _ _ h => h) (Or.inl ⟨by rfl, ?_⟩) (by assumption) ?_
    rotate_left 1
    · (intro w hSw; (try dsimp only at hSw); go_simp; (try with_reducible rfl))
    (try simp only [Act.put, List.setIfInBounds_toArray, List.set_cons_zero, List.set_cons_succ])
    refine wpAnyH_take (i := 6) (oi := ({ dst := some 46, op := Op.load 5 (Operand.tmp 45), type := 5, pos := "ref.go:22", after := #[{ on := 5, ground := Ground.data }], guard := none } : Oper)) (v := ?_) rfl (by kernel_rfl) (by kernel_rfl) (by kernel_rfl) (fun _ _ _ h => h) (Or.inl ⟨by rfl, ?_⟩) (by assumption) ?_
    rotate_left 1
    · (intro w hSw; (try dsimp only at hSw); go_simp; (try with_reducible rfl))
    (try simp only [Act.put, List.setIfInBounds_toArray, List.set_cons_zero, List.set_cons_succ])
    refine wpAnyH_take (i := 8) (oi := ({ dst := some 48, op := Op.fieldAddr 34 (Operand.tmp 5) 1, type := 0, pos := "ref.go:22", after := #[], guard := none } : Oper)) (v := ?_) rfl (by kernel_rfl) (by kernel_rfl) (by kernel_rfl) (fun _ _ _ h => h) (Or.inl ⟨by rfl, ?_⟩) (by assumption) ?_
    rotate_left 1
    · (intro w hSw; (try dsimp only at hSw); go_simp; (try with_reducible rfl))
    (try simp only [Act.put, List.setIfInBounds_toArray, List.set_cons_zero, List.set_cons_succ])
    refine wpAnyH_take (i := 9) (oi := ({ dst := some 49, op := Op.load 5 (Operand.tmp 48), type := 5, pos := "ref.go:22", after := #[{ on := 8, ground := Ground.data }], guard := none } : Oper)) (v := ?_) rfl (by kernel_rfl) (by kernel_rfl) (by kernel_rfl) (fun _ _ _ h => h) (Or.inl ⟨by rfl, ?_⟩) (by assumption) ?_
    rotate_left 1
    · (intro w hSw; (try dsimp only at hSw); go_simp; (try with_reducible rfl))
    (try simp only [Act.put, List.setIfInBounds_toArray, List.set_cons_zero, List.set_cons_succ])
    refine wpAnyH_take (i := 11) (oi := ({ dst := some 51, op := Op.move (Operand.tmp 12), type := 32, pos := "ref.go:22", after := #[], guard := none } : Oper)) (v := ?_) rfl (by kernel_rfl) (by kernel_rfl) (by kernel_rfl) (fun _ _ _ h => h) (Or.inl ⟨by rfl, ?_⟩) (by assumption) ?_
    rotate_left 1
    · (intro w hSw; (try dsimp only at hSw); go_simp; (try with_reducible rfl))
    (try simp only [Act.put, List.setIfInBounds_toArray, List.set_cons_zero, List.set_cons_succ])
    refine wpAnyH_ready (rs := [7, 13]) (by kernel_rfl) (by simp) ?_
    refine AllReadyH.cons (o := ({ dst := some 47, op := Op.call { callee := Callee.value (Operand.func 42), args := #[Operand.tmp 46], argTypes := #[5] }, type := 32, pos := "ref.go:22", after := #[{ on := 6, ground := Ground.data }], guard := none } : Oper)) rfl (fun K hK => ?_) ?_
    · go_simp
      go_at_call 42
      ((with_reducible refine (SA.out _).mono ?_); rintro e wq ⟨rfl, rfl⟩)
      first | (refine hK.out _ _ ?_ (fun hH1 => ?_)) | (go_wp2_with fail; refine hK.out _ _ ?_ (fun hH1 => ?_))
      · (try dsimp only); with_reducible first | exact S0.out | exact S1.out _
      clear hK K hH0
      (try simp only [Act.put, List.setIfInBounds_toArray, List.set_cons_zero, List.set_cons_succ])
      refine wpAnyH_ready (rs := [10, 13]) (by kernel_rfl) (by simp) ?_
      refine AllReadyH.cons (o := ({ dst := some 50, op := Op.call { callee := Callee.value (Operand.func 42), args := #[Operand.tmp 49], argTypes := #[5] }, type := 32, pos := "ref.go:22", after := #[{ on := 9, ground := Ground.data }, { on := 7, ground := Ground.chain }], guard := none } : Oper)) rfl (fun K hK => ?_) ?_
      · go_simp
        go_at_call 42
        ((with_reducible refine (SB.out _).mono ?_); rintro e wq ⟨rfl, rfl⟩)
        first | (refine hK.out _ _ ?_ (fun hH2 => ?_)) | (go_wp2_with fail; refine hK.out _ _ ?_ (fun hH2 => ?_))
        · (try dsimp only); with_reducible first | exact S0.out | exact S1.out _
        clear hK K hH1
        (try simp only [Act.put, List.setIfInBounds_toArray, List.set_cons_zero, List.set_cons_succ])
        refine wpAnyH_take (i := 12) (oi := ({ dst := some 52, op := Op.build 95 #[(0, Operand.const (Value.int IntKind.u16 0)), (1, Operand.tmp 42), (2, Operand.tmp 43), (3, Operand.tmp 44), (4, Operand.tmp 47), (5, Operand.tmp 50), (6, Operand.tmp 51), (7, Operand.const (Value.int IntKind.u16 0)), (8, Operand.const (Value.int IntKind.u16 0)), (9, Operand.const (Value.int IntKind.u16 65535)), (10, Operand.const (Value.int IntKind.u16 65534))], type := 95, pos := "ref.go:22", after := #[{ on := 2, ground := Ground.data }, { on := 3, ground := Ground.data }, { on := 4, ground := Ground.data }, { on := 7, ground := Ground.data }, { on := 10, ground := Ground.data }, { on := 11, ground := Ground.data }], guard := none } : Oper)) (v := ?_) rfl (by kernel_rfl) (by kernel_rfl) (by kernel_rfl) (fun _ _ _ h => h) (Or.inl ⟨by rfl, ?_⟩) (by assumption) ?_
        rotate_left 1
        · (intro w hSw; (try dsimp only at hSw); go_simp; (try with_reducible rfl))
        (try simp only [Act.put, List.setIfInBounds_toArray, List.set_cons_zero, List.set_cons_succ])
        refine wpAnyH_ready (rs := [13]) (by kernel_rfl) (by simp) ?_
        refine AllReadyH.cons (o := ({ dst := some 13, op := Op.alloc 95, type := 0, pos := "ref.go:22", after := #[], guard := none } : Oper)) rfl (fun K hK => ?_) ?_
        rotate_left 1
        · exact AllReadyH.nil
        go_simp
        first | (refine hK.out _ _ ?_ (fun hH3 => ?_)) | (go_wp2_with fail; refine hK.out _ _ ?_ (fun hH3 => ?_))
        · (try dsimp only); with_reducible first | exact S0.out | exact S1.out _
        clear hK K hH2
        (try simp only [Act.put, List.setIfInBounds_toArray, List.set_cons_zero, List.set_cons_succ])
        refine wpAnyH_ready (rs := [14]) (by kernel_rfl) (by simp) ?_
        refine AllReadyH.cons (o := ({ dst := none, op := Op.store 95 (Operand.tmp 13) (Operand.tmp 52), type := 0, pos := "ref.go:22", after := #[{ on := 13, ground := Ground.data }, { on := 12, ground := Ground.data }, { on := 10, ground := Ground.chain }, { on := 0, ground := Ground.phase }, { on := 1, ground := Ground.phase }, { on := 2, ground := Ground.phase }, { on := 3, ground := Ground.phase }, { on := 4, ground := Ground.phase }, { on := 5, ground := Ground.phase }, { on := 6, ground := Ground.phase }, { on := 7, ground := Ground.phase }, { on := 8, ground := Ground.phase }, { on := 9, ground := Ground.phase }, { on := 10, ground := Ground.phase }, { on := 11, ground := Ground.phase }, { on := 12, ground := Ground.phase }, { on := 13, ground := Ground.phase }], guard := none } : Oper)) rfl (fun K hK => ?_) ?_
        rotate_left 1
        · exact AllReadyH.nil
        go_simp
        first | (refine hK.out _ _ ?_ (fun hH4 => ?_)) | (go_wp2_with fail; refine hK.out _ _ ?_ (fun hH4 => ?_))
        · (try dsimp only); with_reducible first | exact S0.out | exact S1.out _
        clear hK K hH3
        (try simp only [Act.put, List.setIfInBounds_toArray, List.set_cons_zero, List.set_cons_succ])
        refine wpAnyH_done (by kernel_rfl) ?_ _
        refine NoPanic.normal ?_
        exact ⟨rfl, rfl, rfl⟩
      refine AllReadyH.cons (o := ({ dst := some 13, op := Op.alloc 95, type := 0, pos := "ref.go:22", after := #[], guard := none } : Oper)) rfl (fun K hK => ?_) ?_
      · go_simp
        first | (refine hK.out _ _ ?_ (fun hH2 => ?_)) | (go_wp2_with fail; refine hK.out _ _ ?_ (fun hH2 => ?_))
        · (try dsimp only); with_reducible first | exact S0.out | exact S1.out _
        clear hK K hH1
        (try simp only [Act.put, List.setIfInBounds_toArray, List.set_cons_zero, List.set_cons_succ])
        refine wpAnyH_ready (rs := [10]) (by kernel_rfl) (by simp) ?_
        refine AllReadyH.cons (o := ({ dst := some 50, op := Op.call { callee := Callee.value (Operand.func 42), args := #[Operand.tmp 49], argTypes := #[5] }, type := 32, pos := "ref.go:22", after := #[{ on := 9, ground := Ground.data }, { on := 7, ground := Ground.chain }], guard := none } : Oper)) rfl (fun K hK => ?_) ?_
        rotate_left 1
        · exact AllReadyH.nil
        go_simp
        go_at_call 42
        ((with_reducible refine (SB.out _).mono ?_); rintro e wq ⟨rfl, rfl⟩)
        first | (refine hK.out _ _ ?_ (fun hH3 => ?_)) | (go_wp2_with fail; refine hK.out _ _ ?_ (fun hH3 => ?_))
        · (try dsimp only); with_reducible first | exact S0.out | exact S1.out _
        clear hK K hH2
        (try simp only [Act.put, List.setIfInBounds_toArray, List.set_cons_zero, List.set_cons_succ])
        refine wpAnyH_take (i := 12) (oi := ({ dst := some 52, op := Op.build 95 #[(0, Operand.const (Value.int IntKind.u16 0)), (1, Operand.tmp 42), (2, Operand.tmp 43), (3, Operand.tmp 44), (4, Operand.tmp 47), (5, Operand.tmp 50), (6, Operand.tmp 51), (7, Operand.const (Value.int IntKind.u16 0)), (8, Operand.const (Value.int IntKind.u16 0)), (9, Operand.const (Value.int IntKind.u16 65535)), (10, Operand.const (Value.int IntKind.u16 65534))], type := 95, pos := "ref.go:22", after := #[{ on := 2, ground := Ground.data }, { on := 3, ground := Ground.data }, { on := 4, ground := Ground.data }, { on := 7, ground := Ground.data }, { on := 10, ground := Ground.data }, { on := 11, ground := Ground.data }], guard := none } : Oper)) (v := ?_) rfl (by kernel_rfl) (by kernel_rfl) (by kernel_rfl) (fun _ _ _ h => h) (Or.inl ⟨by rfl, ?_⟩) (by assumption) ?_
        rotate_left 1
        · (intro w hSw; (try dsimp only at hSw); go_simp; (try with_reducible rfl))
        (try simp only [Act.put, List.setIfInBounds_toArray, List.set_cons_zero, List.set_cons_succ])
        refine wpAnyH_ready (rs := [14]) (by kernel_rfl) (by simp) ?_
        refine AllReadyH.cons (o := ({ dst := none, op := Op.store 95 (Operand.tmp 13) (Operand.tmp 52), type := 0, pos := "ref.go:22", after := #[{ on := 13, ground := Ground.data }, { on := 12, ground := Ground.data }, { on := 10, ground := Ground.chain }, { on := 0, ground := Ground.phase }, { on := 1, ground := Ground.phase }, { on := 2, ground := Ground.phase }, { on := 3, ground := Ground.phase }, { on := 4, ground := Ground.phase }, { on := 5, ground := Ground.phase }, { on := 6, ground := Ground.phase }, { on := 7, ground := Ground.phase }, { on := 8, ground := Ground.phase }, { on := 9, ground := Ground.phase }, { on := 10, ground := Ground.phase }, { on := 11, ground := Ground.phase }, { on := 12, ground := Ground.phase }, { on := 13, ground := Ground.phase }], guard := none } : Oper)) rfl (fun K hK => ?_) ?_
        rotate_left 1
        · exact AllReadyH.nil
        go_simp
        first | (refine hK.out _ _ ?_ (fun hH4 => ?_)) | (go_wp2_with fail; refine hK.out _ _ ?_ (fun hH4 => ?_))
        · (try dsimp only); with_reducible first | exact S0.out | exact S1.out _
        clear hK K hH3
        (try simp only [Act.put, List.setIfInBounds_toArray, List.set_cons_zero, List.set_cons_succ])
        refine wpAnyH_done (by kernel_rfl) ?_ _
        refine NoPanic.normal ?_
        exact ⟨rfl, rfl, rfl⟩
      exact AllReadyH.nil
    refine AllReadyH.cons (o := ({ dst := some 13, op := Op.alloc 95, type := 0, pos := "ref.go:22", after := #[], guard := none } : Oper)) rfl (fun K hK => ?_) ?_
    · go_simp
      first | (refine hK.out _ _ ?_ (fun hH1 => ?_)) | (go_wp2_with fail; refine hK.out _ _ ?_ (fun hH1 => ?_))
      · (try dsimp only); with_reducible first | exact S0.out | exact S1.out _
      clear hK K hH0
      (try simp only [Act.put, List.setIfInBounds_toArray, List.set_cons_zero, List.set_cons_succ])
      refine wpAnyH_ready (rs := [7]) (by kernel_rfl) (by simp) ?_
      refine AllReadyH.cons (o := ({ dst := some 47, op := Op.call { callee := Callee.value (Operand.func 42), args := #[Operand.tmp 46], argTypes := #[5] }, type := 32, pos := "ref.go:22", after := #[{ on := 6, ground := Ground.data }], guard := none } : Oper)) rfl (fun K hK => ?_) ?_
      rotate_left 1
      · exact AllReadyH.nil
      go_simp
      go_at_call 42
      ((with_reducible refine (SA.out _).mono ?_); rintro e wq ⟨rfl, rfl⟩)
      first | (refine hK.out _ _ ?_ (fun hH2 => ?_)) | (go_wp2_with fail; refine hK.out _ _ ?_ (fun hH2 => ?_))
      · (try dsimp only); with_reducible first | exact S0.out | exact S1.out _
      clear hK K hH1
      (try simp only [Act.put, List.setIfInBounds_toArray, List.set_cons_zero, List.set_cons_succ])
      refine wpAnyH_ready (rs := [10]) (by kernel_rfl) (by simp) ?_
      refine AllReadyH.cons (o := ({ dst := some 50, op := Op.call { callee := Callee.value (Operand.func 42), args := #[Operand.tmp 49], argTypes := #[5] }, type := 32, pos := "ref.go:22", after := #[{ on := 9, ground := Ground.data }, { on := 7, ground := Ground.chain }], guard := none } : Oper)) rfl (fun K hK => ?_) ?_
      rotate_left 1
      · exact AllReadyH.nil
      go_simp
      go_at_call 42
      ((with_reducible refine (SB.out _).mono ?_); rintro e wq ⟨rfl, rfl⟩)
      first | (refine hK.out _ _ ?_ (fun hH3 => ?_)) | (go_wp2_with fail; refine hK.out _ _ ?_ (fun hH3 => ?_))
      · (try dsimp only); with_reducible first | exact S0.out | exact S1.out _
      clear hK K hH2
      (try simp only [Act.put, List.setIfInBounds_toArray, List.set_cons_zero, List.set_cons_succ])
      refine wpAnyH_take (i := 12) (oi := ({ dst := some 52, op := Op.build 95 #[(0, Operand.const (Value.int IntKind.u16 0)), (1, Operand.tmp 42), (2, Operand.tmp 43), (3, Operand.tmp 44), (4, Operand.tmp 47), (5, Operand.tmp 50), (6, Operand.tmp 51), (7, Operand.const (Value.int IntKind.u16 0)), (8, Operand.const (Value.int IntKind.u16 0)), (9, Operand.const (Value.int IntKind.u16 65535)), (10, Operand.const (Value.int IntKind.u16 65534))], type := 95, pos := "ref.go:22", after := #[{ on := 2, ground := Ground.data }, { on := 3, ground := Ground.data }, { on := 4, ground := Ground.data }, { on := 7, ground := Ground.data }, { on := 10, ground := Ground.data }, { on := 11, ground := Ground.data }], guard := none } : Oper)) (v := ?_) rfl (by kernel_rfl) (by kernel_rfl) (by kernel_rfl) (fun _ _ _ h => h) (Or.inl ⟨by rfl, ?_⟩) (by assumption) ?_
      rotate_left 1
      · (intro w hSw; (try dsimp only at hSw); go_simp; (try with_reducible rfl))
      (try simp only [Act.put, List.setIfInBounds_toArray, List.set_cons_zero, List.set_cons_succ])
      refine wpAnyH_ready (rs := [14]) (by kernel_rfl) (by simp) ?_
      refine AllReadyH.cons (o := ({ dst := none, op := Op.store 95 (Operand.tmp 13) (Operand.tmp 52), type := 0, pos := "ref.go:22", after := #[{ on := 13, ground := Ground.data }, { on := 12, ground := Ground.data }, { on := 10, ground := Ground.chain }, { on := 0, ground := Ground.phase }, { on := 1, ground := Ground.phase }, { on := 2, ground := Ground.phase }, { on := 3, ground := Ground.phase }, { on := 4, ground := Ground.phase }, { on := 5, ground := Ground.phase }, { on := 6, ground := Ground.phase }, { on := 7, ground := Ground.phase }, { on := 8, ground := Ground.phase }, { on := 9, ground := Ground.phase }, { on := 10, ground := Ground.phase }, { on := 11, ground := Ground.phase }, { on := 12, ground := Ground.phase }, { on := 13, ground := Ground.phase }], guard := none } : Oper)) rfl (fun K hK => ?_) ?_
      rotate_left 1
      · exact AllReadyH.nil
      go_simp
      first | (refine hK.out _ _ ?_ (fun hH4 => ?_)) | (go_wp2_with fail; refine hK.out _ _ ?_ (fun hH4 => ?_))
      · (try dsimp only); with_reducible first | exact S0.out | exact S1.out _
      clear hK K hH3
      (try simp only [Act.put, List.setIfInBounds_toArray, List.set_cons_zero, List.set_cons_succ])
      refine wpAnyH_done (by kernel_rfl) ?_ _
      refine NoPanic.normal ?_
      exact ⟨rfl, rfl, rfl⟩
    exact AllReadyH.nil
  clear S0 S1 ow
  have HRr9 := Lib.hid ((HRr7.out.al (Obj.cells (adA o v sA sB d) 95)).al (Obj.cells mvA 95))
  have HZ9 := Lib.hid ((HZ7.out.al (Obj.cells (adA o v sA sB d) 95)).al (Obj.cells mvA 95))
  have HP9 := Lib.hid (Blk.alloc (Blk.alloc HP7.out (Obj.cells (adA o v sA sB d) 95)) (Obj.cells mvA 95))
  have HA9 : Hid (Blk ((W.alloc (Obj.cells (adA o v sA sB d) 95)).alloc (Obj.cells mvA 95)) W.heap.size 95 (adA o v sA sB d)) := Lib.hid (Blk.alloc (Blk.new _ _ _ (0, 0)) _)
  have HM9 : Hid (Blk ((W.alloc (Obj.cells (adA o v sA sB d) 95)).alloc (Obj.cells mvA 95)) (W.heap.size + 1) 95 mvA) := Lib.hid (Blk.at1 _)
  have HB9 := Lib.hid (Below.alloc0 (Below.alloc0 HB7.out (Obj.cells (adA o v sA sB d) 95)) (Obj.cells mvA 95))
  have LW := Lib.hid (show w1.heap.size < W.heap.size from HP7.out.lt)
  clear HRr7 HZ7 HP7 HB7
  go_upto_region 10 with (fail)
  generalize (W.alloc _).alloc _ = V at HRr9 HZ9 HP9 HA9 HM9 HB9 ⊢
  have HS : Hid (∀ u : World, RgAt u w.heap.size 34 r → Blk u w1.heap.size 37 #[.int .i64 (k : Int), .int .i64 (poR b : Int), .int .i64 (poO b : Int), .bool (poI b), .int .i64 (poBytes k : Int), .int .i64 (poIdle k : Int)] → Blk u W.heap.size 95 (adA o v sA sB d) → Blk u (W.heap.size + 1) 95 mvA → (fun w' => (w'.cell? ⟨w1.heap.size, 0, none⟩ = some (.int .i64 (k : Int)) ∧ w'.cell? ⟨w1.heap.size, 1, none⟩ = some (.int .i64 (poR b : Int))) ∧ (w'.cell? ⟨w.heap.size, 0, none⟩ = some (.int .u8 r.A) ∧ w'.cell? ⟨w.heap.size, 1, none⟩ = some (.int .u8 r.B) ∧ w'.cell? ⟨w.heap.size, 2, none⟩ = some (.int .u8 r.D) ∧ w'.cell? ⟨w.heap.size, 3, none⟩ = some (.int .u8 r.C) ∧ w'.cell? ⟨w.heap.size, 4, none⟩ = some (.int .u16 r.X) ∧ w'.cell? ⟨w.heap.size, 5, none⟩ = some (.int .u16 r.Y) ∧ w'.cell? ⟨w.heap.size, 6, none⟩ = some (.int .u16 r.U) ∧ w'.cell? ⟨w.heap.size, 7, none⟩ = some (.int .u16 r.S) ∧ w'.cell? ⟨w.heap.size, 8, none⟩ = some (.int .u16 r.P)) ∧ w'.cell? ⟨W.heap.size, k, none⟩ = some (.int .u16 ad) ∧ w'.cell? ⟨W.heap.size + 1, k, none⟩ = some (.int .u16 mv)) u) := Lib.hid (fun u h1 h2 h3 h4 => ⟨⟨(Blk.c6 h2).1, (Blk.c6 h2).2.1⟩, h1.cells, by rw [h3.cell]; exact AT.out, by rw [h4.cell]; exact MT.out⟩)
  have S0 : Hid ((fun w' => (w'.cell? ⟨w1.heap.size, 0, none⟩ = some (.int .i64 (k : Int)) ∧ w'.cell? ⟨w1.heap.size, 1, none⟩ = some (.int .i64 (poR b : Int))) ∧ (w'.cell? ⟨w.heap.size, 0, none⟩ = some (.int .u8 r.A) ∧ w'.cell? ⟨w.heap.size, 1, none⟩ = some (.int .u8 r.B) ∧ w'.cell? ⟨w.heap.size, 2, none⟩ = some (.int .u8 r.D) ∧ w'.cell? ⟨w.heap.size, 3, none⟩ = some (.int .u8 r.C) ∧ w'.cell? ⟨w.heap.size, 4, none⟩ = some (.int .u16 r.X) ∧ w'.cell? ⟨w.heap.size, 5, none⟩ = some (.int .u16 r.Y) ∧ w'.cell? ⟨w.heap.size, 6, none⟩ = some (.int .u16 r.U) ∧ w'.cell? ⟨w.heap.size, 7, none⟩ = some (.int .u16 r.S) ∧ w'.cell? ⟨w.heap.size, 8, none⟩ = some (.int .u16 r.P)) ∧ w'.cell? ⟨W.heap.size, k, none⟩ = some (.int .u16 ad) ∧ w'.cell? ⟨W.heap.size + 1, k, none⟩ = some (.int .u16 mv)) V.drew.drew) := Lib.hid (HS.out _ HRr9.out HP9.out HA9.out HM9.out)
  have tq1 : IntKind.u16.wrap (a + ad) = (a + ad) % 65536 := IntKind.wrap_u16 _
  have tq2 : IntKind.u16.wrap (a + mv) = (a + mv) % 65536 := IntKind.wrap_u16 _
  have k0 : (0 : Int) ≤ (k : Int) := by omega
  have k1 : (k : Int) < 11 := by omega
  refine wp_region_noPanic ?_
  refine wp_region_held_drew (S := (fun w' => (w'.cell? ⟨w1.heap.size, 0, none⟩ = some (.int .i64 (k : Int)) ∧ w'.cell? ⟨w1.heap.size, 1, none⟩ = some (.int .i64 (poR b : Int))) ∧ (w'.cell? ⟨w.heap.size, 0, none⟩ = some (.int .u8 r.A) ∧ w'.cell? ⟨w.heap.size, 1, none⟩ = some (.int .u8 r.B) ∧ w'.cell? ⟨w.heap.size, 2, none⟩ = some (.int .u8 r.D) ∧ w'.cell? ⟨w.heap.size, 3, none⟩ = some (.int .u8 r.C) ∧ w'.cell? ⟨w.heap.size, 4, none⟩ = some (.int .u16 r.X) ∧ w'.cell? ⟨w.heap.size, 5, none⟩ = some (.int .u16 r.Y) ∧ w'.cell? ⟨w.heap.size, 6, none⟩ = some (.int .u16 r.U) ∧ w'.cell? ⟨w.heap.size, 7, none⟩ = some (.int .u16 r.S) ∧ w'.cell? ⟨w.heap.size, 8, none⟩ = some (.int .u16 r.P)) ∧ w'.cell? ⟨W.heap.size, k, none⟩ = some (.int .u16 ad) ∧ w'.cell? ⟨W.heap.size + 1, k, none⟩ = some (.int .u16 mv))) (by kernel_rfl) ?_ (fun hH0 => ?_)
  · (try dsimp only); with_reducible exact S0.out
  refine wpAnyH_take (i := 0) (oi := ({ dst := some 54, op := Op.move (Operand.tmp 11), type := 32, pos := "ref.go:24", after := #[], guard := none } : Oper)) (v := ?_) rfl (by kernel_rfl) (by kernel_rfl) (by kernel_rfl) (fun _ _ _ h => h) (Or.inl ⟨by rfl, ?_⟩) (by assumption) ?_
  rotate_left 1
  · (intro w hSw; (try dsimp only at hSw); go_simp; (try with_reducible rfl))
  (try simp only [Act.put, List.setIfInBounds_toArray, List.set_cons_zero, List.set_cons_succ])
  refine wpAnyH_take (i := 1) (oi := ({ dst := some 55, op := Op.fieldAddr 37 (Operand.tmp 10) 0, type := 0, pos := "ref.go:24", after := #[], guard := none } : Oper)) (v := ?_) rfl (by kernel_rfl) (by kernel_rfl) (by kernel_rfl) (fun _ _ _ h => h) (Or.inl ⟨by rfl, ?_⟩) (by assumption) ?_
  rotate_left 1
  · (intro w hSw; (try dsimp only at hSw); go_simp; (try with_reducible rfl))
  (try simp only [Act.put, List.setIfInBounds_toArray, List.set_cons_zero, List.set_cons_succ])
  refine wpAnyH_take (i := 2) (oi := ({ dst := some 56, op := Op.load 3 (Operand.tmp 55), type := 3, pos := "ref.go:24", after := #[{ on := 1, ground := Ground.data }], guard := none } : Oper)) (v := ?_) rfl (by kernel_rfl) (by kernel_rfl) (by kernel_rfl) (fun _ _ _ h => h) (Or.inl ⟨by rfl, ?_⟩) (by assumption) ?_
  rotate_left 1
  · (intro w hSw; (try dsimp only at hSw); go_simp; (try with_reducible rfl))
  (try simp only [Act.put, List.setIfInBounds_toArray, List.set_cons_zero, List.set_cons_succ])
  refine wpAnyH_take (i := 3) (oi := ({ dst := some 57, op := Op.indexAddr 95 (Operand.tmp 13) (Operand.tmp 56), type := 0, pos := "ref.go:24", after := #[{ on := 2, ground := Ground.data }], guard := none } : Oper)) (v := ?_) rfl (by kernel_rfl) (by kernel_rfl) (by kernel_rfl) (fun _ _ _ h => h) (Or.inl ⟨by rfl, ?_⟩) (by assumption) ?_
  rotate_left 1
  · (intro w hSw; (try dsimp only at hSw); go_simp; (try with_reducible rfl))
  (try simp only [Act.put, List.setIfInBounds_toArray, List.set_cons_zero, List.set_cons_succ])
  refine wpAnyH_take (i := 4) (oi := ({ dst := some 58, op := Op.load 32 (Operand.tmp 57), type := 32, pos := "ref.go:24", after := #[{ on := 3, ground := Ground.data }], guard := none } : Oper)) (v := ?_) rfl (by kernel_rfl) (by kernel_rfl) (by kernel_rfl) (fun _ _ _ h => h) (Or.inl ⟨by rfl, ?_⟩) (by assumption) ?_
  rotate_left 1
  · (intro w hSw; (try dsimp only at hSw); go_simp; (try with_reducible rfl))
  (try simp only [Act.put, List.setIfInBounds_toArray, List.set_cons_zero, List.set_cons_succ])
  refine wpAnyH_take (i := 5) (oi := ({ dst := some 59, op := Op.binOp BinOp.add 32 (Operand.tmp 54) (Operand.tmp 58) 32, type := 32, pos := "ref.go:24", after := #[{ on := 0, ground := Ground.data }, { on := 4, ground := Ground.data }], guard := none } : Oper)) (v := ?_) rfl (by kernel_rfl) (by kernel_rfl) (by kernel_rfl) (fun _ _ _ h => h) (Or.inl ⟨by rfl, ?_⟩) (by assumption) ?_
  rotate_left 1
  · (intro w hSw; (try dsimp only at hSw); go_simp; (try with_reducible rfl))
  (try simp only [Act.put, List.setIfInBounds_toArray, List.set_cons_zero, List.set_cons_succ])
  refine wpAnyH_take (i := 6) (oi := ({ dst := some 60, op := Op.load 34 (Operand.tmp 5), type := 34, pos := "ref.go:24", after := #[], guard := none } : Oper)) (v := ?_) rfl (by kernel_rfl) (by kernel_rfl) (by kernel_rfl) (fun _ _ _ h => h) (Or.inl ⟨by rfl, ?_⟩) (by assumption) ?_
  rotate_left 1
  · (intro w hSw; (try dsimp only at hSw); go_simp; (try with_reducible rfl))
  (try simp only [Act.put, List.setIfInBounds_toArray, List.set_cons_zero, List.set_cons_succ])
  refine wpAnyH_take (i := 7) (oi := ({ dst := some 61, op := Op.fieldAddr 37 (Operand.tmp 10) 1, type := 0, pos := "ref.go:24", after := #[], guard := none } : Oper)) (v := ?_) rfl (by kernel_rfl) (by kernel_rfl) (by kernel_rfl) (fun _ _ _ h => h) (Or.inl ⟨by rfl, ?_⟩) (by assumption) ?_
  rotate_left 1
  · (intro w hSw; (try dsimp only at hSw); go_simp; (try with_reducible rfl))
  (try simp only [Act.put, List.setIfInBounds_toArray, List.set_cons_zero, List.set_cons_succ])
  refine wpAnyH_take (i := 8) (oi := ({ dst := some 62, op := Op.load 3 (Operand.tmp 61), type := 3, pos := "ref.go:24", after := #[{ on := 7, ground := Ground.data }], guard := none } : Oper)) (v := ?_) rfl (by kernel_rfl) (by kernel_rfl) (by kernel_rfl) (fun _ _ _ h => h) (Or.inl ⟨by rfl, ?_⟩) (by assumption) ?_
  rotate_left 1
  · (intro w hSw; (try dsimp only at hSw); go_simp; (try with_reducible rfl))
  (try simp only [Act.put, List.setIfInBounds_toArray, List.set_cons_zero, List.set_cons_succ])
  refine wpAnyH_take (i := 9) (oi := ({ dst := some 63, op := Op.move (Operand.tmp 11), type := 32, pos := "ref.go:24", after := #[], guard := none } : Oper)) (v := ?_) rfl (by kernel_rfl) (by kernel_rfl) (by kernel_rfl) (fun _ _ _ h => h) (Or.inl ⟨by rfl, ?_⟩) (by assumption) ?_
  rotate_left 1
  · (intro w hSw; (try dsimp only at hSw); go_simp; (try with_reducible rfl))
  (try simp only [Act.put, List.setIfInBounds_toArray, List.set_cons_zero, List.set_cons_succ])
  refine wpAnyH_take (i := 10) (oi := ({ dst := some 64, op := Op.fieldAddr 37 (Operand.tmp 10) 0, type := 0, pos := "ref.go:24", after := #[], guard := none } : Oper)) (v := ?_) rfl (by kernel_rfl) (by kernel_rfl) (by kernel_rfl) (fun _ _ _ h => h) (Or.inl ⟨by rfl, ?_⟩) (by assumption) ?_
  rotate_left 1
  · (intro w hSw; (try dsimp only at hSw); go_simp; (try with_reducible rfl))
  (try simp only [Act.put, List.setIfInBounds_toArray, List.set_cons_zero, List.set_cons_succ])
  refine wpAnyH_take (i := 11) (oi := ({ dst := some 65, op := Op.load 3 (Operand.tmp 64), type := 3, pos := "ref.go:24", after := #[{ on := 10, ground := Ground.data }], guard := none } : Oper)) (v := ?_) rfl (by kernel_rfl) (by kernel_rfl) (by kernel_rfl) (fun _ _ _ h => h) (Or.inl ⟨by rfl, ?_⟩) (by assumption) ?_
  rotate_left 1
  · (intro w hSw; (try dsimp only at hSw); go_simp; (try with_reducible rfl))
  (try simp only [Act.put, List.setIfInBounds_toArray, List.set_cons_zero, List.set_cons_succ])
  refine wpAnyH_take (i := 12) (oi := ({ dst := some 66, op := Op.indexAddr 95 (Operand.tmp 14) (Operand.tmp 65), type := 0, pos := "ref.go:24", after := #[{ on := 11, ground := Ground.data }], guard := none } : Oper)) (v := ?_) rfl (by kernel_rfl) (by kernel_rfl) (by kernel_rfl) (fun _ _ _ h => h) (Or.inl ⟨by rfl, ?_⟩) (by assumption) ?_
  rotate_left 1
  · (intro w hSw; (try dsimp only at hSw); go_simp; (try with_reducible rfl))
  (try simp only [Act.put, List.setIfInBounds_toArray, List.set_cons_zero, List.set_cons_succ])
  refine wpAnyH_take (i := 13) (oi := ({ dst := some 67, op := Op.load 32 (Operand.tmp 66), type := 32, pos := "ref.go:24", after := #[{ on := 12, ground := Ground.data }], guard := none } : Oper)) (v := ?_) rfl (by kernel_rfl) (by kernel_rfl) (by kernel_rfl) (fun _ _ _ h => h) (Or.inl ⟨by rfl, ?_⟩) (by assumption) ?_
  rotate_left 1
  · (intro w hSw; (try dsimp only at hSw); go_simp; (try with_reducible rfl))
  (try simp only [Act.put, List.setIfInBounds_toArray, List.set_cons_zero, List.set_cons_succ])
  refine wpAnyH_take (i := 14) (oi := ({ dst := some 68, op := Op.binOp BinOp.add 32 (Operand.tmp 63) (Operand.tmp 67) 32, type := 32, pos := "ref.go:24", after := #[{ on := 9, ground := Ground.data }, { on := 13, ground := Ground.data }], guard := none } : Oper)) (v := ?_) rfl (by kernel_rfl) (by kernel_rfl) (by kernel_rfl) (fun _ _ _ h => h) (Or.inl ⟨by rfl, ?_⟩) (by assumption) ?_
  rotate_left 1
  · (intro w hSw; (try dsimp only at hSw); go_simp; (try with_reducible rfl))
  (try simp only [Act.put, List.setIfInBounds_toArray, List.set_cons_zero, List.set_cons_succ])
  refine wpAnyH_ready (rs := [15]) (by kernel_rfl) (by simp) ?_
  refine AllReadyH.cons (o := ({ dst := some 69, op := Op.call { callee := Callee.value (Operand.func 43), args := #[Operand.tmp 60, Operand.tmp 62, Operand.tmp 68], argTypes := #[34, 3, 32] }, type := 34, pos := "ref.go:24", after := #[{ on := 6, ground := Ground.data }, { on := 8, ground := Ground.data }, { on := 14, ground := Ground.data }], guard := none } : Oper)) rfl (fun K hK => ?_) ?_
  rotate_left 1
  · exact AllReadyH.nil
  go_simp
  go_at_call 43
  ((with_reducible refine (CS.out _).mono ?_); rintro e w3 ⟨rfl, hT⟩; have hb := Two.below hT; have HRr3 := Lib.hid (RgAt.below (show RgAt V.drew.drew w.heap.size 34 r from HRr9.out) hb (Blk.lt HRr9.out)); have HZ3 := Lib.hid (RgAt.below (show RgAt V.drew.drew (w.heap.size + 1) 34 zRg from HZ9.out) hb (Blk.lt HZ9.out)); have HP3 := Lib.hid (Blk.below (Blk.drew (Blk.drew HP9.out)) hb HP9.out.lt); have HA3 := Lib.hid (Blk.below (Blk.drew (Blk.drew HA9.out)) hb HA9.out.lt); have HM3 := Lib.hid (Blk.below (Blk.drew (Blk.drew HM9.out)) hb HM9.out.lt); have HB3 := Lib.hid (Below.trans0 (Below.drew0 (Below.drew0 HB9.out)) hb); have S1 : Hid ((fun w' => (w'.cell? ⟨w1.heap.size, 0, none⟩ = some (.int .i64 (k : Int)) ∧ w'.cell? ⟨w1.heap.size, 1, none⟩ = some (.int .i64 (poR b : Int))) ∧ (w'.cell? ⟨w.heap.size, 0, none⟩ = some (.int .u8 r.A) ∧ w'.cell? ⟨w.heap.size, 1, none⟩ = some (.int .u8 r.B) ∧ w'.cell? ⟨w.heap.size, 2, none⟩ = some (.int .u8 r.D) ∧ w'.cell? ⟨w.heap.size, 3, none⟩ = some (.int .u8 r.C) ∧ w'.cell? ⟨w.heap.size, 4, none⟩ = some (.int .u16 r.X) ∧ w'.cell? ⟨w.heap.size, 5, none⟩ = some (.int .u16 r.Y) ∧ w'.cell? ⟨w.heap.size, 6, none⟩ = some (.int .u16 r.U) ∧ w'.cell? ⟨w.heap.size, 7, none⟩ = some (.int .u16 r.S) ∧ w'.cell? ⟨w.heap.size, 8, none⟩ = some (.int .u16 r.P)) ∧ w'.cell? ⟨W.heap.size, k, none⟩ = some (.int .u16 ad) ∧ w'.cell? ⟨W.heap.size + 1, k, none⟩ = some (.int .u16 mv)) w3) := Lib.hid (HS.out _ HRr3.out HP3.out HA3.out HM3.out); clear hT hb tq1 tq2; obtain ⟨z0, z1, z2, z3, z4, z5, z6, z7, z8⟩ := HZ3.out.cells; obtain ⟨f0, f1, f2, f3, f4, f5, f6, f7, f8⟩ := HZ3.out.frz; have S2 : Hid (∀ q : Rg, (fun w' => (w'.cell? ⟨w1.heap.size, 0, none⟩ = some (.int .i64 (k : Int)) ∧ w'.cell? ⟨w1.heap.size, 1, none⟩ = some (.int .i64 (poR b : Int))) ∧ (w'.cell? ⟨w.heap.size, 0, none⟩ = some (.int .u8 r.A) ∧ w'.cell? ⟨w.heap.size, 1, none⟩ = some (.int .u8 r.B) ∧ w'.cell? ⟨w.heap.size, 2, none⟩ = some (.int .u8 r.D) ∧ w'.cell? ⟨w.heap.size, 3, none⟩ = some (.int .u8 r.C) ∧ w'.cell? ⟨w.heap.size, 4, none⟩ = some (.int .u16 r.X) ∧ w'.cell? ⟨w.heap.size, 5, none⟩ = some (.int .u16 r.Y) ∧ w'.cell? ⟨w.heap.size, 6, none⟩ = some (.int .u16 r.U) ∧ w'.cell? ⟨w.heap.size, 7, none⟩ = some (.int .u16 r.S) ∧ w'.cell? ⟨w.heap.size, 8, none⟩ = some (.int .u16 r.P)) ∧ w'.cell? ⟨W.heap.size, k, none⟩ = some (.int .u16 ad) ∧ w'.cell? ⟨W.heap.size + 1, k, none⟩ = some (.int .u16 mv)) (set9i w3 (w.heap.size + 1) q)) := Lib.hid (fun q => HS.out _ (set9i_far HRr3.out (by omega) q) (set9i_farB HP3.out (by have := LP.out; omega) q) (set9i_farB HA3.out (by have := LP.out; have := LW.out; omega) q) (set9i_farB HM3.out (by have := LP.out; have := LW.out; omega) q)))
  first | (refine hK.out _ _ ?_ (fun hH1 => ?_)) | (go_wp2_with fail; refine hK.out _ _ ?_ (fun hH1 => ?_))
  · (try dsimp only); with_reducible exact S1.out
  clear hK K hH0
  (try simp only [Act.put, List.setIfInBounds_toArray, List.set_cons_zero, List.set_cons_succ])
  refine wpAnyH_take (i := 16) (oi := ({ dst := some 8, op := Op.assign (Operand.tmp 59), type := 32, pos := "ref.go:24", after := #[{ on := 5, ground := Ground.data }, { on := 15, ground := Ground.chain }, { on := 0, ground := Ground.phase }, { on := 1, ground := Ground.phase }, { on := 2, ground := Ground.phase }, { on := 3, ground := Ground.phase }, { on := 4, ground := Ground.phase }, { on := 5, ground := Ground.phase }, { on := 6, ground := Ground.textOnly Departure.lateStores }, { on := 7, ground := Ground.textOnly Departure.lateStores }, { on := 8, ground := Ground.textOnly Departure.lateStores }, { on := 9, ground := Ground.textOnly Departure.lateStores }, { on := 10, ground := Ground.textOnly Departure.lateStores }, { on := 11, ground := Ground.textOnly Departure.lateStores }, { on := 12, ground := Ground.textOnly Departure.lateStores }, { on := 13, ground := Ground.textOnly Departure.lateStores }, { on := 14, ground := Ground.textOnly Departure.lateStores }, { on := 15, ground := Ground.textOnly Departure.lateStoresUnsure }], guard := none } : Oper)) (v := ?_) rfl (by kernel_rfl) (by kernel_rfl) (by kernel_rfl) (fun _ _ _ h => h) (Or.inl ⟨by rfl, ?_⟩) (by assumption) ?_
  rotate_left 1
  · (intro w hSw; (try dsimp only at hSw); go_simp; (try with_reducible rfl))
  (try simp only [Act.put, List.setIfInBounds_toArray, List.set_cons_zero, List.set_cons_succ])
  refine wpAnyH_ready (rs := [17]) (by kernel_rfl) (by simp) ?_
  refine AllReadyH.cons (o := ({ dst := none, op := Op.store 34 (Operand.tmp 9) (Operand.tmp 69), type := 0, pos := "ref.go:24", after := #[{ on := 15, ground := Ground.data }, { on := 16, ground := Ground.chain }, { on := 0, ground := Ground.phase }, { on := 1, ground := Ground.phase }, { on := 2, ground := Ground.phase }, { on := 3, ground := Ground.phase }, { on := 4, ground := Ground.phase }, { on := 5, ground := Ground.phase }, { on := 6, ground := Ground.phase }, { on := 7, ground := Ground.phase }, { on := 8, ground := Ground.phase }, { on := 9, ground := Ground.phase }, { on := 10, ground := Ground.phase }, { on := 11, ground := Ground.phase }, { on := 12, ground := Ground.phase }, { on := 13, ground := Ground.phase }, { on := 14, ground := Ground.phase }, { on := 15, ground := Ground.phase }, { on := 16, ground := Ground.phase }], guard := none } : Oper)) rfl (fun K hK => ?_) ?_
  rotate_left 1
  · exact AllReadyH.nil
  go_simp
  first | (refine hK.out _ _ ?_ (fun hH2 => ?_)) | (go_wp2_with fail; refine hK.out _ _ ?_ (fun hH2 => ?_))
  · (try dsimp only); with_reducible exact S2.out _
  clear hK K hH1
  (try simp only [Act.put, List.setIfInBounds_toArray, List.set_cons_zero, List.set_cons_succ])
  refine wpAnyH_done (by kernel_rfl) ?_ _
  refine NoPanic.normal ?_
  go_wp2
  exact bodyPost_ret (v := .tuple #[.int .u16 ((a + ad) % 65536), .agg (idR k (poR b) r).cells]) (resIdxB _ _ (w.heap.size + 1) _ (set9i_at HZ3.out _) rfl rfl _ rfl) rfl ⟨rfl, set9i_below HB3.out (by omega) _⟩
theorem ref20_any (b : Nat) (hb : b < 256) (r : Rg) (hr : r.Ok) (v n : Int) (v0 : 0 ≤ v) (v1 : v < 65536) (n0 : 0 ≤ n) (w : World) :
    Calls Tryd.prog 20 #[.int .u8 (b : Int), .agg r.cells, .int .u16 v, .int .u16 n] w fun e w' => e = .returned (.tuple #[.int .u16 (idA (poK b) (poR b) (poO b) v n r), .agg (idR (poK b) (poR b) r).cells]) ∧ Below w.heap.size w w' := by
  have hk := poK_lt b hb
  by_cases h : poK b < 11
  · exact ref20_low b hb _ rfl h r hr v n v0 v1 n0 w
  · rcases (show poK b = 11 ∨ poK b = 12 ∨ poK b = 13 by omega) with h | h | h
    · have C := ref20_11 b hb h r hr v n v0 v1 n0 w
      rw [h]; exact C
    · have C := ref20_12 b hb h r hr v n v0 v1 n0 w
      rw [h]; exact C
    · have C := ref20_13 b hb h r hr v n v0 v1 n0 w
      rw [h]; exact C
end Go.Proofs.YtoogaenknjdpcacDoor
