/- Records: contract of record.Read. -/
import Derived.Test.YtfjkbjkbpbnalaaRcU
import Derived.Test.YtfjkbjkbpbnalaaDigRead
import Derived.Laws.RangeString
import Derived.Deep.CutBlock
import Derived.Deep.CutRange
import Derived.Deep.DeepCutAuto
namespace Go.Proofs.Ytfjkbjkbpbnalaa
open Go.ChangeShapes Go.WideShapes Go.ChangeAt Go.RowKit
set_option linter.unusedVariables false

/-- A string's iterator stands elsewhere. -/
def itA (w : World) (g : Nat) (o : Obj) : World := { w with heap := w.heap.setIfInBounds g o }
theorem itA_at {w : World} {g : Nat} {o o' : Obj} (h : w.heap[g]? = some o) : (itA w g o').heap[g]? = some o' := by
  have : g < w.heap.size := by
    rcases Nat.lt_or_ge g w.heap.size with a | a
    · exact a
    · rw [Array.getElem?_eq_none a] at h; cases h
  simp [itA, this]
theorem itA_other (w : World) (g k : Nat) (o : Obj) (h : k ≠ g) : (itA w g o).heap[k]? = w.heap[k]? := by
  simp only [itA]
  rw [Array.getElem?_setIfInBounds_ne (Ne.symm h)]
theorem Blk.itFar {w : World} {g k : Nat} {t : TypeId} {cs : Array Value} {fr : Nat × Nat} (h : Blk w k t cs fr) (hk : k ≠ g) (o : Obj) : Blk (itA w g o) k t cs fr := (itA_other w g k o hk).trans h
theorem itA_below {B : Nat} {w0 w : World} (h : Below B w0 w) (g : Nat) (o : Obj) (hg : B ≤ g) : Below B w0 (itA w g o) :=
  h.trans ⟨rfl, rfl, rfl, by simp [itA], fun k hk => itA_other w g k o (by omega)⟩
theorem run_next_at {P : Program} (w : World) (g : Nat) (s : ByteArray) (pos : Nat) (ty : TypeId) (h : w.heap[g]? = some (.stringIter s pos)) (hp : pos < s.size) (ha : (s[pos]'hp).toNat < 128) :
    (Instr.next (.pointer (some ⟨g, 0, none⟩)) true ty).run P w = .ok (.tuple #[.bool true, .int .i64 pos, .int .i32 (s[pos]'hp).toNat]) (itA w g (.stringIter s (pos + 1))) := by
  simp only [Instr.next, getObj, setObj, Sem.run_bind, Sem.run, h, Result.andThen, hp, if_true, decode_ascii s pos hp ha]
  simp [goInt, itA]
theorem run_next_stop {P : Program} (w : World) (g : Nat) (s : ByteArray) (pos : Nat) (ty : TypeId) (h : w.heap[g]? = some (.stringIter s pos)) (hp : ¬ pos < s.size) :
    (Instr.next (.pointer (some ⟨g, 0, none⟩)) true ty).run P w = .ok (.tuple #[.bool false]) w := by
  simp [Instr.next, getObj, Sem.run, h, hp]
abbrev LET : ByteArray := ⟨#[65, 83, 76, 86, 66]⟩
/-- The record that a text of 17 signs tells, if it is one. -/
noncomputable def rdX (s : ByteArray) : Rc :=
  ⟨IntKind.u16.wrap (numV 16 16 (nums (s.extract 0 4))), IntKind.u8.wrap (numV 16 16 (nums (s.extract 5 7))), iat (nums s) 8 == 82, iat (nums s) 10 == 65, iat (nums s) 11 == 83, iat (nums s) 12 == 76, iat (nums s) 13 == 86, iat (nums s) 14 == 66, iat (nums s) 16 == 77⟩
theorem rdX_ok (s : ByteArray) : (rdX s).Ok := by
  constructor
  · show 0 ≤ IntKind.u16.wrap _; rw [IntKind.wrap_u16]; omega
  · show IntKind.u16.wrap _ < 65536; rw [IntKind.wrap_u16]; omega
  · show 0 ≤ IntKind.u8.wrap _; rw [IntKind.wrap_u8]; omega
  · show IntKind.u8.wrap _ < 256; rw [IntKind.wrap_u8]; omega
def rdL (xs : List Int) (k : Nat) : Array Value := #[.bool (iat xs 8 == 82), .bool (decide (0 < k) && iat xs 10 == 65), .bool (decide (1 < k) && iat xs 11 == 83), .bool (decide (2 < k) && iat xs 12 == 76), .bool (decide (3 < k) && iat xs 13 == 86), .bool (decide (4 < k) && iat xs 14 == 66), .bool (iat xs 16 == 77)]
theorem rdL_5 (s : ByteArray) : rdL (nums s) 5 = (rdX s).lv := by simp [rdL, rdX]
def RdPost (s : ByteArray) (X : Rc) (w : World) (e : Ending) (w' : World) : Prop := (e = .returned (.tuple #[.agg X.cells, .int .i64 0]) ∧ strOfNums (txN X) = s ∨ e = .returned (.tuple #[.agg #[.int .u16 0, .int .u8 0, .bool false, .bool false, .bool false, .bool false, .bool false, .bool false, .bool false], .int .i64 21]) ∧ strOfNums (txN X) ≠ s) ∧ Below w.heap.size w w'
theorem resRd (tmps : Array Value) (W : World) (g : Nat) (cs : Array Value) (h : Blk W g 37 cs) (hc : cs.size = 9) (h2 : tmps.getD 2 undef = .pointer (some ⟨g, 0, none⟩)) (a : Int) (h3 : tmps.getD 3 undef = .int .i64 a) :
    (results Try.f17 tmps).run Try.prog W = .ok (.tuple #[.agg cs, .int .i64 a]) W := by
  have hi : (Try.prog.info? 37).map (·.size) = some cs.size := by rw [hc]; kernel_rfl
  have hld := run_loadVar_row (P := Try.prog) W g 37 37 cs (0, 0) _ h Try.underlying37 rfl hi
  have h2' : tmps[2]?.getD undef = .pointer (some ⟨g, 0, none⟩) := by simpa using h2
  have h3' : tmps[3]?.getD undef = .int .i64 a := by simpa using h3
  simp [results, Try.results17, h2', h3', asAddr, hld]
set_option maxRecDepth 100000 in
set_option maxHeartbeats 1000000 in
theorem rcRead_go (s : ByteArray) (hs : s.size = 17) (w : World) :
    Calls Try.prog 17 #[.string s] w (RdPost s (rdX s) w) := by
  have C4 := Lib.hid (fun w => readHex_any (s.extract 0 4) w (by unfold maxLen; simp; omega))
  have C7 := Lib.hid (fun w => readHex_any (s.extract 5 7) w (by unfold maxLen; simp; omega))
  have h4 : ∀ w, (Instr.slice 9 (.string s) none (some (.int .i64 4)) none).run Try.prog w = .ok (.string (s.extract 0 4)) w := fun w => run_slice_string_h w 9 s Try.underlying9 .i64 4 (by decide) (by omega)
  have h7 : ∀ w, (Instr.slice 9 (.string s) (some (.int .i64 5)) (some (.int .i64 7)) none).run Try.prog w = .ok (.string (s.extract 5 7)) w := fun w => by
    rw [run_slice_string w 9 s .i64 .i64 _ _ Try.underlying9 (by omega) (by omega) (by omega)]; rfl
  have g8 : ((s[8]'(by omega)).toNat : Int) = iat (nums s) 8 := get_nums s 8 (by omega)
  have g16 : ((s[16]'(by omega)).toNat : Int) = iat (nums s) 16 := get_nums s 16 (by omega)
  have G := Lib.hid (get_nums s)
  have HS := Lib.hid hs
  obtain ⟨X, hX⟩ : ∃ X, rdX s = X := ⟨_, rfl⟩
  have hxa : IntKind.u16.wrap (numV 16 16 (nums (s.extract 0 4))) = X.a := by rw [← hX]; rfl
  have hxd : IntKind.u8.wrap (numV 16 16 (nums (s.extract 5 7))) = X.d := by rw [← hX]; rfl
  have XA := Lib.hid hxa
  have XD := Lib.hid hxd
  have XL := Lib.hid (show rdL (nums s) 5 = X.lv by rw [← hX]; exact rdL_5 s)
  have CR := Lib.hid (fun u => rcRec_any X u)
  have CT := Lib.hid (fun u => rcText_any X (by rw [← hX]; exact rdX_ok s) u)
  rw [hX]
  clear hX hxa hxd
  go_enter Try.func17, Try.ntmps17
  go_wp2_with (first
    | (go_at_call 52; ((with_reducible refine (C4.out _).mono ?_); rintro e w' ⟨rfl, rfl⟩))
    | (go_at_call 52; ((with_reducible refine (C7.out _).mono ?_); rintro e w' ⟨rfl, rfl⟩)))
  refine wp_region_noPanic ?_
  refine wp_region_held_drew (S := (fun _ => True)) (by kernel_rfl) ?_ (fun hH0 => ?_)
  · trivial
  refine wpAnyH_take (i := 0) (oi := ({ dst := some 27, op := Op.move (Operand.tmp 0), type := 9, pos := "record.go:93", after := #[], guard := none } : Oper)) (v := ?_) rfl (by kernel_rfl) (by kernel_rfl) (by kernel_rfl) (fun _ _ _ h => h) (Or.inl ⟨by rfl, ?_⟩) (by assumption) ?_
  rotate_left 1
  · (intro w hSw; (try dsimp only at hSw); go_simp; (try with_reducible rfl))
  (try simp only [Act.put, List.setIfInBounds_toArray, List.set_cons_zero, List.set_cons_succ])
  refine wpAnyH_take (i := 1) (oi := ({ dst := some 28, op := Op.index 9 (Operand.tmp 27) (Operand.const (Value.int IntKind.i64 8)), type := 5, pos := "record.go:93", after := #[{ on := 0, ground := Ground.data }], guard := none } : Oper)) (v := ?_) rfl (by kernel_rfl) (by kernel_rfl) (by kernel_rfl) (fun _ _ _ h => h) (Or.inl ⟨by rfl, ?_⟩) (by assumption) ?_
  rotate_left 1
  · (intro w hSw; (try dsimp only at hSw); go_simp; (try with_reducible rfl))
  (try simp only [Act.put, List.setIfInBounds_toArray, List.set_cons_zero, List.set_cons_succ])
  refine wpAnyH_take (i := 2) (oi := ({ dst := some 29, op := Op.binOp BinOp.eql 5 (Operand.tmp 28) (Operand.const (Value.int IntKind.u8 82)) 5, type := 4, pos := "record.go:93", after := #[{ on := 1, ground := Ground.data }], guard := none } : Oper)) (v := ?_) rfl (by kernel_rfl) (by kernel_rfl) (by kernel_rfl) (fun _ _ _ h => h) (Or.inl ⟨by rfl, ?_⟩) (by assumption) ?_
  rotate_left 1
  · (intro w hSw; (try dsimp only at hSw); go_simp; (try with_reducible rfl))
  (try simp only [Act.put, List.setIfInBounds_toArray, List.set_cons_zero, List.set_cons_succ])
  refine wpAnyH_take (i := 3) (oi := ({ dst := some 30, op := Op.move (Operand.tmp 0), type := 9, pos := "record.go:93", after := #[], guard := none } : Oper)) (v := ?_) rfl (by kernel_rfl) (by kernel_rfl) (by kernel_rfl) (fun _ _ _ h => h) (Or.inl ⟨by rfl, ?_⟩) (by assumption) ?_
  rotate_left 1
  · (intro w hSw; (try dsimp only at hSw); go_simp; (try with_reducible rfl))
  (try simp only [Act.put, List.setIfInBounds_toArray, List.set_cons_zero, List.set_cons_succ])
  refine wpAnyH_take (i := 4) (oi := ({ dst := some 31, op := Op.index 9 (Operand.tmp 30) (Operand.const (Value.int IntKind.i64 16)), type := 5, pos := "record.go:93", after := #[{ on := 3, ground := Ground.data }], guard := none } : Oper)) (v := ?_) rfl (by kernel_rfl) (by kernel_rfl) (by kernel_rfl) (fun _ _ _ h => h) (Or.inl ⟨by rfl, ?_⟩) (by assumption) ?_
  rotate_left 1
  · (intro w hSw; (try dsimp only at hSw); go_simp; (try with_reducible rfl))
  (try simp only [Act.put, List.setIfInBounds_toArray, List.set_cons_zero, List.set_cons_succ])
  refine wpAnyH_take (i := 5) (oi := ({ dst := some 32, op := Op.binOp BinOp.eql 5 (Operand.tmp 31) (Operand.const (Value.int IntKind.u8 77)) 5, type := 4, pos := "record.go:93", after := #[{ on := 4, ground := Ground.data }], guard := none } : Oper)) (v := ?_) rfl (by kernel_rfl) (by kernel_rfl) (by kernel_rfl) (fun _ _ _ h => h) (Or.inl ⟨by rfl, ?_⟩) (by assumption) ?_
  rotate_left 1
  · (intro w hSw; (try dsimp only at hSw); go_simp; (try with_reducible rfl))
  (try simp only [Act.put, List.setIfInBounds_toArray, List.set_cons_zero, List.set_cons_succ])
  refine wpAnyH_take (i := 6) (oi := ({ dst := some 33, op := Op.build 84 #[(0, Operand.tmp 29), (6, Operand.tmp 32)], type := 84, pos := "record.go:93", after := #[{ on := 2, ground := Ground.data }, { on := 5, ground := Ground.data }], guard := none } : Oper)) (v := ?_) rfl (by kernel_rfl) (by kernel_rfl) (by kernel_rfl) (fun _ _ _ h => h) (Or.inl ⟨by rfl, ?_⟩) (by assumption) ?_
  rotate_left 1
  · (intro w hSw; (try dsimp only at hSw); go_simp; (try with_reducible rfl))
  (try simp only [Act.put, List.setIfInBounds_toArray, List.set_cons_zero, List.set_cons_succ])
  refine wpAnyH_ready (rs := [7]) (by kernel_rfl) (by simp) ?_
  refine AllReadyH.cons (o := ({ dst := some 8, op := Op.alloc 84, type := 0, pos := "record.go:93", after := #[], guard := none } : Oper)) rfl (fun K hK => ?_) ?_
  rotate_left 1
  · exact AllReadyH.nil
  go_simp
  first | (refine hK.out _ _ ?_ (fun hH1 => ?_)) | (go_wp2_with fail; refine hK.out _ _ ?_ (fun hH1 => ?_))
  · trivial
  clear hK K hH0
  (try simp only [Act.put, List.setIfInBounds_toArray, List.set_cons_zero, List.set_cons_succ])
  refine wpAnyH_ready (rs := [8]) (by kernel_rfl) (by simp) ?_
  refine AllReadyH.cons (o := ({ dst := none, op := Op.store 84 (Operand.tmp 8) (Operand.tmp 33), type := 0, pos := "record.go:93", after := #[{ on := 7, ground := Ground.data }, { on := 6, ground := Ground.data }, { on := 0, ground := Ground.phase }, { on := 1, ground := Ground.phase }, { on := 2, ground := Ground.phase }, { on := 3, ground := Ground.phase }, { on := 4, ground := Ground.phase }, { on := 5, ground := Ground.phase }, { on := 6, ground := Ground.phase }, { on := 7, ground := Ground.phase }], guard := none } : Oper)) rfl (fun K hK => ?_) ?_
  rotate_left 1
  · exact AllReadyH.nil
  go_simp
  first | (refine hK.out _ _ ?_ (fun hH2 => ?_)) | (go_wp2_with fail; refine hK.out _ _ ?_ (fun hH2 => ?_))
  · trivial
  clear hK K hH1
  (try simp only [Act.put, List.setIfInBounds_toArray, List.set_cons_zero, List.set_cons_succ])
  refine wpAnyH_done (by kernel_rfl) ?_ _
  refine NoPanic.normal ?_
  clear g8 g16 h4 h7
  -- THE LOOP
  have A0 : Hid (((w.alloc (Obj.cells #[.int .u16 0, .int .u8 0, .bool false, .bool false, .bool false, .bool false, .bool false, .bool false, .bool false] 37)).alloc (Obj.cells #[.bool (iat (nums s) 8 == 82), .bool false, .bool false, .bool false, .bool false, .bool false, .bool (iat (nums s) 16 == 77)] 84)).drew.heap.size = w.heap.size + 1 + 1) := Lib.hid (by
    show ((w.alloc _).alloc _).heap.size = _
    simp)
  have L0 : Hid (Blk ((w.alloc (Obj.cells #[.int .u16 0, .int .u8 0, .bool false, .bool false, .bool false, .bool false, .bool false, .bool false, .bool false] 37)).alloc (Obj.cells #[.bool (iat (nums s) 8 == 82), .bool false, .bool false, .bool false, .bool false, .bool false, .bool (iat (nums s) 16 == 77)] 84)).drew (w.heap.size + 1) 84 (rdL (nums s) 0)) := Lib.hid (Blk.drew (Blk.at1 _))
  have Z0 : Hid (Blk ((w.alloc (Obj.cells #[.int .u16 0, .int .u8 0, .bool false, .bool false, .bool false, .bool false, .bool false, .bool false, .bool false] 37)).alloc (Obj.cells #[.bool (iat (nums s) 8 == 82), .bool false, .bool false, .bool false, .bool false, .bool false, .bool (iat (nums s) 16 == 77)] 84)).drew w.heap.size 37 #[.int .u16 0, .int .u8 0, .bool false, .bool false, .bool false, .bool false, .bool false, .bool false, .bool false]) := Lib.hid (Blk.drew (Blk.alloc (Blk.new _ _ _ (0, 0)) _))
  have B0 : Hid (Below w.heap.size w ((w.alloc (Obj.cells #[.int .u16 0, .int .u8 0, .bool false, .bool false, .bool false, .bool false, .bool false, .bool false, .bool false] 37)).alloc (Obj.cells #[.bool (iat (nums s) 8 == 82), .bool false, .bool false, .bool false, .bool false, .bool false, .bool (iat (nums s) 16 == 77)] 84)).drew) := Lib.hid (Below.drew0 (Below.alloc0 (Below.alloc0 (Below.refl _ _) _) _))
  clear hs C4 C7
  go_wp2
  go_loopw [] (fun wr => ∃ k : Nat, k ≤ 5 ∧ Hid (wr.heap[w.heap.size + 1 + 1]? = some (.stringIter LET k)) ∧ Hid (Blk wr (w.heap.size + 1) 84 (rdL (nums s) k)) ∧ Hid (Blk wr w.heap.size 37 #[.int .u16 0, .int .u8 0, .bool false, .bool false, .bool false, .bool false, .bool false, .bool false, .bool false]) ∧ Hid (Below w.heap.size w wr)) (fun wr => match wr.heap[w.heap.size + 1 + 1]? with | some (.stringIter _ p) => 6 - p | _ => 0)
  case atStart =>
    refine ⟨0, by decide, Lib.hid ?_, Lib.hid (Blk.alloc L0.out _), Lib.hid (Blk.alloc Z0.out _), Lib.hid (Below.alloc0 B0.out _)⟩
    have := World.iter_heap ((w.alloc (Obj.cells #[.int .u16 0, .int .u8 0, .bool false, .bool false, .bool false, .bool false, .bool false, .bool false, .bool false] 37)).alloc (Obj.cells #[.bool (iat (nums s) 8 == 82), .bool false, .bool false, .bool false, .bool false, .bool false, .bool (iat (nums s) 16 == 77)] 84)).drew LET 0
    rw [A0.out] at this
    exact this
  case round =>
    obtain ⟨k, hk, hI, hL, hZ, hB⟩ := hrel
    rcases (show k = 0 ∨ k = 1 ∨ k = 2 ∨ k = 3 ∨ k = 4 ∨ k = 5 by omega) with rfl | rfl | rfl | rfl | rfl | rfl
    · have hn : ∀ ty, (Instr.next (.pointer (some ⟨w.heap.size + 1 + 1, 0, none⟩)) true ty).run Try.prog wr = .ok (.tuple #[.bool true, .int .i64 0, .int .i32 65]) (itA wr (w.heap.size + 1 + 1) (.stringIter LET 1)) := fun ty => run_next_at wr (w.heap.size + 1 + 1) LET 0 ty hI.out (by decide) (by decide)
      have HI1 := Lib.hid (itA_at (o' := .stringIter LET 1) hI.out)
      have HL1 := Lib.hid (Blk.itFar hL.out (show w.heap.size + 1 ≠ w.heap.size + 1 + 1 by omega) (.stringIter LET 1))
      have HZ1 := Lib.hid (Blk.itFar hZ.out (show w.heap.size ≠ w.heap.size + 1 + 1 by omega) (.stringIter LET 1))
      have HB1 := Lib.hid (itA_below hB.out (w.heap.size + 1 + 1) (.stringIter LET 1) (by omega))
      have gk : ((s[10]'(by rw [HS.out]; decide)).toNat : Int) = iat (nums s) 10 := G.out 10 (by rw [HS.out]; decide)
      have hs := HS.out
      have q1 : IntKind.i64.wrap 10 = 10 := by decide
      have q2 : IntKind.i64.wrap 1 = 1 := by decide
      have q3 : (((⟨#[65, 83, 76, 86, 66]⟩ : ByteArray)[0]'(by decide)).toNat : Int) = 65 := by decide
      have ME := Lib.hid (show (match wr.heap[w.heap.size + 1 + 1]? with | some (.stringIter _ p) => 6 - p | _ => 0) = 6 - 0 by rw [hI.out])
      go_upto_region 9 with (fail)
      clear hn
      generalize itA wr _ _ = u at HI1 HL1 HZ1 HB1 ⊢
      have c : u.cell? ⟨w.heap.size + 1, 1, none⟩ = some (.bool false) := by rw [HL1.out.cell]; rfl
      have f : u.frozen? ⟨w.heap.size + 1, 1, none⟩ = false := HL1.out.frozen _
      refine wp_region_noPanic ?_
      refine wp_region_held_drew (S := (fun _ => True)) (by kernel_rfl) ?_ (fun hH0 => ?_)
      · trivial
      refine wpAnyH_take (i := 0) (oi := ({ dst := some 38, op := Op.move (Operand.tmp 9), type := 3, pos := "record.go:95", after := #[], guard := none } : Oper)) (v := ?_) rfl (by kernel_rfl) (by kernel_rfl) (by kernel_rfl) (fun _ _ _ h => h) (Or.inl ⟨by rfl, ?_⟩) (by assumption) ?_
      rotate_left 1
      · (intro w hSw; (try dsimp only at hSw); go_simp; (try with_reducible rfl))
      (try simp only [Act.put, List.setIfInBounds_toArray, List.set_cons_zero, List.set_cons_succ])
      refine wpAnyH_take (i := 1) (oi := ({ dst := some 39, op := Op.binOp BinOp.add 3 (Operand.const (Value.int IntKind.i64 1)) (Operand.tmp 38) 3, type := 3, pos := "record.go:95", after := #[{ on := 0, ground := Ground.data }], guard := none } : Oper)) (v := ?_) rfl (by kernel_rfl) (by kernel_rfl) (by kernel_rfl) (fun _ _ _ h => h) (Or.inl ⟨by rfl, ?_⟩) (by assumption) ?_
      rotate_left 1
      · (intro w hSw; (try dsimp only at hSw); go_simp; (try with_reducible rfl))
      (try simp only [Act.put, List.setIfInBounds_toArray, List.set_cons_zero, List.set_cons_succ])
      refine wpAnyH_take (i := 2) (oi := ({ dst := some 40, op := Op.move (Operand.tmp 0), type := 9, pos := "record.go:95", after := #[], guard := none } : Oper)) (v := ?_) rfl (by kernel_rfl) (by kernel_rfl) (by kernel_rfl) (fun _ _ _ h => h) (Or.inl ⟨by rfl, ?_⟩) (by assumption) ?_
      rotate_left 1
      · (intro w hSw; (try dsimp only at hSw); go_simp; (try with_reducible rfl))
      (try simp only [Act.put, List.setIfInBounds_toArray, List.set_cons_zero, List.set_cons_succ])
      refine wpAnyH_take (i := 3) (oi := ({ dst := some 41, op := Op.move (Operand.tmp 9), type := 3, pos := "record.go:95", after := #[], guard := none } : Oper)) (v := ?_) rfl (by kernel_rfl) (by kernel_rfl) (by kernel_rfl) (fun _ _ _ h => h) (Or.inl ⟨by rfl, ?_⟩) (by assumption) ?_
      rotate_left 1
      · (intro w hSw; (try dsimp only at hSw); go_simp; (try with_reducible rfl))
      (try simp only [Act.put, List.setIfInBounds_toArray, List.set_cons_zero, List.set_cons_succ])
      refine wpAnyH_take (i := 4) (oi := ({ dst := some 42, op := Op.binOp BinOp.add 3 (Operand.const (Value.int IntKind.i64 10)) (Operand.tmp 41) 3, type := 3, pos := "record.go:95", after := #[{ on := 3, ground := Ground.data }], guard := none } : Oper)) (v := ?_) rfl (by kernel_rfl) (by kernel_rfl) (by kernel_rfl) (fun _ _ _ h => h) (Or.inl ⟨by rfl, ?_⟩) (by assumption) ?_
      rotate_left 1
      · (intro w hSw; (try dsimp only at hSw); go_simp; (try with_reducible rfl))
      (try simp only [Act.put, List.setIfInBounds_toArray, List.set_cons_zero, List.set_cons_succ])
      refine wpAnyH_take (i := 5) (oi := ({ dst := some 43, op := Op.index 9 (Operand.tmp 40) (Operand.tmp 42), type := 5, pos := "record.go:95", after := #[{ on := 2, ground := Ground.data }, { on := 4, ground := Ground.data }], guard := none } : Oper)) (v := ?_) rfl (by kernel_rfl) (by kernel_rfl) (by kernel_rfl) (fun _ _ _ h => h) (Or.inl ⟨by rfl, ?_⟩) (by assumption) ?_
      rotate_left 1
      · (intro w hSw; (try dsimp only at hSw); go_simp; (try with_reducible rfl))
      (try simp only [Act.put, List.setIfInBounds_toArray, List.set_cons_zero, List.set_cons_succ])
      refine wpAnyH_take (i := 6) (oi := ({ dst := some 44, op := Op.move (Operand.tmp 9), type := 3, pos := "record.go:95", after := #[], guard := none } : Oper)) (v := ?_) rfl (by kernel_rfl) (by kernel_rfl) (by kernel_rfl) (fun _ _ _ h => h) (Or.inl ⟨by rfl, ?_⟩) (by assumption) ?_
      rotate_left 1
      · (intro w hSw; (try dsimp only at hSw); go_simp; (try with_reducible rfl))
      (try simp only [Act.put, List.setIfInBounds_toArray, List.set_cons_zero, List.set_cons_succ])
      refine wpAnyH_take (i := 7) (oi := ({ dst := some 45, op := Op.index 9 (Operand.const (Value.string { data := #[65, 83, 76, 86, 66] })) (Operand.tmp 44), type := 5, pos := "record.go:95", after := #[{ on := 6, ground := Ground.data }], guard := none } : Oper)) (v := ?_) rfl (by kernel_rfl) (by kernel_rfl) (by kernel_rfl) (fun _ _ _ h => h) (Or.inl ⟨by rfl, ?_⟩) (by assumption) ?_
      rotate_left 1
      · (intro w hSw; (try dsimp only at hSw); go_simp; (try with_reducible rfl))
      (try simp only [Act.put, List.setIfInBounds_toArray, List.set_cons_zero, List.set_cons_succ])
      refine wpAnyH_take (i := 8) (oi := ({ dst := some 46, op := Op.binOp BinOp.eql 5 (Operand.tmp 43) (Operand.tmp 45) 5, type := 4, pos := "record.go:95", after := #[{ on := 5, ground := Ground.data }, { on := 7, ground := Ground.data }], guard := none } : Oper)) (v := ?_) rfl (by kernel_rfl) (by kernel_rfl) (by kernel_rfl) (fun _ _ _ h => h) (Or.inl ⟨by rfl, ?_⟩) (by assumption) ?_
      rotate_left 1
      · (intro w hSw; (try dsimp only at hSw); go_simp; (try with_reducible rfl))
      (try simp only [Act.put, List.setIfInBounds_toArray, List.set_cons_zero, List.set_cons_succ])
      refine wpAnyH_take (i := 9) (oi := ({ dst := some 47, op := Op.indexAddr 84 (Operand.tmp 8) (Operand.tmp 39), type := 0, pos := "record.go:95", after := #[{ on := 1, ground := Ground.data }, { on := 0, ground := Ground.phase }, { on := 1, ground := Ground.phase }, { on := 2, ground := Ground.phase }, { on := 3, ground := Ground.phase }, { on := 4, ground := Ground.phase }, { on := 5, ground := Ground.phase }, { on := 6, ground := Ground.phase }, { on := 7, ground := Ground.phase }, { on := 8, ground := Ground.phase }], guard := none } : Oper)) (v := ?_) rfl (by kernel_rfl) (by kernel_rfl) (by kernel_rfl) (fun _ _ _ h => h) (Or.inl ⟨by rfl, ?_⟩) (by assumption) ?_
      rotate_left 1
      · (intro w hSw; (try dsimp only at hSw); go_simp; (try with_reducible rfl))
      (try simp only [Act.put, List.setIfInBounds_toArray, List.set_cons_zero, List.set_cons_succ])
      refine wpAnyH_ready (rs := [10]) (by kernel_rfl) (by simp) ?_
      refine AllReadyH.cons (o := ({ dst := none, op := Op.store 4 (Operand.tmp 47) (Operand.tmp 46), type := 0, pos := "record.go:95", after := #[{ on := 9, ground := Ground.data }, { on := 8, ground := Ground.data }, { on := 0, ground := Ground.phase }, { on := 1, ground := Ground.phase }, { on := 2, ground := Ground.phase }, { on := 3, ground := Ground.phase }, { on := 4, ground := Ground.phase }, { on := 5, ground := Ground.phase }, { on := 6, ground := Ground.phase }, { on := 7, ground := Ground.phase }, { on := 8, ground := Ground.phase }], guard := none } : Oper)) rfl (fun K hK => ?_) ?_
      rotate_left 1
      · exact AllReadyH.nil
      go_simp
      first | (refine hK.out _ _ ?_ (fun hH1 => ?_)) | (go_wp2_with fail; refine hK.out _ _ ?_ (fun hH1 => ?_))
      · trivial
      clear hK K hH0
      (try simp only [Act.put, List.setIfInBounds_toArray, List.set_cons_zero, List.set_cons_succ])
      refine wpAnyH_done (by kernel_rfl) ?_ _
      refine NoPanic.normal ?_
      clear gk hs c f q1 q2 q3
      have HL2 : Hid (Blk (u.setCell ⟨w.heap.size + 1, 1, none⟩ (.bool (iat (nums s) 10 == 65))).drew (w.heap.size + 1) 84 (rdL (nums s) 1)) := Lib.hid (Blk.set_ HL1.out 1 _)
      have HI2 : Hid ((u.setCell ⟨w.heap.size + 1, 1, none⟩ (.bool (iat (nums s) 10 == 65))).drew.heap[w.heap.size + 1 + 1]? = some (.stringIter LET 1)) := Lib.hid ((Below.heap_setCell u ⟨w.heap.size + 1, 1, none⟩ _ (w.heap.size + 1 + 1) (by simp)).trans HI1.out)
      go_wp2
      go_roundw
      case rel => exact ⟨1, by decide, HI2, HL2, Lib.hid (Blk.drew (Blk.far HZ1.out (by simp) _)), Lib.hid (Below.drew0 (Below.set0 HB1.out (by omega) _))⟩
      case measure => rw [HI2.out, ME.out]; decide
    · have hn : ∀ ty, (Instr.next (.pointer (some ⟨w.heap.size + 1 + 1, 0, none⟩)) true ty).run Try.prog wr = .ok (.tuple #[.bool true, .int .i64 1, .int .i32 83]) (itA wr (w.heap.size + 1 + 1) (.stringIter LET 2)) := fun ty => run_next_at wr (w.heap.size + 1 + 1) LET 1 ty hI.out (by decide) (by decide)
      have HI1 := Lib.hid (itA_at (o' := .stringIter LET 2) hI.out)
      have HL1 := Lib.hid (Blk.itFar hL.out (show w.heap.size + 1 ≠ w.heap.size + 1 + 1 by omega) (.stringIter LET 2))
      have HZ1 := Lib.hid (Blk.itFar hZ.out (show w.heap.size ≠ w.heap.size + 1 + 1 by omega) (.stringIter LET 2))
      have HB1 := Lib.hid (itA_below hB.out (w.heap.size + 1 + 1) (.stringIter LET 2) (by omega))
      have gk : ((s[11]'(by rw [HS.out]; decide)).toNat : Int) = iat (nums s) 11 := G.out 11 (by rw [HS.out]; decide)
      have hs := HS.out
      have q1 : IntKind.i64.wrap 11 = 11 := by decide
      have q2 : IntKind.i64.wrap 2 = 2 := by decide
      have q3 : (((⟨#[65, 83, 76, 86, 66]⟩ : ByteArray)[1]'(by decide)).toNat : Int) = 83 := by decide
      have ME := Lib.hid (show (match wr.heap[w.heap.size + 1 + 1]? with | some (.stringIter _ p) => 6 - p | _ => 0) = 6 - 1 by rw [hI.out])
      go_upto_region 9 with (fail)
      clear hn
      generalize itA wr _ _ = u at HI1 HL1 HZ1 HB1 ⊢
      have c : u.cell? ⟨w.heap.size + 1, 2, none⟩ = some (.bool false) := by rw [HL1.out.cell]; rfl
      have f : u.frozen? ⟨w.heap.size + 1, 2, none⟩ = false := HL1.out.frozen _
      refine wp_region_noPanic ?_
      refine wp_region_held_drew (S := (fun _ => True)) (by kernel_rfl) ?_ (fun hH0 => ?_)
      · trivial
      refine wpAnyH_take (i := 0) (oi := ({ dst := some 38, op := Op.move (Operand.tmp 9), type := 3, pos := "record.go:95", after := #[], guard := none } : Oper)) (v := ?_) rfl (by kernel_rfl) (by kernel_rfl) (by kernel_rfl) (fun _ _ _ h => h) (Or.inl ⟨by rfl, ?_⟩) (by assumption) ?_
      rotate_left 1
      · (intro w hSw; (try dsimp only at hSw); go_simp; (try with_reducible rfl))
      (try simp only [Act.put, List.setIfInBounds_toArray, List.set_cons_zero, List.set_cons_succ])
      refine wpAnyH_take (i := 1) (oi := ({ dst := some 39, op := Op.binOp BinOp.add 3 (Operand.const (Value.int IntKind.i64 1)) (Operand.tmp 38) 3, type := 3, pos := "record.go:95", after := #[{ on := 0, ground := Ground.data }], guard := none } : Oper)) (v := ?_) rfl (by kernel_rfl) (by kernel_rfl) (by kernel_rfl) (fun _ _ _ h => h) (Or.inl ⟨by rfl, ?_⟩) (by assumption) ?_
      rotate_left 1
      · (intro w hSw; (try dsimp only at hSw); go_simp; (try with_reducible rfl))
      (try simp only [Act.put, List.setIfInBounds_toArray, List.set_cons_zero, List.set_cons_succ])
      refine wpAnyH_take (i := 2) (oi := ({ dst := some 40, op := Op.move (Operand.tmp 0), type := 9, pos := "record.go:95", after := #[], guard := none } : Oper)) (v := ?_) rfl (by kernel_rfl) (by kernel_rfl) (by kernel_rfl) (fun _ _ _ h => h) (Or.inl ⟨by rfl, ?_⟩) (by assumption) ?_
      rotate_left 1
      · (intro w hSw; (try dsimp only at hSw); go_simp; (try with_reducible rfl))
      (try simp only [Act.put, List.setIfInBounds_toArray, List.set_cons_zero, List.set_cons_succ])
      refine wpAnyH_take (i := 3) (oi := ({ dst := some 41, op := Op.move (Operand.tmp 9), type := 3, pos := "record.go:95", after := #[], guard := none } : Oper)) (v := ?_) rfl (by kernel_rfl) (by kernel_rfl) (by kernel_rfl) (fun _ _ _ h => h) (Or.inl ⟨by rfl, ?_⟩) (by assumption) ?_
      rotate_left 1
      · (intro w hSw; (try dsimp only at hSw); go_simp; (try with_reducible rfl))
      (try simp only [Act.put, List.setIfInBounds_toArray, List.set_cons_zero, List.set_cons_succ])
      refine wpAnyH_take (i := 4) (oi := ({ dst := some 42, op := Op.binOp BinOp.add 3 (Operand.const (Value.int IntKind.i64 10)) (Operand.tmp 41) 3, type := 3, pos := "record.go:95", after := #[{ on := 3, ground := Ground.data }], guard := none } : Oper)) (v := ?_) rfl (by kernel_rfl) (by kernel_rfl) (by kernel_rfl) (fun _ _ _ h => h) (Or.inl ⟨by rfl, ?_⟩) (by assumption) ?_
      rotate_left 1
      · (intro w hSw; (try dsimp only at hSw); go_simp; (try with_reducible rfl))
      (try simp only [Act.put, List.setIfInBounds_toArray, List.set_cons_zero, List.set_cons_succ])
      refine wpAnyH_take (i := 5) (oi := ({ dst := some 43, op := Op.index 9 (Operand.tmp 40) (Operand.tmp 42), type := 5, pos := "record.go:95", after := #[{ on := 2, ground := Ground.data }, { on := 4, ground := Ground.data }], guard := none } : Oper)) (v := ?_) rfl (by kernel_rfl) (by kernel_rfl) (by kernel_rfl) (fun _ _ _ h => h) (Or.inl ⟨by rfl, ?_⟩) (by assumption) ?_
      rotate_left 1
      · (intro w hSw; (try dsimp only at hSw); go_simp; (try with_reducible rfl))
      (try simp only [Act.put, List.setIfInBounds_toArray, List.set_cons_zero, List.set_cons_succ])
      refine wpAnyH_take (i := 6) (oi := ({ dst := some 44, op := Op.move (Operand.tmp 9), type := 3, pos := "record.go:95", after := #[], guard := none } : Oper)) (v := ?_) rfl (by kernel_rfl) (by kernel_rfl) (by kernel_rfl) (fun _ _ _ h => h) (Or.inl ⟨by rfl, ?_⟩) (by assumption) ?_
      rotate_left 1
      · (intro w hSw; (try dsimp only at hSw); go_simp; (try with_reducible rfl))
      (try simp only [Act.put, List.setIfInBounds_toArray, List.set_cons_zero, List.set_cons_succ])
      refine wpAnyH_take (i := 7) (oi := ({ dst := some 45, op := Op.index 9 (Operand.const (Value.string { data := #[65, 83, 76, 86, 66] })) (Operand.tmp 44), type := 5, pos := "record.go:95", after := #[{ on := 6, ground := Ground.data }], guard := none } : Oper)) (v := ?_) rfl (by kernel_rfl) (by kernel_rfl) (by kernel_rfl) (fun _ _ _ h => h) (Or.inl ⟨by rfl, ?_⟩) (by assumption) ?_
      rotate_left 1
      · (intro w hSw; (try dsimp only at hSw); go_simp; (try with_reducible rfl))
      (try simp only [Act.put, List.setIfInBounds_toArray, List.set_cons_zero, List.set_cons_succ])
      refine wpAnyH_take (i := 8) (oi := ({ dst := some 46, op := Op.binOp BinOp.eql 5 (Operand.tmp 43) (Operand.tmp 45) 5, type := 4, pos := "record.go:95", after := #[{ on := 5, ground := Ground.data }, { on := 7, ground := Ground.data }], guard := none } : Oper)) (v := ?_) rfl (by kernel_rfl) (by kernel_rfl) (by kernel_rfl) (fun _ _ _ h => h) (Or.inl ⟨by rfl, ?_⟩) (by assumption) ?_
      rotate_left 1
      · (intro w hSw; (try dsimp only at hSw); go_simp; (try with_reducible rfl))
      (try simp only [Act.put, List.setIfInBounds_toArray, List.set_cons_zero, List.set_cons_succ])
      refine wpAnyH_take (i := 9) (oi := ({ dst := some 47, op := Op.indexAddr 84 (Operand.tmp 8) (Operand.tmp 39), type := 0, pos := "record.go:95", after := #[{ on := 1, ground := Ground.data }, { on := 0, ground := Ground.phase }, { on := 1, ground := Ground.phase }, { on := 2, ground := Ground.phase }, { on := 3, ground := Ground.phase }, { on := 4, ground := Ground.phase }, { on := 5, ground := Ground.phase }, { on := 6, ground := Ground.phase }, { on := 7, ground := Ground.phase }, { on := 8, ground := Ground.phase }], guard := none } : Oper)) (v := ?_) rfl (by kernel_rfl) (by kernel_rfl) (by kernel_rfl) (fun _ _ _ h => h) (Or.inl ⟨by rfl, ?_⟩) (by assumption) ?_
      rotate_left 1
      · (intro w hSw; (try dsimp only at hSw); go_simp; (try with_reducible rfl))
      (try simp only [Act.put, List.setIfInBounds_toArray, List.set_cons_zero, List.set_cons_succ])
      refine wpAnyH_ready (rs := [10]) (by kernel_rfl) (by simp) ?_
      refine AllReadyH.cons (o := ({ dst := none, op := Op.store 4 (Operand.tmp 47) (Operand.tmp 46), type := 0, pos := "record.go:95", after := #[{ on := 9, ground := Ground.data }, { on := 8, ground := Ground.data }, { on := 0, ground := Ground.phase }, { on := 1, ground := Ground.phase }, { on := 2, ground := Ground.phase }, { on := 3, ground := Ground.phase }, { on := 4, ground := Ground.phase }, { on := 5, ground := Ground.phase }, { on := 6, ground := Ground.phase }, { on := 7, ground := Ground.phase }, { on := 8, ground := Ground.phase }], guard := none } : Oper)) rfl (fun K hK => ?_) ?_
      rotate_left 1
      · exact AllReadyH.nil
      go_simp
      first | (refine hK.out _ _ ?_ (fun hH1 => ?_)) | (go_wp2_with fail; refine hK.out _ _ ?_ (fun hH1 => ?_))
      · trivial
      clear hK K hH0
      (try simp only [Act.put, List.setIfInBounds_toArray, List.set_cons_zero, List.set_cons_succ])
      refine wpAnyH_done (by kernel_rfl) ?_ _
      refine NoPanic.normal ?_
      clear gk hs c f q1 q2 q3
      have HL2 : Hid (Blk (u.setCell ⟨w.heap.size + 1, 2, none⟩ (.bool (iat (nums s) 11 == 83))).drew (w.heap.size + 1) 84 (rdL (nums s) 2)) := Lib.hid (Blk.set_ HL1.out 2 _)
      have HI2 : Hid ((u.setCell ⟨w.heap.size + 1, 2, none⟩ (.bool (iat (nums s) 11 == 83))).drew.heap[w.heap.size + 1 + 1]? = some (.stringIter LET 2)) := Lib.hid ((Below.heap_setCell u ⟨w.heap.size + 1, 2, none⟩ _ (w.heap.size + 1 + 1) (by simp)).trans HI1.out)
      go_wp2
      go_roundw
      case rel => exact ⟨2, by decide, HI2, HL2, Lib.hid (Blk.drew (Blk.far HZ1.out (by simp) _)), Lib.hid (Below.drew0 (Below.set0 HB1.out (by omega) _))⟩
      case measure => rw [HI2.out, ME.out]; decide
    · have hn : ∀ ty, (Instr.next (.pointer (some ⟨w.heap.size + 1 + 1, 0, none⟩)) true ty).run Try.prog wr = .ok (.tuple #[.bool true, .int .i64 2, .int .i32 76]) (itA wr (w.heap.size + 1 + 1) (.stringIter LET 3)) := fun ty => run_next_at wr (w.heap.size + 1 + 1) LET 2 ty hI.out (by decide) (by decide)
      have HI1 := Lib.hid (itA_at (o' := .stringIter LET 3) hI.out)
      have HL1 := Lib.hid (Blk.itFar hL.out (show w.heap.size + 1 ≠ w.heap.size + 1 + 1 by omega) (.stringIter LET 3))
      have HZ1 := Lib.hid (Blk.itFar hZ.out (show w.heap.size ≠ w.heap.size + 1 + 1 by omega) (.stringIter LET 3))
      have HB1 := Lib.hid (itA_below hB.out (w.heap.size + 1 + 1) (.stringIter LET 3) (by omega))
      have gk : ((s[12]'(by rw [HS.out]; decide)).toNat : Int) = iat (nums s) 12 := G.out 12 (by rw [HS.out]; decide)
      have hs := HS.out
      have q1 : IntKind.i64.wrap 12 = 12 := by decide
      have q2 : IntKind.i64.wrap 3 = 3 := by decide
      have q3 : (((⟨#[65, 83, 76, 86, 66]⟩ : ByteArray)[2]'(by decide)).toNat : Int) = 76 := by decide
      have ME := Lib.hid (show (match wr.heap[w.heap.size + 1 + 1]? with | some (.stringIter _ p) => 6 - p | _ => 0) = 6 - 2 by rw [hI.out])
      go_upto_region 9 with (fail)
      clear hn
      generalize itA wr _ _ = u at HI1 HL1 HZ1 HB1 ⊢
      have c : u.cell? ⟨w.heap.size + 1, 3, none⟩ = some (.bool false) := by rw [HL1.out.cell]; rfl
      have f : u.frozen? ⟨w.heap.size + 1, 3, none⟩ = false := HL1.out.frozen _
      refine wp_region_noPanic ?_
      refine wp_region_held_drew (S := (fun _ => True)) (by kernel_rfl) ?_ (fun hH0 => ?_)
      · trivial
      refine wpAnyH_take (i := 0) (oi := ({ dst := some 38, op := Op.move (Operand.tmp 9), type := 3, pos := "record.go:95", after := #[], guard := none } : Oper)) (v := ?_) rfl (by kernel_rfl) (by kernel_rfl) (by kernel_rfl) (fun _ _ _ h => h) (Or.inl ⟨by rfl, ?_⟩) (by assumption) ?_
      rotate_left 1
      · (intro w hSw; (try dsimp only at hSw); go_simp; (try with_reducible rfl))
      (try simp only [Act.put, List.setIfInBounds_toArray, List.set_cons_zero, List.set_cons_succ])
      refine wpAnyH_take (i := 1) (oi := ({ dst := some 39, op := Op.binOp BinOp.add 3 (Operand.const (Value.int IntKind.i64 1)) (Operand.tmp 38) 3, type := 3, pos := "record.go:95", after := #[{ on := 0, ground := Ground.data }], guard := none } : Oper)) (v := ?_) rfl (by kernel_rfl) (by kernel_rfl) (by kernel_rfl) (fun _ _ _ h => h) (Or.inl ⟨by rfl, ?_⟩) (by assumption) ?_
      rotate_left 1
      · (intro w hSw; (try dsimp only at hSw); go_simp; (try with_reducible rfl))
      (try simp only [Act.put, List.setIfInBounds_toArray, List.set_cons_zero, List.set_cons_succ])
      refine wpAnyH_take (i := 2) (oi := ({ dst := some 40, op := Op.move (Operand.tmp 0), type := 9, pos := "record.go:95", after := #[], guard := none } : Oper)) (v := ?_) rfl (by kernel_rfl) (by kernel_rfl) (by kernel_rfl) (fun _ _ _ h => h) (Or.inl ⟨by rfl, ?_⟩) (by assumption) ?_
      rotate_left 1
      · (intro w hSw; (try dsimp only at hSw); go_simp; (try with_reducible rfl))
      (try simp only [Act.put, List.setIfInBounds_toArray, List.set_cons_zero, List.set_cons_succ])
      refine wpAnyH_take (i := 3) (oi := ({ dst := some 41, op := Op.move (Operand.tmp 9), type := 3, pos := "record.go:95", after := #[], guard := none } : Oper)) (v := ?_) rfl (by kernel_rfl) (by kernel_rfl) (by kernel_rfl) (fun _ _ _ h => h) (Or.inl ⟨by rfl, ?_⟩) (by assumption) ?_
      rotate_left 1
      · (intro w hSw; (try dsimp only at hSw); go_simp; (try with_reducible rfl))
      (try simp only [Act.put, List.setIfInBounds_toArray, List.set_cons_zero, List.set_cons_succ])
      refine wpAnyH_take (i := 4) (oi := ({ dst := some 42, op := Op.binOp BinOp.add 3 (Operand.const (Value.int IntKind.i64 10)) (Operand.tmp 41) 3, type := 3, pos := "record.go:95", after := #[{ on := 3, ground := Ground.data }], guard := none } : Oper)) (v := ?_) rfl (by kernel_rfl) (by kernel_rfl) (by kernel_rfl) (fun _ _ _ h => h) (Or.inl ⟨by rfl, ?_⟩) (by assumption) ?_
      rotate_left 1
      · (intro w hSw; (try dsimp only at hSw); go_simp; (try with_reducible rfl))
      (try simp only [Act.put, List.setIfInBounds_toArray, List.set_cons_zero, List.set_cons_succ])
      refine wpAnyH_take (i := 5) (oi := ({ dst := some 43, op := Op.index 9 (Operand.tmp 40) (Operand.tmp 42), type := 5, pos := "record.go:95", after := #[{ on := 2, ground := Ground.data }, { on := 4, ground := Ground.data }], guard := none } : Oper)) (v := ?_) rfl (by kernel_rfl) (by kernel_rfl) (by kernel_rfl) (fun _ _ _ h => h) (Or.inl ⟨by rfl, ?_⟩) (by assumption) ?_
      rotate_left 1
      · (intro w hSw; (try dsimp only at hSw); go_simp; (try with_reducible rfl))
      (try simp only [Act.put, List.setIfInBounds_toArray, List.set_cons_zero, List.set_cons_succ])
      refine wpAnyH_take (i := 6) (oi := ({ dst := some 44, op := Op.move (Operand.tmp 9), type := 3, pos := "record.go:95", after := #[], guard := none } : Oper)) (v := ?_) rfl (by kernel_rfl) (by kernel_rfl) (by kernel_rfl) (fun _ _ _ h => h) (Or.inl ⟨by rfl, ?_⟩) (by assumption) ?_
      rotate_left 1
      · (intro w hSw; (try dsimp only at hSw); go_simp; (try with_reducible rfl))
      (try simp only [Act.put, List.setIfInBounds_toArray, List.set_cons_zero, List.set_cons_succ])
      refine wpAnyH_take (i := 7) (oi := ({ dst := some 45, op := Op.index 9 (Operand.const (Value.string { data := #[65, 83, 76, 86, 66] })) (Operand.tmp 44), type := 5, pos := "record.go:95", after := #[{ on := 6, ground := Ground.data }], guard := none } : Oper)) (v := ?_) rfl (by kernel_rfl) (by kernel_rfl) (by kernel_rfl) (fun _ _ _ h => h) (Or.inl ⟨by rfl, ?_⟩) (by assumption) ?_
      rotate_left 1
      · (intro w hSw; (try dsimp only at hSw); go_simp; (try with_reducible rfl))
      (try simp only [Act.put, List.setIfInBounds_toArray, List.set_cons_zero, List.set_cons_succ])
      refine wpAnyH_take (i := 8) (oi := ({ dst := some 46, op := Op.binOp BinOp.eql 5 (Operand.tmp 43) (Operand.tmp 45) 5, type := 4, pos := "record.go:95", after := #[{ on := 5, ground := Ground.data }, { on := 7, ground := Ground.data }], guard := none } : Oper)) (v := ?_) rfl (by kernel_rfl) (by kernel_rfl) (by kernel_rfl) (fun _ _ _ h => h) (Or.inl ⟨by rfl, ?_⟩) (by assumption) ?_
      rotate_left 1
      · (intro w hSw; (try dsimp only at hSw); go_simp; (try with_reducible rfl))
      (try simp only [Act.put, List.setIfInBounds_toArray, List.set_cons_zero, List.set_cons_succ])
      refine wpAnyH_take (i := 9) (oi := ({ dst := some 47, op := Op.indexAddr 84 (Operand.tmp 8) (Operand.tmp 39), type := 0, pos := "record.go:95", after := #[{ on := 1, ground := Ground.data }, { on := 0, ground := Ground.phase }, { on := 1, ground := Ground.phase }, { on := 2, ground := Ground.phase }, { on := 3, ground := Ground.phase }, { on := 4, ground := Ground.phase }, { on := 5, ground := Ground.phase }, { on := 6, ground := Ground.phase }, { on := 7, ground := Ground.phase }, { on := 8, ground := Ground.phase }], guard := none } : Oper)) (v := ?_) rfl (by kernel_rfl) (by kernel_rfl) (by kernel_rfl) (fun _ _ _ h => h) (Or.inl ⟨by rfl, ?_⟩) (by assumption) ?_
      rotate_left 1
      · (intro w hSw; (try dsimp only at hSw); go_simp; (try with_reducible rfl))
      (try simp only [Act.put, List.setIfInBounds_toArray, List.set_cons_zero, List.set_cons_succ])
      refine wpAnyH_ready (rs := [10]) (by kernel_rfl) (by simp) ?_
      refine AllReadyH.cons (o := ({ dst := none, op := Op.store 4 (Operand.tmp 47) (Operand.tmp 46), type := 0, pos := "record.go:95", after := #[{ on := 9, ground := Ground.data }, { on := 8, ground := Ground.data }, { on := 0, ground := Ground.phase }, { on := 1, ground := Ground.phase }, { on := 2, ground := Ground.phase }, { on := 3, ground := Ground.phase }, { on := 4, ground := Ground.phase }, { on := 5, ground := Ground.phase }, { on := 6, ground := Ground.phase }, { on := 7, ground := Ground.phase }, { on := 8, ground := Ground.phase }], guard := none } : Oper)) rfl (fun K hK => ?_) ?_
      rotate_left 1
      · exact AllReadyH.nil
      go_simp
      first | (refine hK.out _ _ ?_ (fun hH1 => ?_)) | (go_wp2_with fail; refine hK.out _ _ ?_ (fun hH1 => ?_))
      · trivial
      clear hK K hH0
      (try simp only [Act.put, List.setIfInBounds_toArray, List.set_cons_zero, List.set_cons_succ])
      refine wpAnyH_done (by kernel_rfl) ?_ _
      refine NoPanic.normal ?_
      clear gk hs c f q1 q2 q3
      have HL2 : Hid (Blk (u.setCell ⟨w.heap.size + 1, 3, none⟩ (.bool (iat (nums s) 12 == 76))).drew (w.heap.size + 1) 84 (rdL (nums s) 3)) := Lib.hid (Blk.set_ HL1.out 3 _)
      have HI2 : Hid ((u.setCell ⟨w.heap.size + 1, 3, none⟩ (.bool (iat (nums s) 12 == 76))).drew.heap[w.heap.size + 1 + 1]? = some (.stringIter LET 3)) := Lib.hid ((Below.heap_setCell u ⟨w.heap.size + 1, 3, none⟩ _ (w.heap.size + 1 + 1) (by simp)).trans HI1.out)
      go_wp2
      go_roundw
      case rel => exact ⟨3, by decide, HI2, HL2, Lib.hid (Blk.drew (Blk.far HZ1.out (by simp) _)), Lib.hid (Below.drew0 (Below.set0 HB1.out (by omega) _))⟩
      case measure => rw [HI2.out, ME.out]; decide
    · have hn : ∀ ty, (Instr.next (.pointer (some ⟨w.heap.size + 1 + 1, 0, none⟩)) true ty).run Try.prog wr = .ok (.tuple #[.bool true, .int .i64 3, .int .i32 86]) (itA wr (w.heap.size + 1 + 1) (.stringIter LET 4)) := fun ty => run_next_at wr (w.heap.size + 1 + 1) LET 3 ty hI.out (by decide) (by decide)
      have HI1 := Lib.hid (itA_at (o' := .stringIter LET 4) hI.out)
      have HL1 := Lib.hid (Blk.itFar hL.out (show w.heap.size + 1 ≠ w.heap.size + 1 + 1 by omega) (.stringIter LET 4))
      have HZ1 := Lib.hid (Blk.itFar hZ.out (show w.heap.size ≠ w.heap.size + 1 + 1 by omega) (.stringIter LET 4))
      have HB1 := Lib.hid (itA_below hB.out (w.heap.size + 1 + 1) (.stringIter LET 4) (by omega))
      have gk : ((s[13]'(by rw [HS.out]; decide)).toNat : Int) = iat (nums s) 13 := G.out 13 (by rw [HS.out]; decide)
      have hs := HS.out
      have q1 : IntKind.i64.wrap 13 = 13 := by decide
      have q2 : IntKind.i64.wrap 4 = 4 := by decide
      have q3 : (((⟨#[65, 83, 76, 86, 66]⟩ : ByteArray)[3]'(by decide)).toNat : Int) = 86 := by decide
      have ME := Lib.hid (show (match wr.heap[w.heap.size + 1 + 1]? with | some (.stringIter _ p) => 6 - p | _ => 0) = 6 - 3 by rw [hI.out])
      go_upto_region 9 with (fail)
      clear hn
      generalize itA wr _ _ = u at HI1 HL1 HZ1 HB1 ⊢
      have c : u.cell? ⟨w.heap.size + 1, 4, none⟩ = some (.bool false) := by rw [HL1.out.cell]; rfl
      have f : u.frozen? ⟨w.heap.size + 1, 4, none⟩ = false := HL1.out.frozen _
      refine wp_region_noPanic ?_
      refine wp_region_held_drew (S := (fun _ => True)) (by kernel_rfl) ?_ (fun hH0 => ?_)
      · trivial
      refine wpAnyH_take (i := 0) (oi := ({ dst := some 38, op := Op.move (Operand.tmp 9), type := 3, pos := "record.go:95", after := #[], guard := none } : Oper)) (v := ?_) rfl (by kernel_rfl) (by kernel_rfl) (by kernel_rfl) (fun _ _ _ h => h) (Or.inl ⟨by rfl, ?_⟩) (by assumption) ?_
      rotate_left 1
      · (intro w hSw; (try dsimp only at hSw); go_simp; (try with_reducible rfl))
      (try simp only [Act.put, List.setIfInBounds_toArray, List.set_cons_zero, List.set_cons_succ])
      refine wpAnyH_take (i := 1) (oi := ({ dst := some 39, op := Op.binOp BinOp.add 3 (Operand.const (Value.int IntKind.i64 1)) (Operand.tmp 38) 3, type := 3, pos := "record.go:95", after := #[{ on := 0, ground := Ground.data }], guard := none } : Oper)) (v := ?_) rfl (by kernel_rfl) (by kernel_rfl) (by kernel_rfl) (fun _ _ _ h => h) (Or.inl ⟨by rfl, ?_⟩) (by assumption) ?_
      rotate_left 1
      · (intro w hSw; (try dsimp only at hSw); go_simp; (try with_reducible rfl))
      (try simp only [Act.put, List.setIfInBounds_toArray, List.set_cons_zero, List.set_cons_succ])
      refine wpAnyH_take (i := 2) (oi := ({ dst := some 40, op := Op.move (Operand.tmp 0), type := 9, pos := "record.go:95", after := #[], guard := none } : Oper)) (v := ?_) rfl (by kernel_rfl) (by kernel_rfl) (by kernel_rfl) (fun _ _ _ h => h) (Or.inl ⟨by rfl, ?_⟩) (by assumption) ?_
      rotate_left 1
      · (intro w hSw; (try dsimp only at hSw); go_simp; (try with_reducible rfl))
      (try simp only [Act.put, List.setIfInBounds_toArray, List.set_cons_zero, List.set_cons_succ])
      refine wpAnyH_take (i := 3) (oi := ({ dst := some 41, op := Op.move (Operand.tmp 9), type := 3, pos := "record.go:95", after := #[], guard := none } : Oper)) (v := ?_) rfl (by kernel_rfl) (by kernel_rfl) (by kernel_rfl) (fun _ _ _ h => h) (Or.inl ⟨by rfl, ?_⟩) (by assumption) ?_
      rotate_left 1
      · (intro w hSw; (try dsimp only at hSw); go_simp; (try with_reducible rfl))
      (try simp only [Act.put, List.setIfInBounds_toArray, List.set_cons_zero, List.set_cons_succ])
      refine wpAnyH_take (i := 4) (oi := ({ dst := some 42, op := Op.binOp BinOp.add 3 (Operand.const (Value.int IntKind.i64 10)) (Operand.tmp 41) 3, type := 3, pos := "record.go:95", after := #[{ on := 3, ground := Ground.data }], guard := none } : Oper)) (v := ?_) rfl (by kernel_rfl) (by kernel_rfl) (by kernel_rfl) (fun _ _ _ h => h) (Or.inl ⟨by rfl, ?_⟩) (by assumption) ?_
      rotate_left 1
      · (intro w hSw; (try dsimp only at hSw); go_simp; (try with_reducible rfl))
      (try simp only [Act.put, List.setIfInBounds_toArray, List.set_cons_zero, List.set_cons_succ])
      refine wpAnyH_take (i := 5) (oi := ({ dst := some 43, op := Op.index 9 (Operand.tmp 40) (Operand.tmp 42), type := 5, pos := "record.go:95", after := #[{ on := 2, ground := Ground.data }, { on := 4, ground := Ground.data }], guard := none } : Oper)) (v := ?_) rfl (by kernel_rfl) (by kernel_rfl) (by kernel_rfl) (fun _ _ _ h => h) (Or.inl ⟨by rfl, ?_⟩) (by assumption) ?_
      rotate_left 1
      · (intro w hSw; (try dsimp only at hSw); go_simp; (try with_reducible rfl))
      (try simp only [Act.put, List.setIfInBounds_toArray, List.set_cons_zero, List.set_cons_succ])
      refine wpAnyH_take (i := 6) (oi := ({ dst := some 44, op := Op.move (Operand.tmp 9), type := 3, pos := "record.go:95", after := #[], guard := none } : Oper)) (v := ?_) rfl (by kernel_rfl) (by kernel_rfl) (by kernel_rfl) (fun _ _ _ h => h) (Or.inl ⟨by rfl, ?_⟩) (by assumption) ?_
      rotate_left 1
      · (intro w hSw; (try dsimp only at hSw); go_simp; (try with_reducible rfl))
      (try simp only [Act.put, List.setIfInBounds_toArray, List.set_cons_zero, List.set_cons_succ])
      refine wpAnyH_take (i := 7) (oi := ({ dst := some 45, op := Op.index 9 (Operand.const (Value.string { data := #[65, 83, 76, 86, 66] })) (Operand.tmp 44), type := 5, pos := "record.go:95", after := #[{ on := 6, ground := Ground.data }], guard := none } : Oper)) (v := ?_) rfl (by kernel_rfl) (by kernel_rfl) (by kernel_rfl) (fun _ _ _ h => h) (Or.inl ⟨by rfl, ?_⟩) (by assumption) ?_
      rotate_left 1
      · (intro w hSw; (try dsimp only at hSw); go_simp; (try with_reducible rfl))
      (try simp only [Act.put, List.setIfInBounds_toArray, List.set_cons_zero, List.set_cons_succ])
      refine wpAnyH_take (i := 8) (oi := ({ dst := some 46, op := Op.binOp BinOp.eql 5 (Operand.tmp 43) (Operand.tmp 45) 5, type := 4, pos := "record.go:95", after := #[{ on := 5, ground := Ground.data }, { on := 7, ground := Ground.data }], guard := none } : Oper)) (v := ?_) rfl (by kernel_rfl) (by kernel_rfl) (by kernel_rfl) (fun _ _ _ h => h) (Or.inl ⟨by rfl, ?_⟩) (by assumption) ?_
      rotate_left 1
      · (intro w hSw; (try dsimp only at hSw); go_simp; (try with_reducible rfl))
      (try simp only [Act.put, List.setIfInBounds_toArray, List.set_cons_zero, List.set_cons_succ])
      refine wpAnyH_take (i := 9) (oi := ({ dst := some 47, op := Op.indexAddr 84 (Operand.tmp 8) (Operand.tmp 39), type := 0, pos := "record.go:95", after := #[{ on := 1, ground := Ground.data }, { on := 0, ground := Ground.phase }, { on := 1, ground := Ground.phase }, { on := 2, ground := Ground.phase }, { on := 3, ground := Ground.phase }, { on := 4, ground := Ground.phase }, { on := 5, ground := Ground.phase }, { on := 6, ground := Ground.phase }, { on := 7, ground := Ground.phase }, { on := 8, ground := Ground.phase }], guard := none } : Oper)) (v := ?_) rfl (by kernel_rfl) (by kernel_rfl) (by kernel_rfl) (fun _ _ _ h => h) (Or.inl ⟨by rfl, ?_⟩) (by assumption) ?_
      rotate_left 1
      · (intro w hSw; (try dsimp only at hSw); go_simp; (try with_reducible rfl))
      (try simp only [Act.put, List.setIfInBounds_toArray, List.set_cons_zero, List.set_cons_succ])
      refine wpAnyH_ready (rs := [10]) (by kernel_rfl) (by simp) ?_
      refine AllReadyH.cons (o := ({ dst := none, op := Op.store 4 (Operand.tmp 47) (Operand.tmp 46), type := 0, pos := "record.go:95", after := #[{ on := 9, ground := Ground.data }, { on := 8, ground := Ground.data }, { on := 0, ground := Ground.phase }, { on := 1, ground := Ground.phase }, { on := 2, ground := Ground.phase }, { on := 3, ground := Ground.phase }, { on := 4, ground := Ground.phase }, { on := 5, ground := Ground.phase }, { on := 6, ground := Ground.phase }, { on := 7, ground := Ground.phase }, { on := 8, ground := Ground.phase }], guard := none } : Oper)) rfl (fun K hK => ?_) ?_
      rotate_left 1
      · exact AllReadyH.nil
      go_simp
      first | (refine hK.out _ _ ?_ (fun hH1 => ?_)) | (go_wp2_with fail; refine hK.out _ _ ?_ (fun hH1 => ?_))
      · trivial
      clear hK K hH0
      (try simp only [Act.put, List.setIfInBounds_toArray, List.set_cons_zero, List.set_cons_succ])
      refine wpAnyH_done (by kernel_rfl) ?_ _
      refine NoPanic.normal ?_
      clear gk hs c f q1 q2 q3
      have HL2 : Hid (Blk (u.setCell ⟨w.heap.size + 1, 4, none⟩ (.bool (iat (nums s) 13 == 86))).drew (w.heap.size + 1) 84 (rdL (nums s) 4)) := Lib.hid (Blk.set_ HL1.out 4 _)
      have HI2 : Hid ((u.setCell ⟨w.heap.size + 1, 4, none⟩ (.bool (iat (nums s) 13 == 86))).drew.heap[w.heap.size + 1 + 1]? = some (.stringIter LET 4)) := Lib.hid ((Below.heap_setCell u ⟨w.heap.size + 1, 4, none⟩ _ (w.heap.size + 1 + 1) (by simp)).trans HI1.out)
      go_wp2
      go_roundw
      case rel => exact ⟨4, by decide, HI2, HL2, Lib.hid (Blk.drew (Blk.far HZ1.out (by simp) _)), Lib.hid (Below.drew0 (Below.set0 HB1.out (by omega) _))⟩
      case measure => rw [HI2.out, ME.out]; decide
    · have hn : ∀ ty, (Instr.next (.pointer (some ⟨w.heap.size + 1 + 1, 0, none⟩)) true ty).run Try.prog wr = .ok (.tuple #[.bool true, .int .i64 4, .int .i32 66]) (itA wr (w.heap.size + 1 + 1) (.stringIter LET 5)) := fun ty => run_next_at wr (w.heap.size + 1 + 1) LET 4 ty hI.out (by decide) (by decide)
      have HI1 := Lib.hid (itA_at (o' := .stringIter LET 5) hI.out)
      have HL1 := Lib.hid (Blk.itFar hL.out (show w.heap.size + 1 ≠ w.heap.size + 1 + 1 by omega) (.stringIter LET 5))
      have HZ1 := Lib.hid (Blk.itFar hZ.out (show w.heap.size ≠ w.heap.size + 1 + 1 by omega) (.stringIter LET 5))
      have HB1 := Lib.hid (itA_below hB.out (w.heap.size + 1 + 1) (.stringIter LET 5) (by omega))
      have gk : ((s[14]'(by rw [HS.out]; decide)).toNat : Int) = iat (nums s) 14 := G.out 14 (by rw [HS.out]; decide)
      have hs := HS.out
      have q1 : IntKind.i64.wrap 14 = 14 := by decide
      have q2 : IntKind.i64.wrap 5 = 5 := by decide
      have q3 : (((⟨#[65, 83, 76, 86, 66]⟩ : ByteArray)[4]'(by decide)).toNat : Int) = 66 := by decide
      have ME := Lib.hid (show (match wr.heap[w.heap.size + 1 + 1]? with | some (.stringIter _ p) => 6 - p | _ => 0) = 6 - 4 by rw [hI.out])
      go_upto_region 9 with (fail)
      clear hn
      generalize itA wr _ _ = u at HI1 HL1 HZ1 HB1 ⊢
      have c : u.cell? ⟨w.heap.size + 1, 5, none⟩ = some (.bool false) := by rw [HL1.out.cell]; rfl
      have f : u.frozen? ⟨w.heap.size + 1, 5, none⟩ = false := HL1.out.frozen _
      refine wp_region_noPanic ?_
      refine wp_region_held_drew (S := (fun _ => True)) (by kernel_rfl) ?_ (fun hH0 => ?_)
      · trivial
      refine wpAnyH_take (i := 0) (oi := ({ dst := some 38, op := Op.move (Operand.tmp 9), type := 3, pos := "record.go:95", after := #[], guard := none } : Oper)) (v := ?_) rfl (by kernel_rfl) (by kernel_rfl) (by kernel_rfl) (fun _ _ _ h => h) (Or.inl ⟨by rfl, ?_⟩) (by assumption) ?_
      rotate_left 1
      · (intro w hSw; (try dsimp only at hSw); go_simp; (try with_reducible rfl))
      (try simp only [Act.put, List.setIfInBounds_toArray, List.set_cons_zero, List.set_cons_succ])
      refine wpAnyH_take (i := 1) (oi := ({ dst := some 39, op := Op.binOp BinOp.add 3 (Operand.const (Value.int IntKind.i64 1)) (Operand.tmp 38) 3, type := 3, pos := "record.go:95", after := #[{ on := 0, ground := Ground.data }], guard := none } : Oper)) (v := ?_) rfl (by kernel_rfl) (by kernel_rfl) (by kernel_rfl) (fun _ _ _ h => h) (Or.inl ⟨by rfl, ?_⟩) (by assumption) ?_
      rotate_left 1
      · (intro w hSw; (try dsimp only at hSw); go_simp; (try with_reducible rfl))
      (try simp only [Act.put, List.setIfInBounds_toArray, List.set_cons_zero, List.set_cons_succ])
      refine wpAnyH_take (i := 2) (oi := ({ dst := some 40, op := Op.move (Operand.tmp 0), type := 9, pos := "record.go:95", after := #[], guard := none } : Oper)) (v := ?_) rfl (by kernel_rfl) (by kernel_rfl) (by kernel_rfl) (fun _ _ _ h => h) (Or.inl ⟨by rfl, ?_⟩) (by assumption) ?_
      rotate_left 1
      · (intro w hSw; (try dsimp only at hSw); go_simp; (try with_reducible rfl))
      (try simp only [Act.put, List.setIfInBounds_toArray, List.set_cons_zero, List.set_cons_succ])
      refine wpAnyH_take (i := 3) (oi := ({ dst := some 41, op := Op.move (Operand.tmp 9), type := 3, pos := "record.go:95", after := #[], guard := none } : Oper)) (v := ?_) rfl (by kernel_rfl) (by kernel_rfl) (by kernel_rfl) (fun _ _ _ h => h) (Or.inl ⟨by rfl, ?_⟩) (by assumption) ?_
      rotate_left 1
      · (intro w hSw; (try dsimp only at hSw); go_simp; (try with_reducible rfl))
      (try simp only [Act.put, List.setIfInBounds_toArray, List.set_cons_zero, List.set_cons_succ])
      refine wpAnyH_take (i := 4) (oi := ({ dst := some 42, op := Op.binOp BinOp.add 3 (Operand.const (Value.int IntKind.i64 10)) (Operand.tmp 41) 3, type := 3, pos := "record.go:95", after := #[{ on := 3, ground := Ground.data }], guard := none } : Oper)) (v := ?_) rfl (by kernel_rfl) (by kernel_rfl) (by kernel_rfl) (fun _ _ _ h => h) (Or.inl ⟨by rfl, ?_⟩) (by assumption) ?_
      rotate_left 1
      · (intro w hSw; (try dsimp only at hSw); go_simp; (try with_reducible rfl))
      (try simp only [Act.put, List.setIfInBounds_toArray, List.set_cons_zero, List.set_cons_succ])
      refine wpAnyH_take (i := 5) (oi := ({ dst := some 43, op := Op.index 9 (Operand.tmp 40) (Operand.tmp 42), type := 5, pos := "record.go:95", after := #[{ on := 2, ground := Ground.data }, { on := 4, ground := Ground.data }], guard := none } : Oper)) (v := ?_) rfl (by kernel_rfl) (by kernel_rfl) (by kernel_rfl) (fun _ _ _ h => h) (Or.inl ⟨by rfl, ?_⟩) (by assumption) ?_
      rotate_left 1
      · (intro w hSw; (try dsimp only at hSw); go_simp; (try with_reducible rfl))
      (try simp only [Act.put, List.setIfInBounds_toArray, List.set_cons_zero, List.set_cons_succ])
      refine wpAnyH_take (i := 6) (oi := ({ dst := some 44, op := Op.move (Operand.tmp 9), type := 3, pos := "record.go:95", after := #[], guard := none } : Oper)) (v := ?_) rfl (by kernel_rfl) (by kernel_rfl) (by kernel_rfl) (fun _ _ _ h => h) (Or.inl ⟨by rfl, ?_⟩) (by assumption) ?_
      rotate_left 1
      · (intro w hSw; (try dsimp only at hSw); go_simp; (try with_reducible rfl))
      (try simp only [Act.put, List.setIfInBounds_toArray, List.set_cons_zero, List.set_cons_succ])
      refine wpAnyH_take (i := 7) (oi := ({ dst := some 45, op := Op.index 9 (Operand.const (Value.string { data := #[65, 83, 76, 86, 66] })) (Operand.tmp 44), type := 5, pos := "record.go:95", after := #[{ on := 6, ground := Ground.data }], guard := none } : Oper)) (v := ?_) rfl (by kernel_rfl) (by kernel_rfl) (by kernel_rfl) (fun _ _ _ h => h) (Or.inl ⟨by rfl, ?_⟩) (by assumption) ?_
      rotate_left 1
      · (intro w hSw; (try dsimp only at hSw); go_simp; (try with_reducible rfl))
      (try simp only [Act.put, List.setIfInBounds_toArray, List.set_cons_zero, List.set_cons_succ])
      refine wpAnyH_take (i := 8) (oi := ({ dst := some 46, op := Op.binOp BinOp.eql 5 (Operand.tmp 43) (Operand.tmp 45) 5, type := 4, pos := "record.go:95", after := #[{ on := 5, ground := Ground.data }, { on := 7, ground := Ground.data }], guard := none } : Oper)) (v := ?_) rfl (by kernel_rfl) (by kernel_rfl) (by kernel_rfl) (fun _ _ _ h => h) (Or.inl ⟨by rfl, ?_⟩) (by assumption) ?_
      rotate_left 1
      · (intro w hSw; (try dsimp only at hSw); go_simp; (try with_reducible rfl))
      (try simp only [Act.put, List.setIfInBounds_toArray, List.set_cons_zero, List.set_cons_succ])
      refine wpAnyH_take (i := 9) (oi := ({ dst := some 47, op := Op.indexAddr 84 (Operand.tmp 8) (Operand.tmp 39), type := 0, pos := "record.go:95", after := #[{ on := 1, ground := Ground.data }, { on := 0, ground := Ground.phase }, { on := 1, ground := Ground.phase }, { on := 2, ground := Ground.phase }, { on := 3, ground := Ground.phase }, { on := 4, ground := Ground.phase }, { on := 5, ground := Ground.phase }, { on := 6, ground := Ground.phase }, { on := 7, ground := Ground.phase }, { on := 8, ground := Ground.phase }], guard := none } : Oper)) (v := ?_) rfl (by kernel_rfl) (by kernel_rfl) (by kernel_rfl) (fun _ _ _ h => h) (Or.inl ⟨by rfl, ?_⟩) (by assumption) ?_
      rotate_left 1
      · (intro w hSw; (try dsimp only at hSw); go_simp; (try with_reducible rfl))
      (try simp only [Act.put, List.setIfInBounds_toArray, List.set_cons_zero, List.set_cons_succ])
      refine wpAnyH_ready (rs := [10]) (by kernel_rfl) (by simp) ?_
      refine AllReadyH.cons (o := ({ dst := none, op := Op.store 4 (Operand.tmp 47) (Operand.tmp 46), type := 0, pos := "record.go:95", after := #[{ on := 9, ground := Ground.data }, { on := 8, ground := Ground.data }, { on := 0, ground := Ground.phase }, { on := 1, ground := Ground.phase }, { on := 2, ground := Ground.phase }, { on := 3, ground := Ground.phase }, { on := 4, ground := Ground.phase }, { on := 5, ground := Ground.phase }, { on := 6, ground := Ground.phase }, { on := 7, ground := Ground.phase }, { on := 8, ground := Ground.phase }], guard := none } : Oper)) rfl (fun K hK => ?_) ?_
      rotate_left 1
      · exact AllReadyH.nil
      go_simp
      first | (refine hK.out _ _ ?_ (fun hH1 => ?_)) | (go_wp2_with fail; refine hK.out _ _ ?_ (fun hH1 => ?_))
      · trivial
      clear hK K hH0
      (try simp only [Act.put, List.setIfInBounds_toArray, List.set_cons_zero, List.set_cons_succ])
      refine wpAnyH_done (by kernel_rfl) ?_ _
      refine NoPanic.normal ?_
      clear gk hs c f q1 q2 q3
      have HL2 : Hid (Blk (u.setCell ⟨w.heap.size + 1, 5, none⟩ (.bool (iat (nums s) 14 == 66))).drew (w.heap.size + 1) 84 (rdL (nums s) 5)) := Lib.hid (Blk.set_ HL1.out 5 _)
      have HI2 : Hid ((u.setCell ⟨w.heap.size + 1, 5, none⟩ (.bool (iat (nums s) 14 == 66))).drew.heap[w.heap.size + 1 + 1]? = some (.stringIter LET 5)) := Lib.hid ((Below.heap_setCell u ⟨w.heap.size + 1, 5, none⟩ _ (w.heap.size + 1 + 1) (by simp)).trans HI1.out)
      go_wp2
      go_roundw
      case rel => exact ⟨5, by decide, HI2, HL2, Lib.hid (Blk.drew (Blk.far HZ1.out (by simp) _)), Lib.hid (Below.drew0 (Below.set0 HB1.out (by omega) _))⟩
      case measure => rw [HI2.out, ME.out]; decide
    · have hn : ∀ ty, (Instr.next (.pointer (some ⟨w.heap.size + 1 + 1, 0, none⟩)) true ty).run Try.prog wr = .ok (.tuple #[.bool false]) wr := fun ty => run_next_stop wr (w.heap.size + 1 + 1) LET 5 ty hI.out (by decide)
      have HL5 : Hid (Blk wr (w.heap.size + 1) 84 X.lv) := Lib.hid (by rw [← XL.out]; exact hL.out)
      obtain ⟨l0, l1, l2, l3, l4, l5, l6⟩ := Blk.c7 HL5.out
      have hxa := XA.out
      have hxd := XD.out
      go_wp2_with fail
      refine (CR.out _).mono ?_
      rintro e w2 ⟨rfl, hb⟩
      have Z2 := Lib.hid (Blk.alloc (Blk.below hZ.out hb hZ.out.lt) (Obj.cells X.cells 37))
      have B2 := Lib.hid (Below.alloc0 (Below.trans0 hB.out hb) (Obj.cells X.cells 37))
      have T2 : Hid (Blk (w2.alloc (Obj.cells X.cells 37)) w2.heap.size 37 X.cells) := Lib.hid (Blk.new _ _ _ (0, 0))
      have LT := Lib.hid (show w.heap.size < w2.heap.size from Nat.lt_of_lt_of_le hZ.out.lt hb.size)
      clear hb hn l0 l1 l2 l3 l4 l5 l6 hxa hxd
      obtain ⟨t0, t1, t2, t3, t4, t5, t6, t7, t8⟩ := Blk.c9 T2.out
      obtain ⟨T, hT⟩ : ∃ T, strOfNums (txN X) = T := ⟨_, rfl⟩
      rw [hT] at CT
      have HT := Lib.hid hT
      clear hT
      go_wp2_with fail
      refine (CT.out _).mono ?_
      rintro e w3 ⟨rfl, hb⟩
      have Z3 := Lib.hid (Blk.below Z2.out hb Z2.out.lt)
      have B3 := Lib.hid (Below.trans0 B2.out hb)
      have T3 := Lib.hid (Blk.below T2.out hb T2.out.lt)
      clear hb t0 t1 t2 t3 t4 t5 t6 t7 t8
      obtain ⟨t0, t1, t2, t3, t4, t5, t6, t7, t8⟩ := Blk.c9 T3.out
      by_cases hq : T = s
      · have HQ := Lib.hid hq
        subst hq
        have hne : (T.toList != T.toList) = false := by simp
        go_wp2_with (refine wpList_store_rowTo (by rfl) 37 _ _ (by rfl) (by rfl) w.heap.size X.cells (by rfl) (by rfl) 37 _ Z3.out (by kernel_rfl) rfl (by simp [Value.oneCell']) ?_)
        exact bodyPost_ret (v := .tuple #[.agg X.cells, .int .i64 0]) (resRd _ _ w.heap.size X.cells (Blk.row Z3.out X.cells) rfl rfl _ rfl) rfl ⟨.inl ⟨rfl, HT.out⟩, below_row' B3.out _ _ (Nat.le_refl _)⟩
      · have hne : (T.toList == s.toList) = false := by
          rw [beq_eq_false_iff_ne]
          intro h
          apply hq
          rw [ByteArray.toList_eq, ByteArray.toList_eq] at h
          apply ByteArray.ext
          exact Array.ext' h
        have HQ := Lib.hid hq
        clear hq
        go_wp2_with (refine wpList_store_rowTo (by rfl) 37 _ _ (by rfl) (by rfl) w.heap.size #[.int .u16 0, .int .u8 0, .bool false, .bool false, .bool false, .bool false, .bool false, .bool false, .bool false] (by rfl) (by rfl) 37 _ Z3.out (by kernel_rfl) rfl (by simp [Value.oneCell']) ?_)
        exact bodyPost_ret (v := .tuple #[.agg #[.int .u16 0, .int .u8 0, .bool false, .bool false, .bool false, .bool false, .bool false, .bool false, .bool false], .int .i64 21]) (resRd _ _ w.heap.size #[.int .u16 0, .int .u8 0, .bool false, .bool false, .bool false, .bool false, .bool false, .bool false, .bool false] (Blk.row Z3.out #[.int .u16 0, .int .u8 0, .bool false, .bool false, .bool false, .bool false, .bool false, .bool false, .bool false]) rfl rfl _ rfl) rfl ⟨.inr ⟨rfl, by rw [HT.out]; exact HQ.out⟩, below_row' B3.out _ _ (Nat.le_refl _)⟩
theorem txN_len (x : Rc) (h : x.Ok) : (strOfNums (txN x)).size = 17 := by
  have a : (adN x).length = 4 := by have := adN_size x h; rwa [size_strOf] at this
  have d : (daN x).length = 2 := by have := daN_size x; rwa [size_strOf] at this
  rw [size_strOf]
  unfold txN
  simp [a, d, lnL]
set_option maxRecDepth 100000 in
theorem rcRead_no (s : ByteArray) (hs : s.size ≠ 17) (w : World) :
    Calls Try.prog 17 #[.string s] w (RdPost s (rdX s) w) := by
  have hn : ((s.size : Int) != 17) = true := by rw [bne_iff_ne]; omega
  have hT : Hid (strOfNums (txN (rdX s)) ≠ s) := Lib.hid (fun h => hs (by rw [← h]; exact txN_len _ (rdX_ok s)))
  have P0 : Hid (Blk (w.alloc (Obj.cells #[.int .u16 0, .int .u8 0, .bool false, .bool false, .bool false, .bool false, .bool false, .bool false, .bool false] 37)) w.heap.size 37 #[.int .u16 0, .int .u8 0, .bool false, .bool false, .bool false, .bool false, .bool false, .bool false, .bool false]) := Lib.hid (Blk.new _ _ _ (0, 0))
  have B0 := Lib.hid (Below.alloc0 (Below.refl w.heap.size w) (Obj.cells #[.int .u16 0, .int .u8 0, .bool false, .bool false, .bool false, .bool false, .bool false, .bool false, .bool false] 37))
  clear hs
  go_enter Try.func17, Try.ntmps17
  go_wp2_with (refine wpList_store_rowTo (by rfl) 37 _ _ (by rfl) (by rfl) w.heap.size #[.int .u16 0, .int .u8 0, .bool false, .bool false, .bool false, .bool false, .bool false, .bool false, .bool false] (by rfl) (by rfl) 37 _ P0.out (by kernel_rfl) rfl (by simp [Value.oneCell']) ?_)
  exact bodyPost_ret (v := .tuple #[.agg #[.int .u16 0, .int .u8 0, .bool false, .bool false, .bool false, .bool false, .bool false, .bool false, .bool false], .int .i64 21]) (resRd _ _ w.heap.size #[.int .u16 0, .int .u8 0, .bool false, .bool false, .bool false, .bool false, .bool false, .bool false, .bool false] (Blk.row P0.out #[.int .u16 0, .int .u8 0, .bool false, .bool false, .bool false, .bool false, .bool false, .bool false, .bool false]) rfl rfl _ rfl) rfl ⟨.inr ⟨rfl, hT.out⟩, below_row' B0.out _ _ (Nat.le_refl _)⟩
theorem rcRead_any (s : ByteArray) (w : World) : Calls Try.prog 17 #[.string s] w (RdPost s (rdX s) w) := by
  by_cases h : s.size = 17
  · exact rcRead_go s h w
  · exact rcRead_no s h w
end Go.Proofs.Ytfjkbjkbpbnalaa
