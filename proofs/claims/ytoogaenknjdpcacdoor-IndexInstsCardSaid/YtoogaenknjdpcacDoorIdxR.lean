/- The contract of the document's own address (spinetref20.Of). -/
import Derived.Test.YtoogaenknjdpcacDoorIdx
namespace Go.Proofs.YtoogaenknjdpcacDoor
open Go.ChangeShapes Go.WideShapes Go.ChangeAt Go.RowKit
set_option linter.unusedVariables false

theorem RgAt.al {w : World} {g : Nat} {t : TypeId} {r : Rg} (h : RgAt w g t r) (o : Obj) : RgAt (w.alloc o) g t r := Blk.alloc h o
theorem idx_two (w : World) (r : Rg) : RgAt ((w.alloc (.cells r.cells 34)).alloc (.cells zRg.cells 34)) w.heap.size 34 r ∧ RgAt ((w.alloc (.cells r.cells 34)).alloc (.cells zRg.cells 34)) (w.heap.size + 1) 34 zRg := by
  refine ⟨(Blk.new w 34 r.cells (0, 0)).alloc _, ?_⟩
  have e : (w.alloc (.cells r.cells 34)).heap.size = w.heap.size + 1 := by simp
  have := Blk.new (w.alloc (.cells r.cells 34)) 34 zRg.cells (0, 0)
  rw [e] at this
  exact this
theorem resIdxR (tmps : Array Value) (W : World) (g : Nat) (cs old : Array Value) (h : Blk W g 34 old) (hs : old.size = 9) (hc : cs.size = 9) (h2 : tmps.getD 9 undef = .pointer (some ⟨g, 0, none⟩)) (a : Int) (h3 : tmps.getD 8 undef = .int .u16 a) :
    (results Tryd.f20 tmps).run Tryd.prog (W.setRow g cs) = .ok (.tuple #[.int .u16 a, .agg cs]) (W.setRow g cs) := by
  have hi : (Tryd.prog.info? 34).map (·.size) = some cs.size := by rw [hc]; kernel_rfl
  have hld := run_loadVar_row (P := Tryd.prog) (W.setRow g cs) g 34 34 cs (0, 0) _ (setRow_heap W g old cs _ (0, 0) h) Tryd.underlying34 rfl hi
  have h2' : tmps[9]?.getD undef = .pointer (some ⟨g, 0, none⟩) := by simpa using h2
  have h3' : tmps[8]?.getD undef = .int .u16 a := by simpa using h3
  simp [results, Tryd.results20, h2', h3', asAddr, hld]
set_option maxRecDepth 100000 in
set_option maxHeartbeats 8000000 in
theorem ref20_13 (b : Nat) (hb : b < 256) (hk : poK b = 13) (r : Rg) (hr : r.Ok) (v n : Int) (v0 : 0 ≤ v) (v1 : v < 65536) (n0 : 0 ≤ n) (w : World) :
    Calls Tryd.prog 20 #[.int .u8 (b : Int), .agg r.cells, .int .u16 v, .int .u16 n] w fun e w' => e = .returned (.tuple #[.int .u16 (idA 13 (poR b) (poO b) v n r), .agg (idR 13 (poR b) r).cells]) ∧ Below w.heap.size w w' := by
  have HR := Lib.hid hr
  have CP := Lib.hid (fun w => refOf_any b hb w)
  unfold refP at CP
  rw [hk] at CP
  have H2 := Lib.hid (idx_two w r)
  have HB := Lib.hid (Below.alloc0 (Below.alloc0 (Below.refl w.heap.size w) (Obj.cells r.cells 34)) (Obj.cells zRg.cells 34))
  clear hk
  go_enter Tryd.func20, Tryd.ntmps20
  go_wp2_with fail
  refine (CP.out _).mono ?_
  rintro e w1 ⟨rfl, hb1⟩
  have HRr := Lib.hid ((RgAt.below H2.out.1 hb1 H2.out.1.lt).al (Obj.cells #[.int .i64 (13 : Int), .int .i64 (poR b : Int), .int .i64 (poO b : Int), .bool (poI b), .int .i64 (poBytes 13 : Int), .int .i64 (poIdle 13 : Int)] 37))
  have HZ := Lib.hid ((RgAt.below H2.out.2 hb1 H2.out.2.lt).al (Obj.cells #[.int .i64 (13 : Int), .int .i64 (poR b : Int), .int .i64 (poO b : Int), .bool (poI b), .int .i64 (poBytes 13 : Int), .int .i64 (poIdle 13 : Int)] 37))
  have HP := Lib.hid (Blk.new w1 37 #[.int .i64 (13 : Int), .int .i64 (poR b : Int), .int .i64 (poO b : Int), .bool (poI b), .int .i64 (poBytes 13 : Int), .int .i64 (poIdle 13 : Int)] (0, 0))
  replace HB := Lib.hid (Below.alloc0 (Below.trans0 HB.out hb1) (Obj.cells #[.int .i64 (13 : Int), .int .i64 (poR b : Int), .int .i64 (poO b : Int), .bool (poI b), .int .i64 (poBytes 13 : Int), .int .i64 (poIdle 13 : Int)] 37))
  have LP := Lib.hid (show w.heap.size + 1 < w1.heap.size from Nat.lt_of_lt_of_le (by simp) hb1.size)
  clear hb1 H2 CP
  obtain ⟨r0, r1, r2, r3, r4, r5, r6, r7, r8⟩ := HRr.out.cells
  go_upto_region 3 with (fail)
  generalize w1.alloc _ = W at HRr HZ HP HB r0 r1 r2 r3 r4 r5 r6 r7 r8 ⊢
  go_still_tail 3, (by kernel_rfl)
  change wpList _ _ _ _ _ W.drew
  have HZd := Lib.hid (show RgAt W.drew (w.heap.size + 1) 34 zRg from HZ.out)
  replace HB := Lib.hid (Below.drew0 HB.out)
  generalize W.drew = w2 at HZd HB ⊢
  refine wpList_store_rowTo rfl 34 _ _ rfl rfl (w.heap.size + 1) r.cells rfl rfl 34 zRg.cells HZd.out (by kernel_rfl) rfl (cells_oneI r) ?_
  refine wpList_nil ?_
  rename_i hk'
  refine hk' _ _ ?_
  clear hk'
  refine wp_ret ?_
  show bodyPost Tryd.prog Tryd.f20 (fun e w' => e = _ ∧ Below w.heap.size w w') .ret _ _
  exact bodyPost_ret (v := .tuple #[.int .u16 v, .agg r.cells]) (resIdxR _ w2 (w.heap.size + 1) r.cells zRg.cells HZd.out rfl rfl rfl v rfl) rfl ⟨rfl, HB.out.trans (below_rowI' w2 (w.heap.size + 1) _ r.cells (by omega))⟩
set_option maxRecDepth 100000 in
set_option maxHeartbeats 8000000 in
theorem ref20_11 (b : Nat) (hb : b < 256) (hk : poK b = 11) (r : Rg) (hr : r.Ok) (v n : Int) (v0 : 0 ≤ v) (v1 : v < 65536) (n0 : 0 ≤ n) (w : World) :
    Calls Tryd.prog 20 #[.int .u8 (b : Int), .agg r.cells, .int .u16 v, .int .u16 n] w fun e w' => e = .returned (.tuple #[.int .u16 (idA 11 (poR b) (poO b) v n r), .agg (idR 11 (poR b) r).cells]) ∧ Below w.heap.size w w' := by
  have HR := Lib.hid hr
  have CP := Lib.hid (fun w => refOf_any b hb w)
  unfold refP at CP
  rw [hk] at CP
  have H2 := Lib.hid (idx_two w r)
  have HB := Lib.hid (Below.alloc0 (Below.alloc0 (Below.refl w.heap.size w) (Obj.cells r.cells 34)) (Obj.cells zRg.cells 34))
  clear hk
  have q10 : IntKind.u16.wrap (n + v) = (n + v) % 65536 := IntKind.wrap_u16 _
  go_enter Tryd.func20, Tryd.ntmps20
  go_wp2_with fail
  refine (CP.out _).mono ?_
  rintro e w1 ⟨rfl, hb1⟩
  have HRr := Lib.hid ((RgAt.below H2.out.1 hb1 H2.out.1.lt).al (Obj.cells #[.int .i64 (11 : Int), .int .i64 (poR b : Int), .int .i64 (poO b : Int), .bool (poI b), .int .i64 (poBytes 11 : Int), .int .i64 (poIdle 11 : Int)] 37))
  have HZ := Lib.hid ((RgAt.below H2.out.2 hb1 H2.out.2.lt).al (Obj.cells #[.int .i64 (11 : Int), .int .i64 (poR b : Int), .int .i64 (poO b : Int), .bool (poI b), .int .i64 (poBytes 11 : Int), .int .i64 (poIdle 11 : Int)] 37))
  have HP := Lib.hid (Blk.new w1 37 #[.int .i64 (11 : Int), .int .i64 (poR b : Int), .int .i64 (poO b : Int), .bool (poI b), .int .i64 (poBytes 11 : Int), .int .i64 (poIdle 11 : Int)] (0, 0))
  replace HB := Lib.hid (Below.alloc0 (Below.trans0 HB.out hb1) (Obj.cells #[.int .i64 (11 : Int), .int .i64 (poR b : Int), .int .i64 (poO b : Int), .bool (poI b), .int .i64 (poBytes 11 : Int), .int .i64 (poIdle 11 : Int)] 37))
  have LP := Lib.hid (show w.heap.size + 1 < w1.heap.size from Nat.lt_of_lt_of_le (by simp) hb1.size)
  clear hb1 H2 CP
  obtain ⟨r0, r1, r2, r3, r4, r5, r6, r7, r8⟩ := HRr.out.cells
  go_upto_region 5 with (fail)
  generalize w1.alloc _ = W at HRr HZ HP HB r0 r1 r2 r3 r4 r5 r6 r7 r8 ⊢
  go_still_tail 5, (by kernel_rfl)
  change wpList _ _ _ _ _ W.drew
  have HZd := Lib.hid (show RgAt W.drew (w.heap.size + 1) 34 zRg from HZ.out)
  replace HB := Lib.hid (Below.drew0 HB.out)
  generalize W.drew = w2 at HZd HB ⊢
  refine wpList_store_rowTo rfl 34 _ _ rfl rfl (w.heap.size + 1) r.cells rfl rfl 34 zRg.cells HZd.out (by kernel_rfl) rfl (cells_oneI r) ?_
  refine wpList_nil ?_
  rename_i hk'
  refine hk' _ _ ?_
  clear hk'
  refine wp_ret ?_
  show bodyPost Tryd.prog Tryd.f20 (fun e w' => e = _ ∧ Below w.heap.size w w') .ret _ _
  exact bodyPost_ret (v := .tuple #[.int .u16 ((n + v) % 65536), .agg r.cells]) (resIdxR _ w2 (w.heap.size + 1) r.cells zRg.cells HZd.out rfl rfl rfl ((n + v) % 65536) rfl) rfl ⟨rfl, HB.out.trans (below_rowI' w2 (w.heap.size + 1) _ r.cells (by omega))⟩
set_option maxRecDepth 100000 in
set_option maxHeartbeats 8000000 in
theorem ref20_12 (b : Nat) (hb : b < 256) (hk : poK b = 12) (r : Rg) (hr : r.Ok) (v n : Int) (v0 : 0 ≤ v) (v1 : v < 65536) (n0 : 0 ≤ n) (w : World) :
    Calls Tryd.prog 20 #[.int .u8 (b : Int), .agg r.cells, .int .u16 v, .int .u16 n] w fun e w' => e = .returned (.tuple #[.int .u16 (idA 12 (poR b) (poO b) v n r), .agg (idR 12 (poR b) r).cells]) ∧ Below w.heap.size w w' := by
  have HR := Lib.hid hr
  have CP := Lib.hid (fun w => refOf_any b hb w)
  unfold refP at CP
  rw [hk] at CP
  have H2 := Lib.hid (idx_two w r)
  have HB := Lib.hid (Below.alloc0 (Below.alloc0 (Below.refl w.heap.size w) (Obj.cells r.cells 34)) (Obj.cells zRg.cells 34))
  clear hk
  have q10 : IntKind.u16.wrap (n + v) = (n + v) % 65536 := IntKind.wrap_u16 _
  go_enter Tryd.func20, Tryd.ntmps20
  go_wp2_with fail
  refine (CP.out _).mono ?_
  rintro e w1 ⟨rfl, hb1⟩
  have HRr := Lib.hid ((RgAt.below H2.out.1 hb1 H2.out.1.lt).al (Obj.cells #[.int .i64 (12 : Int), .int .i64 (poR b : Int), .int .i64 (poO b : Int), .bool (poI b), .int .i64 (poBytes 12 : Int), .int .i64 (poIdle 12 : Int)] 37))
  have HZ := Lib.hid ((RgAt.below H2.out.2 hb1 H2.out.2.lt).al (Obj.cells #[.int .i64 (12 : Int), .int .i64 (poR b : Int), .int .i64 (poO b : Int), .bool (poI b), .int .i64 (poBytes 12 : Int), .int .i64 (poIdle 12 : Int)] 37))
  have HP := Lib.hid (Blk.new w1 37 #[.int .i64 (12 : Int), .int .i64 (poR b : Int), .int .i64 (poO b : Int), .bool (poI b), .int .i64 (poBytes 12 : Int), .int .i64 (poIdle 12 : Int)] (0, 0))
  replace HB := Lib.hid (Below.alloc0 (Below.trans0 HB.out hb1) (Obj.cells #[.int .i64 (12 : Int), .int .i64 (poR b : Int), .int .i64 (poO b : Int), .bool (poI b), .int .i64 (poBytes 12 : Int), .int .i64 (poIdle 12 : Int)] 37))
  have LP := Lib.hid (show w.heap.size + 1 < w1.heap.size from Nat.lt_of_lt_of_le (by simp) hb1.size)
  clear hb1 H2 CP
  obtain ⟨r0, r1, r2, r3, r4, r5, r6, r7, r8⟩ := HRr.out.cells
  go_upto_region 5 with (fail)
  generalize w1.alloc _ = W at HRr HZ HP HB r0 r1 r2 r3 r4 r5 r6 r7 r8 ⊢
  go_still_tail 5, (by kernel_rfl)
  change wpList _ _ _ _ _ W.drew
  have HZd := Lib.hid (show RgAt W.drew (w.heap.size + 1) 34 zRg from HZ.out)
  replace HB := Lib.hid (Below.drew0 HB.out)
  generalize W.drew = w2 at HZd HB ⊢
  refine wpList_store_rowTo rfl 34 _ _ rfl rfl (w.heap.size + 1) r.cells rfl rfl 34 zRg.cells HZd.out (by kernel_rfl) rfl (cells_oneI r) ?_
  refine wpList_nil ?_
  rename_i hk'
  refine hk' _ _ ?_
  clear hk'
  refine wp_ret ?_
  show bodyPost Tryd.prog Tryd.f20 (fun e w' => e = _ ∧ Below w.heap.size w w') .ret _ _
  exact bodyPost_ret (v := .tuple #[.int .u16 ((n + v) % 65536), .agg r.cells]) (resIdxR _ w2 (w.heap.size + 1) r.cells zRg.cells HZd.out rfl rfl rfl ((n + v) % 65536) rfl) rfl ⟨rfl, HB.out.trans (below_rowI' w2 (w.heap.size + 1) _ r.cells (by omega))⟩
end Go.Proofs.YtoogaenknjdpcacDoor
