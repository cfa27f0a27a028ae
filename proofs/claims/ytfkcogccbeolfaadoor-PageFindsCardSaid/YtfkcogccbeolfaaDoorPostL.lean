/- The law PostBytes, over a byte as a number. -/
import Derived.Test.YtfkcogccbeolfaaDoorPostU
import Derived.Test.YtfkcogccbeolfaaDoorLaid
namespace Go.Proofs.YtfkcogccbeolfaaDoor
open Go.ChangeShapes Go.WideShapes Go.ChangeAt Go.RowKit
set_option linter.unusedVariables false

def kindsL : List Int := [7, 8, 9, 10, 0, 5, 4, 0, 2, 3, 0, 6, 11, 12, 0, 13]
theorem kindsL_at : ∀ k : Fin 16, kindsL.getD k.val 0 = (kinds16 k.val : Int) := by decide +kernel
theorem KindsAt.of_laid {W : World} (h : laidMetH Tryd.prog [("spinet/post.kinds", Lib.tabData .i64 kindsL)] W) : KindsAt W := fun k hk => by
  have := intTab_of_laid (g := 2) (t := 101) (e := 3) (n := 16) (by kernel_rfl) (by kernel_rfl) Tryd.underlying101 Tryd.underlying3 (by kernel_rfl) (by kernel_rfl) h k hk
  rw [this, kindsL_at ⟨k, hk⟩]
theorem Blk.s6 {w : World} {g : Nat} {t : TypeId} {k r o x y : Int} {d : Bool} (h : Blk w g t #[.int .i64 k, .int .i64 r, .int .i64 o, .bool d, .int .i64 x, .int .i64 y]) :
    w.cell? ⟨g, 0, none⟩ = some (.int .i64 k) ∧ w.cell? ⟨g, 1, none⟩ = some (.int .i64 r) ∧ w.cell? ⟨g, 2, none⟩ = some (.int .i64 o) ∧ w.cell? ⟨g, 3, none⟩ = some (.bool d) ∧ w.cell? ⟨g, 4, none⟩ = some (.int .i64 x) ∧ w.cell? ⟨g, 5, none⟩ = some (.int .i64 y) := by
  refine ⟨?_, ?_, ?_, ?_, ?_, ?_⟩ <;> (rw [h.cell]; rfl)
theorem Blk.new2 (w : World) (o : Obj) (t : TypeId) (cs : Array Value) : Blk ((w.alloc o).alloc (.cells cs t)) (w.heap.size + 1) t cs := by
  have e : (w.alloc o).heap.size = w.heap.size + 1 := by simp
  have := Blk.new (w.alloc o) t cs (0, 0)
  rw [e] at this
  exact this
theorem poO_lt (b : Nat) : poO b < 65536 := by unfold poO; omega
set_option maxRecDepth 100000 in
set_option maxHeartbeats 2000000 in
theorem law_bytes (b : Nat) (hb : b < 256) (w : World) (hT : KindsAt w) :
    Calls Tryd.prog 7 #[.int .u8 (b : Int)] w fun e w' => e = .returned (.bool true) ∧ Below w.heap.size w w' := by
  have C1 := Lib.hid (of_any b hb w hT)
  have C2 := Lib.hid (fun w => refOf_any b hb w)
  have hself : hitQ (poK b) (poR b) (poO b) (poI b) b = true := by rw [hitQ_self, Nat.beq_eq]
  have hO := poO_lt b
  have sa := fun w => same_any (poK b) (poR b) (poO b) (poI b) b hb (by omega) (by omega) w
  rw [hself] at sa
  have SA := Lib.hid sa
  have CB := Lib.hid (fun w => bytes_any (poK b) (poR b) (poO b) (poI b) w (poK b) rfl (poK_lt b hb))
  have CI := Lib.hid (fun w => idle_any (poK b) (poR b) (poO b) (poI b) w (poK b) rfl (poK_lt b hb))
  have CE := Lib.hid (fun w => extra_any (poK b) (poR b) (poO b) (poI b) w (poK b) rfl (poK_lt b hb))
  have CR := Lib.hid (fun w => refExtra_any b hb w)
  have HT := Lib.hid hT
  clear hT hself hO sa
  go_enter Tryd.func7, Tryd.ntmps7
  go_wp2_with fail
  refine C1.out.mono ?_
  rintro e w1 ⟨rfl, hb1⟩
  have Hb1 := Lib.hid hb1
  clear hb1
  go_wp2_with fail
  refine (C2.out _).mono ?_
  rintro e w2 ⟨rfl, hb2⟩
  have Hb2 := Lib.hid (Below.trans0 Hb1.out hb2)
  clear hb2
  have HP0 := Lib.hid (Blk.alloc (Blk.new w2 47 #[.int .i64 (poK b : Int), .int .i64 (poR b : Int), .int .u16 (poO b : Int), .bool (poI b)] (0, 0)) (Obj.cells (refP b) 50))
  have HX0 := Lib.hid (Blk.new2 w2 (Obj.cells #[.int .i64 (poK b : Int), .int .i64 (poR b : Int), .int .u16 (poO b : Int), .bool (poI b)] 47) 50 (refP b))
  have HA0 := Lib.hid (Below.alloc0 (Below.alloc0 Hb2.out (Obj.cells #[.int .i64 (poK b : Int), .int .i64 (poR b : Int), .int .u16 (poO b : Int), .bool (poI b)] 47)) (Obj.cells (refP b) 50))
  go_wp2
  go_region_held3 (fun w' => (w'.cell? ⟨w2.heap.size, 0, none⟩ = some (.int .i64 (poK b : Int)) ∧ w'.cell? ⟨w2.heap.size, 1, none⟩ = some (.int .i64 (poR b : Int)) ∧ w'.cell? ⟨w2.heap.size, 2, none⟩ = some (.int .u16 (poO b : Int)) ∧ w'.cell? ⟨w2.heap.size, 3, none⟩ = some (.bool (poI b))) ∧ (w'.cell? ⟨w2.heap.size + 1, 0, none⟩ = some (.int .i64 (poK b : Int)) ∧ w'.cell? ⟨w2.heap.size + 1, 1, none⟩ = some (.int .i64 (poR b : Int)) ∧ w'.cell? ⟨w2.heap.size + 1, 2, none⟩ = some (.int .i64 (poO b : Int)) ∧ w'.cell? ⟨w2.heap.size + 1, 3, none⟩ = some (.bool (poI b)) ∧ w'.cell? ⟨w2.heap.size + 1, 4, none⟩ = some (.int .i64 (poBytes (poK b) : Int)) ∧ w'.cell? ⟨w2.heap.size + 1, 5, none⟩ = some (.int .i64 (poIdle (poK b) : Int))))
    (first
      | exact ⟨HP0.out.s4, HX0.out.s6⟩
      | exact ⟨HP1.out.s4, HX1.out.s6⟩
      | exact ⟨HP2.out.s4, HX2.out.s6⟩
      | exact ⟨HP3.out.s4, HX3.out.s6⟩
      | exact ⟨HP4.out.s4, HX4.out.s6⟩
      | exact ⟨HP5.out.s4, HX5.out.s6⟩
      | exact ⟨HP6.out.s4, HX6.out.s6⟩)
    (first
      | (go_at_call 30; (refine (SA.out _).mono ?_; rintro e v1 ⟨rfl, hb⟩; have HP1 := Lib.hid (by first | exact Blk.below HP0.out hb HP0.out.lt | exact Blk.belowD HP0.out hb HP0.out.lt); have HX1 := Lib.hid (by first | exact Blk.below HX0.out hb HX0.out.lt | exact Blk.belowD HX0.out hb HX0.out.lt); have HA1 := Lib.hid (show Below w.heap.size w v1 by first | exact Below.trans0 HA0.out hb | exact Below.trans0 (Below.drew0 HA0.out) hb); clear hb))
      | (go_at_call 31; (refine (CB.out _).mono ?_; rintro e v2 ⟨rfl, hb⟩; have HP2 := Lib.hid (by first | exact Blk.below HP1.out hb HP1.out.lt | exact Blk.belowD HP1.out hb HP1.out.lt); have HX2 := Lib.hid (by first | exact Blk.below HX1.out hb HX1.out.lt | exact Blk.belowD HX1.out hb HX1.out.lt); have HA2 := Lib.hid (show Below w.heap.size w v2 by first | exact Below.trans0 HA1.out hb | exact Below.trans0 (Below.drew0 HA1.out) hb); clear hb))
      | (go_at_call 32; (refine (CI.out _).mono ?_; rintro e v3 ⟨rfl, hb⟩; have HP3 := Lib.hid (by first | exact Blk.below HP2.out hb HP2.out.lt | exact Blk.belowD HP2.out hb HP2.out.lt); have HX3 := Lib.hid (by first | exact Blk.below HX2.out hb HX2.out.lt | exact Blk.belowD HX2.out hb HX2.out.lt); have HA3 := Lib.hid (show Below w.heap.size w v3 by first | exact Below.trans0 HA2.out hb | exact Below.trans0 (Below.drew0 HA2.out) hb); clear hb))
      | (go_at_call 33; (refine (CE.out _).mono ?_; rintro e v4 ⟨rfl, hb⟩; have HP4 := Lib.hid (by first | exact Blk.below HP3.out hb HP3.out.lt | exact Blk.belowD HP3.out hb HP3.out.lt); have HX4 := Lib.hid (by first | exact Blk.below HX3.out hb HX3.out.lt | exact Blk.belowD HX3.out hb HX3.out.lt); have HA4 := Lib.hid (show Below w.heap.size w v4 by first | exact Below.trans0 HA3.out hb | exact Below.trans0 (Below.drew0 HA3.out) hb); clear hb))
      | (go_at_call 34; (refine (CR.out _).mono ?_; rintro e v5 ⟨rfl, hb⟩; have HP5 := Lib.hid (by first | exact Blk.below HP4.out hb HP4.out.lt | exact Blk.belowD HP4.out hb HP4.out.lt); have HX5 := Lib.hid (by first | exact Blk.below HX4.out hb HX4.out.lt | exact Blk.belowD HX4.out hb HX4.out.lt); have HA5 := Lib.hid (show Below w.heap.size w v5 by first | exact Below.trans0 HA4.out hb | exact Below.trans0 (Below.drew0 HA4.out) hb); clear hb))
      | (go_at_call 35; (refine (alive15 _ (HT.out.below HA5.out)).mono ?_; rintro e v6 ⟨rfl, hb⟩; have HP6 := Lib.hid (by first | exact Blk.below HP5.out hb HP5.out.lt | exact Blk.belowD HP5.out hb HP5.out.lt); have HX6 := Lib.hid (by first | exact Blk.below HX5.out hb HX5.out.lt | exact Blk.belowD HX5.out hb HX5.out.lt); have HA6 := Lib.hid (show Below w.heap.size w v6 by first | exact Below.trans0 HA5.out hb | exact Below.trans0 (Below.drew0 HA5.out) hb); clear hb)))
  go_wp2
  go_ret
  exact ⟨rfl, by first | exact HA6.out | exact Below.drew0 HA6.out⟩
end Go.Proofs.YtfkcogccbeolfaaDoor
