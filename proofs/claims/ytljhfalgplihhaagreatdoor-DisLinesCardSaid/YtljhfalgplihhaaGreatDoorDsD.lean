/- Package dis: the document's indexed operand. -/
import Derived.Test.YtljhfalgplihhaaGreatDoorDsC
import Derived.Great.Walk
namespace Go.Proofs.YtljhfalgplihhaaGreatDoor
open Go.ChangeShapes Go.WideShapes Go.ChangeAt Go.RowKit
set_option linter.unusedVariables false
theorem pc_fin : ((List.range 256).all fun b => !(Nat.beq (poK b) 11 || Nat.beq (poK b) 12) || Nat.beq (poR b) 5) = true := by decide +kernel
theorem pc_at (b : Nat) (hb : b < 256) (h : poK b = 11 ∨ poK b = 12) : byteStr (regI (poR b : Int)) = ⟨#[80, 67]⟩ := by
  have := allB 256 _ pc_fin b hb
  have h5 : poR b = 5 := by
    rcases h with h | h <;> (rw [h] at this; simpa using this)
  rw [h5]; decide +kernel
set_option maxHeartbeats 4000000 in
set_option maxRecDepth 100000 in
theorem refIndexed_any (b : Nat) (hb : b < 256) (v : Int) (w : World) (v0 : 0 ≤ v) (v1 : v < 65536) :
    Calls Tryz.prog 19 #[.int .u8 (b : Int), .int .u16 v] w fun e w' => e = .returned (.string (idxT (poK b) (byteStr (regI (poR b : Int))) (poO b : Int) v (poI b))) ∧ Below w.heap.size w w' := by
  have o1 : poO b < 65536 := by unfold poO; omega
  have CP := Lib.hid (fun u => refOf_any b hb u)
  have CR := Lib.hid (fun u => refRegI_any (poR b : Int) u)
  have CO := Lib.hid (fun u => refSigned_any (poO b : Int) u (by omega) (by omega))
  have CV := Lib.hid (fun u => refSigned_any v u v0 v1)
  have CH : Hid (∀ u, Calls Tryz.prog 18 #[.int .i64 v, .int .i64 4] u fun e w' => e = .returned (.string (hexT v 4)) ∧ u = w') := Lib.hid (fun u => refHex42_any v 4 u v0 v1 (by omega) (by omega))
  have HPC := Lib.hid (pc_at b hb)
  have hk14 := poK_lt b hb
  have hS := regI_two (poR b : Int)
  have h1 := signT_size (poO b : Int) (by omega) (by omega)
  have h2 := signT_size v v0 v1
  have h3 := hexT_size v 4 v0 v1 (by omega)
  have hz := pntT_size (poK b) (byteStr (regI (poR b : Int))) (poO b : Int) v hS (by omega) (by omega) v0 v1
  have hu : IntKind.u16.wrap (poO b : Int) = (poO b : Int) := by rw [IntKind.wrap_u16]; omega
  have HX : Hid (pntT (poK b) (byteStr (regI (poR b : Int))) (poO b : Int) v = pntT (poK b) (byteStr (regI (poR b : Int))) (poO b : Int) v) := Lib.hid rfl
  unfold refP at CP
  unfold idxT
  have HD := Lib.hid (show ∀ k S o v, pntT k S o v = pntT k S o v from fun _ _ _ _ => rfl)
  have HU := Lib.hid (show pntT (poK b) (byteStr (regI (poR b : Int))) (poO b : Int) v = (if poK b = 1 then signT (poO b : Int) ++ (⟨#[44]⟩ ++ byteStr (regI (poR b : Int))) else if poK b = 2 ∨ poK b = 11 then (⟨#[60]⟩ ++ signT v) ++ (⟨#[44]⟩ ++ byteStr (regI (poR b : Int))) else if poK b = 3 ∨ poK b = 12 then (⟨#[62]⟩ ++ hexT v 4) ++ (⟨#[44]⟩ ++ byteStr (regI (poR b : Int)))
  else if poK b = 4 then ⟨#[65]⟩ ++ (⟨#[44]⟩ ++ byteStr (regI (poR b : Int))) else if poK b = 5 then ⟨#[66]⟩ ++ (⟨#[44]⟩ ++ byteStr (regI (poR b : Int))) else if poK b = 6 then ⟨#[68]⟩ ++ (⟨#[44]⟩ ++ byteStr (regI (poR b : Int)))
  else if poK b = 7 then (⟨#[44]⟩ ++ byteStr (regI (poR b : Int))) ++ ⟨#[43]⟩ else if poK b = 8 then (⟨#[44]⟩ ++ byteStr (regI (poR b : Int))) ++ ⟨#[43, 43]⟩ else if poK b = 9 then ⟨#[44, 45]⟩ ++ byteStr (regI (poR b : Int)) else if poK b = 10 then ⟨#[44, 45, 45]⟩ ++ byteStr (regI (poR b : Int))
  else if poK b = 13 then hexT v 4 else ⟨#[44]⟩ ++ byteStr (regI (poR b : Int))) from rfl)
  clear HX HD
  generalize pntT (poK b) (byteStr (regI (poR b : Int))) (poO b : Int) v = Z at HU hz ⊢
  generalize byteStr (regI (poR b : Int)) = S at CR hS HPC HU
  generalize signT (poO b : Int) = So at CO h1 HU
  generalize signT v = Sv at CV h2 HU
  generalize hexT v 4 = Hv at CH h3 HU
  generalize poI b = d at CP ⊢
  generalize (poBytes (poK b) : Int) = x4 at CP
  generalize (poIdle (poK b) : Int) = x5 at CP
  generalize (poR b : Int) = r at CR CP
  generalize (poO b : Int) = o at CO CP hu
  generalize poK b = k at CP HPC HU hk14
  have y1 : 1 + Z.size ≤ 100 := by omega
  have y2 : 1 + Z.size + 1 ≤ 100 := by omega
  have z1 : 1 + S.size ≤ 100 := by omega
  have z2 : So.size + 1 ≤ 100 := by omega
  have z2b : So.size + 1 + S.size ≤ 100 := by omega
  have z3 : 1 + Sv.size ≤ 100 := by omega
  have z4 : 1 + Sv.size + 1 ≤ 100 := by omega
  have z4b : 1 + Sv.size + 1 + S.size ≤ 100 := by omega
  have z4c : 1 + Sv.size + 3 ≤ 100 := by omega
  have z5 : 1 + Hv.size ≤ 100 := by omega
  have z6 : 1 + Hv.size + 1 ≤ 100 := by omega
  have z6b : 1 + Hv.size + 1 + S.size ≤ 100 := by omega
  have z6c : 1 + Hv.size + 3 ≤ 100 := by omega
  have z7 : 2 + S.size ≤ 100 := by omega
  have z8 : 1 + S.size + 1 ≤ 100 := by omega
  have z9 : 1 + S.size + 2 ≤ 100 := by omega
  have zb : 3 + S.size ≤ 100 := by omega
  clear hS h1 h2 h3 hz o1
  go_enter Tryz.func19, Tryz.ntmps19
  go_wp2_with fail
  refine (CP.out _).mono ?_
  rintro e w1 ⟨rfl, hb1⟩
  have HB1 := Lib.hid (Below.alloc0 hb1 (Obj.cells #[.int .i64 (k : Int), .int .i64 r, .int .i64 o, .bool d, .int .i64 x4, .int .i64 x5] 79))
  have HG1 := Lib.hid (Blk.new w1 79 #[.int .i64 (k : Int), .int .i64 r, .int .i64 o, .bool d, .int .i64 x4, .int .i64 x5] (0, 0))
  clear hb1
  go_wp2_with fail
  refine (CR.out _).mono ?_
  rintro e w2 ⟨rfl, hb2⟩
  have HB2 := Lib.hid (Below.trans0 HB1.out hb2)
  have HG2 := Lib.hid (Blk.below HG1.out hb2 HG1.out.lt)
  clear hb2 HG1 HB1
  obtain ⟨g, hg⟩ : ∃ g, w1.heap.size = g := ⟨_, rfl⟩
  rw [hg] at HG2 ⊢
  have c0 : w2.cell? ⟨g, 0, none⟩ = some (.int .i64 (k : Int)) := by rw [HG2.out.cell]; rfl
  have c2 : w2.cell? ⟨g, 2, none⟩ = some (.int .i64 o) := by rw [HG2.out.cell]; rfl
  have c3 : w2.cell? ⟨g, 3, none⟩ = some (.bool d) := by rw [HG2.out.cell]; rfl
  have hlt := HG2.out.lt
  clear hg
  go_upto_region 4 with (first
    | (go_at_call 34
       (first | (with_reducible refine (CO.out _).mono ?_) | (with_reducible refine (CV.out _).mono ?_))
       rintro e w' ⟨rfl, rfl⟩)
    | (go_at_call 18
       (with_reducible refine (CH.out _).mono ?_)
       rintro e w' ⟨rfl, rfl⟩))
  obtain ⟨R, hR⟩ : ∃ R : Array Value, R = #[.string (⟨#[44]⟩ ++ S), .string (So ++ ⟨#[44]⟩ ++ S), .string (⟨#[60]⟩ ++ Sv ++ ⟨#[44]⟩ ++ S), .string (⟨#[62]⟩ ++ Hv ++ ⟨#[44]⟩ ++ S), .string (⟨#[65, 44]⟩ ++ S), .string (⟨#[66, 44]⟩ ++ S), .string (⟨#[68, 44]⟩ ++ S), .string (⟨#[44]⟩ ++ S ++ ⟨#[43]⟩), .string (⟨#[44]⟩ ++ S ++ ⟨#[43, 43]⟩), .string (⟨#[44, 45]⟩ ++ S), .string (⟨#[44, 45, 45]⟩ ++ S), .string (⟨#[60]⟩ ++ Sv ++ ⟨#[44, 80, 67]⟩), .string (⟨#[62]⟩ ++ Hv ++ ⟨#[44, 80, 67]⟩), .string Hv] := ⟨_, rfl⟩
  rw [← hR]
  have hz : R[k]? = some (.string Z) := by
    subst hR
    rw [HU.out]
    have hpc := HPC.out
    clear CO CV CH CR CP HG2 HB2 c0 c2 c3 HPC HU
    rcases (show k = 0 ∨ k = 1 ∨ k = 2 ∨ k = 3 ∨ k = 4 ∨ k = 5 ∨ k = 6 ∨ k = 7 ∨ k = 8 ∨ k = 9 ∨ k = 10 ∨ k = 11 ∨ k = 12 ∨ k = 13 by omega) with rfl | rfl | rfl | rfl | rfl | rfl | rfl | rfl | rfl | rfl | rfl | rfl | rfl | rfl
    all_goals try simp (decide := true) only [↓reduceIte]
    all_goals first
      | rfl
      | (apply congrArg some; apply congrArg Value.string; apply ByteArray.ext; simp [ByteArray.data_append]; done)
      | (rw [hpc (.inl rfl)]; apply congrArg some; apply congrArg Value.string; apply ByteArray.ext; simp [ByteArray.data_append]; done)
      | (rw [hpc (.inr rfl)]; apply congrArg some; apply congrArg Value.string; apply ByteArray.ext; simp [ByteArray.data_append]; done)
  have HZ := Lib.hid (show (w2.alloc (Obj.cells R 82)).cell? ⟨w2.heap.size, k, none⟩ = some (.string Z) by rw [(Blk.new w2 82 R (0, 0)).cell]; exact hz)
  have HG3 := Lib.hid (Blk.alloc HG2.out (Obj.cells R 82))
  have HB3 := Lib.hid (Below.alloc0 HB2.out (Obj.cells R 82))
  clear hR hz c0 c2 c3 HPC HU HG2 HB2 CO CV CH CR CP
  generalize w2.alloc (Obj.cells R 82) = W3 at HZ HG3 HB3 ⊢
  generalize w2.heap.size = g3 at HZ ⊢
  have c0 : W3.cell? ⟨g, 0, none⟩ = some (.int .i64 (k : Int)) := by rw [HG3.out.cell]; rfl
  have c3 : W3.cell? ⟨g, 3, none⟩ = some (.bool d) := by rw [HG3.out.cell]; rfl
  have cz := HZ.out
  have k1 : (k : Int) < 14 := by omega
  clear hk14 hlt
  cases d
  all_goals
    go_wp2
    go_ret
    exact ⟨rfl, HB3.out⟩
end Go.Proofs.YtljhfalgplihhaaGreatDoor
