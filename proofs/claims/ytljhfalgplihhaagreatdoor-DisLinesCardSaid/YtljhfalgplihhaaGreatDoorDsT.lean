/- Package dis: a whole text. -/
import Derived.Test.YtljhfalgplihhaaGreatDoorDsF
import Derived.Test.YtljhfalgplihhaaGreatDoorDsR
namespace Go.Proofs.YtljhfalgplihhaaGreatDoor
open Go.ChangeShapes Go.WideShapes Go.ChangeAt Go.RowKit
set_option linter.unusedVariables false
noncomputable def nmT (o r : Int) : ByteArray := byteStr (nameI o r)
noncomputable def lineT (N O : ByteArray) : ByteArray := if O.toList.isEmpty then N else N ++ ⟨#[32]⟩ ++ O
noncomputable def textT (o m r : Int) (b : Nat) (v l a : Int) (X : List Int) : ByteArray := if surI o m b then lineT (nmT o r) (oprT m r b v l a) else ⟨#[70, 67, 66, 32]⟩ ++ rawT X
/-- The document's way: one number behind the other. -/
noncomputable def seqT (X : List Int) : Nat → ByteArray
  | 0 => ⟨#[]⟩
  | k + 1 => (if k = 0 then seqT X k else seqT X k ++ ⟨#[44]⟩) ++ hexT (iat X k) 2
theorem hexT_list (x : Int) : (hexT x 2).data.toList.length = (hexT x 2).size := rfl
theorem seqT_raw (X : List Int) (h : X.length ≤ 5) : seqT X X.length = rawT X := by
  match X, h with
  | [], _ => rfl
  | [x0], _ => unfold rawT rawL; apply ByteArray.ext; simp [seqT, Lib.join, List.intercalate, iat, ByteArray.data_append]
  | [x0, x1], _ => unfold rawT rawL; apply ByteArray.ext; simp [seqT, Lib.join, List.intercalate, iat, ByteArray.data_append]
  | [x0, x1, x2], _ => unfold rawT rawL; apply ByteArray.ext; simp [seqT, Lib.join, List.intercalate, iat, ByteArray.data_append]
  | [x0, x1, x2, x3], _ => unfold rawT rawL; apply ByteArray.ext; simp [seqT, Lib.join, List.intercalate, iat, ByteArray.data_append]
  | [x0, x1, x2, x3, x4], _ => unfold rawT rawL; apply ByteArray.ext; simp [seqT, Lib.join, List.intercalate, iat, ByteArray.data_append]
  | _ :: _ :: _ :: _ :: _ :: _ :: _, h => simp at h
theorem seqT_size (X : List Int) (hwf : ∀ k, 0 ≤ iat X k ∧ iat X k < 256) : ∀ k, (seqT X k).size ≤ 18 * k
  | 0 => by show 0 ≤ _; omega
  | k + 1 => by
    have := seqT_size X hwf k
    have := hexT_size (iat X k) 2 (hwf k).1 (by have := (hwf k).2; omega) (by omega)
    unfold seqT
    split
    · rw [ByteArray.size_append]; omega
    · have e1 : (⟨#[44]⟩ : ByteArray).size = 1 := rfl
      rw [ByteArray.size_append, ByteArray.size_append, e1]; omega
theorem rawT_size (X : List Int) (h : X.length ≤ 5) (hwf : ∀ k, 0 ≤ iat X k ∧ iat X k < 256) : (rawT X).size ≤ 90 := by
  have := seqT_size X hwf X.length
  rw [seqT_raw X h] at this
  omega
theorem raw_len (X : List Int) (h : X.length ≤ 5) (hwf : ∀ k, 0 ≤ iat X k ∧ iat X k < 256) : (Lib.join ((rawL X).map (·.data.toList)) [44]).length ≤ 1000 := by
  have := rawT_size X h hwf
  have e : (rawT X).size = (Lib.join ((rawL X).map (·.data.toList)) [44]).length := by unfold rawT; simp [ByteArray.size]
  omega
theorem nmT_size (o r : Int) : (nmT o r).size ≤ 1010 := by
  have h1 := end_size o r
  have h2 : ((List.range 52).all fun k => Nat.ble (stemNames.getD k []).length 10) = true := by decide +kernel
  unfold nmT nameI
  split
  · rename_i h
    split
    · rw [byteStr_append, ByteArray.size_append]
      have := allB 52 _ h2 o.toNat (by omega)
      have := Nat.le_of_ble_eq_true this
      have e : (byteStr (stemNames.getD o.toNat [])).size = (stemNames.getD o.toNat []).length := rfl
      omega
    · decide
  · decide
theorem oprT_size (m r : Int) (b : Nat) (v l a : Int) (hb : b < 256) (v0 : 0 ≤ v) (v1 : v < 65536) : (oprT m r b v l a).size ≤ 60 := by
  have h1 := hexT_size (v % 256) 2 (by omega) (by omega) (by omega)
  have h2 := hexT_size v 4 v0 v1 (by omega)
  have ht : 0 ≤ tgtI m l v a ∧ tgtI m l v a < 65536 := by unfold tgtI; split <;> omega
  have h3 := hexT_size (tgtI m l v a) 4 ht.1 ht.2 (by omega)
  have ho1 : poO b < 65536 := by unfold poO; omega
  have h4 := pntT_size (poK b) (byteStr (regI (poR b : Int))) (poO b : Int) v (regI_two _) (by omega) (by omega) v0 v1
  have h5 := regT_size ((b / 16 : Nat) : Int) (by omega) (by omega)
  have h6 := regT_size ((b % 16 : Nat) : Int) (by omega) (by omega)
  have h7 := (back_txt b hb (r == 3)).1
  have e7 : (byteStr (txtL b (r == 3) 8)).size = (txtL b (r == 3) 8).length := rfl
  unfold oprT idxT
  repeat' split
  all_goals ((try simp only [ByteArray.size_append, lit_size, List.size_toArray, List.length_cons, List.length_nil]); omega)
/-- All tables that a text reads. -/
def DisAt (w : World) : Prop := TabO w ∧ TabAt w ∧ PagAt w ∧ KindsAt w
theorem DisAt.below {w w' : World} (h : DisAt w) (hb : Below w.heap.size w w') : DisAt w' := ⟨h.1.below hb, h.2.1.below hb, h.2.2.1.below hb, kinds_below h.2.2.2 hb⟩
theorem operand_any (p c o m r v l a : Int) (b : Nat) (hb : b < 256) (w : World) (l0 : 0 ≤ l) (l1 : l ≤ 100) (v0 : 0 ≤ v) (v1 : v < 65536) (a0 : 0 ≤ a) (a1 : a < 65536) (hD : DisAt w) :
    Calls Tryz.prog 52 #[.agg (iC p c o m r (b : Int) v l), .int .u16 a] w fun e w' => e = .returned (.string (oprT m r b v l a)) ∧ Below w.heap.size w w' := by
  rcases (show m = 1 ∨ m = 2 ∨ m = 3 ∨ m = 4 ∨ m = 5 ∨ m = 6 ∨ m = 7 ∨ m = 8 ∨ m = 9 ∨ (m < 1 ∨ 9 < m) by omega) with rfl | rfl | rfl | rfl | rfl | rfl | rfl | rfl | rfl | h
  · exact operand1_any p c o r v l a b w v0 v1
  · exact operand2_any p c o r v l a b w v0 v1
  · exact operand3_any p c o r v l a b w v0 v1
  · exact operand4_any p c o r v l a b hb w v0 v1 hD.1.1 hD.2.2.2
  · exact operand5_any p c o r v l a b w v0 v1
  · exact operand6_any p c o r v l a b w l0 l1 v0 v1 a0 a1
  · exact operand7_any p c o r v l a b w l0 l1 v0 v1 a0 a1
  · exact operand8_any p c o r v l a b hb w hD.1.1
  · exact operand9_any p c o r v l a b hb w hD.2.1
  · exact operand0_any p c o m r v l a b w h
set_option maxHeartbeats 2000000 in
set_option maxRecDepth 100000 in
theorem disText_any (p c o m r v l a : Int) (b : Nat) (hb : b < 256) (hc0 : 0 ≤ c) (hc1 : c < 256) (w : World) (l0 : 0 ≤ l) (l1 : l ≤ 100) (v0 : 0 ≤ v) (v1 : v < 65536) (a0 : 0 ≤ a) (a1 : a < 65536) (hD : DisAt w)
    (hok : putOk p c o m r b v l (putX p c m b v) = true) (hwf : ∀ k, 0 ≤ iat (putX p c m b v) k ∧ iat (putX p c m b v) k < 256) :
    Calls Tryz.prog 28 #[.agg (iC p c o m r (b : Int) v l), .int .u16 a] w fun e w' => e = .returned (.string (textT o m r b v l a (putX p c m b v))) ∧ Below w.heap.size w w' := by
  have HB0 := Lib.hid (Below.alloc0 (Below.refl w.heap.size w) (Obj.cells (iC p c o m r (b : Int) v l) 37))
  have HI0 := Lib.hid (Blk.new w 37 (iC p c o m r (b : Int) v l) (0, 0))
  have HDx := Lib.hid (fun wx (hb : Below w.heap.size w wx) => hD.below hb)
  have CS := Lib.hid (fun u (h : DisAt u) => disSure_any p c o m r v l b hb u h.2.2.2)
  have CO := Lib.hid (fun u (h : DisAt u) => operand_any p c o m r v l a b hb u l0 l1 v0 v1 a0 a1 h)
  have CN : Hid (∀ u, DisAt u → Calls Tryz.prog 51 #[.int .i64 o, .int .i64 r] u fun e w' => e = .returned (.string (nmT o r)) ∧ u = w') := Lib.hid (fun u h => opsName_any o r u h.1)
  have hX := putX_len p c m b v
  have CR := Lib.hid (fun u (h : DisAt u) => raw_any p c o m r v l b hc0 hc1 hb v0 v1 u h.2.2.1 h.2.2.2 hok hwf (raw_len _ (by omega) hwf))
  have s1 := oprT_size m r b v l a hb v0 v1
  have s2 := nmT_size o r
  have s3 := rawT_size (putX p c m b v) (by omega) hwf
  unfold textT lineT
  clear hok hwf hD
  generalize surI o m b = F at CS ⊢
  generalize putX p c m b v = X at CR hX s3 ⊢
  generalize rawT X = S3 at CR s3 ⊢
  generalize oprT m r b v l a = S1 at CO s1 ⊢
  generalize nmT o r = S2 at CN s2 ⊢
  have z1 : S2.size + 1 ≤ 2000 := by omega
  have z2 : S2.size + 1 + S1.size ≤ 2000 := by omega
  have z3 : 4 + S3.size ≤ 2000 := by omega
  clear s1 s2 s3
  cases F
  · go_enter Tryz.func28, Tryz.ntmps28
    go_wp2_with fail
    refine (CS.out _ (HDx.out _ HB0.out)).mono ?_
    rintro e w1 ⟨rfl, hb1⟩
    have HB1 := Lib.hid (Below.trans0 HB0.out hb1)
    have HI1 := Lib.hid (Blk.below HI0.out hb1 (by simp))
    clear hb1
    obtain ⟨c0, c1, c2, c3, c4, c5, c6, c7⟩ := HI1.out.s8
    go_wp2_with fail
    refine (CR.out _ (HDx.out _ HB1.out)).mono ?_
    rintro e w2 ⟨rfl, hb2⟩
    have HB2 := Lib.hid (Below.trans0 HB1.out hb2)
    clear hb2 c0 c1 c2 c3 c4 c5 c6 c7
    go_wp2
    go_ret
    exact ⟨rfl, HB2.out⟩
  · cases hE : S1.toList.isEmpty
    all_goals
      go_enter Tryz.func28, Tryz.ntmps28
      go_wp2_with fail
      refine (CS.out _ (HDx.out _ HB0.out)).mono ?_
      rintro e w1 ⟨rfl, hb1⟩
      have HB1 := Lib.hid (Below.trans0 HB0.out hb1)
      have HI1 := Lib.hid (Blk.below HI0.out hb1 (by simp))
      clear hb1
      obtain ⟨c0, c1, c2, c3, c4, c5, c6, c7⟩ := HI1.out.s8
      go_wp2_with fail
      refine (CN.out _ (HDx.out _ HB1.out)).mono ?_
      rintro e w2 ⟨rfl, rfl⟩
      go_wp2_with fail
      refine (CO.out _ (HDx.out _ HB1.out)).mono ?_
      rintro e w3 ⟨rfl, hb2⟩
      have HB2 := Lib.hid (Below.trans0 HB1.out hb2)
      clear hb2 c0 c1 c2 c3 c4 c5 c6 c7
      go_wp2
      go_ret
      exact ⟨rfl, HB2.out⟩
end Go.Proofs.YtljhfalgplihhaaGreatDoor
