/- Bit, LstK, TxtN, LstL, Strs, TxtO in one text. -/
import Derived.Test.YtljhfalgplihhaaGreatDoorMem
import Derived.Test.YtljhfalgplihhaaGreatDoorLstF
import Derived.Test.YtljhfalgplihhaaGreatDoorShelf
import Derived.Deep.QuietTactic
import Derived.BigQuiet
import Derived.Lib.Join
import Derived.Test.YtljhfalgplihhaaGreatDoorGTbl
import Derived.Laws.OwnMore
import Derived.Maps.AppendAt
namespace Go.Proofs.YtljhfalgplihhaaGreatDoor
open Go.ChangeShapes Go.WideShapes Go.ChangeAt Go.RowKit
set_option linter.unusedVariables false

def bv (a : Int) : BitVec 8 := BitVec.ofInt 8 a
theorem u8_keep (r : BitVec 8) : IntKind.u8.wrap (r.toNat : Int) = (r.toNat : Int) := by
  rw [IntKind.wrap_u8]; have := r.isLt; omega
theorem bv_and (a b : Int) : bits .and .u8 a b = ((bv a &&& bv b).toNat : Int) := u8_keep _
theorem bv_or (a b : Int) : bits .or .u8 a b = ((bv a ||| bv b).toNat : Int) := u8_keep _
theorem bv_xor (a b : Int) : bits .xor .u8 a b = ((bv a ^^^ bv b).toNat : Int) := u8_keep _
theorem bv_andNot (a b : Int) : bits .andNot .u8 a b = ((bv a &&& ~~~ bv b).toNat : Int) := u8_keep _
theorem bv_nat (r : BitVec 8) : bv (r.toNat : Int) = r := by
  unfold bv
  rw [BitVec.ofInt_natCast]
  apply BitVec.eq_of_toNat_eq
  rw [BitVec.toNat_ofNat]
  exact Nat.mod_eq_of_lt r.isLt
theorem bv_back (a : Int) (h0 : 0 ≤ a) (h1 : a < 256) : ((bv a).toNat : Int) = a := by
  obtain ⟨n, rfl⟩ := Int.eq_ofNat_of_zero_le h0
  unfold bv
  rw [BitVec.ofInt_natCast, BitVec.toNat_ofNat]
  omega
theorem bv_inj (r s : BitVec 8) : ((r.toNat : Int) = (s.toNat : Int)) ↔ r = s := by
  constructor
  · intro h; exact BitVec.eq_of_toNat_eq (by exact_mod_cast h)
  · rintro rfl; rfl
theorem bool_has1 : ∀ c m b : Bool, (c && (m || b)) = (m || b) → (c && m) = m := by decide
theorem bool_has2 : ∀ c m b : Bool, (c && (m || b)) = (m || b) → (c && b) = b := by decide
theorem bool_has3 : ∀ c m b : Bool, (c && m) = m → (c && b) = b → (c && (m || b)) = (m || b) := by decide
theorem bvec_has (c m b : BitVec 8) : (c &&& (m ||| b) = m ||| b) ↔ (c &&& m = m ∧ c &&& b = b) := by
  have hg : ∀ {x y : BitVec 8}, x = y → ∀ i, x.getLsbD i = y.getLsbD i := fun h i => by rw [h]
  constructor
  · intro h
    constructor
    · apply BitVec.eq_of_getLsbD_eq
      intro i _
      have := hg h i
      rw [BitVec.getLsbD_and, BitVec.getLsbD_or] at this
      rw [BitVec.getLsbD_and]
      exact bool_has1 _ _ _ this
    · apply BitVec.eq_of_getLsbD_eq
      intro i _
      have := hg h i
      rw [BitVec.getLsbD_and, BitVec.getLsbD_or] at this
      rw [BitVec.getLsbD_and]
      exact bool_has2 _ _ _ this
  · rintro ⟨h1, h2⟩
    apply BitVec.eq_of_getLsbD_eq
    intro i _
    have a1 := hg h1 i
    have a2 := hg h2 i
    rw [BitVec.getLsbD_and] at a1 a2
    rw [BitVec.getLsbD_and, BitVec.getLsbD_or]
    exact bool_has3 _ _ _ a1 a2
/-- All bits of two masks are on just if all of the one and all of the other are. -/
theorem has_or (c m b : Int) (m0 : 0 ≤ m) (m1 : m < 256) (b0 : 0 ≤ b) (b1 : b < 256) :
    (bits .and .u8 c (bits .or .u8 m b) == bits .or .u8 m b) = ((bits .and .u8 c m == m) && (bits .and .u8 c b == b)) := by
  rw [Bool.eq_iff_iff, Bool.and_eq_true, beq_iff_eq, beq_iff_eq, beq_iff_eq]
  have e1 : bits .and .u8 c m = m ↔ bv c &&& bv m = bv m := by
    conv => lhs; rw [bv_and]; rhs; rw [← bv_back m m0 m1]
    exact bv_inj _ _
  have e2 : bits .and .u8 c b = b ↔ bv c &&& bv b = bv b := by
    conv => lhs; rw [bv_and]; rhs; rw [← bv_back b b0 b1]
    exact bv_inj _ _
  rw [e1, e2, bv_and, bv_or, bv_nat, bv_inj]
  exact bvec_has _ _ _
theorem or_or (c m b : Int) : bits .or .u8 (bits .or .u8 c m) b = bits .or .u8 c (bits .or .u8 m b) := by
  rw [bv_or, bv_or, bv_or, bv_or, bv_nat, bv_nat, BitVec.or_assoc]
theorem andNot_or (c m b : Int) : bits .andNot .u8 (bits .andNot .u8 c m) b = bits .andNot .u8 c (bits .or .u8 m b) := by
  rw [bv_andNot, bv_andNot, bv_andNot, bv_or, bv_nat, bv_nat, BitVec.not_or, BitVec.and_assoc]
theorem or_zero (c : Int) (h0 : 0 ≤ c) (h1 : c < 256) : bits .or .u8 c 0 = c := by
  rw [bv_or, show bv 0 = 0#8 from rfl, BitVec.or_zero, bv_back c h0 h1]
theorem zero_or (c : Int) (h0 : 0 ≤ c) (h1 : c < 256) : bits .or .u8 0 c = c := by
  rw [bv_or, show bv 0 = 0#8 from rfl, BitVec.zero_or, bv_back c h0 h1]
theorem andNot_zero (c : Int) (h0 : 0 ≤ c) (h1 : c < 256) : bits .andNot .u8 c 0 = c := by
  rw [bv_andNot, show bv 0 = 0#8 from rfl, show ~~~ (0#8) = BitVec.allOnes 8 from rfl, BitVec.and_allOnes, bv_back c h0 h1]
theorem and_zero (c : Int) : bits .and .u8 c 0 = 0 := by
  rw [bv_and, show bv 0 = 0#8 from rfl, BitVec.and_zero]; rfl
end Go.Proofs.YtljhfalgplihhaaGreatDoor
namespace Go.Proofs.YtljhfalgplihhaaGreatDoor
open Go.ChangeShapes Go.WideShapes Go.ChangeAt Go.RowKit
set_option linter.unusedVariables false

/-- Ahead of the first comma; behind it; is there one? -/
def cutL (l : List UInt8) : List UInt8 × List UInt8 × Bool := if 0 ≤ Lib.indexByte l 44 then (l.take (Lib.indexByte l 44).toNat, l.drop ((Lib.indexByte l 44).toNat + 1), true) else (l, [], false)
theorem indexByte_lt (l : List UInt8) (c : UInt8) : Lib.indexByte l c < l.length := by
  induction l with
  | nil => simp [Lib.indexByte]
  | cons b l ih =>
    simp only [Lib.indexByte, List.length_cons]
    split
    · omega
    · split <;> omega
theorem cutL_len (l : List UInt8) (h : (cutL l).2.2 = true) : (cutL l).2.1.length < l.length := by
  unfold cutL at h ⊢
  by_cases h0 : 0 ≤ Lib.indexByte l 44
  · have := indexByte_lt l 44
    rw [if_pos h0]
    simp only [List.length_drop]; omega
  · rw [if_neg h0] at h; cases h
theorem cutL_le (l : List UInt8) : (cutL l).2.1.length ≤ l.length := by
  unfold cutL
  split
  · simp only [List.length_drop]; omega
  · simp
theorem extract_take (s : ByteArray) (k : Nat) : s.extract 0 k = ⟨(s.data.toList.take k).toArray⟩ := by
  apply ByteArray.ext
  apply Array.toList_inj.1
  simp [ByteArray.data_extract]
theorem extract_drop (s : ByteArray) (k : Nat) : s.extract k s.size = ⟨(s.data.toList.drop k).toArray⟩ := by
  apply ByteArray.ext
  have h := Lib.extract_to_end s k
  apply Array.toList_inj.1
  simpa using h
def strL (l : List UInt8) : ByteArray := ⟨l.toArray⟩
/-- The postbyte of names with commas between, of which p are read already; 40, 41: why not. -/
def readF (u : Bool) : Nat → List UInt8 → Int → Int × Int
  | 0, _, p => (p, 0)
  | f + 1, l, p =>
    if namedF (strL (cutL l).1) u = 0 then (0, 40)
    else if 0 < bits .and .u8 p (namedF (strL (cutL l).1) u) then (0, 41)
    else if (cutL l).2.2 then readF u f (cutL l).2.1 (bits .or .u8 p (namedF (strL (cutL l).1) u))
    else (bits .or .u8 p (namedF (strL (cutL l).1) u), 0)
/-- What Read answers. -/
def readS (l : List UInt8) (u : Bool) : Int × Int := if l = [] then (0, 0) else readF u (l.length + 1) l 0
end Go.Proofs.YtljhfalgplihhaaGreatDoor
namespace Go.Proofs.YtljhfalgplihhaaGreatDoor
set_option linter.unusedVariables false

/-- The registers of the bits below place k that are on. -/
def nmP (p : Nat) (u : Bool) : Nat → List Nat
  | 0 => []
  | k + 1 => nmP p u k ++ (if bitN p k then [regN k u] else [])
def nmS (p : Nat) (u : Bool) (k : Nat) : List ByteArray := (nmP p u k).map regS
def txtL (p : Nat) (u : Bool) (k : Nat) : List UInt8 := Lib.join ((nmP p u k).map fun r => regNames.getD r []) [44]
theorem nmP_len (p : Nat) (u : Bool) : ∀ k, (nmP p u k).length ≤ k
  | 0 => Nat.le_refl _
  | k + 1 => by
    have := nmP_len p u k
    unfold nmP
    rw [List.length_append]
    split <;> simp <;> omega
theorem nmS_data (p : Nat) (u : Bool) (k : Nat) : (nmS p u k).map (·.data.toList) = (nmP p u k).map fun r => regNames.getD r [] := by
  unfold nmS
  rw [List.map_map]
  apply List.map_congr_left
  intro r _
  simp [regS, byteStr]
theorem nmS_on (p : Nat) (u : Bool) (k : Nat) (h : bitN p k = true) : nmS p u (k + 1) = nmS p u k ++ [regS (regN k u)] := by
  unfold nmS
  rw [show nmP p u (k + 1) = nmP p u k ++ (if bitN p k then [regN k u] else []) from rfl, if_pos h, List.map_append]; rfl
theorem nmS_off (p : Nat) (u : Bool) (k : Nat) (h : bitN p k = false) : nmS p u (k + 1) = nmS p u k := by
  unfold nmS
  rw [show nmP p u (k + 1) = nmP p u k ++ (if bitN p k then [regN k u] else []) from rfl, h]; simp
def stepOk (p : Nat) (u : Bool) (k : Nat) : Bool :=
  decide (txtL p u (k + 1) = if bitN p k then (if txtL p u k = [] then regNames.getD (regN k u) [] else txtL p u k ++ 44 :: regNames.getD (regN k u) []) else txtL p u k) && Nat.ble (txtL p u k).length 40
theorem step_fin : ((List.range 256).all fun p => (List.range 8).all fun k => stepOk p true k && stepOk p false k) = true := by decide +kernel
theorem step_txt (p : Nat) (hp : p < 256) (u : Bool) (k : Nat) (hk : k < 8) :
    txtL p u (k + 1) = (if bitN p k then (if txtL p u k = [] then regNames.getD (regN k u) [] else txtL p u k ++ 44 :: regNames.getD (regN k u) []) else txtL p u k) ∧ (txtL p u k).length ≤ 40 := by
  have h1 := allB2 256 _ step_fin p hp
  have h2 := allB2 8 _ h1 k hk
  rw [Bool.and_eq_true] at h2
  have h3 : stepOk p u k = true := by cases u
                                      · exact h2.2
                                      · exact h2.1
  unfold stepOk at h3
  rw [Bool.and_eq_true, decide_eq_true_eq] at h3
  exact ⟨h3.1, Nat.le_of_ble_eq_true h3.2⟩
def backOk (p : Nat) (u : Bool) : Bool := Nat.ble (txtL p u 8).length 40 && (if p = 0 then decide (txtL p u 8 = []) else !decide (txtL p u 8 = []) && decide (readF u ((txtL p u 8).length + 1) (txtL p u 8) 0 = ((p : Int), 0)))
theorem back_fin : ((List.range 256).all fun p => backOk p true && backOk p false) = true := by decide +kernel
theorem back_txt (p : Nat) (hp : p < 256) (u : Bool) : (txtL p u 8).length ≤ 40 ∧ (p = 0 → txtL p u 8 = []) ∧ (¬ p = 0 → ¬ txtL p u 8 = [] ∧ readF u ((txtL p u 8).length + 1) (txtL p u 8) 0 = ((p : Int), 0)) := by
  have h1 := allB2 256 _ back_fin p hp
  rw [Bool.and_eq_true] at h1
  have h3 : backOk p u = true := by cases u
                                    · exact h1.2
                                    · exact h1.1
  unfold backOk at h3
  rw [Bool.and_eq_true] at h3
  refine ⟨Nat.le_of_ble_eq_true h3.1, fun h => ?_, fun h => ?_⟩
  · have := h3.2
    rw [if_pos h] at this
    exact of_decide_eq_true this
  · have := h3.2
    rw [if_neg h, Bool.and_eq_true] at this
    exact ⟨by simpa using this.1, of_decide_eq_true this.2⟩
end Go.Proofs.YtljhfalgplihhaaGreatDoor
namespace Go.Proofs.YtljhfalgplihhaaGreatDoor
open Go.ChangeShapes Go.WideShapes Go.ChangeAt Go.RowKit
set_option linter.unusedVariables false

theorem OneLaid.strs {P : Program} {W : World} {name : String} {ss : List (List UInt8)} {g : Nat} {t e : TypeId} {n : Nat}
    (h : OneLaid P W name (strData ss)) (hg : P.globalNamed name = some g) (hty : (P.globals[g]?).map (·.type) = some t) (ht : P.underlying t = some (.array n e)) (he : P.underlying e = some .string) (hce : P.cellsOf e = 1) (hct : P.cellsOf t = n)
    (i : Nat) (hi : i < ss.length) : W.cell? ⟨g, i, none⟩ = some (.string (byteStr ss[i])) := by
  obtain ⟨g', t', cs, fuel, p, hg', ht', hvar, hd⟩ := h
  obtain rfl := Option.some.inj (hg.symm.trans hg')
  obtain rfl := Option.some.inj (hty.symm.trans ht')
  have h1 := strCells ht he hce hct hd i hi
  rw [World.var?_cell hg hvar i, ← h1]
  simp
/-- Both tables read as listed. -/
def TabAt (w : World) : Prop := OregAt w ∧ LregAt w
theorem TabAt.below {w w' : World} (h : TabAt w) (hb : Below w.heap.size w w') : TabAt w' := ⟨h.1.below hb, h.2.below hb⟩
def lregL : List Int := [10, 8, 9, 11, 1, 2, 3, 5]
theorem lregL_at : ∀ k : Fin 8, lregL.getD k.val 0 = (regL k.val : Int) := by decide +kernel
theorem TabAt.of_laid {W : World} (h : laidMetH Tryz.prog [("spinet/ops.registers", strData regNames), ("spinet/lists.registers", Lib.tabData .i64 lregL)] W) : TabAt W := by
  rw [MakeChecks.laidMetH_plain _ _ _ (by rfl)] at h
  obtain ⟨ps, h, _⟩ := h
  obtain ⟨h1, p1, h⟩ := laidVars_cons h
  obtain ⟨h2, p2, h⟩ := laidVars_cons h
  refine ⟨fun k hk => ?_, fun k hk => ?_⟩
  · have hlen : regNames.length = 12 := rfl
    have := h1.strs (g := 5) (t := 121) (e := 9) (n := 12) (by kernel_rfl) (by kernel_rfl) Tryz.underlying121 Tryz.underlying9 (by kernel_rfl) (by kernel_rfl) k (by omega)
    rw [this]
    unfold regS
    rw [List.getD_eq_getElem?_getD, List.getElem?_eq_getElem (by omega)]; rfl
  · have := h2.ints (g := 6) (t := 122) (e := 3) (n := 8) (by kernel_rfl) (by kernel_rfl) Tryz.underlying122 Tryz.underlying3 (by kernel_rfl) (by kernel_rfl) k hk
    rw [this, lregL_at ⟨k, hk⟩]
end Go.Proofs.YtljhfalgplihhaaGreatDoor
namespace Go.Proofs.YtljhfalgplihhaaGreatDoor
open Go.ChangeShapes Go.WideShapes Go.ChangeAt Go.RowKit
set_option linter.unusedVariables false

theorem opsReg_any (k : Nat) (hk : k < 12) (w : World) (hT : OregAt w) :
    Calls Tryz.prog 89 #[.int .i64 (k : Int)] w fun e w' => e = .returned (.string (regS k)) ∧ w = w' := by
  have hc := hT k hk
  have k0 : (0 : Int) ≤ (k : Int) := by omega
  have k1 : (k : Int) < 12 := by omega
  clear hT
  generalize regS k = s at hc ⊢
  go_enter Tryz.func89, Tryz.ntmps89
  go_wp2
  go_ret
  exact ⟨rfl, rfl⟩
set_option maxRecDepth 100000 in
theorem refReg_any (k : Nat) (hk : k < 12) (w : World) :
    Calls Tryz.prog 33 #[.int .i64 (k : Int)] w fun e w' => e = .returned (.string (regS k)) ∧ Below w.heap.size w w' := by
  have k0 : (0 : Int) ≤ (k : Int) := by omega
  have k1 : (k : Int) < 12 := by omega
  go_enter Tryz.func33, Tryz.ntmps33
  go_wp2
  go_ret
  refine ⟨?_, Below.alloc0 (Below.refl _ _) _⟩
  rcases (show k = 0 ∨ k = 1 ∨ k = 2 ∨ k = 3 ∨ k = 4 ∨ k = 5 ∨ k = 6 ∨ k = 7 ∨ k = 8 ∨ k = 9 ∨ k = 10 ∨ k = 11 by omega) with rfl | rfl | rfl | rfl | rfl | rfl | rfl | rfl | rfl | rfl | rfl | rfl
  all_goals rfl
theorem regN_lt (k : Nat) (hk : k < 8) (u : Bool) : regN k u < 12 := by
  rcases (show k = 0 ∨ k = 1 ∨ k = 2 ∨ k = 3 ∨ k = 4 ∨ k = 5 ∨ k = 6 ∨ k = 7 by omega) with rfl | rfl | rfl | rfl | rfl | rfl | rfl | rfl <;> cases u <;> decide
theorem infoStr : (Tryz.prog.info? 9).map (fun i => (i.zero, i.size, i.bytes)) = some (some (.string ⟨#[]⟩), 1, 16) := by kernel_rfl
def Strs (w : World) (base : Nat) (v : Value) (l : List ByteArray) : Prop := w.ownsRow base 9 1 v l.length (l.map Value.string)
theorem Strs.alloc {w : World} {base : Nat} {v : Value} {l : List ByteArray} (h : Strs w base v l) (o : Obj) : Strs (w.alloc o) base v l := World.ownsRow.alloc h o
theorem wpList_appStr {ops : Array Oper} {rest : List Oper} {o : Oper} {a : Act} {Q : Exit → Act → World → Prop} (hgd : o.guard = none) (w : World) (s x : Operand)
    (ho : o.op = .call { callee := .builtin .append, args := #[s, x], argTypes := #[32, 32] })
    (base : Nat) (v : Value) (l : List ByteArray) (hs : a.eval s = v) (hown : Strs w base v l) (ad : Addr) (c : Nat) (r : ByteArray) (hx : a.eval x = .slice (some ad) 1 c)
    (hnews : ∀ j u, [Value.string r][j]? = some u → w.cell? (ad.add j) = some u) (hn : l.length ≤ 1000) (hbase : base ≤ w.heap.size)
    (h : ∀ v' w', Strs w' base v' (l ++ [r]) → Below base w w' → wpList Tryz.prog ops Q rest (a.put o.dst v') w') : wpList Tryz.prog ops Q (o :: rest) a w := by
  obtain ⟨i0, hi, hz0, hz1, hz2⟩ := info_parts infoStr
  refine wpList_append_own_at w hgd s x 32 ho base 9 i0 (.string ⟨#[]⟩) 1 16 Tryz.underlying32 hi hz0 hz1 hz2 rfl (by decide) v l.length (l.map Value.string) hs hown ad 1 c [Value.string r] hx rfl hnews (by simp [Value.oneCell']) (by unfold maxLen; omega) (by omega) hbase ?_
  intro v' w' h1 h2 h3 h4
  refine h v' w' ?_ (Below.grown (Below.refl _ _) h2 hbase (fun k hk => (hown.lt k hk).1))
  unfold Strs
  rw [List.length_append, List.map_append]
  exact h1
theorem Strs.read {w : World} {base : Nat} {v : Value} {l : List ByteArray} (h : Strs w base v l) : ∃ A c, v = .slice A l.length c ∧ (0 < l.length → ∃ g, A = some ⟨g, 0, none⟩ ∧ g < w.heap.size ∧ l.length ≤ c ∧ ∀ (j : Nat) x, l[j]? = some x → w.cell? ⟨g, 0 + j, none⟩ = some (.string x)) := by
  obtain ⟨hl, h2⟩ := h
  rcases h2 with ⟨rfl, hn⟩ | ⟨g, cap, cur, rfl, h3, h4, h5, h6, h7, h8⟩
  · rw [hn]; exact ⟨none, 0, rfl, fun h => absurd h (by decide)⟩
  · refine ⟨_, cap, rfl, fun _ => ⟨g, rfl, Blk.lt (t := _) (cs := cur) (fr := (0, 0)) h4, h5, fun j x hj => ?_⟩⟩
    have hlt : j < l.length := by
      rcases Nat.lt_or_ge j l.length with a | a
      · exact a
      · rw [List.getElem?_eq_none a] at hj; cases hj
    have e : (cur.toList.take (l.length * 1))[j]? = (l.map Value.string)[j]? := by rw [h8]
    rw [List.getElem?_take_of_lt (by omega), Array.getElem?_toList, List.getElem?_map, hj] at e
    rw [Nat.zero_add, Blk.cell (t := _) (cs := cur) (fr := (0, 0)) h4, e]; rfl
theorem Strs.setLast {w : World} {base : Nat} {v : Value} {l : List ByteArray} {r : ByteArray} (h : Strs w base v (l ++ [r])) (x : ByteArray) :
    ∃ g c, v = .slice (some ⟨g, 0, none⟩) (l.length + 1) c ∧ base ≤ g ∧ g < w.heap.size ∧ l.length + 1 ≤ c ∧ w.cell? ⟨g, l.length, none⟩ = some (.string r) ∧ w.frozen? ⟨g, l.length, none⟩ = false ∧
      Strs (w.setCell ⟨g, l.length, none⟩ (.string x)) base v (l ++ [x]) := by
  obtain ⟨hl, h2⟩ := h
  rcases h2 with ⟨rfl, hn⟩ | ⟨g, cap, cur, rfl, h3, h4, h5, h6, h7, h8⟩
  · simp at hn
  · have hlen : (l ++ [r]).length = l.length + 1 := by simp
    rw [hlen] at h5 h8 ⊢
    have hb : Blk w g 9 cur (0, 0) := h4
    have hc : cur[l.length]? = some (.string r) := by
      have e : (cur.toList.take ((l.length + 1) * 1))[l.length]? = ((l ++ [r]).map Value.string)[l.length]? := by rw [h8]
      rw [List.getElem?_take_of_lt (by omega), Array.getElem?_toList] at e
      rw [e]; simp
    refine ⟨g, cap, rfl, h3, Blk.lt hb, h5, (Blk.cell hb _).trans hc, Blk.frozen hb _, by simp, Or.inr ⟨g, cap, cur.setIfInBounds l.length (.string x), by simp, h3, Blk.set_ hb _ _, by simpa using h5, h6, by simpa using h7, ?_⟩⟩
    have e1 : ((l ++ [x]).length * 1) = l.length + 1 := by simp
    rw [e1, Array.toList_setIfInBounds]
    have h9 : cur.toList.take (l.length + 1) = l.map Value.string ++ [.string r] := by
      have := h8
      rw [Nat.mul_one] at this
      simpa using this
    rw [List.take_set, h9]
    simp
end Go.Proofs.YtljhfalgplihhaaGreatDoor
namespace Go.Proofs.YtljhfalgplihhaaGreatDoor
open Go.ChangeShapes Go.WideShapes Go.ChangeAt Go.RowKit
set_option linter.unusedVariables false

theorem nmS_len (p : Nat) (u : Bool) (k : Nat) : (nmS p u k).length ≤ k := by unfold nmS; rw [List.length_map]; exact nmP_len p u k
set_option maxRecDepth 100000 in
set_option maxHeartbeats 4000000 in
theorem text_any (p : Nat) (hp : p < 256) (s : Int) (w : World) (hT : TabAt w) :
    Calls Tryz.prog 77 #[.int .u8 (p : Int), .int .i64 s] w fun e w' => e = .returned (.string (byteStr (txtL p (s == 3) 8))) ∧ Below w.heap.size w w' := by
  have HT := Lib.hid hT
  have HP := Lib.hid hp
  have p0 : (0 : Int) ≤ (p : Int) := by omega
  have p1 : (p : Int) < 256 := by omega
  obtain ⟨u, hu⟩ : ∃ u, (s == 3) = u := ⟨_, rfl⟩
  rw [hu]
  have HU := Lib.hid hu
  obtain ⟨T, hTx⟩ : ∃ T, txtL p u 8 = T := ⟨_, rfl⟩
  have HTx := Lib.hid hTx
  rw [hTx]
  clear hT hu hTx
  go_enter Tryz.func77, Tryz.ntmps77
  go_wp2
  go_loopw [5, 7] (fun u5 u7 wr => ∃ k : Nat, k ≤ 8 ∧ u7 = .int .i64 k ∧ Hid (Strs wr w.heap.size u5 (nmS p u k)) ∧ Hid (Below w.heap.size w wr)) (fun _ u7 _ => 8 - (intOf u7).toNat)
  case atStart => exact ⟨0, Nat.zero_le _, rfl, Lib.hid (World.ownsRow_nil _ _ _ 1), Lib.hid (Below.refl _ _)⟩
  case round =>
    obtain ⟨k, hk, rfl, HL, HBel⟩ := hrel
    by_cases hlt : k < 8
    · have hbit := u8_bit p k HP.out hlt
      have hpos : (0 : Int) < ((2 ^ k : Nat) : Int) := by have : 0 < 2 ^ k := Nat.pow_pos (by decide); omega
      have hlt256 := pow_lt8 k hlt
      have CB := Lib.hid (fun w => bit_any k hlt w)
      have CR := Lib.hid (fun w hT => register_any k hlt s w hT)
      have HTr := Lib.hid (HT.out.below HBel.out)
      rw [HU.out] at CR
      have CO := Lib.hid (fun w hT => opsReg_any (regN k u) (regN_lt k hlt u) w hT)
      obtain ⟨b, hb⟩ : ∃ b : Int, ((2 ^ k : Nat) : Int) = b := ⟨_, rfl⟩
      rw [hb] at hbit hpos
      have hb256 : b < 256 := by omega
      rw [hb] at CB
      have HLn := Lib.hid (nmS_len p u k)
      have HOn := Lib.hid (nmS_on p u k)
      have HOff := Lib.hid (nmS_off p u k)
      obtain ⟨S, hS⟩ : ∃ S, regS (regN k u) = S := ⟨_, rfl⟩
      rw [hS] at CO HOn
      obtain ⟨R, hR⟩ : ∃ R, regN k u = R := ⟨_, rfl⟩
      rw [hR] at CR CO
      have HBs := Lib.hid HBel.out.size
      have HK := Lib.hid hk
      have d0 : decide (0 < b) = true := decide_eq_true hpos
      have k0 : (0 : Int) ≤ (k : Int) := by omega
      have k1 : (k : Int) < 8 := by omega
      cases g1 : bitN p k
      · have HN := Lib.hid (HOff.out g1)
        rw [g1] at hbit
        simp only [Bool.false_eq_true, if_false] at hbit
        clear g1 hR hS hb hlt256 hk hlt d0 HOn HOff
        go_wp2_with (go_at_call 91; refine (CB.out _).mono ?_; rintro e w' ⟨rfl, rfl⟩)
        go_roundw
        case rel => exact ⟨k + 1, by have := HK.out; omega, by go_num, Lib.hid (by rw [HN.out]; exact HL.out), HBel⟩
        case measure => simp [intOf]; omega
      · have HN := Lib.hid (HOn.out g1)
        rw [if_pos g1] at hbit
        clear g1 hR hS hb hlt256 hk hlt HOn HOff
        go_wp2_with (first
          | (go_at_call 91; refine (CB.out _).mono ?_; rintro e w' ⟨rfl, rfl⟩)
          | (go_at_call 92; refine (CR.out _ HTr.out.2).mono ?_; rintro e w' ⟨rfl, rfl⟩)
          | (go_at_call 89; refine (CO.out _ HTr.out.1).mono ?_; rintro e w' ⟨rfl, rfl⟩)
          | (at_builtin; refine wpList_appStr rfl _ _ _ rfl w.heap.size u5 (nmS p u k) rfl (Strs.alloc HL.out _) ⟨wr.heap.size, 0, none⟩ 1 S rfl (cells_of_blk (Blk.new wr _ #[.string S] _)) (by have := HLn.out; have := HK.out; omega) (by have := HBs.out; simp; omega) ?_))
        intro v1 w1 h1 hb1
        have H1 := Lib.hid h1
        have HB1 := Lib.hid ((Below.alloc0 HBel.out _).trans hb1)
        clear h1 hb1 hbit d0
        go_wp2
        go_roundw
        case rel => exact ⟨k + 1, by have := HK.out; omega, by go_num, Lib.hid (by rw [HN.out]; exact H1.out), HB1⟩
        case measure => simp [intOf]; omega
    · obtain rfl : k = 8 := by omega
      obtain ⟨A, c, rfl, hrd⟩ := HL.out.read
      have hjl : Lib.join ((nmS p u 8).map (·.data.toList)) (⟨#[44]⟩ : ByteArray).data.toList = T := by rw [nmS_data, ← HTx.out]; rfl
      have hle := (back_txt p HP.out u).1
      rw [HTx.out] at hle
      by_cases h0 : 0 < (nmS p u 8).length
      · obtain ⟨g, rfl, hg, hc, hcell⟩ := hrd h0
        have CJ := Tryz.strings_Join g 0 c (nmS p u 8) ⟨#[44]⟩ wr hcell hg (by have := nmS_len p u 8; omega) hc (by rw [hjl]; omega)
        rw [hjl] at CJ
        have HJ := Lib.hid CJ
        clear CJ hcell hrd hjl
        go_wp2_with fail
        refine HJ.out.mono ?_
        rintro e w2 ⟨rfl, hb2⟩
        go_wp2
        go_ret
        exact ⟨rfl, Below.trans0 HBel.out hb2⟩
      · have hn : (nmS p u 8).length = 0 := by omega
        have ht : T = [] := by
          rw [← hjl, List.eq_nil_of_length_eq_zero hn]; rfl
        have HT2 := Lib.hid ht
        rw [hn]
        have CJ := Lib.hid (Tryz.strings_Join_none A c ⟨#[44]⟩ wr)
        clear hrd hjl ht
        go_wp2_with fail
        refine CJ.out.mono ?_
        rintro e w2 ⟨rfl, rfl⟩
        go_wp2
        go_ret
        exact ⟨by rw [HT2.out]; rfl, HBel.out⟩
end Go.Proofs.YtljhfalgplihhaaGreatDoor
