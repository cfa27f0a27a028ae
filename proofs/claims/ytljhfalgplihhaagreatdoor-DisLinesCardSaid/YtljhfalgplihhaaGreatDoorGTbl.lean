/- PostU, Tbl, TblG, LstN, LstR, OctRow, LstO, PostE, PostC, TblF in one text. -/
import Derived.Test.YtljhfalgplihhaaGreatDoorPostR
import Derived.Test.YtljhfalgplihhaaGreatDoorGPag
import Derived.Test.YtljhfalgplihhaaGreatDoorMem
import Derived.Test.YtljhfalgplihhaaGreatDoorGLai
import Derived.Outline
import Derived.Test.YtljhfalgplihhaaGreatDoorGRam
import Derived.Test.YtljhfalgplihhaaGreatDoorOwn
import Derived.Deep.RegionHeld3
namespace Go.Proofs.YtljhfalgplihhaaGreatDoor
open Go.ChangeShapes Go.WideShapes Go.ChangeAt Go.RowKit
set_option linter.unusedVariables false

theorem poK_lt (b : Nat) (hb : b < 256) : poK b < 14 := by
  have h : ((List.range 256).all fun b => Nat.blt (poK b) 14) = true := by decide +kernel
  have := allB 256 _ h b hb
  simpa [Nat.blt_eq] using this
theorem KindsAt.lt {w : World} (h : KindsAt w) : 1 < w.heap.size := cell_lt (h 0 (by decide))
theorem KindsAt.below {w w' : World} (h : KindsAt w) (hb : Below w.heap.size w w') : KindsAt w' := fun k hk => (hb.cell (p := ⟨1, k, none⟩) h.lt).trans (h k hk)
end Go.Proofs.YtljhfalgplihhaaGreatDoor
namespace Go.Proofs.YtljhfalgplihhaaGreatDoor
open Go.ChangeShapes Go.WideShapes Go.ChangeAt Go.RowKit
set_option linter.unusedVariables false

def aloneN (o : Int) : Int := if o = 1 ∨ o = 40 then 3 else if o = 48 then 5 else if o = 49 then 6 else if o = 50 then 11 else if o = 51 then 19 else 2
def oneN (o : Int) : Int := if o = 43 ∨ o = 44 then 3 else if o = 41 then 16 else 2
def otherN (o : Int) : Int := if o = 34 then 3 else if o = 35 then 4 else if o = 36 then 5 else if o = 47 then 6 else if o = 37 then 7 else if o = 46 then 8 else if o = 38 then 9 else 0
def grpN (o : Int) : Int := if 2 ≤ o ∧ o ≤ 11 then 1 else if o = 12 then 2 else if o = 22 then 4 else if 13 ≤ o ∧ o ≤ 23 then 3 else if o = 24 then 5 else if o = 25 then 6 else if 26 ≤ o ∧ o ≤ 28 then 7 else if o = 29 then 8 else if o = 32 then 9 else if o = 33 then 10 else 0
def twoN (o : Int) : Int := if grpN o = 7 then 4 else 3
def memN (o : Int) : Int := if grpN o = 1 ∨ grpN o = 2 ∨ grpN o = 8 then 4 else if grpN o = 3 ∨ grpN o = 4 ∨ grpN o = 7 then 6 else if grpN o = 5 ∨ grpN o = 6 then 5 else if grpN o = 9 then 3 else if grpN o = 10 then 7 else 0
def rowN (k : Int) : Int := if k = 1 ∨ k = 3 then 19 else if k = 2 then 10 else if 4 ≤ k ∧ k ≤ 7 then 3 else 0
end Go.Proofs.YtljhfalgplihhaaGreatDoor
namespace Go.Proofs.YtljhfalgplihhaaGreatDoor
open Go.ChangeShapes Go.WideShapes Go.ChangeAt Go.RowKit
set_option linter.unusedVariables false

theorem ne_beq {o k : Int} (h : ¬ o = k) : (o == k) = false := by simpa using h
set_option maxRecDepth 100000 in
set_option maxHeartbeats 8000000 in
theorem group_in (o : Nat) (h : (2 ≤ o ∧ o ≤ 29) ∨ o = 32 ∨ o = 33) (w : World) : Calls Tryz.prog 88 #[.int .i64 (o : Int)] w fun e w' => e = .returned (.int .i64 (grpN (o : Int))) ∧ w = w' := by
  rcases (show o = 2 ∨ o = 3 ∨ o = 4 ∨ o = 5 ∨ o = 6 ∨ o = 7 ∨ o = 8 ∨ o = 9 ∨ o = 10 ∨ o = 11 ∨ o = 12 ∨ o = 13 ∨ o = 14 ∨ o = 15 ∨ o = 16 ∨ o = 17 ∨ o = 18 ∨ o = 19 ∨ o = 20 ∨ o = 21 ∨ o = 22 ∨ o = 23 ∨ o = 24 ∨ o = 25 ∨ o = 26 ∨ o = 27 ∨ o = 28 ∨ o = 29 ∨ o = 32 ∨ o = 33 by omega) with rfl | rfl | rfl | rfl | rfl | rfl | rfl | rfl | rfl | rfl | rfl | rfl | rfl | rfl | rfl | rfl | rfl | rfl | rfl | rfl | rfl | rfl | rfl | rfl | rfl | rfl | rfl | rfl | rfl | rfl
  all_goals
    go_enter Tryz.func88, Tryz.ntmps88
    go_wp2
    go_ret
    exact ⟨rfl, rfl⟩
set_option maxRecDepth 100000 in
set_option maxHeartbeats 8000000 in
theorem group_any (o : Int) (w : World) : Calls Tryz.prog 88 #[.int .i64 o] w fun e w' => e = .returned (.int .i64 (grpN o)) ∧ w = w' := by
  by_cases h : (2 ≤ o ∧ o ≤ 29) ∨ o = 32 ∨ o = 33
  · obtain ⟨n, rfl⟩ := Int.eq_ofNat_of_zero_le (show 0 ≤ o by omega)
    exact group_in n (by omega) w
  · have hg : grpN o = 0 := by unfold grpN; repeat (rw [if_neg (by omega)])
    rw [hg]
    have e2 : (o == 2) = false := ne_beq (by omega)
    have e3 : (o == 3) = false := ne_beq (by omega)
    have e4 : (o == 4) = false := ne_beq (by omega)
    have e5 : (o == 5) = false := ne_beq (by omega)
    have e6 : (o == 6) = false := ne_beq (by omega)
    have e7 : (o == 7) = false := ne_beq (by omega)
    have e8 : (o == 8) = false := ne_beq (by omega)
    have e9 : (o == 9) = false := ne_beq (by omega)
    have e10 : (o == 10) = false := ne_beq (by omega)
    have e11 : (o == 11) = false := ne_beq (by omega)
    have e12 : (o == 12) = false := ne_beq (by omega)
    have e13 : (o == 13) = false := ne_beq (by omega)
    have e14 : (o == 14) = false := ne_beq (by omega)
    have e15 : (o == 15) = false := ne_beq (by omega)
    have e16 : (o == 16) = false := ne_beq (by omega)
    have e17 : (o == 17) = false := ne_beq (by omega)
    have e18 : (o == 18) = false := ne_beq (by omega)
    have e19 : (o == 19) = false := ne_beq (by omega)
    have e20 : (o == 20) = false := ne_beq (by omega)
    have e21 : (o == 21) = false := ne_beq (by omega)
    have e22 : (o == 22) = false := ne_beq (by omega)
    have e23 : (o == 23) = false := ne_beq (by omega)
    have e24 : (o == 24) = false := ne_beq (by omega)
    have e25 : (o == 25) = false := ne_beq (by omega)
    have e26 : (o == 26) = false := ne_beq (by omega)
    have e27 : (o == 27) = false := ne_beq (by omega)
    have e28 : (o == 28) = false := ne_beq (by omega)
    have e29 : (o == 29) = false := ne_beq (by omega)
    have e32 : (o == 32) = false := ne_beq (by omega)
    have e33 : (o == 33) = false := ne_beq (by omega)
    clear h hg
    go_enter Tryz.func88, Tryz.ntmps88
    go_wp2
    go_ret
    exact ⟨rfl, rfl⟩
theorem grpN_cases (o : Int) : grpN o = 0 ∨ grpN o = 1 ∨ grpN o = 2 ∨ grpN o = 3 ∨ grpN o = 4 ∨ grpN o = 5 ∨ grpN o = 6 ∨ grpN o = 7 ∨ grpN o = 8 ∨ grpN o = 9 ∨ grpN o = 10 := by
  unfold grpN; repeat (first | (split; · simp) | simp)
end Go.Proofs.YtljhfalgplihhaaGreatDoor
namespace Go.Proofs.YtljhfalgplihhaaGreatDoor
set_option linter.unusedVariables false

def regL (k : Nat) : Nat := [10, 8, 9, 11, 1, 2, 3, 5].getD k 0
/-- The register of a bit's place; is the stack the user's? -/
def regN (k : Nat) (u : Bool) : Nat := if k = 6 ∧ u = true then 4 else regL k
def bitN (p k : Nat) : Bool := Nat.beq (p / 2 ^ k % 2) 1
abbrev Pt := Nat × Bool
def ptK (p : Nat) (u : Bool) (k : Nat) : List Pt := if bitN p k then (if 4 ≤ k then [(regN k u, true), (regN k u, false)] else [(regN k u, false)]) else []
def upP (p : Nat) (u : Bool) : Nat → List Pt
  | 0 => []
  | k + 1 => upP p u k ++ ptK p u k
def ordL (p : Nat) (u : Bool) : List Pt := upP p u 8
def ptC (x : Pt) : List Value := [.int .i64 (x.1 : Int), .bool x.2]
def pC (l : List Pt) : List Value := l.flatMap ptC
theorem pC_snoc (l : List Pt) (x : Pt) : pC (l ++ [x]) = pC l ++ ptC x := by simp [pC]
theorem pC_at (l : List Pt) : ∀ (i j : Nat), i < l.length → j < 2 → (pC l)[2 * i + j]? = (ptC (l.getD i (0, false)))[j]? := by
  induction l with
  | nil => intro i j h; exact absurd h (by simp)
  | cons x l ih =>
    intro i j h hj
    cases i with
    | zero => simp only [pC, List.flatMap_cons]; rw [List.getElem?_append_left (by simp [ptC]; omega)]; simp
    | succ i =>
      have := ih i j (by simpa using h) hj
      simp only [pC, List.flatMap_cons] at this ⊢
      rw [List.getElem?_append_right (by simp [ptC]; omega)]
      simp only [List.getD_cons_succ]
      rw [← this]
      congr 1
      simp [ptC]; omega
theorem ptK_len (p : Nat) (u : Bool) (k : Nat) : (ptK p u k).length ≤ 2 := by unfold ptK; split <;> (try split) <;> simp
theorem upP_len (p : Nat) (u : Bool) : ∀ k, (upP p u k).length ≤ 2 * k
  | 0 => Nat.zero_le _
  | k + 1 => by
    have := upP_len p u k
    have := ptK_len p u k
    simp only [upP, List.length_append]; omega
/-- How many bytes a postbyte pulls. -/
def cntN (p : Nat) : Nat := (ordL p false).length
theorem ptK_lenU (p : Nat) (u : Bool) (k : Nat) : (ptK p u k).length = (ptK p false k).length := by
  unfold ptK
  cases bitN p k
  · rfl
  · simp only [if_true]; split <;> rfl
theorem upP_lenU (p : Nat) (u : Bool) : ∀ k, (upP p u k).length = (upP p false k).length
  | 0 => rfl
  | k + 1 => by simp only [upP, List.length_append, upP_lenU p u k, ptK_lenU p u k]
theorem ordL_len (p : Nat) (u : Bool) : (ordL p u).length = cntN p := upP_lenU p u 8
theorem allB2 (n : Nat) (f : Nat → Bool) (h : (List.range n).all f = true) (k : Nat) (hk : k < n) : f k = true := List.all_eq_true.1 h k (List.mem_range.2 hk)
theorem and_fin : ((List.range 2048).all fun j => Nat.beq ((j / 8) &&& (2 ^ (j % 8))) (if bitN (j / 8) (j % 8) then 2 ^ (j % 8) else 0)) = true := by decide +kernel
theorem and_bit (p k : Nat) (hp : p < 256) (hk : k < 8) : p &&& 2 ^ k = if bitN p k then 2 ^ k else 0 := by
  have h := allB2 2048 _ and_fin (8 * p + k) (by omega)
  rw [Nat.beq_eq, show (8 * p + k) / 8 = p by omega, show (8 * p + k) % 8 = k by omega] at h
  exact h
theorem pow_lt8 (k : Nat) (hk : k < 8) : 2 ^ k < 256 := by
  have := Nat.pow_lt_pow_right (a := 2) (by decide) hk
  simpa using this
theorem u8_bit (p k : Nat) (hp : p < 256) (hk : k < 8) : bits .and .u8 (p : Int) ((2 ^ k : Nat) : Int) = if bitN p k then ((2 ^ k : Nat) : Int) else 0 := by
  rw [u8_and_nat p (2 ^ k) hp (pow_lt8 k hk), and_bit p k hp hk]
  split <;> rfl
theorem u8_wide : ∀ k : Fin 8, bits .and .u8 ((2 ^ k.val : Nat) : Int) 240 = if 4 ≤ k.val then ((2 ^ k.val : Nat) : Int) else 0 := by decide +kernel
theorem shl_fin : ∀ k : Fin 8, IntKind.u8.wrap (2 ^ k.val) = ((2 ^ k.val : Nat) : Int) := by decide +kernel
end Go.Proofs.YtljhfalgplihhaaGreatDoor
namespace Go.Proofs.YtljhfalgplihhaaGreatDoor
open Go.ChangeShapes Go.WideShapes Go.ChangeAt Go.RowKit
set_option linter.unusedVariables false

/-- The table of registers by bits reads as listed. -/
def LregAt (w : World) : Prop := ∀ k, k < 8 → w.cell? ⟨6, k, none⟩ = some (.int .i64 (regL k : Int))
theorem LregAt.below {w w' : World} (h : LregAt w) (hb : Below w.heap.size w w') : LregAt w' := fun k hk =>
  (hb.cell (p := ⟨6, k, none⟩) (cell_lt (h k hk))).trans (h k hk)
theorem regL_is3 (k : Nat) (hk : k < 8) : ((regL k : Int) == 3) = decide (k = 6) := by
  rcases (show k = 0 ∨ k = 1 ∨ k = 2 ∨ k = 3 ∨ k = 4 ∨ k = 5 ∨ k = 6 ∨ k = 7 by omega) with rfl | rfl | rfl | rfl | rfl | rfl | rfl | rfl <;> rfl
set_option maxRecDepth 100000 in
theorem register_any (k : Nat) (hk : k < 8) (s : Int) (w : World) (hT : LregAt w) :
    Calls Tryz.prog 92 #[.int .i64 (k : Int), .int .i64 s] w fun e w' => e = .returned (.int .i64 (regN k (s == 3) : Int)) ∧ w = w' := by
  have hc := hT k hk
  have h3 := regL_is3 k hk
  have k0 : (0 : Int) ≤ (k : Int) := by omega
  have k1 : (k : Int) < 8 := by omega
  have HK := Lib.hid hk
  obtain ⟨r, hr⟩ : ∃ r : Int, (regL k : Int) = r := ⟨_, rfl⟩
  have HR := Lib.hid hr
  rw [hr] at hc h3
  clear hT hk hr
  by_cases h6 : k = 6
  · have g3 : (r == 3) = true := by rw [h3]; simpa using h6
    have H6 := Lib.hid h6
    clear h3 h6
    cases hs : (s == 3)
    all_goals
      go_enter Tryz.func92, Tryz.ntmps92
      go_wp2
      go_ret
      refine ⟨ret_int ?_, rfl⟩
      simp only [regN, H6.out, ← HR.out]; try rfl
  · have g3 : (r == 3) = false := by rw [h3]; simpa using h6
    have H6 := Lib.hid h6
    clear h3 h6
    go_enter Tryz.func92, Tryz.ntmps92
    go_wp2
    go_ret
    refine ⟨ret_int ?_, rfl⟩
    unfold regN
    rw [if_neg (fun h => H6.out h.1), HR.out]
theorem bit_any (k : Nat) (hk : k < 8) (w : World) :
    Calls Tryz.prog 91 #[.int .i64 (k : Int)] w fun e w' => e = .returned (.int .u8 ((2 ^ k : Nat) : Int)) ∧ w = w' := by
  rcases (show k = 0 ∨ k = 1 ∨ k = 2 ∨ k = 3 ∨ k = 4 ∨ k = 5 ∨ k = 6 ∨ k = 7 by omega) with rfl | rfl | rfl | rfl | rfl | rfl | rfl | rfl
  all_goals
    go_enter Tryz.func91, Tryz.ntmps91
    go_wp2
    go_ret
    exact ⟨rfl, rfl⟩
set_option maxRecDepth 100000 in
set_option maxHeartbeats 2000000 in
theorem code17_any (k : Nat) (hk : k < 8) (u : Bool) (w : World) :
    Calls Tryz.prog 35 #[.int .i64 (k : Int), .bool u] w fun e w' => e = .returned (.int .i64 (regN k u : Int)) ∧ Below w.heap.size w w' := by
  rcases (show k = 0 ∨ k = 1 ∨ k = 2 ∨ k = 3 ∨ k = 4 ∨ k = 5 ∨ k = 6 ∨ k = 7 by omega) with rfl | rfl | rfl | rfl | rfl | rfl | rfl | rfl
  all_goals
    cases u
    all_goals
      go_enter Tryz.func35, Tryz.ntmps35
      go_wp2
      go_ret
      exact ⟨rfl, Below.alloc0 (Below.refl _ _) _⟩
end Go.Proofs.YtljhfalgplihhaaGreatDoor
namespace Go.Proofs.YtljhfalgplihhaaGreatDoor
open Go.ChangeShapes Go.WideShapes Go.ChangeAt Go.RowKit
set_option linter.unusedVariables false
/-- A call that answers a new slice of integers, and writes nothing that was there. -/
def Gives (k : IntKind) (t : TypeId) (w : World) (zs : List Int) (e : Ending) (w' : World) : Prop := ∃ v, e = .returned v ∧ Own k t w' w.heap.size v zs ∧ Below w.heap.size w w'
def wordAt (zs : List Int) (j : Nat) : Int := 256 * iat zs (2 * j) + iat zs (2 * j + 1)
def wordsTo (zs : List Int) (k : Nat) : List Int := (List.range k).map (wordAt zs)
def wordsOf (zs : List Int) : List Int := wordsTo zs ((zs.length + 1) / 2)
theorem wordsTo_next (zs : List Int) (k : Nat) : wordsTo zs (k + 1) = wordsTo zs k ++ [wordAt zs k] := by unfold wordsTo; rw [List.range_succ, List.map_append]; rfl
theorem wordsTo_len (zs : List Int) (k : Nat) : (wordsTo zs k).length = k := by simp [wordsTo]
theorem iat_end (zs : List Int) (k : Nat) (h : zs.length ≤ k) : iat zs k = 0 := by simp [iat, List.getD_eq_getElem?_getD, List.getElem?_eq_none h]
theorem bytesTo_next (ws : List Int) (k : Nat) (h : k < ws.length) : (ws.take (k + 1)).flatMap (fun x => [x / 256, x % 256]) = (ws.take k).flatMap (fun x => [x / 256, x % 256]) ++ [iat ws k / 256, iat ws k % 256] := by
  rw [List.take_succ_eq_append_getElem h, List.flatMap_append, iat_eq _ _ h]; simp
def bytesTo (ws : List Int) (k : Nat) : List Int := (ws.take k).flatMap (fun x => [x / 256, x % 256])
def bytesOf (ws : List Int) : List Int := ws.flatMap (fun x => [x / 256, x % 256])
theorem bytesTo_len (ws : List Int) (k : Nat) (h : k ≤ ws.length) : (bytesTo ws k).length = 2 * k := by
  induction k with
  | zero => simp [bytesTo]
  | succ k ih => unfold bytesTo at *; rw [bytesTo_next ws k (by omega), List.length_append, ih (by omega)]; simp; omega
def onesFrom (m : Int) : Nat → Int
  | 0 => 0
  | f + 1 => m % 2 + onesFrom (m / 2) f
theorem onesFrom_range : ∀ (f : Nat) (m : Int), 0 ≤ onesFrom m f ∧ onesFrom m f ≤ f
  | 0, m => by simp [onesFrom]
  | f + 1, m => by
    have := onesFrom_range f (m / 2)
    unfold onesFrom; omega
theorem onesFrom_zero : ∀ f, onesFrom 0 f = 0
  | 0 => rfl
  | f + 1 => by unfold onesFrom; simp [onesFrom_zero f]
def onesAll (zs : List Int) : Int := zs.foldl (fun n x => n + onesFrom x 8) 0
theorem foldl_bound (f : Int → Int) (hf : ∀ x, 0 ≤ f x ∧ f x ≤ 256) : ∀ (zs : List Int) (a : Int), 0 ≤ a → 0 ≤ zs.foldl (fun n x => n + f x) a ∧ zs.foldl (fun n x => n + f x) a ≤ a + 256 * zs.length
  | [], a, h => by simp [h]
  | z :: zs, a, h => by
    have h1 := hf z
    have := foldl_bound f hf zs (a + f z) (by omega)
    simp only [List.foldl_cons, List.length_cons]
    omega
theorem onesAll_range (zs : List Int) : 0 ≤ onesAll zs ∧ onesAll zs ≤ 256 * zs.length := by
  have := foldl_bound (fun x => onesFrom x 8) (fun x => by have := onesFrom_range 8 x; omega) zs 0 (by omega)
  unfold onesAll; omega
theorem tbl_lookup (T : ByteArray) (c : Int) (h : c.toNat < T.size) (f : Nat → Int) (key : ∀ i : Fin T.size, wrap64 (((T[i.val]'i.isLt).toNat : Nat) : Int) = f i.val) :
    wrap64 (((T[c.toNat]'h).toNat : Nat) : Int) = f c.toNat := key ⟨c.toNat, h⟩
def sumAll (zs : List Int) : Int := zs.foldl (fun s x => (s + x) % 256) 0
theorem sumAll_range (zs : List Int) : 0 ≤ sumAll zs ∧ sumAll zs < 256 := by
  unfold sumAll
  rcases List.eq_nil_or_concat zs with rfl | ⟨ys, y, rfl⟩
  · simp
  · simp only [List.concat_eq_append, List.foldl_append, List.foldl_cons, List.foldl_nil]
    omega
end Go.Proofs.YtljhfalgplihhaaGreatDoor
namespace Go.Proofs.YtljhfalgplihhaaGreatDoor
open Go.ChangeShapes Go.WideShapes Go.ChangeAt Go.RowKit
set_option linter.unusedVariables false

theorem grown_apart {w w' : World} {v v' : Value} (h2 : w.grownBy w' v.ownBlock) (h4 : v'.ownBlock = v.ownBlock ∨ v'.ownBlock = some w.heap.size) : Apart w w' v v' := fun g hg hne =>
  ⟨h2.block g hg (fun e => hne e.symm), by
    rcases h4 with e | e
    · rw [e]; exact hne
    · rw [e]; intro e2; simp at e2; omega⟩
/-- The slice v is a row of parts of the call's own, and reads as l. -/
def Pts (e : TypeId) (w : World) (base : Nat) (v : Value) (l : List Pt) : Prop := w.ownsRow base e 2 v l.length (pC l)
theorem Pts.alloc {e : TypeId} {w : World} {base : Nat} {v : Value} {l : List Pt} (h : Pts e w base v l) (o : Obj) : Pts e (w.alloc o) base v l := World.ownsRow.alloc h o
theorem Pts.belowAll {e : TypeId} {w w' : World} {base : Nat} {v : Value} {l : List Pt} (h : Pts e w base v l) (hb : Below w.heap.size w w') : Pts e w' base v l := by
  obtain ⟨hl, h2⟩ := h
  refine ⟨hl, ?_⟩
  rcases h2 with h2 | ⟨g, cap, cur, rfl, h3, h4, h5⟩
  · exact .inl h2
  · refine .inr ⟨g, cap, cur, rfl, h3, (hb.block g ?_).trans h4, h5⟩
    exact Blk.lt (t := _) (cs := cur) (fr := (0, 0)) h4
/-- Read: a slice with its cells, or none. -/
theorem Pts.read {e : TypeId} {w : World} {base : Nat} {v : Value} {l : List Pt} (h : Pts e w base v l) :
    ∃ A cap, v = .slice A l.length cap ∧ (0 < l.length → ∃ g cur, A = some ⟨g, 0, none⟩ ∧ base ≤ g ∧ Blk w g e cur ∧ l.length ≤ cap ∧ ∀ k, k < l.length → cur[k * 2]? = some (.int .i64 ((l.getD k (0, false)).1 : Int)) ∧ cur[k * 2 + 1]? = some (.bool (l.getD k (0, false)).2)) := by
  obtain ⟨hl, h2⟩ := h
  rcases h2 with ⟨rfl, hn⟩ | ⟨g, cap, cur, rfl, h3, h4, h5, h6, h7, h8⟩
  · rw [hn]; exact ⟨none, 0, rfl, fun h => absurd h (by decide)⟩
  · refine ⟨_, cap, rfl, fun _ => ⟨g, cur, rfl, h3, h4, h5, fun k hk => ?_⟩⟩
    have key : ∀ j, j < 2 → cur[2 * k + j]? = (ptC (l.getD k (0, false)))[j]? := fun j hj => by
      have e : (cur.toList.take (l.length * 2))[2 * k + j]? = (pC l)[2 * k + j]? := by rw [h8]
      rw [List.getElem?_take_of_lt (by omega), Array.getElem?_toList, pC_at _ _ _ hk hj] at e
      exact e
    have a := key 0 (by decide)
    have b := key 1 (by decide)
    rw [show k * 2 = 2 * k + 0 by omega, show 2 * k + 0 + 1 = 2 * k + 1 by omega, a, b]
    exact ⟨rfl, rfl⟩
theorem wpList_appPt {P : Program} {ops : Array Oper} {rest : List Oper} {o : Oper} {a : Act} {Q : Exit → Act → World → Prop} (hgd : o.guard = none) (w : World) (s x : Operand) (t e : TypeId)
    (ho : o.op = .call { callee := .builtin .append, args := #[s, x], argTypes := #[t, t] })
    (hinfo : (P.info? e).map (fun i => (i.zero, i.size, i.bytes)) = some (some (.agg #[.int .i64 0, .bool false]), 2, 16)) (ht : P.underlying t = some (.slice e))
    (base : Nat) (v : Value) (l : List Pt) (hs : a.eval s = v) (hown : Pts e w base v l) (ad : Addr) (c : Nat) (r : Nat) (b : Bool) (hx : a.eval x = .slice (some ad) 1 c)
    (hnews : ∀ j u, (ptC (r, b))[j]? = some u → w.cell? (ad.add j) = some u) (hn : l.length ≤ 1000) (hbase : base ≤ w.heap.size)
    (h : ∀ v' w', Pts e w' base v' (l ++ [(r, b)]) → Below base w w' → wpList P ops Q rest (a.put o.dst v') w') : wpList P ops Q (o :: rest) a w := by
  obtain ⟨i0, hi, hz0, hz1, hz2⟩ := info_parts hinfo
  refine wpList_append_own_at w hgd s x t ho base e i0 (.agg #[.int .i64 0, .bool false]) 2 16 ht hi hz0 hz1 hz2 rfl (by decide) v l.length (pC l) hs hown ad 1 c (ptC (r, b)) hx rfl hnews (by simp [ptC, Value.oneCell']) (by unfold maxLen; omega) (by omega) hbase ?_
  intro v' w' h1 h2 h3 h4
  refine h v' w' ?_ (Below.grown (Below.refl _ _) h2 hbase (fun k hk => (hown.lt k hk).1))
  unfold Pts
  rw [List.length_append, pC_snoc]
  exact h1
theorem upP_on4 (p : Nat) (u : Bool) (k r : Nat) (hr : regN k u = r) (h : bitN p k = true) (h4 : 4 ≤ k) : upP p u (k + 1) = (upP p u k ++ [(r, true)]) ++ [(r, false)] := by
  rw [show upP p u (k + 1) = upP p u k ++ ptK p u k from rfl]
  unfold ptK
  rw [if_pos h, if_pos h4, hr, List.append_assoc]; rfl
theorem upP_on (p : Nat) (u : Bool) (k r : Nat) (hr : regN k u = r) (h : bitN p k = true) (h4 : ¬ 4 ≤ k) : upP p u (k + 1) = upP p u k ++ [(r, false)] := by
  rw [show upP p u (k + 1) = upP p u k ++ ptK p u k from rfl]
  unfold ptK
  rw [if_pos h, if_neg h4, hr]
theorem upP_off (p : Nat) (u : Bool) (k : Nat) (h : bitN p k = false) : upP p u (k + 1) = upP p u k := by
  rw [show upP p u (k + 1) = upP p u k ++ ptK p u k from rfl]
  unfold ptK
  rw [h]; simp
theorem cntN_le (p : Nat) : cntN p ≤ 16 := upP_len p false 8
end Go.Proofs.YtljhfalgplihhaaGreatDoor
namespace Go.Proofs.YtljhfalgplihhaaGreatDoor
open Go.ChangeShapes Go.WideShapes Go.ChangeAt Go.RowKit
set_option linter.unusedVariables false
abbrev postA (k r o : Int) (d : Bool) : Array Value := #[.int .i64 k, .int .i64 r, .int .u16 o, .bool d]
set_option maxRecDepth 100000 in
theorem eql_post (w : World) (k r o k' r' o' : Int) (d d' : Bool) :
    (binOp .eql 132 (.agg (postA k r o d)) (.agg (postA k' r' o' d'))).run Tryz.prog w = .ok (.bool (k == k' && (r == r' && (o == o' && d == d')))) w := by
  by_cases h1 : k = k'
  · subst h1
    by_cases h2 : r = r'
    · subst h2
      by_cases h3 : o = o'
      · subst h3
        by_cases h4 : d = d'
        · subst h4
          go_simp
        · have e4 : (d == d') = false := by simpa using h4
          go_simp
      · have e3 : (o == o') = false := by simpa using h3
        go_simp
    · have e2 : (r == r') = false := by simpa using h2
      go_simp
  · have e1 : (k == k') = false := by simpa using h1
    go_simp
end Go.Proofs.YtljhfalgplihhaaGreatDoor
namespace Go.Proofs.YtljhfalgplihhaaGreatDoor
open Go.ChangeShapes Go.WideShapes Go.ChangeAt Go.RowKit
set_option linter.unusedVariables false

theorem hitQ_comm (k r o : Int) (d : Bool) (b : Nat) : ((poK b : Int) == k && ((poR b : Int) == r && ((poO b : Int) == o && poI b == d))) = hitQ k r o d b := by
  unfold hitQ
  rw [Bool.eq_iff_iff]
  simp only [Bool.and_eq_true, beq_iff_eq]
  constructor <;> (rintro ⟨a, b, c, d⟩; exact ⟨a.symm, b.symm, c.symm, d.symm⟩)
/-- What Code answers. -/
def codeV (n : Nat) : Int := if n < 256 then (n : Int) else 0
set_option maxRecDepth 100000 in
set_option maxHeartbeats 1000000 in
theorem code_hit (k r o : Int) (d : Bool) (h : hitQ k r o d 159 = true) (w : World) (hT : KindsAt w) :
    Calls Tryz.prog 70 #[.agg #[.int .i64 k, .int .i64 r, .int .u16 o, .bool d]] w fun e w' => e = .returned (.tuple #[.int .u8 159, .bool true]) ∧ Below w.heap.size w w' := by
  have c := fun (w : World) (hT : KindsAt w) => of_any 159 (by omega) w hT
  rw [hitQ_iff] at h
  obtain ⟨rfl, rfl, rfl, rfl⟩ := h
  generalize (poK 159 : Int) = k at c ⊢
  generalize (poR 159 : Int) = r at c ⊢
  generalize (poO 159 : Int) = o at c ⊢
  generalize poI 159 = d at c ⊢
  have C := Lib.hid c
  have HT := Lib.hid (hT.below (Below.alloc0 (Below.refl _ w) (Obj.cells #[.int .i64 k, .int .i64 r, .int .u16 o, .bool d] 132)))
  have HT' := Lib.hid (hT.below (Below.drew0 (Below.alloc0 (Below.refl _ w) (Obj.cells #[.int .i64 k, .int .i64 r, .int .u16 o, .bool d] 132))))
  have HB := Lib.hid (Blk.new w 132 #[.int .i64 k, .int .i64 r, .int .u16 o, .bool d] (0, 0))
  clear c hT
  go_enter Tryz.func70, Tryz.ntmps70
  go_wp2
  go_region_held3 (fun w' => w'.cell? ⟨w.heap.size, 0, none⟩ = some (.int .i64 k) ∧ w'.cell? ⟨w.heap.size, 1, none⟩ = some (.int .i64 r) ∧ w'.cell? ⟨w.heap.size, 2, none⟩ = some (.int .u16 o) ∧ w'.cell? ⟨w.heap.size, 3, none⟩ = some (.bool d))
    (first
      | exact HB.out.s4
      | exact HB1.out.s4)
    (first
      | (go_at_call 63; (refine (C.out _ HT'.out).mono ?_; rintro e w1 ⟨rfl, hb1⟩; have HB1 := Lib.hid (by first | exact Blk.below HB.out hb1 (by simp) | exact Blk.belowD HB.out hb1 (by simp)); have Hb1 := Lib.hid hb1; clear hb1)))
  have b1 : Below w.heap.size w w1 := by first | exact Below.trans0 (Below.alloc0 (Below.refl _ _) _) Hb1.out | exact Below.trans0 (Below.drew0 (Below.alloc0 (Below.refl _ _) _)) Hb1.out
  have B1 := Lib.hid b1
  clear b1
  go_wp2
  go_ret2
  exact ⟨rfl, by first | exact B1.out | exact Below.drew0 B1.out⟩
set_option maxRecDepth 100000 in
set_option maxHeartbeats 1000000 in
theorem code_else (k r o : Int) (d : Bool) (h : hitQ k r o d 159 = false) (w : World) (hT : KindsAt w) :
    Calls Tryz.prog 70 #[.agg #[.int .i64 k, .int .i64 r, .int .u16 o, .bool d]] w fun e w' => e = .returned (.tuple #[.int .u8 (codeV (fnd (hitQ k r o d) 256 0)), .bool (decide (fnd (hitQ k r o d) 256 0 < 256))]) ∧ Below w.heap.size w w' := by
  have c := fun (w : World) (hT : KindsAt w) => of_any 159 (by omega) w hT
  obtain ⟨k', hk'⟩ : ∃ x : Int, (poK 159 : Int) = x := ⟨_, rfl⟩
  obtain ⟨r', hr'⟩ : ∃ x : Int, (poR 159 : Int) = x := ⟨_, rfl⟩
  obtain ⟨o', ho'⟩ : ∃ x : Int, (poO 159 : Int) = x := ⟨_, rfl⟩
  obtain ⟨d', hd'⟩ : ∃ x, poI 159 = x := ⟨_, rfl⟩
  rw [hk', hr', ho', hd'] at c
  unfold hitQ at h
  rw [hk', hr', ho', hd'] at h
  have he : ∀ w, (binOp .eql 132 (.agg (postA k r o d)) (.agg (postA k' r' o' d'))).run Tryz.prog w = .ok (.bool false) w := fun w => by rw [eql_post, h]
  have C := Lib.hid c
  have HT := Lib.hid hT
  have HT' := Lib.hid (hT.below (Below.drew0 (Below.alloc0 (Below.refl _ w) (Obj.cells #[.int .i64 k, .int .i64 r, .int .u16 o, .bool d] 132))))
  have HB := Lib.hid (Blk.new w 132 #[.int .i64 k, .int .i64 r, .int .u16 o, .bool d] (0, 0))
  clear c hT hk' hr' ho' hd' h
  go_enter Tryz.func70, Tryz.ntmps70
  go_wp2
  go_region_held3 (fun w' => w'.cell? ⟨w.heap.size, 0, none⟩ = some (.int .i64 k) ∧ w'.cell? ⟨w.heap.size, 1, none⟩ = some (.int .i64 r) ∧ w'.cell? ⟨w.heap.size, 2, none⟩ = some (.int .u16 o) ∧ w'.cell? ⟨w.heap.size, 3, none⟩ = some (.bool d))
    (first
      | exact HB.out.s4
      | exact HB1.out.s4)
    (first
      | (go_at_call 63; (refine (C.out _ HT'.out).mono ?_; rintro e w1 ⟨rfl, hb1⟩; have HB1 := Lib.hid (by first | exact Blk.below HB.out hb1 (by simp) | exact Blk.belowD HB.out hb1 (by simp)); have Hb1 := Lib.hid hb1; clear hb1)))
  have b1 : Below w.heap.size w w1 := by first | exact Below.trans0 (Below.alloc0 (Below.refl _ _) _) Hb1.out | exact Below.trans0 (Below.drew0 (Below.alloc0 (Below.refl _ _) _)) Hb1.out
  have B1 := Lib.hid b1
  clear b1
  clear he
  go_wp2
  go_loopw [8] (fun u8 wr => ∃ i : Nat, i ≤ 256 ∧ u8 = .int .i64 i ∧ KindsAt wr ∧ Blk wr w.heap.size 132 (postA k r o d) ∧ Below w.heap.size w wr ∧ Hid (fnd (hitQ k r o d) 256 0 = fnd (hitQ k r o d) (256 - i) i)) (fun u8 _ => 256 - (intOf u8).toNat)
  case atStart => exact ⟨0, Nat.zero_le _, rfl, HT.out.below (by first | exact B1.out | exact Below.drew0 B1.out), HB1.out, (by first | exact B1.out | exact Below.drew0 B1.out), Lib.hid rfl⟩
  case round =>
    obtain ⟨i, hi, rfl, hK, hBk, hbel, hF⟩ := hrel
    have HK := Lib.hid hK
    have HK' := Lib.hid (show KindsAt wr.drew from hK)
    have HBk := Lib.hid hBk
    have HBel := Lib.hid hbel
    clear hK hBk hbel
    by_cases hlt : i < 256
    · have hi0 : (0 : Int) ≤ (i : Int) := by omega
      have hi1 : (i : Int) < 256 := by omega
      have t1 : IntKind.u8.wrap (i : Int) = (i : Int) := by rw [IntKind.wrap_u8]; omega
      have ci := of_any i hlt wr.drew HK'.out
      have cj := of_any i hlt wr HK.out
      cases hh : hitQ k r o d i
      all_goals
        have he : ∀ w, (binOp .eql 132 (.agg (postA (poK i) (poR i) (poO i) (poI i))) (.agg (postA k r o d))).run Tryz.prog w = .ok (.bool (hitQ k r o d i)) w := fun w => by rw [eql_post, hitQ_comm]
        rw [hh] at he
        have HH := Lib.hid hh
        have CI := Lib.hid ci
        have CJ := Lib.hid cj
        clear hh ci cj
        go_wp2
        go_region_held3 (fun w' => w'.cell? ⟨w.heap.size, 0, none⟩ = some (.int .i64 k) ∧ w'.cell? ⟨w.heap.size, 1, none⟩ = some (.int .i64 r) ∧ w'.cell? ⟨w.heap.size, 2, none⟩ = some (.int .u16 o) ∧ w'.cell? ⟨w.heap.size, 3, none⟩ = some (.bool d))
          (first
            | exact HBk.out.s4
            | exact HB2.out.s4)
          (first
            | (go_at_call 63; (first | refine CI.out.mono ?_ | refine CJ.out.mono ?_); rintro e w2 ⟨rfl, hb2⟩; have HB2 := Lib.hid (by first | exact Blk.below HBk.out hb2 HBk.out.lt | exact Blk.belowD HBk.out hb2 HBk.out.lt); have Hb2 := Lib.hid hb2; clear hb2))
        have b2 : Below wr.heap.size wr w2 := by first | exact Hb2.out | exact ⟨Hb2.out.os, Hb2.out.tape, Hb2.out.output, Hb2.out.size, Hb2.out.block⟩
        have B2 := Lib.hid b2
        clear b2 he t1
      · go_wp2
        go_roundw
        case rel => exact ⟨i + 1, by omega, by go_num, HK.out.below (by first | exact B2.out | exact Below.drew0 B2.out), HB2.out, by first | exact Below.trans0 HBel.out B2.out | exact Below.drew0 (Below.trans0 HBel.out B2.out), Lib.hid (by rw [hF.out, fnd_step _ _ _ hlt HH.out])⟩
        case measure => simp [intOf]; omega
      · go_wp2
        go_ret2
        have hv : fnd (hitQ k r o d) 256 0 = i := by rw [hF.out, fnd_hit _ _ _ hlt HH.out]
        refine ⟨?_, by first | exact Below.trans0 HBel.out B2.out | exact Below.drew0 (Below.trans0 HBel.out B2.out)⟩
        rw [hv]
        simp [codeV, hlt]
    · obtain rfl : i = 256 := by omega
      go_wp2
      go_ret2
      have hv : fnd (hitQ k r o d) 256 0 = 256 := by rw [hF.out]; rfl
      refine ⟨?_, HBel.out⟩
      rw [hv]
      rfl
theorem code_any (k r o : Int) (d : Bool) (w : World) (hT : KindsAt w) :
    Calls Tryz.prog 70 #[.agg #[.int .i64 k, .int .i64 r, .int .u16 o, .bool d]] w fun e w' => e = .returned (.tuple #[.int .u8 (codeV (codeL k r o d)), .bool (decide (codeL k r o d < 256))]) ∧ Below w.heap.size w w' := by
  rw [← code_same]
  unfold codeQ
  cases h : hitQ k r o d 159
  · exact code_else k r o d h w hT
  · exact code_hit k r o d h w hT
end Go.Proofs.YtljhfalgplihhaaGreatDoor
namespace Go.Proofs.YtljhfalgplihhaaGreatDoor
open Go.ChangeShapes Go.WideShapes Go.ChangeAt Go.RowKit
set_option linter.unusedVariables false

abbrev iC (p c o m r b v l : Int) : Array Value := #[.int .i64 p, .int .u8 c, .int .i64 o, .int .i64 m, .int .i64 r, .int .u8 b, .int .u16 v, .int .i64 l]
def firstN (o m : Int) (b : Nat) : Int :=
  if m = 0 then aloneN o else if m = 1 then oneN o else if m = 2 then twoN o else if m = 3 then memN o else if m = 4 then memN o + poExtra (poK b) (poI b) else if m = 5 then memN o + 1 else if m = 9 then 5 + cntN b else otherN o
theorem memN_le (o : Int) : 0 ≤ memN o ∧ memN o ≤ 7 := by unfold memN; repeat (first | (split; · simp) | simp)
theorem six {w : World} {g : Nat} {t : TypeId} {v0 v1 v2 v3 v4 v5 v6 v7 : Value} (h : Blk w g t #[v0, v1, v2, v3, v4, v5, v6, v7]) : w.cell? ⟨g, 2, none⟩ = some v2 ∧ w.cell? ⟨g, 3, none⟩ = some v3 ∧ w.cell? ⟨g, 5, none⟩ = some v5 := by
  refine ⟨?_, ?_, ?_⟩ <;> (rw [h.cell]; rfl)
theorem poExtra_le : ((List.range 256).all fun b => Nat.ble (poExtra (poK b) (poI b)) 20) = true := by decide +kernel
theorem kinds_below {w w' : World} (h : KindsAt w) (hb : Below w.heap.size w w') : KindsAt w' := fun k hk => (hb.cell (p := ⟨1, k, none⟩) (cell_lt (h k hk))).trans (h k hk)
end Go.Proofs.YtljhfalgplihhaaGreatDoor
