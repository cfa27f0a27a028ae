/- Differ: lines of a report (package differ). -/
import Derived.Test.YtpleboogijgdcaaDif
import Derived.Test.YtpleboogijgdcaaDfl
import Derived.Test.YtpleboogijgdcaaRcT
import Derived.Test.YtpleboogijgdcaaDigLaw
import Derived.Test.YtpleboogijgdcaaBld
import Derived.Test.YtpleboogijgdcaaShelf
import Derived.Deep.RegionHeld3
namespace Go.Proofs.Ytpleboogijgdcaa
open Go.ChangeShapes Go.WideShapes Go.ChangeAt Go.RowKit
set_option linter.unusedVariables false

theorem ret_str {a b : ByteArray} (h : a = b) : Ending.returned (.string a) = .returned (.string b) := by rw [h]
noncomputable def decS (k : Nat) : ByteArray := strOfNums (written 10 (k : Int) 1)
noncomputable def txS (l : List Rc) (k : Nat) : ByteArray := match l[k]? with | some x => strOfNums (txN x) | none => ⟨#[45]⟩
noncomputable def wtS (l m : List Rc) (k : Nat) : ByteArray := match l[k]?, m[k]? with | some x, some y => ⟨#[32]⟩ ++ fldT x y 9 | _, _ => ⟨#[]⟩
noncomputable def lnS (l m : List Rc) (k : Nat) : ByteArray := ((((((decS k ++ ⟨#[58, 32]⟩) ++ txS l k) ++ ⟨#[32, 47, 32]⟩) ++ txS m k) ++ wtS l m k) ++ ⟨#[10]⟩)
theorem decS_size (k : Nat) (h : k ≤ 1000000000000) : (decS k).size ≤ 20 := size_written 10 (k : Int) 20 1 (by decide) (by decide) (by decide) (by omega) (by omega)
theorem tx17 (x : Rc) (h : x.Ok) : (strOfNums (txN x)).size = 17 := by
  have a : (adN x).length = 4 := by have := adN_size x h; rwa [size_strOf] at this
  have d : (daN x).length = 2 := by have := daN_size x; rwa [size_strOf] at this
  rw [size_strOf]
  unfold txN
  simp [a, d, lnL]
theorem txS_size (l : List Rc) (hok : ∀ x ∈ l, x.Ok) (k : Nat) : (txS l k).size ≤ 17 := by
  unfold txS
  split
  · next x h => exact Nat.le_of_eq (tx17 x (hok x (List.mem_of_getElem? h)))
  · decide
theorem fldT_size (x y : Rc) : (fldT x y 9).size ≤ 60 := by
  have := (dfl_ck x y).2.1 9 (by omega)
  simpa [fldT, ByteArray.size] using this
theorem wtS_size (l m : List Rc) (k : Nat) : (wtS l m k).size ≤ 61 := by
  unfold wtS
  split
  · next x y _ _ =>
    have := fldT_size x y
    rw [ByteArray.size_append]
    have e : (⟨#[32]⟩ : ByteArray).size = 1 := rfl
    omega
  · decide
theorem lnS_size (l m : List Rc) (hl : ∀ x ∈ l, x.Ok) (hm : ∀ x ∈ m, x.Ok) (k : Nat) (hk : k ≤ 1000000000000) : 0 < (lnS l m k).size ∧ (lnS l m k).size ≤ 130 := by
  have h1 := decS_size k hk
  have h2 := txS_size l hl k
  have h3 := txS_size m hm k
  have h4 := wtS_size l m k
  unfold lnS
  simp only [ByteArray.size_append]
  have e1 : (⟨#[58, 32]⟩ : ByteArray).size = 2 := rfl
  have e2 : (⟨#[32, 47, 32]⟩ : ByteArray).size = 3 := rfl
  have e3 : (⟨#[10]⟩ : ByteArray).size = 1 := rfl
  omega
/-- The report so far, and how many lines more there may be. -/
noncomputable def repS (l m : List Rc) (most : Int) : Nat → ByteArray × Int
  | 0 => (⟨#[]⟩, most)
  | k + 1 => if 0 < (repS l m most k).2 ∧ dfB l m k = true then ((repS l m most k).1 ++ lnS l m k, (repS l m most k).2 - 1) else repS l m most k
theorem repS_yes (l m : List Rc) (most : Int) (k : Nat) (h : 0 < (repS l m most k).2) (hd : dfB l m k = true) : repS l m most (k + 1) = ((repS l m most k).1 ++ lnS l m k, (repS l m most k).2 - 1) := by
  rw [repS, if_pos ⟨h, hd⟩]
theorem repS_no (l m : List Rc) (most : Int) (k : Nat) (hd : dfB l m k = false) : repS l m most (k + 1) = repS l m most k := by
  rw [repS, if_neg (by rw [hd]; simp)]
theorem repS_stop (l m : List Rc) (most : Int) (k : Nat) (h : ¬ 0 < (repS l m most k).2) : ∀ j, repS l m most (k + j) = repS l m most k := by
  intro j
  induction j with
  | zero => rfl
  | succ j ih => rw [← Nat.add_assoc, repS, if_neg (by rw [ih]; exact fun q => h q.1), ih]
theorem repS_left (l m : List Rc) (most : Int) (k : Nat) : (repS l m most k).2 = if 0 < most then (if (ctD l m k : Int) < most then most - (ctD l m k : Int) else 0) else most := by
  induction k with
  | zero => simp only [repS, ctD, List.range_zero, List.filter_nil, List.length_nil]; (repeat' split) <;> omega
  | succ k ih =>
    have hc := ctD_next l m k
    by_cases hd : dfB l m k = true
    · rw [hd] at hc
      simp only [if_true] at hc
      by_cases h : 0 < (repS l m most k).2
      · rw [repS_yes l m most k h hd]
        simp only
        rw [ih] at h ⊢
        split at h <;> (try split at h) <;> (repeat' split) <;> omega
      · rw [repS, if_neg (fun q => h q.1)]
        rw [ih] at h ⊢
        split at h <;> (try split at h) <;> (repeat' split) <;> omega
    · have hd' : dfB l m k = false := by simpa using hd
      rw [hd'] at hc
      rw [repS_no l m most k hd', ih, hc]
      simp
theorem repS_more (l m : List Rc) (most : Int) (k : Nat) : decide (0 < (repS l m most k).2) = decide ((ctD l m k : Int) < most) := by
  rw [repS_left]
  congr 1
  apply propext
  (repeat' split) <;> omega
theorem repS_le (l m : List Rc) (most : Int) (k : Nat) : (repS l m most k).2 ≤ most ∧ (0 < most → 0 ≤ (repS l m most k).2) := by
  rw [repS_left]
  (repeat' split) <;> omega
theorem repS_size (l m : List Rc) (hl : ∀ x ∈ l, x.Ok) (hm : ∀ x ∈ m, x.Ok) (most : Int) (k : Nat) (hk : k ≤ 1000000) : (repS l m most k).1.size ≤ 130 * k := by
  induction k with
  | zero => simp [repS, ByteArray.size]
  | succ k ih =>
    have h1 := ih (by omega)
    have h2 := (lnS_size l m hl hm k (by omega)).2
    rw [repS]
    split
    · simp only [ByteArray.size_append]; omega
    · omega
theorem repS_mono (l m : List Rc) (most : Int) (k : Nat) : ∀ j, (repS l m most k).1.size ≤ (repS l m most (k + j)).1.size := by
  intro j
  induction j with
  | zero => exact Nat.le_refl _
  | succ j ih =>
    refine Nat.le_trans ih ?_
    rw [← Nat.add_assoc, repS]
    split
    · simp only [ByteArray.size_append]; omega
    · exact Nat.le_refl _
/-- A report has no line just if the traces are one. -/
theorem repS_same (l m : List Rc) (hl : ∀ x ∈ l, x.Ok) (hm : ∀ x ∈ m, x.Ok) (most : Int) (h0 : 0 < most) (hx : mxD l m ≤ 1000000) : ((repS l m most (mxD l m)).1.toList == (⟨#[]⟩ : ByteArray).toList) = eqB l m := by
  rw [Bool.eq_iff_iff, eqB_iff, ← same_df, beq_iff_eq]
  have none : ∀ k, (∀ j, j < k → dfB l m j = false) → repS l m most k = (⟨#[]⟩, most) := by
    intro k
    induction k with
    | zero => intro _; rfl
    | succ k ih => intro h; rw [repS_no l m most k (h k (by omega)), ih (fun j hj => h j (by omega))]
  constructor
  · intro h k hk
    have key : ∀ n k, k < n → k < mxD l m → dfB l m k = false := by
      intro n
      induction n with
      | zero => intro k h; omega
      | succ n ih =>
        intro k hkn hkm
        by_cases e : k < n
        · exact ih k e hkm
        · cases hd : dfB l m k with
          | false => rfl
          | true =>
            exfalso
            have hk0 := none k (fun j hj => ih j (by omega) (by omega))
            have h1 := repS_yes l m most k (by rw [hk0]; exact h0) hd
            have h2 := repS_mono l m most (k + 1) (mxD l m - (k + 1))
            rw [show k + 1 + (mxD l m - (k + 1)) = mxD l m by omega, h1] at h2
            simp only [ByteArray.size_append] at h2
            have h3 := (lnS_size l m hl hm k (by omega)).1
            have h4 : (repS l m most (mxD l m)).1 = ⟨#[]⟩ := by
              rw [ByteArray.toList_eq, ByteArray.toList_eq] at h
              apply ByteArray.ext
              exact Array.toList_inj.1 h
            rw [h4] at h2
            have : (⟨#[]⟩ : ByteArray).size = 0 := rfl
            omega
    exact key (k + 1) k (by omega) hk
  · intro h
    rw [none _ h]
theorem bldBelow {B b : Nat} {bs : List Value} {w w' : World} (h : Bld B b bs w) (hb : Below w.heap.size w w') : Bld B b bs w' := by
  have key : ∀ p, Lib.BuilderAt 63 5 B b p bs w → Lib.BuilderAt 63 5 B b p bs w' := by
    rintro p ⟨h1, v, h2, h3, h4⟩
    refine ⟨h1, v, (hb.block b (Blk.lt (t := _) (cs := _) (fr := (0, 0)) h2)).trans h2, ?_, h4⟩
    obtain ⟨hl, h5⟩ := h3
    refine ⟨hl, ?_⟩
    rcases h5 with h5 | ⟨g, cap, cur, rfl, h6, h7, h8⟩
    · exact .inl h5
    · exact .inr ⟨g, cap, cur, rfl, h6, (hb.block g (Blk.lt (t := _) (cs := cur) (fr := (0, 0)) h7)).trans h7, h8⟩
  rcases h with h | h
  · exact .inl (key _ h)
  · exact .inr (key _ h)
theorem strCells_app (s t : ByteArray) : Lib.strCells (s ++ t) = Lib.strCells s ++ Lib.strCells t := by
  simp [Lib.strCells]
set_option maxRecDepth 100000 in
set_option maxHeartbeats 2000000 in
theorem dfText_any (v : Value) (l : List Rc) (hok : ∀ x ∈ l, x.Ok) (k : Nat) (w : World) (h : eR.Rd w v l) :
    Calls Try.prog 55 #[v, .int .i64 (k : Int)] w fun e w' => e = .returned (.string (txS l k)) ∧ Below w.heap.size w w' := by
  obtain ⟨A, c, rfl, hc⟩ := h.open_
  unfold txS
  by_cases h1 : k < l.length
  · obtain ⟨b, off, rfl, hb, hcell⟩ := hc (by omega)
    obtain ⟨x, hx⟩ : ∃ x, l[k]? = some x := ⟨_, List.getElem?_eq_getElem h1⟩
    obtain ⟨d0, d1, d2, d3, d4, d5, d6, d7, d8⟩ := rc9_at (Below.refl w.heap.size w) hb (fun jj u hu => hcell k x hx jj u hu)
    rw [hx]
    simp only
    have CT := Lib.hid (fun u => rcText_any x (hok x (List.mem_of_getElem? hx)) u)
    have k0 : (0 : Int) ≤ k := by omega
    have k1 : (k : Int) < l.length := by omega
    generalize l.length = n at *
    clear h hc hcell hx h1 hok
    go_enter Try.func55, Try.ntmps55
    go_wp2_with fail
    refine (CT.out _).mono ?_
    rintro e w1 ⟨rfl, hb1⟩
    have HB := Lib.hid hb1
    clear hb1
    go_wp2
    go_ret
    exact ⟨rfl, HB.out⟩
  · rw [List.getElem?_eq_none (by omega)]
    simp only
    have k1 : ¬ (k : Int) < l.length := by omega
    generalize l.length = n at *
    clear h hc h1 hok
    go_enter Try.func55, Try.ntmps55
    go_wp2
    go_ret
    exact ⟨rfl, Below.refl _ _⟩
set_option maxRecDepth 100000 in
set_option maxHeartbeats 4000000 in
theorem dfLine_any (v v' : Value) (l m : List Rc) (hl : ∀ x ∈ l, x.Ok) (hm : ∀ x ∈ m, x.Ok) (k : Nat) (hk : k ≤ 1000000) (w : World) (h : eR.Rd w v l) (h' : eR.Rd w v' m) :
    Calls Try.prog 32 #[v, v', .int .i64 (k : Int)] w fun e w' => e = .returned (.string (lnS l m k)) ∧ Below w.heap.size w w' := by
  have HR := Lib.hid h
  have HR' := Lib.hid h'
  have CA := Lib.hid (fun u (q : eR.Rd u v l) => dfText_any v l hl k u q)
  have CA' := Lib.hid (fun u (q : eR.Rd u v' m) => dfText_any v' m hm k u q)
  obtain ⟨A, c, rfl, hc⟩ := h.open_
  obtain ⟨A', c', rfl, hc'⟩ := h'.open_
  have CB := Lib.hid (fun u => dfBoth_any A A' l.length m.length c c' k u)
  have CD := Lib.hid (fun u => dec_any (k : Int) u (by omega) (by omega))
  have z1 := decS_size k (by omega)
  have z2 := txS_size l hl k
  have z3 := txS_size m hm k
  have z4 := wtS_size l m k
  have k0 : (0 : Int) ≤ k := by omega
  have k1 : (k : Int) ≤ 1000000 := by omega
  have HE := Lib.hid (show lnS l m k = ((((((decS k ++ ⟨#[58, 32]⟩) ++ txS l k) ++ ⟨#[32, 47, 32]⟩) ++ txS m k) ++ wtS l m k) ++ ⟨#[10]⟩) from rfl)
  unfold decS at z1 HE
  obtain ⟨s1, hs1⟩ : ∃ s1, strOfNums (written 10 (k : Int) 1) = s1 := ⟨_, rfl⟩
  obtain ⟨s2, hs2⟩ : ∃ s2, txS l k = s2 := ⟨_, rfl⟩
  obtain ⟨s3, hs3⟩ : ∃ s3, txS m k = s3 := ⟨_, rfl⟩
  rw [hs1] at z1 HE CD
  rw [hs2] at z2 HE CA
  rw [hs3] at z3 HE CA'
  clear hs1 hs2 hs3
  have e1 : (⟨#[58, 32]⟩ : ByteArray).size = 2 := rfl
  have e2 : (⟨#[32, 47, 32]⟩ : ByteArray).size = 3 := rfl
  have e3 : (⟨#[10]⟩ : ByteArray).size = 1 := rfl
  have y1 : ¬ 9223372036854775807 < s1.size + (⟨#[58, 32]⟩ : ByteArray).size := by omega
  have y2 : ¬ 9223372036854775807 < (s1 ++ ⟨#[58, 32]⟩).size + s2.size := by rw [ByteArray.size_append]; omega
  have y3 : ¬ 9223372036854775807 < ((s1 ++ ⟨#[58, 32]⟩) ++ s2).size + (⟨#[32, 47, 32]⟩ : ByteArray).size := by simp only [ByteArray.size_append]; omega
  have y4 : ¬ 9223372036854775807 < (((s1 ++ ⟨#[58, 32]⟩) ++ s2) ++ ⟨#[32, 47, 32]⟩).size + s3.size := by simp only [ByteArray.size_append]; omega
  have zo : ((((s1 ++ ⟨#[58, 32]⟩) ++ s2) ++ ⟨#[32, 47, 32]⟩) ++ s3).size ≤ 70 := by simp only [ByteArray.size_append]; omega
  by_cases h1 : k < l.length ∧ k < m.length
  · obtain ⟨h1, h2⟩ := h1
    have t : (decide (k < l.length) && decide (k < m.length)) = true := by simp [h1, h2]
    rw [t] at CB
    obtain ⟨b, off, rfl, hb, hcell⟩ := hc (by omega)
    obtain ⟨b', off', rfl, hb', hcell'⟩ := hc' (by omega)
    obtain ⟨x, hx⟩ : ∃ x, l[k]? = some x := ⟨_, List.getElem?_eq_getElem h1⟩
    obtain ⟨y, hy⟩ : ∃ y, m[k]? = some y := ⟨_, List.getElem?_eq_getElem h2⟩
    have S0 : Hid (∀ u : World, Below w.heap.size w u → (fun w' : World => (w'.cell? ⟨b, off + k * 9, none⟩ = some (.int .u16 x.a) ∧ w'.cell? ⟨b, off + k * 9 + 1, none⟩ = some (.int .u8 x.d) ∧ w'.cell? ⟨b, off + k * 9 + 2, none⟩ = some (.bool x.r) ∧ w'.cell? ⟨b, off + k * 9 + 3, none⟩ = some (.bool x.b1) ∧ w'.cell? ⟨b, off + k * 9 + 4, none⟩ = some (.bool x.b2) ∧ w'.cell? ⟨b, off + k * 9 + 5, none⟩ = some (.bool x.b3) ∧ w'.cell? ⟨b, off + k * 9 + 6, none⟩ = some (.bool x.b4) ∧ w'.cell? ⟨b, off + k * 9 + 7, none⟩ = some (.bool x.b5) ∧ w'.cell? ⟨b, off + k * 9 + 8, none⟩ = some (.bool x.m)) ∧ (w'.cell? ⟨b', off' + k * 9, none⟩ = some (.int .u16 y.a) ∧ w'.cell? ⟨b', off' + k * 9 + 1, none⟩ = some (.int .u8 y.d) ∧ w'.cell? ⟨b', off' + k * 9 + 2, none⟩ = some (.bool y.r) ∧ w'.cell? ⟨b', off' + k * 9 + 3, none⟩ = some (.bool y.b1) ∧ w'.cell? ⟨b', off' + k * 9 + 4, none⟩ = some (.bool y.b2) ∧ w'.cell? ⟨b', off' + k * 9 + 5, none⟩ = some (.bool y.b3) ∧ w'.cell? ⟨b', off' + k * 9 + 6, none⟩ = some (.bool y.b4) ∧ w'.cell? ⟨b', off' + k * 9 + 7, none⟩ = some (.bool y.b5) ∧ w'.cell? ⟨b', off' + k * 9 + 8, none⟩ = some (.bool y.m))) u) := Lib.hid (fun u hu => ⟨rc9_at hu hb (fun jj u hu => hcell k x hx jj u hu), rc9_at hu hb' (fun jj u hu => hcell' k y hy jj u hu)⟩)
    have E : wtS l m k = ⟨#[32]⟩ ++ fldT x y 9 := by unfold wtS; rw [hx, hy]
    rw [E] at HE z4
    have CF := Lib.hid (fun u => fields_any x y u)
    obtain ⟨s4, hs4⟩ : ∃ s4, fldT x y 9 = s4 := ⟨_, rfl⟩
    rw [hs4] at HE z4 CF
    rw [ByteArray.size_append] at z4
    clear hs4 E
    have e4 : (⟨#[32]⟩ : ByteArray).size = 1 := rfl
    have k2 : (k : Int) < l.length := by omega
    have k3 : (k : Int) < m.length := by omega
    generalize l.length = n at *
    generalize m.length = n' at *
    have HL := HE.out
    clear HE
    rw [HL]
    clear HL h h' hc hc' hcell hcell' hx hy h1 h2 t hk hl hm
    go_enter Try.func32, Try.ntmps32
    go_wp2_with fail
    refine (CD.out _).mono ?_
    rintro e w1 ⟨rfl, hb1⟩
    have HB1 := Lib.hid hb1
    have HR1 := Lib.hid (HR.out.below hb1)
    have HR1' := Lib.hid (HR'.out.below hb1)
    clear hb1
    go_wp2_with fail
    refine (CA.out _ HR1.out).mono ?_
    rintro e w2 ⟨rfl, hb1⟩
    have HB2 := Lib.hid (Below.trans0 HB1.out hb1)
    have HR2' := Lib.hid (HR1'.out.below hb1)
    clear hb1
    go_wp2_with fail
    refine (CA'.out _ HR2'.out).mono ?_
    rintro e w3 ⟨rfl, hb1⟩
    have HB3 := Lib.hid (Below.trans0 HB2.out hb1)
    clear hb1
    go_wp2_with fail
    refine (CB.out _).mono ?_
    rintro e w4 ⟨rfl, rfl⟩
    clear y1 y2 y3 y4 z1 z2 z3 HR1 HR1' HR2'
    generalize hso : ((((s1 ++ ⟨#[58, 32]⟩) ++ s2) ++ ⟨#[32, 47, 32]⟩) ++ s3) = so at *
    have HSO := Lib.hid hso
    clear hso
    have y5 : ¬ 9223372036854775807 < (⟨#[32]⟩ : ByteArray).size + s4.size := by omega
    have y6 : ¬ 9223372036854775807 < so.size + (⟨#[32]⟩ ++ s4).size := by rw [ByteArray.size_append]; omega
    have y7 : ¬ 9223372036854775807 < (so ++ (⟨#[32]⟩ ++ s4)).size + (⟨#[10]⟩ : ByteArray).size := by simp only [ByteArray.size_append]; omega
    have y5' : ¬ 9223372036854775807 < 1 + s4.size := by omega
    have y6' : ¬ 9223372036854775807 < so.size + (1 + s4.size) := by omega
    have SW := Lib.hid (S0.out _ (Below.drew0 HB3.out))
    have HB3d := Lib.hid (Below.drew0 HB3.out)
    go_wp2
    refine wp_region_noPanic ?_
    refine wp_region_held_drew (S := (fun w' : World => (w'.cell? ⟨b, off + k * 9, none⟩ = some (.int .u16 x.a) ∧ w'.cell? ⟨b, off + k * 9 + 1, none⟩ = some (.int .u8 x.d) ∧ w'.cell? ⟨b, off + k * 9 + 2, none⟩ = some (.bool x.r) ∧ w'.cell? ⟨b, off + k * 9 + 3, none⟩ = some (.bool x.b1) ∧ w'.cell? ⟨b, off + k * 9 + 4, none⟩ = some (.bool x.b2) ∧ w'.cell? ⟨b, off + k * 9 + 5, none⟩ = some (.bool x.b3) ∧ w'.cell? ⟨b, off + k * 9 + 6, none⟩ = some (.bool x.b4) ∧ w'.cell? ⟨b, off + k * 9 + 7, none⟩ = some (.bool x.b5) ∧ w'.cell? ⟨b, off + k * 9 + 8, none⟩ = some (.bool x.m)) ∧ (w'.cell? ⟨b', off' + k * 9, none⟩ = some (.int .u16 y.a) ∧ w'.cell? ⟨b', off' + k * 9 + 1, none⟩ = some (.int .u8 y.d) ∧ w'.cell? ⟨b', off' + k * 9 + 2, none⟩ = some (.bool y.r) ∧ w'.cell? ⟨b', off' + k * 9 + 3, none⟩ = some (.bool y.b1) ∧ w'.cell? ⟨b', off' + k * 9 + 4, none⟩ = some (.bool y.b2) ∧ w'.cell? ⟨b', off' + k * 9 + 5, none⟩ = some (.bool y.b3) ∧ w'.cell? ⟨b', off' + k * 9 + 6, none⟩ = some (.bool y.b4) ∧ w'.cell? ⟨b', off' + k * 9 + 7, none⟩ = some (.bool y.b5) ∧ w'.cell? ⟨b', off' + k * 9 + 8, none⟩ = some (.bool y.m)))) (by kernel_rfl) ?_ (fun hH0 => ?_)
    · (try dsimp only); with_reducible exact SW.out
    refine wpAnyH_take (i := 0) (oi := ({ dst := some 25, op := Op.move (Operand.tmp 7), type := 9, pos := "differ.go:89", after := #[], guard := none } : Oper)) (v := ?_) rfl (by kernel_rfl) (by kernel_rfl) (by kernel_rfl) (fun _ _ _ h => h) (Or.inl ⟨by rfl, ?_⟩) (by assumption) ?_
    rotate_left 1
    · (intro w hSw; (try dsimp only at hSw); go_simp; (try with_reducible rfl))
    (try simp only [Act.put, List.setIfInBounds_toArray, List.set_cons_zero, List.set_cons_succ])
    refine wpAnyH_take (i := 1) (oi := ({ dst := some 26, op := Op.move (Operand.tmp 0), type := 22, pos := "differ.go:89", after := #[], guard := none } : Oper)) (v := ?_) rfl (by kernel_rfl) (by kernel_rfl) (by kernel_rfl) (fun _ _ _ h => h) (Or.inl ⟨by rfl, ?_⟩) (by assumption) ?_
    rotate_left 1
    · (intro w hSw; (try dsimp only at hSw); go_simp; (try with_reducible rfl))
    (try simp only [Act.put, List.setIfInBounds_toArray, List.set_cons_zero, List.set_cons_succ])
    refine wpAnyH_take (i := 2) (oi := ({ dst := some 27, op := Op.move (Operand.tmp 2), type := 3, pos := "differ.go:89", after := #[], guard := none } : Oper)) (v := ?_) rfl (by kernel_rfl) (by kernel_rfl) (by kernel_rfl) (fun _ _ _ h => h) (Or.inl ⟨by rfl, ?_⟩) (by assumption) ?_
    rotate_left 1
    · (intro w hSw; (try dsimp only at hSw); go_simp; (try with_reducible rfl))
    (try simp only [Act.put, List.setIfInBounds_toArray, List.set_cons_zero, List.set_cons_succ])
    refine wpAnyH_take (i := 3) (oi := ({ dst := some 28, op := Op.indexAddr 22 (Operand.tmp 26) (Operand.tmp 27), type := 0, pos := "differ.go:89", after := #[{ on := 1, ground := Ground.data }, { on := 2, ground := Ground.data }], guard := none } : Oper)) (v := ?_) rfl (by kernel_rfl) (by kernel_rfl) (by kernel_rfl) (fun _ _ _ h => h) (Or.inl ⟨by rfl, ?_⟩) (by assumption) ?_
    rotate_left 1
    · (intro w hSw; (try dsimp only at hSw); go_simp; (try with_reducible rfl))
    (try simp only [Act.put, List.setIfInBounds_toArray, List.set_cons_zero, List.set_cons_succ])
    refine wpAnyH_take (i := 4) (oi := ({ dst := some 29, op := Op.load 26 (Operand.tmp 28), type := 26, pos := "differ.go:89", after := #[{ on := 3, ground := Ground.data }], guard := none } : Oper)) (v := ?_) rfl (by kernel_rfl) (by kernel_rfl) (by kernel_rfl) (fun _ _ _ h => h) (Or.inl ⟨by rfl, ?_⟩) (by assumption) ?_
    rotate_left 1
    · (intro w hSw; (try dsimp only at hSw); go_simp; (try with_reducible rfl))
    (try simp only [Act.put, List.setIfInBounds_toArray, List.set_cons_zero, List.set_cons_succ])
    refine wpAnyH_take (i := 5) (oi := ({ dst := some 30, op := Op.move (Operand.tmp 1), type := 22, pos := "differ.go:89", after := #[], guard := none } : Oper)) (v := ?_) rfl (by kernel_rfl) (by kernel_rfl) (by kernel_rfl) (fun _ _ _ h => h) (Or.inl ⟨by rfl, ?_⟩) (by assumption) ?_
    rotate_left 1
    · (intro w hSw; (try dsimp only at hSw); go_simp; (try with_reducible rfl))
    (try simp only [Act.put, List.setIfInBounds_toArray, List.set_cons_zero, List.set_cons_succ])
    refine wpAnyH_take (i := 6) (oi := ({ dst := some 31, op := Op.move (Operand.tmp 2), type := 3, pos := "differ.go:89", after := #[], guard := none } : Oper)) (v := ?_) rfl (by kernel_rfl) (by kernel_rfl) (by kernel_rfl) (fun _ _ _ h => h) (Or.inl ⟨by rfl, ?_⟩) (by assumption) ?_
    rotate_left 1
    · (intro w hSw; (try dsimp only at hSw); go_simp; (try with_reducible rfl))
    (try simp only [Act.put, List.setIfInBounds_toArray, List.set_cons_zero, List.set_cons_succ])
    refine wpAnyH_take (i := 7) (oi := ({ dst := some 32, op := Op.indexAddr 22 (Operand.tmp 30) (Operand.tmp 31), type := 0, pos := "differ.go:89", after := #[{ on := 5, ground := Ground.data }, { on := 6, ground := Ground.data }], guard := none } : Oper)) (v := ?_) rfl (by kernel_rfl) (by kernel_rfl) (by kernel_rfl) (fun _ _ _ h => h) (Or.inl ⟨by rfl, ?_⟩) (by assumption) ?_
    rotate_left 1
    · (intro w hSw; (try dsimp only at hSw); go_simp; (try with_reducible rfl))
    (try simp only [Act.put, List.setIfInBounds_toArray, List.set_cons_zero, List.set_cons_succ])
    refine wpAnyH_take (i := 8) (oi := ({ dst := some 33, op := Op.load 26 (Operand.tmp 32), type := 26, pos := "differ.go:89", after := #[{ on := 7, ground := Ground.data }], guard := none } : Oper)) (v := ?_) rfl (by kernel_rfl) (by kernel_rfl) (by kernel_rfl) (fun _ _ _ h => h) (Or.inl ⟨by rfl, ?_⟩) (by assumption) ?_
    rotate_left 1
    · (intro w hSw; (try dsimp only at hSw); go_simp; (try with_reducible rfl))
    (try simp only [Act.put, List.setIfInBounds_toArray, List.set_cons_zero, List.set_cons_succ])
    refine wpAnyH_ready (rs := [9]) (by kernel_rfl) (by simp) ?_
    refine AllReadyH.cons (o := ({ dst := some 34, op := Op.call { callee := Callee.value (Operand.func 14), args := #[Operand.tmp 29, Operand.tmp 33], argTypes := #[26, 26] }, type := 9, pos := "differ.go:89", after := #[{ on := 4, ground := Ground.data }, { on := 8, ground := Ground.data }], guard := none } : Oper)) rfl (fun K hK => ?_) ?_
    rotate_left 1
    · exact AllReadyH.nil
    go_simp
    go_at_call 14
    ((with_reducible refine (CF.out _).mono ?_); rintro e w5 ⟨rfl, hb5⟩; have HB5 := Lib.hid (Below.trans0 HB3d.out hb5); have S5 := Lib.hid (S0.out _ HB5.out); clear hb5)
    first | (refine hK.out _ _ ?_ (fun hH1 => ?_)) | (go_wp2_with fail; refine hK.out _ _ ?_ (fun hH1 => ?_))
    · (try dsimp only); with_reducible exact S5.out
    clear hK K hH0
    (try simp only [Act.put, List.setIfInBounds_toArray, List.set_cons_zero, List.set_cons_succ])
    refine wpAnyH_take (i := 10) (oi := ({ dst := some 35, op := Op.binOp BinOp.add 9 (Operand.const (Value.string { data := #[32] })) (Operand.tmp 34) 9, type := 9, pos := "differ.go:89", after := #[{ on := 9, ground := Ground.data }], guard := none } : Oper)) (v := ?_) rfl (by kernel_rfl) (by kernel_rfl) (by kernel_rfl) (fun _ _ _ h => h) (Or.inl ⟨by rfl, ?_⟩) (by assumption) ?_
    rotate_left 1
    · (intro w hSw; (try dsimp only at hSw); go_simp; (try with_reducible rfl))
    (try simp only [Act.put, List.setIfInBounds_toArray, List.set_cons_zero, List.set_cons_succ])
    refine wpAnyH_take (i := 11) (oi := ({ dst := some 36, op := Op.binOp BinOp.add 9 (Operand.tmp 25) (Operand.tmp 35) 9, type := 9, pos := "differ.go:89", after := #[{ on := 0, ground := Ground.data }, { on := 10, ground := Ground.data }], guard := none } : Oper)) (v := ?_) rfl (by kernel_rfl) (by kernel_rfl) (by kernel_rfl) (fun _ _ _ h => h) (Or.inl ⟨by rfl, ?_⟩) (by assumption) ?_
    rotate_left 1
    · (intro w hSw; (try dsimp only at hSw); go_simp; (try with_reducible rfl))
    (try simp only [Act.put, List.setIfInBounds_toArray, List.set_cons_zero, List.set_cons_succ])
    refine wpAnyH_take (i := 12) (oi := ({ dst := some 7, op := Op.assign (Operand.tmp 36), type := 9, pos := "differ.go:89", after := #[{ on := 11, ground := Ground.data }, { on := 9, ground := Ground.chain }, { on := 0, ground := Ground.phase }, { on := 1, ground := Ground.phase }, { on := 2, ground := Ground.phase }, { on := 3, ground := Ground.phase }, { on := 4, ground := Ground.phase }, { on := 5, ground := Ground.phase }, { on := 6, ground := Ground.phase }, { on := 7, ground := Ground.phase }, { on := 8, ground := Ground.phase }, { on := 9, ground := Ground.phase }, { on := 10, ground := Ground.phase }, { on := 11, ground := Ground.phase }], guard := none } : Oper)) (v := ?_) rfl (by kernel_rfl) (by kernel_rfl) (by kernel_rfl) (fun _ _ _ h => h) (Or.inl ⟨by rfl, ?_⟩) (by assumption) ?_
    rotate_left 1
    · (intro w hSw; (try dsimp only at hSw); go_simp; (try with_reducible rfl))
    (try simp only [Act.put, List.setIfInBounds_toArray, List.set_cons_zero, List.set_cons_succ])
    refine wpAnyH_done (by kernel_rfl) ?_ _
    refine NoPanic.normal ?_
    all_goals
      go_wp2
      go_ret
      exact ⟨congrArg (fun z : ByteArray => Ending.returned (.string ((z ++ ((⟨#[32]⟩ : ByteArray) ++ s4)) ++ (⟨#[10]⟩ : ByteArray)))) HSO.out.symm, HB5.out⟩
  · have t : (decide (k < l.length) && decide (k < m.length)) = false := by
      rw [Bool.and_eq_false_iff, decide_eq_false_iff_not, decide_eq_false_iff_not]
      by_cases q : k < l.length
      · exact .inr fun z => h1 ⟨q, z⟩
      · exact .inl q
    rw [t] at CB
    have E : wtS l m k = ⟨#[]⟩ := by
      unfold wtS
      by_cases q : k < l.length
      · rw [List.getElem?_eq_none (show m.length ≤ k from Nat.le_of_not_lt fun z => h1 ⟨q, z⟩)]
        split
        · next e => cases e
        · rfl
      · rw [List.getElem?_eq_none (show l.length ≤ k by omega)]
    rw [E] at HE
    have HL := HE.out
    rw [show ((((s1 ++ ⟨#[58, 32]⟩) ++ s2) ++ ⟨#[32, 47, 32]⟩) ++ s3) ++ (⟨#[]⟩ : ByteArray) = ((((s1 ++ ⟨#[58, 32]⟩) ++ s2) ++ ⟨#[32, 47, 32]⟩) ++ s3) from ByteArray.append_empty] at HL
    rw [HL]
    generalize l.length = n at *
    generalize m.length = n' at *
    clear HE HL h h' hc hc' h1 t hk hl hm E
    go_enter Try.func32, Try.ntmps32
    go_wp2_with fail
    refine (CD.out _).mono ?_
    rintro e w1 ⟨rfl, hb1⟩
    have HB1 := Lib.hid hb1
    have HR1 := Lib.hid (HR.out.below hb1)
    have HR1' := Lib.hid (HR'.out.below hb1)
    clear hb1
    go_wp2_with fail
    refine (CA.out _ HR1.out).mono ?_
    rintro e w2 ⟨rfl, hb1⟩
    have HB2 := Lib.hid (Below.trans0 HB1.out hb1)
    have HR2' := Lib.hid (HR1'.out.below hb1)
    clear hb1
    go_wp2_with fail
    refine (CA'.out _ HR2'.out).mono ?_
    rintro e w3 ⟨rfl, hb1⟩
    have HB3 := Lib.hid (Below.trans0 HB2.out hb1)
    clear hb1
    go_wp2_with fail
    refine (CB.out _).mono ?_
    rintro e w4 ⟨rfl, rfl⟩
    clear y1 y2 y3 y4 z1 z2 z3 HR1 HR1' HR2'
    generalize hso : ((((s1 ++ ⟨#[58, 32]⟩) ++ s2) ++ ⟨#[32, 47, 32]⟩) ++ s3) = so at *
    have HSO := Lib.hid hso
    clear hso
    have y7 : ¬ 9223372036854775807 < so.size + (⟨#[10]⟩ : ByteArray).size := by omega
    go_wp2
    go_ret
    exact ⟨congrArg (fun z : ByteArray => Ending.returned (.string (z ++ (⟨#[10]⟩ : ByteArray)))) HSO.out.symm, HB3.out⟩
set_option maxRecDepth 100000 in
set_option maxHeartbeats 4000000 in
theorem dfReport_any (most : Int) (hm0 : -9223372036854775808 ≤ most) (hm1 : most ≤ 9223372036854775807) (v v' : Value) (l m : List Rc) (hl : ∀ x ∈ l, x.Ok) (hm : ∀ x ∈ m, x.Ok) (w : World) (h : eR.Rd w v l) (h' : eR.Rd w v' m) (hn : l.length ≤ 1000000) (hn' : m.length ≤ 1000000) :
    Calls Try.prog 10 #[.int .i64 most, v, v'] w fun e w' => e = .returned (.string (repS l m most (mxD l m)).1) ∧ Below w.heap.size w w' := by
  have CD := Lib.hid (fun (k : Nat) (u : World) (hu : Below w.heap.size w u) (hk : k < mxD l m) => dfDif_any v v' l m k u (h.below hu) (h'.below hu) hk)
  have CL := Lib.hid (fun (k : Nat) (u : World) (hu : Below w.heap.size w u) (hk : k ≤ 1000000) => dfLine_any v v' l m hl hm k hk u (h.below hu) (h'.below hu))
  have ZL := Lib.hid (fun (k : Nat) (hk : k ≤ 1000000) => (lnS_size l m hl hm k (by omega)).2)
  have ZR := Lib.hid (fun (k : Nat) (hk : k ≤ 1000000) => repS_size l m hl hm most k hk)
  obtain ⟨A, c, rfl, hc⟩ := h.open_
  obtain ⟨A', c', rfl, hc'⟩ := h'.open_
  have HM := Lib.hid (show mxD l m = max l.length m.length from rfl)
  have HX : mxD l m ≤ 1000000 := by unfold mxD; omega
  obtain ⟨n, hl0⟩ : ∃ n, l.length = n := ⟨_, rfl⟩
  obtain ⟨n', hl0'⟩ : ∃ n', m.length = n' := ⟨_, rfl⟩
  rw [hl0] at CD CL HM hn ⊢
  rw [hl0'] at CD CL HM hn' ⊢
  clear h h' hc hc' hl0 hl0'
  generalize mxD l m = M at *
  have hmx : max (n : Int) (n' : Int) = (M : Int) := by rw [HM.out]; omega
  have HF := Lib.hid (Lib.fresh_isBuilder 63 5 w)
  have B0 := Lib.hid (Below.alloc0 (Below.refl w.heap.size w) (.cells #[.pointer none, .slice none 0 0] 63))
  clear hl hm
  go_enter Try.func10, Try.ntmps10
  go_wp2
  go_loopw [0, 8] (fun c i wr => ∃ k : Nat, k ≤ M ∧ i = .int .i64 k ∧ c = .int .i64 (repS l m most k).2 ∧ Hid (Bld w.heap.size w.heap.size (Lib.strCells (repS l m most k).1) wr) ∧ Hid (Below w.heap.size w wr)) (fun _ i _ => M - (intOf i).toNat)
  case atStart => exact ⟨0, Nat.zero_le _, rfl, rfl, HF, B0⟩
  case round =>
    obtain ⟨k, hk, rfl, rfl, hB, hW⟩ := hrel
    have ZK := ZR.out k (by omega)
    have ST := Lib.hid (repS_stop l m most k)
    have LE := (repS_le l m most k).1
    have t0 : (0 : Int) ≤ k := by omega
    by_cases hgo : 0 < (repS l m most k).2 ∧ k < M
    · obtain ⟨hgo, hlt⟩ := hgo
      have t1 : (k : Int) < M := by omega
      have C1 := Lib.hid (CD.out k wr hW.out hlt)
      obtain ⟨q, hq⟩ : ∃ q, dfB l m k = q := ⟨_, rfl⟩
      rw [hq] at C1
      cases q
      case false =>
        have E1 := Lib.hid (congrArg Prod.fst (repS_no l m most k hq))
        have E2 := Lib.hid (congrArg Prod.snd (repS_no l m most k hq))
        obtain ⟨sr, hsr⟩ : ∃ r, (repS l m most k).1 = r := ⟨_, rfl⟩
        obtain ⟨lf, hlf⟩ : ∃ r, (repS l m most k).2 = r := ⟨_, rfl⟩
        rw [hsr] at E1 hB ZK
        rw [hlf] at E2 hgo LE ⊢
        clear ST hsr hlf hq
        go_wp2_with fail
        refine C1.out.mono ?_
        rintro e w1 ⟨rfl, j1, rfl⟩
        go_wp2
        go_roundw
        case rel => exact ⟨k + 1, by omega, by go_num, by rw [E2.out], by rw [E1.out]; exact Lib.hid (bldBelow hB.out (Below.drewN0 (Below.refl _ _) _)), Lib.hid (Below.drewN0 hW.out _)⟩
        case measure => simp [intOf]; omega
      case true =>
        have E1 := Lib.hid (congrArg Prod.fst (repS_yes l m most k hgo hq))
        have E2 := Lib.hid (congrArg Prod.snd (repS_yes l m most k hgo hq))
        obtain ⟨sr, hsr⟩ : ∃ r, (repS l m most k).1 = r := ⟨_, rfl⟩
        obtain ⟨lf, hlf⟩ : ∃ r, (repS l m most k).2 = r := ⟨_, rfl⟩
        simp only at E1 E2
        rw [hsr] at E1 hB ZK
        rw [hlf] at E2 hgo LE ⊢
        clear ST hsr hlf hq
        go_wp2_with fail
        refine C1.out.mono ?_
        rintro e w1 ⟨rfl, j1, rfl⟩
        have HW1 := Lib.hid (Below.drewN0 hW.out j1)
        have HB1 : Hid (Bld w.heap.size w.heap.size (Lib.strCells sr) (wr.drewN j1)) := Lib.hid (bldBelow hB.out (Below.drewN0 (Below.refl _ _) _))
        have C2 := Lib.hid (CL.out k _ HW1.out (by omega))
        have Z2 := ZL.out k (by omega)
        obtain ⟨ln, hln⟩ : ∃ ln, lnS l m k = ln := ⟨_, rfl⟩
        rw [hln] at C2 Z2 E1
        clear hln
        go_wp2_with fail
        refine C2.out.mono ?_
        rintro e w2 ⟨rfl, hb2⟩
        have HW2 := Lib.hid (Below.trans0 HW1.out hb2)
        have HB2 := Lib.hid (bldBelow HB1.out hb2)
        clear hb2
        have C3 := Lib.hid (bldStr_any w.heap.size w.heap.size _ ln w2 HB2.out (by rw [Lib.strCells_length]; omega) HW2.out.size)
        go_wp2_with fail
        refine C3.out.mono ?_
        rintro e w3 ⟨rfl, hd, hb3⟩
        have HW3 := Lib.hid (Below.trans HW2.out hb3)
        have HB3 : Hid (Bld w.heap.size w.heap.size (Lib.strCells (sr ++ ln)) w3) := Lib.hid (by rw [strCells_app]; exact .inr hd)
        clear hd hb3
        go_wp2
        go_roundw
        case rel => exact ⟨k + 1, by omega, by go_num, by rw [E2.out]; (try go_num), by rw [E1.out]; exact HB3, HW3⟩
        case measure => simp [intOf]; omega
    · have FIN : Hid ((repS l m most M).1 = (repS l m most k).1) := Lib.hid (by
        by_cases z : 0 < (repS l m most k).2
        · obtain rfl : k = M := by have : ¬ k < M := fun q => hgo ⟨z, q⟩; omega
          rfl
        · have := ST.out z (M - k)
          rw [show k + (M - k) = M by omega] at this
          rw [this])
      have CS := Lib.hid (Try.Builder_String_any w.heap.size w.heap.size (repS l m most k).1.data.toList wr hB.out hW.out.size)
      by_cases z : 0 < (repS l m most k).2
      · obtain rfl : k = M := by have : ¬ k < M := fun q => hgo ⟨z, q⟩; omega
        clear hgo
        obtain ⟨sr, hsr⟩ : ∃ r, (repS l m most k).1 = r := ⟨_, rfl⟩
        obtain ⟨lf, hlf⟩ : ∃ r, (repS l m most k).2 = r := ⟨_, rfl⟩
        have HSR := Lib.hid (FIN.out.trans hsr).symm
        rw [hsr] at CS
        rw [hlf] at z ⊢
        clear ST hsr hlf FIN
        have HS : Hid ((⟨sr.data.toList.toArray⟩ : ByteArray) = sr) := Lib.hid (by apply ByteArray.ext; simp)
        rw [HS.out] at CS
        go_wp2_with fail
        refine CS.out.mono ?_
        rintro e w7 ⟨rfl, hb⟩
        have HB7 := Lib.hid (Below.trans hW.out hb)
        clear hb
        go_wp2
        go_ret
        exact ⟨ret_str HSR.out, HB7.out⟩
      · clear hgo
        obtain ⟨sr, hsr⟩ : ∃ r, (repS l m most k).1 = r := ⟨_, rfl⟩
        obtain ⟨lf, hlf⟩ : ∃ r, (repS l m most k).2 = r := ⟨_, rfl⟩
        have HSR := Lib.hid (FIN.out.trans hsr).symm
        rw [hsr] at CS
        rw [hlf] at z ⊢
        clear ST hsr hlf FIN
        have HS : Hid ((⟨sr.data.toList.toArray⟩ : ByteArray) = sr) := Lib.hid (by apply ByteArray.ext; simp)
        rw [HS.out] at CS
        go_wp2_with fail
        refine CS.out.mono ?_
        rintro e w7 ⟨rfl, hb⟩
        have HB7 := Lib.hid (Below.trans hW.out hb)
        clear hb
        go_wp2
        go_ret
        exact ⟨ret_str HSR.out, HB7.out⟩
end Go.Proofs.Ytpleboogijgdcaa
