/- Records: what record.Get answers on the bytes that record.Put makes. -/
import Derived.Test.YtfjkbjkbpbnalaaRcM
import Derived.Test.YtfjkbjkbpbnalaaRcL
import Derived.Test.YtfjkbjkbpbnalaaRcZ
namespace Go.Proofs.Ytfjkbjkbpbnalaa
open Go.ChangeShapes Go.WideShapes Go.ChangeAt Go.RowKit
set_option linter.unusedVariables false

theorem flat_len (l : List Rc) : (l.flatMap puN).length = 4 * l.length := by
  induction l with
  | nil => rfl
  | cons x l ih => rw [List.flatMap_cons, List.length_append, ih, List.length_cons]; simp [puN]; omega
theorem iat_app2 (xs ys : List Int) (k : Nat) : iat (xs ++ ys) (xs.length + k) = iat ys k := by
  simp only [iat, List.getD_eq_getElem?_getD]
  rw [List.getElem?_append_right (by omega), show xs.length + k - xs.length = k by omega]
theorem iat_app1 (xs ys : List Int) (k : Nat) (h : k < xs.length) : iat (xs ++ ys) k = iat xs k := by simp [iat, List.getD_eq_getElem?_getD, List.getElem?_append_left h]
theorem flat_at (l : List Rc) : ∀ (k : Nat) (hk : k < l.length) (j : Nat) (hj : j < 4), iat (l.flatMap puN) (4 * k + j) = iat (puN l[k]) j := by
  induction l with
  | nil => intro k hk; simp at hk
  | cons x l ih =>
    intro k hk j hj
    rw [List.flatMap_cons]
    cases k with
    | zero => rw [iat_app1 _ _ _ (by simp [puN]; omega)]; simp
    | succ k =>
      have e : 4 * (k + 1) + j = (puN x).length + (4 * k + j) := by simp [puN]; omega
      rw [e, iat_app2, ih k (by simpa using hk) j hj]
      simp
theorem sm_back : ∀ r b1 b2 b3 b4 b5 m : Bool, sbB (smN ⟨0, 0, r, b1, b2, b3, b4, b5, m⟩ 7) 0 = r ∧ sbB (smN ⟨0, 0, r, b1, b2, b3, b4, b5, m⟩ 7) 1 = b1 ∧ sbB (smN ⟨0, 0, r, b1, b2, b3, b4, b5, m⟩ 7) 2 = b2 ∧ sbB (smN ⟨0, 0, r, b1, b2, b3, b4, b5, m⟩ 7) 3 = b3 ∧ sbB (smN ⟨0, 0, r, b1, b2, b3, b4, b5, m⟩ 7) 4 = b4 ∧ sbB (smN ⟨0, 0, r, b1, b2, b3, b4, b5, m⟩ 7) 5 = b5 ∧ sbB (smN ⟨0, 0, r, b1, b2, b3, b4, b5, m⟩ 7) 6 = m ∧ smN ⟨0, 0, r, b1, b2, b3, b4, b5, m⟩ 7 < 128 := by decide +kernel
theorem gt_back (l : List Rc) (hok : ∀ x ∈ l, x.Ok) (k : Nat) (hk : k < l.length) : gtR (l.flatMap puN) k = l[k] ∧ iat (l.flatMap puN) (4 * k + 3) < 128 := by
  have h0 := flat_at l k hk 0 (by decide)
  have h1 := flat_at l k hk 1 (by decide)
  have h2 := flat_at l k hk 2 (by decide)
  have h3 := flat_at l k hk 3 (by decide)
  have hx := hok _ (List.getElem_mem hk)
  rw [Nat.add_zero] at h0
  unfold gtR
  rw [h0, h1, h2, h3]
  generalize l[k] = x at hx ⊢
  obtain ⟨a, d, r, b1, b2, b3, b4, b5, m⟩ := x
  obtain ⟨s0, s1, s2, s3, s4, s5, s6, s7⟩ := sm_back r b1 b2 b3 b4 b5 m
  have e : smN ⟨a, d, r, b1, b2, b3, b4, b5, m⟩ 7 = smN ⟨0, 0, r, b1, b2, b3, b4, b5, m⟩ 7 := rfl
  have a0 : (0 : Int) ≤ a := hx.a0
  show (⟨256 * (a / 256) + a % 256, d, sbB (smN ⟨a, d, r, b1, b2, b3, b4, b5, m⟩ 7) 0, sbB (smN ⟨a, d, r, b1, b2, b3, b4, b5, m⟩ 7) 1, sbB (smN ⟨a, d, r, b1, b2, b3, b4, b5, m⟩ 7) 2, sbB (smN ⟨a, d, r, b1, b2, b3, b4, b5, m⟩ 7) 3, sbB (smN ⟨a, d, r, b1, b2, b3, b4, b5, m⟩ 7) 4, sbB (smN ⟨a, d, r, b1, b2, b3, b4, b5, m⟩ 7) 5, sbB (smN ⟨a, d, r, b1, b2, b3, b4, b5, m⟩ 7) 6⟩ : Rc) = ⟨a, d, r, b1, b2, b3, b4, b5, m⟩ ∧ smN ⟨a, d, r, b1, b2, b3, b4, b5, m⟩ 7 < 128
  rw [e, s0, s1, s2, s3, s4, s5, s6, show 256 * (a / 256) + a % 256 = a by omega]
  exact ⟨rfl, s7⟩
theorem gtL_back (l : List Rc) (hok : ∀ x ∈ l, x.Ok) : gtL (l.flatMap puN) l.length = l := by
  unfold gtL
  apply List.ext_getElem
  · simp
  · intro i h1 h2
    simp only [List.getElem_map, List.getElem_range]
    exact (gt_back l hok i h2).1
theorem getPost_back (l : List Rc) (hok : ∀ x ∈ l, x.Ok) (w : World) (e : Ending) (w' : World) (H : GetPost (4 * l.length) (l.flatMap puN) w e w') :
    ∃ v, e = .returned (.tuple #[v, .int .i64 0]) ∧ eR.Rd w' v l ∧ Below w.heap.size w w' := by
  rcases H with ⟨⟨_, h⟩ | ⟨_, _, k, hk, h⟩ | ⟨v, he, _, _, hr⟩, hb⟩
  · omega
  · have := (gt_back l hok k (by omega)).2; omega
  · rw [show 4 * l.length / 4 = l.length by omega, gtL_back l hok] at hr
    exact ⟨v, he, hr, hb⟩
theorem ln_len (l : List Rc) (hok : ∀ x ∈ l, x.Ok) : (l.flatMap lnN).length = 18 * l.length := by
  induction l with
  | nil => rfl
  | cons x l ih =>
    have e : (txN x).length = 17 := by have := txN_len x (hok x (by simp)); rwa [size_strOf] at this
    rw [List.flatMap_cons, List.length_append, ih (fun y hy => hok y (by simp [hy])), List.length_cons]
    simp only [lnN, List.length_append, e, List.length_cons, List.length_nil]
    omega
theorem ownU_cap {w : World} {base : Nat} {t : TypeId} {v : Value} {L : List Int} (h : Own .u8 t w base v L) : ∀ A n c, v = .slice A n c → n ≤ c := by
  obtain ⟨hl, h2⟩ := own_eU h
  rcases h2 with ⟨rfl, hn⟩ | ⟨g', cap, cur, rfl, h3, h4, h5, h6, h7, h8⟩
  · intro A n c e; simp at e; omega
  · intro A n c e
    simp only [Value.slice.injEq] at e
    omega
theorem wf8 (z : Int) (h0 : 0 ≤ z) (h1 : z < 256) : (Lit.int .u8 z).wf = true := by
  simp [Lit.wf, IntKind.min, IntKind.max, IntKind.signed, IntKind.bits]; omega
theorem pu_wf (l : List Rc) (hok : ∀ x ∈ l, x.Ok) : ∀ z ∈ l.flatMap puN, (Lit.int .u8 z).wf = true := by
  intro z hz
  obtain ⟨x, hx, hz⟩ := List.mem_flatMap.1 hz
  obtain ⟨a0, a1, d0, d1⟩ := hok x hx
  have hs := smN_bd x 7 (by omega)
  have e7 : pwN 7 = 128 := rfl
  simp only [puN, List.mem_cons, List.not_mem_nil, or_false] at hz
  rcases hz with rfl | rfl | rfl | rfl
  · exact wf8 _ (by omega) (by omega)
  · exact wf8 _ (by omega) (by omega)
  · exact wf8 _ (by omega) (by omega)
  · exact wf8 _ (by omega) (by omega)
/-- The cells of the k-th record of an array, in a later world. -/
theorem rc9_at {w wr : World} {B g off k : Nat} {x : Rc} (hB : Below B w wr) (hg : g < B)
    (CE : ∀ (j : Nat) (u : Value), [Value.int IntKind.u16 x.a, Value.int IntKind.u8 x.d, Value.bool x.r, Value.bool x.b1, Value.bool x.b2, Value.bool x.b3, Value.bool x.b4, Value.bool x.b5, Value.bool x.m][j]? = some u → w.cell? { block := g, off := off + (k * 9 + j) } = some u) :
    wr.cell? ⟨g, off + k * 9, none⟩ = some (.int .u16 x.a) ∧ wr.cell? ⟨g, off + k * 9 + 1, none⟩ = some (.int .u8 x.d) ∧ wr.cell? ⟨g, off + k * 9 + 2, none⟩ = some (.bool x.r) ∧ wr.cell? ⟨g, off + k * 9 + 3, none⟩ = some (.bool x.b1) ∧ wr.cell? ⟨g, off + k * 9 + 4, none⟩ = some (.bool x.b2) ∧ wr.cell? ⟨g, off + k * 9 + 5, none⟩ = some (.bool x.b3) ∧ wr.cell? ⟨g, off + k * 9 + 6, none⟩ = some (.bool x.b4) ∧ wr.cell? ⟨g, off + k * 9 + 7, none⟩ = some (.bool x.b5) ∧ wr.cell? ⟨g, off + k * 9 + 8, none⟩ = some (.bool x.m) := by
  have key : ∀ (j : Nat) (u : Value), [Value.int IntKind.u16 x.a, Value.int IntKind.u8 x.d, Value.bool x.r, Value.bool x.b1, Value.bool x.b2, Value.bool x.b3, Value.bool x.b4, Value.bool x.b5, Value.bool x.m][j]? = some u → wr.cell? ⟨g, off + k * 9 + j, none⟩ = some u := fun j u h => by
    rw [Nat.add_assoc]
    exact (hB.cell (p := ⟨g, off + (k * 9 + j), none⟩) hg).trans (CE j u h)
  exact ⟨key 0 _ rfl, key 1 _ rfl, key 2 _ rfl, key 3 _ rfl, key 4 _ rfl, key 5 _ rfl, key 6 _ rfl, key 7 _ rfl, key 8 _ rfl⟩
end Go.Proofs.Ytfjkbjkbpbnalaa
