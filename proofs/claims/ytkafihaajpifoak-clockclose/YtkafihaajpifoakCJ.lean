import Derived.Test.YtkafihaajpifoakCI
namespace Go.Proofs.Ytkafihaajpifoak
open Go.ChangeShapes Go.WideShapes Go.ChangeAt Go.RowKit Go.Sort

/-- What may be heard of such clocks. -/
def OkX (now : List Int) (g : Nat) (e : Int) (x : List Int) : Prop := ∀ (j : Nat) (y : Int), x[j]? = some y → -1099511627776 ≤ y ∧ y ≤ 1099511627776 ∧ (j < g → now.getD j 0 - e ≤ y ∧ y ≤ now.getD j 0 + e)

theorem OkX.push {now : List Int} {g : Nat} {e : Int} {x : List Int} (h : OkX now g e x) {y : Int} (h1 : -1099511627776 ≤ y) (h2 : y ≤ 1099511627776) (h3 : x.length < g → now.getD x.length 0 - e ≤ y ∧ y ≤ now.getD x.length 0 + e) : OkX now g e (x ++ [y]) := by
  intro j z hz
  by_cases hj : j < x.length
  · rw [List.getElem?_append_left hj] at hz
    exact h j z hz
  · rw [List.getElem?_append_right (by omega)] at hz
    have hj0 : j = x.length := by
      have := (List.getElem?_eq_some_iff.1 hz).1
      simp at this
      omega
    subst hj0
    simp at hz
    subst hz
    exact ⟨h1, h2, h3⟩

theorem mid_ok {x : List Int} {n fn : Nat} (hx : x.length = n) (hn : 3 * fn + 1 ≤ n) (h10 : n ≤ 10) (hy : ∀ y ∈ x, -1099511627776 ≤ y ∧ y ≤ 1099511627776) : midF x (fn : Int) = (((srt x).getD fn 0 + (srt x).getD (n - 1 - fn) 0) / 2, 0) := by
  have hi : ¬ 0 ≤ idxI (fun n => !nearB n) x 0 := by
    rcases idxI_find (P := fun n => !nearB n) x 0 with ⟨-, h1⟩ | ⟨a, h1, h2, -⟩
    · omega
    · exfalso
      obtain ⟨h3, h4, -⟩ := List.findIdx?_eq_some_iff_getElem.1 h1
      have := hy _ (List.getElem_mem h3)
      simp [nearB, within] at h4
      omega
  rw [midF, if_neg (by omega), if_neg hi, if_neg (by omega), Int.toNat_natCast, hx]

theorem rndE_zero {n : Nat} {f : Int} : ∀ (h : List (List Int)) (d : List Int) (i : Nat), (∀ x ∈ h, x.length = n ∧ (midF x f).2 = 0) → (∀ y ∈ d, nearB y = true) → rndE n f h d i = (0, 0)
  | [], d, i, _, _ => rndE_nil n f d i
  | x :: r, [], i, _, _ => by simp [rndE]
  | x :: r, y :: ds, i, h1, h2 => by
    obtain ⟨e1, e2⟩ := h1 x List.mem_cons_self
    have e3 := h2 y List.mem_cons_self
    rw [rndE, if_neg (by simp [e1, e3]), if_neg (by simp [e2])]
    exact rndE_zero r ds (i + 1) (fun z hz => h1 z (List.mem_cons_of_mem _ hz)) (fun z hz => h2 z (List.mem_cons_of_mem _ hz))

theorem OkX.mem {now : List Int} {g : Nat} {e : Int} {x : List Int} (h : OkX now g e x) : ∀ y ∈ x, -1099511627776 ≤ y ∧ y ≤ 1099511627776 := fun y hy => by
  obtain ⟨i, hi, rfl⟩ := List.getElem_of_mem hy
  have := h i _ (List.getElem?_eq_getElem hi)
  omega

theorem round_rnd {h : List (List Int)} {off now : List Int} {n fn : Nat} {e : Int} (hn : 3 * fn + 1 ≤ n) (h10 : n ≤ 10) (hl : h.length = n) (ho : off.length = n) (hx : ∀ x ∈ h, x.length = n ∧ OkX now (n - fn) e x) (hd : ∀ d ∈ off, -1000 ≤ d ∧ d ≤ 1000) : rndF h (fn : Int) off = (rndL (fn : Int) h off, 0, 0) ∧ (rndL (fn : Int) h off).length = n := by
  have h0 : rndE h.length (fn : Int) h off 0 = (0, 0) := rndE_zero h off 0 (fun x hx' => by
    obtain ⟨a1, a2⟩ := hx x hx'
    exact ⟨by omega, by rw [mid_ok a1 hn h10 a2.mem]⟩) (fun y hy => by have := hd y hy; simp [nearB, within]; omega)
  refine ⟨?_, by rw [rndL_len (by omega)]; exact hl⟩
  rw [rndF, if_neg (by omega), h0, if_pos rfl]

theorem rndL_at {h : List (List Int)} {off : List Int} {f : Int} {i : Nat} {x : List Int} {y : Int} (h1 : h[i]? = some x) (h2 : off[i]? = some y) : (rndL f h off).getD i 0 = IntKind.i64.wrap ((midF x f).1 + y) := by
  unfold rndL
  rw [List.getD_eq_getElem?_getD, List.getElem?_zipWith, h1, h2]
  rfl

theorem OkX.get {now : List Int} {n g : Nat} {e : Int} {x : List Int} (h : OkX now g e x) (hx : x.length = n) (hg : g ≤ n) : ∀ j, j < g → now.getD j 0 - e ≤ x.getD j 0 ∧ x.getD j 0 ≤ now.getD j 0 + e := fun j hj => by
  have hjx : j < x.length := by omega
  have := (h j _ (List.getElem?_eq_getElem hjx)).2.2 hj
  rw [show x.getD j 0 = x[j] by rw [List.getD_eq_getElem?_getD, List.getElem?_eq_getElem hjx]; rfl]
  exact this

/-- A round keeps them together. -/
theorem round_close {h : List (List Int)} {off now : List Int} {n fn : Nat} {e r M D : Int} (hn : 3 * fn + 1 ≤ n) (h10 : n ≤ 10) (hl : h.length = n) (ho : off.length = n) (hx : ∀ x ∈ h, x.length = n ∧ OkX now (n - fn) e x) (hd : ∀ d ∈ off, -r ≤ d ∧ d ≤ r) (he : 0 ≤ e ∧ e ≤ 1000) (hr : 0 ≤ r ∧ r ≤ 1000) (hM : M ≤ 2000000) (hb : ∀ j, j < n - fn → -M ≤ now.getD j 0 ∧ now.getD j 0 ≤ M) (hD : IsAp (fun j => now.getD j 0) (n - fn) D) :
    (∀ i j, i < n - fn → j < n - fn → (rndL (fn : Int) h off).getD i 0 - (rndL (fn : Int) h off).getD j 0 ≤ (D + 4 * e + 1) / 2 + 2 * r) ∧ ∀ j, j < n - fn → -(M + e + r) ≤ (rndL (fn : Int) h off).getD j 0 ∧ (rndL (fn : Int) h off).getD j 0 ≤ M + e + r := by
  obtain ⟨hD1, i0, j0, hi0, hj0, hDe⟩ := hD
  dsimp only at hD1 hDe
  have hlo : ∀ j, j < n - fn → now.getD j0 0 ≤ now.getD j 0 := fun j hj => by have := hD1 i0 j hi0 hj; omega
  have hhi : ∀ j, j < n - fn → now.getD j 0 ≤ now.getD i0 0 := fun j hj => by have := hD1 j j0 hj hj0; omega
  have key : ∀ i, i < n → ∃ x y, h[i]? = some x ∧ off[i]? = some y ∧ x.length = n ∧ OkX now (n - fn) e x ∧ -r ≤ y ∧ y ≤ r := fun i hi => by
    have e1 : h[i]? = some h[i] := List.getElem?_eq_getElem (by omega)
    have e2 : off[i]? = some off[i] := List.getElem?_eq_getElem (by omega)
    obtain ⟨a1, a2⟩ := hx _ (List.mem_of_getElem? e1)
    have := hd _ (List.mem_of_getElem? e2)
    exact ⟨_, _, e1, e2, a1, a2, this.1, this.2⟩
  have m1 := hb i0 hi0
  have m2 := hb j0 hj0
  have val : ∀ i, i < n - fn → ∃ x y, h[i]? = some x ∧ x.length = n ∧ OkX now (n - fn) e x ∧ -r ≤ y ∧ y ≤ r ∧ (rndL (fn : Int) h off).getD i 0 = ((srt x).getD fn 0 + (srt x).getD (n - 1 - fn) 0) / 2 + y ∧ now.getD j0 0 - e ≤ ((srt x).getD fn 0 + (srt x).getD (n - 1 - fn) 0) / 2 ∧ ((srt x).getD fn 0 + (srt x).getD (n - 1 - fn) 0) / 2 ≤ now.getD i0 0 + e := fun i hi => by
    obtain ⟨x, y, e1, e2, a1, a2, a3, a4⟩ := key i (by omega)
    obtain ⟨-, b1, b2⟩ := mids_close (t := fun j => now.getD j 0) a1 a1 hn (a2.get a1 (by omega)) (a2.get a1 (by omega)) hlo hhi
    refine ⟨x, y, e1, a1, a2, a3, a4, ?_, b1, b2⟩
    rw [rndL_at e1 e2, mid_ok a1 hn h10 a2.mem]
    dsimp only
    rw [IntKind.wrap_i64]
    omega
  refine ⟨fun i j hi hj => ?_, fun j hj => ?_⟩
  · obtain ⟨x, y, -, a1, a2, a3, a4, a5, -, -⟩ := val i hi
    obtain ⟨x', y', -, b1, b2, b3, b4, b5, -, -⟩ := val j hj
    obtain ⟨c1, -, -⟩ := mids_close (t := fun j => now.getD j 0) a1 b1 hn (a2.get a1 (by omega)) (b2.get b1 (by omega)) hlo hhi
    rw [a5, b5]
    rw [← hDe] at c1
    omega
  · obtain ⟨x, y, -, -, -, a3, a4, a5, a6, a7⟩ := val j hj
    rw [a5]
    omega

/-- And so they stay within what they were, or what may be. -/
theorem stays_within {D e r B : Int} (h1 : D ≤ B) (h2 : 4 * e + 4 * r + 1 ≤ B) : (D + 4 * e + 1) / 2 + 2 * r ≤ B := by omega
end Go.Proofs.Ytkafihaajpifoak
