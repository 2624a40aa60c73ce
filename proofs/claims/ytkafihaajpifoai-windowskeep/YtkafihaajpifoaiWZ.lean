import Derived.Test.YtkafihaajpifoaiTT
import Derived.LaidMore
import Derived.ChangeArms
import Derived.OpenShut
import Derived.Test.YtkafihaajpifoaiSWB
import Derived.Test.YtkafihaajpifoaiVQ
import Derived.Test.YtkafihaajpifoaiJJ
import Derived.Test.YtkafihaajpifoaiVM
import Derived.Test.YtkafihaajpifoaiKC
import Derived.Test.YtkafihaajpifoaiVC
import Derived.WideKeyArgs
import Derived.Deep.DeepHandedRow
namespace Go.Proofs.Ytkafihaajpifoai
open Go.ChangeShapes Go.WideShapes Go.ChangeAt Go.RowKit

theorem cells3 : Try.prog.cellsOf 3 = 1 := by kernel_rfl
theorem cells9 : Try.prog.cellsOf 9 = 1 := by kernel_rfl
theorem cells32 : Try.prog.cellsOf 67 = 7 := by kernel_rfl

section
variable {H : Type} {enc : TypeId × Value → H} {w : World} {sp : Nat → Bool} {held : Bool}

/-- A cell that is there lies at a plain address. -/
theorem plain_addr {w : World} {a : Addr} {v : Value} (h : w.cell? a = some v) : a = ⟨a.block, a.off, none⟩ := by
  obtain ⟨b, o, s⟩ := a
  cases s with
  | none => rfl
  | some x =>
    exfalso
    unfold World.cell? at h
    simp at h
    split at h <;> simp_all

theorem add_plain' (g o n : Nat) : (⟨g, o, none⟩ : Addr).add n = ⟨g, o + n, none⟩ := by
  unfold Addr.add
  by_cases h : n = 0
  · subst h; rfl
  · simp [h]

theorem cells_at {g o n : Nat} {cs : List Value} (h : w.cells? 0 ⟨g, o, none⟩ n = some cs) : cs.length = n ∧ ∀ i, i < n → w.cell? ⟨g, o + i, none⟩ = cs[i]? := by
  obtain ⟨-, h1, h2⟩ := World.cells?_some h
  refine ⟨h1, fun i hi => ?_⟩
  rw [← h2 i hi, add_plain']

/-- A task that can be read. -/
theorem ta_one {n : Nat} {cs : List Value} {y : DataW H × List MemPlace} (hl : cs.length = 7) (h : DataW.trod enc Try.prog w 0 sp held n 67 cs = some y) : ∃ x : Ta, cs = x.vals ∧ x.nm.size ≤ maxLen ∧ y.1 = .agg [.lit (.string x.nm.data.toList), .lit (.int .i64 x.c), .lit (.int .i64 x.t), .lit (.int .i64 x.d), .lit (.int .i64 x.j), .lit (.int .i64 x.o), .lit (.int .i64 x.p)] := by
  match cs, hl with
  | [c0, c1, c2, c3, c4, c5, c6], _ =>
    obtain ⟨xs, n1, rfl, hy, -, hlen, hf⟩ := DataW.trod_struct Try.underlying67 h
    match xs, hlen with
    | [y0, y1, y2, y3, y4, y5, y6], _ =>
      have f0 : DataW.trod enc Try.prog w 0 sp held n1 9 ((([c0, c1, c2, c3, c4, c5, c6] : List Value).drop 0).take (Try.prog.cellsOf 9)) = some y0 := hf 0 _ rfl
      have f1 : DataW.trod enc Try.prog w 0 sp held n1 3 ((([c0, c1, c2, c3, c4, c5, c6] : List Value).drop 1).take (Try.prog.cellsOf 3)) = some y1 := hf 1 _ rfl
      have f2 : DataW.trod enc Try.prog w 0 sp held n1 3 ((([c0, c1, c2, c3, c4, c5, c6] : List Value).drop 2).take (Try.prog.cellsOf 3)) = some y2 := hf 2 _ rfl
      have f3 : DataW.trod enc Try.prog w 0 sp held n1 3 ((([c0, c1, c2, c3, c4, c5, c6] : List Value).drop 3).take (Try.prog.cellsOf 3)) = some y3 := hf 3 _ rfl
      have f4 : DataW.trod enc Try.prog w 0 sp held n1 3 ((([c0, c1, c2, c3, c4, c5, c6] : List Value).drop 4).take (Try.prog.cellsOf 3)) = some y4 := hf 4 _ rfl
      have f5 : DataW.trod enc Try.prog w 0 sp held n1 3 ((([c0, c1, c2, c3, c4, c5, c6] : List Value).drop 5).take (Try.prog.cellsOf 3)) = some y5 := hf 5 _ rfl
      have f6 : DataW.trod enc Try.prog w 0 sp held n1 3 ((([c0, c1, c2, c3, c4, c5, c6] : List Value).drop 6).take (Try.prog.cellsOf 3)) = some y6 := hf 6 _ rfl
      rw [cells3] at f1 f2 f3 f4 f5 f6
      rw [cells9] at f0
      obtain ⟨k0, e0, g0, hm⟩ := DataW.trod_string Try.underlying9 (show DataW.trod enc Try.prog w 0 sp held n1 9 [c0] = some y0 from f0)
      obtain ⟨k1, e1, g1, -⟩ := DataW.trod_int Try.underlying3 (show DataW.trod enc Try.prog w 0 sp held n1 3 [c1] = some y1 from f1)
      obtain ⟨k2, e2, g2, -⟩ := DataW.trod_int Try.underlying3 (show DataW.trod enc Try.prog w 0 sp held n1 3 [c2] = some y2 from f2)
      obtain ⟨k3, e3, g3, -⟩ := DataW.trod_int Try.underlying3 (show DataW.trod enc Try.prog w 0 sp held n1 3 [c3] = some y3 from f3)
      obtain ⟨k4, e4, g4, -⟩ := DataW.trod_int Try.underlying3 (show DataW.trod enc Try.prog w 0 sp held n1 3 [c4] = some y4 from f4)
      obtain ⟨k5, e5, g5, -⟩ := DataW.trod_int Try.underlying3 (show DataW.trod enc Try.prog w 0 sp held n1 3 [c5] = some y5 from f5)
      obtain ⟨k6, e6, g6, -⟩ := DataW.trod_int Try.underlying3 (show DataW.trod enc Try.prog w 0 sp held n1 3 [c6] = some y6 from f6)
      simp only [List.cons.injEq, and_true] at e0 e1 e2 e3 e4 e5 e6
      refine ⟨⟨k0, k1, k2, k3, k4, k5, k6⟩, by rw [e0, e1, e2, e3, e4, e5, e6]; rfl, hm, ?_⟩
      rw [hy, g0, g1, g2, g3, g4, g5, g6]
      rfl

theorem ta_row {n : Nat} (g : Nat) : ∀ (elems : List (DataW H × List MemPlace)) (o : Nat),
    (∀ i, i < elems.length → (w.cells? 0 ⟨g, o + i * 7, none⟩ 7).bind (DataW.trod enc Try.prog w 0 sp held n 67) = elems[i]?) →
    ∃ l : List Ta, l.length = elems.length ∧ (∀ x ∈ l, x.nm.size ≤ maxLen) ∧ ∀ q u, (l.flatMap Ta.vals)[q]? = some u → w.cell? ⟨g, o + q, none⟩ = some u
  | [], o, _ => ⟨[], rfl, fun x hx => by simp at hx, fun q u hq => by simp at hq⟩
  | y :: r, o, h => by
    have h0 := h 0 (by simp)
    simp only [Nat.zero_mul, Nat.add_zero, List.getElem?_cons_zero] at h0
    obtain ⟨cs, hc, ht⟩ := Option.bind_eq_some_iff.1 h0
    obtain ⟨hlen, hcell⟩ := cells_at hc
    obtain ⟨x, rfl, hm, -⟩ := ta_one hlen ht
    obtain ⟨l, hl, hms, hrow⟩ := ta_row g r (o + 7) (fun i hi => by
      have := h (i + 1) (by simp; omega)
      rw [show o + (i + 1) * 7 = o + 7 + i * 7 by omega] at this
      simpa using this)
    refine ⟨x :: l, by simp [hl], fun z hz => ?_, fun q u hq => ?_⟩
    · rcases List.mem_cons.1 hz with rfl | hz
      · exact hm
      · exact hms z hz
    · rw [List.flatMap_cons] at hq
      by_cases h7 : q < 7
      · rw [List.getElem?_append_left (by rw [Ta.len]; exact h7)] at hq
        rw [hcell q h7]
        exact hq
      · rw [List.getElem?_append_right (by rw [Ta.len]; omega), Ta.len] at hq
        have := hrow (q - 7) u hq
        rw [show o + 7 + (q - 7) = o + q by omega] at this
        exact this

/-- A slice of tasks that can be read. -/
theorem taSl_of_trod {ad : Option Addr} {n c : Nat} {d : DataW H} {ps : List MemPlace} (h : DataW.Trod enc Try.prog w 0 sp held 43 (.slice ad n c) d ps) : ∃ l : List Ta, n = l.length ∧ (∀ x ∈ l, x.nm.size ≤ maxLen) ∧ RowSl Ta.vals w l (.slice ad n c) := by
  obtain ⟨q, hq⟩ := h
  have hcs : (Value.slice ad n c).cells.toList = [.slice ad n c] := rfl
  rw [hcs] at hq
  rcases DataW.trod_slice Try.underlying43 hq with ⟨h1, -⟩ | ⟨a, len, cap, elems, rest, n2, -, h1, -, -, hlc, -, hle, hel, -, -⟩
  · simp only [List.cons.injEq, and_true, Value.slice.injEq] at h1
    obtain ⟨rfl, rfl, rfl⟩ := h1
    exact ⟨[], rfl, (fun x hx => by simp at hx), RowSl.nil _ _⟩
  · simp only [List.cons.injEq, and_true, Value.slice.injEq] at h1
    obtain ⟨rfl, rfl, rfl⟩ := h1
    subst hle
    simp only [cells32] at hel
    cases elems with
    | nil => exact ⟨[], rfl, (fun x hx => by simp at hx), ⟨_, _, rfl, (fun e => by cases e), Nat.zero_le _, .inl rfl⟩⟩
    | cons z r =>
      have hz := hel 0 (by simp)
      obtain ⟨cs0, hc0, ht0⟩ := Option.bind_eq_some_iff.1 hz
      obtain ⟨-, hlen0, hpl⟩ := World.cells?_some hc0
      obtain ⟨x, rfl, -⟩ := ta_one hlen0 (by simpa using ht0)
      have hpa := plain_addr (w := w) (a := a) (v := .string x.nm) (by simpa [Addr.add, Ta.vals] using hpl 0 (by omega))
      obtain ⟨l, hl, hms, hrow⟩ := ta_row (n := n2) a.block (z :: r) a.off (fun i hi => by
        have := hel i hi
        rw [hpa, add_plain'] at this
        exact this)
      exact ⟨l, hl.symm, hms, ⟨some a, c, by rw [hl], (fun e => by cases e), by omega, .inr ⟨a.block, a.off, by rw [← hpa], hrow⟩⟩⟩
end

end Go.Proofs.Ytkafihaajpifoai
namespace Go.Proofs.Ytkafihaajpifoai.FK

/- Sums over the first n. -/
def sumN : Nat → (Nat → Int) → Int
  | 0, _ => 0
  | n + 1, f => sumN n f + f n

theorem sumN_le : ∀ (n : Nat) {f g : Nat → Int}, (∀ i, i < n → f i ≤ g i) → sumN n f ≤ sumN n g
  | 0, _, _, _ => Int.le_refl _
  | n + 1, f, g, h => by
    have h1 := sumN_le n (f := f) (g := g) (fun i hi => h i (by omega))
    have h2 := h n (by omega)
    unfold sumN
    omega

theorem sumN_eq : ∀ (n : Nat) {f g : Nat → Int}, (∀ i, i < n → f i = g i) → sumN n f = sumN n g
  | 0, _, _, _ => rfl
  | n + 1, f, g, h => by
    unfold sumN
    rw [sumN_eq n (fun i hi => h i (by omega)), h n (by omega)]

theorem sumN_nonneg (n : Nat) {f : Nat → Int} (h : ∀ i, i < n → 0 ≤ f i) : 0 ≤ sumN n f := by
  have : sumN n (fun _ => 0) = 0 := by
    induction n with
    | zero => rfl
    | succ n ih => unfold sumN; rw [ih (fun i hi => h i (by omega))]; rfl
  rw [← this]
  exact sumN_le n h

theorem sumN_each : ∀ (n : Nat) {f : Nat → Int}, (∀ i, i < n → 0 ≤ f i) → sumN n f ≤ 0 → ∀ i, i < n → f i = 0
  | 0, _, _, _, i, hi => by omega
  | n + 1, f, h, hs, i, hi => by
    have h1 := sumN_nonneg n (f := f) (fun i hi => h i (by omega))
    have h2 := h n (by omega)
    unfold sumN at hs
    by_cases e : i = n
    · subst e; omega
    · exact sumN_each n (fun i hi => h i (by omega)) (by omega) i (by omega)

theorem sumN_one : ∀ (n : Nat) {f g : Nat → Int} (k : Nat), k < n → g k = f k - 1 → (∀ i, i < n → i ≠ k → g i = f i) → sumN n g = sumN n f - 1
  | 0, _, _, k, hk, _, _ => by omega
  | n + 1, f, g, k, hk, h1, h2 => by
    unfold sumN
    by_cases e : k = n
    · subst e
      rw [sumN_eq k (f := g) (g := f) (fun i hi => h2 i (by omega) (by omega)), h1]
      omega
    · rw [sumN_one n k (by omega) h1 (fun i hi hn => h2 i (by omega) hn), h2 n (by omega) (by omega)]
      omega

theorem sumN_add (n : Nat) (f g : Nat → Int) : sumN n (fun i => f i + g i) = sumN n f + sumN n g := by
  induction n with
  | zero => rfl
  | succ n ih => unfold sumN; rw [ih]; dsimp only; omega

theorem sumN_swap (n m : Nat) (A : Nat → Nat → Int) : sumN n (fun i => sumN m (fun k => A i k)) = sumN m (fun k => sumN n (fun i => A i k)) := by
  induction n with
  | zero =>
    show (0 : Int) = sumN m (fun _ => 0)
    induction m with
    | zero => rfl
    | succ m ih => unfold sumN; rw [← ih]; rfl
  | succ n ih =>
    show sumN n (fun i => sumN m (fun k => A i k)) + sumN m (fun k => A n k) = sumN m (fun k => sumN n (fun i => A i k) + A n k)
    rw [ih, sumN_add]

theorem sumN_pick : ∀ (m : Nat) (k0 : Nat) (v : Int), k0 < m → sumN m (fun k => if k = k0 then v else 0) = v
  | 0, k0, v, h => by omega
  | m + 1, k0, v, h => by
    unfold sumN
    dsimp only
    by_cases e : k0 = m
    · subst e
      rw [if_pos rfl, sumN_eq k0 (g := fun _ => 0) (fun i hi => if_neg (by omega))]
      have : sumN k0 (fun _ => 0) = 0 := by
        clear h
        induction k0 with
        | zero => rfl
        | succ n ih => unfold sumN; rw [ih]; rfl
      rw [this]; omega
    · rw [if_neg (by omega), sumN_pick m k0 v (by omega)]
      omega

/- Jobs that are played: r when they are there, x how long they take, L what is left of each, tick by tick; H those that go ahead. -/
structure Run (n N : Nat) (r x : Nat → Int) (H : Nat → Prop) (L : Nat → Nat → Int) : Prop where
  r0 : ∀ i, i < n → 0 ≤ r i
  init : ∀ i, i < n → L 0 i = x i
  nneg : ∀ t i, t ≤ N → i < n → 0 ≤ L t i
  step : ∀ t, t < N → ((∀ i, i < n → L (t + 1) i = L t i) ∧ ∀ i, i < n → H i → r i ≤ t → L t i = 0) ∨
    ∃ k, k < n ∧ r k ≤ t ∧ 0 < L t k ∧ L (t + 1) k = L t k - 1 ∧ (∀ i, i < n → i ≠ k → L (t + 1) i = L t i) ∧ (H k ∨ ∀ i, i < n → H i → r i ≤ t → L t i = 0)

def Quiet (n : Nat) (r : Nat → Int) (H : Nat → Prop) (L : Nat → Nat → Int) (t : Nat) : Prop := ∀ i, i < n → H i → r i < t → L t i = 0

theorem Run.down {n N : Nat} {r x : Nat → Int} {H : Nat → Prop} {L : Nat → Nat → Int} (h : Run n N r x H L) {i : Nat} (hi : i < n) : ∀ (d t : Nat), t + d ≤ N → L (t + d) i ≤ L t i
  | 0, t, _ => Int.le_refl _
  | d + 1, t, ht => by
    have h1 := h.down hi d t (by omega)
    have : L (t + d + 1) i ≤ L (t + d) i := by
      rcases h.step (t + d) (by omega) with ⟨h2, -⟩ | ⟨k, hk, -, -, h3, h4, -⟩
      · rw [h2 i hi]; exact Int.le_refl _
      · by_cases e : i = k
        · subst e; omega
        · rw [h4 i hi e]; exact Int.le_refl _
    rw [show t + (d + 1) = t + d + 1 by omega]
    omega

theorem Run.zero {n N : Nat} {r x : Nat → Int} {H : Nat → Prop} {L : Nat → Nat → Int} (h : Run n N r x H L) {i t u : Nat} (hi : i < n) (hz : L t i = 0) (htu : t ≤ u) (hu : u ≤ N) : L u i = 0 := by
  have h1 := h.down hi (u - t) t (by omega)
  rw [show t + (u - t) = u by omega] at h1
  have h2 := h.nneg u i hu hi
  omega

/-- The busy time: where all that comes within w takes w at most, there is a quiet time within w. -/
theorem Run.busy {n N : Nat} {r x : Nat → Int} {H : Nat → Prop} [DecidablePred H] {L : Nat → Nat → Int} (h : Run n N r x H L) {t0 w : Nat} (hq : Quiet n r H L t0) (hw : 1 ≤ w) (hN : t0 + w ≤ N)
    (hs : sumN n (fun i => if H i ∧ (t0 : Int) ≤ r i ∧ r i < ((t0 + w : Nat) : Int) then x i else 0) ≤ (w : Int)) : ∃ q, t0 < q ∧ q ≤ t0 + w ∧ Quiet n r H L q := by
  apply Classical.byContradiction
  intro hno
  have hno' : ∀ q, t0 < q → q ≤ t0 + w → ¬ Quiet n r H L q := fun q h1 h2 h3 => hno ⟨q, h1, h2, h3⟩
  let S : Nat → Int := fun t => sumN n (fun i => if H i ∧ (t0 : Int) ≤ r i ∧ r i < ((t0 + w : Nat) : Int) then L t i else 0)
  have key : ∀ d, d ≤ w → S (t0 + d) = S t0 - (d : Int) := by
    intro d
    induction d with
    | zero => intro _; show S t0 = _; omega
    | succ d ih =>
      intro hd
      have hbad := hno' (t0 + d + 1) (by omega) (by omega)
      have hnone : ¬ ∀ i, i < n → H i → r i ≤ ((t0 + d : Nat) : Int) → L (t0 + d) i = 0 := fun hall => hbad fun i hi hHi hr => by
        have hz := hall i hi hHi (by omega)
        exact h.zero hi hz (Nat.le_succ _) (by omega)
      rcases h.step (t0 + d) (by omega) with ⟨-, h2⟩ | ⟨k, hk, hrk, hpos, h3, h4, h5⟩
      · exact absurd h2 hnone
      · rcases h5 with h5 | h5
        · have hlow : (t0 : Int) ≤ r k := by
            apply Classical.byContradiction
            intro hc
            have hz := hq k hk h5 (by omega)
            have := h.zero hk hz (Nat.le_add_right t0 d) (by omega)
            omega
          have hin : H k ∧ (t0 : Int) ≤ r k ∧ r k < ((t0 + w : Nat) : Int) := ⟨h5, hlow, by omega⟩
          have : S (t0 + d + 1) = S (t0 + d) - 1 := by
            refine sumN_one n k hk ?_ (fun i hi hne => ?_)
            · rw [if_pos hin, if_pos hin, h3]
            · rw [h4 i hi hne]
          rw [show t0 + (d + 1) = t0 + d + 1 by omega, this, ih (by omega)]
          omega
        · exact absurd h5 hnone
  have hw0 := key w (Nat.le_refl w)
  have hS0 : S t0 ≤ (w : Int) := by
    refine Int.le_trans (sumN_le n (fun i hi => ?_)) hs
    by_cases hc : H i ∧ (t0 : Int) ≤ r i ∧ r i < ((t0 + w : Nat) : Int)
    · rw [if_pos hc, if_pos hc]
      have h1 := h.down hi t0 0 (by omega)
      rw [Nat.zero_add, h.init i hi] at h1
      exact h1
    · rw [if_neg hc, if_neg hc]; exact Int.le_refl _
  refine hno' (t0 + w) (by omega) (Nat.le_refl _) (fun i hi hHi hr => ?_)
  by_cases hlow : r i < (t0 : Int)
  · exact h.zero hi (hq i hi hHi hlow) (by omega) hN
  · have he := sumN_each n (f := fun i => if H i ∧ (t0 : Int) ≤ r i ∧ r i < ((t0 + w : Nat) : Int) then L (t0 + w) i else 0) (fun i hi => by
      split
      · exact h.nneg _ i hN hi
      · exact Int.le_refl _) (by show S (t0 + w) ≤ 0; omega) i hi
    have hin : H i ∧ (t0 : Int) ≤ r i ∧ r i < ((t0 + w : Nat) : Int) := ⟨hHi, by omega, hr⟩
    rw [if_pos hin] at he
    exact he

theorem last_quiet {n : Nat} {r : Nat → Int} {H : Nat → Prop} {L : Nat → Nat → Int} (h0 : ∀ i, i < n → 0 ≤ r i) : ∀ m : Nat, ∃ t0, t0 ≤ m ∧ Quiet n r H L t0 ∧ ∀ q, t0 < q → q ≤ m → ¬ Quiet n r H L q
  | 0 => ⟨0, Nat.le_refl _, fun i hi _ hr => by have := h0 i hi; omega, fun q h1 h2 => by omega⟩
  | m + 1 => by
    by_cases hq : Quiet n r H L (m + 1)
    · exact ⟨m + 1, Nat.le_refl _, hq, fun q h1 h2 => by omega⟩
    · obtain ⟨t0, h1, h2, h3⟩ := last_quiet h0 m
      refine ⟨t0, by omega, h2, fun q g1 g2 => ?_⟩
      by_cases e : q = m + 1
      · subst e; exact hq
      · exact h3 q g1 (by omega)

/-- Each job that goes ahead is done within w of its being there. -/
theorem Run.done {n N : Nat} {r x : Nat → Int} {H : Nat → Prop} [DecidablePred H] {L : Nat → Nat → Int} (h : Run n N r x H L) {i m w : Nat} (hi : i < n) (hH : H i) (hm : r i = (m : Int)) (hw : 1 ≤ w) (hN : m + w ≤ N)
    (hs : ∀ t0 : Nat, t0 ≤ m → sumN n (fun i => if H i ∧ (t0 : Int) ≤ r i ∧ r i < ((t0 + w : Nat) : Int) then x i else 0) ≤ (w : Int)) : L (m + w) i = 0 := by
  obtain ⟨t0, h1, h2, h3⟩ := last_quiet (H := H) (L := L) h.r0 m
  obtain ⟨q, g1, g2, g3⟩ := h.busy h2 hw (by omega) (hs t0 h1)
  have hqm : m < q := by
    apply Classical.byContradiction
    intro hc
    exact h3 q g1 (by omega) g3
  exact h.zero hi (g3 i hi hH (by omega)) (by omega) hN

/- How many of one task come within a time. -/
theorem come_count {n : Nat} {a r x : Nat → Int} {M : Nat → Prop} [DecidablePred M] {t0 w J T C : Int} (hT : 0 < T) (hC : 0 ≤ C)
    (hM : ∀ i, i < n → M i → t0 ≤ r i ∧ r i < t0 + w ∧ a i ≤ r i ∧ r i ≤ a i + J ∧ x i ≤ C)
    (hsp : ∀ i j, i < j → j < n → M i → M j → a i + T ≤ a j) : ∀ m, m ≤ n → ∃ c : Nat, sumN m (fun i => if M i then x i else 0) ≤ (c : Int) * C ∧ (c = 0 ∧ (∀ i, i < m → ¬ M i) ∨ 1 ≤ c ∧ ∃ i, i < m ∧ M i ∧ (∀ j, i < j → j < m → ¬ M j) ∧ (t0 - J) + ((c : Int) - 1) * T ≤ a i)
  | 0, _ => ⟨0, by simp [sumN], .inl ⟨rfl, fun i hi => by omega⟩⟩
  | m + 1, hm => by
    obtain ⟨c, h1, h2⟩ := come_count hT hC hM hsp m (by omega)
    by_cases hc : M m
    · have hmm := hM m (by omega) hc
      refine ⟨c + 1, ?_, .inr ⟨by omega, m, by omega, hc, fun j g1 g2 => by omega, ?_⟩⟩
      · show sumN m _ + (if M m then x m else 0) ≤ _
        rw [if_pos hc]
        have e : ((c + 1 : Nat) : Int) * C = (c : Int) * C + C := by rw [Int.natCast_succ, Int.add_mul]; omega
        rw [e]
        omega
      · rcases h2 with ⟨rfl, -⟩ | ⟨hc1, i, hi, hMi, -, ha⟩
        · have e : (((0 + 1 : Nat) : Int) - 1) * T = 0 := by simp
          rw [e]
          omega
        · have := hsp i m hi (by omega) hMi hc
          have e : (((c + 1 : Nat) : Int) - 1) * T = ((c : Int) - 1) * T + T := by
            rw [show (((c + 1 : Nat) : Int) - 1) = ((c : Int) - 1) + 1 by omega, Int.add_mul]
            omega
          rw [e]
          omega
    · refine ⟨c, ?_, ?_⟩
      · show sumN m _ + (if M m then x m else 0) ≤ _
        rw [if_neg hc]
        omega
      · rcases h2 with ⟨h2, h3⟩ | ⟨hc1, i, hi, hMi, hl, ha⟩
        · refine .inl ⟨h2, fun i hi => ?_⟩
          by_cases e : i = m
          · subst e; exact hc
          · exact h3 i (by omega)
        · refine .inr ⟨hc1, i, by omega, hMi, fun j g1 g2 => ?_, ha⟩
          by_cases e : j = m
          · subst e; exact hc
          · exact hl j g1 (by omega)

/-- All of one task within a time: as many as come, rounded up, times C. -/
theorem come_sum {n : Nat} {a r x : Nat → Int} {M : Nat → Prop} [DecidablePred M] {t0 w J T C : Int} (hT : 0 < T) (hC : 0 ≤ C) (hJ : 0 ≤ J) (hw : 0 ≤ w)
    (hM : ∀ i, i < n → M i → t0 ≤ r i ∧ r i < t0 + w ∧ a i ≤ r i ∧ r i ≤ a i + J ∧ x i ≤ C)
    (hsp : ∀ i j, i < j → j < n → M i → M j → a i + T ≤ a j) : sumN n (fun i => if M i then x i else 0) ≤ (w + J + T - 1) / T * C ∧ (w + J ≤ T → sumN n (fun i => if M i then x i else 0) ≤ C) := by
  obtain ⟨c, h1, h2⟩ := come_count hT hC hM hsp n (Nat.le_refl n)
  have hcT : ((c : Int) - 1) * T < w + J ∨ c = 0 := by
    rcases h2 with ⟨h2, -⟩ | ⟨hc1, i, hi, hMi, -, ha⟩
    · exact .inr h2
    · have := hM i hi hMi
      exact .inl (by omega)
  constructor
  · refine Int.le_trans h1 (Int.mul_le_mul_of_nonneg_right ?_ hC)
    rcases hcT with hcT | rfl
    · rw [Int.le_ediv_iff_mul_le hT]
      have e : ((c : Int) - 1) * T = (c : Int) * T - T := by rw [Int.sub_mul]; omega
      omega
    · exact Int.ediv_nonneg (by omega) (by omega)
  · intro hwJ
    have hc1 : (c : Int) ≤ 1 := by
      rcases hcT with hcT | rfl
      · apply Classical.byContradiction
        intro hgt
        have : 1 * T ≤ ((c : Int) - 1) * T := Int.mul_le_mul_of_nonneg_right (by omega) (by omega)
        omega
      · omega
    have : (c : Int) * C ≤ 1 * C := Int.mul_le_mul_of_nonneg_right hc1 hC
    omega

/-- All tasks together. -/
theorem all_sum {n m : Nat} {a r x : Nat → Int} {kt : Nat → Nat} {Hk : Nat → Prop} [DecidablePred Hk] {J T C : Nat → Int} {k0 t0 w : Nat}
    (hk : ∀ i, i < n → kt i < m) (hk0 : k0 < m) (hw : 1 ≤ w) (hpos : ∀ k, k < m → 0 < T k ∧ 0 ≤ C k ∧ 0 ≤ J k)
    (hx : ∀ i, i < n → a i ≤ r i ∧ r i ≤ a i + J (kt i) ∧ x i ≤ C (kt i))
    (hsp : ∀ i j, i < j → j < n → kt i = kt j → a i + T (kt i) ≤ a j) (hown : (w : Int) + J k0 ≤ T k0) :
    sumN n (fun i => if Hk (kt i) ∧ (t0 : Int) ≤ r i ∧ r i < ((t0 + w : Nat) : Int) then x i else 0) ≤ C k0 + sumN m (fun k => if k ≠ k0 ∧ Hk k then ((w : Int) + J k + T k - 1) / T k * C k else 0) := by
  have e1 : sumN n (fun i => if Hk (kt i) ∧ (t0 : Int) ≤ r i ∧ r i < ((t0 + w : Nat) : Int) then x i else 0) = sumN n (fun i => sumN m (fun k => if Hk k then (if kt i = k ∧ (t0 : Int) ≤ r i ∧ r i < ((t0 + w : Nat) : Int) then x i else 0) else 0)) := by
    refine sumN_eq n (fun i hi => ?_)
    rw [← sumN_pick m (kt i) (if Hk (kt i) ∧ (t0 : Int) ≤ r i ∧ r i < ((t0 + w : Nat) : Int) then x i else 0) (hk i hi)]
    refine sumN_eq m (fun k _ => ?_)
    by_cases e : k = kt i
    · subst e
      rw [if_pos rfl]
      by_cases h1 : Hk (kt i)
      · simp [h1]
      · simp [h1]
    · rw [if_neg e]
      have : ¬ kt i = k := fun h => e h.symm
      simp [this]
  rw [e1, sumN_swap]
  have e2 : C k0 + sumN m (fun k => if k ≠ k0 ∧ Hk k then ((w : Int) + J k + T k - 1) / T k * C k else 0) = sumN m (fun k => (if k = k0 then C k0 else 0) + (if k ≠ k0 ∧ Hk k then ((w : Int) + J k + T k - 1) / T k * C k else 0)) := by
    rw [sumN_add, sumN_pick m k0 (C k0) hk0]
  rw [e2]
  refine sumN_le m (fun k hkm => ?_)
  obtain ⟨hT, hC, hJ⟩ := hpos k hkm
  have hc := come_sum (n := n) (a := a) (r := r) (x := x) (M := fun i => kt i = k ∧ (t0 : Int) ≤ r i ∧ r i < ((t0 + w : Nat) : Int)) (t0 := t0) (w := w) hT hC hJ (by omega) (fun i hi hMi => by
    obtain ⟨rfl, g1, g2⟩ := hMi
    obtain ⟨b1, b2, b3⟩ := hx i hi
    exact ⟨g1, by omega, b1, b2, b3⟩) (fun i j hij hj hMi hMj => by
    obtain ⟨rfl, -⟩ := hMi
    exact hsp i j hij hj hMj.1.symm)
  have hup : 0 ≤ ((w : Int) + J k + T k - 1) / T k * C k := Int.mul_nonneg (Int.ediv_nonneg (by omega) (by omega)) hC
  show sumN n (fun i => if Hk k then _ else 0) ≤ _
  by_cases hHk : Hk k
  · have e3 : sumN n (fun i => if Hk k then (if kt i = k ∧ (t0 : Int) ≤ r i ∧ r i < ((t0 + w : Nat) : Int) then x i else 0) else 0) = sumN n (fun i => if kt i = k ∧ (t0 : Int) ≤ r i ∧ r i < ((t0 + w : Nat) : Int) then x i else 0) := sumN_eq n (fun i _ => if_pos hHk)
    rw [e3]
    by_cases e : k = k0
    · subst e
      have := hc.2 hown
      simp
      exact this
    · rw [if_neg e, if_pos ⟨e, hHk⟩]
      have := hc.1
      omega
  · have e3 : sumN n (fun i => if Hk k then (if kt i = k ∧ (t0 : Int) ≤ r i ∧ r i < ((t0 + w : Nat) : Int) then x i else 0) else 0) = 0 := by
      rw [sumN_eq n (g := fun _ => 0) (fun i _ => if_neg hHk)]
      clear e1 e2 hc hsp hx hk
      induction n with
      | zero => rfl
      | succ n ih => unfold sumN; rw [ih]; rfl
    rw [e3]
    have : 0 ≤ C k0 := (hpos k0 hk0).2.1
    by_cases e : k = k0
    · rw [if_pos e, if_neg (by simp [e])]; omega
    · rw [if_neg e, if_neg (by simp [hHk])]; omega
end Go.Proofs.Ytkafihaajpifoai.FK
namespace Go.Proofs.Ytkafihaajpifoai.WK
open FK

/- Jobs that are played in those of the ticks in which a core is there (op). -/
structure Run (op : Nat → Bool) (n N : Nat) (r x : Nat → Int) (H : Nat → Prop) (L : Nat → Nat → Int) : Prop where
  r0 : ∀ i, i < n → 0 ≤ r i
  init : ∀ i, i < n → L 0 i = x i
  nneg : ∀ t i, t ≤ N → i < n → 0 ≤ L t i
  step : ∀ t, t < N → (op t = false ∧ ∀ i, i < n → L (t + 1) i = L t i) ∨ ((∀ i, i < n → L (t + 1) i = L t i) ∧ ∀ i, i < n → H i → r i ≤ t → L t i = 0) ∨
    ∃ k, k < n ∧ r k ≤ t ∧ 0 < L t k ∧ L (t + 1) k = L t k - 1 ∧ (∀ i, i < n → i ≠ k → L (t + 1) i = L t i) ∧ (H k ∨ ∀ i, i < n → H i → r i ≤ t → L t i = 0)

/-- In how many of w ticks from t0 on. -/
def opN (op : Nat → Bool) (t0 : Nat) : Nat → Int
  | 0 => 0
  | w + 1 => opN op t0 w + (if op (t0 + w) then 1 else 0)

theorem Run.down {op : Nat → Bool} {n N : Nat} {r x : Nat → Int} {H : Nat → Prop} {L : Nat → Nat → Int} (h : Run op n N r x H L) {i : Nat} (hi : i < n) : ∀ (d t : Nat), t + d ≤ N → L (t + d) i ≤ L t i
  | 0, t, _ => Int.le_refl _
  | d + 1, t, ht => by
    have h1 := h.down hi d t (by omega)
    have : L (t + d + 1) i ≤ L (t + d) i := by
      rcases h.step (t + d) (by omega) with ⟨-, h2⟩ | ⟨h2, -⟩ | ⟨k, hk, -, -, h3, h4, -⟩
      · rw [h2 i hi]; exact Int.le_refl _
      · rw [h2 i hi]; exact Int.le_refl _
      · by_cases e : i = k
        · subst e; omega
        · rw [h4 i hi e]; exact Int.le_refl _
    rw [show t + (d + 1) = t + d + 1 by omega]
    omega

theorem Run.zero {op : Nat → Bool} {n N : Nat} {r x : Nat → Int} {H : Nat → Prop} {L : Nat → Nat → Int} (h : Run op n N r x H L) {i t u : Nat} (hi : i < n) (hz : L t i = 0) (htu : t ≤ u) (hu : u ≤ N) : L u i = 0 := by
  have h1 := h.down hi (u - t) t (by omega)
  rw [show t + (u - t) = u by omega] at h1
  have h2 := h.nneg u i hu hi
  omega

theorem Run.busy {op : Nat → Bool} {n N : Nat} {r x : Nat → Int} {H : Nat → Prop} [DecidablePred H] {L : Nat → Nat → Int} (h : Run op n N r x H L) {t0 w : Nat} (hq : Quiet n r H L t0) (hw : 1 ≤ w) (hN : t0 + w ≤ N)
    (hs : sumN n (fun i => if H i ∧ (t0 : Int) ≤ r i ∧ r i < ((t0 + w : Nat) : Int) then x i else 0) ≤ opN op t0 w) : ∃ q, t0 < q ∧ q ≤ t0 + w ∧ Quiet n r H L q := by
  apply Classical.byContradiction
  intro hno
  have hno' : ∀ q, t0 < q → q ≤ t0 + w → ¬ Quiet n r H L q := fun q h1 h2 h3 => hno ⟨q, h1, h2, h3⟩
  let S : Nat → Int := fun t => sumN n (fun i => if H i ∧ (t0 : Int) ≤ r i ∧ r i < ((t0 + w : Nat) : Int) then L t i else 0)
  have key : ∀ d, d ≤ w → S (t0 + d) ≤ S t0 - opN op t0 d := by
    intro d
    induction d with
    | zero => intro _; show S t0 ≤ S t0 - 0; omega
    | succ d ih =>
      intro hd
      have hbad := hno' (t0 + d + 1) (by omega) (by omega)
      have hnone : ¬ ∀ i, i < n → H i → r i ≤ ((t0 + d : Nat) : Int) → L (t0 + d) i = 0 := fun hall => hbad fun i hi hHi hr => by
        have hz := hall i hi hHi (by omega)
        exact h.zero hi hz (Nat.le_succ _) (by omega)
      have ih' := ih (by omega)
      rw [show t0 + (d + 1) = t0 + d + 1 by omega, opN]
      rcases h.step (t0 + d) (by omega) with ⟨h1, h2⟩ | ⟨-, h2⟩ | ⟨k, hk, hrk, hpos, h3, h4, h5⟩
      · have e : S (t0 + d + 1) = S (t0 + d) := sumN_eq n (fun i hi => by rw [h2 i hi])
        rw [e, h1]
        simp
        omega
      · exact absurd h2 hnone
      · rcases h5 with h5 | h5
        · have hlow : (t0 : Int) ≤ r k := by
            apply Classical.byContradiction
            intro hc
            have hz := hq k hk h5 (by omega)
            have := h.zero hk hz (Nat.le_add_right t0 d) (by omega)
            omega
          have hin : H k ∧ (t0 : Int) ≤ r k ∧ r k < ((t0 + w : Nat) : Int) := ⟨h5, hlow, by omega⟩
          have : S (t0 + d + 1) = S (t0 + d) - 1 := by
            refine sumN_one n k hk ?_ (fun i hi hne => ?_)
            · rw [if_pos hin, if_pos hin, h3]
            · rw [h4 i hi hne]
          rw [this]
          split <;> omega
        · exact absurd h5 hnone
  have hw0 := key w (Nat.le_refl w)
  have hS0 : S t0 ≤ opN op t0 w := by
    refine Int.le_trans (sumN_le n (fun i hi => ?_)) hs
    by_cases hc : H i ∧ (t0 : Int) ≤ r i ∧ r i < ((t0 + w : Nat) : Int)
    · rw [if_pos hc, if_pos hc]
      have h1 := h.down hi t0 0 (by omega)
      rw [Nat.zero_add, h.init i hi] at h1
      exact h1
    · rw [if_neg hc, if_neg hc]; exact Int.le_refl _
  refine hno' (t0 + w) (by omega) (Nat.le_refl _) (fun i hi hHi hr => ?_)
  by_cases hlow : r i < (t0 : Int)
  · exact h.zero hi (hq i hi hHi hlow) (by omega) hN
  · have he := sumN_each n (f := fun i => if H i ∧ (t0 : Int) ≤ r i ∧ r i < ((t0 + w : Nat) : Int) then L (t0 + w) i else 0) (fun i hi => by
      split
      · exact h.nneg _ i hN hi
      · exact Int.le_refl _) (by show S (t0 + w) ≤ 0; omega) i hi
    have hin : H i ∧ (t0 : Int) ≤ r i ∧ r i < ((t0 + w : Nat) : Int) := ⟨hHi, by omega, hr⟩
    rw [if_pos hin] at he
    exact he

/-- Each job that goes ahead is done within w of its being there. -/
theorem Run.done {op : Nat → Bool} {n N : Nat} {r x : Nat → Int} {H : Nat → Prop} [DecidablePred H] {L : Nat → Nat → Int} (h : Run op n N r x H L) {i m w : Nat} (hi : i < n) (hH : H i) (hm : r i = (m : Int)) (hw : 1 ≤ w) (hN : m + w ≤ N)
    (hs : ∀ t0 : Nat, t0 ≤ m → sumN n (fun i => if H i ∧ (t0 : Int) ≤ r i ∧ r i < ((t0 + w : Nat) : Int) then x i else 0) ≤ opN op t0 w) : L (m + w) i = 0 := by
  obtain ⟨t0, h1, h2, h3⟩ := last_quiet (H := H) (L := L) h.r0 m
  obtain ⟨q, g1, g2, g3⟩ := h.busy h2 hw (by omega) (hs t0 h1)
  have hqm : m < q := by
    apply Classical.byContradiction
    intro hc
    exact h3 q g1 (by omega) g3
  exact h.zero hi (g3 i hi hH (by omega)) (by omega) hN
end Go.Proofs.Ytkafihaajpifoai.WK
namespace Go.Proofs.Ytkafihaajpifoai
open Go.ChangeShapes Go.WideShapes Go.ChangeAt Go.RowKit

theorem plays_seqO {l : List Jb} {op : Nat → Bool} : ∀ (t : Nat) (s : S8.St), S8.PlaysO l op t s → ∃ f : Nat → S8.St, f t = s ∧ (∀ u, u ≤ t → S8.PlaysO l op u (f u)) ∧ ∀ u, u < t → ∃ b, S8.PickO l op u (f u) b ∧ f (u + 1) = (f u).after u b
  | 0, s, h => ⟨fun _ => s, rfl, fun u hu => by rw [show u = 0 by omega]; exact h, fun u hu => by omega⟩
  | t + 1, s, h => by
    obtain ⟨s0, b, h1, h2, h3⟩ := id h
    obtain ⟨f, e, hp, hs⟩ := plays_seqO t s0 h1
    refine ⟨fun u => if u ≤ t then f u else s, by dsimp only; rw [if_neg (by omega)], fun u hu => ?_, fun u hu => ?_⟩
    · dsimp only
      by_cases hc : u ≤ t
      · rw [if_pos hc]; exact hp u hc
      · rw [if_neg hc, show u = t + 1 by omega]; exact h
    · dsimp only
      by_cases hc : u + 1 ≤ t
      · rw [if_pos hc, if_pos (show u ≤ t by omega)]
        exact hs u (by omega)
      · have hu' : u = t := by omega
        subst hu'
        rw [if_neg hc, if_pos (Nat.le_refl u), e]
        exact ⟨b, h2, h3⟩

theorem after_some {s : S8.St} {t i : Nat} : s.after t (i : Int) = ⟨s.left.set i (S8.L s.left i - 1), if S8.L s.left i - 1 = 0 then s.ends.set i ((t : Int) + 1) else s.ends, s.runs ++ [(i : Int)]⟩ := by
  unfold S8.St.after
  rw [if_neg (by omega), Int.toNat_natCast]

theorem pick_rngO {l : List Jb} {op : Nat → Bool} {t : Nat} {s : S8.St} {b : Int} (h : S8.Ok l t s) (hp : S8.PickO l op t s b) : b = -1 ∨ (∃ i : Nat, b = (i : Int) ∧ i < l.length ∧ 0 < S8.L s.left i) := by
  rcases hp with ⟨-, rfl⟩ | ⟨-, hp⟩
  · exact .inl rfl
  · exact S8.pick_rng (pol := 1) (pre := true) h (.inr ⟨(fun e => by cases e.1), hp⟩)

theorem run_ofO {js : List Jb} {op : Nat → Bool} {N : Nat} {f : Nat → S8.St} (hok : ∀ x ∈ js, S8.okJ x) (hp : ∀ u, u ≤ N → S8.PlaysO js op u (f u)) (hs : ∀ u, u < N → ∃ b, S8.PickO js op u (f u) b ∧ f (u + 1) = (f u).after u b) (P0 : Int) :
    WK.Run op js.length N (fun i => (S8.J js i).a) (fun i => (S8.J js i).c) (fun i => P0 ≤ (S8.J js i).p) (fun t i => S8.L (f t).left i) := by
  have hO : ∀ u, u ≤ N → S8.Ok js u (f u) := fun u hu => S8.playsO_ok hok u _ (hp u hu)
  have hJ : ∀ i, i < js.length → S8.okJ (S8.J js i) ∧ js[i]? = some (S8.J js i) := fun i hi => by
    have e : js[i]? = some (S8.J js i) := by unfold S8.J; rw [List.getD_eq_getElem?_getD]; simp [hi]
    exact ⟨hok _ (List.mem_of_getElem? e), e⟩
  refine ⟨fun i hi => (hJ i hi).1.1, fun i hi => ?_, fun t i ht hi => (hO t ht).nneg i, fun t ht => ?_⟩
  · have h0 : f 0 = S8.St.init js := hp 0 (Nat.zero_le _)
    show S8.L (f 0).left i = _
    rw [h0]
    unfold S8.L S8.St.init
    dsimp only
    rw [List.getD_eq_getElem?_getD, List.getElem?_map, (hJ i hi).2]
    rfl
  · obtain ⟨b, hb, he⟩ := hs t ht
    have hn := (hO t (by omega)).nneg
    have hl := (hO t (by omega)).left
    rcases hb with ⟨ho, rfl⟩ | ⟨-, hb⟩
    · refine .inl ⟨ho, fun i hi => ?_⟩
      show S8.L (f (t + 1)).left i = _
      rw [he]; rfl
    rcases hb with ⟨rfl, hb⟩ | ⟨k, rfl, hk, h1, h2, h3⟩
    · refine .inr (.inl ⟨fun i hi => ?_, fun i hi _ hr => ?_⟩)
      · show S8.L (f (t + 1)).left i = _
        rw [he]; rfl
      · have := hb i hi
        have := hn i
        show S8.L (f t).left i = 0
        omega
    · have hL : ∀ j, S8.L (f (t + 1)).left j = if j = k then S8.L (f t).left k - 1 else S8.L (f t).left j := fun j => by
        rw [he, after_some]
        exact S8.L_set (by rw [hl]; exact hk)
      refine .inr (.inr ⟨k, hk, h1, h2, ?_, fun i hi hne => ?_, ?_⟩)
      · show S8.L (f (t + 1)).left k = _
        rw [hL, if_pos rfl]
      · show S8.L (f (t + 1)).left i = _
        rw [hL, if_neg hne]
      · by_cases hH : P0 ≤ (S8.J js k).p
        · exact .inl hH
        · refine .inr fun i hi hHi hr => ?_
          apply Classical.byContradiction
          intro hne
          have hpos : 0 < S8.L (f t).left i := by have := hn i; have : ¬ S8.L (f t).left i = 0 := hne; omega
          have hik : i ≠ k := fun e => by subst e; exact hH hHi
          have := h3 i hi hr hpos hik
          unfold S8.lexJ S8.lex S8.key at this
          simp only [if_true] at this
          have hHi' : P0 ≤ (S8.J js i).p := hHi
          omega

theorem ends_ofO {js : List Jb} {op : Nat → Bool} {N : Nat} {f : Nat → S8.St} (hok : ∀ x ∈ js, S8.okJ x) (hp : ∀ u, u ≤ N → S8.PlaysO js op u (f u)) (hs : ∀ u, u < N → ∃ b, S8.PickO js op u (f u) b ∧ f (u + 1) = (f u).after u b) :
    ∀ u, u ≤ N → ∀ i, i < js.length → ∀ q, q ≤ u → S8.L (f q).left i = 0 → ∃ e, (f u).ends[i]? = some e ∧ 1 ≤ e ∧ e ≤ (q : Int) := by
  have R := run_ofO hok hp hs 0
  intro u
  induction u with
  | zero =>
    intro _ i hi q hq hz
    rw [show q = 0 by omega] at hz
    have h1 := R.init i hi
    have e : js[i]? = some (S8.J js i) := by unfold S8.J; rw [List.getD_eq_getElem?_getD]; simp [hi]
    have h2 := (hok _ (List.mem_of_getElem? e)).2.2.1
    have h3 : S8.L (f 0).left i = (S8.J js i).c := h1
    omega
  | succ u ih =>
    intro hu i hi q hq hz
    obtain ⟨b, hb, he⟩ := hs u (by omega)
    have hO := S8.playsO_ok hok u _ (hp u (by omega))
    have hpick := pick_rngO hO hb
    by_cases hzu : S8.L (f u).left i = 0
    · have hq' : ∃ q', q' ≤ u ∧ q' ≤ q ∧ S8.L (f q').left i = 0 := by
        by_cases hqu : q ≤ u
        · exact ⟨q, hqu, Nat.le_refl _, hz⟩
        · exact ⟨u, Nat.le_refl _, by omega, hzu⟩
      obtain ⟨q', g1, g2, g3⟩ := hq'
      obtain ⟨e, h1, h2, h3⟩ := ih (by omega) i hi q' g1 g3
      refine ⟨e, ?_, h2, by omega⟩
      rw [he]
      rcases hpick with rfl | ⟨k, rfl, hk, hpos⟩
      · exact h1
      · rw [after_some]
        have hne : k ≠ i := fun e => by subst e; omega
        show (if S8.L (f u).left k - 1 = 0 then (f u).ends.set k ((u : Int) + 1) else (f u).ends)[i]? = some e
        split
        · rw [List.getElem?_set_ne hne]; exact h1
        · exact h1
    · have hqu : q = u + 1 := by
        apply Classical.byContradiction
        intro hne
        exact hzu (R.zero (t := q) (u := u) hi hz (by omega) (by omega))
      subst hqu
      rw [he] at hz ⊢
      rcases hpick with rfl | ⟨k, rfl, hk, hpos⟩
      · exact absurd hz hzu
      · rw [after_some] at hz ⊢
        dsimp only at hz ⊢
        rw [S8.L_set (by rw [hO.left]; exact hk)] at hz
        by_cases hik : i = k
        · subst hik
          rw [if_pos rfl] at hz
          rw [if_pos hz]
          refine ⟨(u : Int) + 1, ?_, by omega, by omega⟩
          rw [List.getElem?_set_self (by rw [hO.ends]; exact hk)]
        · rw [if_neg hik] at hz
          exact absurd hz hzu

/- The jobs of comings, one by one. -/
theorem jobsFrom_each {l : List Ta} : ∀ (cs : List Co) (acc : List Jb) (la tk : List Int) (i : Nat) (js : List Jb), la.length = cs.length → tk.length = cs.length → jobsFrom l acc cs la tk i = ((0, 0), js) →
    ∃ new : List Jb, js = acc ++ new ∧ new.length = cs.length ∧ ∀ (n : Nat) (c : Co), cs[n]? = some c → ∃ a b : Int, new[n]? = some (⟨c.k, c.a + a, b, c.a + (l.getD c.k.toNat ta0).d, (l.getD c.k.toNat ta0).p⟩ : Jb) ∧ 0 ≤ a ∧ a ≤ (l.getD c.k.toNat ta0).j ∧ 1 ≤ b ∧ b ≤ (l.getD c.k.toNat ta0).c
  | [], acc, la, tk, i, js, h1, h2, h => by
    rw [jobsFrom_end] at h
    refine ⟨[], ?_, rfl, fun n c hc => by simp at hc⟩
    simp at h
    simp [h]
  | c0 :: cs, acc, [], tk, i, js, h1, h2, h => by simp at h1
  | c0 :: cs, acc, a :: la, [], i, js, h1, h2, h => by simp at h2
  | c0 :: cs, acc, a :: la, b :: tk, i, js, h1, h2, h => by
    rw [jobsFrom] at h
    unfold jobOne at h
    by_cases hc : a < 0 ∨ (l.getD c0.k.toNat ta0).j < a ∨ b < 1 ∨ (l.getD c0.k.toNat ta0).c < b
    · rw [if_pos hc] at h
      simp at h
    · rw [if_neg hc] at h
      obtain ⟨new, g1, g2, g3⟩ := jobsFrom_each cs _ la tk (i + 1) js (by simpa using h1) (by simpa using h2) h
      refine ⟨_ :: new, by rw [g1, List.append_assoc]; rfl, by simp [g2], fun n c hn => ?_⟩
      cases n with
      | zero =>
        simp at hn
        subst hn
        exact ⟨a, b, rfl, by omega, by omega, by omega, by omega⟩
      | succ n => simpa using g3 n c (by simpa using hn)

theorem jobsF_ok {l : List Ta} {cs : List Co} {la tk : List Int} {js : List Jb} (h : jobsF l cs la tk = ((0, 0), js)) : (legF l cs).1 = 0 ∧ js.length = cs.length ∧ ∀ (n : Nat) (c : Co), cs[n]? = some c → ∃ a b : Int, js[n]? = some (⟨c.k, c.a + a, b, c.a + (l.getD c.k.toNat ta0).d, (l.getD c.k.toNat ta0).p⟩ : Jb) ∧ 0 ≤ a ∧ a ≤ (l.getD c.k.toNat ta0).j ∧ 1 ≤ b ∧ b ≤ (l.getD c.k.toNat ta0).c := by
  unfold jobsF at h
  by_cases h0 : (legF l cs).1 ≠ 0
  · rw [if_pos h0] at h
    simp at h
    exact absurd (by rw [h.1]) h0
  · rw [if_neg h0] at h
    by_cases h1 : la.length ≠ cs.length ∨ tk.length ≠ cs.length
    · rw [if_pos h1] at h; simp at h
    · rw [if_neg h1] at h
      obtain ⟨new, g1, g2, g3⟩ := jobsFrom_each cs [] la tk 0 js (by omega) (by omega) h
      rw [List.nil_append] at g1
      subst g1
      exact ⟨by omega, g2, g3⟩

theorem soonOf_cons2 {l : List Ta} {past : List Co} {c : Co} {k : Int} : soonOf l (c :: past) k = if c.k = k then c.a + (l.getD k.toNat ta0).t else soonOf l past k := by
  unfold soonOf lastOf
  rw [List.find?_cons]
  by_cases h : c.k = k
  · simp [h]
  · simp [h]

/-- Two comings of one task are T apart. -/
theorem leg_apart {l : List Ta} (hl : ∀ x ∈ l, stands x = true) : ∀ (r past : List Co) (i : Nat), (legFrom l past r i).1 = 0 → (∀ c ∈ past, c.a + (l.getD c.k.toNat ta0).t ≤ soonOf l past c.k) →
    (∀ c0 ∈ past, ∀ c ∈ r, c0.k = c.k → c0.a + (l.getD c.k.toNat ta0).t ≤ c.a) ∧ r.Pairwise (fun c0 c => c0.k = c.k → c0.a + (l.getD c.k.toNat ta0).t ≤ c.a)
  | [], _, _, _, _ => ⟨fun _ _ c hc => by simp at hc, List.Pairwise.nil⟩
  | x :: r, past, i, h, hp => by
    rw [legFrom] at h
    by_cases hx : legOne l past x = 0
    · rw [if_pos hx] at h
      have hr := legOne_ok hx
      have hs : soonOf l past x.k ≤ x.a := by
        unfold legOne at hx
        rw [if_neg (by omega), if_neg (by omega)] at hx
        apply Classical.byContradiction
        intro hc
        rw [if_pos (by omega)] at hx
        cases hx
      have hT : 1 ≤ (l.getD x.k.toNat ta0).t := (stands_t (stands_mem hl (k := x.k.toNat) (by omega))).1
      have hp' : ∀ c ∈ x :: past, c.a + (l.getD c.k.toNat ta0).t ≤ soonOf l (x :: past) c.k := fun c hc => by
        rw [soonOf_cons2]
        rcases List.mem_cons.1 hc with rfl | hc
        · rw [if_pos rfl]; exact Int.le_refl _
        · have h1 := hp c hc
          by_cases e : x.k = c.k
          · rw [if_pos e]
            rw [← e] at h1 ⊢
            omega
          · rw [if_neg e]; exact h1
      obtain ⟨g1, g2⟩ := leg_apart hl r (x :: past) (i + 1) h hp'
      refine ⟨fun c0 h0 c hc e => ?_, List.Pairwise.cons (fun c hc e => g1 x List.mem_cons_self c hc e) g2⟩
      rcases List.mem_cons.1 hc with rfl | hc
      · have := hp c0 h0
        rw [e] at this
        omega
      · exact g1 c0 (List.mem_cons_of_mem _ h0) c hc e
    · rw [if_neg hx] at h
      exact absurd h hx

theorem apart_of {l : List Ta} {cs : List Co} (h : (legF l cs).1 = 0) : ∀ (i j : Nat) (c c' : Co), i < j → cs[i]? = some c → cs[j]? = some c' → c.k = c'.k → c.a + (l.getD c'.k.toNat ta0).t ≤ c'.a := by
  have hk := legF_ok h
  have hl := (chkF_ok hk.1).2.2
  have h' : (legFrom l [] cs 0).1 = 0 := by
    unfold legF at h
    rw [if_neg (by have := hk.1; omega), if_neg (by have := hk.2.1; omega)] at h
    exact h
  have hp := (leg_apart hl cs [] 0 h' (fun c hc => by simp at hc)).2
  intro i j c c' hij hc hc' e
  rw [List.pairwise_iff_getElem] at hp
  obtain ⟨hi, rfl⟩ := List.getElem?_eq_some_iff.1 hc
  obtain ⟨hj, rfl⟩ := List.getElem?_eq_some_iff.1 hc'
  exact hp i j hi hj hij e

theorem sumO_sumN {A : Nat → Bool} {i : Nat} {w : Int} {l : List Ta} : ∀ (d k : Nat), k + d = l.length → FK.sumN l.length (fun k => if k ≠ i ∧ A k = true then up1 w (Tk l k) else 0) = FK.sumN k (fun k => if k ≠ i ∧ A k = true then up1 w (Tk l k) else 0) + sumO w (othF A i (l.drop k) k)
  | 0, k, h => by
    rw [show k = l.length by omega, List.drop_length]
    simp [othF, sumO]
  | d + 1, k, h => by
    obtain ⟨x, hx, hd⟩ := drop_at (l := l) (k := k) (by omega)
    rw [sumO_sumN d (k + 1) (by omega), othF_at hd]
    show FK.sumN k _ + (if k ≠ i ∧ A k = true then up1 w (Tk l k) else 0) + _ = _
    rw [Tk_at hx]
    by_cases hc : k ≠ i ∧ A k = true
    · rw [if_pos hc, if_pos hc, sumO]; omega
    · rw [if_neg hc, if_neg hc]; omega

/-- From no time on is it less than the least. -/
theorem least_all {n : Nat} {wl : List Wi} (hn : 1 ≤ n) (hs : Srt n 0 wl) (k : Nat) : ∀ s : Nat, leastF n wl k ≤ sup n wl s k := by
  intro s
  induction s using Nat.strongRecOn with
  | _ s ih =>
    by_cases h : s < n
    · obtain ⟨⟨h1, h2⟩, -⟩ := foldl_min (fun x : Wi => sup n wl (x.at_ + x.ln).toNat k) wl (sup n wl 0 k)
      change leastF n wl k ≤ _ at h1
      change ∀ x ∈ wl, leastF n wl k ≤ _ at h2
      rcases sup_worst hs k s (by omega) with ⟨x, hx, h7⟩ | h7
      · have := h2 x hx
        omega
      · omega
    · have h9 := ih (s - n) (by omega)
      have h10 := sup_period (n := n) (l := wl) (s - n) k
      rw [show s - n + n = s by omega] at h10
      omega

theorem opN_sup {n : Int} {wl : List Wi} {t0 : Nat} : ∀ w : Nat, WK.opN (S8.opW n wl) t0 w = sup n wl t0 w
  | 0 => by rw [sup_zero]; rfl
  | w + 1 => by
    rw [WK.opN, sup_succ, opN_sup w]
    unfold S8.opW bit
    rfl

/-- Windows: nobody takes longer than is told. -/
theorem windows_pure {l : List Ta} {cs : List Co} {la tk : List Int} {js : List Jb} {N ik nn : Nat} {wl : List Wi} {v : Int} {s : S8.St} (hw : WiOk l ik (nn : Int) wl v) (hj : jobsF l cs la tk = ((0, 0), js))
    (hN : ∀ c ∈ cs, c.a + (Tk l c.k.toNat).d ≤ (N : Int)) (hok : ∀ x ∈ js, S8.okJ x) (hP : S8.PlaysO js (S8.opW (nn : Int) wl) N s) :
    ∀ (i : Nat) (c : Co), cs[i]? = some c → c.k = (ik : Int) → ∃ e, s.ends[i]? = some e ∧ 1 ≤ e ∧ e - c.a ≤ v := by
  obtain ⟨hf, hX, wn, hv, w1, w2, w3⟩ := hw
  obtain ⟨hn1, -, hsr, -⟩ := frmF_good (n := (nn : Int)) (l := wl) (z := (frmF (nn : Int) wl).2) (by rw [← hf])
  have hn : 1 ≤ nn := by omega
  obtain ⟨-, hDT, -, h8, hst, -⟩ := chkX_ok hX
  obtain ⟨hleg, hjl, hje⟩ := jobsF_ok hj
  have hlk := legF_ok hleg
  obtain ⟨f, rfl, hp, hs⟩ := plays_seqO N s hP
  intro i c hc hck
  have hil : i < cs.length := (List.getElem?_eq_some_iff.1 hc).1
  obtain ⟨hk0, hkl, ha0, ha1⟩ := hlk.2.2 c (List.mem_of_getElem? hc)
  have hkn : c.k.toNat < l.length := by omega
  have hik : ik = c.k.toNat := by omega
  subst hik
  subst hv
  -- the jobs
  have hJ : ∀ n c, cs[n]? = some c → ∃ a b : Int, S8.J js n = ⟨c.k, c.a + a, b, c.a + (Tk l c.k.toNat).d, (Tk l c.k.toNat).p⟩ ∧ 0 ≤ a ∧ a ≤ (Tk l c.k.toNat).j ∧ 1 ≤ b ∧ b ≤ (Tk l c.k.toNat).c := fun n c hn => by
    obtain ⟨a, b, g1, g2⟩ := hje n c hn
    refine ⟨a, b, ?_, g2⟩
    unfold S8.J
    rw [List.getD_eq_getElem?_getD, g1]
    rfl
  have hC : ∀ n, n < js.length → ∃ c, cs[n]? = some c ∧ cs.getD n ⟨0, 0⟩ = c := fun n hn => by
    have hn' : n < cs.length := by omega
    exact ⟨cs[n], by simp [hn'], by simp [hn']⟩
  obtain ⟨a, b, hji, a1, a2, b1, b2⟩ := hJ i c hc
  have R := run_ofO hok hp hs (Tk l c.k.toNat).p
  have hd := hN c (List.mem_of_getElem? hc)
  have hm : (S8.J js i).a = (((c.a + a).toNat : Nat) : Int) := by rw [hji]; show c.a + a = _; omega
  have hdone := R.done (i := i) (m := (c.a + a).toNat) (w := wn) (by omega) (by show (Tk l c.k.toNat).p ≤ (S8.J js i).p; rw [hji]; exact Int.le_refl _) hm (by omega) (by omega) (fun t0 _ => by
    have hall := FK.all_sum (n := js.length) (m := l.length) (a := fun n => (cs.getD n ⟨0, 0⟩).a) (r := fun n => (S8.J js n).a) (x := fun n => (S8.J js n).c) (kt := fun n => (S8.J js n).k.toNat) (Hk := fun k => (Tk l c.k.toNat).p ≤ (Tk l k).p) (J := fun k => (Tk l k).j) (T := fun k => (Tk l k).t) (C := fun k => (Tk l k).c) (k0 := c.k.toNat) (t0 := t0) (w := wn)
      (fun n hn => by
        obtain ⟨c', hc', -⟩ := hC n hn
        obtain ⟨a', b', e', -⟩ := hJ n c' hc'
        have := hlk.2.2 c' (List.mem_of_getElem? hc')
        show (S8.J js n).k.toNat < _
        rw [e']
        show c'.k.toNat < _
        omega) hkn (by omega)
      (fun k hk => by
        obtain ⟨g1, g2, g3, g4, g5, g6, g7, g8, -, -⟩ := stands_t (stands_mem hst hk)
        exact ⟨by show 0 < (Tk l k).t; omega, by show 0 ≤ (Tk l k).c; omega, g7⟩)
      (fun n hn => by
        obtain ⟨c', hc', hg⟩ := hC n hn
        obtain ⟨a', b', e', q1, q2, q3, q4⟩ := hJ n c' hc'
        rw [hg, e']
        try dsimp only
        exact ⟨by omega, by omega, q4⟩)
      (fun n n' hnn hn' e => by
        obtain ⟨c1, hc1, hg1⟩ := hC n (by omega)
        obtain ⟨c2, hc2, hg2⟩ := hC n' hn'
        obtain ⟨a3, b3, e3, -⟩ := hJ n c1 hc1
        obtain ⟨a4, b4, e4, -⟩ := hJ n' c2 hc2
        rw [hg1, hg2, e3]
        rw [e3, e4] at e
        try dsimp only at e ⊢
        have k1 := hlk.2.2 c1 (List.mem_of_getElem? hc1)
        have k2 := hlk.2.2 c2 (List.mem_of_getElem? hc2)
        have ek : c1.k = c2.k := by omega
        have := apart_of hleg n n' c1 c2 hnn hc1 hc2 ek
        rw [ek]
        exact this)
      (by
        have := hDT _ (Tk_mem hkn)
        show (wn : Int) + (Tk l c.k.toNat).j ≤ (Tk l c.k.toNat).t
        omega)
    have hask : askF (Tk l c.k.toNat).c (othF (aheadP l c.k.toNat) c.k.toNat l 0) (wn : Int) = (Tk l c.k.toNat).c + FK.sumN l.length (fun k => if k ≠ c.k.toNat ∧ (Tk l c.k.toNat).p ≤ (Tk l k).p then ((wn : Int) + (Tk l k).j + (Tk l k).t - 1) / (Tk l k).t * (Tk l k).c else 0) := by
      have h1 := sumO_sumN (A := aheadP l c.k.toNat) (i := c.k.toNat) (w := (wn : Int)) (l := l) l.length 0 (by omega)
      have h2 : FK.sumN l.length (fun k => if k ≠ c.k.toNat ∧ (Tk l c.k.toNat).p ≤ (Tk l k).p then ((wn : Int) + (Tk l k).j + (Tk l k).t - 1) / (Tk l k).t * (Tk l k).c else 0) = FK.sumN l.length (fun k => if k ≠ c.k.toNat ∧ aheadP l c.k.toNat k = true then up1 (wn : Int) (Tk l k) else 0) := by
        refine FK.sumN_eq _ (fun k _ => ?_)
        unfold aheadP up1
        simp
      rw [h2, h1]
      unfold askF
      rw [List.drop_zero]
      show _ = (Tk l c.k.toNat).c + (0 + _)
      omega
    have hH : FK.sumN js.length (fun n => if (Tk l c.k.toNat).p ≤ (S8.J js n).p ∧ (t0 : Int) ≤ (S8.J js n).a ∧ (S8.J js n).a < ((t0 + wn : Nat) : Int) then (S8.J js n).c else 0) = FK.sumN js.length (fun n => if (Tk l c.k.toNat).p ≤ (Tk l (S8.J js n).k.toNat).p ∧ (t0 : Int) ≤ (S8.J js n).a ∧ (S8.J js n).a < ((t0 + wn : Nat) : Int) then (S8.J js n).c else 0) := by
      refine FK.sumN_eq _ (fun n hn => ?_)
      obtain ⟨c', hc', -⟩ := hC n hn
      obtain ⟨a', b', e', -⟩ := hJ n c' hc'
      have ep : (S8.J js n).p = (Tk l (S8.J js n).k.toNat).p := by rw [e']
      rw [ep]
    refine Int.le_trans (Int.le_of_eq hH) ?_
    refine Int.le_trans hall ?_
    exact Int.le_trans (Int.le_of_eq hask.symm) (Int.le_trans w3 (by rw [opN_sup]; exact least_all hn hsr wn t0)))
  obtain ⟨e, h1, h2, h3⟩ := ends_ofO hok hp hs N (Nat.le_refl N) i (by omega) ((c.a + a).toNat + wn) (by omega) hdone
  exact ⟨e, h1, h2, by omega⟩
end Go.Proofs.Ytkafihaajpifoai
namespace Go.Proofs.Ytkafihaajpifoai
open Go.ChangeShapes Go.WideShapes Go.ChangeAt Go.RowKit

theorem jobsFrom_zero {l : List Ta} : ∀ (cs : List Co) (acc : List Jb) (la tk : List Int) (i : Nat), (jobsFrom l acc cs la tk i).1.1 = 0 → (jobsFrom l acc cs la tk i).1 = (0, 0)
  | [], acc, la, tk, i, _ => by rw [jobsFrom_end]
  | c :: cs, acc, [], tk, i, _ => by simp [jobsFrom]
  | c :: cs, acc, a :: la, [], i, _ => by simp [jobsFrom]
  | c :: cs, acc, a :: la, b :: tk, i, h => by
    rw [jobsFrom] at h ⊢
    cases e : jobOne l c a b with
    | none => rw [e] at h; cases h
    | some x => rw [e] at h; exact jobsFrom_zero cs _ la tk (i + 1) h

theorem jobsF_zero {l : List Ta} {cs : List Co} {la tk : List Int} (h : (jobsF l cs la tk).1.1 = 0) : (jobsF l cs la tk).1 = (0, 0) := by
  unfold jobsF at h ⊢
  by_cases h0 : (legF l cs).1 ≠ 0
  · rw [if_pos h0] at h; exact absurd h h0
  · rw [if_neg h0] at h ⊢
    by_cases h1 : la.length ≠ cs.length ∨ tk.length ≠ cs.length
    · rw [if_pos h1] at h; cases h
    · rw [if_neg h1] at h ⊢; exact jobsFrom_zero cs [] la tk 0 h

theorem s8chk_ok : ∀ (js : List Jb) (k : Nat), (∀ x ∈ js, S8.okJ x) → S8.chkFrom js k = (0, 0)
  | [], k, _ => rfl
  | x :: r, k, h => by
    have h0 := h x List.mem_cons_self
    unfold S8.okJ at h0
    unfold S8.chkFrom
    rw [if_pos h0]
    exact s8chk_ok r (k + 1) (fun y hy => h y (List.mem_cons_of_mem _ hy))

theorem jobs_okJ {l : List Ta} {cs : List Co} {la tk : List Int} {js : List Jb} (h : jobsF l cs la tk = ((0, 0), js)) : ∀ x ∈ js, S8.okJ x := by
  obtain ⟨hleg, hjl, hje⟩ := jobsF_ok h
  have hlk := legF_ok hleg
  have hst := (chkF_ok hlk.1).2.2
  intro x hx
  obtain ⟨i, hi, rfl⟩ := List.getElem_of_mem hx
  have hi' : i < cs.length := by omega
  obtain ⟨a, b, e, a1, a2, b1, b2⟩ := hje i cs[i] (by simp [hi'])
  have hk := hlk.2.2 cs[i] (List.getElem_mem hi')
  obtain ⟨g1, g2, g3, g4, g5, g6, g7, g8, -, -⟩ := stands_t (stands_mem hst (k := cs[i].k.toNat) (by omega))
  have e' : js[i] = _ := Option.some.inj ((List.getElem?_eq_getElem hi).symm.trans e)
  rw [e']
  have u1 : (l.getD cs[i].k.toNat ta0).j ≤ 10000 := g8
  have u2 : (l.getD cs[i].k.toNat ta0).c ≤ 10000 := g4
  have u3 : 1 ≤ (l.getD cs[i].k.toNat ta0).d := g5
  have u4 : (l.getD cs[i].k.toNat ta0).d ≤ 10000 := g6
  unfold S8.okJ
  dsimp only
  omega

theorem chkJ_jobs {js : List Jb} (h : ∀ x ∈ js, S8.okJ x) (hl : js.length ≤ 4000) : (S8.chkJ js).1 = 0 := by
  unfold S8.chkJ
  rw [if_neg (by omega), s8chk_ok js 0 h]

theorem windows_pureI {l : List Ta} {cs : List Co} {la tk : List Int} {js : List Jb} {N ik : Nat} {n : Int} {wl : List Wi} {v : Int} {s : S8.St} (hw : WiOk l ik n wl v) (hj : jobsF l cs la tk = ((0, 0), js))
    (hN : ∀ c ∈ cs, c.a + (Tk l c.k.toNat).d ≤ (N : Int)) (hok : ∀ x ∈ js, S8.okJ x) (hP : S8.PlaysO js (S8.opW n wl) N s) :
    ∀ (i : Nat) (c : Co), cs[i]? = some c → c.k = (ik : Int) → ∃ e, s.ends[i]? = some e ∧ 1 ≤ e ∧ e - c.a ≤ v ∧ e ≤ 30000 ∧ 0 ≤ c.a ∧ c.a ≤ 20000 := by
  obtain ⟨hn1, -, -, -⟩ := frmF_good (n := n) (l := wl) (z := (frmF n wl).2) (by rw [← hw.1])
  obtain ⟨nn, rfl⟩ : ∃ nn : Nat, n = (nn : Int) := ⟨n.toNat, by omega⟩
  intro i c hc hk
  obtain ⟨e, e1, e2, e3⟩ := windows_pure hw hj hN hok hP i c hc hk
  obtain ⟨-, hX, k, rfl, -, h3, -⟩ := hw
  obtain ⟨-, -, -, -, hst, -⟩ := chkX_ok hX
  obtain ⟨g1, g2, g3, g4⟩ := (legF_ok (jobsF_ok hj).1).2.2 c (List.mem_of_getElem? hc)
  have hd := (stands_t (stands_mem hst (k := ik) (by omega))).2.2.2.2.2.1
  exact ⟨e, e1, e2, e3, by omega, g3, g4⟩

theorem field_29 (W : World) (a b : Int) : (Instr.field 29 (.agg #[.int .i64 a, .int .i64 b]) 0).run Try.prog W = .ok (.int .i64 a) W := by kernel_rfl

set_option maxRecDepth 20000 in
set_option maxHeartbeats 8000000 in
theorem windows_walk (w : World) (l : List Ta) (n : Int) (wl : List Wi) (cs : List Co) (la tk : List Int) (v vw v2 v3 v4 : Value) (hv : RowSl Ta.vals w l v) (hvw : RowSl Wi.vals w wl vw) (hv2 : RowSl Co.vals w cs v2) (hv3 : RowSl nuV w la v3) (hv4 : RowSl nuV w tk v4) :
    Calls Try.prog 4 #[v, .int .i64 n, vw, v2, v3, v4] w fun r w' => r = .returned (.bool true) ∧ Below w.heap.size w w' := by
  obtain ⟨ad, c, rfl⟩ := hv.len
  obtain ⟨adw, cw, rfl⟩ := hvw.len
  obtain ⟨ad2, c2, rfl⟩ := hv2.len
  obtain ⟨ad3, c3, rfl⟩ := hv3.len
  obtain ⟨ad4, c4, rfl⟩ := hv4.len
  have HV : Hid (RowSl Ta.vals w l (.slice ad l.length c) ∧ RowSl Co.vals w cs (.slice ad2 cs.length c2) ∧ RowSl nuV w la (.slice ad3 la.length c3) ∧ RowSl nuV w tk (.slice ad4 tk.length c4) ∧ RowSl Wi.vals w wl (.slice adw wl.length cw)) := ⟨hv, hv2, hv3, hv4, hvw⟩
  clear hv hv2 hv3 hv4 hvw
  go_enter Try.func4, Try.ntmps4
  go_wp2_with (go_at_call 10; refine (opens_any _).mono ?_; rintro r w2 ⟨rfl, hb2⟩; have H2 : Hid (Below w.heap.size w w2) := hb2; clear hb2)
  by_cases hl : l.length ≤ 5000
  rotate_left 1
  · have hl' : decide ((l.length : Int) ≤ 5000) = false := by simp; omega
    go_wp2_with (go_at_call 6; refine (few_any _ _).mono ?_; rintro r w5 ⟨rfl, rfl⟩; rw [hl'])
    go_ret
    exact ⟨rfl, H2.out⟩
  have hl' : decide ((l.length : Int) ≤ 5000) = true := by simp; omega
  by_cases hl2 : cs.length ≤ 5000
  rotate_left 1
  · have hl2' : decide ((cs.length : Int) ≤ 5000) = false := by simp; omega
    go_wp2_with (go_at_call 6; refine (few_any _ _).mono ?_; rintro r w5 ⟨rfl, rfl⟩; first | rw [hl'] | rw [hl2'])
    go_ret
    exact ⟨rfl, H2.out⟩
  have hl2' : decide ((cs.length : Int) ≤ 5000) = true := by simp; omega
  by_cases hl3 : wl.length ≤ 5000
  rotate_left 1
  · have hl3' : decide ((wl.length : Int) ≤ 5000) = false := by simp; omega
    go_wp2_with (go_at_call 6; refine (few_any _ _).mono ?_; rintro r w5 ⟨rfl, rfl⟩; first | rw [hl'] | rw [hl2'] | rw [hl3'])
    go_ret
    exact ⟨rfl, H2.out⟩
  have hl3' : decide ((wl.length : Int) ≤ 5000) = true := by simp; omega
  go_wp2_with (go_at_call 6; refine (few_any _ _).mono ?_; rintro r w5 ⟨rfl, rfl⟩; first | rw [hl'] | rw [hl2'] | rw [hl3'])
  have A11 := fun W (hb : Below w.heap.size w W) => Jobs_any W l cs la tk _ _ _ _ (HV.out.1.below hb) (HV.out.2.1.below hb) (HV.out.2.2.1.below hb) (HV.out.2.2.2.1.below hb)
  obtain ⟨g1, g2, js, EJ⟩ : ∃ g1 g2 js, jobsF l cs la tk = ((g1, g2), js) := ⟨_, _, _, rfl⟩
  rw [EJ] at A11
  dsimp only at A11
  have EE : Hid (jobsF l cs la tk = ((g1, g2), js)) := EJ
  clear EJ
  by_cases hg : g1 = 0
  rotate_left 1
  · have hgb : (g1 != 0) = true := by simpa using hg
    go_wp2_with (go_at_call 11; refine (A11 _ (by first | exact H2.out | exact below_seq H2.out (below_new _ _))).mono ?_; rintro r w7 ⟨u7, rfl, ho7, hb7⟩; obtain ⟨a7, c7, rfl⟩ := owns_value ho7; have H7 : Hid (Below w.heap.size w w7 ∧ RowSl Jb.vals w7 js (.slice a7 js.length c7)) := ⟨below_seq H2.out hb7, rowOf_own ho7⟩; clear hb7 ho7 A11 H2)
    go_ret
    exact ⟨rfl, below_seq H7.out.1 (below_new _ _)⟩
  subst hg
  have EJ := EE.out
  have eg2 : g2 = 0 := by
    have := jobsF_zero (l := l) (cs := cs) (la := la) (tk := tk) (by rw [EJ])
    rw [EJ] at this
    simpa using this
  subst eg2
  obtain ⟨hleg, hjl, -⟩ := jobsF_ok EJ
  have hlk := legF_ok hleg
  obtain ⟨hl1, hl8, hst⟩ := chkF_ok hlk.1
  have A12 := fun W (hb : Below w.heap.size w W) => lasts_any W l cs _ _ hst hl1 hl2 hlk.2.2 (HV.out.1.below hb) (HV.out.2.1.below hb)
  have hE0 := (endF_ge (l := l) cs 0).1
  obtain ⟨N, hN⟩ : ∃ N : Nat, endF l cs 0 = (N : Int) := ⟨(endF l cs 0).toNat, by omega⟩
  have HNc : Hid (∀ c ∈ cs, c.a + (Tk l c.k.toNat).d ≤ (N : Int)) := fun c hc => by rw [← hN]; exact (endF_ge (l := l) cs 0).2 c hc
  have HK : Hid ((∀ c ∈ cs, 0 ≤ c.k ∧ c.k < (l.length : Int) ∧ 0 ≤ c.a ∧ c.a ≤ 20000) ∧ js.length = cs.length ∧ (∀ x ∈ js, S8.okJ x) ∧ (S8.chkJ js).1 = 0 ∧ l.length ≤ 8) := ⟨hlk.2.2, hjl, jobs_okJ EJ, chkJ_jobs (jobs_okJ EJ) (by rw [hjl]; exact hlk.2.1), hl8⟩
  rw [hN] at A12
  clear EJ hst hleg hlk hN hE0 hjl hl1 hl8
  by_cases hz : 3000 < (N : Int) ∨ 300 < cs.length
  · rw [if_pos hz] at A12
    go_wp2_with (go_at_call 11; refine (A11 _ (by first | exact H2.out | exact below_seq H2.out (below_new _ _))).mono ?_; rintro r w7 ⟨u7, rfl, ho7, hb7⟩; obtain ⟨a7, c7, rfl⟩ := owns_value ho7; have H7 : Hid (Below w.heap.size w w7 ∧ RowSl Jb.vals w7 js (.slice a7 js.length c7)) := ⟨below_seq H2.out hb7, rowOf_own ho7⟩; clear hb7 ho7 A11 H2)
    go_wp2_with (go_at_call 12; refine (A12 _ (below_seq H7.out.1 (below_new _ _))).mono ?_; rintro r w8 ⟨rfl, hb8⟩; have H8 : Hid (Below w.heap.size w w8) := below_seq (below_seq H7.out.1 (below_new _ _)) hb8; clear hb8)
    go_ret
    exact ⟨rfl, H8.out⟩
  rw [if_neg hz] at A12
  have hNn : ¬ (N : Int) < 0 := by omega
  go_wp2_with (go_at_call 11; refine (A11 _ (by first | exact H2.out | exact below_seq H2.out (below_new _ _))).mono ?_; rintro r w7 ⟨u7, rfl, ho7, hb7⟩; obtain ⟨a7, c7, rfl⟩ := owns_value ho7; have H7 : Hid (Below w.heap.size w w7 ∧ RowSl Jb.vals w7 js (.slice a7 js.length c7)) := ⟨below_seq H2.out hb7, rowOf_own ho7⟩; clear hb7 ho7 A11 H2)
  go_wp2_with (go_at_call 12; refine (A12 _ (below_seq H7.out.1 (below_new _ _))).mono ?_; rintro r w8 ⟨rfl, hb8⟩; have H8 : Hid (FB w w8 w7.heap.size ∧ RowSl Jb.vals w8 js (.slice a7 js.length c7)) := ⟨⟨below_seq H7.out.1 (below_seq (below_new _ _) hb8), (hb8.block _ (by simp)).trans (heap_alloc_new _ _), H7.out.1.size⟩, H7.out.2.below (below_seq (below_new _ _) hb8)⟩; clear hb8 H7 A12)
  by_cases hf : (frmF n wl).1 = 0
  rotate_left 1
  · have A13 := S8.Hosted_bad w8 js wl n (N : Int) _ _ H8.out.2 (HV.out.2.2.2.2.below H8.out.1.bel) hf
    have A14 := fun W (hb : Below w.heap.size w W) => CheckFrame_any W n wl _ (HV.out.2.2.2.2.below hb)
    generalize (frmF n wl).1 = z1 at *
    generalize (frmF n wl).2 = z2 at *
    have hzb : (z1 != 0) = true := by simpa using hf
    have hfd := field_29
    go_wp2_with (go_at_call 13; refine A13.mono ?_; rintro r w9 ⟨rfl, hb9⟩; have H9 : Hid (FB w w9 w7.heap.size ∧ True) := ⟨⟨below_seq H8.out.1.bel hb9, (hb9.block _ (Array.getElem?_eq_some_iff.1 H8.out.1.res).1).trans H8.out.1.res, H8.out.1.low⟩, trivial⟩; obtain ⟨fs, ff, fl⟩ := cells_of (l := [_, _]) H9.out.1.res; have f0 := fs 0 _ rfl; have f1 := fs 1 _ rfl; have ff0 := ff 0; have ff1 := ff 1; clear fs ff; clear hb9 A13)
    have bX : Below w.heap.size w (((w9.setCell ⟨w7.heap.size, 0, none⟩ (.int .i64 z1)).setCell ⟨w7.heap.size, 1, none⟩ (.int .i64 z2)).alloc (.cells #[.slice none 0 0, .slice none 0 0] 37)) := (H9.out.1.endA _ _ _).2
    have B14 := A14 _ bX
    have HbX : Hid (Below w.heap.size w (((w9.setCell ⟨w7.heap.size, 0, none⟩ (.int .i64 z1)).setCell ⟨w7.heap.size, 1, none⟩ (.int .i64 z2)).alloc (.cells #[.slice none 0 0, .slice none 0 0] 37))) := bX
    clear bX A14
    go_wp2_with (go_at_call 14; refine B14.mono ?_; rintro r w10 ⟨rfl, hb10⟩)
    go_ret
    exact ⟨rfl, below_seq HbX.out hb10⟩
  have A13 := S8.Hosted_good w8 js wl n N _ _ H8.out.2 (HV.out.2.2.2.2.below H8.out.1.bel) hf HK.out.2.2.2.1 (by omega)
  have hjc : ((js.length : Int) != (cs.length : Int)) = false := by simp [HK.out.2.1]
  go_wp2_with (go_at_call 13; refine A13.mono ?_; rintro r w9 ⟨q1, q2, rfl, ⟨s, rb, eb, hp, rfl, rfl, heb, hel⟩, hb9⟩; have H9 : Hid (FB w w9 w7.heap.size ∧ S8.PlaysO js (S8.opW n wl) N s ∧ w9.heap[eb]? = some (.cells (s.ends.map (Value.int .i64)).toArray 3 (0, 0)) ∧ w7.heap.size < eb) := ⟨⟨below_seq H8.out.1.bel hb9, (hb9.block _ (Array.getElem?_eq_some_iff.1 H8.out.1.res).1).trans H8.out.1.res, H8.out.1.low⟩, hp, heb, Nat.lt_of_lt_of_le (Array.getElem?_eq_some_iff.1 H8.out.1.res).1 hel⟩; obtain ⟨fs, ff, fl⟩ := cells_of (l := [_, _]) H9.out.1.res; have f0 := fs 0 _ rfl; have f1 := fs 1 _ rfl; have ff0 := ff 0; have ff1 := ff 1; clear fs ff; clear hb9 A13 hp heb hel)
  have bX : Below w.heap.size w (((w9.setCell ⟨w7.heap.size, 0, none⟩ (.int .i64 0)).setCell ⟨w7.heap.size, 1, none⟩ (.int .i64 0)).alloc (.cells #[.slice (some ⟨rb, 0, none⟩) N N, .slice (some ⟨eb, 0, none⟩) js.length js.length] 37)) := (H9.out.1.endA _ _ _).2
  have PX : (((w9.setCell ⟨w7.heap.size, 0, none⟩ (.int .i64 0)).setCell ⟨w7.heap.size, 1, none⟩ (.int .i64 0)).alloc (.cells #[.slice (some ⟨rb, 0, none⟩) N N, .slice (some ⟨eb, 0, none⟩) js.length js.length] 37)).heap[w9.heap.size]? = some (.cells #[.slice (some ⟨rb, 0, none⟩) N N, .slice (some ⟨eb, 0, none⟩) js.length js.length] 37 (0, 0)) := by
    have := heap_alloc_new ((w9.setCell ⟨w7.heap.size, 0, none⟩ (.int .i64 0)).setCell ⟨w7.heap.size, 1, none⟩ (.int .i64 0)) (.cells #[.slice (some ⟨rb, 0, none⟩) N N, .slice (some ⟨eb, 0, none⟩) js.length js.length] 37)
    simpa using this
  have heb : eb ≠ w7.heap.size := by have := H9.out.2.2.2; omega
  have eX : (((w9.setCell ⟨w7.heap.size, 0, none⟩ (.int .i64 0)).setCell ⟨w7.heap.size, 1, none⟩ (.int .i64 0)).alloc (.cells #[.slice (some ⟨rb, 0, none⟩) N N, .slice (some ⟨eb, 0, none⟩) js.length js.length] 37)).heap[eb]? = some (.cells (s.ends.map (Value.int .i64)).toArray 3 (0, 0)) := ((Below.heap_alloc _ _ _ (by have := (Array.getElem?_eq_some_iff.1 H9.out.2.2.1).1; simpa using this)).trans (by rw [Below.heap_setCell _ _ _ _ (by show eb ≠ w7.heap.size; exact heb), Below.heap_setCell _ _ _ _ (by show eb ≠ w7.heap.size; exact heb)])).trans H9.out.2.2.1
  have GX : Hid (Below w.heap.size w (((w9.setCell ⟨w7.heap.size, 0, none⟩ (.int .i64 0)).setCell ⟨w7.heap.size, 1, none⟩ (.int .i64 0)).alloc (.cells #[.slice (some ⟨rb, 0, none⟩) N N, .slice (some ⟨eb, 0, none⟩) js.length js.length] 37)) ∧ (((w9.setCell ⟨w7.heap.size, 0, none⟩ (.int .i64 0)).setCell ⟨w7.heap.size, 1, none⟩ (.int .i64 0)).alloc (.cells #[.slice (some ⟨rb, 0, none⟩) N N, .slice (some ⟨eb, 0, none⟩) js.length js.length] 37)).heap[w9.heap.size]? = some (.cells #[.slice (some ⟨rb, 0, none⟩) N N, .slice (some ⟨eb, 0, none⟩) js.length js.length] 37 (0, 0)) ∧ (((w9.setCell ⟨w7.heap.size, 0, none⟩ (.int .i64 0)).setCell ⟨w7.heap.size, 1, none⟩ (.int .i64 0)).alloc (.cells #[.slice (some ⟨rb, 0, none⟩) N N, .slice (some ⟨eb, 0, none⟩) js.length js.length] 37)).heap[eb]? = some (.cells (s.ends.map (Value.int .i64)).toArray 3 (0, 0)) ∧ S8.PlaysO js (S8.opW n wl) N s) := ⟨bX, PX, eX, H9.out.2.1⟩
  clear bX PX heb eX f0 f1 ff0 ff1 fl H9 H8
  generalize (((w9.setCell ⟨w7.heap.size, 0, none⟩ (.int .i64 0)).setCell ⟨w7.heap.size, 1, none⟩ (.int .i64 0)).alloc (.cells #[.slice (some ⟨rb, 0, none⟩) N N, .slice (some ⟨eb, 0, none⟩) js.length js.length] 37)) = Y at *
  generalize w9.heap.size = PB at *
  go_loopw [80] (fun iv wr => ∃ j : Nat, j ≤ l.length ∧ iv = .int .i64 (j : Int) ∧ Below Y.heap.size Y wr) (fun iv _ => l.length - (intOf iv).toNat)
  case atStart => exact ⟨0, Nat.zero_le _, rfl, Below.refl _ _⟩
  case round =>
    obtain ⟨j, hjl, rfl, hbl⟩ := hrel
    have HBL : Hid (Below Y.heap.size Y wr) := hbl
    clear hbl
    by_cases hlt : j < l.length
    · have hj' : (j : Int) < (l.length : Int) := by omega
      have A15 := Within_any wr l j n wl _ _ (by omega) hlt (HV.out.1.below (below_seq GX.out.1 HBL.out)) (HV.out.2.2.2.2.below (below_seq GX.out.1 HBL.out))
      go_wp2_with (go_at_call 15; refine A15.mono ?_; rintro r w10 ⟨vv, za, zb, rfl, hb10, hok⟩; have H10 : Hid (Below Y.heap.size Y w10 ∧ (za = 0 → WiOk l j n wl vv)) := ⟨below_seq HBL.out hb10, hok⟩; clear hb10 hok A15 HBL)
      · exact ⟨⟨j + 1, by omega, by simp, below_seq H10.out.1 (below_new _ _)⟩, by simp [intOf]; omega⟩
      rename_i hza0
      have hza : za = 0 := by simpa using hza0
      have HWH : Hid (∀ (i : Nat) (c : Co), cs[i]? = some c → c.k = (j : Int) → ∃ e, s.ends[i]? = some e ∧ 1 ≤ e ∧ e - c.a ≤ vv ∧ e ≤ 30000 ∧ 0 ≤ c.a ∧ c.a ≤ 20000) := windows_pureI (H10.out.2 hza) EE.out HNc.out HK.out.2.2.1 GX.out.2.2.2
      have HB0 : Hid (Below Y.heap.size Y (w10.alloc (.cells #[.int .i64 za, .int .i64 zb] 29))) := below_seq H10.out.1 (below_new _ _)
      clear H10
      generalize w10.alloc (.cells #[.int .i64 za, .int .i64 zb] 29) = Z at *
      go_loopw [96] (fun iv wr => ∃ q : Nat, q ≤ cs.length ∧ iv = .int .i64 (q : Int) ∧ Below Y.heap.size Y wr) (fun iv _ => cs.length - (intOf iv).toNat)
      case atStart => exact ⟨0, Nat.zero_le _, rfl, HB0.out⟩
      case round =>
        obtain ⟨q, hql, rfl, hbl⟩ := hrel
        by_cases hlq : q < cs.length
        · obtain ⟨x, hx, -⟩ := drop_at hlq
          obtain ⟨ad9, cc9, e9, -, hcap9, hrow9⟩ := HV.out.2.1
          cases e9
          rcases hrow9 with h | ⟨b2, o2, rfl, hrow2⟩
          · rw [h] at hlq; simp at hlq
          obtain ⟨c0, c1⟩ := co_at (fun q u hq => below_cell (below_seq GX.out.1 hbl) (hrow2 q u hq)) hx
          have lb2 : b2 < wr.heap.size := World.block_lt_of_cell? _ _ c0
          have hq' : (q : Int) < (cs.length : Int) := by omega
          have hq3 : (q : Int) < (js.length : Int) := by have := HK.out.2.1; omega
          have HB : Hid (Below Y.heap.size Y wr) := hbl
          by_cases hk : x.k = (j : Int)
          · obtain ⟨e, he, e1, e2, e3, e4, e5⟩ := HWH.out q x hx hk
            have p1 := below_cell hbl ((cells_of (l := [_, _]) GX.out.2.1).1 1 _ rfl)
            have pe := below_cell hbl ((cells_of GX.out.2.2.1).1 q _ (by rw [List.getElem?_map, he]; rfl))
            have lbP : PB < wr.heap.size := World.block_lt_of_cell? _ _ p1
            have lbe : eb < wr.heap.size := World.block_lt_of_cell? _ _ pe
            generalize hxk : x.k = xk at *
            generalize x.a = xa at *
            have hk1 : (xk == (j : Int)) = true := by simp [hk]
            have hk2 : decide (xk = (j : Int)) = true := by simp [hk]
            have w1 : IntKind.i64.wrap (e - xa) = e - xa := by rw [IntKind.wrap_i64]; omega
            have w2 : decide (e < 0) = false := by first | (simp; done) | (simp; omega)
            have w3 : decide (vv < e - xa) = false := by first | (simp; done) | (simp; omega)
            clear hbl hrow2 hx he e1 e2 e3 e4 e5 hk hxk
            go_wp2_with fail
            refine wp_region_noPanic ?_
            refine wp_region_held_drew (S := fun w' => w'.cell? ⟨wr.heap.size, 0, none⟩ = some (.int .i64 xk) ∧ w'.cell? ⟨wr.heap.size, 1, none⟩ = some (.int .i64 xa) ∧ w'.cell? ⟨PB, 1, none⟩ = some (.slice (some ⟨eb, 0, none⟩) js.length js.length) ∧ w'.cell? ⟨eb, q, none⟩ = some (.int .i64 e)) (by kernel_rfl) (by refine ⟨?_, ?_, ?_, ?_⟩ <;> go_simp) (fun hHeld => ?_)
            refine take_at (i := 0) (n := 101) (v := ?_) rfl rfl (by kernel_rfl) (by kernel_rfl) (by kernel_rfl) (fun _ _ _ h => h) (Or.inl ⟨by rfl, ?_⟩) (by assumption) ?_
            rotate_left 1
            · intro wz hSw
              obtain ⟨s1, s2, s3, s4⟩ := hSw
              first | (go_simp; done) | (go_simp; with_reducible rfl)
            simp only [List.set_cons_zero, List.set_cons_succ]
            refine take_at (i := 1) (n := 102) (v := ?_) rfl rfl (by kernel_rfl) (by kernel_rfl) (by kernel_rfl) (fun _ _ _ h => h) (Or.inl ⟨by rfl, ?_⟩) (by assumption) ?_
            rotate_left 1
            · intro wz hSw
              obtain ⟨s1, s2, s3, s4⟩ := hSw
              first | (go_simp; done) | (go_simp; with_reducible rfl)
            simp only [List.set_cons_zero, List.set_cons_succ]
            refine take_at (i := 2) (n := 103) (v := ?_) rfl rfl (by kernel_rfl) (by kernel_rfl) (by kernel_rfl) (fun _ _ _ h => h) (Or.inl ⟨by rfl, ?_⟩) (by assumption) ?_
            rotate_left 1
            · intro wz hSw
              obtain ⟨s1, s2, s3, s4⟩ := hSw
              first | (go_simp; done) | (go_simp; with_reducible rfl)
            simp only [List.set_cons_zero, List.set_cons_succ]
            refine take_at (i := 3) (n := 104) (v := ?_) rfl rfl (by kernel_rfl) (by kernel_rfl) (by kernel_rfl) (fun _ _ _ h => h) (Or.inl ⟨by rfl, ?_⟩) (by assumption) ?_
            rotate_left 1
            · intro wz hSw
              obtain ⟨s1, s2, s3, s4⟩ := hSw
              first | (go_simp; done) | (go_simp; with_reducible rfl)
            simp only [List.set_cons_zero, List.set_cons_succ]
            refine take_at (i := 4) (n := 105) (v := ?_) rfl rfl (by kernel_rfl) (by kernel_rfl) (by kernel_rfl) (fun _ _ _ h => h) (Or.inl ⟨by rfl, ?_⟩) (by assumption) ?_
            rotate_left 1
            · intro wz hSw
              obtain ⟨s1, s2, s3, s4⟩ := hSw
              first | (go_simp; done) | (go_simp; with_reducible rfl)
            simp only [List.set_cons_zero, List.set_cons_succ]
            refine take_at (i := 5) (n := 106) (v := ?_) rfl rfl (by kernel_rfl) (by kernel_rfl) (by kernel_rfl) (fun _ _ _ h => h) (Or.inl ⟨by rfl, ?_⟩) (by assumption) ?_
            rotate_left 1
            · intro wz hSw
              obtain ⟨s1, s2, s3, s4⟩ := hSw
              first | (go_simp; done) | (go_simp; with_reducible rfl)
            simp only [List.set_cons_zero, List.set_cons_succ]
            refine take_at (i := 6) (n := 107) (v := ?_) rfl rfl (by kernel_rfl) (by kernel_rfl) (by kernel_rfl) (fun _ _ _ h => h) (Or.inl ⟨by rfl, ?_⟩) (by assumption) ?_
            rotate_left 1
            · intro wz hSw
              obtain ⟨s1, s2, s3, s4⟩ := hSw
              first | (go_simp; done) | (go_simp; with_reducible rfl)
            simp only [List.set_cons_zero, List.set_cons_succ]
            refine take_at (i := 7) (n := 108) (v := ?_) rfl rfl (by kernel_rfl) (by kernel_rfl) (by kernel_rfl) (fun _ _ _ h => h) (Or.inl ⟨by rfl, ?_⟩) (by assumption) ?_
            rotate_left 1
            · intro wz hSw
              obtain ⟨s1, s2, s3, s4⟩ := hSw
              first | (go_simp; done) | (go_simp; with_reducible rfl)
            simp only [List.set_cons_zero, List.set_cons_succ]
            refine take_at (i := 8) (n := 109) (v := ?_) rfl rfl (by kernel_rfl) (by kernel_rfl) (by kernel_rfl) (fun _ _ _ h => h) (Or.inl ⟨by rfl, ?_⟩) (by assumption) ?_
            rotate_left 1
            · intro wz hSw
              obtain ⟨s1, s2, s3, s4⟩ := hSw
              first | (go_simp; done) | (go_simp; with_reducible rfl)
            simp only [List.set_cons_zero, List.set_cons_succ]
            refine take_at (i := 9) (n := 110) (v := ?_) rfl rfl (by kernel_rfl) (by kernel_rfl) (by kernel_rfl) (fun _ _ _ h => h) (Or.inl ⟨by rfl, ?_⟩) (by assumption) ?_
            rotate_left 1
            · intro wz hSw
              obtain ⟨s1, s2, s3, s4⟩ := hSw
              first | (go_simp; done) | (go_simp; with_reducible rfl)
            simp only [List.set_cons_zero, List.set_cons_succ]
            refine take_at (i := 10) (n := 111) (v := ?_) rfl rfl (by kernel_rfl) (by kernel_rfl) (by kernel_rfl) (fun _ _ _ h => h) (Or.inl ⟨by rfl, ?_⟩) (by assumption) ?_
            rotate_left 1
            · intro wz hSw
              obtain ⟨s1, s2, s3, s4⟩ := hSw
              first | (go_simp; done) | (go_simp; with_reducible rfl)
            simp only [List.set_cons_zero, List.set_cons_succ]
            refine take_at (i := 11) (n := 112) (v := ?_) rfl rfl (by kernel_rfl) (by kernel_rfl) (by kernel_rfl) (fun _ _ _ h => h) (Or.inl ⟨by rfl, ?_⟩) (by assumption) ?_
            rotate_left 1
            · intro wz hSw
              obtain ⟨s1, s2, s3, s4⟩ := hSw
              first | (go_simp; done) | (go_simp; with_reducible rfl)
            simp only [List.set_cons_zero, List.set_cons_succ]
            refine take_at (i := 12) (n := 113) (v := ?_) rfl rfl (by kernel_rfl) (by kernel_rfl) (by kernel_rfl) (fun _ _ _ h => h) (Or.inl ⟨by rfl, ?_⟩) (by assumption) ?_
            rotate_left 1
            · intro wz hSw
              obtain ⟨s1, s2, s3, s4⟩ := hSw
              first | (go_simp; done) | (go_simp; with_reducible rfl)
            simp only [List.set_cons_zero, List.set_cons_succ]
            refine take_at (i := 13) (n := 114) (v := ?_) rfl rfl (by kernel_rfl) (by kernel_rfl) (by kernel_rfl) (fun _ _ _ h => h) (Or.inl ⟨by rfl, ?_⟩) (by assumption) ?_
            rotate_left 1
            · intro wz hSw
              obtain ⟨s1, s2, s3, s4⟩ := hSw
              first | (go_simp; done) | (go_simp; with_reducible rfl)
            simp only [List.set_cons_zero, List.set_cons_succ]
            refine take_at (i := 14) (n := 115) (v := ?_) rfl rfl (by kernel_rfl) (by kernel_rfl) (by kernel_rfl) (fun _ _ _ h => h) (Or.inl ⟨by rfl, ?_⟩) (by assumption) ?_
            rotate_left 1
            · intro wz hSw
              obtain ⟨s1, s2, s3, s4⟩ := hSw
              first | (go_simp; done) | (go_simp; with_reducible rfl)
            simp only [List.set_cons_zero, List.set_cons_succ]
            refine take_at (i := 15) (n := 116) (v := ?_) rfl rfl (by kernel_rfl) (by kernel_rfl) (by kernel_rfl) (fun _ _ _ h => h) (Or.inl ⟨by rfl, ?_⟩) (by assumption) ?_
            rotate_left 1
            · intro wz hSw
              obtain ⟨s1, s2, s3, s4⟩ := hSw
              first | (go_simp; done) | (go_simp; with_reducible rfl)
            simp only [List.set_cons_zero, List.set_cons_succ]
            refine take_at (i := 16) (n := 117) (v := ?_) rfl rfl (by kernel_rfl) (by kernel_rfl) (by kernel_rfl) (fun _ _ _ h => h) (Or.inl ⟨by rfl, ?_⟩) (by assumption) ?_
            rotate_left 1
            · intro wz hSw
              obtain ⟨s1, s2, s3, s4⟩ := hSw
              first | (go_simp; done) | (go_simp; with_reducible rfl)
            simp only [List.set_cons_zero, List.set_cons_succ]
            refine take_at (i := 17) (n := 118) (v := ?_) rfl rfl (by kernel_rfl) (by kernel_rfl) (by kernel_rfl) (fun _ _ _ h => h) (Or.inl ⟨by rfl, ?_⟩) (by assumption) ?_
            rotate_left 1
            · intro wz hSw
              obtain ⟨s1, s2, s3, s4⟩ := hSw
              first | (go_simp; done) | (go_simp; with_reducible rfl)
            simp only [List.set_cons_zero, List.set_cons_succ]
            refine take_at (i := 18) (n := 119) (v := ?_) rfl rfl (by kernel_rfl) (by kernel_rfl) (by kernel_rfl) (fun _ _ _ h => h) (Or.inl ⟨by rfl, ?_⟩) (by assumption) ?_
            rotate_left 1
            · intro wz hSw
              obtain ⟨s1, s2, s3, s4⟩ := hSw
              first | (go_simp; done) | (go_simp; with_reducible rfl)
            simp only [List.set_cons_zero, List.set_cons_succ]
            refine take_at (i := 19) (n := 120) (v := ?_) rfl rfl (by kernel_rfl) (by kernel_rfl) (by kernel_rfl) (fun _ _ _ h => h) (Or.inl ⟨by rfl, ?_⟩) (by assumption) ?_
            rotate_left 1
            · intro wz hSw
              obtain ⟨s1, s2, s3, s4⟩ := hSw
              first | (go_simp; done) | (go_simp; with_reducible rfl)
            simp only [List.set_cons_zero, List.set_cons_succ]
            refine take_at (i := 20) (n := 121) (v := ?_) rfl rfl (by kernel_rfl) (by kernel_rfl) (by kernel_rfl) (fun _ _ _ h => h) (Or.inl ⟨by rfl, ?_⟩) (by assumption) ?_
            rotate_left 1
            · intro wz hSw
              obtain ⟨s1, s2, s3, s4⟩ := hSw
              first | (go_simp; done) | (go_simp; with_reducible rfl)
            simp only [List.set_cons_zero, List.set_cons_succ]
            refine take_at (i := 21) (n := 122) (v := ?_) rfl rfl (by kernel_rfl) (by kernel_rfl) (by kernel_rfl) (fun _ _ _ h => h) (Or.inl ⟨by rfl, ?_⟩) (by assumption) ?_
            rotate_left 1
            · intro wz hSw
              obtain ⟨s1, s2, s3, s4⟩ := hSw
              first | (go_simp; done) | (go_simp; with_reducible rfl)
            simp only [List.set_cons_zero, List.set_cons_succ]
            refine take_at (i := 22) (n := 123) (v := ?_) rfl rfl (by kernel_rfl) (by kernel_rfl) (by kernel_rfl) (fun _ _ _ h => h) (Or.inl ⟨by rfl, ?_⟩) (by assumption) ?_
            rotate_left 1
            · intro wz hSw
              obtain ⟨s1, s2, s3, s4⟩ := hSw
              first | (go_simp; done) | (go_simp; with_reducible rfl)
            simp only [List.set_cons_zero, List.set_cons_succ]
            refine take_at (i := 23) (n := 124) (v := ?_) rfl rfl (by kernel_rfl) (by kernel_rfl) (by kernel_rfl) (fun _ _ _ h => h) (Or.inl ⟨by rfl, ?_⟩) (by assumption) ?_
            rotate_left 1
            · intro wz hSw
              obtain ⟨s1, s2, s3, s4⟩ := hSw
              first | (go_simp; done) | (go_simp; with_reducible rfl)
            simp only [List.set_cons_zero, List.set_cons_succ]
            refine wpAnyH_done (by kernel_rfl) ?_ _
            refine NoPanic.normal ?_
            clear hHeld
            go_wp2_with fail
            exact ⟨⟨q + 1, by omega, by simp, (below_seq HB.out (below_new _ _)).drew⟩, by simp [intOf]; omega⟩
          · generalize x.k = xk at *
            generalize x.a = xa at *
            have hk1 : (xk == (j : Int)) = false := by simp [hk]
            have hk2 : decide (xk = (j : Int)) = false := by simp [hk]
            clear hbl hrow2 hx
            go_wp2_with fail
            refine wp_region_noPanic ?_
            refine wp_region_held_drew (S := fun w' => w'.cell? ⟨wr.heap.size, 0, none⟩ = some (.int .i64 xk) ∧ w'.cell? ⟨wr.heap.size, 1, none⟩ = some (.int .i64 xa)) (by kernel_rfl) (by refine ⟨?_, ?_⟩ <;> go_simp) (fun hHeld => ?_)
            refine take_at (i := 0) (n := 101) (v := ?_) rfl rfl (by kernel_rfl) (by kernel_rfl) (by kernel_rfl) (fun _ _ _ h => h) (Or.inl ⟨by rfl, ?_⟩) (by assumption) ?_
            rotate_left 1
            · intro wz hSw
              obtain ⟨s1, s2⟩ := hSw
              first | (go_simp; done) | (go_simp; with_reducible rfl)
            simp only [List.set_cons_zero, List.set_cons_succ]
            refine take_at (i := 1) (n := 102) (v := ?_) rfl rfl (by kernel_rfl) (by kernel_rfl) (by kernel_rfl) (fun _ _ _ h => h) (Or.inl ⟨by rfl, ?_⟩) (by assumption) ?_
            rotate_left 1
            · intro wz hSw
              obtain ⟨s1, s2⟩ := hSw
              first | (go_simp; done) | (go_simp; with_reducible rfl)
            simp only [List.set_cons_zero, List.set_cons_succ]
            refine take_at (i := 2) (n := 103) (v := ?_) rfl rfl (by kernel_rfl) (by kernel_rfl) (by kernel_rfl) (fun _ _ _ h => h) (Or.inl ⟨by rfl, ?_⟩) (by assumption) ?_
            rotate_left 1
            · intro wz hSw
              obtain ⟨s1, s2⟩ := hSw
              first | (go_simp; done) | (go_simp; with_reducible rfl)
            simp only [List.set_cons_zero, List.set_cons_succ]
            refine take_at (i := 3) (n := 104) (v := ?_) rfl rfl (by kernel_rfl) (by kernel_rfl) (by kernel_rfl) (fun _ _ _ h => h) (Or.inl ⟨by rfl, ?_⟩) (by assumption) ?_
            rotate_left 1
            · intro wz hSw
              obtain ⟨s1, s2⟩ := hSw
              first | (go_simp; done) | (go_simp; with_reducible rfl)
            simp only [List.set_cons_zero, List.set_cons_succ]
            refine take_at (i := 4) (n := 105) (v := ?_) rfl rfl (by kernel_rfl) (by kernel_rfl) (by kernel_rfl) (fun _ _ _ h => h) (Or.inl ⟨by rfl, ?_⟩) (by assumption) ?_
            rotate_left 1
            · intro wz hSw
              obtain ⟨s1, s2⟩ := hSw
              first | (go_simp; done) | (go_simp; with_reducible rfl)
            simp only [List.set_cons_zero, List.set_cons_succ]
            refine take_at (i := 5) (n := 106) (v := undef) rfl rfl (by kernel_rfl) (by kernel_rfl) (by kernel_rfl) (fun _ _ _ h => h) (Or.inr ⟨by rfl, rfl⟩) (by assumption) ?_
            simp only [List.set_cons_zero, List.set_cons_succ]
            refine take_at (i := 6) (n := 107) (v := undef) rfl rfl (by kernel_rfl) (by kernel_rfl) (by kernel_rfl) (fun _ _ _ h => h) (Or.inr ⟨by rfl, rfl⟩) (by assumption) ?_
            simp only [List.set_cons_zero, List.set_cons_succ]
            refine take_at (i := 7) (n := 108) (v := undef) rfl rfl (by kernel_rfl) (by kernel_rfl) (by kernel_rfl) (fun _ _ _ h => h) (Or.inr ⟨by rfl, rfl⟩) (by assumption) ?_
            simp only [List.set_cons_zero, List.set_cons_succ]
            refine take_at (i := 8) (n := 109) (v := undef) rfl rfl (by kernel_rfl) (by kernel_rfl) (by kernel_rfl) (fun _ _ _ h => h) (Or.inr ⟨by rfl, rfl⟩) (by assumption) ?_
            simp only [List.set_cons_zero, List.set_cons_succ]
            refine take_at (i := 9) (n := 110) (v := undef) rfl rfl (by kernel_rfl) (by kernel_rfl) (by kernel_rfl) (fun _ _ _ h => h) (Or.inr ⟨by rfl, rfl⟩) (by assumption) ?_
            simp only [List.set_cons_zero, List.set_cons_succ]
            refine take_at (i := 10) (n := 111) (v := undef) rfl rfl (by kernel_rfl) (by kernel_rfl) (by kernel_rfl) (fun _ _ _ h => h) (Or.inr ⟨by rfl, rfl⟩) (by assumption) ?_
            simp only [List.set_cons_zero, List.set_cons_succ]
            refine take_at (i := 11) (n := 112) (v := undef) rfl rfl (by kernel_rfl) (by kernel_rfl) (by kernel_rfl) (fun _ _ _ h => h) (Or.inr ⟨by rfl, rfl⟩) (by assumption) ?_
            simp only [List.set_cons_zero, List.set_cons_succ]
            refine take_at (i := 12) (n := 113) (v := undef) rfl rfl (by kernel_rfl) (by kernel_rfl) (by kernel_rfl) (fun _ _ _ h => h) (Or.inr ⟨by rfl, rfl⟩) (by assumption) ?_
            simp only [List.set_cons_zero, List.set_cons_succ]
            refine take_at (i := 13) (n := 114) (v := undef) rfl rfl (by kernel_rfl) (by kernel_rfl) (by kernel_rfl) (fun _ _ _ h => h) (Or.inr ⟨by rfl, rfl⟩) (by assumption) ?_
            simp only [List.set_cons_zero, List.set_cons_succ]
            refine take_at (i := 14) (n := 115) (v := undef) rfl rfl (by kernel_rfl) (by kernel_rfl) (by kernel_rfl) (fun _ _ _ h => h) (Or.inr ⟨by rfl, rfl⟩) (by assumption) ?_
            simp only [List.set_cons_zero, List.set_cons_succ]
            refine take_at (i := 15) (n := 116) (v := undef) rfl rfl (by kernel_rfl) (by kernel_rfl) (by kernel_rfl) (fun _ _ _ h => h) (Or.inr ⟨by rfl, rfl⟩) (by assumption) ?_
            simp only [List.set_cons_zero, List.set_cons_succ]
            refine take_at (i := 16) (n := 117) (v := undef) rfl rfl (by kernel_rfl) (by kernel_rfl) (by kernel_rfl) (fun _ _ _ h => h) (Or.inr ⟨by rfl, rfl⟩) (by assumption) ?_
            simp only [List.set_cons_zero, List.set_cons_succ]
            refine take_at (i := 17) (n := 118) (v := undef) rfl rfl (by kernel_rfl) (by kernel_rfl) (by kernel_rfl) (fun _ _ _ h => h) (Or.inr ⟨by rfl, rfl⟩) (by assumption) ?_
            simp only [List.set_cons_zero, List.set_cons_succ]
            refine take_at (i := 18) (n := 119) (v := undef) rfl rfl (by kernel_rfl) (by kernel_rfl) (by kernel_rfl) (fun _ _ _ h => h) (Or.inr ⟨by rfl, rfl⟩) (by assumption) ?_
            simp only [List.set_cons_zero, List.set_cons_succ]
            refine take_at (i := 19) (n := 120) (v := undef) rfl rfl (by kernel_rfl) (by kernel_rfl) (by kernel_rfl) (fun _ _ _ h => h) (Or.inr ⟨by rfl, rfl⟩) (by assumption) ?_
            simp only [List.set_cons_zero, List.set_cons_succ]
            refine take_at (i := 20) (n := 121) (v := undef) rfl rfl (by kernel_rfl) (by kernel_rfl) (by kernel_rfl) (fun _ _ _ h => h) (Or.inr ⟨by rfl, rfl⟩) (by assumption) ?_
            simp only [List.set_cons_zero, List.set_cons_succ]
            refine take_at (i := 21) (n := 122) (v := undef) rfl rfl (by kernel_rfl) (by kernel_rfl) (by kernel_rfl) (fun _ _ _ h => h) (Or.inr ⟨by rfl, rfl⟩) (by assumption) ?_
            simp only [List.set_cons_zero, List.set_cons_succ]
            refine take_at (i := 22) (n := 123) (v := undef) rfl rfl (by kernel_rfl) (by kernel_rfl) (by kernel_rfl) (fun _ _ _ h => h) (Or.inr ⟨by rfl, rfl⟩) (by assumption) ?_
            simp only [List.set_cons_zero, List.set_cons_succ]
            refine take_at (i := 23) (n := 124) (v := ?_) rfl rfl (by kernel_rfl) (by kernel_rfl) (by kernel_rfl) (fun _ _ _ h => h) (Or.inl ⟨by rfl, ?_⟩) (by assumption) ?_
            rotate_left 1
            · intro wz hSw
              obtain ⟨s1, s2⟩ := hSw
              first | (go_simp; done) | (go_simp; with_reducible rfl)
            simp only [List.set_cons_zero, List.set_cons_succ]
            refine wpAnyH_done (by kernel_rfl) ?_ _
            refine NoPanic.normal ?_
            clear hHeld
            go_wp2_with fail
            exact ⟨⟨q + 1, by omega, by simp, (below_seq HB.out (below_new _ _)).drew⟩, by simp [intOf]; omega⟩
        · have hqe : q = cs.length := by omega
          subst hqe
          have HB : Hid (Below Y.heap.size Y wr) := hbl
          clear hbl
          go_wp2_with fail
          exact ⟨⟨j + 1, by omega, by simp, HB.out⟩, by simp [intOf]; omega⟩
    · have hje : j = l.length := by omega
      subst hje
      go_wp2_with fail
      go_ret
      exact ⟨rfl, below_seq GX.out.1 HBL.out⟩
end Go.Proofs.Ytkafihaajpifoai
namespace Go.Proofs.Ytkafihaajpifoai
open Go.ChangeShapes Go.WideShapes Go.ChangeAt Go.RowKit

theorem cellsCo : Try.prog.cellsOf 33 = 2 := by kernel_rfl
theorem cellsWi : Try.prog.cellsOf 63 = 2 := by kernel_rfl

section
variable {H : Type} {enc : TypeId × Value → H} {w : World} {sp : Nat → Bool} {held : Bool}

/-- A coming that can be read. -/
theorem co_one {n : Nat} {cs : List Value} {y : DataW H × List MemPlace} (hl : cs.length = 2) (h : DataW.trod enc Try.prog w 0 sp held n 33 cs = some y) : ∃ x : Co, cs = x.vals ∧ y.1 = .agg [.lit (.int .i64 x.k), .lit (.int .i64 x.a)] := by
  match cs, hl with
  | [c0, c1], _ =>
    obtain ⟨xs, n1, rfl, hy, -, hlen, hf⟩ := DataW.trod_struct Try.underlying33 h
    match xs, hlen with
    | [y0, y1], _ =>
      have f0 : DataW.trod enc Try.prog w 0 sp held n1 3 ((([c0, c1] : List Value).drop 0).take (Try.prog.cellsOf 3)) = some y0 := hf 0 _ rfl
      have f1 : DataW.trod enc Try.prog w 0 sp held n1 3 ((([c0, c1] : List Value).drop 1).take (Try.prog.cellsOf 3)) = some y1 := hf 1 _ rfl
      rw [cells3] at f0 f1
      obtain ⟨k0, e0, g0, -⟩ := DataW.trod_int Try.underlying3 (show DataW.trod enc Try.prog w 0 sp held n1 3 [c0] = some y0 from f0)
      obtain ⟨k1, e1, g1, -⟩ := DataW.trod_int Try.underlying3 (show DataW.trod enc Try.prog w 0 sp held n1 3 [c1] = some y1 from f1)
      simp only [List.cons.injEq, and_true] at e0 e1
      refine ⟨⟨k0, k1⟩, by rw [e0, e1]; rfl, ?_⟩
      rw [hy, g0, g1]
      rfl

theorem co_row {n : Nat} (g : Nat) : ∀ (elems : List (DataW H × List MemPlace)) (o : Nat),
    (∀ i, i < elems.length → (w.cells? 0 ⟨g, o + i * 2, none⟩ 2).bind (DataW.trod enc Try.prog w 0 sp held n 33) = elems[i]?) →
    ∃ l : List Co, l.length = elems.length ∧ ∀ q u, (l.flatMap Co.vals)[q]? = some u → w.cell? ⟨g, o + q, none⟩ = some u
  | [], o, _ => ⟨[], rfl, fun q u hq => by simp at hq⟩
  | y :: r, o, h => by
    have h0 := h 0 (by simp)
    simp only [Nat.zero_mul, Nat.add_zero, List.getElem?_cons_zero] at h0
    obtain ⟨cs, hc, ht⟩ := Option.bind_eq_some_iff.1 h0
    obtain ⟨hlen, hcell⟩ := cells_at hc
    obtain ⟨x, rfl, -⟩ := co_one hlen ht
    obtain ⟨l, hl, hrow⟩ := co_row g r (o + 2) (fun i hi => by
      have := h (i + 1) (by simp; omega)
      rw [show o + (i + 1) * 2 = o + 2 + i * 2 by omega] at this
      simpa using this)
    refine ⟨x :: l, by simp [hl], fun q u hq => ?_⟩
    · rw [List.flatMap_cons] at hq
      by_cases h7 : q < 2
      · rw [List.getElem?_append_left (by rw [Co.len]; exact h7)] at hq
        rw [hcell q h7]
        exact hq
      · rw [List.getElem?_append_right (by rw [Co.len]; omega), Co.len] at hq
        have := hrow (q - 2) u hq
        rw [show o + 2 + (q - 2) = o + q by omega] at this
        exact this

/-- A slice of comings that can be read. -/
theorem coSl_of_trod {ad : Option Addr} {n c : Nat} {d : DataW H} {ps : List MemPlace} (h : DataW.Trod enc Try.prog w 0 sp held 23 (.slice ad n c) d ps) : ∃ l : List Co, n = l.length ∧ RowSl Co.vals w l (.slice ad n c) := by
  obtain ⟨q, hq⟩ := h
  have hcs : (Value.slice ad n c).cells.toList = [.slice ad n c] := rfl
  rw [hcs] at hq
  rcases DataW.trod_slice Try.underlying23 hq with ⟨h1, -⟩ | ⟨a, len, cap, elems, rest, n2, -, h1, -, -, hlc, -, hle, hel, -, -⟩
  · simp only [List.cons.injEq, and_true, Value.slice.injEq] at h1
    obtain ⟨rfl, rfl, rfl⟩ := h1
    exact ⟨[], rfl, RowSl.nil _ _⟩
  · simp only [List.cons.injEq, and_true, Value.slice.injEq] at h1
    obtain ⟨rfl, rfl, rfl⟩ := h1
    subst hle
    simp only [cellsCo] at hel
    cases elems with
    | nil => exact ⟨[], rfl, ⟨_, _, rfl, (fun e => by cases e), Nat.zero_le _, .inl rfl⟩⟩
    | cons z r =>
      have hz := hel 0 (by simp)
      obtain ⟨cs0, hc0, ht0⟩ := Option.bind_eq_some_iff.1 hz
      obtain ⟨-, hlen0, hpl⟩ := World.cells?_some hc0
      obtain ⟨x, rfl, -⟩ := co_one hlen0 (by simpa using ht0)
      have hpa := plain_addr (w := w) (a := a) (v := .int .i64 x.k) (by simpa [Addr.add, Co.vals] using hpl 0 (by omega))
      obtain ⟨l, hl, hrow⟩ := co_row (n := n2) a.block (z :: r) a.off (fun i hi => by
        have := hel i hi
        rw [hpa, add_plain'] at this
        exact this)
      exact ⟨l, hl.symm, ⟨some a, c, by rw [hl], (fun e => by cases e), by omega, .inr ⟨a.block, a.off, by rw [← hpa], hrow⟩⟩⟩

/-- A window that can be read. -/
theorem wi_one {n : Nat} {cs : List Value} {y : DataW H × List MemPlace} (hl : cs.length = 2) (h : DataW.trod enc Try.prog w 0 sp held n 63 cs = some y) : ∃ x : Wi, cs = x.vals ∧ y.1 = .agg [.lit (.int .i64 x.at_), .lit (.int .i64 x.ln)] := by
  match cs, hl with
  | [c0, c1], _ =>
    obtain ⟨xs, n1, rfl, hy, -, hlen, hf⟩ := DataW.trod_struct Try.underlying63 h
    match xs, hlen with
    | [y0, y1], _ =>
      have f0 : DataW.trod enc Try.prog w 0 sp held n1 3 ((([c0, c1] : List Value).drop 0).take (Try.prog.cellsOf 3)) = some y0 := hf 0 _ rfl
      have f1 : DataW.trod enc Try.prog w 0 sp held n1 3 ((([c0, c1] : List Value).drop 1).take (Try.prog.cellsOf 3)) = some y1 := hf 1 _ rfl
      rw [cells3] at f0 f1
      obtain ⟨k0, e0, g0, -⟩ := DataW.trod_int Try.underlying3 (show DataW.trod enc Try.prog w 0 sp held n1 3 [c0] = some y0 from f0)
      obtain ⟨k1, e1, g1, -⟩ := DataW.trod_int Try.underlying3 (show DataW.trod enc Try.prog w 0 sp held n1 3 [c1] = some y1 from f1)
      simp only [List.cons.injEq, and_true] at e0 e1
      refine ⟨⟨k0, k1⟩, by rw [e0, e1]; rfl, ?_⟩
      rw [hy, g0, g1]
      rfl

theorem wi_row {n : Nat} (g : Nat) : ∀ (elems : List (DataW H × List MemPlace)) (o : Nat),
    (∀ i, i < elems.length → (w.cells? 0 ⟨g, o + i * 2, none⟩ 2).bind (DataW.trod enc Try.prog w 0 sp held n 63) = elems[i]?) →
    ∃ l : List Wi, l.length = elems.length ∧ ∀ q u, (l.flatMap Wi.vals)[q]? = some u → w.cell? ⟨g, o + q, none⟩ = some u
  | [], o, _ => ⟨[], rfl, fun q u hq => by simp at hq⟩
  | y :: r, o, h => by
    have h0 := h 0 (by simp)
    simp only [Nat.zero_mul, Nat.add_zero, List.getElem?_cons_zero] at h0
    obtain ⟨cs, hc, ht⟩ := Option.bind_eq_some_iff.1 h0
    obtain ⟨hlen, hcell⟩ := cells_at hc
    obtain ⟨x, rfl, -⟩ := wi_one hlen ht
    obtain ⟨l, hl, hrow⟩ := wi_row g r (o + 2) (fun i hi => by
      have := h (i + 1) (by simp; omega)
      rw [show o + (i + 1) * 2 = o + 2 + i * 2 by omega] at this
      simpa using this)
    refine ⟨x :: l, by simp [hl], fun q u hq => ?_⟩
    · rw [List.flatMap_cons] at hq
      by_cases h7 : q < 2
      · rw [List.getElem?_append_left (by rw [Wi.len]; exact h7)] at hq
        rw [hcell q h7]
        exact hq
      · rw [List.getElem?_append_right (by rw [Wi.len]; omega), Wi.len] at hq
        have := hrow (q - 2) u hq
        rw [show o + 2 + (q - 2) = o + q by omega] at this
        exact this

/-- A slice of windows that can be read. -/
theorem wiSl_of_trod {ad : Option Addr} {n c : Nat} {d : DataW H} {ps : List MemPlace} (h : DataW.Trod enc Try.prog w 0 sp held 44 (.slice ad n c) d ps) : ∃ l : List Wi, n = l.length ∧ RowSl Wi.vals w l (.slice ad n c) := by
  obtain ⟨q, hq⟩ := h
  have hcs : (Value.slice ad n c).cells.toList = [.slice ad n c] := rfl
  rw [hcs] at hq
  rcases DataW.trod_slice Try.underlying44 hq with ⟨h1, -⟩ | ⟨a, len, cap, elems, rest, n2, -, h1, -, -, hlc, -, hle, hel, -, -⟩
  · simp only [List.cons.injEq, and_true, Value.slice.injEq] at h1
    obtain ⟨rfl, rfl, rfl⟩ := h1
    exact ⟨[], rfl, RowSl.nil _ _⟩
  · simp only [List.cons.injEq, and_true, Value.slice.injEq] at h1
    obtain ⟨rfl, rfl, rfl⟩ := h1
    subst hle
    simp only [cellsWi] at hel
    cases elems with
    | nil => exact ⟨[], rfl, ⟨_, _, rfl, (fun e => by cases e), Nat.zero_le _, .inl rfl⟩⟩
    | cons z r =>
      have hz := hel 0 (by simp)
      obtain ⟨cs0, hc0, ht0⟩ := Option.bind_eq_some_iff.1 hz
      obtain ⟨-, hlen0, hpl⟩ := World.cells?_some hc0
      obtain ⟨x, rfl, -⟩ := wi_one hlen0 (by simpa using ht0)
      have hpa := plain_addr (w := w) (a := a) (v := .int .i64 x.at_) (by simpa [Addr.add, Wi.vals] using hpl 0 (by omega))
      obtain ⟨l, hl, hrow⟩ := wi_row (n := n2) a.block (z :: r) a.off (fun i hi => by
        have := hel i hi
        rw [hpa, add_plain'] at this
        exact this)
      exact ⟨l, hl.symm, ⟨some a, c, by rw [hl], (fun e => by cases e), by omega, .inr ⟨a.block, a.off, by rw [← hpa], hrow⟩⟩⟩

/-- A number that can be read. -/
theorem nu_one {n : Nat} {cs : List Value} {y : DataW H × List MemPlace} (h : DataW.trod enc Try.prog w 0 sp held n 3 cs = some y) : ∃ x : Int, cs = nuV x := by
  obtain ⟨k0, e0, -, -⟩ := DataW.trod_int Try.underlying3 h
  exact ⟨k0, e0⟩

theorem nu_row {n : Nat} (g : Nat) : ∀ (elems : List (DataW H × List MemPlace)) (o : Nat),
    (∀ i, i < elems.length → (w.cells? 0 ⟨g, o + i * 1, none⟩ 1).bind (DataW.trod enc Try.prog w 0 sp held n 3) = elems[i]?) →
    ∃ l : List Int, l.length = elems.length ∧ ∀ q u, (l.flatMap nuV)[q]? = some u → w.cell? ⟨g, o + q, none⟩ = some u
  | [], o, _ => ⟨[], rfl, fun q u hq => by simp at hq⟩
  | y :: r, o, h => by
    have h0 := h 0 (by simp)
    simp only [Nat.zero_mul, Nat.add_zero, List.getElem?_cons_zero] at h0
    obtain ⟨cs, hc, ht⟩ := Option.bind_eq_some_iff.1 h0
    obtain ⟨hlen, hcell⟩ := cells_at hc
    obtain ⟨x, rfl⟩ := nu_one ht
    obtain ⟨l, hl, hrow⟩ := nu_row g r (o + 1) (fun i hi => by
      have := h (i + 1) (by simp; omega)
      rw [show o + (i + 1) * 1 = o + 1 + i * 1 by omega] at this
      simpa using this)
    refine ⟨x :: l, by simp [hl], fun q u hq => ?_⟩
    · rw [List.flatMap_cons] at hq
      by_cases h7 : q < 1
      · rw [List.getElem?_append_left (by rw [nuV_len]; exact h7)] at hq
        rw [hcell q h7]
        exact hq
      · rw [List.getElem?_append_right (by rw [nuV_len]; omega), nuV_len] at hq
        have := hrow (q - 1) u hq
        rw [show o + 1 + (q - 1) = o + q by omega] at this
        exact this

/-- A slice of numbers that can be read. -/
theorem nuSl_of_trod {ad : Option Addr} {n c : Nat} {d : DataW H} {ps : List MemPlace} (h : DataW.Trod enc Try.prog w 0 sp held 24 (.slice ad n c) d ps) : ∃ l : List Int, n = l.length ∧ RowSl nuV w l (.slice ad n c) := by
  obtain ⟨q, hq⟩ := h
  have hcs : (Value.slice ad n c).cells.toList = [.slice ad n c] := rfl
  rw [hcs] at hq
  rcases DataW.trod_slice Try.underlying24 hq with ⟨h1, -⟩ | ⟨a, len, cap, elems, rest, n2, -, h1, -, -, hlc, -, hle, hel, -, -⟩
  · simp only [List.cons.injEq, and_true, Value.slice.injEq] at h1
    obtain ⟨rfl, rfl, rfl⟩ := h1
    exact ⟨[], rfl, RowSl.nil _ _⟩
  · simp only [List.cons.injEq, and_true, Value.slice.injEq] at h1
    obtain ⟨rfl, rfl, rfl⟩ := h1
    subst hle
    simp only [cells3] at hel
    cases elems with
    | nil => exact ⟨[], rfl, ⟨_, _, rfl, (fun e => by cases e), Nat.zero_le _, .inl rfl⟩⟩
    | cons z r =>
      have hz := hel 0 (by simp)
      obtain ⟨cs0, hc0, ht0⟩ := Option.bind_eq_some_iff.1 hz
      obtain ⟨-, hlen0, hpl⟩ := World.cells?_some hc0
      obtain ⟨x, rfl⟩ := nu_one (by simpa using ht0)
      have hpa := plain_addr (w := w) (a := a) (v := .int .i64 x) (by simpa [Addr.add, nuV] using hpl 0 (by omega))
      obtain ⟨l, hl, hrow⟩ := nu_row (n := n2) a.block (z :: r) a.off (fun i hi => by
        have := hel i hi
        rw [hpa, add_plain'] at this
        exact this)
      exact ⟨l, hl.symm, ⟨some a, c, by rw [hl], (fun e => by cases e), by omega, .inr ⟨a.block, a.off, by rw [← hpa], hrow⟩⟩⟩
end

theorem own : ownKnob Try.prog.godebug = none := by kernel_rfl
theorem laidOut : laidOutB Try.prog = true := by kernel_rfl
theorem reads3 : Try.prog.readableRec 3 = true := by kernel_rfl
theorem lt3 : 3 < Try.prog.types.size := of_decide_eq_true (by kernel_rfl)
theorem reads23 : Try.prog.readableRec 23 = true := by kernel_rfl
theorem lt23 : 23 < Try.prog.types.size := of_decide_eq_true (by kernel_rfl)
theorem reads24 : Try.prog.readableRec 24 = true := by kernel_rfl
theorem lt24 : 24 < Try.prog.types.size := of_decide_eq_true (by kernel_rfl)
theorem reads43 : Try.prog.readableRec 43 = true := by kernel_rfl
theorem lt43 : 43 < Try.prog.types.size := of_decide_eq_true (by kernel_rfl)
theorem reads44 : Try.prog.readableRec 44 = true := by kernel_rfl
theorem lt44 : 44 < Try.prog.types.size := of_decide_eq_true (by kernel_rfl)

set_option maxRecDepth 20000 in
theorem contractK (H : Type) (enc : TypeId × Value → H) (W : World) (base : Nat) (args : Array Value) (ds gs : List (DataW H)) (before : List MemPlace)
    (hval : ∀ (j : Nat) t v, Try.f4.params[j]? = some t → args[j]? = some v → Value.okWide Try.prog W .any base t v)
    (hW : DataW.Whole enc Try.prog Try.f4.params.toList Rows.windowsKeepSpec.vars false W args.toList ds gs before) :
    Calls Try.prog 4 args W fun e W' => ∃ v, e = .returned v ∧ Rows.windowsKeepSpec.post enc Try.prog Try.f4 false true false false W args v W' := by
  have hW' := hW
  obtain ⟨p, q, hA0, hV, rfl, hfz, hnd⟩ := hW
  have hA : DataW.TrodAll enc Try.prog W 0 (fun _ => true) true Try.f4.params.toList args.toList ds p := hA0
  rw [Try.params4] at hA hval
  obtain ⟨v0, vs0, d0, ds0, p0, q0, hargs0, rfl, rfl, h0, r0⟩ := trodAll_cons hA
  obtain ⟨v1, vs1, d1, ds1, p1, q1, hargs1, rfl, rfl, h1, r1⟩ := trodAll_cons r0
  obtain ⟨v2, vs2, d2, ds2, p2, q2, hargs2, rfl, rfl, h2, r2⟩ := trodAll_cons r1
  obtain ⟨v3, vs3, d3, ds3, p3, q3, hargs3, rfl, rfl, h3, r3⟩ := trodAll_cons r2
  obtain ⟨v4, vs4, d4, ds4, p4, q4, hargs4, rfl, rfl, h4, r4⟩ := trodAll_cons r3
  obtain ⟨v5, vs5, d5, ds5, p5, q5, hargs5, rfl, rfl, h5, r5⟩ := trodAll_cons r4
  obtain ⟨rfl, rfl, rfl⟩ := trodAll_nil r5
  obtain rfl : args = #[v0, v1, v2, v3, v4, v5] := Array.toList_inj.1 (by rw [hargs0, hargs1, hargs2, hargs3, hargs4, hargs5])
  obtain ⟨rfl, rfl⟩ := trodVars_none hV
  obtain ⟨ad0, len0, cap0, rfl⟩ := okWide_slice Try.underlying43 (hval 0 43 v0 (by simp) (by simp))
  obtain ⟨n1, rfl⟩ := okWide_int Try.underlying3 (hval 1 3 v1 (by simp) (by simp))
  obtain ⟨ad2, len2, cap2, rfl⟩ := okWide_slice Try.underlying44 (hval 2 44 v2 (by simp) (by simp))
  obtain ⟨ad3, len3, cap3, rfl⟩ := okWide_slice Try.underlying23 (hval 3 23 v3 (by simp) (by simp))
  obtain ⟨ad4, len4, cap4, rfl⟩ := okWide_slice Try.underlying24 (hval 4 24 v4 (by simp) (by simp))
  obtain ⟨ad5, len5, cap5, rfl⟩ := okWide_slice Try.underlying24 (hval 5 24 v5 (by simp) (by simp))
  clear hA0 hargs0 hargs1 hargs2 hargs3 hargs4 hargs5
  simp only [List.append_nil] at hW'
  obtain ⟨l, rfl, -, hsl⟩ := taSl_of_trod h0
  obtain ⟨wl, rfl, hwl⟩ := wiSl_of_trod h2
  obtain ⟨cs, rfl, hcs⟩ := coSl_of_trod h3
  obtain ⟨la, rfl, hla⟩ := nuSl_of_trod h4
  obtain ⟨tk, rfl, htk⟩ := nuSl_of_trod h5
  refine (windows_walk W l n1 wl cs la tk _ _ _ _ _ hsl hwl hcs hla htk).mono fun e W' ⟨he, hbel⟩ => ?_
  subst he
  have hlt0 : ∀ x ∈ p0, x.block < W.heap.size := fun x hx => by
    obtain ⟨n, hn⟩ := h0
    exact DataW.trod_lt n _ _ _ hn x hx
  have hlt1 : ∀ x ∈ p1, x.block < W.heap.size := fun x hx => by
    obtain ⟨n, hn⟩ := h1
    exact DataW.trod_lt n _ _ _ hn x hx
  have hlt2 : ∀ x ∈ p2, x.block < W.heap.size := fun x hx => by
    obtain ⟨n, hn⟩ := h2
    exact DataW.trod_lt n _ _ _ hn x hx
  have hlt3 : ∀ x ∈ p3, x.block < W.heap.size := fun x hx => by
    obtain ⟨n, hn⟩ := h3
    exact DataW.trod_lt n _ _ _ hn x hx
  have hlt4 : ∀ x ∈ p4, x.block < W.heap.size := fun x hx => by
    obtain ⟨n, hn⟩ := h4
    exact DataW.trod_lt n _ _ _ hn x hx
  have hlt5 : ∀ x ∈ p5, x.block < W.heap.size := fun x hx => by
    obtain ⟨n, hn⟩ := h5
    exact DataW.trod_lt n _ _ _ hn x hx
  refine ⟨_, rfl, [d0, d1, d2, d3, d4, d5], [], p0 ++ (p1 ++ (p2 ++ (p3 ++ (p4 ++ p5)))), [], p0 ++ (p1 ++ (p2 ++ (p3 ++ (p4 ++ p5)))), [], hW', trodAll_mk1 (shut_bool Try.underlying4 _), ?_, rfl, hbel.frame _, fun h => by cases h⟩
  have s0 := WideElems.Trod_stays (W' := W') (sp' := fun b => decide (b < W.heap.size)) laidOut reads43 lt43 h0 (fun x hx => hbel.same (hlt0 x hx)) (fun x hx => by simpa using hlt0 x hx)
  have s1 := WideElems.Trod_stays (W' := W') (sp' := fun b => decide (b < W.heap.size)) laidOut reads3 lt3 h1 (fun x hx => hbel.same (hlt1 x hx)) (fun x hx => by simpa using hlt1 x hx)
  have s2 := WideElems.Trod_stays (W' := W') (sp' := fun b => decide (b < W.heap.size)) laidOut reads44 lt44 h2 (fun x hx => hbel.same (hlt2 x hx)) (fun x hx => by simpa using hlt2 x hx)
  have s3 := WideElems.Trod_stays (W' := W') (sp' := fun b => decide (b < W.heap.size)) laidOut reads23 lt23 h3 (fun x hx => hbel.same (hlt3 x hx)) (fun x hx => by simpa using hlt3 x hx)
  have s4 := WideElems.Trod_stays (W' := W') (sp' := fun b => decide (b < W.heap.size)) laidOut reads24 lt24 h4 (fun x hx => hbel.same (hlt4 x hx)) (fun x hx => by simpa using hlt4 x hx)
  have s5 := WideElems.Trod_stays (W' := W') (sp' := fun b => decide (b < W.heap.size)) laidOut reads24 lt24 h5 (fun x hx => hbel.same (hlt5 x hx)) (fun x hx => by simpa using hlt5 x hx)
  have e1 := trodAll_cons_mk s0 (trodAll_cons_mk s1 (trodAll_cons_mk s2 (trodAll_cons_mk s3 (trodAll_cons_mk s4 (trodAll_cons_mk s5 (trodAll_mk0 (enc := enc) (P := Try.prog) (w := W') (base := 0) (spare := fun b => decide (b < W.heap.size)) (held := true)))))))
  rw [List.append_nil] at e1
  exact e1

theorem laid_metK (os : Os) : laidMet Try.prog Rows.windowsKeepRow.laid ((World.holding Try.prog os ⟨#[], #[], []⟩).forCall (fun _ _ => 0) ⟨#[], #[.slice none 0 0, .int .i64 0, .slice none 0 0, .slice none 0 0, .slice none 0 0, .slice none 0 0], []⟩).memory :=
  laidMet_of_run' 8 (by kernel_rfl) (by kernel_rfl)
theorem readsK (os : Os) {H : Type} (enc : TypeId × Value → H) : ∃ places, DataW.whole enc Try.prog ((World.holding Try.prog os ⟨#[], #[], []⟩).forCall (fun _ _ => 0) ⟨#[], #[.slice none 0 0, .int .i64 0, .slice none 0 0, .slice none 0 0, .slice none 0 0, .slice none 0 0], []⟩).memory Try.f4.params.toList Rows.windowsKeepSpec.vars false #[Value.slice none 0 0, .int .i64 0, .slice none 0 0, .slice none 0 0, .slice none 0 0, .slice none 0 0].toList 8 = some ([.nil, .lit (.int .i64 0), .nil, .nil, .nil, .nil], [], places) :=
  ⟨[], by kernel_rfl⟩

set_option maxRecDepth 100000 in
theorem liftedK (os : Os) (started : os.Started) (H : Type) (enc : TypeId × Value → H) (F : Stop.Interp) :
    ReturnsInHanded {} Try.checked os 4 .any ((OpenSpec.ofChange Rows.windowsKeepSpec).preRow enc Try.prog Try.f4 Rows.windowsKeepRow.domain false Rows.windowsKeepRow.laid) (((OpenSpec.ofChange Rows.windowsKeepSpec).at F).post enc Try.prog Try.f4 false true false false) := by
  obtain ⟨places, hx⟩ := readsK os enc
  refine returnsInHanded_of_row (C := Try.checked) (s := OpenSpec.ofChange Rows.windowsKeepSpec) own started (by kernel_rfl) Try.func4
    (witness_row_at (enc := enc) (C := Try.checked) false (World.holding Try.prog os ⟨#[], #[], []⟩) #[.slice none 0 0, .int .i64 0, .slice none 0 0, .slice none 0 0, .slice none 0 0, .slice none 0 0] rfl (by kernel_rfl) (by kernel_rfl) (by kernel_rfl)
      (OpenSpec.preRow_of_cond 8 hx (by kernel_rfl) (fun k hk => by cases hk) (by kernel_rfl) (laid_metK os))) ?_
  intro W base args ds gs before hval hW _ _ _ _ _ _
  exact contractK H enc W base args ds gs before hval hW

theorem windowsKeep_said : Rows.WindowsKeepSaid :=
  OpenClaim.holds_of_cond 4 Try.f4 rfl rfl rfl rfl rfl rfl rfl ⟨rfl, rfl, rfl, rfl, rfl⟩ rfl rfl rfl rfl rfl (by kernel_rfl) Try.func4 (by kernel_rfl)
    (of_decide_eq_true (by kernel_rfl)) (by unfold Func.isWrapper; first | (rw [if_pos (by decide +kernel)]; kernel_rfl) | (rw [if_neg (by decide +kernel)]; exact ⟨rfl, rfl⟩))
    (fun os started H enc _ F => by rw [OpenClaim.pre_eq_preRow]; exact liftedK os started H enc F)
end Go.Proofs.Ytkafihaajpifoai
