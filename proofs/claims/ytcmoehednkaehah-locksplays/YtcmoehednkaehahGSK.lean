import Derived.Test.YtcmoehednkaehahGLD
import Derived.Deep.RegionHeld3
import Derived.Test.YtcmoehednkaehahGSI
namespace Go.Proofs.Ytcmoehednkaehah
open Go.ChangeShapes Go.WideShapes Go.ChangeAt Go.RowKit

/- A region that makes several new things in whatever order: what it makes lies apart, whichever came first. -/
def mkL (l0 : Array Bool) (T : List Nat) : Array Bool := T.foldl (fun l i => l.setIfInBounds i true) l0

theorem mkL_at (T : List Nat) : ∀ (l0 : Array Bool) (k : Nat), (mkL l0 T)[k]? = if k ∈ T then (l0[k]?).map (fun _ => true) else l0[k]? := by
  induction T with
  | nil => intro l0 k; simp [mkL]
  | cons i r ih =>
    intro l0 k
    have := ih (l0.setIfInBounds i true) k
    unfold mkL at this ⊢
    rw [List.foldl_cons, this, Array.getElem?_setIfInBounds]
    by_cases hk : i = k
    · subst hk
      by_cases hr : i ∈ r
      · rw [if_pos hr, if_pos (List.mem_cons_of_mem _ hr)]
        by_cases hl : i < l0.size
        · simp [hl]
        · simp [hl]
      · rw [if_neg hr, if_pos (List.mem_cons_self ..)]
        by_cases hl : i < l0.size
        · simp [hl]
        · simp [hl]
    · rw [if_neg hk]
      by_cases hr : k ∈ r
      · rw [if_pos hr, if_pos (List.mem_cons_of_mem _ hr)]
      · rw [if_neg hr, if_neg (by rintro h; rcases List.mem_cons.1 h with h | h; exact hk h.symm; exact hr h)]

theorem mkL_same {l0 : Array Bool} {T T' : List Nat} (h : ∀ k, k ∈ T ↔ k ∈ T') : mkL l0 T = mkL l0 T' := by
  apply Array.ext_getElem?
  intro k
  rw [mkL_at, mkL_at]
  by_cases hk : k ∈ T
  · rw [if_pos hk, if_pos ((h k).1 hk)]
  · rw [if_neg hk, if_neg (fun q => hk ((h k).2 q))]

theorem mkL_more (l0 : Array Bool) (T : List Nat) (i : Nat) : (mkL l0 T).setIfInBounds i true = mkL l0 (T ++ [i]) := by
  unfold mkL
  rw [List.foldl_append]
  rfl

/-- The lists that a list can be left with. -/
def subs : List Nat → List (List Nat)
  | [] => [[]]
  | i :: r => subs r ++ (subs r).map (i :: ·)

theorem subs_filter (p : Nat → Bool) : ∀ M : List Nat, M.filter p ∈ subs M
  | [] => by simp [subs]
  | i :: r => by
    have := subs_filter p r
    rw [subs, List.filter_cons]
    by_cases h : p i = true
    · rw [if_pos h]
      exact List.mem_append_right _ (List.mem_map.2 ⟨_, this, rfl⟩)
    · rw [if_neg h]
      exact List.mem_append_left _ this

/-- The frame with what was made. -/
def mkA (a0 : Act) (sl : Nat → Nat) (vs : Nat → Value) (T : List Nat) : Act := T.foldl (fun a i => a.put (some (sl i)) (vs i)) a0

theorem mkA_other {sl : Nat → Nat} {vs : Nat → Value} {k : Nat} : ∀ (T : List Nat) (a0 : Act), (∀ i ∈ T, sl i ≠ k) → (mkA a0 sl vs T).tmps[k]? = a0.tmps[k]?
  | [], _, _ => rfl
  | i :: r, a0, h => by
    have := mkA_other (vs := vs) r (a0.put (some (sl i)) (vs i)) (fun j hj => h j (List.mem_cons_of_mem _ hj))
    show (mkA (a0.put (some (sl i)) (vs i)) sl vs r).tmps[k]? = _
    rw [this]
    exact Array.getElem?_setIfInBounds_ne (h i (List.mem_cons_self ..))

theorem mkA_size {sl : Nat → Nat} {vs : Nat → Value} : ∀ (T : List Nat) (a0 : Act), (mkA a0 sl vs T).tmps.size = a0.tmps.size ∧ (mkA a0 sl vs T).defers = a0.defers
  | [], _ => ⟨rfl, rfl⟩
  | i :: r, a0 => by
    have := mkA_size (vs := vs) (sl := sl) r (a0.put (some (sl i)) (vs i))
    refine ⟨this.1.trans ?_, this.2⟩
    show (a0.tmps.setIfInBounds (sl i) (vs i)).size = _
    simp

theorem mkA_at {sl : Nat → Nat} {vs : Nat → Value} : ∀ (T : List Nat) (a0 : Act) (i : Nat), i ∈ T → (∀ j ∈ T, sl j = sl i → j = i) → sl i < a0.tmps.size → (mkA a0 sl vs T).tmps[sl i]? = some (vs i)
  | [], _, _, h, _, _ => by cases h
  | j :: r, a0, i, h, hinj, hlt => by
    show (mkA (a0.put (some (sl j)) (vs j)) sl vs r).tmps[sl i]? = _
    by_cases hi : i ∈ r
    · exact mkA_at r _ i hi (fun q hq => hinj q (List.mem_cons_of_mem _ hq)) (by show sl i < (a0.tmps.setIfInBounds _ _).size; simpa using hlt)
    · have hij : i = j := by
        rcases List.mem_cons.1 h with h | h
        · exact h
        · exact absurd h hi
      subst hij
      rw [mkA_other r _ (fun q hq e => hi (by rw [← hinj q (List.mem_cons_of_mem _ hq) e]; exact hq))]
      show (a0.tmps.setIfInBounds (sl i) (vs i))[sl i]? = _
      rw [Array.getElem?_setIfInBounds_self_of_lt hlt]

/-- Whatever the order was, the frame is one. -/
theorem mkA_same {sl : Nat → Nat} {vs : Nat → Value} {T T' : List Nat} {a0 : Act} (h : ∀ k, k ∈ T ↔ k ∈ T') (hinj : ∀ i ∈ T, ∀ j ∈ T, sl j = sl i → j = i) (hlt : ∀ i ∈ T, sl i < a0.tmps.size) : mkA a0 sl vs T = mkA a0 sl vs T' := by
  have ht : (mkA a0 sl vs T).tmps = (mkA a0 sl vs T').tmps := by
    apply Array.ext_getElem?
    intro k
    by_cases hk : ∃ i ∈ T, sl i = k
    · obtain ⟨i, hi, rfl⟩ := hk
      rw [mkA_at T a0 i hi (hinj i hi) (hlt i hi), mkA_at T' a0 i ((h i).1 hi) (fun j hj => hinj i hi j ((h j).2 hj)) (hlt i hi)]
    · rw [mkA_other T a0 (fun i hi e => hk ⟨i, hi, e⟩), mkA_other T' a0 (fun i hi e => hk ⟨i, (h i).2 hi, e⟩)]
  have hd : (mkA a0 sl vs T).defers = (mkA a0 sl vs T').defers := (mkA_size T a0).2.trans (mkA_size T' a0).2.symm
  cases h1 : mkA a0 sl vs T
  cases h2 : mkA a0 sl vs T'
  rw [h1, h2] at ht hd
  dsimp only at ht hd
  rw [ht, hd]

def updV (vs : Nat → Value) (i : Nat) (v : Value) (j : Nat) : Value := if j = i then v else vs j

theorem mkA_vs {sl : Nat → Nat} {vs vs' : Nat → Value} : ∀ (T : List Nat) (a0 : Act), (∀ i ∈ T, vs i = vs' i) → mkA a0 sl vs T = mkA a0 sl vs' T
  | [], _, _ => rfl
  | i :: r, a0, h => by
    show mkA (a0.put (some (sl i)) (vs i)) sl vs r = mkA (a0.put (some (sl i)) (vs' i)) sl vs' r
    rw [h i (List.mem_cons_self ..)]
    exact mkA_vs r _ (fun j hj => h j (List.mem_cons_of_mem _ hj))

theorem mkA_more (a0 : Act) (sl : Nat → Nat) (vs : Nat → Value) (T : List Nat) (i : Nat) (hi : i ∉ T) (v : Value) : (mkA a0 sl vs T).put (some (sl i)) v = mkA a0 sl (updV vs i v) (T ++ [i]) := by
  have h1 : mkA a0 sl vs T = mkA a0 sl (updV vs i v) T := mkA_vs T a0 (fun j hj => by unfold updV; rw [if_neg (by rintro rfl; exact hi hj)])
  rw [h1]
  unfold mkA
  rw [List.foldl_append]
  show _ = Act.put _ (some (sl i)) (updV vs i v i)
  unfold updV
  rw [if_pos rfl]

section
variable {P : Program} {ops : Array Oper} {Q : Exit → Act → World → Prop} {md : Region.Mode} {S : World → Prop}

theorem wpAnyH_fresh (M : List Nat) (sl : Nat → Nat) (l0 : Array Bool) (a0 : Act) (w0 : World) (Φ : Nat → Value → World → Prop) (bl : Value → Nat) (fuel : Nat)
    (hnd : M.Nodup) (hinj : ∀ i ∈ M, ∀ j ∈ M, sl j = sl i → j = i) (hlt : ∀ i ∈ M, sl i < a0.tmps.size)
    (hready : (subs M).all (fun T => T.length == M.length || Region.ready md ops (mkL l0 T) == M.filter (fun i => !T.contains i)) = true)
    (hΦ : ∀ i v w w', Φ i v w → Below w.heap.size w w' → Φ i v w') (hbl : ∀ i v w, Φ i v w → bl v < w.heap.size)
    (hstep : ∀ i ∈ M, ∀ (a : Act) (w : World), (∀ k, (∀ j ∈ M, sl j ≠ k) → a.tmps[k]? = a0.tmps[k]?) → a.tmps.size = a0.tmps.size → a.defers = a0.defers → S w → Below w0.heap.size w0 w → wpOp P ops Q i (fun a' w' => ∃ v, a' = a.put (some (sl i)) v ∧ S w' ∧ Below w.heap.size w w' ∧ w.heap.size ≤ bl v ∧ Φ i v w') a w)
    (hfin : ∀ (vs : Nat → Value) (w : World), S w → Below w0.heap.size w0 w → (∀ i ∈ M, Φ i (vs i) w ∧ w0.heap.size ≤ bl (vs i)) → (∀ i ∈ M, ∀ j ∈ M, i ≠ j → bl (vs i) ≠ bl (vs j)) → wpAnyH P md ops Q S fuel (mkL l0 M) (mkA a0 sl vs M) w) :
    ∀ (n : Nat) (T : List Nat) (vs : Nat → Value) (w : World), (M.filter (fun i => !T.contains i)).length = n → (∀ i ∈ T, i ∈ M) → S w → Below w0.heap.size w0 w → (∀ i ∈ T, Φ i (vs i) w ∧ w0.heap.size ≤ bl (vs i)) → (∀ i ∈ T, ∀ j ∈ T, i ≠ j → bl (vs i) ≠ bl (vs j)) → wpAnyH P md ops Q S (fuel + n) (mkL l0 T) (mkA a0 sl vs T) w := by
  intro n
  induction n with
  | zero =>
    intro T vs w hn hT hS hB h1 h2
    have hall : ∀ k, k ∈ T ↔ k ∈ M := fun k => ⟨hT k, fun hk => by
      have := List.eq_nil_of_length_eq_zero hn
      have h3 := List.filter_eq_nil_iff.1 this k hk
      simpa using h3⟩
    rw [mkL_same hall, mkA_same hall (fun i hi j hj => hinj i (hT i hi) j (hT j hj)) (fun i hi => hlt i (hT i hi))]
    exact hfin vs w hS hB (fun i hi => h1 i ((hall i).2 hi)) (fun i hi j hj => h2 i ((hall i).2 hi) j ((hall j).2 hj))
  | succ n ih =>
    intro T vs w hn hT hS hB h1 h2
    have hsame : ∀ k, k ∈ T ↔ k ∈ M.filter (fun i => T.contains i) := fun k => by
      rw [List.mem_filter]
      constructor
      · intro h; exact ⟨hT k h, by simpa using h⟩
      · rintro ⟨-, h⟩; simpa using h
    have hr : Region.ready md ops (mkL l0 T) = M.filter (fun i => !T.contains i) := by
      have h3 := List.all_eq_true.1 hready _ (subs_filter (fun i => T.contains i) M)
      rw [mkL_same hsame]
      have h4 : (M.filter (fun i => !(M.filter (fun i => T.contains i)).contains i)) = M.filter (fun i => !T.contains i) := List.filter_congr (fun k hk => by
        congr 1
        rw [Bool.eq_iff_iff]
        simp only [List.contains_iff_mem]
        exact (hsame k).symm)
      rw [h4] at h3
      rcases Bool.or_eq_true_iff.1 h3 with h5 | h5
      · exfalso
        have h6 : (M.filter (fun i => T.contains i)).length = M.length := by simpa using h5
        have h7 := List.length_filter_eq_length_iff.1 h6
        have h8 : M.filter (fun i => !T.contains i) = [] := List.filter_eq_nil_iff.2 (fun k hk => by have := h7 k hk; simpa using this)
        rw [h8] at hn
        simp at hn
      · simpa using h5
    refine wpAnyH_all hr (fun h => by rw [h] at hn; simp at hn) ?_
    intro i hi
    obtain ⟨hiM, hiT⟩ := List.mem_filter.1 hi
    have hiT' : i ∉ T := by simpa using hiT
    refine wpOp_mono ?_ (hstep i hiM (mkA a0 sl vs T) w (fun k hk => mkA_other T a0 (fun j hj => hk j (hT j hj))) (mkA_size T a0).1 (mkA_size T a0).2 hS hB)
    rintro a' w' ⟨v, rfl, hS', hB', hfr, hΦ'⟩
    refine ⟨hS', ?_⟩
    rw [mkL_more, mkA_more a0 sl vs T i hiT' v]
    have hsz := hB.size
    have hin : ∀ j ∈ T ++ [i], (j ∈ T ∧ j ≠ i) ∨ j = i := fun j hj => by
      rcases List.mem_append.1 hj with h | h
      · exact .inl ⟨h, by rintro rfl; exact hiT' h⟩
      · exact .inr (by simpa using h)
    have hu : updV vs i v i = v := if_pos rfl
    have hu' : ∀ j, j ≠ i → updV vs i v j = vs j := fun j hj => if_neg hj
    refine ih (T ++ [i]) (updV vs i v) w' ?_ ?_ hS' (hB.trans (hB'.mono hsz)) ?_ ?_
    · have h9 : M.filter (fun k => !(T ++ [i]).contains k) = (M.filter (fun k => !T.contains k)).filter (fun k => k != i) := by
        rw [List.filter_filter]
        refine List.filter_congr (fun k _ => ?_)
        rw [Bool.eq_iff_iff]
        simp
        constructor
        · rintro ⟨h1, h2⟩; exact ⟨h2, h1⟩
        · rintro ⟨h1, h2⟩; exact ⟨h2, h1⟩
      rw [h9, ← List.Nodup.erase_eq_filter (List.Pairwise.filter _ hnd) i, List.length_erase_of_mem hi, hn]
      rfl
    · intro j hj
      rcases hin j hj with ⟨h, -⟩ | rfl
      · exact hT j h
      · exact hiM
    · intro j hj
      rcases hin j hj with ⟨h, hne⟩ | rfl
      · rw [hu' j hne]
        exact ⟨hΦ j _ w w' (h1 j h).1 hB', (h1 j h).2⟩
      · rw [hu]
        exact ⟨hΦ', by omega⟩
    · intro j hj k hk hjk
      rcases hin j hj with ⟨h, hne⟩ | rfl
      · rw [hu' j hne]
        rcases hin k hk with ⟨h', hne'⟩ | rfl
        · rw [hu' k hne']
          exact h2 j h k h' hjk
        · rw [hu]
          have := hbl j _ w (h1 j h).1
          omega
      · rw [hu]
        rcases hin k hk with ⟨h', hne'⟩ | rfl
        · rw [hu' k hne']
          have := hbl k _ w (h1 k h').1
          omega
        · exact absurd rfl hjk
end
end Go.Proofs.Ytcmoehednkaehah
namespace Go.Proofs.Ytcmoehednkaehah
open Go.ChangeShapes Go.WideShapes Go.ChangeAt Go.RowKit

section
variable {P : Program} {ops : Array Oper} {Q : Exit → Act → World → Prop} {md : Region.Mode} {S : World → Prop}

theorem filter_one {M T : List Nat} {i n : Nat} (hnd : M.Nodup) (hi : i ∈ M) (hT : i ∉ T) (hn : (M.filter (fun k => !T.contains k)).length = n + 1) : (M.filter (fun k => !(T ++ [i]).contains k)).length = n := by
  have h9 : M.filter (fun k => !(T ++ [i]).contains k) = (M.filter (fun k => !T.contains k)).filter (fun k => k != i) := by
    rw [List.filter_filter]
    refine List.filter_congr (fun k _ => ?_)
    rw [Bool.eq_iff_iff]
    simp
    constructor
    · rintro ⟨h1, h2⟩; exact ⟨h2, h1⟩
    · rintro ⟨h1, h2⟩; exact ⟨h2, h1⟩
  rw [h9, ← List.Nodup.erase_eq_filter (List.Pairwise.filter _ hnd) i, List.length_erase_of_mem (List.mem_filter.2 ⟨hi, by simpa using hT⟩), hn]
  rfl

/-- A region whose operations each lay down what holds from then on, in whatever order. -/
theorem wpAnyH_steps (M : List Nat) (sl : Nat → Nat) (l0 : Array Bool) (a0 : Act) (I : List Nat → (Nat → Value) → World → Prop) (dep : Nat → List Nat → Bool) (fuel : Nat)
    (hnd : M.Nodup) (hinj : ∀ i ∈ M, ∀ j ∈ M, sl j = sl i → j = i) (hlt : ∀ i ∈ M, sl i < a0.tmps.size)
    (hready : (subs M).all (fun T => T.length == M.length || (!(Region.ready md ops (mkL l0 T)).isEmpty && (Region.ready md ops (mkL l0 T)).all (fun i => (M.contains i && !T.contains i) && dep i T))) = true)
    (hstep : ∀ (T : List Nat) (vs : Nat → Value) (w : World) (i : Nat), (∀ k ∈ T, k ∈ M) → dep i (M.filter (fun k => T.contains k)) = true → i ∈ M → i ∉ T → S w → I T vs w → wpOp P ops Q i (fun a' w' => ∃ v, a' = (mkA a0 sl vs T).put (some (sl i)) v ∧ S w' ∧ I (T ++ [i]) (updV vs i v) w') (mkA a0 sl vs T) w)
    (hfin : ∀ (T : List Nat) (vs : Nat → Value) (w : World), (∀ k, k ∈ T ↔ k ∈ M) → S w → I T vs w → wpAnyH P md ops Q S fuel (mkL l0 M) (mkA a0 sl vs M) w) :
    ∀ (n : Nat) (T : List Nat) (vs : Nat → Value) (w : World), (M.filter (fun i => !T.contains i)).length = n → (∀ i ∈ T, i ∈ M) → S w → I T vs w → wpAnyH P md ops Q S (fuel + n) (mkL l0 T) (mkA a0 sl vs T) w := by
  intro n
  induction n with
  | zero =>
    intro T vs w hn hT hS hI
    have hall : ∀ k, k ∈ T ↔ k ∈ M := fun k => ⟨hT k, fun hk => by
      have := List.eq_nil_of_length_eq_zero hn
      have h3 := List.filter_eq_nil_iff.1 this k hk
      simpa using h3⟩
    rw [mkL_same hall, mkA_same hall (fun i hi j hj => hinj i (hT i hi) j (hT j hj)) (fun i hi => hlt i (hT i hi))]
    exact hfin T vs w hall hS hI
  | succ n ih =>
    intro T vs w hn hT hS hI
    have hsame : ∀ k, k ∈ T ↔ k ∈ M.filter (fun i => T.contains i) := fun k => by
      rw [List.mem_filter]
      constructor
      · intro h; exact ⟨hT k h, by simpa using h⟩
      · rintro ⟨-, h⟩; simpa using h
    have hmem := subs_filter (fun i => T.contains i) M
    have h3 := List.all_eq_true.1 hready _ hmem
    have hne : ¬ ((M.filter (fun i => T.contains i)).length == M.length) = true := fun h5 => by
      have h6 : (M.filter (fun i => T.contains i)).length = M.length := by simpa using h5
      have h7 := List.length_filter_eq_length_iff.1 h6
      have h8 : M.filter (fun i => !T.contains i) = [] := List.filter_eq_nil_iff.2 (fun k hk => by have := h7 k hk; simpa using this)
      rw [h8] at hn
      simp at hn
    rcases Bool.or_eq_true_iff.1 h3 with h5 | h5
    · exact absurd h5 hne
    obtain ⟨h6, h7⟩ := Bool.and_eq_true_iff.1 h5
    rw [mkL_same hsame]
    refine wpAnyH_all rfl (fun h => by rw [h] at h6; simp at h6) ?_
    intro i hi
    have h8 := List.all_eq_true.1 h7 i hi
    obtain ⟨h8', h12⟩ := Bool.and_eq_true_iff.1 h8
    obtain ⟨h9, h10⟩ := Bool.and_eq_true_iff.1 h8'
    have hiM : i ∈ M := by simpa using h9
    have hiT : i ∉ T := by
      intro h
      have := (hsame i).1 h
      have h11 : (M.filter (fun i => T.contains i)).contains i = true := by simpa using this
      rw [h11] at h10
      cases h10
    refine wpOp_mono ?_ (hstep T vs w i hT h12 hiM hiT hS hI)
    rintro a' w' ⟨v, rfl, hS', hI'⟩
    refine ⟨hS', ?_⟩
    rw [← mkL_same hsame, mkL_more, mkA_more a0 sl vs T i hiT v]
    refine ih (T ++ [i]) (updV vs i v) w' (filter_one hnd hiM hiT hn) ?_ hS' hI'
    intro j hj
    rcases List.mem_append.1 hj with h | h
    · exact hT j h
    · have : j = i := by simpa using h
      rw [this]; exact hiM
end
end Go.Proofs.Ytcmoehednkaehah
namespace Go.Proofs.Ytcmoehednkaehah
open Go.ChangeShapes Go.WideShapes Go.ChangeAt Go.RowKit

/-- Where the document's answer lies. -/
structure Do where
  O : Nat
  E : Nat
  T : Nat

def blks (d : Dd) (o : Do) : List Nat := [d.S, d.P, d.A, d.K, d.B, d.W, d.D, d.M, o.O, o.E, o.T]

/-- The document's run lies there. -/
structure DW (W0 W : World) (d : Dd) (o : Do) (base : Nat) (pr : Int) (lv : Value) (l : List Lj) (rv : Value) (runs : List Int) (x : Rs) (cnt : Nat) (D : DataW Unit) : Prop where
  bel : Below W0.heap.size W0 W
  j0 : LkSl W0 l lv
  v : DV W d pr lv l x cnt D
  hO : W.heap[o.O]? = some (.cells #[rv, sl0 o.E l.length, sl0 o.T l.length, .bool false] 28 (0, 0))
  hE : W.heap[o.E]? = some (.cells (inV x.en).toArray 3 (0, 0))
  hT : W.heap[o.T]? = some (.cells (inV x.ws).toArray 3 (0, 0))
  nd : (blks d o).Nodup
  lo : ∀ b ∈ blks d o, W0.heap.size ≤ b ∧ b < base
  stk : Stk W base rv runs
  bs : base ≤ W.heap.size

theorem ndx {d : Dd} {o : Do} (h : (blks d o).Nodup) {i j : Nat} (hij : i ≠ j) {a b : Nat} (hi : (blks d o)[i]? = some a) (hj : (blks d o)[j]? = some b) : a ≠ b := by
  obtain ⟨hi1, hi2⟩ := List.getElem?_eq_some_iff.1 hi
  obtain ⟨hj1, hj2⟩ := List.getElem?_eq_some_iff.1 hj
  intro e
  rw [← hi2, ← hj2] at e
  exact hij ((List.getElem_inj h).1 e)

theorem map_same {β : Type} {es : List En} {i : Nat} {e e' : En} (f : En → β) (he : es[i]? = some e) (hf : f e' = f e) : (es.set i e').map f = es.map f := by
  rw [List.map_set, hf, set_same (by rw [List.getElem?_map, he]; rfl)]
theorem blV_set (l : List Bool) (i : Nat) (z : Bool) : (blV l).set i (.bool z) = blV (l.set i z) := by unfold blV; rw [List.map_set]

theorem DW.grow {W0 W : World} {d : Dd} {o : Do} {base : Nat} {pr : Int} {lv : Value} {l : List Lj} {rv : Value} {runs : List Int} {x : Rs} {cnt : Nat} {D : DataW Unit} {W' : World} (h : DW W0 W d o base pr lv l rv runs x cnt D) (hb : Below W.heap.size W W') : DW W0 W' d o base pr lv l rv runs x cnt D :=
  ⟨below_seq h.bel hb, h.j0, h.v.grow hb, (hb.block _ (heap_lt h.hO)).trans h.hO, (hb.block _ (heap_lt h.hE)).trans h.hE, (hb.block _ (heap_lt h.hT)).trans h.hT, h.nd, h.lo, h.stk.grow hb, Nat.le_trans h.bs hb.size⟩

theorem DW.keep {W0 W : World} {d : Dd} {o : Do} {base : Nat} {pr : Int} {lv : Value} {l : List Lj} {rv : Value} {runs : List Int} {x : Rs} {cnt : Nat} {D : DataW Unit} (h : DW W0 W d o base pr lv l rv runs x cnt D) {b : Nat} (hb : b ∈ blks d o) (a : Nat) (u : Value) : Stk (W.setCell ⟨b, a, none⟩ u) base rv runs := h.stk.keep fun k hk => Below.heap_setCell _ _ _ _ (by have h1 := h.stk.low hk; have h2 := (h.lo b hb).2; show ¬ (k = b); omega)

theorem DW.setA {W0 W : World} {d : Dd} {o : Do} {base : Nat} {pr : Int} {lv : Value} {l : List Lj} {rv : Value} {runs : List Int} {x : Rs} {cnt : Nat} {D : DataW Unit} (h : DW W0 W d o base pr lv l rv runs x cnt D) {i : Nat} {e : En} (he : x.es[i]? = some e) (v : Nat) : DW W0 (W.setCell ⟨d.A, i, none⟩ (.int .i64 (v : Int))) d o base pr lv l rv runs { x with es := x.es.set i { e with nx := v } } cnt D := by
  have hmem : d.A ∈ blks d o := by simp [blks]
  have hlo := h.lo _ hmem
  have hne : ∀ c, c ≠ d.A → (W.setCell ⟨d.A, i, none⟩ (.int .i64 (v : Int))).heap[c]? = W.heap[c]? := fun c hc => Below.heap_setCell _ _ _ _ hc
  have hbel : Below W0.heap.size W0 (W.setCell ⟨d.A, i, none⟩ (.int .i64 (v : Int))) := h.bel.setCell hlo.1 _
  exact ⟨hbel, h.j0, ⟨(hne _ (ndx h.nd (i := 0) (j := 2) (by decide) rfl rfl)).trans h.v.hS, (hne _ (ndx h.nd (i := 1) (j := 2) (by decide) rfl rfl)).trans h.v.hP, by rw [setCell_at h.v.hA, List.setIfInBounds_toArray, inV_set, List.map_set], by dsimp only; rw [map_same (e' := { e with nx := v }) En.rn he rfl]; exact (hne _ (ndx h.nd (i := 3) (j := 2) (by decide) rfl rfl)).trans h.v.hK, by dsimp only; rw [map_same (e' := { e with nx := v }) En.bg he rfl]; exact (hne _ (ndx h.nd (i := 4) (j := 2) (by decide) rfl rfl)).trans h.v.hB, by dsimp only; rw [map_same (e' := { e with nx := v }) En.wt he rfl]; exact (hne _ (ndx h.nd (i := 5) (j := 2) (by decide) rfl rfl)).trans h.v.hW, (hne _ (ndx h.nd (i := 6) (j := 2) (by decide) rfl rfl)).trans h.v.hD, owns_block h.v.map (hne _ (ndx h.nd (i := 7) (j := 2) (by decide) rfl rfl)), h.v.spec, h.j0.below hbel⟩, (hne _ (ndx h.nd (i := 8) (j := 2) (by decide) rfl rfl)).trans h.hO, (hne _ (ndx h.nd (i := 9) (j := 2) (by decide) rfl rfl)).trans h.hE, (hne _ (ndx h.nd (i := 10) (j := 2) (by decide) rfl rfl)).trans h.hT, h.nd, h.lo, h.keep hmem _ _, by rw [show (W.setCell ⟨d.A, i, none⟩ (.int .i64 (v : Int))).heap.size = W.heap.size by simp]; exact h.bs⟩

theorem DW.setK {W0 W : World} {d : Dd} {o : Do} {base : Nat} {pr : Int} {lv : Value} {l : List Lj} {rv : Value} {runs : List Int} {x : Rs} {cnt : Nat} {D : DataW Unit} (h : DW W0 W d o base pr lv l rv runs x cnt D) {i : Nat} {e : En} (he : x.es[i]? = some e) (v : Int) : DW W0 (W.setCell ⟨d.K, i, none⟩ (.int .i64 v)) d o base pr lv l rv runs { x with es := x.es.set i { e with rn := v } } cnt D := by
  have hmem : d.K ∈ blks d o := by simp [blks]
  have hlo := h.lo _ hmem
  have hne : ∀ c, c ≠ d.K → (W.setCell ⟨d.K, i, none⟩ (.int .i64 v)).heap[c]? = W.heap[c]? := fun c hc => Below.heap_setCell _ _ _ _ hc
  have hbel : Below W0.heap.size W0 (W.setCell ⟨d.K, i, none⟩ (.int .i64 v)) := h.bel.setCell hlo.1 _
  exact ⟨hbel, h.j0, ⟨(hne _ (ndx h.nd (i := 0) (j := 3) (by decide) rfl rfl)).trans h.v.hS, (hne _ (ndx h.nd (i := 1) (j := 3) (by decide) rfl rfl)).trans h.v.hP, by dsimp only; rw [map_same (e' := { e with rn := v }) (fun e => (e.nx : Int)) he rfl]; exact (hne _ (ndx h.nd (i := 2) (j := 3) (by decide) rfl rfl)).trans h.v.hA, by rw [setCell_at h.v.hK, List.setIfInBounds_toArray, inV_set, List.map_set], by dsimp only; rw [map_same (e' := { e with rn := v }) En.bg he rfl]; exact (hne _ (ndx h.nd (i := 4) (j := 3) (by decide) rfl rfl)).trans h.v.hB, by dsimp only; rw [map_same (e' := { e with rn := v }) En.wt he rfl]; exact (hne _ (ndx h.nd (i := 5) (j := 3) (by decide) rfl rfl)).trans h.v.hW, (hne _ (ndx h.nd (i := 6) (j := 3) (by decide) rfl rfl)).trans h.v.hD, owns_block h.v.map (hne _ (ndx h.nd (i := 7) (j := 3) (by decide) rfl rfl)), h.v.spec, h.j0.below hbel⟩, (hne _ (ndx h.nd (i := 8) (j := 3) (by decide) rfl rfl)).trans h.hO, (hne _ (ndx h.nd (i := 9) (j := 3) (by decide) rfl rfl)).trans h.hE, (hne _ (ndx h.nd (i := 10) (j := 3) (by decide) rfl rfl)).trans h.hT, h.nd, h.lo, h.keep hmem _ _, by rw [show (W.setCell ⟨d.K, i, none⟩ (.int .i64 v)).heap.size = W.heap.size by simp]; exact h.bs⟩

theorem DW.setB {W0 W : World} {d : Dd} {o : Do} {base : Nat} {pr : Int} {lv : Value} {l : List Lj} {rv : Value} {runs : List Int} {x : Rs} {cnt : Nat} {D : DataW Unit} (h : DW W0 W d o base pr lv l rv runs x cnt D) {i : Nat} {e : En} (he : x.es[i]? = some e) : DW W0 (W.setCell ⟨d.B, i, none⟩ (.bool true)) d o base pr lv l rv runs { x with es := x.es.set i (begF e) } cnt D := by
  have hmem : d.B ∈ blks d o := by simp [blks]
  have hlo := h.lo _ hmem
  have hne : ∀ c, c ≠ d.B → (W.setCell ⟨d.B, i, none⟩ (.bool true)).heap[c]? = W.heap[c]? := fun c hc => Below.heap_setCell _ _ _ _ hc
  have hbel : Below W0.heap.size W0 (W.setCell ⟨d.B, i, none⟩ (.bool true)) := h.bel.setCell hlo.1 _
  exact ⟨hbel, h.j0, ⟨(hne _ (ndx h.nd (i := 0) (j := 4) (by decide) rfl rfl)).trans h.v.hS, (hne _ (ndx h.nd (i := 1) (j := 4) (by decide) rfl rfl)).trans h.v.hP, by dsimp only; rw [map_same (e' := begF e) (fun e => (e.nx : Int)) he rfl]; exact (hne _ (ndx h.nd (i := 2) (j := 4) (by decide) rfl rfl)).trans h.v.hA, by dsimp only; rw [map_same (e' := begF e) En.rn he rfl]; exact (hne _ (ndx h.nd (i := 3) (j := 4) (by decide) rfl rfl)).trans h.v.hK, by rw [setCell_at h.v.hB, List.setIfInBounds_toArray, blV_set, List.map_set]; rfl, by dsimp only; rw [map_same (e' := begF e) En.wt he rfl]; exact (hne _ (ndx h.nd (i := 5) (j := 4) (by decide) rfl rfl)).trans h.v.hW, (hne _ (ndx h.nd (i := 6) (j := 4) (by decide) rfl rfl)).trans h.v.hD, owns_block h.v.map (hne _ (ndx h.nd (i := 7) (j := 4) (by decide) rfl rfl)), h.v.spec, h.j0.below hbel⟩, (hne _ (ndx h.nd (i := 8) (j := 4) (by decide) rfl rfl)).trans h.hO, (hne _ (ndx h.nd (i := 9) (j := 4) (by decide) rfl rfl)).trans h.hE, (hne _ (ndx h.nd (i := 10) (j := 4) (by decide) rfl rfl)).trans h.hT, h.nd, h.lo, h.keep hmem _ _, by rw [show (W.setCell ⟨d.B, i, none⟩ (.bool true)).heap.size = W.heap.size by simp]; exact h.bs⟩

theorem DW.setW {W0 W : World} {d : Dd} {o : Do} {base : Nat} {pr : Int} {lv : Value} {l : List Lj} {rv : Value} {runs : List Int} {x : Rs} {cnt : Nat} {D : DataW Unit} (h : DW W0 W d o base pr lv l rv runs x cnt D) {i : Nat} {e : En} (he : x.es[i]? = some e) (v : Int) : DW W0 (W.setCell ⟨d.W, i, none⟩ (.int .i64 v)) d o base pr lv l rv runs { x with es := x.es.set i { e with wt := v } } cnt D := by
  have hmem : d.W ∈ blks d o := by simp [blks]
  have hlo := h.lo _ hmem
  have hne : ∀ c, c ≠ d.W → (W.setCell ⟨d.W, i, none⟩ (.int .i64 v)).heap[c]? = W.heap[c]? := fun c hc => Below.heap_setCell _ _ _ _ hc
  have hbel : Below W0.heap.size W0 (W.setCell ⟨d.W, i, none⟩ (.int .i64 v)) := h.bel.setCell hlo.1 _
  exact ⟨hbel, h.j0, ⟨(hne _ (ndx h.nd (i := 0) (j := 5) (by decide) rfl rfl)).trans h.v.hS, (hne _ (ndx h.nd (i := 1) (j := 5) (by decide) rfl rfl)).trans h.v.hP, by dsimp only; rw [map_same (e' := { e with wt := v }) (fun e => (e.nx : Int)) he rfl]; exact (hne _ (ndx h.nd (i := 2) (j := 5) (by decide) rfl rfl)).trans h.v.hA, by dsimp only; rw [map_same (e' := { e with wt := v }) En.rn he rfl]; exact (hne _ (ndx h.nd (i := 3) (j := 5) (by decide) rfl rfl)).trans h.v.hK, by dsimp only; rw [map_same (e' := { e with wt := v }) En.bg he rfl]; exact (hne _ (ndx h.nd (i := 4) (j := 5) (by decide) rfl rfl)).trans h.v.hB, by rw [setCell_at h.v.hW, List.setIfInBounds_toArray, inV_set, List.map_set], (hne _ (ndx h.nd (i := 6) (j := 5) (by decide) rfl rfl)).trans h.v.hD, owns_block h.v.map (hne _ (ndx h.nd (i := 7) (j := 5) (by decide) rfl rfl)), h.v.spec, h.j0.below hbel⟩, (hne _ (ndx h.nd (i := 8) (j := 5) (by decide) rfl rfl)).trans h.hO, (hne _ (ndx h.nd (i := 9) (j := 5) (by decide) rfl rfl)).trans h.hE, (hne _ (ndx h.nd (i := 10) (j := 5) (by decide) rfl rfl)).trans h.hT, h.nd, h.lo, h.keep hmem _ _, by rw [show (W.setCell ⟨d.W, i, none⟩ (.int .i64 v)).heap.size = W.heap.size by simp]; exact h.bs⟩

theorem DW.setT {W0 W : World} {d : Dd} {o : Do} {base : Nat} {pr : Int} {lv : Value} {l : List Lj} {rv : Value} {runs : List Int} {x : Rs} {cnt : Nat} {D : DataW Unit} (h : DW W0 W d o base pr lv l rv runs x cnt D) (i : Nat) (v : Int) : DW W0 (W.setCell ⟨o.T, i, none⟩ (.int .i64 v)) d o base pr lv l rv runs { x with ws := x.ws.set i v } cnt D := by
  have hmem : o.T ∈ blks d o := by simp [blks]
  have hlo := h.lo _ hmem
  have hne : ∀ c, c ≠ o.T → (W.setCell ⟨o.T, i, none⟩ (.int .i64 v)).heap[c]? = W.heap[c]? := fun c hc => Below.heap_setCell _ _ _ _ hc
  have hbel : Below W0.heap.size W0 (W.setCell ⟨o.T, i, none⟩ (.int .i64 v)) := h.bel.setCell hlo.1 _
  exact ⟨hbel, h.j0, ⟨(hne _ (ndx h.nd (i := 0) (j := 10) (by decide) rfl rfl)).trans h.v.hS, (hne _ (ndx h.nd (i := 1) (j := 10) (by decide) rfl rfl)).trans h.v.hP, (hne _ (ndx h.nd (i := 2) (j := 10) (by decide) rfl rfl)).trans h.v.hA, (hne _ (ndx h.nd (i := 3) (j := 10) (by decide) rfl rfl)).trans h.v.hK, (hne _ (ndx h.nd (i := 4) (j := 10) (by decide) rfl rfl)).trans h.v.hB, (hne _ (ndx h.nd (i := 5) (j := 10) (by decide) rfl rfl)).trans h.v.hW, (hne _ (ndx h.nd (i := 6) (j := 10) (by decide) rfl rfl)).trans h.v.hD, owns_block h.v.map (hne _ (ndx h.nd (i := 7) (j := 10) (by decide) rfl rfl)), h.v.spec, h.j0.below hbel⟩, (hne _ (ndx h.nd (i := 8) (j := 10) (by decide) rfl rfl)).trans h.hO, (hne _ (ndx h.nd (i := 9) (j := 10) (by decide) rfl rfl)).trans h.hE, by rw [setCell_at h.hT, List.setIfInBounds_toArray, inV_set], h.nd, h.lo, h.keep hmem _ _, by rw [show (W.setCell ⟨o.T, i, none⟩ (.int .i64 v)).heap.size = W.heap.size by simp]; exact h.bs⟩

/-- Who ran is told. -/
theorem DW.setO {W0 W : World} {d : Dd} {o : Do} {base : Nat} {pr : Int} {lv : Value} {l : List Lj} {rv : Value} {runs : List Int} {x : Rs} {cnt : Nat} {D : DataW Unit} (h : DW W0 W d o base pr lv l rv runs x cnt D) {rv' : Value} {runs' : List Int} (hs : Stk W base rv' runs') : DW W0 (W.setCell ⟨o.O, 0, none⟩ rv') d o base pr lv l rv' runs' x cnt D := by
  have hmem : o.O ∈ blks d o := by simp [blks]
  have hlo := h.lo _ hmem
  have hne : ∀ c, c ≠ o.O → (W.setCell ⟨o.O, 0, none⟩ rv').heap[c]? = W.heap[c]? := fun c hc => Below.heap_setCell _ _ _ _ hc
  have hbel : Below W0.heap.size W0 (W.setCell ⟨o.O, 0, none⟩ rv') := h.bel.setCell hlo.1 _
  exact ⟨hbel, h.j0, ⟨(hne _ (ndx h.nd (i := 0) (j := 8) (by decide) rfl rfl)).trans h.v.hS, (hne _ (ndx h.nd (i := 1) (j := 8) (by decide) rfl rfl)).trans h.v.hP, (hne _ (ndx h.nd (i := 2) (j := 8) (by decide) rfl rfl)).trans h.v.hA, (hne _ (ndx h.nd (i := 3) (j := 8) (by decide) rfl rfl)).trans h.v.hK, (hne _ (ndx h.nd (i := 4) (j := 8) (by decide) rfl rfl)).trans h.v.hB, (hne _ (ndx h.nd (i := 5) (j := 8) (by decide) rfl rfl)).trans h.v.hW, (hne _ (ndx h.nd (i := 6) (j := 8) (by decide) rfl rfl)).trans h.v.hD, owns_block h.v.map (hne _ (ndx h.nd (i := 7) (j := 8) (by decide) rfl rfl)), h.v.spec, h.j0.below hbel⟩, by rw [setCell_at h.hO]; rfl, (hne _ (ndx h.nd (i := 9) (j := 8) (by decide) rfl rfl)).trans h.hE, (hne _ (ndx h.nd (i := 10) (j := 8) (by decide) rfl rfl)).trans h.hT, h.nd, h.lo, hs.keep (fun k hk => hne k (by have h1 := hs.low hk; omega)), by rw [show (W.setCell ⟨o.O, 0, none⟩ rv').heap.size = W.heap.size by simp]; exact h.bs⟩

/-- The row of runs has grown: nothing else has. -/
theorem DW.rows {W0 W : World} {d : Dd} {o : Do} {base : Nat} {pr : Int} {lv : Value} {l : List Lj} {rv : Value} {runs : List Int} {x : Rs} {cnt : Nat} {D : DataW Unit} {W' : World} (h : DW W0 W d o base pr lv l rv runs x cnt D) {rv' : Value} {runs' : List Int} (hb : Below base W W') (hs : Stk W' base rv' runs') : DW W0 (W'.setCell ⟨o.O, 0, none⟩ rv') d o base pr lv l rv' runs' x cnt D := by
  have hmem : o.O ∈ blks d o := by simp [blks]
  have hl : ∀ c ∈ blks d o, c < base := fun c hc => (h.lo c hc).2
  have hlo := h.lo _ hmem
  have e : ∀ c ∈ blks d o, W'.heap[c]? = W.heap[c]? := fun c hc => hb.block c (hl c hc)
  have hne : ∀ c, c ≠ o.O → (W'.setCell ⟨o.O, 0, none⟩ rv').heap[c]? = W'.heap[c]? := fun c hc => Below.heap_setCell _ _ _ _ hc
  have hbel : Below W0.heap.size W0 (W'.setCell ⟨o.O, 0, none⟩ rv') := (h.bel.trans (hb.mono (by omega))).setCell hlo.1 _
  exact ⟨hbel, h.j0, ⟨(hne _ (ndx h.nd (i := 0) (j := 8) (by decide) rfl rfl)).trans ((e _ (by simp [blks])).trans h.v.hS), (hne _ (ndx h.nd (i := 1) (j := 8) (by decide) rfl rfl)).trans ((e _ (by simp [blks])).trans h.v.hP), (hne _ (ndx h.nd (i := 2) (j := 8) (by decide) rfl rfl)).trans ((e _ (by simp [blks])).trans h.v.hA), (hne _ (ndx h.nd (i := 3) (j := 8) (by decide) rfl rfl)).trans ((e _ (by simp [blks])).trans h.v.hK), (hne _ (ndx h.nd (i := 4) (j := 8) (by decide) rfl rfl)).trans ((e _ (by simp [blks])).trans h.v.hB), (hne _ (ndx h.nd (i := 5) (j := 8) (by decide) rfl rfl)).trans ((e _ (by simp [blks])).trans h.v.hW), (hne _ (ndx h.nd (i := 6) (j := 8) (by decide) rfl rfl)).trans ((e _ (by simp [blks])).trans h.v.hD), owns_block h.v.map ((hne _ (ndx h.nd (i := 7) (j := 8) (by decide) rfl rfl)).trans (e _ (by simp [blks]))), h.v.spec, h.j0.below hbel⟩, by rw [setCell_at ((e _ (by simp [blks])).trans h.hO)]; rfl, (hne _ (ndx h.nd (i := 9) (j := 8) (by decide) rfl rfl)).trans ((e _ (by simp [blks])).trans h.hE), (hne _ (ndx h.nd (i := 10) (j := 8) (by decide) rfl rfl)).trans ((e _ (by simp [blks])).trans h.hT), h.nd, h.lo, hs.keep (fun k hk => hne k (by have h1 := hs.low hk; omega)), by rw [show (W'.setCell ⟨o.O, 0, none⟩ rv').heap.size = W'.heap.size by simp]; exact Nat.le_trans h.bs hb.size⟩

/-- One is done. -/
theorem DW.fin {W0 W : World} {d : Dd} {o : Do} {base : Nat} {pr : Int} {lv : Value} {l : List Lj} {rv : Value} {runs : List Int} {x : Rs} {cnt : Nat} {D : DataW Unit} (h : DW W0 W d o base pr lv l rv runs x cnt D) (i : Nat) (t : Int) (ht : t ≠ -1) : DW W0 ((W.setCell ⟨d.D, i, none⟩ (.bool true)).setCell ⟨o.E, i, none⟩ (.int .i64 t)) d o base pr lv l rv runs { x with en := x.en.set i t } cnt D := by
  have hlo := h.lo d.D (by simp [blks])
  have hlo2 := h.lo o.E (by simp [blks])
  have hne : ∀ c, c ≠ d.D → c ≠ o.E → ((W.setCell ⟨d.D, i, none⟩ (.bool true)).setCell ⟨o.E, i, none⟩ (.int .i64 t)).heap[c]? = W.heap[c]? := fun c hc hc' => (Below.heap_setCell _ _ _ _ hc').trans (Below.heap_setCell _ _ _ _ hc)
  have hbel : Below W0.heap.size W0 ((W.setCell ⟨d.D, i, none⟩ (.bool true)).setCell ⟨o.E, i, none⟩ (.int .i64 t)) := (h.bel.setCell hlo.1 _).setCell hlo2.1 _
  have hq : (t != -1) = true := by simpa using ht
  exact ⟨hbel, h.j0, ⟨(hne _ (ndx h.nd (i := 0) (j := 6) (by decide) rfl rfl) (ndx h.nd (i := 0) (j := 9) (by decide) rfl rfl)).trans h.v.hS, (hne _ (ndx h.nd (i := 1) (j := 6) (by decide) rfl rfl) (ndx h.nd (i := 1) (j := 9) (by decide) rfl rfl)).trans h.v.hP, (hne _ (ndx h.nd (i := 2) (j := 6) (by decide) rfl rfl) (ndx h.nd (i := 2) (j := 9) (by decide) rfl rfl)).trans h.v.hA, (hne _ (ndx h.nd (i := 3) (j := 6) (by decide) rfl rfl) (ndx h.nd (i := 3) (j := 9) (by decide) rfl rfl)).trans h.v.hK, (hne _ (ndx h.nd (i := 4) (j := 6) (by decide) rfl rfl) (ndx h.nd (i := 4) (j := 9) (by decide) rfl rfl)).trans h.v.hB, (hne _ (ndx h.nd (i := 5) (j := 6) (by decide) rfl rfl) (ndx h.nd (i := 5) (j := 9) (by decide) rfl rfl)).trans h.v.hW, by rw [Below.heap_setCell _ _ _ _ (show d.D ≠ o.E from (ndx h.nd (i := 6) (j := 9) (by decide) rfl rfl)), setCell_at h.v.hD, List.setIfInBounds_toArray, blV_set, List.map_set, hq], owns_block h.v.map (hne _ (ndx h.nd (i := 7) (j := 6) (by decide) rfl rfl) (ndx h.nd (i := 7) (j := 9) (by decide) rfl rfl)), h.v.spec, h.j0.below hbel⟩, (hne _ (ndx h.nd (i := 8) (j := 6) (by decide) rfl rfl) (ndx h.nd (i := 8) (j := 9) (by decide) rfl rfl)).trans h.hO, by rw [setCell_at ((Below.heap_setCell _ _ _ _ (show o.E ≠ d.D from (ndx h.nd (i := 9) (j := 6) (by decide) rfl rfl))).trans h.hE), List.setIfInBounds_toArray, inV_set], (hne _ (ndx h.nd (i := 10) (j := 6) (by decide) rfl rfl) (ndx h.nd (i := 10) (j := 9) (by decide) rfl rfl)).trans h.hT, h.nd, h.lo, h.stk.keep (fun k hk => hne k (by have h1 := h.stk.low hk; omega) (by have h1 := h.stk.low hk; omega)), by rw [show ((W.setCell ⟨d.D, i, none⟩ (.bool true)).setCell ⟨o.E, i, none⟩ (.int .i64 t)).heap.size = W.heap.size by simp]; exact h.bs⟩

/-- The map has turned. -/
theorem DW.mapT {W0 W : World} {d : Dd} {o : Do} {base : Nat} {pr : Int} {lv : Value} {l : List Lj} {rv : Value} {runs : List Int} {x : Rs} {cnt : Nat} {D : DataW Unit} {W' : World} (h : DW W0 W d o base pr lv l rv runs x cnt D) {hs : List Int} {cnt' : Nat} {D' : DataW Unit} (hg : W.grownBy W' (some d.M)) (ho : W'.ownsMap Try.prog 3 (plainElem Try.prog 3) d.M cnt' D') (hsp : MSpec D' hs) : DW W0 W' d o base pr lv l rv runs { x with hs := hs } cnt' D' := by
  have hlo := h.lo d.M (by simp [blks])
  have hne : ∀ c, c < W.heap.size → c ≠ d.M → W'.heap[c]? = W.heap[c]? := fun c hc hc' => hg.block c hc (by simpa using hc')
  have hbel := h.bel.grown hg h.bel.size (fun k hk => by cases hk; exact hlo.1)
  exact ⟨hbel, h.j0, ⟨(hne _ (heap_lt h.v.hS) (ndx h.nd (i := 0) (j := 7) (by decide) rfl rfl)).trans h.v.hS, (hne _ (heap_lt h.v.hP) (ndx h.nd (i := 1) (j := 7) (by decide) rfl rfl)).trans h.v.hP, (hne _ (heap_lt h.v.hA) (ndx h.nd (i := 2) (j := 7) (by decide) rfl rfl)).trans h.v.hA, (hne _ (heap_lt h.v.hK) (ndx h.nd (i := 3) (j := 7) (by decide) rfl rfl)).trans h.v.hK, (hne _ (heap_lt h.v.hB) (ndx h.nd (i := 4) (j := 7) (by decide) rfl rfl)).trans h.v.hB, (hne _ (heap_lt h.v.hW) (ndx h.nd (i := 5) (j := 7) (by decide) rfl rfl)).trans h.v.hW, (hne _ (heap_lt h.v.hD) (ndx h.nd (i := 6) (j := 7) (by decide) rfl rfl)).trans h.v.hD, ho, hsp, h.j0.below hbel⟩, (hne _ (heap_lt h.hO) (ndx h.nd (i := 8) (j := 7) (by decide) rfl rfl)).trans h.hO, (hne _ (heap_lt h.hE) (ndx h.nd (i := 9) (j := 7) (by decide) rfl rfl)).trans h.hE, (hne _ (heap_lt h.hT) (ndx h.nd (i := 10) (j := 7) (by decide) rfl rfl)).trans h.hT, h.nd, h.lo, h.stk.keep (fun k hk => by
    have h1 := h.stk.low hk
    rcases h.stk.cases with ⟨h0, -⟩ | ⟨g', cap, cur, h0, -, h2, -⟩
    · rw [h0] at hk; cases hk
    · rw [h0] at hk; cases hk; exact hne _ (heap_lt h2) (by omega)), Nat.le_trans h.bs hg.size⟩

theorem DW.frz {W0 W : World} {d : Dd} {o : Do} {base : Nat} {pr : Int} {lv : Value} {l : List Lj} {rv : Value} {runs : List Int} {x : Rs} {cnt : Nat} {D : DataW Unit} (h : DW W0 W d o base pr lv l rv runs x cnt D) : (∀ j, W.frozen? ⟨d.A, j, none⟩ = false) ∧ (∀ j, W.frozen? ⟨d.K, j, none⟩ = false) ∧ (∀ j, W.frozen? ⟨d.B, j, none⟩ = false) ∧ (∀ j, W.frozen? ⟨d.W, j, none⟩ = false) ∧ (∀ j, W.frozen? ⟨d.D, j, none⟩ = false) ∧ (∀ j, W.frozen? ⟨o.O, j, none⟩ = false) ∧ (∀ j, W.frozen? ⟨o.E, j, none⟩ = false) ∧ (∀ j, W.frozen? ⟨o.T, j, none⟩ = false) :=
  ⟨(cells_of h.v.hA).2.1, (cells_of h.v.hK).2.1, (cells_of h.v.hB).2.1, (cells_of h.v.hW).2.1, (cells_of h.v.hD).2.1, (cells_of (l := [_, _, _, _]) h.hO).2.1, (cells_of h.hE).2.1, (cells_of h.hT).2.1⟩
theorem DW.out {W0 W : World} {d : Dd} {o : Do} {base : Nat} {pr : Int} {lv : Value} {l : List Lj} {rv : Value} {runs : List Int} {x : Rs} {cnt : Nat} {D : DataW Unit} (h : DW W0 W d o base pr lv l rv runs x cnt D) : W.cell? ⟨o.O, 0, none⟩ = some rv ∧ W.cell? ⟨o.O, 1, none⟩ = some (sl0 o.E l.length) ∧ W.cell? ⟨o.O, 2, none⟩ = some (sl0 o.T l.length) ∧ W.cell? ⟨o.O, 3, none⟩ = some (.bool false) := by
  obtain ⟨c, -, -⟩ := cells_of (l := [_, _, _, _]) h.hO
  exact ⟨c 0 _ rfl, c 1 _ rfl, c 2 _ rfl, c 3 _ rfl⟩
theorem DW.ends {W0 W : World} {d : Dd} {o : Do} {base : Nat} {pr : Int} {lv : Value} {l : List Lj} {rv : Value} {runs : List Int} {x : Rs} {cnt : Nat} {D : DataW Unit} (h : DW W0 W d o base pr lv l rv runs x cnt D) {i : Nat} {z : Int} (hz : x.en[i]? = some z) : W.cell? ⟨o.E, i, none⟩ = some (.int .i64 z) := (cells_of h.hE).1 _ _ (inV_at hz)
theorem DW.waits {W0 W : World} {d : Dd} {o : Do} {base : Nat} {pr : Int} {lv : Value} {l : List Lj} {rv : Value} {runs : List Int} {x : Rs} {cnt : Nat} {D : DataW Unit} (h : DW W0 W d o base pr lv l rv runs x cnt D) {i : Nat} {z : Int} (hz : x.ws[i]? = some z) : W.cell? ⟨o.T, i, none⟩ = some (.int .i64 z) := (cells_of h.hT).1 _ _ (inV_at hz)
theorem DW.lts {W0 W : World} {d : Dd} {o : Do} {base : Nat} {pr : Int} {lv : Value} {l : List Lj} {rv : Value} {runs : List Int} {x : Rs} {cnt : Nat} {D : DataW Unit} (h : DW W0 W d o base pr lv l rv runs x cnt D) : o.O < W.heap.size ∧ o.E < W.heap.size ∧ o.T < W.heap.size := ⟨heap_lt h.hO, heap_lt h.hE, heap_lt h.hT⟩
end Go.Proofs.Ytcmoehednkaehah
