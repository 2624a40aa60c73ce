import Derived.Test.YtcmoehednkaehahLB
namespace Go.Proofs.Ytcmoehednkaehah.Once

/- The ceiling's argument, of numbers alone: nobody ever waits. -/
structure Sy where
  n : Nat
  a : Nat → Int
  p : Nat → Int
  top : Int → Int

structure Sx where
  bg : Nat → Prop
  dn : Nat → Prop
  hd : Nat → List Int

def actL (top : Int → Int) : List Int → Int → Int
  | [], z => z
  | L :: r, z => max (top L) (actL top r z)

def act (y : Sy) (s : Sx) (i : Nat) : Int := actL y.top (s.hd i) (y.p i)

theorem actL_ge (top : Int → Int) : ∀ (l : List Int) (z : Int), z ≤ actL top l z
  | [], _ => Int.le_refl _
  | L :: r, z => by have := actL_ge top r z; rw [actL]; omega

theorem actL_top (top : Int → Int) : ∀ (l : List Int) (z : Int) (L : Int), L ∈ l → top L ≤ actL top l z
  | [], _, _, h => by simp at h
  | M :: r, z, L, h => by
    rw [actL]
    rcases List.mem_cons.1 h with rfl | h
    · omega
    · have := actL_top top r z L h
      omega

theorem actL_is (top : Int → Int) : ∀ (l : List Int) (z : Int), actL top l z = z ∨ ∃ L ∈ l, actL top l z = top L
  | [], _ => .inl rfl
  | M :: r, z => by
    rw [actL]
    by_cases h : actL top r z ≤ top M
    · exact .inr ⟨M, List.mem_cons_self, by omega⟩
    · rcases actL_is top r z with e | ⟨L, h1, e⟩
      · exact .inl (by omega)
      · exact .inr ⟨L, List.mem_cons_of_mem _ h1, by omega⟩

theorem act_ge (y : Sy) (s : Sx) (i : Nat) : y.p i ≤ act y s i := actL_ge _ _ _
theorem act_top (y : Sy) (s : Sx) {i : Nat} {L : Int} (h : L ∈ s.hd i) : y.top L ≤ act y s i := actL_top _ _ _ _ h
theorem act_none (y : Sy) (s : Sx) {i : Nat} (h : s.hd i = []) : act y s i = y.p i := by unfold act; rw [h]; rfl
theorem act_is (y : Sy) (s : Sx) (i : Nat) : act y s i = y.p i ∨ ∃ L ∈ s.hd i, act y s i = y.top L := actL_is _ _ _

def lx (y : Sy) (i k : Nat) : Prop := y.a i < y.a k ∨ (y.a i = y.a k ∧ i < k)
def ah (y : Sy) (s : Sx) (i k : Nat) : Prop := act y s k < act y s i ∨ (act y s i = act y s k ∧ ((s.bg i ∧ ¬ s.bg k) ∨ ((s.bg i ↔ s.bg k) ∧ lx y i k)))
def There (y : Sy) (s : Sx) (now : Int) (i : Nat) : Prop := i < y.n ∧ y.a i ≤ now ∧ ¬ s.dn i
def Fm (y : Sy) (s : Sx) (now : Int) (i : Nat) : Prop := There y s now i ∧ ∀ k, There y s now k → k ≠ i → ah y s i k

structure Inv (y : Sy) (s : Sx) (now : Int) : Prop where
  bgt : ∀ i, s.bg i → i < y.n ∧ y.a i ≤ now
  held : ∀ i, s.hd i ≠ [] → s.bg i ∧ ¬ s.dn i
  own : ∀ i L, L ∈ s.hd i → y.p i ≤ y.top L
  i5 : ∀ i k, s.bg i → k < y.n → ¬ s.bg k → ¬ s.dn k → y.p i ≤ y.p k → lx y i k
  i6 : ∀ i k, s.hd i ≠ [] → k < y.n → k ≠ i → ¬ s.dn k → y.p i ≤ y.p k → lx y i k
  i4 : ∀ i k, i ≠ k → s.hd i ≠ [] → s.hd k ≠ [] → (∀ L ∈ s.hd i, y.top L < y.p k) ∨ (∀ L ∈ s.hd k, y.top L < y.p i)

theorem lx_asymm {y : Sy} {i k : Nat} (h : lx y i k) (h' : lx y k i) : False := by
  unfold lx at h h'
  omega

theorem Inv.there {y : Sy} {s : Sx} {now : Int} (v : Inv y s now) {i : Nat} (h : s.hd i ≠ []) : There y s now i :=
  ⟨(v.bgt i (v.held i h).1).1, (v.bgt i (v.held i h).1).2, (v.held i h).2⟩

/-- Who goes first, and holds none, has more than whoever holds some. -/
theorem Inv.more {y : Sy} {s : Sx} {now : Int} (v : Inv y s now) {i k : Nat} (hf : Fm y s now i) (hi : s.hd i = []) (hk : s.hd k ≠ []) : act y s k < y.p i := by
  have hne : k ≠ i := fun e => hk (e ▸ hi)
  have h := hf.2 k (v.there hk) hne
  have e := act_none y s hi
  have hg := act_ge y s k
  unfold ah at h
  rw [e] at h
  rcases h with h | ⟨h1, ⟨-, h2⟩ | ⟨-, h2⟩⟩
  · exact h
  · exact absurd (v.held k hk).1 h2
  · exact (lx_asymm h2 (v.i6 k i hk hf.1.1 (Ne.symm hne) hf.1.2.2 (by omega))).elim

/-- Who goes first, beside another that holds some, both holding some. -/
theorem Inv.less {y : Sy} {s : Sx} {now : Int} (v : Inv y s now) {i k : Nat} (hf : Fm y s now i) (hne : k ≠ i) (hi : s.hd i ≠ []) (hk : s.hd k ≠ []) : ∀ L ∈ s.hd k, y.top L < y.p i := by
  rcases v.i4 k i hne hk hi with h | h
  · exact h
  · exfalso
    have h1 : act y s i < act y s k := by
      have hg := act_ge y s k
      obtain ⟨M, hM⟩ := List.exists_mem_of_ne_nil _ hi
      have hp := v.own i M hM
      have hq := h M hM
      rcases act_is y s i with e | ⟨L, hL, e⟩
      · omega
      · have := h L hL
        omega
    have h2 := hf.2 k (v.there hk) hne
    unfold ah at h2
    omega

/-- Nobody else holds what the one that goes first takes. -/
theorem Inv.free {y : Sy} {s : Sx} {now : Int} (v : Inv y s now) {i k : Nat} {L : Int} (hf : Fm y s now i) (hL : y.p i ≤ y.top L) (hne : k ≠ i) : L ∉ s.hd k := by
  intro h
  have hk : s.hd k ≠ [] := fun e => by rw [e] at h; simp at h
  have ht := act_top y s h
  by_cases hi : s.hd i = []
  · have := v.more hf hi hk
    omega
  · have := v.less hf hne hi hk L h
    omega

def setP (f : Nat → Prop) (i : Nat) : Nat → Prop := fun k => k = i ∨ f k
def setH (f : Nat → List Int) (i : Nat) (l : List Int) : Nat → List Int := fun k => if k = i then l else f k
theorem setH_same (f : Nat → List Int) (i : Nat) (l : List Int) : setH f i l i = l := if_pos rfl
theorem setH_other (f : Nat → List Int) {i k : Nat} (l : List Int) (h : k ≠ i) : setH f i l k = f k := if_neg h

/-- One begins. -/
theorem Inv.begin {y : Sy} {s : Sx} {now : Int} (v : Inv y s now) {i : Nat} (hf : Fm y s now i) : Inv y ⟨setP s.bg i, s.dn, s.hd⟩ now := by
  refine ⟨fun k hk => ?_, fun k hk => ⟨.inr (v.held k hk).1, (v.held k hk).2⟩, v.own, fun k m hk hm hb hd hp => ?_, v.i6, v.i4⟩
  · rcases hk with rfl | hk
    · exact ⟨hf.1.1, hf.1.2.1⟩
    · exact v.bgt k hk
  · have hbm : ¬ s.bg m := fun h => hb (.inr h)
    have hmi : m ≠ i := fun e => hb (.inl e)
    by_cases hbk : s.bg k
    · exact v.i5 k m hbk hm hbm hd hp
    · rcases hk with rfl | hk
      · by_cases ht : y.a m ≤ now
        · have h := hf.2 m ⟨hm, ht, hd⟩ hmi
          have e1 := act_none y s (i := k) (Classical.byContradiction fun e => hbk (v.held k e).1)
          have e2 := act_ge y s m
          unfold ah at h
          rcases h with h | ⟨-, ⟨h1, -⟩ | ⟨-, h2⟩⟩
          · omega
          · exact absurd h1 hbk
          · exact h2
        · exact .inl (by have := hf.1.2.1; omega)
      · exact absurd hk hbk

theorem Fm.begin {y : Sy} {s : Sx} {now : Int} {i : Nat} (hf : Fm y s now i) : Fm y ⟨setP s.bg i, s.dn, s.hd⟩ now i := by
  refine ⟨hf.1, fun k hk hne => ?_⟩
  have h := hf.2 k hk hne
  unfold ah at h ⊢
  rcases h with h | ⟨h1, h⟩
  · exact .inl h
  · refine .inr ⟨h1, ?_⟩
    by_cases hb : s.bg k
    · rcases h with ⟨-, h⟩ | ⟨-, h⟩
      · exact absurd hb h
      · exact .inr ⟨⟨fun _ => .inr hb, fun _ => .inl rfl⟩, h⟩
    · exact .inl ⟨.inl rfl, fun h => h.elim hne hb⟩

/-- One that has begun takes a lock. -/
theorem Inv.take {y : Sy} {s : Sx} {now : Int} (v : Inv y s now) {i : Nat} {L : Int} (hf : Fm y s now i) (hb : s.bg i) (hL : y.p i ≤ y.top L) : Inv y ⟨s.bg, s.dn, setH s.hd i (L :: s.hd i)⟩ now := by
  have key : ∀ k, k ≠ i → s.hd k ≠ [] → ∀ M ∈ s.hd k, y.top M < y.p i := fun k hne hk M hM => by
    by_cases hi : s.hd i = []
    · have := v.more hf hi hk
      have := act_top y s hM
      omega
    · exact v.less hf hne hi hk M hM
  refine ⟨v.bgt, fun k hk => ?_, fun k M hM => ?_, v.i5, fun k m hk hm hne hd hp => ?_, fun k m hne hk hm => ?_⟩
  · by_cases e : k = i
    · subst e; exact ⟨hb, hf.1.2.2⟩
    · exact v.held k (by rw [← setH_other s.hd (L :: s.hd i) e]; exact hk)
  · by_cases e : k = i
    · subst e
      have hM' : M ∈ L :: s.hd k := by rw [← setH_same s.hd k (L :: s.hd k)]; exact hM
      rcases List.mem_cons.1 hM' with rfl | h
      · exact hL
      · exact v.own k M h
    · exact v.own k M (by rw [← setH_other s.hd (L :: s.hd i) e]; exact hM)
  · by_cases e : k = i
    · subst e
      by_cases hi : s.hd k = []
      · by_cases ht : y.a m ≤ now
        · have h := hf.2 m ⟨hm, ht, hd⟩ hne
          have e1 := act_none y s hi
          have e2 := act_ge y s m
          unfold ah at h
          rcases h with h | ⟨-, ⟨-, h2⟩ | ⟨-, h2⟩⟩
          · omega
          · exact v.i5 k m hb hm h2 hd hp
          · exact h2
        · exact .inl (by have := hf.1.2.1; omega)
      · exact v.i6 k m hi hm hne hd hp
    · exact v.i6 k m (by rw [← setH_other s.hd (L :: s.hd i) e]; exact hk) hm hne hd hp
  · by_cases e : k = i
    · subst e
      have e2 := setH_other s.hd (L :: s.hd k) (Ne.symm hne)
      right
      intro M hM
      have hM' : M ∈ s.hd m := by rw [← e2]; exact hM
      exact key m (Ne.symm hne) (by rw [← e2]; exact hm) M hM'
    · by_cases e' : m = i
      · subst e'
        have e2 := setH_other s.hd (L :: s.hd m) hne
        left
        intro M hM
        have hM' : M ∈ s.hd k := by rw [← e2]; exact hM
        exact key k hne (by rw [← e2]; exact hk) M hM'
      · have e1 := setH_other s.hd (L :: s.hd i) e
        have e2 := setH_other s.hd (L :: s.hd i) e'
        have := v.i4 k m hne (by rw [← e1]; exact hk) (by rw [← e2]; exact hm)
        show (∀ M ∈ setH s.hd i (L :: s.hd i) k, y.top M < y.p m) ∨ (∀ M ∈ setH s.hd i (L :: s.hd i) m, y.top M < y.p k)
        rw [e1, e2]
        exact this

/-- One gives the lock back that it took last. -/
theorem Inv.give {y : Sy} {s : Sx} {now : Int} (v : Inv y s now) {i : Nat} {L : Int} {r : List Int} (h : s.hd i = L :: r) : Inv y ⟨s.bg, s.dn, setH s.hd i r⟩ now := by
  have hs : ∀ k M, M ∈ setH s.hd i r k → M ∈ s.hd k := fun k M hM => by
    by_cases e : k = i
    · subst e
      rw [setH_same] at hM
      rw [h]
      exact List.mem_cons_of_mem _ hM
    · rw [setH_other _ _ e] at hM
      exact hM
  have hn : ∀ k, setH s.hd i r k ≠ [] → s.hd k ≠ [] := fun k hk e => by
    obtain ⟨M, hM⟩ := List.exists_mem_of_ne_nil _ hk
    have := hs k M hM
    rw [e] at this
    simp at this
  exact ⟨v.bgt, fun k hk => v.held k (hn k hk), fun k M hM => v.own k M (hs k M hM), v.i5, fun k m hk => v.i6 k m (hn k hk), fun k m hne hk hm => (v.i4 k m hne (hn k hk) (hn m hm)).imp (fun h M hM => h M (hs k M hM)) (fun h M hM => h M (hs m M hM))⟩

/-- One is done. -/
theorem Inv.done {y : Sy} {s : Sx} {now : Int} (v : Inv y s now) {i : Nat} (h : s.hd i = []) : Inv y ⟨s.bg, setP s.dn i, s.hd⟩ now :=
  ⟨v.bgt, fun k hk => ⟨(v.held k hk).1, fun hd => hd.elim (fun e => hk (e ▸ h)) (v.held k hk).2⟩, v.own, fun k m hb hm hbm hd => v.i5 k m hb hm hbm (fun h => hd (.inr h)), fun k m hk hm hne hd => v.i6 k m hk hm hne (fun h => hd (.inr h)), v.i4⟩

/-- Time goes on. -/
theorem Inv.later {y : Sy} {s : Sx} {now now' : Int} (v : Inv y s now) (h : now ≤ now') : Inv y s now' :=
  ⟨fun i hi => ⟨(v.bgt i hi).1, by have := (v.bgt i hi).2; omega⟩, v.held, v.own, v.i5, v.i6, v.i4⟩

/-- Ahead of the first tick. -/
theorem Inv.start (y : Sy) : Inv y ⟨fun _ => False, fun _ => False, fun _ => []⟩ 0 :=
  ⟨fun _ h => h.elim, fun _ h => absurd rfl h, fun _ _ h => by simp at h, fun _ _ h => h.elim, fun _ _ h => absurd rfl h, fun _ _ _ h => absurd rfl h⟩

/- How long one is held up. -/

/-- Whoever has less than j has, cannot come to run while j is there: what it holds stays as it is. -/
theorem Inv.below {y : Sy} {s : Sx} {now : Int} {i j : Nat} (hj : There y s now j) (hne : j ≠ i) (hl : act y s i < y.p j) : ¬ Fm y s now i := by
  intro hf
  have h := hf.2 j hj hne
  have := act_ge y s j
  unfold ah at h
  omega

/-- Of two that hold some and have less than j, one cannot run while j is there. -/
theorem Inv.one {y : Sy} {s : Sx} {now : Int} (v : Inv y s now) {i k j : Nat} (hne : i ≠ k) (hi : s.hd i ≠ []) (hk : s.hd k ≠ []) (hpi : y.p i < y.p j) (hpk : y.p k < y.p j) : act y s i < y.p j ∨ act y s k < y.p j := by
  rcases v.i4 i k hne hi hk with h | h
  · left
    rcases act_is y s i with e | ⟨L, hL, e⟩
    · omega
    · have := h L hL; omega
  · right
    rcases act_is y s k with e | ⟨L, hL, e⟩
    · omega
    · have := h L hL; omega
end Go.Proofs.Ytcmoehednkaehah.Once
