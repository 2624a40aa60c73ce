import Derived.Test.YtccoobcggbbciaiGreatDoorSPB
namespace Go.Proofs.YtccoobcggbbciaiGreatDoor.S8
open Go.ChangeShapes Go.WideShapes Go.ChangeAt Go.RowKit

/- Playing jobs: pure. -/
def jb0 : Jb := ⟨0, 0, 0, 0, 0⟩

def J (l : List Jb) (n : Nat) : Jb := l.getD n jb0

def L (left : List Int) (n : Nat) : Int := left.getD n 0

def key (pol : Int) (x : Jb) : Int := if pol = 1 then - x.p else x.d

def lex (a1 b1 c1 a2 b2 c2 : Int) : Prop := a1 < a2 ∨ (a1 = a2 ∧ (b1 < b2 ∨ (b1 = b2 ∧ c1 < c2)))

def lexJ (pol : Int) (l : List Jb) (i j : Nat) : Prop := lex (key pol (J l i)) (J l i).a i (key pol (J l j)) (J l j).a j

def ltE (pol : Int) (x y : En) : Prop := lex (key pol x.j) x.j.a x.n (key pol y.j) y.j.a y.n

theorem lexJ_trans {pol : Int} {l : List Jb} {i j k : Nat} (h : lexJ pol l i j) (h' : lexJ pol l j k) : lexJ pol l i k := by
  unfold lexJ lex at *; omega

theorem lexJ_irr {pol : Int} {l : List Jb} {i : Nat} : ¬ lexJ pol l i i := by
  unfold lexJ lex; omega

theorem lexJ_total {pol : Int} {l : List Jb} {i j : Nat} (h : i ≠ j) (h' : ¬ lexJ pol l i j) : lexJ pol l j i := by
  unfold lexJ lex at *; omega

theorem cfA_lt {pol : Int} (hp : pol = 1 ∨ pol = 2) (x y : En) : cfA pol x y < 0 ↔ ltE pol x y := by
  have h1 : ∀ a b : Int, cmpI a b < 0 ↔ a < b := fun a b => by unfold cmpI; split <;> (try split) <;> omega
  have h2 : ∀ a b : Int, cmpI a b = 0 ↔ a = b := fun a b => by unfold cmpI; split <;> (try split) <;> omega
  have h3 : ∀ a b c : Int, or3 a b c < 0 ↔ (a < 0 ∨ (a = 0 ∧ (b < 0 ∨ (b = 0 ∧ c < 0)))) := fun a b c => by
    unfold or3
    by_cases ha : a = 0
    · by_cases hb : b = 0
      · simp [ha, hb]
      · simp [ha, hb]
    · simp [ha]
  unfold cfA ltE lex key
  rw [h3, h1, h2, h1]
  rcases hp with rfl | rfl
  · rw [if_pos rfl, if_pos rfl, if_pos rfl, h1, h2]; omega
  · rw [if_neg (by decide), if_neg (by decide), if_neg (by decide), h1, h2]

/-- The one that goes first of those that are there. -/
def IsBest (l : List Jb) (pol : Int) (left : List Int) (t : Int) (b : Int) : Prop :=
  (b = -1 ∧ ∀ i, i < l.length → ¬ ((J l i).a ≤ t ∧ 0 < L left i)) ∨
  (∃ i : Nat, b = (i : Int) ∧ i < l.length ∧ (J l i).a ≤ t ∧ 0 < L left i ∧ ∀ j, j < l.length → (J l j).a ≤ t → 0 < L left j → j ≠ i → lexJ pol l i j)

theorem isBest_unique {l : List Jb} {pol : Int} {left : List Int} {t b b' : Int} (h : IsBest l pol left t b) (h' : IsBest l pol left t b') : b = b' := by
  rcases h with ⟨rfl, h⟩ | ⟨i, rfl, hi, h1, h2, h3⟩
  · rcases h' with ⟨rfl, _⟩ | ⟨i, rfl, hi, h1, h2, _⟩
    · rfl
    · exact absurd ⟨h1, h2⟩ (h i hi)
  · rcases h' with ⟨rfl, h'⟩ | ⟨j, rfl, hj, g1, g2, g3⟩
    · exact absurd ⟨h1, h2⟩ (h' i hi)
    · by_cases e : i = j
      · rw [e]
      · exact absurd (lexJ_trans (h3 j hj g1 g2 (fun x => e x.symm)) (g3 i hi h1 h2 e)) lexJ_irr

/-- How far it was played. -/
structure St where
  left : List Int
  ends : List Int
  runs : List Int

def St.init (l : List Jb) : St := ⟨l.map (·.c), List.replicate l.length (-1), []⟩

def St.last (s : St) : Int := s.runs.getLast?.getD (-1)

/-- One that ran and still is there. -/
def St.on (s : St) : Prop := 0 ≤ s.last ∧ 0 < L s.left s.last.toNat

def St.after (s : St) (t : Nat) (b : Int) : St := if b < 0 then ⟨s.left, s.ends, s.runs ++ [-1]⟩ else ⟨s.left.set b.toNat (L s.left b.toNat - 1), if L s.left b.toNat - 1 = 0 then s.ends.set b.toNat ((t : Int) + 1) else s.ends, s.runs ++ [b]⟩

def Pick (l : List Jb) (pol : Int) (pre : Bool) (t : Nat) (s : St) (b : Int) : Prop := (pre = false ∧ s.on ∧ b = s.last) ∨ (¬ (pre = false ∧ s.on) ∧ IsBest l pol s.left (t : Int) b)

def Plays (l : List Jb) (pol : Int) (pre : Bool) : Nat → St → Prop
  | 0, s => s = St.init l
  | t + 1, s => ∃ s0 b, Plays l pol pre t s0 ∧ Pick l pol pre t s0 b ∧ s = s0.after t b

theorem pick_unique {l : List Jb} {pol : Int} {pre : Bool} {t : Nat} {s : St} {b b' : Int} (h : Pick l pol pre t s b) (h' : Pick l pol pre t s b') : b = b' := by
  rcases h with ⟨h1, h2, rfl⟩ | ⟨h1, h2⟩
  · rcases h' with ⟨_, _, rfl⟩ | ⟨g1, _⟩
    · rfl
    · exact absurd ⟨h1, h2⟩ g1
  · rcases h' with ⟨g1, g2, _⟩ | ⟨_, g2⟩
    · exact absurd ⟨g1, g2⟩ h1
    · exact isBest_unique h2 g2

theorem plays_unique {l : List Jb} {pol : Int} {pre : Bool} : ∀ (t : Nat) (s s' : St), Plays l pol pre t s → Plays l pol pre t s' → s = s'
  | 0, s, s', h, h' => by rw [show s = _ from h, show s' = _ from h']
  | t + 1, s, s', ⟨s0, b, h1, h2, h3⟩, ⟨s1, b', g1, g2, g3⟩ => by
    have e := plays_unique t s0 s1 h1 g1
    subst e
    have e2 := pick_unique h2 g2
    subst e2
    rw [h3, g3]

/-- What is so at every time. -/
structure Ok (l : List Jb) (t : Nat) (s : St) : Prop where
  left : s.left.length = l.length
  ends : s.ends.length = l.length
  runs : s.runs.length = t
  nneg : ∀ i, 0 ≤ L s.left i
  small : ∀ i, L s.left i ≤ 10000
  rng : ∀ r ∈ s.runs, r = -1 ∨ (0 ≤ r ∧ r < (l.length : Int))

theorem L_set {left : List Int} {i j : Nat} {v : Int} (hi : i < left.length) : L (left.set i v) j = if j = i then v else L left j := by
  unfold L
  rw [List.getD_eq_getElem?_getD, List.getD_eq_getElem?_getD, List.getElem?_set]
  by_cases h : i = j
  · subst h; simp [hi]
  · simp [h, Ne.symm h]

theorem last_rng {l : List Jb} {t : Nat} {s : St} (h : Ok l t s) : s.last = -1 ∨ (0 ≤ s.last ∧ s.last < (l.length : Int)) := by
  unfold St.last
  cases e : s.runs.getLast? with
  | none => exact .inl rfl
  | some r => exact h.rng r (List.mem_of_getLast? e)

theorem pick_rng {l : List Jb} {pol : Int} {pre : Bool} {t : Nat} {s : St} {b : Int} (h : Ok l t s) (hp : Pick l pol pre t s b) : b = -1 ∨ (∃ i : Nat, b = (i : Int) ∧ i < l.length ∧ 0 < L s.left i) := by
  rcases hp with ⟨_, ⟨h1, h2⟩, rfl⟩ | ⟨_, ⟨rfl, _⟩ | ⟨i, rfl, hi, _, h2, _⟩⟩
  · rcases last_rng h with e | ⟨_, e⟩
    · omega
    · exact .inr ⟨s.last.toNat, by omega, by omega, h2⟩
  · exact .inl rfl
  · exact .inr ⟨i, rfl, hi, h2⟩

theorem ok_after {l : List Jb} {pol : Int} {pre : Bool} {t : Nat} {s : St} {b : Int} (h : Ok l t s) (hp : Pick l pol pre t s b) : Ok l (t + 1) (s.after t b) := by
  rcases pick_rng h hp with rfl | ⟨i, rfl, hi, h0⟩
  · have e : s.after t (-1) = ⟨s.left, s.ends, s.runs ++ [-1]⟩ := rfl
    rw [e]
    exact ⟨h.left, h.ends, by simp [h.runs], h.nneg, h.small, fun r hr => by
      rcases List.mem_append.1 hr with hr | hr
      · exact h.rng r hr
      · simp at hr; exact .inl hr⟩
  · have hil : i < s.left.length := by rw [h.left]; exact hi
    have e : s.after t (i : Int) = ⟨s.left.set i (L s.left i - 1), if L s.left i - 1 = 0 then s.ends.set i ((t : Int) + 1) else s.ends, s.runs ++ [(i : Int)]⟩ := by
      unfold St.after
      rw [if_neg (by omega), Int.toNat_natCast]
    rw [e]
    refine ⟨by simp [h.left], ?_, by simp [h.runs], fun j => ?_, fun j => ?_, fun r hr => ?_⟩
    · dsimp only
      split
      · rw [List.length_set]; exact h.ends
      · exact h.ends
    · dsimp only
      rw [L_set hil]
      split
      · omega
      · exact h.nneg j
    · dsimp only
      rw [L_set hil]
      have := h.small i
      split
      · omega
      · exact h.small j
    · rcases List.mem_append.1 hr with hr | hr
      · exact h.rng r hr
      · simp at hr; exact .inr ⟨by omega, by omega⟩

theorem ok_init {l : List Jb} (hl : ∀ x ∈ l, okJ x) : Ok l 0 (St.init l) := by
  have key : ∀ i, 0 ≤ L (St.init l).left i ∧ L (St.init l).left i ≤ 10000 := fun i => by
    unfold L St.init
    dsimp only
    rw [List.getD_eq_getElem?_getD, List.getElem?_map]
    cases e : l[i]? with
    | none => simp
    | some x =>
      have := hl x (List.mem_of_getElem? e)
      unfold okJ at this
      simp
      omega
  exact ⟨by simp [St.init], by simp [St.init], rfl, fun i => (key i).1, fun i => (key i).2, fun r hr => by simp [St.init] at hr⟩

theorem plays_ok {l : List Jb} {pol : Int} {pre : Bool} (hl : ∀ x ∈ l, okJ x) : ∀ (t : Nat) (s : St), Plays l pol pre t s → Ok l t s
  | 0, s, h => by rw [show s = _ from h]; exact ok_init hl
  | t + 1, s, ⟨s0, b, h1, h2, h3⟩ => by rw [h3]; exact ok_after (plays_ok hl t s0 h1) h2

theorem last_snoc (left ends runs : List Int) (b : Int) : (St.mk left ends (runs ++ [b])).last = b := by
  unfold St.last; simp
end Go.Proofs.YtccoobcggbbciaiGreatDoor.S8
namespace Go.Proofs.YtccoobcggbbciaiGreatDoor.S8
open Go.ChangeShapes Go.WideShapes Go.ChangeAt Go.RowKit

def RK (rk : List Nat) (p : Nat) : Nat := rk.getD p 0

def entsOf (l : List Jb) (rk : List Nat) (left : List Int) : List En := rk.map fun n => ⟨J l n, (n : Int), L left n⟩

structure Ranked (l : List Jb) (pol : Int) (rk : List Nat) : Prop where
  perm : rk.Perm (List.range l.length)
  sorted : ∀ p q, p < q → q < rk.length → lexJ pol l (RK rk p) (RK rk q)

theorem Ranked.len {l : List Jb} {pol : Int} {rk : List Nat} (h : Ranked l pol rk) : rk.length = l.length := by
  have := h.perm.length_eq; simpa using this

theorem RK_get {rk : List Nat} {p : Nat} (h : p < rk.length) : rk[p]? = some (RK rk p) := by
  unfold RK; rw [List.getD_eq_getElem?_getD, List.getElem?_eq_getElem h]; rfl

theorem Ranked.lt {l : List Jb} {pol : Int} {rk : List Nat} (h : Ranked l pol rk) {p : Nat} (hp : p < l.length) : RK rk p < l.length := by
  have := List.mem_of_getElem? (RK_get (rk := rk) (p := p) (by rw [h.len]; exact hp))
  simpa using h.perm.mem_iff.1 this

theorem Ranked.inj {l : List Jb} {pol : Int} {rk : List Nat} (h : Ranked l pol rk) {p q : Nat} (hp : p < l.length) (hq : q < l.length) (e : RK rk p = RK rk q) : p = q := by
  rw [← h.len] at hp hq
  rcases Nat.lt_trichotomy p q with hlt | rfl | hlt
  · have := h.sorted p q hlt hq
    rw [e] at this
    exact absurd this lexJ_irr
  · rfl
  · have := h.sorted q p hlt hp
    rw [e] at this
    exact absurd this lexJ_irr

theorem Ranked.sur {l : List Jb} {pol : Int} {rk : List Nat} (h : Ranked l pol rk) {n : Nat} (hn : n < l.length) : ∃ p, p < l.length ∧ RK rk p = n := by
  have : n ∈ rk := h.perm.mem_iff.2 (by simpa using hn)
  obtain ⟨p, hp, e⟩ := List.mem_iff_getElem.1 this
  refine ⟨p, by rw [← h.len]; exact hp, ?_⟩
  unfold RK
  rw [List.getD_eq_getElem?_getD, List.getElem?_eq_getElem hp, e]
  rfl

structure Coming (l : List Jb) (rk cm : List Nat) : Prop where
  perm : cm.Perm (List.range l.length)
  sorted : cm.Pairwise (fun p q => (J l (RK rk p)).a ≤ (J l (RK rk q)).a)

theorem Coming.len {l : List Jb} {rk cm : List Nat} (h : Coming l rk cm) : cm.length = l.length := by
  have := h.perm.length_eq; simpa using this

theorem Coming.nodup {l : List Jb} {rk cm : List Nat} (h : Coming l rk cm) : cm.Nodup := h.perm.nodup_iff.2 List.nodup_range

theorem Coming.mem {l : List Jb} {rk cm : List Nat} (h : Coming l rk cm) {p : Nat} : p ∈ cm ↔ p < l.length := by
  rw [h.perm.mem_iff]; simp

/-- Who is there: so many have come. -/
structure Core (l : List Jb) (rk cm : List Nat) (k : Nat) (th : List Nat) (left : List Int) : Prop where
  kle : k ≤ cm.length
  asc : th.Pairwise (· < ·)
  mem : ∀ p, p ∈ th ↔ p ∈ cm.take k ∧ 0 < L left (RK rk p)
  pos : ∀ p ∈ cm.drop k, 0 < L left (RK rk p)

theorem Core.lt {l : List Jb} {rk cm : List Nat} {k : Nat} {th : List Nat} {left : List Int} (h : Core l rk cm k th left) (hc : Coming l rk cm) {p : Nat} (hp : p ∈ th) : p < l.length :=
  hc.mem.1 (List.mem_of_mem_take ((h.mem p).1 hp).1)

theorem asc_len {n : Nat} : ∀ (th : List Nat) (m : Nat), m ≤ n → th.Pairwise (· < ·) → (∀ x ∈ th, m ≤ x ∧ x < n) → th.length + m ≤ n
  | [], m, h, _, _ => by simpa using h
  | x :: r, m, h, ha, hb => by
    obtain ⟨h1, h2⟩ := List.pairwise_cons.1 ha
    have hx := hb x List.mem_cons_self
    have := asc_len r (x + 1) (by omega) h2 (fun y hy => ⟨h1 y hy, (hb y (List.mem_cons_of_mem _ hy)).2⟩)
    simp; omega

theorem Core.len {l : List Jb} {rk cm : List Nat} {k : Nat} {th : List Nat} {left : List Int} (h : Core l rk cm k th left) (hc : Coming l rk cm) : th.length ≤ l.length := by
  have := asc_len (n := l.length) th 0 (Nat.zero_le _) h.asc (fun x hx => ⟨Nat.zero_le _, h.lt hc hx⟩)
  omega

/- Numbers that rise. -/
theorem ins_asc {th : List Nat} (p : Nat) (h : th.Pairwise (· < ·)) (hp : p ∉ th) : (th.take (th.countP (· < p)) ++ p :: th.drop (th.countP (· < p))).Pairwise (· < ·) ∧ (∀ x, x ∈ th.take (th.countP (· < p)) → x < p) ∧ (∀ x, x ∈ th.drop (th.countP (· < p)) → p < x) := by
  induction th with
  | nil => simp
  | cons x r ih =>
    obtain ⟨h1, h2⟩ := List.pairwise_cons.1 h
    by_cases hx : x < p
    · have hc : (x :: r).countP (· < p) = r.countP (· < p) + 1 := by rw [List.countP_cons_of_pos (by simpa using hx)]
      obtain ⟨i1, i2, i3⟩ := ih h2 (fun e => hp (List.mem_cons_of_mem _ e))
      rw [hc, List.take_succ_cons, List.drop_succ_cons]
      refine ⟨?_, ?_, i3⟩
      · rw [List.cons_append]
        refine List.pairwise_cons.2 ⟨fun y hy => ?_, i1⟩
        rcases List.mem_append.1 hy with hy | hy
        · exact h1 y (List.mem_of_mem_take hy)
        · rcases List.mem_cons.1 hy with rfl | hy
          · exact hx
          · exact h1 y (List.mem_of_mem_drop hy)
      · intro y hy
        rcases List.mem_cons.1 hy with rfl | hy
        · exact hx
        · exact i2 y hy
    · have hpx : p < x := by
        have : p ≠ x := fun e => hp (by rw [e]; exact List.mem_cons_self)
        omega
      have hc : (x :: r).countP (· < p) = 0 := by
        rw [List.countP_eq_zero]
        intro y hy
        rcases List.mem_cons.1 hy with rfl | hy
        · simpa using hx
        · have := h1 y hy
          simp; omega
      rw [hc]
      simp only [List.take_zero, List.drop_zero, List.nil_append]
      refine ⟨List.pairwise_cons.2 ⟨fun y hy => ?_, h⟩, by simp, fun y hy => ?_⟩
      all_goals
        rcases List.mem_cons.1 hy with rfl | hy
        · exact hpx
        · have := h1 y hy; omega

theorem del_asc {th : List Nat} (p : Nat) (h : th.Pairwise (· < ·)) (hp : p ∈ th) : th.countP (· < p) < th.length ∧ th[th.countP (· < p)]? = some p ∧ (th.take (th.countP (· < p)) ++ th.drop (th.countP (· < p) + 1)).Pairwise (· < ·) ∧ ∀ x, x ∈ th.take (th.countP (· < p)) ++ th.drop (th.countP (· < p) + 1) ↔ x ∈ th ∧ x ≠ p := by
  induction th with
  | nil => simp at hp
  | cons x r ih =>
    obtain ⟨h1, h2⟩ := List.pairwise_cons.1 h
    by_cases hx : x < p
    · have hc : (x :: r).countP (· < p) = r.countP (· < p) + 1 := by rw [List.countP_cons_of_pos (by simpa using hx)]
      have hpr : p ∈ r := by
        rcases List.mem_cons.1 hp with e | e
        · omega
        · exact e
      obtain ⟨i1, i2, i3, i4⟩ := ih h2 hpr
      rw [hc, List.take_succ_cons, List.drop_succ_cons]
      refine ⟨by simp; omega, by simpa using i2, ?_, fun y => ?_⟩
      · rw [List.cons_append]
        refine List.pairwise_cons.2 ⟨fun y hy => ?_, i3⟩
        exact h1 y ((i4 y).1 hy).1
      · rw [List.cons_append, List.mem_cons, List.mem_cons, i4 y]
        constructor
        · rintro (rfl | ⟨a, b⟩)
          · exact ⟨.inl rfl, by omega⟩
          · exact ⟨.inr a, b⟩
        · rintro ⟨rfl | a, b⟩
          · exact .inl rfl
          · exact .inr ⟨a, b⟩
    · have hpx : p = x := by
        rcases List.mem_cons.1 hp with e | e
        · exact e
        · have := h1 p e; omega
      subst hpx
      have hc : (p :: r).countP (· < p) = 0 := by
        rw [List.countP_eq_zero]
        intro y hy
        rcases List.mem_cons.1 hy with rfl | hy
        · simp
        · have := h1 y hy
          simp; omega
      rw [hc]
      simp only [List.take_zero, List.nil_append, Nat.zero_add, List.drop_succ_cons, List.drop_zero]
      refine ⟨by simp, by simp, h2, fun y => ?_⟩
      rw [List.mem_cons]
      constructor
      · intro hy
        have := h1 y hy
        exact ⟨.inr hy, by omega⟩
      · rintro ⟨rfl | a, b⟩
        · exact absurd rfl b
        · exact a

/-- One comes. -/
theorem Core.come {l : List Jb} {rk cm : List Nat} {k : Nat} {th : List Nat} {left : List Int} {p : Nat} (h : Core l rk cm k th left) (hc : Coming l rk cm) (hk : cm[k]? = some p) : Core l rk cm (k + 1) (th.take (th.countP (· < p)) ++ p :: th.drop (th.countP (· < p))) left ∧ p ∉ th := by
  have hlt : k < cm.length := (List.getElem?_eq_some_iff.1 hk).1
  have hdr : cm.drop k = p :: cm.drop (k + 1) := by
    rw [List.drop_eq_getElem_cons hlt, (List.getElem?_eq_some_iff.1 hk).2]
  have hsp : cm.take k ++ cm.drop k = cm := List.take_append_drop _ _
  have hnd : (cm.take k ++ cm.drop k).Nodup := by rw [hsp]; exact hc.nodup
  have hpt : p ∉ cm.take k := fun e => (List.nodup_append.1 hnd).2.2 p e p (by rw [hdr]; exact List.mem_cons_self) rfl
  have hp : p ∉ th := fun e => hpt ((h.mem p).1 e).1
  have hpos : 0 < L left (RK rk p) := h.pos p (by rw [hdr]; exact List.mem_cons_self)
  have htk : cm.take (k + 1) = cm.take k ++ [p] := by rw [List.take_add_one, hk]; rfl
  refine ⟨⟨by omega, (ins_asc p h.asc hp).1, fun x => ?_, fun x hx => h.pos x (by rw [hdr]; exact List.mem_cons_of_mem _ hx)⟩, hp⟩
  have hm : x ∈ th.take (th.countP (· < p)) ++ p :: th.drop (th.countP (· < p)) ↔ x = p ∨ x ∈ th := by
    rw [List.mem_append, List.mem_cons]
    have : x ∈ th ↔ x ∈ th.take (th.countP (· < p)) ∨ x ∈ th.drop (th.countP (· < p)) := by rw [← List.mem_append, List.take_append_drop]
    rw [this]
    constructor
    · rintro (a | a | a)
      · exact .inr (.inl a)
      · exact .inl a
      · exact .inr (.inr a)
    · rintro (a | a | a)
      · exact .inr (.inl a)
      · exact .inl a
      · exact .inr (.inr a)
  rw [hm, h.mem, htk, List.mem_append, List.mem_singleton]
  constructor
  · rintro (rfl | ⟨a, b⟩)
    · exact ⟨.inr rfl, hpos⟩
    · exact ⟨.inl a, b⟩
  · rintro ⟨a | rfl, b⟩
    · exact .inr ⟨a, b⟩
    · exact .inl rfl

/-- All have come that come so early, and no others. -/
structure Now (l : List Jb) (rk cm : List Nat) (k : Nat) (t : Int) : Prop where
  come : ∀ p ∈ cm.take k, (J l (RK rk p)).a ≤ t
  wait : ∀ p ∈ cm.drop k, t < (J l (RK rk p)).a

theorem Coming.wait {l : List Jb} {rk cm : List Nat} {k p : Nat} {t : Int} (hc : Coming l rk cm) (hk : cm[k]? = some p) (hp : t < (J l (RK rk p)).a) : ∀ q ∈ cm.drop k, t < (J l (RK rk q)).a := by
  have hlt : k < cm.length := (List.getElem?_eq_some_iff.1 hk).1
  have hdr : cm.drop k = p :: cm.drop (k + 1) := by
    rw [List.drop_eq_getElem_cons hlt, (List.getElem?_eq_some_iff.1 hk).2]
  have hs : (cm.drop k).Pairwise (fun p q => (J l (RK rk p)).a ≤ (J l (RK rk q)).a) := hc.sorted.drop
  rw [hdr] at hs ⊢
  intro q hq
  rcases List.mem_cons.1 hq with rfl | hq
  · exact hp
  · have := (List.pairwise_cons.1 hs).1 q hq
    omega

theorem Core.there {l : List Jb} {rk cm : List Nat} {k : Nat} {th : List Nat} {left : List Int} {t : Int} (h : Core l rk cm k th left) (hc : Coming l rk cm) (hn : Now l rk cm k t) (p : Nat) : p ∈ th ↔ p < l.length ∧ (J l (RK rk p)).a ≤ t ∧ 0 < L left (RK rk p) := by
  rw [h.mem]
  constructor
  · rintro ⟨a, b⟩
    exact ⟨hc.mem.1 (List.mem_of_mem_take a), hn.come p a, b⟩
  · rintro ⟨a, b, c⟩
    have : p ∈ cm.take k ++ cm.drop k := by rw [List.take_append_drop]; exact hc.mem.2 a
    rcases List.mem_append.1 this with e | e
    · exact ⟨e, c⟩
    · have := hn.wait p e; omega

/-- The foremost one. -/
theorem Core.best_none {l : List Jb} {pol : Int} {rk cm : List Nat} {k : Nat} {left : List Int} {t : Int} (h : Core l rk cm k [] left) (hr : Ranked l pol rk) (hc : Coming l rk cm) (hn : Now l rk cm k t) : IsBest l pol left t (-1) := by
  refine .inl ⟨rfl, fun i hi ⟨h1, h2⟩ => ?_⟩
  obtain ⟨p, hp, rfl⟩ := hr.sur hi
  have := (h.there hc hn p).2 ⟨hp, h1, h2⟩
  simp at this

theorem Core.best_some {l : List Jb} {pol : Int} {rk cm : List Nat} {k p : Nat} {r : List Nat} {left : List Int} {t : Int} (h : Core l rk cm k (p :: r) left) (hr : Ranked l pol rk) (hc : Coming l rk cm) (hn : Now l rk cm k t) : IsBest l pol left t ((RK rk p : Nat) : Int) := by
  obtain ⟨h0, h1, h2⟩ := (h.there hc hn p).1 List.mem_cons_self
  refine .inr ⟨RK rk p, rfl, hr.lt h0, h1, h2, fun j hj g1 g2 hne => ?_⟩
  obtain ⟨q, hq, rfl⟩ := hr.sur hj
  have hm := (h.there hc hn q).2 ⟨hq, g1, g2⟩
  rcases List.mem_cons.1 hm with rfl | hm
  · exact absurd rfl hne
  · exact hr.sorted p q ((List.pairwise_cons.1 h.asc).1 q hm) (by rw [hr.len]; exact hq)

/-- One tick of one that goes on. -/
theorem Core.tick {l : List Jb} {pol : Int} {rk cm : List Nat} {k p : Nat} {th : List Nat} {left : List Int} {v : Int} (h : Core l rk cm k th left) (hr : Ranked l pol rk) (hc : Coming l rk cm) (hl : left.length = l.length) (hp : p ∈ th) (hv : 0 < v) : Core l rk cm k th (left.set (RK rk p) v) := by
  have hpl := h.lt hc hp
  have hL : ∀ q, q < l.length → (0 < L (left.set (RK rk p) v) (RK rk q) ↔ 0 < L left (RK rk q)) := fun q hq => by
    rw [L_set (by rw [hl]; exact hr.lt hpl)]
    by_cases e : RK rk q = RK rk p
    · rw [if_pos e, e]
      exact ⟨fun _ => ((h.mem p).1 hp).2, fun _ => hv⟩
    · rw [if_neg e]
  refine ⟨h.kle, h.asc, fun q => ?_, fun q hq => ?_⟩
  · rw [h.mem]
    constructor
    · rintro ⟨a, b⟩
      exact ⟨a, (hL q (hc.mem.1 (List.mem_of_mem_take a))).2 b⟩
    · rintro ⟨a, b⟩
      exact ⟨a, (hL q (hc.mem.1 (List.mem_of_mem_take a))).1 b⟩
  · exact (hL q (hc.mem.1 (List.mem_of_mem_drop hq))).2 (h.pos q hq)

/-- One is done, and leaves. -/
theorem Core.leave {l : List Jb} {pol : Int} {rk cm : List Nat} {k p : Nat} {th : List Nat} {left : List Int} (h : Core l rk cm k th left) (hr : Ranked l pol rk) (hc : Coming l rk cm) (hl : left.length = l.length) (hp : p ∈ th) : Core l rk cm k (th.take (th.countP (· < p)) ++ th.drop (th.countP (· < p) + 1)) (left.set (RK rk p) 0) := by
  have hpl := h.lt hc hp
  obtain ⟨-, -, ha, hm⟩ := del_asc p h.asc hp
  have hL : ∀ q, q < l.length → (0 < L (left.set (RK rk p) 0) (RK rk q) ↔ 0 < L left (RK rk q) ∧ q ≠ p) := fun q hq => by
    rw [L_set (by rw [hl]; exact hr.lt hpl)]
    by_cases e : RK rk q = RK rk p
    · rw [if_pos e]
      exact ⟨fun h => by omega, fun ⟨_, h⟩ => absurd (hr.inj hq hpl e) h⟩
    · rw [if_neg e]
      exact ⟨fun h => ⟨h, fun e' => e (by rw [e'])⟩, fun h => h.1⟩
  refine ⟨h.kle, ha, fun q => ?_, fun q hq => ?_⟩
  · rw [hm, h.mem]
    constructor
    · rintro ⟨⟨a, b⟩, c⟩
      exact ⟨a, (hL q (hc.mem.1 (List.mem_of_mem_take a))).2 ⟨b, c⟩⟩
    · rintro ⟨a, b⟩
      have := (hL q (hc.mem.1 (List.mem_of_mem_take a))).1 b
      exact ⟨⟨a, this.1⟩, this.2⟩
  · refine (hL q (hc.mem.1 (List.mem_of_mem_drop hq))).2 ⟨h.pos q hq, fun e => ?_⟩
    subst e
    have hnd : (cm.take k ++ cm.drop k).Nodup := by rw [List.take_append_drop]; exact hc.nodup
    exact (List.nodup_append.1 hnd).2.2 q ((h.mem q).1 hp).1 q hq rfl

/-- What the program holds of who runs. -/
def RunAt (rk : List Nat) (th : List Nat) (s : St) (run : Int) : Prop := (¬ s.on ∧ run = -1) ∨ (s.on ∧ ∃ p : Nat, run = (p : Int) ∧ p ∈ th ∧ s.last = ((RK rk p : Nat) : Int))
end Go.Proofs.YtccoobcggbbciaiGreatDoor.S8
