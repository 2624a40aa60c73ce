import Derived.Test.YtekbkcgpjkecbalDoorSPA
import Derived.Test.YtekbkcgpjkecbalDoorSPB
namespace Go.Proofs.YtekbkcgpjkecbalDoor.S8
open Go.ChangeShapes Go.WideShapes Go.ChangeAt Go.RowKit

/- Playing jobs: pure. -/
def jb0 : Jb := ⟨0, 0, 0, 0, 0⟩

def J (l : List Jb) (n : Nat) : Jb := l.getD n jb0

def L (left : List Int) (n : Nat) : Int := left.getD n 0

def key (pol : Int) (x : Jb) : Int := if pol = 1 then - x.p else x.d

def lex (a1 b1 c1 a2 b2 c2 : Int) : Prop := a1 < a2 ∨ (a1 = a2 ∧ (b1 < b2 ∨ (b1 = b2 ∧ c1 < c2)))

def lexJ (pol : Int) (l : List Jb) (i j : Nat) : Prop := lex (key pol (J l i)) (J l i).a i (key pol (J l j)) (J l j).a j

def ltE (pol : Int) (x y : En) : Prop := lex (key pol x.j) x.j.a x.n (key pol y.j) y.j.a y.n

theorem lexJ_trans {pol : Int} {l : List Jb} {i j k : Nat} (h : lexJ pol l i j) (h' : lexJ pol l j k) : lexJ pol l i k := by
  unfold lexJ lex at *; omega

theorem lexJ_irr {pol : Int} {l : List Jb} {i : Nat} : ¬ lexJ pol l i i := by
  unfold lexJ lex; omega

theorem lexJ_total {pol : Int} {l : List Jb} {i j : Nat} (h : i ≠ j) (h' : ¬ lexJ pol l i j) : lexJ pol l j i := by
  unfold lexJ lex at *; omega

theorem cfA_lt {pol : Int} (hp : pol = 1 ∨ pol = 2) (x y : En) : cfA pol x y < 0 ↔ ltE pol x y := by
  have h1 : ∀ a b : Int, cmpI a b < 0 ↔ a < b := fun a b => by unfold cmpI; split <;> (try split) <;> omega
  have h2 : ∀ a b : Int, cmpI a b = 0 ↔ a = b := fun a b => by unfold cmpI; split <;> (try split) <;> omega
  have h3 : ∀ a b c : Int, or3 a b c < 0 ↔ (a < 0 ∨ (a = 0 ∧ (b < 0 ∨ (b = 0 ∧ c < 0)))) := fun a b c => by
    unfold or3
    by_cases ha : a = 0
    · by_cases hb : b = 0
      · simp [ha, hb]
      · simp [ha, hb]
    · simp [ha]
  unfold cfA ltE lex key
  rw [h3, h1, h2, h1]
  rcases hp with rfl | rfl
  · rw [if_pos rfl, if_pos rfl, if_pos rfl, h1, h2]; omega
  · rw [if_neg (by decide), if_neg (by decide), if_neg (by decide), h1, h2]

/-- The one that goes first of those that are there. -/
def IsBest (l : List Jb) (pol : Int) (left : List Int) (t : Int) (b : Int) : Prop :=
  (b = -1 ∧ ∀ i, i < l.length → ¬ ((J l i).a ≤ t ∧ 0 < L left i)) ∨
  (∃ i : Nat, b = (i : Int) ∧ i < l.length ∧ (J l i).a ≤ t ∧ 0 < L left i ∧ ∀ j, j < l.length → (J l j).a ≤ t → 0 < L left j → j ≠ i → lexJ pol l i j)

theorem isBest_unique {l : List Jb} {pol : Int} {left : List Int} {t b b' : Int} (h : IsBest l pol left t b) (h' : IsBest l pol left t b') : b = b' := by
  rcases h with ⟨rfl, h⟩ | ⟨i, rfl, hi, h1, h2, h3⟩
  · rcases h' with ⟨rfl, _⟩ | ⟨i, rfl, hi, h1, h2, _⟩
    · rfl
    · exact absurd ⟨h1, h2⟩ (h i hi)
  · rcases h' with ⟨rfl, h'⟩ | ⟨j, rfl, hj, g1, g2, g3⟩
    · exact absurd ⟨h1, h2⟩ (h' i hi)
    · by_cases e : i = j
      · rw [e]
      · exact absurd (lexJ_trans (h3 j hj g1 g2 (fun x => e x.symm)) (g3 i hi h1 h2 e)) lexJ_irr

/-- How far it was played. -/
structure St where
  left : List Int
  ends : List Int
  runs : List Int

def St.init (l : List Jb) : St := ⟨l.map (·.c), List.replicate l.length (-1), []⟩

def St.last (s : St) : Int := s.runs.getLast?.getD (-1)

/-- One that ran and still is there. -/
def St.on (s : St) : Prop := 0 ≤ s.last ∧ 0 < L s.left s.last.toNat

def St.after (s : St) (t : Nat) (b : Int) : St := if b < 0 then ⟨s.left, s.ends, s.runs ++ [-1]⟩ else ⟨s.left.set b.toNat (L s.left b.toNat - 1), if L s.left b.toNat - 1 = 0 then s.ends.set b.toNat ((t : Int) + 1) else s.ends, s.runs ++ [b]⟩

def Pick (l : List Jb) (pol : Int) (pre : Bool) (t : Nat) (s : St) (b : Int) : Prop := (pre = false ∧ s.on ∧ b = s.last) ∨ (¬ (pre = false ∧ s.on) ∧ IsBest l pol s.left (t : Int) b)

def Plays (l : List Jb) (pol : Int) (pre : Bool) : Nat → St → Prop
  | 0, s => s = St.init l
  | t + 1, s => ∃ s0 b, Plays l pol pre t s0 ∧ Pick l pol pre t s0 b ∧ s = s0.after t b

theorem pick_unique {l : List Jb} {pol : Int} {pre : Bool} {t : Nat} {s : St} {b b' : Int} (h : Pick l pol pre t s b) (h' : Pick l pol pre t s b') : b = b' := by
  rcases h with ⟨h1, h2, rfl⟩ | ⟨h1, h2⟩
  · rcases h' with ⟨_, _, rfl⟩ | ⟨g1, _⟩
    · rfl
    · exact absurd ⟨h1, h2⟩ g1
  · rcases h' with ⟨g1, g2, _⟩ | ⟨_, g2⟩
    · exact absurd ⟨g1, g2⟩ h1
    · exact isBest_unique h2 g2

theorem plays_unique {l : List Jb} {pol : Int} {pre : Bool} : ∀ (t : Nat) (s s' : St), Plays l pol pre t s → Plays l pol pre t s' → s = s'
  | 0, s, s', h, h' => by rw [show s = _ from h, show s' = _ from h']
  | t + 1, s, s', ⟨s0, b, h1, h2, h3⟩, ⟨s1, b', g1, g2, g3⟩ => by
    have e := plays_unique t s0 s1 h1 g1
    subst e
    have e2 := pick_unique h2 g2
    subst e2
    rw [h3, g3]

/-- What is so at every time. -/
structure Ok (l : List Jb) (t : Nat) (s : St) : Prop where
  left : s.left.length = l.length
  ends : s.ends.length = l.length
  runs : s.runs.length = t
  nneg : ∀ i, 0 ≤ L s.left i
  small : ∀ i, L s.left i ≤ 10000
  rng : ∀ r ∈ s.runs, r = -1 ∨ (0 ≤ r ∧ r < (l.length : Int))

theorem L_set {left : List Int} {i j : Nat} {v : Int} (hi : i < left.length) : L (left.set i v) j = if j = i then v else L left j := by
  unfold L
  rw [List.getD_eq_getElem?_getD, List.getD_eq_getElem?_getD, List.getElem?_set]
  by_cases h : i = j
  · subst h; simp [hi]
  · simp [h, Ne.symm h]

theorem last_rng {l : List Jb} {t : Nat} {s : St} (h : Ok l t s) : s.last = -1 ∨ (0 ≤ s.last ∧ s.last < (l.length : Int)) := by
  unfold St.last
  cases e : s.runs.getLast? with
  | none => exact .inl rfl
  | some r => exact h.rng r (List.mem_of_getLast? e)

theorem pick_rng {l : List Jb} {pol : Int} {pre : Bool} {t : Nat} {s : St} {b : Int} (h : Ok l t s) (hp : Pick l pol pre t s b) : b = -1 ∨ (∃ i : Nat, b = (i : Int) ∧ i < l.length ∧ 0 < L s.left i) := by
  rcases hp with ⟨_, ⟨h1, h2⟩, rfl⟩ | ⟨_, ⟨rfl, _⟩ | ⟨i, rfl, hi, _, h2, _⟩⟩
  · rcases last_rng h with e | ⟨_, e⟩
    · omega
    · exact .inr ⟨s.last.toNat, by omega, by omega, h2⟩
  · exact .inl rfl
  · exact .inr ⟨i, rfl, hi, h2⟩

theorem ok_after {l : List Jb} {pol : Int} {pre : Bool} {t : Nat} {s : St} {b : Int} (h : Ok l t s) (hp : Pick l pol pre t s b) : Ok l (t + 1) (s.after t b) := by
  rcases pick_rng h hp with rfl | ⟨i, rfl, hi, h0⟩
  · have e : s.after t (-1) = ⟨s.left, s.ends, s.runs ++ [-1]⟩ := rfl
    rw [e]
    exact ⟨h.left, h.ends, by simp [h.runs], h.nneg, h.small, fun r hr => by
      rcases List.mem_append.1 hr with hr | hr
      · exact h.rng r hr
      · simp at hr; exact .inl hr⟩
  · have hil : i < s.left.length := by rw [h.left]; exact hi
    have e : s.after t (i : Int) = ⟨s.left.set i (L s.left i - 1), if L s.left i - 1 = 0 then s.ends.set i ((t : Int) + 1) else s.ends, s.runs ++ [(i : Int)]⟩ := by
      unfold St.after
      rw [if_neg (by omega), Int.toNat_natCast]
    rw [e]
    refine ⟨by simp [h.left], ?_, by simp [h.runs], fun j => ?_, fun j => ?_, fun r hr => ?_⟩
    · dsimp only
      split
      · rw [List.length_set]; exact h.ends
      · exact h.ends
    · dsimp only
      rw [L_set hil]
      split
      · omega
      · exact h.nneg j
    · dsimp only
      rw [L_set hil]
      have := h.small i
      split
      · omega
      · exact h.small j
    · rcases List.mem_append.1 hr with hr | hr
      · exact h.rng r hr
      · simp at hr; exact .inr ⟨by omega, by omega⟩

theorem ok_init {l : List Jb} (hl : ∀ x ∈ l, okJ x) : Ok l 0 (St.init l) := by
  have key : ∀ i, 0 ≤ L (St.init l).left i ∧ L (St.init l).left i ≤ 10000 := fun i => by
    unfold L St.init
    dsimp only
    rw [List.getD_eq_getElem?_getD, List.getElem?_map]
    cases e : l[i]? with
    | none => simp
    | some x =>
      have := hl x (List.mem_of_getElem? e)
      unfold okJ at this
      simp
      omega
  exact ⟨by simp [St.init], by simp [St.init], rfl, fun i => (key i).1, fun i => (key i).2, fun r hr => by simp [St.init] at hr⟩

theorem plays_ok {l : List Jb} {pol : Int} {pre : Bool} (hl : ∀ x ∈ l, okJ x) : ∀ (t : Nat) (s : St), Plays l pol pre t s → Ok l t s
  | 0, s, h => by rw [show s = _ from h]; exact ok_init hl
  | t + 1, s, ⟨s0, b, h1, h2, h3⟩ => by rw [h3]; exact ok_after (plays_ok hl t s0 h1) h2

theorem last_snoc (left ends runs : List Int) (b : Int) : (St.mk left ends (runs ++ [b])).last = b := by
  unfold St.last; simp
end Go.Proofs.YtekbkcgpjkecbalDoor.S8
