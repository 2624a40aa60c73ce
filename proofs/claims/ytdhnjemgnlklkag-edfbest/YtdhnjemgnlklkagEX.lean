import Derived.Test.YtdhnjemgnlklkagPA
namespace Go.Proofs.Ytdhnjemgnlklkag
open Go.ChangeShapes Go.WideShapes Go.ChangeAt Go.RowKit

/- Sums of numbers over jobs. -/
def sumG (g : Jb → Int) : List Jb → Int
  | [] => 0
  | x :: l => g x + sumG g l

theorem sumG_append (g : Jb → Int) : ∀ (l l' : List Jb), sumG g (l ++ l') = sumG g l + sumG g l'
  | [], l' => by simp [sumG]
  | x :: l, l' => by rw [List.cons_append, sumG, sumG, sumG_append g l l']; omega

theorem sumG_perm {g : Jb → Int} {l l' : List Jb} (h : l.Perm l') : sumG g l = sumG g l' := by
  induction h with
  | nil => rfl
  | cons x _ ih => rw [sumG, sumG, ih]
  | swap x y l => rw [sumG, sumG, sumG, sumG]; omega
  | trans _ _ h1 h2 => rw [h1, h2]

theorem sumG_nonneg {g : Jb → Int} {l : List Jb} (h : ∀ x ∈ l, 0 ≤ g x) : 0 ≤ sumG g l := by
  induction l with
  | nil => exact Int.le_refl _
  | cons x l ih =>
    rw [sumG]
    have h1 := h x List.mem_cons_self
    have h2 := ih (fun y hy => h y (List.mem_cons_of_mem _ hy))
    omega

theorem sumG_one {g : Jb → Int} {l : List Jb} (h : ∀ x ∈ l, 0 ≤ g x) {x : Jb} (hx : x ∈ l) : g x ≤ sumG g l := by
  induction l with
  | nil => simp at hx
  | cons y l ih =>
    rw [sumG]
    have h1 := h y List.mem_cons_self
    have h2 := sumG_nonneg (fun y hy => h y (List.mem_cons_of_mem _ hy))
    rcases List.mem_cons.1 hx with rfl | hx
    · omega
    · have := ih (fun y hy => h y (List.mem_cons_of_mem _ hy)) hx
      omega

theorem sumG_eq {g g' : Jb → Int} {l : List Jb} (h : ∀ x ∈ l, g x = g' x) : sumG g l = sumG g' l := by
  induction l with
  | nil => rfl
  | cons x l ih => rw [sumG, sumG, h x List.mem_cons_self, ih (fun y hy => h y (List.mem_cons_of_mem _ hy))]

theorem sumG_le {g g' : Jb → Int} {l : List Jb} (h : ∀ x ∈ l, g x ≤ g' x) : sumG g l ≤ sumG g' l := by
  induction l with
  | nil => exact Int.le_refl _
  | cons x l ih =>
    rw [sumG, sumG]
    have h1 := h x List.mem_cons_self
    have h2 := ih (fun y hy => h y (List.mem_cons_of_mem _ hy))
    omega

theorem sumG_zero : ∀ l : List Jb, sumG (fun _ => 0) l = 0
  | [] => rfl
  | _ :: l => by rw [sumG, sumG_zero l]; rfl

def eNone : Int := 13

/- What must be done from a to b. -/
def inW (a b : Int) (x : Jb) : Int := if a ≤ x.a ∧ x.d ≤ b then x.c else 0

def sumW (a b : Int) (l : List Jb) : Int := sumG (inW a b) l

/-- From a to b there is too much to do. -/
def Bad (l : List Jb) (a b : Int) : Prop := (∃ x ∈ l, x.a = a) ∧ (∃ y ∈ l, y.d = b) ∧ (∃ j ∈ l, a ≤ j.a ∧ j.d ≤ b) ∧ b - a < sumW a b l

/-- What Judge tells. -/
def Judged (l : List Jb) (a b c : Int) : Prop := (c = 0 ∧ a = 0 ∧ b = 0 ∧ ∀ a' b', ¬ Bad l a' b') ∨ (c = eNone ∧ Bad l a b ∧ ∀ a' b', Bad l a' b' → a < a' ∨ (a = a' ∧ b ≤ b'))

theorem judged_unique {l : List Jb} {a b c a' b' c' : Int} (h : Judged l a b c) (h' : Judged l a' b' c') : a = a' ∧ b = b' ∧ c = c' := by
  rcases h with ⟨rfl, rfl, rfl, h⟩ | ⟨rfl, h1, h2⟩
  · rcases h' with ⟨rfl, rfl, rfl, h'⟩ | ⟨rfl, h1, h2⟩
    · exact ⟨rfl, rfl, rfl⟩
    · exact absurd h1 (h _ _)
  · rcases h' with ⟨rfl, rfl, rfl, h'⟩ | ⟨rfl, g1, g2⟩
    · exact absurd h1 (h' _ _)
    · have e1 := h2 _ _ g1
      have e2 := g2 _ _ h1
      exact ⟨by omega, by omega, rfl⟩

theorem perm_bad {l l' : List Jb} (h : l.Perm l') {a b : Int} (hb : Bad l a b) : Bad l' a b := by
  obtain ⟨⟨x, hx, h1⟩, ⟨y, hy, h2⟩, ⟨j, hj, h3⟩, h4⟩ := hb
  refine ⟨⟨x, h.mem_iff.1 hx, h1⟩, ⟨y, h.mem_iff.1 hy, h2⟩, ⟨j, h.mem_iff.1 hj, h3⟩, ?_⟩
  unfold sumW at *
  rw [← sumG_perm h]
  exact h4

/- The program's way: by dues. -/
def BadB (W : List Jb) (a b : Int) : Prop := (∃ j ∈ W, a ≤ j.a ∧ j.d ≤ b) ∧ b - a < sumW a b W

def tooF (a : Int) : Int → List Jb → Option Int
  | _, [] => none
  | s, x :: r => if x.a < a then tooF a s r else if x.d - a < s + x.c then some x.d else tooF a (s + x.c) r

def comeG (a : Int) (x : Jb) : Int := if a ≤ x.a then x.c else 0

theorem tooF_spec {W : List Jb} {a : Int} (hs : W.Pairwise (fun x y => x.d ≤ y.d)) (hc : ∀ x ∈ W, 0 ≤ x.c) : ∀ (r p : List Jb) (s : Int), W = p ++ r → s = sumG (comeG a) p → (∀ b', BadB W a b' → ∃ j ∈ r, a ≤ j.a ∧ j.d ≤ b') →
    (tooF a s r = none ∧ ∀ b', ¬ BadB W a b') ∨ (∃ b, tooF a s r = some b ∧ BadB W a b ∧ (∃ y ∈ W, y.d = b) ∧ ∀ b', BadB W a b' → b ≤ b')
  | [], p, s, _, _, hb => .inl ⟨rfl, fun b' h => by obtain ⟨j, hj, -⟩ := hb b' h; simp at hj⟩
  | x :: r, p, s, hW, he, hb => by
    have hsr : (x :: r).Pairwise (fun x y => x.d ≤ y.d) := by rw [hW] at hs; exact (List.pairwise_append.1 hs).2.1
    have hpx : ∀ y ∈ p, y.d ≤ x.d := fun y hy => by rw [hW] at hs; exact (List.pairwise_append.1 hs).2.2 y hy x List.mem_cons_self
    have hxr : ∀ y ∈ r, x.d ≤ y.d := (List.pairwise_cons.1 hsr).1
    have hxW : x ∈ W := by rw [hW]; simp
    have hW' : W = (p ++ [x]) ++ r := by rw [hW]; simp
    have hin : ∀ b', ∀ y ∈ W, 0 ≤ inW a b' y := fun b' y hy => by have := hc y hy; unfold inW; split <;> omega
    unfold tooF
    by_cases h1 : x.a < a
    · rw [if_pos h1]
      refine tooF_spec hs hc r (p ++ [x]) s hW' ?_ (fun b' h => ?_)
      · rw [sumG_append, sumG, sumG, he, comeG, if_neg (by omega)]; omega
      · obtain ⟨j, hj, h2, h3⟩ := hb b' h
        rcases List.mem_cons.1 hj with rfl | hj
        · omega
        · exact ⟨j, hj, h2, h3⟩
    · rw [if_neg h1]
      have hsplit : ∀ b', sumW a b' W = sumG (inW a b') p + (inW a b' x + sumG (inW a b') r) := fun b' => by
        unfold sumW; rw [hW, sumG_append, sumG]
      by_cases h2 : x.d - a < s + x.c
      · rw [if_pos h2]
        refine .inr ⟨x.d, rfl, ⟨⟨x, hxW, by omega, Int.le_refl _⟩, ?_⟩, ⟨x, hxW, rfl⟩, fun b' h => ?_⟩
        · rw [hsplit]
          have e1 : sumG (inW a x.d) p = s := by
            rw [he]
            refine sumG_eq (fun y hy => ?_)
            have := hpx y hy
            unfold inW comeG
            by_cases h3 : a ≤ y.a
            · rw [if_pos ⟨h3, this⟩, if_pos h3]
            · rw [if_neg (fun h => h3 h.1), if_neg h3]
          have e2 : inW a x.d x = x.c := by unfold inW; rw [if_pos ⟨by omega, Int.le_refl _⟩]
          have e3 : 0 ≤ sumG (inW a x.d) r := sumG_nonneg (fun y hy => hin _ y (by rw [hW]; simp [hy]))
          omega
        · obtain ⟨j, hj, h3, h4⟩ := hb b' h
          rcases List.mem_cons.1 hj with rfl | hj
          · exact h4
          · have := hxr j hj; omega
      · rw [if_neg h2]
        refine tooF_spec hs hc r (p ++ [x]) (s + x.c) hW' ?_ (fun b' h => ?_)
        · rw [sumG_append, sumG, sumG, he, comeG, if_pos (by omega)]; omega
        · apply Classical.byContradiction
          intro hno
          obtain ⟨j, hj, h3, h4⟩ := hb b' h
          have hjx : x.d ≤ b' := by
            rcases List.mem_cons.1 hj with rfl | hj
            · exact h4
            · have := hxr j hj; omega
          have h5 := h.2
          rw [hsplit] at h5
          have e1 : sumG (inW a b') p ≤ s := by
            rw [he]
            refine sumG_le (fun y hy => ?_)
            have := hc y (by rw [hW]; simp [hy])
            unfold inW comeG
            by_cases h3 : a ≤ y.a
            · rw [if_pos h3]; split <;> omega
            · rw [if_neg (fun h => h3 h.1), if_neg h3]; exact Int.le_refl _
          have e2 : inW a b' x ≤ x.c := by have := hc x hxW; unfold inW; split <;> omega
          have e3 : sumG (inW a b') r = sumG (fun _ => 0) r := sumG_eq (fun y hy => by
            unfold inW
            rw [if_neg (fun h6 => hno ⟨y, hy, h6⟩)])
          have e4 : sumG (fun _ => 0) r = 0 := sumG_zero r
          omega

theorem tooF_any {W : List Jb} {a : Int} (hs : W.Pairwise (fun x y => x.d ≤ y.d)) (hc : ∀ x ∈ W, 0 ≤ x.c) : (tooF a 0 W = none ∧ ∀ b', ¬ BadB W a b') ∨ (∃ b, tooF a 0 W = some b ∧ BadB W a b ∧ (∃ y ∈ W, y.d = b) ∧ ∀ b', BadB W a b' → b ≤ b') :=
  tooF_spec hs hc W [] 0 rfl rfl (fun _ h => h.1)

/-- All beginnings, one by one. -/
def judF (W : List Jb) : List Int → Int × Int × Int
  | [] => (0, 0, 0)
  | a :: r => match tooF a 0 W with
    | some b => (a, b, eNone)
    | none => judF W r

theorem judF_spec {l W : List Jb} (hp : W.Perm l) (hs : W.Pairwise (fun x y => x.d ≤ y.d)) (hc : ∀ x ∈ l, 0 ≤ x.c) : ∀ (r p : List Int), (p ++ r).Pairwise (fun x y => x ≤ y) → (∀ a, a ∈ p ++ r ↔ ∃ x ∈ l, x.a = a) → (∀ a ∈ p, ∀ b', ¬ BadB W a b') → Judged l (judF W r).1 (judF W r).2.1 (judF W r).2.2
  | [], p, _, hm, hb => by
    refine .inl ⟨rfl, rfl, rfl, fun a' b' h => ?_⟩
    obtain ⟨h1, -, h3, h4⟩ := perm_bad hp.symm h
    have ha : a' ∈ p := by
      have := (hm a').2 h.1
      simpa using this
    exact hb a' ha b' ⟨h3, h4⟩
  | a :: r, p, hw, hm, hb => by
    have hcW : ∀ x ∈ W, 0 ≤ x.c := fun x hx => hc x (hp.mem_iff.1 hx)
    have hbad : ∀ a' b', Bad l a' b' → BadB W a' b' := fun a' b' h => by
      obtain ⟨h1, -, h3, h4⟩ := perm_bad hp.symm h
      exact ⟨h3, h4⟩
    rcases tooF_any (a := a) hs hcW with ⟨e, h⟩ | ⟨b, e, h1, h2, h3⟩
    · have e2 : judF W (a :: r) = judF W r := by rw [judF, e]
      rw [e2]
      refine judF_spec hp hs hc r (p ++ [a]) (by rw [List.append_assoc]; exact hw) (fun a' => by rw [List.append_assoc]; exact hm a') (fun a' ha' => ?_)
      rcases List.mem_append.1 ha' with ha' | ha'
      · exact hb a' ha'
      · simp at ha'; subst ha'; exact h
    · have e2 : judF W (a :: r) = (a, b, eNone) := by rw [judF, e]
      rw [e2]
      have hal := (hm a).1 (by simp)
      refine .inr ⟨rfl, perm_bad hp ⟨?_, h2, h1.1, h1.2⟩, fun a' b' h => ?_⟩
      · obtain ⟨x, hx, h9⟩ := hal
        exact ⟨x, hp.mem_iff.2 hx, h9⟩
      · have hb' := hbad a' b' h
        have ha' := (hm a').2 h.1
        rcases List.mem_append.1 ha' with ha' | ha'
        · exact absurd hb' (hb a' ha' b')
        · rcases List.mem_cons.1 ha' with rfl | ha'
          · exact .inr ⟨rfl, h3 b' hb'⟩
          · have hle : a ≤ a' := by
              have := (List.pairwise_append.1 hw).2.1
              exact (List.pairwise_cons.1 this).1 a' ha'
            by_cases e : a = a'
            · subst e; exact .inr ⟨rfl, h3 b' hb'⟩
            · exact .inl (by omega)

/- The document's way: by all pairs. -/
def Over (l : List Jb) (a b : Int) : Prop := (∃ j ∈ l, a ≤ j.a ∧ j.d ≤ b) ∧ b - a < sumW a b l

def anyW (a b : Int) (l : List Jb) : Bool := l.any (fun j => decide (a ≤ j.a) && decide (j.d ≤ b))

theorem anyW_iff {a b : Int} {l : List Jb} : anyW a b l = true ↔ ∃ j ∈ l, a ≤ j.a ∧ j.d ≤ b := by
  unfold anyW
  simp

structure Sn where
  a : Int
  b : Int
  f : Bool

def tells (l : List Jb) (x y : Int) (s : Sn) : Bool := (anyW x y l && decide (y - x < sumW x y l)) && (!s.f || decide (x < s.a) || (decide (x = s.a) && decide (y < s.b)))

def seeOne (l : List Jb) (x y : Int) (s : Sn) : Sn := if tells l x y s = true then ⟨x, y, true⟩ else s

def seeRow (l : List Jb) (x : Int) : List Jb → Sn → Sn
  | [], s => s
  | y :: r, s => seeRow l x r (seeOne l x y.d s)

def seeAll (l : List Jb) : List Jb → Sn → Sn
  | [], s => s
  | x :: r, s => seeAll l r (seeRow l x.a l s)

/-- What was seen. -/
def Seen (l : List Jb) (P : Int → Int → Prop) (s : Sn) : Prop := (s.f = false ∧ s.a = 0 ∧ s.b = 0 ∧ ∀ a b, P a b → ¬ Over l a b) ∨ (s.f = true ∧ P s.a s.b ∧ Over l s.a s.b ∧ ∀ a b, P a b → Over l a b → s.a < a ∨ (s.a = a ∧ s.b ≤ b))

theorem seeOne_spec {l : List Jb} {P Q : Int → Int → Prop} {s : Sn} {x y : Int} (h : Seen l P s) (hQ : ∀ a b, Q a b ↔ P a b ∨ (a = x ∧ b = y)) : Seen l Q (seeOne l x y s) := by
  have hov : (anyW x y l && decide (y - x < sumW x y l)) = true ↔ Over l x y := by
    unfold Over
    rw [Bool.and_eq_true, anyW_iff, decide_eq_true_iff]
  unfold seeOne tells
  by_cases ho : Over l x y
  · rw [hov.2 ho, Bool.true_and]
    rcases h with ⟨h0, h1, h2, h3⟩ | ⟨h0, h1, h2, h3⟩
    · rw [h0, if_pos (by simp)]
      refine .inr ⟨rfl, (hQ _ _).2 (.inr ⟨rfl, rfl⟩), ho, fun a b hq hab => ?_⟩
      rcases (hQ a b).1 hq with hp | ⟨rfl, rfl⟩
      · exact absurd hab (h3 a b hp)
      · exact .inr ⟨rfl, Int.le_refl _⟩
    · rw [h0]
      by_cases hlt : x < s.a ∨ (x = s.a ∧ y < s.b)
      · rw [if_pos (by simpa using hlt)]
        refine .inr ⟨rfl, (hQ _ _).2 (.inr ⟨rfl, rfl⟩), ho, fun a b hq hab => ?_⟩
        rcases (hQ a b).1 hq with hp | ⟨rfl, rfl⟩
        · have := h3 a b hp hab
          dsimp only
          omega
        · exact .inr ⟨rfl, Int.le_refl _⟩
      · rw [if_neg (by simpa using hlt)]
        refine .inr ⟨h0, (hQ _ _).2 (.inl h1), h2, fun a b hq hab => ?_⟩
        rcases (hQ a b).1 hq with hp | ⟨rfl, rfl⟩
        · exact h3 a b hp hab
        · omega
  · have hf : (anyW x y l && decide (y - x < sumW x y l)) = false := by
      cases hb : (anyW x y l && decide (y - x < sumW x y l)) with
      | false => rfl
      | true => exact absurd (hov.1 hb) ho
    rw [hf, Bool.false_and, if_neg (by simp)]
    rcases h with ⟨h0, h1, h2, h3⟩ | ⟨h0, h1, h2, h3⟩
    · refine .inl ⟨h0, h1, h2, fun a b hq hab => ?_⟩
      rcases (hQ a b).1 hq with hp | ⟨rfl, rfl⟩
      · exact h3 a b hp hab
      · exact ho hab
    · refine .inr ⟨h0, (hQ _ _).2 (.inl h1), h2, fun a b hq hab => ?_⟩
      rcases (hQ a b).1 hq with hp | ⟨rfl, rfl⟩
      · exact h3 a b hp hab
      · exact absurd hab ho

theorem seeRow_spec {l : List Jb} {x : Int} : ∀ (r : List Jb) {P Q : Int → Int → Prop} {s : Sn}, Seen l P s → (∀ a b, Q a b ↔ P a b ∨ (a = x ∧ ∃ y ∈ r, y.d = b)) → Seen l Q (seeRow l x r s)
  | [], P, Q, s, h, hQ => by
    have e : Q = P := funext fun a => funext fun b => propext (by rw [hQ]; simp)
    rw [e]; exact h
  | y :: r, P, Q, s, h, hQ => by
    refine seeRow_spec r (seeOne_spec (Q := fun a b => P a b ∨ (a = x ∧ b = y.d)) h (fun a b => Iff.rfl)) (fun a b => ?_)
    rw [hQ]
    constructor
    · rintro (h1 | ⟨rfl, z, hz, rfl⟩)
      · exact .inl (.inl h1)
      · rcases List.mem_cons.1 hz with rfl | hz
        · exact .inl (.inr ⟨rfl, rfl⟩)
        · exact .inr ⟨rfl, z, hz, rfl⟩
    · rintro ((h1 | ⟨rfl, rfl⟩) | ⟨rfl, z, hz, rfl⟩)
      · exact .inl h1
      · exact .inr ⟨rfl, y, List.mem_cons_self, rfl⟩
      · exact .inr ⟨rfl, z, List.mem_cons_of_mem _ hz, rfl⟩

theorem seeAll_spec {l : List Jb} : ∀ (r : List Jb) {P Q : Int → Int → Prop} {s : Sn}, Seen l P s → (∀ a b, Q a b ↔ P a b ∨ ((∃ x ∈ r, x.a = a) ∧ ∃ y ∈ l, y.d = b)) → Seen l Q (seeAll l r s)
  | [], P, Q, s, h, hQ => by
    have e : Q = P := funext fun a => funext fun b => propext (by rw [hQ]; simp)
    rw [e]; exact h
  | x :: r, P, Q, s, h, hQ => by
    refine seeAll_spec r (seeRow_spec l (x := x.a) (Q := fun a b => P a b ∨ (a = x.a ∧ ∃ y ∈ l, y.d = b)) h (fun a b => Iff.rfl)) (fun a b => ?_)
    rw [hQ]
    constructor
    · rintro (h1 | ⟨⟨z, hz, rfl⟩, h2⟩)
      · exact .inl (.inl h1)
      · rcases List.mem_cons.1 hz with rfl | hz
        · exact .inl (.inr ⟨rfl, h2⟩)
        · exact .inr ⟨⟨z, hz, rfl⟩, h2⟩
    · rintro ((h1 | ⟨rfl, h2⟩) | ⟨⟨z, hz, rfl⟩, h2⟩)
      · exact .inl h1
      · exact .inr ⟨⟨x, List.mem_cons_self, rfl⟩, h2⟩
      · exact .inr ⟨⟨z, List.mem_cons_of_mem _ hz, rfl⟩, h2⟩

def sn0 : Sn := ⟨0, 0, false⟩

theorem see_judged (l : List Jb) : Judged l (if (seeAll l l sn0).f = true then (seeAll l l sn0).a else 0) (if (seeAll l l sn0).f = true then (seeAll l l sn0).b else 0) (if (seeAll l l sn0).f = true then eNone else 0) := by
  have h := seeAll_spec (l := l) l (P := fun _ _ => False) (Q := fun a b => (∃ x ∈ l, x.a = a) ∧ ∃ y ∈ l, y.d = b) (s := sn0) (.inl ⟨rfl, rfl, rfl, fun a b h => h.elim⟩) (fun a b => by simp)
  rcases h with ⟨h0, h1, h2, h3⟩ | ⟨h0, h1, h2, h3⟩
  · rw [h0, if_neg (by simp), if_neg (by simp), if_neg (by simp)]
    exact .inl ⟨rfl, rfl, rfl, fun a b hb => h3 a b ⟨hb.1, hb.2.1⟩ ⟨hb.2.2.1, hb.2.2.2⟩⟩
  · rw [h0, if_pos rfl, if_pos rfl, if_pos rfl]
    exact .inr ⟨rfl, ⟨h1.1, h1.2, h2.1, h2.2⟩, fun a b hb => h3 a b ⟨hb.1, hb.2.1⟩ ⟨hb.2.2.1, hb.2.2.2⟩⟩

end Go.Proofs.Ytdhnjemgnlklkag
