import Derived.Test.YtcmoehednkaehadDoorChkW
import Derived.Test.YtcmoehednkaehadDoorDSem
namespace Go.Proofs.YtcmoehednkaehadDoor
open Go.ChangeShapes Go.WideShapes Go.ChangeAt Go.RowKit

theorem stackScan_bad : ∀ (l : List In) (k : Nat) (M : Int → Option Int) {c : Int} {j : Nat}, stackScan l k M = .inl (c, j) → c ≠ 0
  | [], _, _, _, _, h => by simp [stackScan] at h
  | x :: r, k, M, c, j, h => by
    rw [stackScan] at h
    split at h
    · rename_i hz
      simp only [Sum.inl.injEq, Prod.mk.injEq] at h
      rw [← h.1]; exact hz
    · exact stackScan_bad r (k + 1) _ h

theorem scan_bad (f : Nat → In → Int) : ∀ (l : List In) (k : Nat) {c : Int} {j : Nat}, scan f l k = some (c, j) → c ≠ 0
  | [], _, _, _, h => by simp [scan] at h
  | x :: r, k, c, j, h => by
    rw [scan] at h
    split at h
    · rename_i hx
      simp only [Option.some.injEq, Prod.mk.injEq] at h
      rw [← h.1]; exact hx
    · exact scan_bad f r (k + 1) h

theorem docNest_bad (l : List In) : ∀ (r : List In) (k : Nat) (os : List Nat) (rs : List (Nat × Nat)) {c : Int} {j : Nat}, docNest l r k os rs = .inl (c, j) → c ≠ 0
  | [], _, _, _, _, _, h => by simp [docNest] at h
  | x :: r, k, os, rs, c, j, h => by
    rw [docNest] at h
    split at h
    · rename_i hx
      simp only [Sum.inl.injEq, Prod.mk.injEq] at h
      rw [← h.1]; exact hx
    · exact docNest_bad l r (k + 1) _ _ h

theorem putWays_pos (bh : Int) (hb : 0 ≤ bh) : ∀ (ts : List Int) (M : Int → Option Int), (∀ z h, M z = some h → 0 ≤ h) → ∀ z h, (putWays bh ts M).2 z = some h → 0 ≤ h
  | [], M, hM => hM
  | t :: r, M, hM => by
    rw [putWays]
    split
    · exact hM
    · refine putWays_pos bh hb r _ fun z h hz => ?_
      unfold setH at hz
      split at hz
      · cases hz; exact hb
      · exact hM z h hz

theorem puts_pos (m : Nat) : 0 ≤ putsOf m := by
  unfold putsOf
  by_cases h : m < 19
  · have : m = 0 ∨ m = 1 ∨ m = 2 ∨ m = 3 ∨ m = 4 ∨ m = 5 ∨ m = 6 ∨ m = 7 ∨ m = 8 ∨ m = 9 ∨ m = 10 ∨ m = 11 ∨ m = 12 ∨ m = 13 ∨ m = 14 ∨ m = 15 ∨ m = 16 ∨ m = 17 ∨ m = 18 := by omega
    rcases this with rfl | rfl | rfl | rfl | rfl | rfl | rfl | rfl | rfl | rfl | rfl | rfl | rfl | rfl | rfl | rfl | rfl | rfl | rfl <;> decide
  · rw [List.getD_eq_getElem?_getD, List.getElem?_eq_none (by simp; omega)]; decide

theorem stackScan_pos : ∀ (l : List In) (k : Nat) (M M' : Int → Option Int), stackScan l k M = .inr M' → (∀ z h, M z = some h → 0 ≤ h) → ∀ z h, M' z = some h → 0 ≤ h
  | [], k, M, M', h, hM => by rw [stackScan] at h; cases h; exact hM
  | x :: r, k, M, M', h, hM => by
    rw [stackScan] at h
    split at h
    · simp at h
    · refine stackScan_pos r (k + 1) _ M' h ?_
      unfold stackStep
      split
      · exact hM
      · rename_i q hq
        split
        · exact hM
        · rename_i c
          have := puts_pos x.op.toNat
          exact putWays_pos _ (by omega) _ M hM

/-- What a machine holds. -/
structure MS where
  pc : Nat
  st : List Int
  vs : List Int
  cs : List Int
  ps : List (Int × Int)

def MS.top (s : MS) : Int := s.st.getLast?.getD 0
def MS.second (s : MS) : Int := s.st.dropLast.getLast?.getD 0

/-- Does it go on elsewhere? -/
def overI (x : In) (s : MS) : Bool := if x.op = 11 then true else if x.op = 12 then decide (s.top = 0) else if x.op = 14 then decide (0 < s.cs.getD x.a.toNat 0) else false

/-- The ticks of an instruction. -/
def costI (x : In) (o : Bool) : Int := if x.op = 18 then x.a else if (x.op = 12 ∨ x.op = 14) ∧ o = true then 2 else tickOf x.op.toNat

def binI (op a b : Int) : Int := if op = 4 then wrap64 (a + b) else if op = 5 then wrap64 (a - b) else if op = 6 then wrap64 (a * b) else if op = 7 then (if a < b then 1 else 0) else (if a = b then 1 else 0)

def nextI (x : In) (s : MS) : Nat := if overI x s = true then (if x.op = 14 then x.b.toNat else x.a.toNat) else s.pc + 1

/-- What an instruction does. -/
def mdo (ins : List Int) (x : In) (s : MS) : MS where
  pc := nextI x s
  st := if x.op = 1 then s.st ++ [x.a] else if x.op = 2 then s.st ++ [s.vs.getD x.a.toNat 0] else if x.op = 9 then s.st ++ [ins.getD x.a.toNat 0]
    else if x.op = 3 ∨ x.op = 10 ∨ x.op = 12 then s.st.dropLast else if 4 ≤ x.op ∧ x.op ≤ 8 then s.st.dropLast.dropLast ++ [binI x.op s.second s.top] else s.st
  vs := if x.op = 3 then s.vs.set x.a.toNat s.top else s.vs
  cs := if x.op = 13 then s.cs.set x.a.toNat x.b else if x.op = 14 then s.cs.set x.a.toNat (if 0 < s.cs.getD x.a.toNat 0 then s.cs.getD x.a.toNat 0 - 1 else 0) else if x.op = 15 then s.cs.set x.a.toNat 0 else s.cs
  ps := if x.op = 10 then s.ps ++ [(x.a, s.top)] else s.ps

def atI (l : List In) (s : MS) : In := l.getD s.pc in0

/-- An image from a state on, so many instructions at most: where it stood, or what it left and its ticks. -/
def runF (l : List In) (ins : List Int) : Nat → MS → Int → Nat ⊕ (MS × Int)
  | 0, s, t => if s.pc = l.length then .inr (s, t) else .inl s.pc
  | n + 1, s, t => if s.pc = l.length then .inr (s, t) else runF l ins n (mdo ins (atI l s) s) (t + costI (atI l s) (overI (atI l s) s))

def ms0 (vars : List Int) : MS := ⟨0, [], vars, [0, 0, 0, 0, 0, 0, 0, 0], []⟩

/-- What holds of an image with which nothing is wrong: the heights. -/
structure GoodI (l : List In) (M : Int → Option Int) : Prop where
  len : l.length ≤ 2000
  form : ∀ j, j < l.length → formErr (l.getD j in0) = 0
  hts : ∀ j, j < l.length → ∃ h : Int, M j = some h ∧ 0 ≤ h ∧ takesOf (l.getD j in0).op.toNat ≤ h ∧ h - takesOf (l.getD j in0).op.toNat + putsOf (l.getD j in0).op.toNat ≤ 20 ∧ ∀ t ∈ waysOf j (l.getD j in0), M t = some (h - takesOf (l.getD j in0).op.toNat + putsOf (l.getD j in0).op.toNat)
  ways : ∀ j, j < l.length → ∀ t ∈ waysOf j (l.getD j in0), 0 ≤ t ∧ t ≤ l.length
  zero : M 0 = some 0

theorem setH_same (M : Int → Option Int) (z v : Int) : setH M z v z = some v := by unfold setH; rw [if_pos rfl]

theorem putWays_keeps (bh : Int) : ∀ (ts : List Int) (M : Int → Option Int), (putWays bh ts M).1 = 0 → (∀ z h, M z = some h → (putWays bh ts M).2 z = some h) ∧ ∀ t ∈ ts, (putWays bh ts M).2 t = some bh
  | [], M, _ => ⟨fun z h hz => hz, by simp⟩
  | t :: r, M, h => by
    rw [putWays] at h ⊢
    by_cases c : M t ≠ none ∧ M t ≠ some bh
    · rw [if_pos c] at h; simp at h
    · rw [if_neg c] at h ⊢
      obtain ⟨h1, h2⟩ := putWays_keeps bh r (setH M t bh) h
      refine ⟨fun z hh hz => h1 z hh ?_, fun q hq => ?_⟩
      · unfold setH
        split
        · rename_i e; subst e
          by_cases e2 : M z = some bh
          · rw [← e2]; exact hz
          · exact absurd ⟨by rw [hz]; simp, e2⟩ c
        · exact hz
      · rcases List.mem_cons.1 hq with rfl | hq
        · exact h1 _ _ (setH_same _ _ _)
        · exact h2 q hq

theorem stackStep_keeps {M : Int → Option Int} {k : Nat} {x : In} (h0 : (stackStep M k x).1 = 0) : (∀ z h, M z = some h → (stackStep M k x).2 z = some h) ∧ ∃ h : Int, M k = some h ∧ takesOf x.op.toNat ≤ h ∧ h - takesOf x.op.toNat + putsOf x.op.toNat ≤ 20 ∧ ∀ t ∈ waysOf k x, (stackStep M k x).2 t = some (h - takesOf x.op.toNat + putsOf x.op.toNat) := by
  unfold stackStep at h0 ⊢
  rcases hM : M k with _ | h
  · rw [hM] at h0; simp at h0
  · rw [hM] at h0
    dsimp only at h0 ⊢
    by_cases c : h < takesOf x.op.toNat ∨ 20 < h - takesOf x.op.toNat + putsOf x.op.toNat
    · rw [if_pos c] at h0; simp at h0
    · rw [if_neg c] at h0 ⊢
      obtain ⟨h1, h2⟩ := putWays_keeps _ _ _ h0
      exact ⟨h1, h, rfl, by omega, by omega, h2⟩

theorem stackScan_keeps : ∀ (l : List In) (k : Nat) (M M' : Int → Option Int), stackScan l k M = .inr M' → (∀ z h, M z = some h → M' z = some h) ∧ ∀ j, j < l.length → ∃ h : Int, M' ((k : Int) + j) = some h ∧ takesOf (l.getD j in0).op.toNat ≤ h ∧ h - takesOf (l.getD j in0).op.toNat + putsOf (l.getD j in0).op.toNat ≤ 20 ∧ ∀ t ∈ waysOf (k + j) (l.getD j in0), M' t = some (h - takesOf (l.getD j in0).op.toNat + putsOf (l.getD j in0).op.toNat)
  | [], k, M, M', h => by rw [stackScan] at h; cases h; exact ⟨fun z h hz => hz, by simp⟩
  | x :: r, k, M, M', h => by
    rw [stackScan] at h
    by_cases c : (stackStep M k x).1 ≠ 0
    · rw [if_pos c] at h; simp at h
    · rw [if_neg c] at h
      have c0 : (stackStep M k x).1 = 0 := by simpa using c
      obtain ⟨h1, hh, h2, h3, h4, h5⟩ := stackStep_keeps c0
      obtain ⟨g1, g2⟩ := stackScan_keeps r (k + 1) _ _ h
      refine ⟨fun z hz e => g1 _ _ (h1 _ _ e), fun j hj => ?_⟩
      cases j with
      | zero => exact ⟨hh, by simpa using g1 _ _ (h1 _ _ h2), by simpa using h3, by simpa using h4, fun t ht => by simpa using g1 _ _ (h5 t (by simpa using ht))⟩
      | succ j =>
        obtain ⟨q, q1, q2, q3, q4⟩ := g2 j (by simpa using hj)
        refine ⟨q, by rw [← q1]; congr 1; simp; omega, by simpa using q2, by simpa using q3, fun t ht => ?_⟩
        have := q4 t (by rw [show k + 1 + j = k + (j + 1) by omega]; simpa using ht)
        simpa using this

/-- Where an end of a loop leads back to. -/
theorem docNest_back (l : List In) : ∀ (r : List In) (k : Nat) (os : List Nat) (rs : List (Nat × Nat)) (q : List Nat × List (Nat × Nat)), docNest l r k os rs = .inr q → (∀ o ∈ os, o < k) → ∀ j, j < r.length → (r.getD j in0).op = 14 → 0 ≤ (r.getD j in0).b ∧ (r.getD j in0).b ≤ (k : Int) + j
  | [], _, _, _, _, _, _, j, hj, _ => by simp at hj
  | x :: r, k, os, rs, q, h, ho, j, hj, h14 => by
    rw [docNest] at h
    by_cases c : (docOf l k x os).1 ≠ 0
    · rw [if_pos c] at h; simp at h
    · rw [if_neg c] at h
      have c0 : (docOf l k x os).1 = 0 := by simpa using c
      cases j with
      | zero =>
        simp only [List.getD_cons_zero] at h14 ⊢
        unfold docOf at c0
        rw [if_neg (by omega), if_pos h14] at c0
        by_cases e : os = [] ∨ (l.getD (os.getLast?.getD 0) in0).op ≠ 13 ∨ (l.getD (os.getLast?.getD 0) in0).a ≠ x.a ∨ x.b ≠ (os.getLast?.getD 0 : Nat) + 1
        · rw [if_pos e] at c0; simp at c0
        · simp only [not_or, Decidable.not_not] at e
          obtain ⟨e1, -, -, e4⟩ := e
          have hm : os.getLast?.getD 0 ∈ os := by
            rw [List.getLast?_eq_some_getLast e1]
            exact List.getLast_mem e1
          have := ho _ hm
          rw [e4]; omega
      | succ j =>
        simp only [List.getD_cons_succ] at h14 ⊢
        have ho' : ∀ o ∈ (docOf l k x os).2, o < k + 1 := by
          intro o hm
          have hsub : o ∈ os ∨ o = k := by
            unfold docOf at hm
            split at hm
            · split at hm
              · exact .inl hm
              · simpa using hm
            split at hm
            · split at hm
              · exact .inl hm
              · exact .inl (List.dropLast_subset _ hm)
            split at hm
            · split at hm
              · exact .inl hm
              · exact .inl (List.dropLast_subset _ hm)
            split at hm
            · split at hm <;> exact .inl hm
            · exact .inl hm
          rcases hsub with hs | hs
          · have := ho o hs; omega
          · omega
        have := docNest_back l r (k + 1) _ _ q h ho' j (by simpa using hj) h14
        omega

theorem good_of {l : List In} (h : docI l = (0, 0)) : ∃ M, GoodI l M := by
  unfold docI at h
  by_cases hl : 2000 < l.length
  · rw [if_pos hl] at h; simp at h
  rw [if_neg hl] at h
  rcases hf : scan (fun _ x => formErr x) l 0 with _ | ⟨c, k⟩
  rotate_left 1
  · rw [hf] at h; exact absurd (congrArg Prod.fst h) (scan_bad _ l 0 hf)
  rw [hf] at h
  dsimp only at h
  have hform : ∀ j, j < l.length → formErr (l.getD j in0) = 0 := fun j hj => scan_none _ l 0 hf j hj
  rcases hn : docNest l l 0 [] [] with ⟨c, k⟩ | ⟨_ | ⟨o, os⟩, rs⟩
  · rw [hn] at h; exact absurd (congrArg Prod.fst h) (docNest_bad l l 0 [] [] hn)
  rotate_left 1
  · rw [hn] at h
    have := congrArg Prod.fst h
    dsimp only at this
    split at this <;> simp at this
  rw [hn] at h
  dsimp only at h
  rcases hj : scan (docJump l rs) l 0 with _ | ⟨c, k⟩
  rotate_left 1
  · rw [hj] at h; exact absurd (congrArg Prod.fst h) (scan_bad _ l 0 hj)
  rw [hj] at h
  dsimp only at h
  rcases hs : stackScan l 0 M0 with ⟨c, k⟩ | M
  · rw [hs] at h; exact absurd (congrArg Prod.fst h) (stackScan_bad l 0 M0 hs)
  obtain ⟨h1, h2⟩ := stackScan_keeps l 0 M0 M hs
  have hpos := stackScan_pos l 0 M0 M hs (by intro z h hz; unfold M0 setH at hz; split at hz; cases hz; omega; simp at hz)
  refine ⟨M, by omega, hform, fun j hj' => ?_, fun j hj' t ht => ?_, h1 0 0 (setH_same _ _ _)⟩
  · obtain ⟨q, q1, q2, q3, q4⟩ := h2 j hj'
    have q1' : M j = some q := by simpa using q1
    exact ⟨q, q1', hpos _ _ q1', q2, q3, fun t ht => q4 t (by simpa using ht)⟩
  · have hfj := hform j hj'
    have hjj := scan_none _ l 0 hj j hj'
    have hbk := docNest_back l l 0 [] [] _ hn (by simp) j hj'
    rw [Nat.zero_add] at hjj
    rw [Int.natCast_zero, Int.zero_add] at hbk
    generalize l.getD j in0 = x at *
    unfold waysOf at ht
    unfold docJump at hjj
    split at ht
    · rename_i e
      rw [if_neg (by omega)] at hjj
      simp only [List.mem_singleton] at ht
      subst ht
      split at hjj
      · simp at hjj
      · omega
    split at ht
    · rename_i e
      rw [if_neg (by omega)] at hjj
      simp only [List.mem_cons, List.not_mem_nil, or_false] at ht
      split at hjj
      · simp at hjj
      · rcases ht with rfl | rfl <;> omega
    split at ht
    · rename_i e
      have := hbk e
      simp only [List.mem_cons, List.not_mem_nil, or_false] at ht
      rcases ht with rfl | rfl <;> omega
    · simp only [List.mem_singleton] at ht
      subst ht; omega

/-- What holds of a machine that does such an image. -/
structure MI (l : List In) (M : Int → Option Int) (s : MS) : Prop where
  pc : s.pc ≤ l.length
  st : M s.pc = some (s.st.length : Int)
  vs : s.vs.length = 8
  cs : s.cs.length = 8
  low : ∀ j, 0 ≤ s.cs.getD j 0 ∧ s.cs.getD j 0 ≤ 1000

theorem MI.start {l : List In} {M : Int → Option Int} (g : GoodI l M) {vars : List Int} (hv : vars.length = 8) : MI l M (ms0 vars) := by
  refine ⟨Nat.zero_le _, by simpa [ms0] using g.zero, hv, rfl, fun j => ?_⟩
  have : ([0, 0, 0, 0, 0, 0, 0, 0] : List Int).getD j 0 = 0 := by
    by_cases h : j < 8
    · have : j = 0 ∨ j = 1 ∨ j = 2 ∨ j = 3 ∨ j = 4 ∨ j = 5 ∨ j = 6 ∨ j = 7 := by omega
      rcases this with rfl | rfl | rfl | rfl | rfl | rfl | rfl | rfl <;> rfl
    · rw [List.getD_eq_getElem?_getD, List.getElem?_eq_none (by simp; omega)]; rfl
  show 0 ≤ ([0, 0, 0, 0, 0, 0, 0, 0] : List Int).getD j 0 ∧ ([0, 0, 0, 0, 0, 0, 0, 0] : List Int).getD j 0 ≤ 1000
  rw [this]; omega

theorem form_op {x : In} (h : formErr x = 0) : 1 ≤ x.op ∧ x.op ≤ 18 ∧ lowA x.op.toNat ≤ x.a ∧ x.a ≤ highA x.op.toNat ∧ 0 ≤ x.b ∧ x.b ≤ highB x.op.toNat := by
  unfold formErr at h
  split at h
  · simp at h
  split at h
  · simp at h
  omega

/-- What an instruction of each kind may have. -/
theorem form_a {x : In} (h : formErr x = 0) : 0 ≤ x.a ∧ ((x.op = 2 ∨ x.op = 3 ∨ x.op = 13 ∨ x.op = 14 ∨ x.op = 15) → x.a ≤ 7) ∧ ((x.op = 9 ∨ x.op = 10) → x.a ≤ 3) ∧ (x.op = 18 → 1 ≤ x.a ∧ x.a ≤ 1000) ∧ (x.op = 13 → 0 ≤ x.b ∧ x.b ≤ 1000) ∧ ((x.op = 11 ∨ x.op = 12) → x.a ≤ 2000) ∧ (x.op = 14 → x.b ≤ 2000) ∧ 0 ≤ x.b ∧ (4 ≤ x.op ∧ x.op ≤ 8 → x.a = 0) := by
  obtain ⟨h1, h2, h3, h4, h5, h6⟩ := form_op h
  obtain ⟨op, a, b⟩ := x
  dsimp only at *
  obtain ⟨m, rfl⟩ : ∃ m : Nat, op = m := ⟨op.toNat, by omega⟩
  rw [Int.toNat_natCast] at *
  have : m = 1 ∨ m = 2 ∨ m = 3 ∨ m = 4 ∨ m = 5 ∨ m = 6 ∨ m = 7 ∨ m = 8 ∨ m = 9 ∨ m = 10 ∨ m = 11 ∨ m = 12 ∨ m = 13 ∨ m = 14 ∨ m = 15 ∨ m = 16 ∨ m = 17 ∨ m = 18 := by omega
  rcases this with rfl | rfl | rfl | rfl | rfl | rfl | rfl | rfl | rfl | rfl | rfl | rfl | rfl | rfl | rfl | rfl | rfl | rfl <;> simp [lowA, highA, highB] at h3 h4 h6 <;> omega

theorem getD_set (cs : List Int) (i j : Nat) (v : Int) : (cs.set i v).getD j 0 = if i = j ∧ i < cs.length then v else cs.getD j 0 := by
  rw [List.getD_eq_getElem?_getD, List.getD_eq_getElem?_getD, List.getElem?_set]
  by_cases h : i = j
  · subst h
    by_cases h2 : i < cs.length
    · rw [if_pos rfl, if_pos h2, if_pos ⟨rfl, h2⟩]; rfl
    · rw [if_pos rfl, if_neg h2, if_neg (fun e => h2 e.2), List.getElem?_eq_none (by omega)]
  · rw [if_neg h, if_neg (fun e => h e.1)]

theorem low_set {cs : List Int} (h : ∀ j, 0 ≤ cs.getD j 0 ∧ cs.getD j 0 ≤ 1000) {i : Nat} {v : Int} (hv : 0 ≤ v ∧ v ≤ 1000) : ∀ j, 0 ≤ (cs.set i v).getD j 0 ∧ (cs.set i v).getD j 0 ≤ 1000 := by
  intro j
  rw [getD_set]
  split
  · exact hv
  · exact h j

/-- Where an instruction goes on is one of its ways. -/
theorem next_way {x : In} (s : MS) (h : formErr x = 0) : ((nextI x s : Nat) : Int) ∈ waysOf s.pc x := by
  obtain ⟨ha, -, -, -, -, -, -, hb, -⟩ := form_a h
  unfold nextI overI waysOf
  by_cases h11 : x.op = 11
  · simp [h11]; omega
  rw [if_neg h11, if_neg h11]
  by_cases h12 : x.op = 12
  · by_cases c : s.top = 0
    · simp [h12, c]; omega
    · simp [h12, c]
  rw [if_neg h12, if_neg h12]
  by_cases h14 : x.op = 14
  · by_cases c : 0 < s.cs.getD x.a.toNat 0
    · simp only [h14, c]; simp; omega
    · simp only [h14, c]; simp
  rw [if_neg h14, if_neg h14, if_neg (by simp)]
  simp

/-- How high the stack is behind an instruction. -/
theorem mdo_height {ins : List Int} {x : In} {s : MS} (h : formErr x = 0) (ht : takesOf x.op.toNat ≤ (s.st.length : Int)) : ((mdo ins x s).st.length : Int) = s.st.length - takesOf x.op.toNat + putsOf x.op.toNat := by
  obtain ⟨h1, h2, -⟩ := form_op h
  obtain ⟨op, a, b⟩ := x
  dsimp only at *
  obtain ⟨m, rfl⟩ : ∃ m : Nat, op = m := ⟨op.toNat, by omega⟩
  rw [Int.toNat_natCast] at *
  have : m = 1 ∨ m = 2 ∨ m = 3 ∨ m = 4 ∨ m = 5 ∨ m = 6 ∨ m = 7 ∨ m = 8 ∨ m = 9 ∨ m = 10 ∨ m = 11 ∨ m = 12 ∨ m = 13 ∨ m = 14 ∨ m = 15 ∨ m = 16 ∨ m = 17 ∨ m = 18 := by omega
  rcases this with rfl | rfl | rfl | rfl | rfl | rfl | rfl | rfl | rfl | rfl | rfl | rfl | rfl | rfl | rfl | rfl | rfl | rfl <;> simp [takesOf, putsOf] at ht ⊢ <;> simp [mdo] <;> omega

theorem MI.step {l : List In} {M : Int → Option Int} {s : MS} (g : GoodI l M) (h : MI l M s) (hlt : s.pc < l.length) (ins : List Int) : MI l M (mdo ins (atI l s) s) := by
  have hf := g.form _ hlt
  have hw := next_way s hf
  have hr := g.ways _ hlt _ hw
  obtain ⟨q, q1, q0, q2, q3, q4⟩ := g.hts _ hlt
  have e : q = (s.st.length : Int) := by rw [h.st] at q1; simpa using q1.symm
  subst e
  have hh := mdo_height (ins := ins) hf q2
  have hm := q4 _ hw
  obtain ⟨-, -, -, -, f13, -⟩ := form_a hf
  show MI l M (mdo ins (l.getD s.pc in0) s)
  generalize l.getD s.pc in0 = x at *
  refine ⟨by show nextI x s ≤ _; omega, ?_, ?_, ?_, ?_⟩
  · show M (nextI x s) = _
    rw [hm, hh]
  · show (if x.op = 3 then s.vs.set x.a.toNat s.top else s.vs).length = 8
    split <;> simp [h.vs]
  · show (if x.op = 13 then s.cs.set x.a.toNat x.b else if x.op = 14 then s.cs.set x.a.toNat (if 0 < s.cs.getD x.a.toNat 0 then s.cs.getD x.a.toNat 0 - 1 else 0) else if x.op = 15 then s.cs.set x.a.toNat 0 else s.cs).length = 8
    split
    · simp [h.cs]
    split
    · simp [h.cs]
    split
    · simp [h.cs]
    · exact h.cs
  · show ∀ j, 0 ≤ (if x.op = 13 then s.cs.set x.a.toNat x.b else if x.op = 14 then s.cs.set x.a.toNat (if 0 < s.cs.getD x.a.toNat 0 then s.cs.getD x.a.toNat 0 - 1 else 0) else if x.op = 15 then s.cs.set x.a.toNat 0 else s.cs).getD j 0 ∧ (if x.op = 13 then s.cs.set x.a.toNat x.b else if x.op = 14 then s.cs.set x.a.toNat (if 0 < s.cs.getD x.a.toNat 0 then s.cs.getD x.a.toNat 0 - 1 else 0) else if x.op = 15 then s.cs.set x.a.toNat 0 else s.cs).getD j 0 ≤ 1000
    have hl := h.low x.a.toNat
    split
    · rename_i e; exact low_set h.low (f13 e)
    split
    · refine low_set h.low ?_
      split <;> omega
    split
    · exact low_set h.low (by omega)
    · exact h.low

/-- What an instruction finds. -/
theorem MI.here {l : List In} {M : Int → Option Int} {s : MS} (g : GoodI l M) (h : MI l M s) (hlt : s.pc < l.length) : formErr (atI l s) = 0 ∧ takesOf (atI l s).op.toNat ≤ (s.st.length : Int) ∧ (s.st.length : Int) - takesOf (atI l s).op.toNat + putsOf (atI l s).op.toNat ≤ 20 ∧ nextI (atI l s) s ≤ l.length := by
  obtain ⟨q, q1, q0, q2, q3, q4⟩ := g.hts _ hlt
  have e : q = (s.st.length : Int) := by rw [h.st] at q1; simpa using q1.symm
  subst e
  exact ⟨g.form _ hlt, q2, q3, (MI.step g h hlt []).pc⟩

theorem cost_le {x : In} (h : formErr x = 0) (o : Bool) : 1 ≤ costI x o ∧ costI x o ≤ 1000 := by
  obtain ⟨h1, h2, -⟩ := form_op h
  obtain ⟨-, -, -, h18, -⟩ := form_a h
  obtain ⟨op, a, b⟩ := x
  dsimp only at *
  obtain ⟨m, rfl⟩ : ∃ m : Nat, op = m := ⟨op.toNat, by omega⟩
  unfold costI
  dsimp only
  rw [Int.toNat_natCast] at *
  have : m = 1 ∨ m = 2 ∨ m = 3 ∨ m = 4 ∨ m = 5 ∨ m = 6 ∨ m = 7 ∨ m = 8 ∨ m = 9 ∨ m = 10 ∨ m = 11 ∨ m = 12 ∨ m = 13 ∨ m = 14 ∨ m = 15 ∨ m = 16 ∨ m = 17 ∨ m = 18 := by omega
  rcases this with rfl | rfl | rfl | rfl | rfl | rfl | rfl | rfl | rfl | rfl | rfl | rfl | rfl | rfl | rfl | rfl | rfl | rfl <;> simp [tickOf] <;> first | omega | (cases o <;> simp)

/-- The closed run. -/
theorem run_image : runF imageL [5, 0, 0, 0] 20000 (ms0 [0, 0, 0, 0, 0, 0, 0, 0]) 0 = .inr (⟨10, [], [15, 0, 0, 0, 0, 0, 0, 0], [0, 0, 0, 0, 0, 0, 0, 0], [(1, 30)]⟩, 28) := by
  simp [runF, imageL, ms0, atI, mdo, nextI, overI, costI, binI, tickOf, MS.top, MS.second, in0]
  decide +kernel

/-- The instructions that are done, one by one, so many at most: their numbers and ticks. -/
def traceF (l : List In) (ins : List Int) : Nat → MS → List (Nat × Int)
  | 0, _ => []
  | n + 1, s => if s.pc = l.length then [] else (s.pc, costI (atI l s) (overI (atI l s) s)) :: traceF l ins n (mdo ins (atI l s) s)

theorem run_inl (l : List In) (ins : List Int) : ∀ (n : Nat) (s : MS) (t : Int) {p : Nat}, runF l ins n s t = .inl p → (traceF l ins n s).length = n ∧ (traceF l ins (n + 1) s).length = n + 1 ∧ ((traceF l ins (n + 1) s).getD n (0, 0)).1 = p
  | 0, s, t, p, h => by
    rw [runF] at h
    by_cases c : s.pc = l.length
    · rw [if_pos c] at h; simp at h
    · rw [if_neg c] at h
      simp only [Sum.inl.injEq] at h
      rw [traceF, traceF, if_neg c, traceF]
      exact ⟨rfl, rfl, h⟩
  | n + 1, s, t, p, h => by
    rw [runF] at h
    by_cases c : s.pc = l.length
    · rw [if_pos c] at h; simp at h
    · rw [if_neg c] at h
      obtain ⟨h1, h2, h3⟩ := run_inl l ins n _ _ h
      rw [traceF, if_neg c, traceF, if_neg c]
      exact ⟨by simp [h1], by simp [h2], by simpa using h3⟩

theorem run_at {l : List In} {ins : List Int} {n : Nat} {s : MS} {t : Int} (h : s.pc ≠ l.length) : runF l ins (n + 1) s t = runF l ins n (mdo ins (atI l s) s) (t + costI (atI l s) (overI (atI l s) s)) := by
  rw [runF, if_neg h]
theorem run_end {l : List In} {ins : List Int} {n : Nat} {s : MS} {t : Int} (h : s.pc = l.length) : runF l ins n s t = .inr (s, t) := by
  cases n <;> rw [runF, if_pos h]
theorem trace_at {l : List In} {ins : List Int} {n : Nat} {s : MS} (h : s.pc ≠ l.length) : traceF l ins (n + 1) s = (s.pc, costI (atI l s) (overI (atI l s) s)) :: traceF l ins n (mdo ins (atI l s) s) := by
  rw [traceF, if_neg h]
theorem trace_end {l : List In} {ins : List Int} {n : Nat} {s : MS} (h : s.pc = l.length) : traceF l ins n s = [] := by
  cases n with
  | zero => rfl
  | succ n => rw [traceF, if_pos h]
end Go.Proofs.YtcmoehednkaehadDoor
