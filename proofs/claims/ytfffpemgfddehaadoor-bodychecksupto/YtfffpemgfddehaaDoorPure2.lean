import Derived.Test.YtfffpemgfddehaaDoorNode
import Derived.Test.YtfffpemgfddehaaDoorMore
import Derived.Test.YtfffpemgfddehaaDoorCheckR
namespace Go.Proofs.YtfffpemgfddehaaDoor

/- All nodes, each ahead of its operands. -/
mutual
def Ex.all : Ex → List Ex
  | .mk k n a => .mk k n a :: Ex.allL a
def Ex.allL : List Ex → List Ex
  | [] => []
  | x :: r => x.all ++ Ex.allL r
end

/-- The same, or long enough and the same as far as it goes. -/
def Cut (m : Nat) (l full : List Ex) : Prop := l = full ∨ (m < l.length ∧ ∃ r, full = l ++ r)

mutual
theorem Ex.pre_cut (m : Nat) : ∀ e : Ex, Cut m (e.pre m) e.all
  | .mk k n a => by
    have := Ex.preAll_cut m a [.mk k n a]
    unfold Ex.pre Ex.all
    simpa using this
theorem Ex.preAll_cut (m : Nat) : ∀ (a l : List Ex), Cut m (Ex.preAll m a l) (l ++ Ex.allL a)
  | [], l => by unfold Ex.preAll Ex.allL; left; simp
  | x :: r, l => by
    unfold Ex.preAll Ex.allL
    split
    · rename_i h
      exact .inr ⟨h, _, rfl⟩
    · rcases Ex.pre_cut m x with hx | ⟨hx, q, hq⟩
      · have := Ex.preAll_cut m r (l ++ x.pre m)
        rw [hx] at this ⊢
        simpa using this
      · have hl : m < (l ++ x.pre m).length := by simp; omega
        have e : Ex.preAll m r (l ++ x.pre m) = l ++ x.pre m := by
          cases r with
          | nil => unfold Ex.preAll; rfl
          | cons y r => unfold Ex.preAll; rw [if_pos hl]
        rw [e]
        exact .inr ⟨hl, q ++ Ex.allL r, by rw [hq]; simp⟩
end

theorem wrongL_prefix : ∀ (l r : List Ex) (j : Nat), 30 < l.length + j → j ≤ 30 → wrongL (l ++ r) j = wrongL l j
  | [], r, j, h, hj => by simp at h; omega
  | x :: l, r, j, h, hj => by
    simp only [List.cons_append, wrongL]
    by_cases h30 : j = 30
    · rw [if_pos h30, if_pos h30]
    · rw [if_neg h30, if_neg h30]
      by_cases hx : x.err ≠ 0
      · rw [if_pos hx, if_pos hx]
      · rw [if_neg hx, if_neg hx]
        exact wrongL_prefix l r (j + 1) (by simp at h; omega) (by omega)

mutual
theorem Ex.node_all : ∀ (e : Ex) (c : Nat) (rest : List Ex), c ≤ 30 → wrongL (e.all ++ rest) c = if (e.node c).1 ≠ 0 then (e.node c).1 else wrongL rest (e.node c).2
  | .mk k n a, c, rest, hc => by
    unfold Ex.all Ex.node
    simp only [List.cons_append, wrongL]
    by_cases h30 : c = 30
    · rw [if_pos h30, if_pos (show 30 < c + 1 by omega)]
      simp
    · rw [if_neg h30, if_neg (show ¬ 30 < c + 1 by omega)]
      by_cases hx : (Ex.mk k n a).err ≠ 0
      · rw [if_pos hx, if_pos hx]
        simp [hx]
      · rw [if_neg hx, if_neg hx]
        exact Ex.nodeAll_all a (c + 1) rest (by omega)
theorem Ex.nodeAll_all : ∀ (a : List Ex) (c : Nat) (rest : List Ex), c ≤ 30 → wrongL (Ex.allL a ++ rest) c = if (Ex.nodeAll a c).1 ≠ 0 then (Ex.nodeAll a c).1 else wrongL rest (Ex.nodeAll a c).2
  | [], c, rest, hc => by unfold Ex.allL Ex.nodeAll; simp
  | x :: r, c, rest, hc => by
    unfold Ex.allL Ex.nodeAll
    rw [List.append_assoc, Ex.node_all x c _ hc]
    by_cases hx : (x.node c).1 ≠ 0
    · rw [if_pos hx, if_pos hx, if_pos hx]
    · rw [if_neg hx, if_neg hx]
      exact Ex.nodeAll_all r _ rest (Ex.node_le x c (by simpa using hx))
end

/-- What the program finds wrong with an expression is what the document says. -/
theorem Ex.node_wrong (e : Ex) : (e.node 0).1 = wrongL (e.pre 31) 0 := by
  have h1 := Ex.node_all e 0 [] (by omega)
  rw [List.append_nil] at h1
  have h2 : wrongL e.all 0 = wrongL (e.pre 31) 0 := by
    rcases Ex.pre_cut 31 e with h | ⟨h, r, hr⟩
    · rw [h]
    · rw [hr]; exact wrongL_prefix _ r 0 (by omega) (by omega)
  rw [← h2, h1]
  by_cases hx : (e.node 0).1 ≠ 0
  · rw [if_pos hx]
  · rw [if_neg hx]
    have : (e.node 0).1 = 0 := by simpa using hx
    rw [this, wrongL]
end Go.Proofs.YtfffpemgfddehaaDoor
namespace Go.Proofs.YtfffpemgfddehaaDoor

def valK (k : Int) : Bool := decide (k = 1 ∨ k = 2)
def conK (k : Int) : Bool := decide (k = 3 ∨ k = 5)
def innK (k : Int) : Bool := decide (3 ≤ k ∧ k ≤ 6)
def othK (k : Int) : Bool := decide (k = 3)

/-- What the program's looks find at a statement, but for what lies within it. -/
def progErr (k n : Int) (eN : Bool) (nE ck : Int) (aN bN : Bool) (nC : Int) (ly ll : Nat) (d : Int) (lk : Bool) : Int :=
  if k < 1 ∨ 8 ≤ k then 6
  else if ¬ (lowN k ≤ n ∧ n ≤ highN k) then 3
  else if moreS (valK k) (conK k) (innK k) (othK k) eN ck aN bN ly ll = true then 6
  else if valK k = true ∧ nE ≠ 0 then nE
  else if conK k = true ∧ nC ≠ 0 then nC
  else if innK k = true ∧ ¬ d < 6 then 2
  else if k = 6 ∧ lk = true then 10
  else 0

theorem prog_st (k n : Int) (eN : Bool) (wE ck : Int) (aN bN : Bool) (wA wB : Int) (ly ll : Nat) (d : Int) (lk : Bool) :
    progErr k n eN wE ck aN bN (if ck < 1 ∨ 4 < ck then 6 else if wA ≠ 0 then wA else wB) ly ll d lk = stErr k n eN wE ck aN bN wA wB ly ll d lk := by
  by_cases hk : k < 1 ∨ 8 ≤ k
  · unfold progErr stErr
    rw [if_pos hk, if_pos (by omega)]
  · have hk7 : k = 1 ∨ k = 2 ∨ k = 3 ∨ k = 4 ∨ k = 5 ∨ k = 6 ∨ k = 7 := by omega
    rcases hk7 with rfl | rfl | rfl | rfl | rfl | rfl | rfl
    · rw [stErr_1]; unfold progErr; simp [valK, conK, innK, othK, lowN, highN, moreS]; grind
    · rw [stErr_2]; unfold progErr; simp [valK, conK, innK, othK, lowN, highN, moreS]; grind
    · rw [stErr_3]; unfold progErr; simp [valK, conK, innK, othK, lowN, highN, moreS]; grind
    · rw [stErr_4]; unfold progErr; simp [valK, conK, innK, othK, lowN, highN, moreS]; grind
    · rw [stErr_5]; unfold progErr; simp [valK, conK, innK, othK, lowN, highN, moreS]; grind
    · rw [stErr_6]; unfold progErr; simp [valK, conK, innK, othK, lowN, highN, moreS]; grind
    · rw [stErr_7]; unfold progErr; simp [valK, conK, innK, othK, lowN, highN, moreS]; grind

/-- What the program finds at one statement that has these around it. -/
def St.perr : St → List (Int × Int) → Int
  | .mk k n e ck ca cb b l, ar => progErr k n (exNone e.k e.n e.a.length) (e.node 0).1 ck (exNone ca.k ca.n ca.a.length) (exNone cb.k cb.n cb.a.length) (condErr ck ca cb) b.length l.length ar.length (decide ((6, n) ∈ ar))

mutual
def St.chk : St → List (Int × Int) → Int → Int × Int
  | .mk k n e ck ca cb b l, ar, i =>
    if (St.mk k n e ck ca cb b l).perr ar ≠ 0 then ((St.mk k n e ck ca cb b l).perr ar, i + 1)
    else if (St.chkAll b (ar ++ [(k, n)]) (i + 1)).1 ≠ 0 then St.chkAll b (ar ++ [(k, n)]) (i + 1)
    else St.chkAll l (ar ++ [(k, n)]) (St.chkAll b (ar ++ [(k, n)]) (i + 1)).2
def St.chkAll : List St → List (Int × Int) → Int → Int × Int
  | [], _, i => (0, i)
  | s :: r, ar, i => if (s.chk ar i).1 ≠ 0 then s.chk ar i else St.chkAll r ar (s.chk ar i).2
end

def locksOf (ar : List (Int × Int)) : List Int := (ar.filter fun x => x.1 = 6).map (·.2)

theorem locksOf_snoc (ar : List (Int × Int)) (k n : Int) : locksOf (ar ++ [(k, n)]) = locksIn k n (locksOf ar) := by
  unfold locksOf locksIn
  by_cases h : k = 6 <;> simp [h]

theorem mem_locksOf (ar : List (Int × Int)) (n : Int) : n ∈ locksOf ar ↔ (6, n) ∈ ar := by
  unfold locksOf
  simp

theorem perr_err (s : St) (ar : List (Int × Int)) : s.perr ar = Fl.err ⟨s, ar.length, locksOf ar⟩ := by
  obtain ⟨k, n, e, ck, ca, cb, b, l⟩ := s
  show progErr k n (exNone e.k e.n e.a.length) (e.node 0).1 ck (exNone ca.k ca.n ca.a.length) (exNone cb.k cb.n cb.a.length) (condErr ck ca cb) b.length l.length ar.length (decide ((6, n) ∈ ar)) =
    stErr k n (exNone e.k e.n e.a.length) (wrongL (e.pre 31) 0) ck (exNone ca.k ca.n ca.a.length) (exNone cb.k cb.n cb.a.length) (wrongL (ca.pre 31) 0) (wrongL (cb.pre 31) 0) b.length l.length ar.length (decide (n ∈ locksOf ar))
  unfold condErr
  rw [Ex.node_wrong, Ex.node_wrong, Ex.node_wrong, prog_st]
  congr 1
  exact decide_eq_decide.2 (mem_locksOf ar n).symm

theorem firstErr_cons (f : Fl) (r : List Fl) (j : Nat) : firstErr (f :: r) j = if f.err ≠ 0 then (f.err, (j : Int)) else firstErr r (j + 1) := rfl

mutual
theorem St.chk_flat : ∀ (s : St) (ar : List (Int × Int)) (j : Nat) (rest : List Fl), firstErr (s.flat ar.length (locksOf ar) ++ rest) j = if (s.chk ar ((j : Int) - 1)).1 ≠ 0 then s.chk ar ((j : Int) - 1) else firstErr rest (j + s.count)
  | .mk k n e ck ca cb b l, ar, j, rest => by
    have hp := perr_err (.mk k n e ck ca cb b l) ar
    have hj : ((j : Int) - 1) + 1 = j := by omega
    unfold St.flat St.chk
    rw [List.cons_append, firstErr_cons, ← hp, hj]
    by_cases h0 : (St.mk k n e ck ca cb b l).perr ar ≠ 0
    · rw [if_pos h0, if_pos h0, if_pos h0]
    · rw [if_neg h0, if_neg h0]
      have hl : ((ar.length : Int) + 1) = ((ar ++ [(k, n)]).length : Int) := by simp
      rw [hl, ← locksOf_snoc, List.append_assoc]
      have h1 := St.chkAll_flat b (ar ++ [(k, n)]) (j + 1) (St.flatAll l ((ar ++ [(k, n)]).length : Int) (locksOf (ar ++ [(k, n)])) ++ rest)
      have e1 : (((j + 1 : Nat) : Int) - 1) = j := by omega
      rw [e1] at h1
      rw [h1]
      have hc := St.chkAll_at b (ar ++ [(k, n)]) j
      by_cases hb : (St.chkAll b (ar ++ [(k, n)]) j).1 ≠ 0
      · rw [if_pos hb, if_pos hb, if_pos hb]
      · rw [if_neg hb, if_neg hb]
        have h2 := St.chkAll_flat l (ar ++ [(k, n)]) (j + 1 + St.countAll b) rest
        rw [h2]
        have e2 : ((j + 1 + St.countAll b : Nat) : Int) - 1 = (St.chkAll b (ar ++ [(k, n)]) j).2 := by
          rw [hc (by simpa using hb)]; omega
        rw [e2]
        have e3 : j + 1 + St.countAll b + St.countAll l = j + (St.mk k n e ck ca cb b l).count := by simp only [St.count]; omega
        rw [e3]
theorem St.chkAll_flat : ∀ (a : List St) (ar : List (Int × Int)) (j : Nat) (rest : List Fl), firstErr (St.flatAll a ar.length (locksOf ar) ++ rest) j = if (St.chkAll a ar ((j : Int) - 1)).1 ≠ 0 then St.chkAll a ar ((j : Int) - 1) else firstErr rest (j + St.countAll a)
  | [], ar, j, rest => by unfold St.flatAll St.chkAll; simp [St.countAll]
  | s :: r, ar, j, rest => by
    unfold St.flatAll St.chkAll
    rw [List.append_assoc, St.chk_flat s ar j _]
    have hc := St.chk_at s ar ((j : Int) - 1)
    by_cases hs : (s.chk ar ((j : Int) - 1)).1 ≠ 0
    · rw [if_pos hs, if_pos hs, if_pos hs]
    · rw [if_neg hs, if_neg hs, St.chkAll_flat r ar (j + s.count) rest]
      have e2 : ((j + s.count : Nat) : Int) - 1 = (s.chk ar ((j : Int) - 1)).2 := by
        rw [hc (by simpa using hs)]; omega
      rw [e2]
      have e3 : j + s.count + St.countAll r = j + St.countAll (s :: r) := by simp only [St.countAll]; omega
      rw [e3]
theorem St.chk_at : ∀ (s : St) (ar : List (Int × Int)) (i : Int), (s.chk ar i).1 = 0 → (s.chk ar i).2 = i + s.count
  | .mk k n e ck ca cb b l, ar, i, h => by
    unfold St.chk at h ⊢
    by_cases h0 : (St.mk k n e ck ca cb b l).perr ar ≠ 0
    · rw [if_pos h0] at h; exact absurd h h0
    · rw [if_neg h0] at h ⊢
      by_cases hb : (St.chkAll b (ar ++ [(k, n)]) (i + 1)).1 ≠ 0
      · rw [if_pos hb] at h; exact absurd h hb
      · rw [if_neg hb] at h ⊢
        rw [St.chkAll_at l _ _ h, St.chkAll_at b _ _ (by simpa using hb)]
        simp only [St.count]
        omega
theorem St.chkAll_at : ∀ (a : List St) (ar : List (Int × Int)) (i : Int), (St.chkAll a ar i).1 = 0 → (St.chkAll a ar i).2 = i + St.countAll a
  | [], ar, i, _ => by simp [St.chkAll, St.countAll]
  | s :: r, ar, i, h => by
    unfold St.chkAll at h ⊢
    by_cases hs : (s.chk ar i).1 ≠ 0
    · rw [if_pos hs] at h; exact absurd h hs
    · rw [if_neg hs] at h ⊢
      rw [St.chkAll_at r _ _ h, St.chk_at s _ _ (by simpa using hs)]
      simp only [St.countAll]
      omega
end

/-- What the program finds wrong with a body is what the document says. -/
theorem chk_body (a : List St) : firstErr (St.flatAll a 0 []) 0 = if (St.chkAll a [] (-1)).1 ≠ 0 then St.chkAll a [] (-1) else (0, 0) := by
  have h := St.chkAll_flat a [] 0 []
  simp only [List.append_nil] at h
  exact h
end Go.Proofs.YtfffpemgfddehaaDoor
