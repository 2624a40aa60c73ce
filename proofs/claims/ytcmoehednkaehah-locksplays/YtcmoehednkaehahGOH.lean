import Derived.Test.YtcmoehednkaehahGOB
namespace Go.Proofs.Ytcmoehednkaehah.Once
open Go.Proofs.Ytcmoehednkaehah

/-- What is left to do of a stretch: acts that are left, and how many locks are held. -/
def leftF : List Ac → Nat → Int
  | [], _ => 0
  | _ :: _, 0 => 0
  | a :: r, h + 1 => if a.d = 2 then leftF r (h + 2) else if a.d = 3 then leftF r h else a.n + leftF r (h + 1)

def depF : List Ac → Nat → Nat
  | [], h => h
  | a :: r, h => depF r (if a.d = 2 then h + 1 else if a.d = 3 then h - 1 else h)

def Pos (l : List Ac) : Prop := ∀ a ∈ l, a.d ≠ 2 → a.d ≠ 3 → 1 ≤ a.n

theorem Pos.tail {a : Ac} {r : List Ac} (h : Pos (a :: r)) : Pos r := fun b hb => h b (List.mem_cons_of_mem _ hb)

theorem leftF_zero (l : List Ac) : leftF l 0 = 0 := by cases l <;> rfl

theorem leftF_nonneg : ∀ (l : List Ac) (h : Nat), Pos l → 0 ≤ leftF l h
  | [], _, _ => Int.le_refl _
  | _ :: _, 0, _ => Int.le_refl _
  | a :: r, h + 1, hp => by
    rw [leftF]
    by_cases h2 : a.d = 2
    · rw [if_pos h2]; exact leftF_nonneg r _ hp.tail
    · rw [if_neg h2]
      by_cases h3 : a.d = 3
      · rw [if_pos h3]; exact leftF_nonneg r _ hp.tail
      · rw [if_neg h3]
        have := leftF_nonneg r (h + 1) hp.tail
        have := hp a List.mem_cons_self h2 h3
        omega

theorem lonF_ge : ∀ (l : List Ac) (h : Nat) (t b : Int), t ≤ b → t + leftF l h ≤ lonF l h t b ∧ b ≤ lonF l h t b
  | [], _, t, b, hb => by rw [leftF, lonF]; omega
  | a :: r, 0, t, b, hb => by
    rw [leftF_zero, lonF]
    by_cases h2 : a.d = 2
    · rw [if_pos h2]
      have := lonF_ge r (0 + 1) t (max b t) (by omega)
      omega
    · rw [if_neg h2]
      by_cases h3 : a.d = 3
      · rw [if_pos h3, if_neg (by omega)]
        have := lonF_ge r (0 - 1) t (max b t) (by omega)
        omega
      · rw [if_neg h3, if_pos rfl]
        have := lonF_ge r 0 0 (max b 0) (by omega)
        omega
  | a :: r, h + 1, t, b, hb => by
    rw [leftF, lonF]
    by_cases h2 : a.d = 2
    · rw [if_pos h2, if_pos h2]
      have := lonF_ge r (h + 1 + 1) t (max b t) (by omega)
      have e : h + 1 + 1 = h + 2 := rfl
      rw [e] at this ⊢
      omega
    · rw [if_neg h2, if_neg h2]
      by_cases h3 : a.d = 3
      · rw [if_pos h3, if_pos h3]
        by_cases hh : h + 1 = 1
        · have h0 : h = 0 := by omega
          subst h0
          rw [if_pos rfl, leftF_zero]
          have := lonF_ge r 0 0 (max b 0) (by omega)
          omega
        · rw [if_neg hh]
          have := lonF_ge r (h + 1 - 1) t (max b t) (by omega)
          have e : h + 1 - 1 = h := rfl
          rw [e] at this
          rw [e]
          omega
      · rw [if_neg h3, if_neg h3, if_neg (by omega)]
        have := lonF_ge r (h + 1) (t + a.n) (max b (t + a.n)) (by omega)
        omega

theorem lonF_pre : ∀ (pre rest : List Ac) (h : Nat) (t b : Int), Pos pre → 0 ≤ t → t ≤ b → ∃ t' b', 0 ≤ t' ∧ t' ≤ b' ∧ lonF (pre ++ rest) h t b = lonF rest (depF pre h) t' b'
  | [], rest, h, t, b, _, h0, hb => ⟨t, b, h0, hb, rfl⟩
  | a :: r, rest, h, t, b, hp, h0, hb => by
    rw [List.cons_append, lonF, depF]
    by_cases h2 : a.d = 2
    · rw [if_pos h2, if_pos h2]
      exact lonF_pre r rest (h + 1) t (max b t) hp.tail h0 (by omega)
    · rw [if_neg h2, if_neg h2]
      by_cases h3 : a.d = 3
      · rw [if_pos h3, if_pos h3]
        by_cases hh : h = 1
        · subst hh
          rw [if_pos rfl]
          exact lonF_pre r rest 0 0 (max b 0) hp.tail (Int.le_refl _) (by omega)
        · rw [if_neg hh]
          exact lonF_pre r rest (h - 1) t (max b t) hp.tail h0 (by omega)
      · rw [if_neg h3, if_neg h3]
        have hn := hp a List.mem_cons_self h2 h3
        by_cases hh : h = 0
        · subst hh
          rw [if_pos rfl]
          exact lonF_pre r rest 0 0 (max b 0) hp.tail (Int.le_refl _) (by omega)
        · rw [if_neg hh]
          exact lonF_pre r rest h (t + a.n) (max b (t + a.n)) hp.tail (by omega) (by omega)

/-- What is left of a stretch is no longer than the longest one. -/
theorem left_le (pre rest : List Ac) (hp : Pos pre) : leftF rest (depF pre 0) ≤ longF (pre ++ rest) := by
  unfold longF
  obtain ⟨t, b, h0, hb, e⟩ := lonF_pre pre rest 0 0 0 hp (Int.le_refl _) (Int.le_refl _)
  rw [e]
  have := lonF_ge rest (depF pre 0) t b hb
  omega

theorem topA_ge (p m : Int) : ∀ (l : List Ac) (b : Int), b ≤ topA p m l b
  | [], _ => Int.le_refl _
  | a :: r, b => by
    rw [topA]
    have := topA_ge p m r (if a.d = 2 ∧ a.n = m then max b p else b)
    split at this <;> rename_i h
    · rw [if_pos h]; omega
    · rw [if_neg h]; omega

theorem topA_p (p m : Int) : ∀ (l : List Ac) (b : Int) (a : Ac), a ∈ l → a.d = 2 → a.n = m → p ≤ topA p m l b
  | [], _, _, h, _, _ => by simp at h
  | x :: r, b, a, h, h2, hm => by
    rw [topA]
    rcases List.mem_cons.1 h with rfl | h
    · rw [if_pos ⟨h2, hm⟩]
      have := topA_ge p m r (max b p)
      omega
    · exact topA_p p m r _ a h h2 hm

theorem topL_ge (m : Int) : ∀ (l : List Lj) (b : Int), b ≤ topL m l b
  | [], _ => Int.le_refl _
  | x :: r, b => by
    rw [topL]
    have := topA_ge x.p m x.acts b
    have := topL_ge m r (topA x.p m x.acts b)
    omega

/-- A lock's ceiling is no less than any that takes it has. -/
theorem topL_p (m : Int) : ∀ (l : List Lj) (b : Int) (x : Lj), x ∈ l → ∀ a ∈ x.acts, a.d = 2 → a.n = m → x.p ≤ topL m l b
  | [], _, _, h, _, _, _, _ => by simp at h
  | z :: r, b, x, h, a, ha, h2, hm => by
    rw [topL]
    rcases List.mem_cons.1 h with rfl | h
    · have := topA_p x.p m x.acts b a ha h2 hm
      have := topL_ge m r (topA x.p m x.acts b)
      omega
    · exact topL_p m r _ x h a ha h2 hm
end Go.Proofs.Ytcmoehednkaehah.Once
namespace Go.Proofs.Ytcmoehednkaehah
open Go.ChangeShapes Go.WideShapes Go.ChangeAt Go.RowKit

/-- A job that is played. -/
structure En where
  x : Lj
  nx : Nat
  rn : Int
  bg : Bool
  wt : Int
  ac : Int

def En.vals (e : En) : List Value := [.int .i64 e.x.a, .int .i64 e.x.p, e.x.v, .int .i64 e.nx, .int .i64 e.rn, .bool e.bg, .int .i64 e.wt, .int .i64 e.ac]
theorem En.len (e : En) : e.vals.length = 8 := rfl

/-- What a run keeps. -/
structure Rs where
  es : List En
  en : List Int
  ws : List Int
  hs : List Int

/-- Where it lies. -/
structure Ad where
  R : Nat
  J : Nat
  E : Nat
  T : Nat
  C : Nat
  F : Nat → Option Obj

def inV (l : List Int) : List Value := l.map (Value.int .i64)
theorem inV_at {l : List Int} {i : Nat} {z : Int} (h : l[i]? = some z) : (inV l)[i]? = some (.int .i64 z) := by unfold inV; rw [List.getElem?_map, h]; rfl
theorem inV_set (l : List Int) (i : Nat) (z : Int) : (inV l).set i (.int .i64 z) = inV (l.set i z) := by unfold inV; rw [List.map_set]

theorem flat_set {α : Type} (f : α → List Value) (sz : Nat) (hf : ∀ x, (f x).length = sz) : ∀ (l : List α) (j k : Nat) (x y : α) (u : Value), l[j]? = some x → k < sz → f y = (f x).set k u → (l.flatMap f).set (j * sz + k) u = (l.set j y).flatMap f
  | [], j, k, x, y, u, h, _, _ => by simp at h
  | z :: t, 0, k, x, y, u, h, hk, e => by
    simp at h
    subst h
    rw [List.flatMap_cons, Nat.zero_mul, Nat.zero_add, List.set_cons_zero, List.flatMap_cons, e, List.set_append_left _ _ (by rw [hf]; exact hk)]
  | z :: t, j + 1, k, x, y, u, h, hk, e => by
    have ih := flat_set f sz hf t j k x y u (by simpa using h) hk e
    rw [List.flatMap_cons, List.set_cons_succ, List.flatMap_cons, ← ih, List.set_append_right _ _ (by rw [hf, Nat.succ_mul]; omega), hf]
    congr 2
    rw [Nat.succ_mul]
    omega

def rvals (A : Ad) (pr : Int) (n : Nat) (rv : Value) (hs : List Int) : List Value :=
  rv :: .slice (some ⟨A.E, 0, none⟩) n n :: .slice (some ⟨A.T, 0, none⟩) n n :: .bool false :: .slice (some ⟨A.J, 0, none⟩) n n :: .int .i64 pr :: .slice (some ⟨A.C, 0, none⟩) 4 4 :: inV hs

/-- A run lies there. -/
structure RunW (w0 w : World) (A : Ad) (pr : Int) (tp : List Int) (n : Nat) (rv : Value) (x : Rs) : Prop where
  bel : Below w0.heap.size w0 w
  lo : w0.heap.size ≤ A.R ∧ w0.heap.size ≤ A.J ∧ w0.heap.size ≤ A.E ∧ w0.heap.size ≤ A.T ∧ w0.heap.size ≤ A.C
  ne : (A.R ≠ A.J ∧ A.R ≠ A.E ∧ A.R ≠ A.T ∧ A.R ≠ A.C) ∧ (A.J ≠ A.E ∧ A.J ≠ A.T ∧ A.J ≠ A.C) ∧ (A.E ≠ A.T ∧ A.E ≠ A.C) ∧ A.T ≠ A.C
  hR : w.heap[A.R]? = some (.cells (rvals A pr n rv x.hs).toArray 70 (0, 0))
  hJ : w.heap[A.J]? = some (.cells (x.es.flatMap En.vals).toArray 75 (0, 0))
  hE : w.heap[A.E]? = some (.cells (inV x.en).toArray 3 (0, 0))
  hT : w.heap[A.T]? = some (.cells (inV x.ws).toArray 3 (0, 0))
  hC : w.heap[A.C]? = some (.cells (inV tp).toArray 3 (0, 0))
  ln : x.es.length = n ∧ x.en.length = n ∧ x.ws.length = n ∧ x.hs.length = 4 ∧ tp.length = 4
  fr : ∀ k o, A.F k = some o → (k ≠ A.R ∧ k ≠ A.J ∧ k ≠ A.E ∧ k ≠ A.T) ∧ w.heap[k]? = some o

theorem heap_lt {w : World} {g : Nat} {o : Obj} (h : w.heap[g]? = some o) : g < w.heap.size := (Array.getElem?_eq_some_iff.1 h).1

theorem RunW.grow {w0 w w' : World} {A : Ad} {pr : Int} {tp : List Int} {n : Nat} {rv : Value} {x : Rs} (h : RunW w0 w A pr tp n rv x) (hb : Below w.heap.size w w') : RunW w0 w' A pr tp n rv x :=
  ⟨h.bel.trans (hb.mono h.bel.size), h.lo, h.ne, (hb.block _ (heap_lt h.hR)).trans h.hR, (hb.block _ (heap_lt h.hJ)).trans h.hJ, (hb.block _ (heap_lt h.hE)).trans h.hE, (hb.block _ (heap_lt h.hT)).trans h.hT, (hb.block _ (heap_lt h.hC)).trans h.hC, h.ln, fun k o hk => ⟨(h.fr k o hk).1, (hb.block _ (heap_lt (h.fr k o hk).2)).trans (h.fr k o hk).2⟩⟩

theorem RunW.drewN {w0 w : World} {A : Ad} {pr : Int} {tp : List Int} {n k : Nat} {rv : Value} {x : Rs} (h : RunW w0 w A pr tp n rv x) : RunW w0 (w.drewN k) A pr tp n rv x := h.grow below_drewN'
theorem RunW.drew {w0 w : World} {A : Ad} {pr : Int} {tp : List Int} {n : Nat} {rv : Value} {x : Rs} (h : RunW w0 w A pr tp n rv x) : RunW w0 w.drew A pr tp n rv x := h.grow (Below.refl _ _).drew

/-- One cell of a job is set. -/
theorem RunW.setJ {w0 w : World} {A : Ad} {pr : Int} {tp : List Int} {n : Nat} {rv : Value} {x : Rs} (h : RunW w0 w A pr tp n rv x) {i k : Nat} {e e' : En} {u : Value} (hi : x.es[i]? = some e) (hk : k < 8) (he : e'.vals = e.vals.set k u) :
    RunW w0 (w.setCell ⟨A.J, i * 8 + k, none⟩ u) A pr tp n rv { x with es := x.es.set i e' } := by
  obtain ⟨⟨n1, n2, n3, n4⟩, ⟨n5, n6, n7⟩, ⟨n8, n9⟩, n10⟩ := h.ne
  refine ⟨h.bel.setCell h.lo.2.1 _, h.lo, h.ne, (Below.heap_setCell _ _ _ _ n1).trans h.hR, ?_, (Below.heap_setCell _ _ _ _ (Ne.symm n5)).trans h.hE, (Below.heap_setCell _ _ _ _ (Ne.symm n6)).trans h.hT, (Below.heap_setCell _ _ _ _ (Ne.symm n7)).trans h.hC, ?_, fun k o hk => ⟨(h.fr k o hk).1, (Below.heap_setCell _ _ _ _ (h.fr k o hk).1.2.1).trans (h.fr k o hk).2⟩⟩
  · rw [setCell_at h.hJ, List.setIfInBounds_toArray, flat_set En.vals 8 En.len _ _ _ _ _ _ hi hk he]
  · have := h.ln
    simpa using this

/-- One is done. -/
theorem RunW.setE {w0 w : World} {A : Ad} {pr : Int} {tp : List Int} {n : Nat} {rv : Value} {x : Rs} (h : RunW w0 w A pr tp n rv x) (i : Nat) (z : Int) :
    RunW w0 (w.setCell ⟨A.E, i, none⟩ (.int .i64 z)) A pr tp n rv { x with en := x.en.set i z } := by
  obtain ⟨⟨n1, n2, n3, n4⟩, ⟨n5, n6, n7⟩, ⟨n8, n9⟩, n10⟩ := h.ne
  refine ⟨h.bel.setCell h.lo.2.2.1 _, h.lo, h.ne, (Below.heap_setCell _ _ _ _ n2).trans h.hR, (Below.heap_setCell _ _ _ _ n5).trans h.hJ, ?_, (Below.heap_setCell _ _ _ _ (Ne.symm n8)).trans h.hT, (Below.heap_setCell _ _ _ _ (Ne.symm n9)).trans h.hC, ?_, fun k o hk => ⟨(h.fr k o hk).1, (Below.heap_setCell _ _ _ _ (h.fr k o hk).1.2.2.1).trans (h.fr k o hk).2⟩⟩
  · rw [setCell_at h.hE, List.setIfInBounds_toArray, inV_set]
  · have := h.ln
    simpa using this

/-- One waits a tick. -/
theorem RunW.setT {w0 w : World} {A : Ad} {pr : Int} {tp : List Int} {n : Nat} {rv : Value} {x : Rs} (h : RunW w0 w A pr tp n rv x) (i : Nat) (z : Int) :
    RunW w0 (w.setCell ⟨A.T, i, none⟩ (.int .i64 z)) A pr tp n rv { x with ws := x.ws.set i z } := by
  obtain ⟨⟨n1, n2, n3, n4⟩, ⟨n5, n6, n7⟩, ⟨n8, n9⟩, n10⟩ := h.ne
  refine ⟨h.bel.setCell h.lo.2.2.2.1 _, h.lo, h.ne, (Below.heap_setCell _ _ _ _ n3).trans h.hR, (Below.heap_setCell _ _ _ _ n6).trans h.hJ, (Below.heap_setCell _ _ _ _ n8).trans h.hE, ?_, (Below.heap_setCell _ _ _ _ (Ne.symm n10)).trans h.hC, ?_, fun k o hk => ⟨(h.fr k o hk).1, (Below.heap_setCell _ _ _ _ (h.fr k o hk).1.2.2.2).trans (h.fr k o hk).2⟩⟩
  · rw [setCell_at h.hT, List.setIfInBounds_toArray, inV_set]
  · have := h.ln
    simpa using this

theorem rvals_hs (A : Ad) (pr : Int) (n : Nat) (rv : Value) (hs : List Int) (m : Nat) (z : Int) : (rvals A pr n rv hs).set (7 + m) (.int .i64 z) = rvals A pr n rv (hs.set m z) := by
  rw [show 7 + m = m + 7 by omega]
  simp [rvals, inV_set]

/-- A lock's holder is set. -/
theorem RunW.setH {w0 w : World} {A : Ad} {pr : Int} {tp : List Int} {n : Nat} {rv : Value} {x : Rs} (h : RunW w0 w A pr tp n rv x) (m : Nat) (z : Int) :
    RunW w0 (w.setCell ⟨A.R, 7 + m, none⟩ (.int .i64 z)) A pr tp n rv { x with hs := x.hs.set m z } := by
  obtain ⟨⟨n1, n2, n3, n4⟩, ⟨n5, n6, n7⟩, ⟨n8, n9⟩, n10⟩ := h.ne
  refine ⟨h.bel.setCell h.lo.1 _, h.lo, h.ne, ?_, (Below.heap_setCell _ _ _ _ (Ne.symm n1)).trans h.hJ, (Below.heap_setCell _ _ _ _ (Ne.symm n2)).trans h.hE, (Below.heap_setCell _ _ _ _ (Ne.symm n3)).trans h.hT, (Below.heap_setCell _ _ _ _ (Ne.symm n4)).trans h.hC, ?_, fun k o hk => ⟨(h.fr k o hk).1, (Below.heap_setCell _ _ _ _ (h.fr k o hk).1.1).trans (h.fr k o hk).2⟩⟩
  · rw [setCell_at h.hR, List.setIfInBounds_toArray, rvals_hs]
  · have := h.ln
    simpa using this

/-- Who ran is told. -/
theorem RunW.setR {w0 w : World} {A : Ad} {pr : Int} {tp : List Int} {n : Nat} {rv : Value} {x : Rs} (h : RunW w0 w A pr tp n rv x) (rv' : Value) :
    RunW w0 (w.setCell ⟨A.R, 0, none⟩ rv') A pr tp n rv' x := by
  obtain ⟨⟨n1, n2, n3, n4⟩, ⟨n5, n6, n7⟩, ⟨n8, n9⟩, n10⟩ := h.ne
  refine ⟨h.bel.setCell h.lo.1 _, h.lo, h.ne, ?_, (Below.heap_setCell _ _ _ _ (Ne.symm n1)).trans h.hJ, (Below.heap_setCell _ _ _ _ (Ne.symm n2)).trans h.hE, (Below.heap_setCell _ _ _ _ (Ne.symm n3)).trans h.hT, (Below.heap_setCell _ _ _ _ (Ne.symm n4)).trans h.hC, h.ln, fun k o hk => ⟨(h.fr k o hk).1, (Below.heap_setCell _ _ _ _ (h.fr k o hk).1.1).trans (h.fr k o hk).2⟩⟩
  rw [setCell_at h.hR, List.setIfInBounds_toArray]
  rfl

/-- What the run's own cells hold. -/
theorem RunW.own {w0 w : World} {A : Ad} {pr : Int} {tp : List Int} {n : Nat} {rv : Value} {x : Rs} (h : RunW w0 w A pr tp n rv x) :
    w.cell? ⟨A.R, 0, none⟩ = some rv ∧ w.cell? ⟨A.R, 1, none⟩ = some (.slice (some ⟨A.E, 0, none⟩) n n) ∧ w.cell? ⟨A.R, 2, none⟩ = some (.slice (some ⟨A.T, 0, none⟩) n n) ∧ w.cell? ⟨A.R, 4, none⟩ = some (.slice (some ⟨A.J, 0, none⟩) n n) ∧ w.cell? ⟨A.R, 5, none⟩ = some (.int .i64 pr) ∧ w.cell? ⟨A.R, 6, none⟩ = some (.slice (some ⟨A.C, 0, none⟩) 4 4) := by
  obtain ⟨c, -, -⟩ := cells_of h.hR
  exact ⟨c 0 _ rfl, c 1 _ rfl, c 2 _ rfl, c 4 _ rfl, c 5 _ rfl, c 6 _ rfl⟩

theorem RunW.frz {w0 w : World} {A : Ad} {pr : Int} {tp : List Int} {n : Nat} {rv : Value} {x : Rs} (h : RunW w0 w A pr tp n rv x) :
    (∀ j, w.frozen? ⟨A.R, j, none⟩ = false) ∧ (∀ j, w.frozen? ⟨A.J, j, none⟩ = false) ∧ (∀ j, w.frozen? ⟨A.E, j, none⟩ = false) ∧ (∀ j, w.frozen? ⟨A.T, j, none⟩ = false) :=
  ⟨(cells_of h.hR).2.1, (cells_of h.hJ).2.1, (cells_of h.hE).2.1, (cells_of h.hT).2.1⟩

theorem RunW.lts {w0 w : World} {A : Ad} {pr : Int} {tp : List Int} {n : Nat} {rv : Value} {x : Rs} (h : RunW w0 w A pr tp n rv x) : A.R < w.heap.size ∧ A.J < w.heap.size ∧ A.E < w.heap.size ∧ A.T < w.heap.size ∧ A.C < w.heap.size :=
  ⟨heap_lt h.hR, heap_lt h.hJ, heap_lt h.hE, heap_lt h.hT, heap_lt h.hC⟩

theorem RunW.hold {w0 w : World} {A : Ad} {pr : Int} {tp : List Int} {n : Nat} {rv : Value} {x : Rs} (h : RunW w0 w A pr tp n rv x) {m : Nat} {z : Int} (hm : x.hs[m]? = some z) : w.cell? ⟨A.R, 7 + m, none⟩ = some (.int .i64 z) := by
  obtain ⟨c, -, -⟩ := cells_of h.hR
  refine c _ _ ?_
  rw [show 7 + m = m + 7 by omega]
  simp only [rvals, List.getElem?_cons_succ]
  exact inV_at hm

theorem RunW.ends {w0 w : World} {A : Ad} {pr : Int} {tp : List Int} {n : Nat} {rv : Value} {x : Rs} (h : RunW w0 w A pr tp n rv x) {i : Nat} {z : Int} (hm : x.en[i]? = some z) : w.cell? ⟨A.E, i, none⟩ = some (.int .i64 z) := (cells_of h.hE).1 _ _ (inV_at hm)
theorem RunW.waits {w0 w : World} {A : Ad} {pr : Int} {tp : List Int} {n : Nat} {rv : Value} {x : Rs} (h : RunW w0 w A pr tp n rv x) {i : Nat} {z : Int} (hm : x.ws[i]? = some z) : w.cell? ⟨A.T, i, none⟩ = some (.int .i64 z) := (cells_of h.hT).1 _ _ (inV_at hm)
theorem RunW.ceil {w0 w : World} {A : Ad} {pr : Int} {tp : List Int} {n : Nat} {rv : Value} {x : Rs} (h : RunW w0 w A pr tp n rv x) {i : Nat} {z : Int} (hm : tp[i]? = some z) : w.cell? ⟨A.C, i, none⟩ = some (.int .i64 z) := (cells_of h.hC).1 _ _ (inV_at hm)

/-- What a job's cells hold. -/
theorem RunW.job {w0 w : World} {A : Ad} {pr : Int} {tp : List Int} {n : Nat} {rv : Value} {x : Rs} (h : RunW w0 w A pr tp n rv x) {i : Nat} {e : En} (hi : x.es[i]? = some e) :
    w.cell? ⟨A.J, i * 8, none⟩ = some (.int .i64 e.x.a) ∧ w.cell? ⟨A.J, i * 8 + 1, none⟩ = some (.int .i64 e.x.p) ∧ w.cell? ⟨A.J, i * 8 + 2, none⟩ = some e.x.v ∧ w.cell? ⟨A.J, i * 8 + 3, none⟩ = some (.int .i64 e.nx) ∧ w.cell? ⟨A.J, i * 8 + 4, none⟩ = some (.int .i64 e.rn) ∧ w.cell? ⟨A.J, i * 8 + 5, none⟩ = some (.bool e.bg) ∧ w.cell? ⟨A.J, i * 8 + 6, none⟩ = some (.int .i64 e.wt) ∧ w.cell? ⟨A.J, i * 8 + 7, none⟩ = some (.int .i64 e.ac) := by
  obtain ⟨c, -, -⟩ := cells_of h.hJ
  have key : ∀ k u, k < 8 → e.vals[k]? = some u → w.cell? ⟨A.J, i * 8 + k, none⟩ = some u := fun k u hk hu => c _ _ ((flat_at En.vals 8 En.len x.es i k e hi hk).trans hu)
  exact ⟨key 0 _ (by omega) rfl, key 1 _ (by omega) rfl, key 2 _ (by omega) rfl, key 3 _ (by omega) rfl, key 4 _ (by omega) rfl, key 5 _ (by omega) rfl, key 6 _ (by omega) rfl, key 7 _ (by omega) rfl⟩
/-- What is held beside the run stays. -/
theorem RunW.beside {w0 w : World} {A : Ad} {pr : Int} {tp : List Int} {n : Nat} {rv : Value} {x : Rs} (h : RunW w0 w A pr tp n rv x) (F : Nat → Option Obj) (hF : ∀ k o, F k = some o → (k ≠ A.R ∧ k ≠ A.J ∧ k ≠ A.E ∧ k ≠ A.T) ∧ w.heap[k]? = some o) : RunW w0 w { A with F := F } pr tp n rv x :=
  ⟨h.bel, h.lo, h.ne, h.hR, h.hJ, h.hE, h.hT, h.hC, h.ln, hF⟩
end Go.Proofs.Ytcmoehednkaehah
namespace Go.Proofs.Ytcmoehednkaehah
open Go.ChangeShapes Go.WideShapes Go.ChangeAt Go.RowKit

/-- Those ahead of a place are turned. -/
def mid {α : Type} (f : α → α) (l : List α) (k : Nat) : List α := (l.take k).map f ++ l.drop k

theorem mid_zero {α : Type} (f : α → α) (l : List α) : mid f l 0 = l := by simp [mid]
theorem mid_all {α : Type} (f : α → α) (l : List α) : mid f l l.length = l.map f := by simp [mid]
theorem mid_at {α : Type} (f : α → α) {l : List α} {k : Nat} {e : α} (h : l[k]? = some e) : (mid f l k)[k]? = some e := by
  have hk := (List.getElem?_eq_some_iff.1 h).1
  unfold mid
  rw [List.getElem?_append_right (by simp; omega), List.length_map, List.length_take, Nat.min_eq_left (by omega), Nat.sub_self, List.getElem?_drop, Nat.add_zero, h]
theorem mid_set {α : Type} (f : α → α) {l : List α} {k : Nat} {e : α} (h : l[k]? = some e) : (mid f l k).set k (f e) = mid f l (k + 1) := by
  have hk := (List.getElem?_eq_some_iff.1 h).1
  have he := (List.getElem?_eq_some_iff.1 h).2
  unfold mid
  rw [List.set_append_right _ _ (by simp; omega), List.length_map, List.length_take, Nat.min_eq_left (by omega), Nat.sub_self, List.drop_eq_getElem_cons hk, List.set_cons_zero, List.take_add_one, List.getElem?_eq_getElem hk, he]
  simp
theorem mid_same {α : Type} (f : α → α) {l : List α} {k : Nat} {e : α} (h : l[k]? = some e) (hf : f e = e) : mid f l k = mid f l (k + 1) := by
  rw [← mid_set f h, hf]
  have hk := mid_at f h
  obtain ⟨h1, h2⟩ := List.getElem?_eq_some_iff.1 hk
  rw [← h2, List.set_getElem_self]
theorem mid_len {α : Type} (f : α → α) (l : List α) (k : Nat) : (mid f l k).length = l.length := by simp [mid]; omega

theorem at_lt {α : Type} {l : List α} {k n : Nat} (hl : l.length = n) (h : k < n) : ∃ e, l[k]? = some e := ⟨l[k]'(by omega), List.getElem?_eq_getElem (by omega)⟩

def unF (m : Int) (e : En) : En := if e.wt = m then { e with wt := -1 } else e

set_option maxRecDepth 20000 in
set_option maxHeartbeats 1000000 in
/-- A lock is given back. -/
theorem free_any (w0 w : World) (A : Ad) (pr : Int) (tp : List Int) (n : Nat) (rv : Value) (x : Rs) (h : RunW w0 w A pr tp n rv x) (m : Nat) (hm : m < 4) (hn : n ≤ 100) :
    Calls Try.prog 41 #[.pointer (some ⟨A.R, 0, none⟩), .int .i64 (m : Int)] w fun r w' => r = .returned (.tuple #[]) ∧ RunW w0 w' A pr tp n rv { x with hs := x.hs.set m (-1), es := x.es.map (unF m) } := by
  have hmi : (m : Int) < 4 := by omega
  have hfr := h.frz.1 (7 + m)
  obtain ⟨z, hz⟩ := at_lt h.ln.2.2.2.1 hm
  have hc := h.hold hz
  have h2 := h.setH m (-1)
  obtain ⟨-, -, -, c4, -, -⟩ := h.own
  have hlt := h.lts.1
  have H2 : Hid (RunW w0 (w.setCell ⟨A.R, 7 + m, none⟩ (.int .i64 (-1))) A pr tp n rv { x with hs := x.hs.set m (-1) } ∧ x.es.length = n) := ⟨h2, h.ln.1⟩
  clear h2 h hz hm
  go_enter Try.func41, Try.ntmps41
  go_wp2_with fail
  go_loopw [15] (fun i wr => ∃ k : Nat, k ≤ n ∧ i = .int .i64 k ∧ RunW w0 wr A pr tp n rv { x with hs := x.hs.set m (-1), es := mid (unF m) x.es k }) (fun i _ => n - (intOf i).toNat)
  case atStart => exact ⟨0, Nat.zero_le _, rfl, by rw [mid_zero]; exact H2.out.1⟩
  case round =>
    obtain ⟨k, hk, rfl, hr⟩ := hrel
    by_cases hlt' : k < n
    · obtain ⟨e, he⟩ := at_lt H2.out.2 hlt'
      have hj := hr.job (mid_at (unF m) he)
      obtain ⟨-, -, -, -, -, -, j6, -⟩ := hj
      obtain ⟨-, -, -, d4, -, -⟩ := hr.own
      have hf6 := hr.frz.2.1 (k * 8 + 6)
      have hki : (k : Int) < (n : Int) := by omega
      obtain ⟨-, lJ, -⟩ := hr.lts
      by_cases hw : e.wt = m
      · have hs := hr.setJ (k := 6) (u := .int .i64 (-1)) (e' := unF m e) (mid_at (unF m) he) (by omega) (by unfold unF; rw [if_pos hw]; rfl)
        dsimp only at hs
        rw [mid_set (unF m) he] at hs
        rw [hw] at j6
        have HS : Hid (RunW w0 (wr.setCell ⟨A.J, k * 8 + 6, none⟩ (.int .i64 (-1))) A pr tp n rv { x with hs := x.hs.set m (-1), es := mid (unF m) x.es (k + 1) }) := hs
        clear hs hr he hw
        go_wp2_with fail
        exact ⟨⟨k + 1, by omega, by simp, HS.out⟩, by simp [intOf]; omega⟩
      · have hw' : (e.wt == (m : Int)) = false := by simpa using hw
        have HS : Hid (RunW w0 wr A pr tp n rv { x with hs := x.hs.set m (-1), es := mid (unF m) x.es (k + 1) }) := by
          rw [mid_same (unF m) he (by unfold unF; rw [if_neg hw])] at hr
          exact hr
        clear hr he hw
        go_wp2_with fail
        exact ⟨⟨k + 1, by omega, by simp, HS.out⟩, by simp [intOf]; omega⟩
    · have hke : k = n := by omega
      subst hke
      have HE : Hid (RunW w0 wr A pr tp k rv { x with hs := x.hs.set m (-1), es := x.es.map (unF m) }) := by
        have e := H2.out.2
        rw [← mid_all, e]
        exact hr
      clear hr
      go_wp2_with fail
      go_end0
      exact ⟨rfl, HE.out⟩
end Go.Proofs.Ytcmoehednkaehah
