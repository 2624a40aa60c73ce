import Derived.Test.YtcmoehednkaehahOF
import Derived.Test.YtcmoehednkaehahOC
namespace Go.Proofs.Ytcmoehednkaehah
open Go.ChangeShapes Go.WideShapes Go.ChangeAt Go.RowKit

/-- A job that is played. -/
structure En where
  x : Lj
  nx : Nat
  rn : Int
  bg : Bool
  wt : Int
  ac : Int

def En.vals (e : En) : List Value := [.int .i64 e.x.a, .int .i64 e.x.p, e.x.v, .int .i64 e.nx, .int .i64 e.rn, .bool e.bg, .int .i64 e.wt, .int .i64 e.ac]
theorem En.len (e : En) : e.vals.length = 8 := rfl

/-- What a run keeps. -/
structure Rs where
  es : List En
  en : List Int
  ws : List Int
  hs : List Int

/-- Where it lies. -/
structure Ad where
  R : Nat
  J : Nat
  E : Nat
  T : Nat
  C : Nat
  F : Nat → Option Obj

def inV (l : List Int) : List Value := l.map (Value.int .i64)
theorem inV_at {l : List Int} {i : Nat} {z : Int} (h : l[i]? = some z) : (inV l)[i]? = some (.int .i64 z) := by unfold inV; rw [List.getElem?_map, h]; rfl
theorem inV_set (l : List Int) (i : Nat) (z : Int) : (inV l).set i (.int .i64 z) = inV (l.set i z) := by unfold inV; rw [List.map_set]

theorem flat_set {α : Type} (f : α → List Value) (sz : Nat) (hf : ∀ x, (f x).length = sz) : ∀ (l : List α) (j k : Nat) (x y : α) (u : Value), l[j]? = some x → k < sz → f y = (f x).set k u → (l.flatMap f).set (j * sz + k) u = (l.set j y).flatMap f
  | [], j, k, x, y, u, h, _, _ => by simp at h
  | z :: t, 0, k, x, y, u, h, hk, e => by
    simp at h
    subst h
    rw [List.flatMap_cons, Nat.zero_mul, Nat.zero_add, List.set_cons_zero, List.flatMap_cons, e, List.set_append_left _ _ (by rw [hf]; exact hk)]
  | z :: t, j + 1, k, x, y, u, h, hk, e => by
    have ih := flat_set f sz hf t j k x y u (by simpa using h) hk e
    rw [List.flatMap_cons, List.set_cons_succ, List.flatMap_cons, ← ih, List.set_append_right _ _ (by rw [hf, Nat.succ_mul]; omega), hf]
    congr 2
    rw [Nat.succ_mul]
    omega

def rvals (A : Ad) (pr : Int) (n : Nat) (rv : Value) (hs : List Int) : List Value :=
  rv :: .slice (some ⟨A.E, 0, none⟩) n n :: .slice (some ⟨A.T, 0, none⟩) n n :: .bool false :: .slice (some ⟨A.J, 0, none⟩) n n :: .int .i64 pr :: .slice (some ⟨A.C, 0, none⟩) 4 4 :: inV hs

/-- A run lies there. -/
structure RunW (w0 w : World) (A : Ad) (pr : Int) (tp : List Int) (n : Nat) (rv : Value) (x : Rs) : Prop where
  bel : Below w0.heap.size w0 w
  lo : w0.heap.size ≤ A.R ∧ w0.heap.size ≤ A.J ∧ w0.heap.size ≤ A.E ∧ w0.heap.size ≤ A.T ∧ w0.heap.size ≤ A.C
  ne : (A.R ≠ A.J ∧ A.R ≠ A.E ∧ A.R ≠ A.T ∧ A.R ≠ A.C) ∧ (A.J ≠ A.E ∧ A.J ≠ A.T ∧ A.J ≠ A.C) ∧ (A.E ≠ A.T ∧ A.E ≠ A.C) ∧ A.T ≠ A.C
  hR : w.heap[A.R]? = some (.cells (rvals A pr n rv x.hs).toArray 70 (0, 0))
  hJ : w.heap[A.J]? = some (.cells (x.es.flatMap En.vals).toArray 75 (0, 0))
  hE : w.heap[A.E]? = some (.cells (inV x.en).toArray 3 (0, 0))
  hT : w.heap[A.T]? = some (.cells (inV x.ws).toArray 3 (0, 0))
  hC : w.heap[A.C]? = some (.cells (inV tp).toArray 3 (0, 0))
  ln : x.es.length = n ∧ x.en.length = n ∧ x.ws.length = n ∧ x.hs.length = 4 ∧ tp.length = 4
  fr : ∀ k o, A.F k = some o → (k ≠ A.R ∧ k ≠ A.J ∧ k ≠ A.E ∧ k ≠ A.T) ∧ w.heap[k]? = some o

theorem heap_lt {w : World} {g : Nat} {o : Obj} (h : w.heap[g]? = some o) : g < w.heap.size := (Array.getElem?_eq_some_iff.1 h).1

theorem RunW.grow {w0 w w' : World} {A : Ad} {pr : Int} {tp : List Int} {n : Nat} {rv : Value} {x : Rs} (h : RunW w0 w A pr tp n rv x) (hb : Below w.heap.size w w') : RunW w0 w' A pr tp n rv x :=
  ⟨h.bel.trans (hb.mono h.bel.size), h.lo, h.ne, (hb.block _ (heap_lt h.hR)).trans h.hR, (hb.block _ (heap_lt h.hJ)).trans h.hJ, (hb.block _ (heap_lt h.hE)).trans h.hE, (hb.block _ (heap_lt h.hT)).trans h.hT, (hb.block _ (heap_lt h.hC)).trans h.hC, h.ln, fun k o hk => ⟨(h.fr k o hk).1, (hb.block _ (heap_lt (h.fr k o hk).2)).trans (h.fr k o hk).2⟩⟩

theorem RunW.drewN {w0 w : World} {A : Ad} {pr : Int} {tp : List Int} {n k : Nat} {rv : Value} {x : Rs} (h : RunW w0 w A pr tp n rv x) : RunW w0 (w.drewN k) A pr tp n rv x := h.grow below_drewN'
theorem RunW.drew {w0 w : World} {A : Ad} {pr : Int} {tp : List Int} {n : Nat} {rv : Value} {x : Rs} (h : RunW w0 w A pr tp n rv x) : RunW w0 w.drew A pr tp n rv x := h.grow (Below.refl _ _).drew

/-- One cell of a job is set. -/
theorem RunW.setJ {w0 w : World} {A : Ad} {pr : Int} {tp : List Int} {n : Nat} {rv : Value} {x : Rs} (h : RunW w0 w A pr tp n rv x) {i k : Nat} {e e' : En} {u : Value} (hi : x.es[i]? = some e) (hk : k < 8) (he : e'.vals = e.vals.set k u) :
    RunW w0 (w.setCell ⟨A.J, i * 8 + k, none⟩ u) A pr tp n rv { x with es := x.es.set i e' } := by
  obtain ⟨⟨n1, n2, n3, n4⟩, ⟨n5, n6, n7⟩, ⟨n8, n9⟩, n10⟩ := h.ne
  refine ⟨h.bel.setCell h.lo.2.1 _, h.lo, h.ne, (Below.heap_setCell _ _ _ _ n1).trans h.hR, ?_, (Below.heap_setCell _ _ _ _ (Ne.symm n5)).trans h.hE, (Below.heap_setCell _ _ _ _ (Ne.symm n6)).trans h.hT, (Below.heap_setCell _ _ _ _ (Ne.symm n7)).trans h.hC, ?_, fun k o hk => ⟨(h.fr k o hk).1, (Below.heap_setCell _ _ _ _ (h.fr k o hk).1.2.1).trans (h.fr k o hk).2⟩⟩
  · rw [setCell_at h.hJ, List.setIfInBounds_toArray, flat_set En.vals 8 En.len _ _ _ _ _ _ hi hk he]
  · have := h.ln
    simpa using this

/-- One is done. -/
theorem RunW.setE {w0 w : World} {A : Ad} {pr : Int} {tp : List Int} {n : Nat} {rv : Value} {x : Rs} (h : RunW w0 w A pr tp n rv x) (i : Nat) (z : Int) :
    RunW w0 (w.setCell ⟨A.E, i, none⟩ (.int .i64 z)) A pr tp n rv { x with en := x.en.set i z } := by
  obtain ⟨⟨n1, n2, n3, n4⟩, ⟨n5, n6, n7⟩, ⟨n8, n9⟩, n10⟩ := h.ne
  refine ⟨h.bel.setCell h.lo.2.2.1 _, h.lo, h.ne, (Below.heap_setCell _ _ _ _ n2).trans h.hR, (Below.heap_setCell _ _ _ _ n5).trans h.hJ, ?_, (Below.heap_setCell _ _ _ _ (Ne.symm n8)).trans h.hT, (Below.heap_setCell _ _ _ _ (Ne.symm n9)).trans h.hC, ?_, fun k o hk => ⟨(h.fr k o hk).1, (Below.heap_setCell _ _ _ _ (h.fr k o hk).1.2.2.1).trans (h.fr k o hk).2⟩⟩
  · rw [setCell_at h.hE, List.setIfInBounds_toArray, inV_set]
  · have := h.ln
    simpa using this

/-- One waits a tick. -/
theorem RunW.setT {w0 w : World} {A : Ad} {pr : Int} {tp : List Int} {n : Nat} {rv : Value} {x : Rs} (h : RunW w0 w A pr tp n rv x) (i : Nat) (z : Int) :
    RunW w0 (w.setCell ⟨A.T, i, none⟩ (.int .i64 z)) A pr tp n rv { x with ws := x.ws.set i z } := by
  obtain ⟨⟨n1, n2, n3, n4⟩, ⟨n5, n6, n7⟩, ⟨n8, n9⟩, n10⟩ := h.ne
  refine ⟨h.bel.setCell h.lo.2.2.2.1 _, h.lo, h.ne, (Below.heap_setCell _ _ _ _ n3).trans h.hR, (Below.heap_setCell _ _ _ _ n6).trans h.hJ, (Below.heap_setCell _ _ _ _ n8).trans h.hE, ?_, (Below.heap_setCell _ _ _ _ (Ne.symm n10)).trans h.hC, ?_, fun k o hk => ⟨(h.fr k o hk).1, (Below.heap_setCell _ _ _ _ (h.fr k o hk).1.2.2.2).trans (h.fr k o hk).2⟩⟩
  · rw [setCell_at h.hT, List.setIfInBounds_toArray, inV_set]
  · have := h.ln
    simpa using this

theorem rvals_hs (A : Ad) (pr : Int) (n : Nat) (rv : Value) (hs : List Int) (m : Nat) (z : Int) : (rvals A pr n rv hs).set (7 + m) (.int .i64 z) = rvals A pr n rv (hs.set m z) := by
  rw [show 7 + m = m + 7 by omega]
  simp [rvals, inV_set]

/-- A lock's holder is set. -/
theorem RunW.setH {w0 w : World} {A : Ad} {pr : Int} {tp : List Int} {n : Nat} {rv : Value} {x : Rs} (h : RunW w0 w A pr tp n rv x) (m : Nat) (z : Int) :
    RunW w0 (w.setCell ⟨A.R, 7 + m, none⟩ (.int .i64 z)) A pr tp n rv { x with hs := x.hs.set m z } := by
  obtain ⟨⟨n1, n2, n3, n4⟩, ⟨n5, n6, n7⟩, ⟨n8, n9⟩, n10⟩ := h.ne
  refine ⟨h.bel.setCell h.lo.1 _, h.lo, h.ne, ?_, (Below.heap_setCell _ _ _ _ (Ne.symm n1)).trans h.hJ, (Below.heap_setCell _ _ _ _ (Ne.symm n2)).trans h.hE, (Below.heap_setCell _ _ _ _ (Ne.symm n3)).trans h.hT, (Below.heap_setCell _ _ _ _ (Ne.symm n4)).trans h.hC, ?_, fun k o hk => ⟨(h.fr k o hk).1, (Below.heap_setCell _ _ _ _ (h.fr k o hk).1.1).trans (h.fr k o hk).2⟩⟩
  · rw [setCell_at h.hR, List.setIfInBounds_toArray, rvals_hs]
  · have := h.ln
    simpa using this

/-- Who ran is told. -/
theorem RunW.setR {w0 w : World} {A : Ad} {pr : Int} {tp : List Int} {n : Nat} {rv : Value} {x : Rs} (h : RunW w0 w A pr tp n rv x) (rv' : Value) :
    RunW w0 (w.setCell ⟨A.R, 0, none⟩ rv') A pr tp n rv' x := by
  obtain ⟨⟨n1, n2, n3, n4⟩, ⟨n5, n6, n7⟩, ⟨n8, n9⟩, n10⟩ := h.ne
  refine ⟨h.bel.setCell h.lo.1 _, h.lo, h.ne, ?_, (Below.heap_setCell _ _ _ _ (Ne.symm n1)).trans h.hJ, (Below.heap_setCell _ _ _ _ (Ne.symm n2)).trans h.hE, (Below.heap_setCell _ _ _ _ (Ne.symm n3)).trans h.hT, (Below.heap_setCell _ _ _ _ (Ne.symm n4)).trans h.hC, h.ln, fun k o hk => ⟨(h.fr k o hk).1, (Below.heap_setCell _ _ _ _ (h.fr k o hk).1.1).trans (h.fr k o hk).2⟩⟩
  rw [setCell_at h.hR, List.setIfInBounds_toArray]
  rfl

/-- What the run's own cells hold. -/
theorem RunW.own {w0 w : World} {A : Ad} {pr : Int} {tp : List Int} {n : Nat} {rv : Value} {x : Rs} (h : RunW w0 w A pr tp n rv x) :
    w.cell? ⟨A.R, 0, none⟩ = some rv ∧ w.cell? ⟨A.R, 1, none⟩ = some (.slice (some ⟨A.E, 0, none⟩) n n) ∧ w.cell? ⟨A.R, 2, none⟩ = some (.slice (some ⟨A.T, 0, none⟩) n n) ∧ w.cell? ⟨A.R, 4, none⟩ = some (.slice (some ⟨A.J, 0, none⟩) n n) ∧ w.cell? ⟨A.R, 5, none⟩ = some (.int .i64 pr) ∧ w.cell? ⟨A.R, 6, none⟩ = some (.slice (some ⟨A.C, 0, none⟩) 4 4) := by
  obtain ⟨c, -, -⟩ := cells_of h.hR
  exact ⟨c 0 _ rfl, c 1 _ rfl, c 2 _ rfl, c 4 _ rfl, c 5 _ rfl, c 6 _ rfl⟩

theorem RunW.frz {w0 w : World} {A : Ad} {pr : Int} {tp : List Int} {n : Nat} {rv : Value} {x : Rs} (h : RunW w0 w A pr tp n rv x) :
    (∀ j, w.frozen? ⟨A.R, j, none⟩ = false) ∧ (∀ j, w.frozen? ⟨A.J, j, none⟩ = false) ∧ (∀ j, w.frozen? ⟨A.E, j, none⟩ = false) ∧ (∀ j, w.frozen? ⟨A.T, j, none⟩ = false) :=
  ⟨(cells_of h.hR).2.1, (cells_of h.hJ).2.1, (cells_of h.hE).2.1, (cells_of h.hT).2.1⟩

theorem RunW.lts {w0 w : World} {A : Ad} {pr : Int} {tp : List Int} {n : Nat} {rv : Value} {x : Rs} (h : RunW w0 w A pr tp n rv x) : A.R < w.heap.size ∧ A.J < w.heap.size ∧ A.E < w.heap.size ∧ A.T < w.heap.size ∧ A.C < w.heap.size :=
  ⟨heap_lt h.hR, heap_lt h.hJ, heap_lt h.hE, heap_lt h.hT, heap_lt h.hC⟩

theorem RunW.hold {w0 w : World} {A : Ad} {pr : Int} {tp : List Int} {n : Nat} {rv : Value} {x : Rs} (h : RunW w0 w A pr tp n rv x) {m : Nat} {z : Int} (hm : x.hs[m]? = some z) : w.cell? ⟨A.R, 7 + m, none⟩ = some (.int .i64 z) := by
  obtain ⟨c, -, -⟩ := cells_of h.hR
  refine c _ _ ?_
  rw [show 7 + m = m + 7 by omega]
  simp only [rvals, List.getElem?_cons_succ]
  exact inV_at hm

theorem RunW.ends {w0 w : World} {A : Ad} {pr : Int} {tp : List Int} {n : Nat} {rv : Value} {x : Rs} (h : RunW w0 w A pr tp n rv x) {i : Nat} {z : Int} (hm : x.en[i]? = some z) : w.cell? ⟨A.E, i, none⟩ = some (.int .i64 z) := (cells_of h.hE).1 _ _ (inV_at hm)
theorem RunW.waits {w0 w : World} {A : Ad} {pr : Int} {tp : List Int} {n : Nat} {rv : Value} {x : Rs} (h : RunW w0 w A pr tp n rv x) {i : Nat} {z : Int} (hm : x.ws[i]? = some z) : w.cell? ⟨A.T, i, none⟩ = some (.int .i64 z) := (cells_of h.hT).1 _ _ (inV_at hm)
theorem RunW.ceil {w0 w : World} {A : Ad} {pr : Int} {tp : List Int} {n : Nat} {rv : Value} {x : Rs} (h : RunW w0 w A pr tp n rv x) {i : Nat} {z : Int} (hm : tp[i]? = some z) : w.cell? ⟨A.C, i, none⟩ = some (.int .i64 z) := (cells_of h.hC).1 _ _ (inV_at hm)

/-- What a job's cells hold. -/
theorem RunW.job {w0 w : World} {A : Ad} {pr : Int} {tp : List Int} {n : Nat} {rv : Value} {x : Rs} (h : RunW w0 w A pr tp n rv x) {i : Nat} {e : En} (hi : x.es[i]? = some e) :
    w.cell? ⟨A.J, i * 8, none⟩ = some (.int .i64 e.x.a) ∧ w.cell? ⟨A.J, i * 8 + 1, none⟩ = some (.int .i64 e.x.p) ∧ w.cell? ⟨A.J, i * 8 + 2, none⟩ = some e.x.v ∧ w.cell? ⟨A.J, i * 8 + 3, none⟩ = some (.int .i64 e.nx) ∧ w.cell? ⟨A.J, i * 8 + 4, none⟩ = some (.int .i64 e.rn) ∧ w.cell? ⟨A.J, i * 8 + 5, none⟩ = some (.bool e.bg) ∧ w.cell? ⟨A.J, i * 8 + 6, none⟩ = some (.int .i64 e.wt) ∧ w.cell? ⟨A.J, i * 8 + 7, none⟩ = some (.int .i64 e.ac) := by
  obtain ⟨c, -, -⟩ := cells_of h.hJ
  have key : ∀ k u, k < 8 → e.vals[k]? = some u → w.cell? ⟨A.J, i * 8 + k, none⟩ = some u := fun k u hk hu => c _ _ ((flat_at En.vals 8 En.len x.es i k e hi hk).trans hu)
  exact ⟨key 0 _ (by omega) rfl, key 1 _ (by omega) rfl, key 2 _ (by omega) rfl, key 3 _ (by omega) rfl, key 4 _ (by omega) rfl, key 5 _ (by omega) rfl, key 6 _ (by omega) rfl, key 7 _ (by omega) rfl⟩
/-- What is held beside the run stays. -/
theorem RunW.beside {w0 w : World} {A : Ad} {pr : Int} {tp : List Int} {n : Nat} {rv : Value} {x : Rs} (h : RunW w0 w A pr tp n rv x) (F : Nat → Option Obj) (hF : ∀ k o, F k = some o → (k ≠ A.R ∧ k ≠ A.J ∧ k ≠ A.E ∧ k ≠ A.T) ∧ w.heap[k]? = some o) : RunW w0 w { A with F := F } pr tp n rv x :=
  ⟨h.bel, h.lo, h.ne, h.hR, h.hJ, h.hE, h.hT, h.hC, h.ln, hF⟩
end Go.Proofs.Ytcmoehednkaehah
