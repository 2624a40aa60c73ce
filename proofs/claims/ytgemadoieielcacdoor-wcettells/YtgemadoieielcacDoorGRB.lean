import Derived.Test.YtgemadoieielcacDoorGPure
import Derived.Test.YtgemadoieielcacDoorGRA
namespace Go.Proofs.YtgemadoieielcacDoor
open Go.ChangeShapes Go.WideShapes Go.ChangeAt Go.RowKit

/-- What ReadImage holds while it looks at the instructions one by one. -/
structure R1 (w wr : World) (iv : Value) : Prop where
  bel : Below w.heap.size w wr
  lbk : wr.heap[w.heap.size]? = some (.cells #[iv] 22 (0, 0))
  res : wr.heap[w.heap.size + 1]? = some (.cells #[.int .i64 0, .int .i64 0] 30 (0, 0))

theorem R1.grow {w wr w' : World} {iv : Value} (h : R1 w wr iv) (hb : Below wr.heap.size wr w') : R1 w w' iv :=
  ⟨below_seq h.bel hb, (hb.block _ (Array.getElem?_eq_some_iff.1 h.lbk).1).trans h.lbk, (hb.block _ (Array.getElem?_eq_some_iff.1 h.res).1).trans h.res⟩

theorem R1.start (w : World) (iv : Value) : R1 w ((w.alloc (.cells #[iv] 22)).alloc (.cells #[.int .i64 0, .int .i64 0] 30)) iv := by
  refine ⟨(below_new _ _).alloc (by simp) _, ?_, ?_⟩
  · rw [Below.heap_alloc _ _ _ (by simp)]; exact heap_alloc_new _ _
  · have := heap_alloc_new (w.alloc (.cells #[iv] 22)) (.cells #[.int .i64 0, .int .i64 0] 30)
    simpa using this

theorem RS.start {w wr : World} {iv : Value} (h : R1 w wr iv) (l : List In) : RS w ((wr.alloc (.cells #[iv, .slice none 0 0] 102)).alloc (.cells #[.slice none 0 0] 23)) wr.heap.size iv l [] (.slice none 0 0) [] (.slice none 0 0) := by
  have hb : Below wr.heap.size wr ((wr.alloc (.cells #[iv, .slice none 0 0] 102)).alloc (.cells #[.slice none 0 0] 23)) := (below_new _ _).alloc (by simp) _
  have hg := h.grow hb
  have hl := (Array.getElem?_eq_some_iff.1 h.res).1
  refine ⟨hg.bel, hg.lbk, hg.res, ?_, ?_, World.ownsRow_nil _ _ _ _, World.ownsRow_nil _ _ _ _, (fun k hk => by cases hk), by simp, hl, by simp⟩
  · rw [Below.heap_alloc _ _ _ (by simp)]; exact heap_alloc_new _ _
  · have := heap_alloc_new (wr.alloc (.cells #[iv, .slice none 0 0] 102)) (.cells #[.slice none 0 0] 23)
    simpa using this

theorem docI_form {l : List In} (hl : l.length ≤ 2000) {z : Int} {j : Nat} (h : scan (fun _ x => formErr x) l 0 = some (z, j)) : docI l = (z, (j : Int)) := by
  unfold docI; rw [if_neg (by omega), h]

theorem docI_nest {l : List In} (hl : l.length ≤ 2000) (hf : scan (fun _ x => formErr x) l 0 = none) {z : Int} {j : Nat} (h : docNest l l 0 [] [] = .inl (z, j)) : docI l = (z, (j : Int)) := by
  unfold docI; rw [if_neg (by omega), hf]; dsimp only; rw [h]

theorem docI_open {l : List In} (hl : l.length ≤ 2000) (hf : scan (fun _ x => formErr x) l 0 = none) {o : Nat} {os : List Nat} {rs : List (Nat × Nat)} (h : docNest l l 0 [] [] = .inr (o :: os, rs)) : docI l = (if (l.getD o in0).op = 13 then 9 else 10, (o : Int)) := by
  unfold docI; rw [if_neg (by omega), hf]; dsimp only; rw [h]

theorem docI_jump {l : List In} (hl : l.length ≤ 2000) (hf : scan (fun _ x => formErr x) l 0 = none) {rs : List (Nat × Nat)} (h : docNest l l 0 [] [] = .inr ([], rs)) {z : Int} {j : Nat} (hj : scan (docJump l rs) l 0 = some (z, j)) : docI l = (z, (j : Int)) := by
  unfold docI; rw [if_neg (by omega), hf]; dsimp only; rw [h]; dsimp only; rw [hj]

theorem docI_stack {l : List In} (hl : l.length ≤ 2000) (hf : scan (fun _ x => formErr x) l 0 = none) {rs : List (Nat × Nat)} (h : docNest l l 0 [] [] = .inr ([], rs)) (hj : scan (docJump l rs) l 0 = none) : docI l = stackEnd l := by
  unfold docI stackEnd; rw [if_neg (by omega), hf]; dsimp only; rw [h]; dsimp only; rw [hj]; dsimp only
  rcases stackScan l 0 M0 with ⟨c, k⟩ | M <;> rfl

theorem docNest_step {l : List In} {j : Nat} {os : List Nat} {rs : List (Nat × Nat)} (hl : l.length ≤ 2000) (hf : scan (fun _ x => formErr x) l 0 = none) (hlt : j < l.length) (hsc : docNest l (l.drop j) j os rs = docNest l l 0 [] []) : ∀ z os', docOf l j (l.getD j in0) os = (z, os') → (z ≠ 0 → docI l = (z, (j : Int))) ∧ (z = 0 → docNest l (l.drop (j + 1)) (j + 1) os' (if (l.getD j in0).op = 14 ∨ (l.getD j in0).op = 17 then rs ++ [(os.getLast?.getD 0, j)] else rs) = docNest l l 0 [] []) := by
  intro z os' hd
  rw [docNest_at _ hlt, hd] at hsc
  constructor
  · intro hz
    rw [if_pos (by simpa using hz)] at hsc
    exact docI_nest hl hf hsc.symm
  · intro hz
    rw [if_neg (by simpa using hz)] at hsc
    exact hsc

section
variable {l : List In} {j : Nat} {os : List Nat} {a b : Int}
theorem docOf_13 : docOf l j ⟨13, a, b⟩ os = if amongI l os 13 a = true then (9, os) else (0, os ++ [j]) := by
  unfold docOf; dsimp only; rw [if_pos (.inl rfl)]; rfl
theorem docOf_16 : docOf l j ⟨16, a, b⟩ os = if amongI l os 16 a = true then (10, os) else (0, os ++ [j]) := by
  unfold docOf; dsimp only; rw [if_pos (.inr rfl)]; rfl
theorem docOf_15 : docOf l j ⟨15, a, b⟩ os = if amongI l os 13 a = true then (0, os) else (9, os) := rfl
theorem docOf_14 : docOf l j ⟨14, a, b⟩ os = if os = [] ∨ (l.getD (os.getLast?.getD 0) in0).op ≠ 13 ∨ (l.getD (os.getLast?.getD 0) in0).a ≠ a ∨ b ≠ (os.getLast?.getD 0 : Nat) + 1 then (9, os) else (0, os.dropLast) := by
  unfold docOf; dsimp only; rw [if_neg (by omega), if_pos rfl]
theorem docOf_17 : docOf l j ⟨17, a, b⟩ os = if os = [] ∨ (l.getD (os.getLast?.getD 0) in0).op ≠ 16 ∨ (l.getD (os.getLast?.getD 0) in0).a ≠ a then (10, os) else (0, os.dropLast) := by
  unfold docOf; dsimp only; rw [if_neg (by omega), if_neg (by omega), if_pos rfl]
theorem docOf_other {op : Int} (h13 : op ≠ 13) (h16 : op ≠ 16) (h14 : op ≠ 14) (h17 : op ≠ 17) (h15 : op ≠ 15) : docOf l j ⟨op, a, b⟩ os = (0, os) := by
  unfold docOf; dsimp only; rw [if_neg (by omega), if_neg h14, if_neg h17, if_neg h15]
end

theorem keep6 {X Y : World} {p1 p2 p3 p4 p5 p6 : Addr} {x1 x2 x3 x4 x5 x6 : Value} (hb : Below X.heap.size X Y) (h : X.cell? p1 = some x1 ∧ X.cell? p2 = some x2 ∧ X.cell? p3 = some x3 ∧ X.cell? p4 = some x4 ∧ X.cell? p5 = some x5 ∧ X.cell? p6 = some x6) : Y.cell? p1 = some x1 ∧ Y.cell? p2 = some x2 ∧ Y.cell? p3 = some x3 ∧ Y.cell? p4 = some x4 ∧ Y.cell? p5 = some x5 ∧ Y.cell? p6 = some x6 :=
  ⟨below_cell hb h.1, below_cell hb h.2.1, below_cell hb h.2.2.1, below_cell hb h.2.2.2.1, below_cell hb h.2.2.2.2.1, below_cell hb h.2.2.2.2.2⟩

/-- One operation of a region that is taken first, its slot written out. -/
theorem take_at {P : Program} {md : Region.Mode} {ops : Array Oper} {Q : Exit → Act → World → Prop} {S : World → Prop} {i n : Nat} {oi : Oper} {v : Value} {fuel : Nat} {listed : Array Bool} {l : List Value} {ds : List Deferred} {w : World}
    (hi : ops[i]? = some oi) (hd : oi.dst = some n) (hs : Region.noSelect ops = true) (hf : Region.free md ops listed i = true) (hr : (Region.ready md ops listed).contains i = true)
    (hQ : ∀ c a w, Q (.panic c) (a.put oi.dst v) w → Q (.panic c) a w) (hy : YieldsIf P ops S oi v ⟨l.toArray, ds⟩) (hS : S w)
    (h : wpAnyH P md ops Q S fuel (listed.setIfInBounds i true) ⟨(l.set n v).toArray, ds⟩ w) : wpAnyH P md ops Q S (fuel + 1) listed ⟨l.toArray, ds⟩ w := by
  refine wpAnyH_take hi hs hf hr hQ hy hS ?_
  have e : Act.put ⟨l.toArray, ds⟩ oi.dst v = ⟨(l.set n v).toArray, ds⟩ := by rw [hd]; simp [Act.put]
  rw [e]
  exact h

/-- The last of those that are open. -/
theorem last_of {w : World} {os : List Nat} {ov : Value} (h : AtSl w os ov) (hne : os ≠ []) : ∃ (b o n c : Nat), ov = .slice (some ⟨b, o, none⟩) (n + 1) c ∧ os.length = n + 1 ∧ w.cell? ⟨b, o + n, none⟩ = some (.int .i64 ((os.getLast?.getD 0 : Nat) : Int)) ∧ w.cell? ⟨b, o, none⟩ = some (.int .i64 ((os.getD 0 0 : Nat) : Int)) ∧ os.getLast?.getD 0 ∈ os := by
  obtain ⟨ad, c, rfl, h0 | ⟨b, o, rfl, hrow⟩⟩ := h
  · exact absurd h0 hne
  have hpos : 0 < os.length := List.length_pos_iff.2 hne
  have hlast : os.getLast? = some (os.getD (os.length - 1) 0) := by
    rw [List.getLast?_eq_getElem?, List.getD_eq_getElem?_getD, List.getElem?_eq_getElem (by omega)]
    rfl
  refine ⟨b, o, os.length - 1, c, by rw [Nat.sub_add_cancel hpos], by omega, ?_, ?_, ?_⟩
  · have := hrow (os.length - 1) (by omega)
    rw [this, hlast]; rfl
  · have := hrow 0 hpos
    simpa using this
  · rw [hlast]
    simp only [Option.getD_some]
    rw [List.getD_eq_getElem?_getD, List.getElem?_eq_getElem (by omega)]
    exact List.getElem_mem _

theorem set_alloc {w9 : World} {g : Nat} {a b : Value} {o : Obj} (h : w9.heap[g]? = some (.cells #[.int .i64 0, .int .i64 0] 30 (0, 0))) : (((w9.setCell ⟨g, 0, none⟩ a).setCell ⟨g, 1, none⟩ b).alloc o).heap[g]? = some (.cells #[a, b] 30 (0, 0)) := by
  have h1 := setCell_at (i := 1) (u := b) (setCell_at (i := 0) (u := a) h)
  rw [Below.heap_alloc _ _ _ (Array.getElem?_eq_some_iff.1 h1).1, h1]
  simp

theorem inner_eq (P Q : Option (Nat × Nat)) : P = Q ↔ P.isSome = Q.isSome ∧ (P.getD (0, 0)).1 = (Q.getD (0, 0)).1 ∧ (P.getD (0, 0)).2 = (Q.getD (0, 0)).2 := by
  constructor
  · rintro rfl; exact ⟨rfl, rfl, rfl⟩
  · rcases P with _ | ⟨p1, p2⟩ <;> rcases Q with _ | ⟨q1, q2⟩ <;> simp

theorem stackEnd_zero {l : List In} {k : Int} (h : stackEnd l = (0, k)) : k = 0 := by
  unfold stackEnd at h
  split at h
  · rename_i c j hs
    simp only [Prod.mk.injEq] at h
    exact absurd h.1 (stackScan_bad _ _ _ hs)
  · split at h
    · simp at h
    · simp only [Prod.mk.injEq, true_and] at h; exact h.symm

theorem low_a {x : In} (h : formErr x = 0) (ho : x.op = 11 ∨ x.op = 12) : 0 ≤ x.a ∧ x.a ≤ 2000 := by
  obtain ⟨op, a, b⟩ := x
  unfold formErr at h
  dsimp only at h ho ⊢
  split at h
  · simp at h
  split at h
  · simp at h
  rename_i h1 h2
  rcases ho with rfl | rfl
  · have l1 : lowA (Int.toNat 11) = 0 := by decide
    have l2 : highA (Int.toNat 11) = 2000 := by decide
    omega
  · have l1 : lowA (Int.toNat 12) = 0 := by decide
    have l2 : highA (Int.toNat 12) = 2000 := by decide
    omega
end Go.Proofs.YtgemadoieielcacDoor
