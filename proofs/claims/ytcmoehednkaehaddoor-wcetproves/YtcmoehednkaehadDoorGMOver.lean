import Derived.Test.YtcmoehednkaehadDoorGPure
import Derived.Test.YtcmoehednkaehadDoorGRA
namespace Go.Proofs.YtcmoehednkaehadDoor
open Go.ChangeShapes Go.WideShapes Go.ChangeAt Go.RowKit

/-- What ReadImage holds while it looks at the instructions one by one. -/
structure R1 (w wr : World) (iv : Value) : Prop where
  bel : Below w.heap.size w wr
  lbk : wr.heap[w.heap.size]? = some (.cells #[iv] 22 (0, 0))
  res : wr.heap[w.heap.size + 1]? = some (.cells #[.int .i64 0, .int .i64 0] 37 (0, 0))

theorem R1.grow {w wr w' : World} {iv : Value} (h : R1 w wr iv) (hb : Below wr.heap.size wr w') : R1 w w' iv :=
  ⟨below_seq h.bel hb, (hb.block _ (Array.getElem?_eq_some_iff.1 h.lbk).1).trans h.lbk, (hb.block _ (Array.getElem?_eq_some_iff.1 h.res).1).trans h.res⟩

theorem R1.start (w : World) (iv : Value) : R1 w ((w.alloc (.cells #[iv] 22)).alloc (.cells #[.int .i64 0, .int .i64 0] 37)) iv := by
  refine ⟨(below_new _ _).alloc (by simp) _, ?_, ?_⟩
  · rw [Below.heap_alloc _ _ _ (by simp)]; exact heap_alloc_new _ _
  · have := heap_alloc_new (w.alloc (.cells #[iv] 22)) (.cells #[.int .i64 0, .int .i64 0] 37)
    simpa using this

theorem RS.start {w wr : World} {iv : Value} (h : R1 w wr iv) (l : List In) : RS w ((wr.alloc (.cells #[iv, .slice none 0 0] 133)).alloc (.cells #[.slice none 0 0] 23)) wr.heap.size iv l [] (.slice none 0 0) [] (.slice none 0 0) := by
  have hb : Below wr.heap.size wr ((wr.alloc (.cells #[iv, .slice none 0 0] 133)).alloc (.cells #[.slice none 0 0] 23)) := (below_new _ _).alloc (by simp) _
  have hg := h.grow hb
  have hl := (Array.getElem?_eq_some_iff.1 h.res).1
  refine ⟨hg.bel, hg.lbk, hg.res, ?_, ?_, World.ownsRow_nil _ _ _ _, World.ownsRow_nil _ _ _ _, (fun k hk => by cases hk), by simp, hl, by simp⟩
  · rw [Below.heap_alloc _ _ _ (by simp)]; exact heap_alloc_new _ _
  · have := heap_alloc_new (wr.alloc (.cells #[iv, .slice none 0 0] 133)) (.cells #[.slice none 0 0] 23)
    simpa using this

theorem docI_form {l : List In} (hl : l.length ≤ 2000) {z : Int} {j : Nat} (h : scan (fun _ x => formErr x) l 0 = some (z, j)) : docI l = (z, (j : Int)) := by
  unfold docI; rw [if_neg (by omega), h]

theorem docI_nest {l : List In} (hl : l.length ≤ 2000) (hf : scan (fun _ x => formErr x) l 0 = none) {z : Int} {j : Nat} (h : docNest l l 0 [] [] = .inl (z, j)) : docI l = (z, (j : Int)) := by
  unfold docI; rw [if_neg (by omega), hf]; dsimp only; rw [h]

theorem docI_open {l : List In} (hl : l.length ≤ 2000) (hf : scan (fun _ x => formErr x) l 0 = none) {o : Nat} {os : List Nat} {rs : List (Nat × Nat)} (h : docNest l l 0 [] [] = .inr (o :: os, rs)) : docI l = (if (l.getD o in0).op = 13 then 9 else 10, (o : Int)) := by
  unfold docI; rw [if_neg (by omega), hf]; dsimp only; rw [h]

theorem docI_jump {l : List In} (hl : l.length ≤ 2000) (hf : scan (fun _ x => formErr x) l 0 = none) {rs : List (Nat × Nat)} (h : docNest l l 0 [] [] = .inr ([], rs)) {z : Int} {j : Nat} (hj : scan (docJump l rs) l 0 = some (z, j)) : docI l = (z, (j : Int)) := by
  unfold docI; rw [if_neg (by omega), hf]; dsimp only; rw [h]; dsimp only; rw [hj]

theorem docI_stack {l : List In} (hl : l.length ≤ 2000) (hf : scan (fun _ x => formErr x) l 0 = none) {rs : List (Nat × Nat)} (h : docNest l l 0 [] [] = .inr ([], rs)) (hj : scan (docJump l rs) l 0 = none) : docI l = stackEnd l := by
  unfold docI stackEnd; rw [if_neg (by omega), hf]; dsimp only; rw [h]; dsimp only; rw [hj]; dsimp only
  rcases stackScan l 0 M0 with ⟨c, k⟩ | M <;> rfl

theorem docNest_step {l : List In} {j : Nat} {os : List Nat} {rs : List (Nat × Nat)} (hl : l.length ≤ 2000) (hf : scan (fun _ x => formErr x) l 0 = none) (hlt : j < l.length) (hsc : docNest l (l.drop j) j os rs = docNest l l 0 [] []) : ∀ z os', docOf l j (l.getD j in0) os = (z, os') → (z ≠ 0 → docI l = (z, (j : Int))) ∧ (z = 0 → docNest l (l.drop (j + 1)) (j + 1) os' (if (l.getD j in0).op = 14 ∨ (l.getD j in0).op = 17 then rs ++ [(os.getLast?.getD 0, j)] else rs) = docNest l l 0 [] []) := by
  intro z os' hd
  rw [docNest_at _ hlt, hd] at hsc
  constructor
  · intro hz
    rw [if_pos (by simpa using hz)] at hsc
    exact docI_nest hl hf hsc.symm
  · intro hz
    rw [if_neg (by simpa using hz)] at hsc
    exact hsc

section
variable {l : List In} {j : Nat} {os : List Nat} {a b : Int}
theorem docOf_13 : docOf l j ⟨13, a, b⟩ os = if amongI l os 13 a = true then (9, os) else (0, os ++ [j]) := by
  unfold docOf; dsimp only; rw [if_pos (.inl rfl)]; rfl
theorem docOf_16 : docOf l j ⟨16, a, b⟩ os = if amongI l os 16 a = true then (10, os) else (0, os ++ [j]) := by
  unfold docOf; dsimp only; rw [if_pos (.inr rfl)]; rfl
theorem docOf_15 : docOf l j ⟨15, a, b⟩ os = if amongI l os 13 a = true then (0, os) else (9, os) := rfl
theorem docOf_14 : docOf l j ⟨14, a, b⟩ os = if os = [] ∨ (l.getD (os.getLast?.getD 0) in0).op ≠ 13 ∨ (l.getD (os.getLast?.getD 0) in0).a ≠ a ∨ b ≠ (os.getLast?.getD 0 : Nat) + 1 then (9, os) else (0, os.dropLast) := by
  unfold docOf; dsimp only; rw [if_neg (by omega), if_pos rfl]
theorem docOf_17 : docOf l j ⟨17, a, b⟩ os = if os = [] ∨ (l.getD (os.getLast?.getD 0) in0).op ≠ 16 ∨ (l.getD (os.getLast?.getD 0) in0).a ≠ a then (10, os) else (0, os.dropLast) := by
  unfold docOf; dsimp only; rw [if_neg (by omega), if_neg (by omega), if_pos rfl]
theorem docOf_other {op : Int} (h13 : op ≠ 13) (h16 : op ≠ 16) (h14 : op ≠ 14) (h17 : op ≠ 17) (h15 : op ≠ 15) : docOf l j ⟨op, a, b⟩ os = (0, os) := by
  unfold docOf; dsimp only; rw [if_neg (by omega), if_neg h14, if_neg h17, if_neg h15]
end

theorem keep6 {X Y : World} {p1 p2 p3 p4 p5 p6 : Addr} {x1 x2 x3 x4 x5 x6 : Value} (hb : Below X.heap.size X Y) (h : X.cell? p1 = some x1 ∧ X.cell? p2 = some x2 ∧ X.cell? p3 = some x3 ∧ X.cell? p4 = some x4 ∧ X.cell? p5 = some x5 ∧ X.cell? p6 = some x6) : Y.cell? p1 = some x1 ∧ Y.cell? p2 = some x2 ∧ Y.cell? p3 = some x3 ∧ Y.cell? p4 = some x4 ∧ Y.cell? p5 = some x5 ∧ Y.cell? p6 = some x6 :=
  ⟨below_cell hb h.1, below_cell hb h.2.1, below_cell hb h.2.2.1, below_cell hb h.2.2.2.1, below_cell hb h.2.2.2.2.1, below_cell hb h.2.2.2.2.2⟩

/-- One operation of a region that is taken first, its slot written out. -/
theorem take_at {P : Program} {md : Region.Mode} {ops : Array Oper} {Q : Exit → Act → World → Prop} {S : World → Prop} {i n : Nat} {oi : Oper} {v : Value} {fuel : Nat} {listed : Array Bool} {l : List Value} {ds : List Deferred} {w : World}
    (hi : ops[i]? = some oi) (hd : oi.dst = some n) (hs : Region.noSelect ops = true) (hf : Region.free md ops listed i = true) (hr : (Region.ready md ops listed).contains i = true)
    (hQ : ∀ c a w, Q (.panic c) (a.put oi.dst v) w → Q (.panic c) a w) (hy : YieldsIf P ops S oi v ⟨l.toArray, ds⟩) (hS : S w)
    (h : wpAnyH P md ops Q S fuel (listed.setIfInBounds i true) ⟨(l.set n v).toArray, ds⟩ w) : wpAnyH P md ops Q S (fuel + 1) listed ⟨l.toArray, ds⟩ w := by
  refine wpAnyH_take hi hs hf hr hQ hy hS ?_
  have e : Act.put ⟨l.toArray, ds⟩ oi.dst v = ⟨(l.set n v).toArray, ds⟩ := by rw [hd]; simp [Act.put]
  rw [e]
  exact h

/-- The last of those that are open. -/
theorem last_of {w : World} {os : List Nat} {ov : Value} (h : AtSl w os ov) (hne : os ≠ []) : ∃ (b o n c : Nat), ov = .slice (some ⟨b, o, none⟩) (n + 1) c ∧ os.length = n + 1 ∧ w.cell? ⟨b, o + n, none⟩ = some (.int .i64 ((os.getLast?.getD 0 : Nat) : Int)) ∧ w.cell? ⟨b, o, none⟩ = some (.int .i64 ((os.getD 0 0 : Nat) : Int)) ∧ os.getLast?.getD 0 ∈ os := by
  obtain ⟨ad, c, rfl, h0 | ⟨b, o, rfl, hrow⟩⟩ := h
  · exact absurd h0 hne
  have hpos : 0 < os.length := List.length_pos_iff.2 hne
  have hlast : os.getLast? = some (os.getD (os.length - 1) 0) := by
    rw [List.getLast?_eq_getElem?, List.getD_eq_getElem?_getD, List.getElem?_eq_getElem (by omega)]
    rfl
  refine ⟨b, o, os.length - 1, c, by rw [Nat.sub_add_cancel hpos], by omega, ?_, ?_, ?_⟩
  · have := hrow (os.length - 1) (by omega)
    rw [this, hlast]; rfl
  · have := hrow 0 hpos
    simpa using this
  · rw [hlast]
    simp only [Option.getD_some]
    rw [List.getD_eq_getElem?_getD, List.getElem?_eq_getElem (by omega)]
    exact List.getElem_mem _

theorem set_alloc {w9 : World} {g : Nat} {a b : Value} {o : Obj} (h : w9.heap[g]? = some (.cells #[.int .i64 0, .int .i64 0] 37 (0, 0))) : (((w9.setCell ⟨g, 0, none⟩ a).setCell ⟨g, 1, none⟩ b).alloc o).heap[g]? = some (.cells #[a, b] 37 (0, 0)) := by
  have h1 := setCell_at (i := 1) (u := b) (setCell_at (i := 0) (u := a) h)
  rw [Below.heap_alloc _ _ _ (Array.getElem?_eq_some_iff.1 h1).1, h1]
  simp

theorem inner_eq (P Q : Option (Nat × Nat)) : P = Q ↔ P.isSome = Q.isSome ∧ (P.getD (0, 0)).1 = (Q.getD (0, 0)).1 ∧ (P.getD (0, 0)).2 = (Q.getD (0, 0)).2 := by
  constructor
  · rintro rfl; exact ⟨rfl, rfl, rfl⟩
  · rcases P with _ | ⟨p1, p2⟩ <;> rcases Q with _ | ⟨q1, q2⟩ <;> simp

theorem stackEnd_zero {l : List In} {k : Int} (h : stackEnd l = (0, k)) : k = 0 := by
  unfold stackEnd at h
  split at h
  · rename_i c j hs
    simp only [Prod.mk.injEq] at h
    exact absurd h.1 (stackScan_bad _ _ _ hs)
  · split at h
    · simp at h
    · simp only [Prod.mk.injEq, true_and] at h; exact h.symm

theorem low_a {x : In} (h : formErr x = 0) (ho : x.op = 11 ∨ x.op = 12) : 0 ≤ x.a ∧ x.a ≤ 2000 := by
  obtain ⟨op, a, b⟩ := x
  unfold formErr at h
  dsimp only at h ho ⊢
  split at h
  · simp at h
  split at h
  · simp at h
  rename_i h1 h2
  rcases ho with rfl | rfl
  · have l1 : lowA (Int.toNat 11) = 0 := by decide
    have l2 : highA (Int.toNat 11) = 2000 := by decide
    omega
  · have l1 : lowA (Int.toNat 12) = 0 := by decide
    have l2 : highA (Int.toNat 12) = 2000 := by decide
    omega
end Go.Proofs.YtcmoehednkaehadDoor
namespace Go.Proofs.YtcmoehednkaehadDoor
open Go.ChangeShapes Go.WideShapes Go.ChangeAt Go.RowKit


/-- What a machine's block holds. -/
def machVs (iv : Value) (vs ins cs : List Int) (sv pv : Value) (pc sp : Int) (ov : Value) : List Value := iv :: (intVs vs ++ (intVs ins ++ (intVs cs ++ [sv, pv, .int .i64 pc, .int .i64 sp, ov])))

section
variable {iv : Value} {vs ins cs : List Int} {sv pv : Value} {pc sp : Int} {ov : Value}

theorem intVs_length (l : List Int) : (intVs l).length = l.length := by simp [intVs]
theorem intVs_at {l : List Int} {j : Nat} (h : j < l.length) : (intVs l)[j]? = some (.int .i64 (l.getD j 0)) := by
  simp [intVs, List.getD_eq_getElem?_getD, List.getElem?_eq_getElem h]
theorem intVs_set (l : List Int) (j : Nat) (v : Int) : (intVs l).set j (.int .i64 v) = intVs (l.set j v) := by simp [intVs, List.map_set]

theorem machVs_iv : (machVs iv vs ins cs sv pv pc sp ov)[0]? = some iv := rfl
theorem machVs_vs (hv : vs.length = 8) {j : Nat} (h : j < 8) : (machVs iv vs ins cs sv pv pc sp ov)[j + 1]? = some (.int .i64 (vs.getD j 0)) := by
  unfold machVs
  rw [List.getElem?_cons_succ, List.getElem?_append_left (by rw [intVs_length]; omega), intVs_at (by omega)]
theorem machVs_in (hv : vs.length = 8) (hi : ins.length = 4) {j : Nat} (h : j < 4) : (machVs iv vs ins cs sv pv pc sp ov)[j + 9]? = some (.int .i64 (ins.getD j 0)) := by
  unfold machVs
  rw [show j + 9 = (j + 8) + 1 by omega, List.getElem?_cons_succ, List.getElem?_append_right (by rw [intVs_length]; omega), intVs_length, hv, Nat.add_sub_cancel, List.getElem?_append_left (by rw [intVs_length]; omega), intVs_at (by omega)]
theorem machVs_cs (hv : vs.length = 8) (hi : ins.length = 4) (hc : cs.length = 8) {j : Nat} (h : j < 8) : (machVs iv vs ins cs sv pv pc sp ov)[j + 13]? = some (.int .i64 (cs.getD j 0)) := by
  unfold machVs
  rw [show j + 13 = (j + 12) + 1 by omega, List.getElem?_cons_succ, List.getElem?_append_right (by rw [intVs_length]; omega), intVs_length, hv, show j + 12 - 8 = j + 4 by omega, List.getElem?_append_right (by rw [intVs_length]; omega), intVs_length, hi, Nat.add_sub_cancel, List.getElem?_append_left (by rw [intVs_length]; omega), intVs_at (by omega)]
theorem machVs_rest (hv : vs.length = 8) (hi : ins.length = 4) (hc : cs.length = 8) (j : Nat) : (machVs iv vs ins cs sv pv pc sp ov)[j + 21]? = [sv, pv, .int .i64 pc, .int .i64 sp, ov][j]? := by
  unfold machVs
  rw [show j + 21 = (j + 20) + 1 by omega, List.getElem?_cons_succ, List.getElem?_append_right (by rw [intVs_length]; omega), intVs_length, hv, show j + 20 - 8 = j + 12 by omega, List.getElem?_append_right (by rw [intVs_length]; omega), intVs_length, hi, show j + 12 - 4 = j + 8 by omega, List.getElem?_append_right (by rw [intVs_length]; omega), intVs_length, hc, Nat.add_sub_cancel]
theorem machVs_length (hv : vs.length = 8) (hi : ins.length = 4) (hc : cs.length = 8) : (machVs iv vs ins cs sv pv pc sp ov).length = 26 := by
  simp [machVs, intVs_length, hv, hi, hc]

theorem machVs_setV (hv : vs.length = 8) {j : Nat} (h : j < 8) (v : Int) : (machVs iv vs ins cs sv pv pc sp ov).set (j + 1) (.int .i64 v) = machVs iv (vs.set j v) ins cs sv pv pc sp ov := by
  unfold machVs
  rw [List.set_cons_succ, List.set_append_left _ _ (by rw [intVs_length]; omega), intVs_set]
theorem machVs_setC (hv : vs.length = 8) (hi : ins.length = 4) (hc : cs.length = 8) {j : Nat} (h : j < 8) (v : Int) : (machVs iv vs ins cs sv pv pc sp ov).set (j + 13) (.int .i64 v) = machVs iv vs ins (cs.set j v) sv pv pc sp ov := by
  unfold machVs
  rw [show j + 13 = (j + 12) + 1 by omega, List.set_cons_succ, List.set_append_right _ _ (by rw [intVs_length]; omega), intVs_length, hv, show j + 12 - 8 = j + 4 by omega, List.set_append_right _ _ (by rw [intVs_length]; omega), intVs_length, hi, Nat.add_sub_cancel, List.set_append_left _ _ (by rw [intVs_length]; omega), intVs_set]
theorem machVs_setR (hv : vs.length = 8) (hi : ins.length = 4) (hc : cs.length = 8) (j : Nat) (u : Value) : (machVs iv vs ins cs sv pv pc sp ov).set (j + 21) u = iv :: (intVs vs ++ (intVs ins ++ (intVs cs ++ [sv, pv, .int .i64 pc, .int .i64 sp, ov].set j u))) := by
  unfold machVs
  rw [show j + 21 = (j + 20) + 1 by omega, List.set_cons_succ, List.set_append_right _ _ (by rw [intVs_length]; omega), intVs_length, hv, show j + 20 - 8 = j + 12 by omega, List.set_append_right _ _ (by rw [intVs_length]; omega), intVs_length, hi, show j + 12 - 4 = j + 8 by omega, List.set_append_right _ _ (by rw [intVs_length]; omega), intVs_length, hc, Nat.add_sub_cancel]
theorem machVs_setS (hv : vs.length = 8) (hi : ins.length = 4) (hc : cs.length = 8) (u : Value) : (machVs iv vs ins cs sv pv pc sp ov).set 21 u = machVs iv vs ins cs u pv pc sp ov := machVs_setR hv hi hc 0 u
theorem machVs_setP (hv : vs.length = 8) (hi : ins.length = 4) (hc : cs.length = 8) (u : Value) : (machVs iv vs ins cs sv pv pc sp ov).set 22 u = machVs iv vs ins cs sv u pc sp ov := machVs_setR hv hi hc 1 u
theorem machVs_setA (hv : vs.length = 8) (hi : ins.length = 4) (hc : cs.length = 8) (z : Int) : (machVs iv vs ins cs sv pv pc sp ov).set 23 (.int .i64 z) = machVs iv vs ins cs sv pv z sp ov := machVs_setR hv hi hc 2 _
theorem machVs_setT (hv : vs.length = 8) (hi : ins.length = 4) (hc : cs.length = 8) (z : Int) : (machVs iv vs ins cs sv pv pc sp ov).set 24 (.int .i64 z) = machVs iv vs ins cs sv pv pc z ov := machVs_setR hv hi hc 3 _
end

/-- What went out, as cells. -/
def putVs (l : List (Int × Int)) : List Value := l.flatMap fun p => [.int .i64 p.1, .int .i64 p.2]

theorem putVs_snoc (l : List (Int × Int)) (p : Int × Int) : putVs (l ++ [p]) = putVs l ++ [.int .i64 p.1, .int .i64 p.2] := by
  simp [putVs]

theorem cell_same {w w' : World} {b o : Nat} (h : w'.heap[b]? = w.heap[b]?) : w'.cell? ⟨b, o, none⟩ = w.cell? ⟨b, o, none⟩ := by
  unfold World.cell?
  simp only [h]

/-- The operators of a machine. -/
def opsEs (g : Nat) : Array MapEntry := #[⟨.int .i64 4, .func (Fn.func 108) #[] #[], 0⟩, ⟨.int .i64 5, .func (Fn.func 109) #[] #[], 1⟩, ⟨.int .i64 6, .func (Fn.func 110) #[] #[], 2⟩, ⟨.int .i64 7, .func (Fn.func 111) #[] #[.pointer (some ⟨g, 0, none⟩)], 3⟩, ⟨.int .i64 8, .func (Fn.func 112) #[] #[.pointer (some ⟨g, 0, none⟩)], 4⟩]

def OpsAt (w : World) (mb : Nat) (ov : Value) : Prop := ∃ q g, ov = .map (some q) ∧ q < mb ∧ g < mb ∧ w.heap[q]? = some (.map (opsEs g) 5) ∧ w.heap[g]? = some (.cells #[.func (Fn.func 107) #[] #[]] 165 (0, 0))

theorem OpsAt.keep {w w' : World} {mb : Nat} {ov : Value} (h : OpsAt w mb ov) (hb : ∀ k, k < mb → w'.heap[k]? = w.heap[k]?) : OpsAt w' mb ov := by
  obtain ⟨q, g, h1, h2, h3, h4, h5⟩ := h
  exact ⟨q, g, h1, h2, h3, (hb q h2).trans h4, (hb g h3).trans h5⟩

/-- An image that lies below a block. -/
def ImgAt (w : World) (mb : Nat) (l : List In) (iv : Value) : Prop := InSl w l iv ∧ ∀ ad n c, iv = .slice (some ad) n c → ad.block < mb

theorem ImgAt.keep {w w' : World} {mb : Nat} {l : List In} {iv : Value} (h : ImgAt w mb l iv) (hb : ∀ k, k < mb → w'.heap[k]? = w.heap[k]?) : ImgAt w' mb l iv := by
  obtain ⟨⟨ad, c, rfl, h2⟩, h3⟩ := h
  refine ⟨⟨ad, c, rfl, ?_⟩, h3⟩
  rcases h2 with h2 | ⟨b, o, rfl, h4⟩
  · exact .inl h2
  · have hlt : b < mb := h3 _ _ _ rfl
    refine .inr ⟨b, o, rfl, fun j hj => ?_⟩
    obtain ⟨c0, c1, c2⟩ := h4 j hj
    exact ⟨(cell_same (hb b hlt)).trans c0, (cell_same (hb b hlt)).trans c1, (cell_same (hb b hlt)).trans c2⟩

/-- A machine in memory. -/
structure MM (w : World) (mb B : Nat) (l : List In) (iv ov : Value) (ins : List Int) (sp : Int) (s : MS) (sv pv : Value) : Prop where
  blk : w.heap[mb]? = some (.cells (machVs iv s.vs ins s.cs sv pv (s.pc : Int) sp ov).toArray 87 (0, 0))
  stk : w.ownsRow B 3 1 sv s.st.length (intVs s.st)
  pts : w.ownsRow B 76 2 pv s.ps.length (putVs s.ps)
  apt : ∀ k, sv.ownBlock = some k → pv.ownBlock ≠ some k
  lv : s.vs.length = 8
  li : ins.length = 4
  lc : s.cs.length = 8
  nmb : mb < B
  bas : B ≤ w.heap.size
  img : ImgAt w mb l iv
  ops : OpsAt w mb ov

/-- What a machine leaves alone. -/
structure MR (mb : Nat) (w w' : World) (sv pv sv' pv' : Value) : Prop where
  os : w'.os = w.os
  tape : w'.tape = w.tape
  output : w'.output = w.output
  size : w.heap.size ≤ w'.heap.size
  block : ∀ k, k < w.heap.size → k ≠ mb → some k ≠ sv.ownBlock → some k ≠ pv.ownBlock → w'.heap[k]? = w.heap[k]?
  ownS : sv'.ownBlock = sv.ownBlock ∨ ∀ k, sv'.ownBlock = some k → w.heap.size ≤ k
  ownP : pv'.ownBlock = pv.ownBlock ∨ ∀ k, pv'.ownBlock = some k → w.heap.size ≤ k

theorem MR.refl (mb : Nat) (w : World) (sv pv : Value) : MR mb w w sv pv sv pv := ⟨rfl, rfl, rfl, Nat.le_refl _, fun _ _ _ _ _ => rfl, .inl rfl, .inl rfl⟩

theorem MR.trans {mb : Nat} {a b c : World} {sv pv sv' pv' sv'' pv'' : Value} (h : MR mb a b sv pv sv' pv') (h' : MR mb b c sv' pv' sv'' pv'') : MR mb a c sv pv sv'' pv'' := by
  refine ⟨h'.os.trans h.os, h'.tape.trans h.tape, h'.output.trans h.output, Nat.le_trans h.size h'.size, fun k hk h1 h2 h3 => ?_, ?_, ?_⟩
  · refine (h'.block k (by have := h.size; omega) h1 (fun e => ?_) (fun e => ?_)).trans (h.block k hk h1 h2 h3)
    · rcases h.ownS with ho | ho
      · exact h2 (e.trans ho)
      · have := ho k e.symm; omega
    · rcases h.ownP with ho | ho
      · exact h3 (e.trans ho)
      · have := ho k e.symm; omega
  · rcases h'.ownS with ho' | ho'
    · rw [ho']; exact h.ownS
    · right; intro k hk; have := ho' k hk; have := h.size; omega
  · rcases h'.ownP with ho' | ho'
    · rw [ho']; exact h.ownP
    · right; intro k hk; have := ho' k hk; have := h.size; omega

theorem MR.of_below {mb : Nat} {a b : World} {sv pv : Value} (h : Below a.heap.size a b) : MR mb a b sv pv sv pv := ⟨h.os, h.tape, h.output, h.size, fun k hk _ _ _ => h.block k hk, .inl rfl, .inl rfl⟩

theorem MR.grown {mb : Nat} {a b : World} {sv pv : Value} {row : Option Nat} (h : a.grownBy b row) (hr : row = sv.ownBlock ∨ row = pv.ownBlock) {sv' pv' : Value} (h1 : sv'.ownBlock = sv.ownBlock ∨ ∀ k, sv'.ownBlock = some k → a.heap.size ≤ k) (h2 : pv'.ownBlock = pv.ownBlock ∨ ∀ k, pv'.ownBlock = some k → a.heap.size ≤ k) : MR mb a b sv pv sv' pv' :=
  ⟨h.os, h.tape, h.output, h.size, fun k hk _ g1 g2 => h.block k hk (by rcases hr with hr | hr <;> rw [hr] <;> assumption), h1, h2⟩

theorem MR.set {mb : Nat} {a b : World} {sv pv sv' pv' : Value} (h : MR mb a b sv pv sv' pv') (i : Nat) (u : Value) : MR mb a (b.setCell ⟨mb, i, none⟩ u) sv pv sv' pv' :=
  ⟨h.os, h.tape, h.output, by rw [show (b.setCell ⟨mb, i, none⟩ u).heap.size = b.heap.size by simp]; exact h.size, fun k hk h1 h2 h3 => (Below.heap_setCell _ _ _ _ (by show k ≠ mb; exact h1)).trans (h.block k hk h1 h2 h3), h.ownS, h.ownP⟩

section
variable {w w' : World} {mb B : Nat} {l : List In} {iv ov : Value} {ins : List Int} {sp : Int} {s : MS} {sv pv : Value}

theorem MM.lt (h : MM w mb B l iv ov ins sp s sv pv) : mb < w.heap.size := (Array.getElem?_eq_some_iff.1 h.blk).1

theorem MM.grow (h : MM w mb B l iv ov ins sp s sv pv) (hb : Below w.heap.size w w') : MM w' mb B l iv ov ins sp s sv pv := by
  have hm := h.lt
  exact ⟨(hb.block mb hm).trans h.blk, ownsRow_same h.stk (fun k _ hk => hb.block k hk), ownsRow_same h.pts (fun k _ hk => hb.block k hk), h.apt, h.lv, h.li, h.lc, h.nmb, Nat.le_trans h.bas hb.size, h.img.keep (fun k hk => hb.block k (by omega)), h.ops.keep (fun k hk => hb.block k (by omega))⟩

/-- A machine after a change of its own. -/
theorem MM.change (h : MM w mb B l iv ov ins sp s sv pv) {i : Nat} {u : Value} {sp' : Int} {s' : MS} {sv' pv' : Value} (hr : MR mb w w' sv pv sv' pv') (hm : w'.heap[mb]? = w.heap[mb]?)
    (hset : (machVs iv s.vs ins s.cs sv pv (s.pc : Int) sp ov).set i u = machVs iv s'.vs ins s'.cs sv' pv' (s'.pc : Int) sp' ov)
    (hs : w'.ownsRow B 3 1 sv' s'.st.length (intVs s'.st)) (hp : w'.ownsRow B 76 2 pv' s'.ps.length (putVs s'.ps)) (ha : ∀ k, sv'.ownBlock = some k → pv'.ownBlock ≠ some k) (lv : s'.vs.length = 8) (lc : s'.cs.length = 8) :
    MM (w'.setCell ⟨mb, i, none⟩ u) mb B l iv ov ins sp' s' sv' pv' := by
  have hn := h.nmb
  have hlt := h.lt
  have nb : ∀ k, k < mb → (w'.setCell ⟨mb, i, none⟩ u).heap[k]? = w.heap[k]? := fun k hk =>
    (Below.heap_setCell _ _ _ _ (by show k ≠ mb; omega)).trans (hr.block k (by omega) (by omega) (fun e => by have := (h.stk.lt k e.symm).1; omega) (fun e => by have := (h.pts.lt k e.symm).1; omega))
  refine ⟨?_, ownsRow_same hs (fun k hk _ => Below.heap_setCell _ _ _ _ (by show k ≠ mb; omega)), ownsRow_same hp (fun k hk _ => Below.heap_setCell _ _ _ _ (by show k ≠ mb; omega)), ha, lv, h.li, lc, h.nmb, by have := h.bas; have := hr.size; simp; omega, h.img.keep nb, h.ops.keep nb⟩
  rw [setCell_at (hm.trans h.blk), List.setIfInBounds_toArray, hset]

theorem MM.cells (h : MM w mb B l iv ov ins sp s sv pv) : (∀ j u, (machVs iv s.vs ins s.cs sv pv (s.pc : Int) sp ov)[j]? = some u → w.cell? ⟨mb, j, none⟩ = some u) ∧ (∀ j, w.frozen? ⟨mb, j, none⟩ = false) ∧ mb < w.heap.size := cells_of h.blk

theorem MM.c_iv (h : MM w mb B l iv ov ins sp s sv pv) : w.cell? ⟨mb, 0, none⟩ = some iv := h.cells.1 0 _ rfl
theorem MM.c_vs (h : MM w mb B l iv ov ins sp s sv pv) {j : Nat} (hj : j < 8) : w.cell? ⟨mb, j + 1, none⟩ = some (.int .i64 (s.vs.getD j 0)) := h.cells.1 _ _ (machVs_vs h.lv hj)
theorem MM.c_in (h : MM w mb B l iv ov ins sp s sv pv) {j : Nat} (hj : j < 4) : w.cell? ⟨mb, j + 9, none⟩ = some (.int .i64 (ins.getD j 0)) := h.cells.1 _ _ (machVs_in h.lv h.li hj)
theorem MM.c_cs (h : MM w mb B l iv ov ins sp s sv pv) {j : Nat} (hj : j < 8) : w.cell? ⟨mb, j + 13, none⟩ = some (.int .i64 (s.cs.getD j 0)) := h.cells.1 _ _ (machVs_cs h.lv h.li h.lc hj)
theorem MM.c_sv (h : MM w mb B l iv ov ins sp s sv pv) : w.cell? ⟨mb, 21, none⟩ = some sv := h.cells.1 _ _ (machVs_rest h.lv h.li h.lc 0)
theorem MM.c_pv (h : MM w mb B l iv ov ins sp s sv pv) : w.cell? ⟨mb, 22, none⟩ = some pv := h.cells.1 _ _ (machVs_rest h.lv h.li h.lc 1)
theorem MM.c_pc (h : MM w mb B l iv ov ins sp s sv pv) : w.cell? ⟨mb, 23, none⟩ = some (.int .i64 s.pc) := h.cells.1 _ _ (machVs_rest h.lv h.li h.lc 2)
theorem MM.c_sp (h : MM w mb B l iv ov ins sp s sv pv) : w.cell? ⟨mb, 24, none⟩ = some (.int .i64 sp) := h.cells.1 _ _ (machVs_rest h.lv h.li h.lc 3)
theorem MM.c_ov (h : MM w mb B l iv ov ins sp s sv pv) : w.cell? ⟨mb, 25, none⟩ = some ov := h.cells.1 _ _ (machVs_rest h.lv h.li h.lc 4)

/-- A store into the machine's own block, of its variables, its counters or where it stands. -/
theorem MM.setV (h : MM w mb B l iv ov ins sp s sv pv) {j : Nat} (hj : j < 8) (v : Int) : MM (w.setCell ⟨mb, j + 1, none⟩ (.int .i64 v)) mb B l iv ov ins sp { s with vs := s.vs.set j v } sv pv :=
  h.change (s' := { s with vs := s.vs.set j v }) (MR.refl _ _ _ _) rfl (machVs_setV h.lv hj v) h.stk h.pts h.apt (by simp [h.lv]) h.lc
theorem MM.setC (h : MM w mb B l iv ov ins sp s sv pv) {j : Nat} (hj : j < 8) (v : Int) : MM (w.setCell ⟨mb, j + 13, none⟩ (.int .i64 v)) mb B l iv ov ins sp { s with cs := s.cs.set j v } sv pv :=
  h.change (s' := { s with cs := s.cs.set j v }) (MR.refl _ _ _ _) rfl (machVs_setC h.lv h.li h.lc hj v) h.stk h.pts h.apt h.lv (by simp [h.lc])
theorem MM.setA (h : MM w mb B l iv ov ins sp s sv pv) (z : Nat) : MM (w.setCell ⟨mb, 23, none⟩ (.int .i64 (z : Int))) mb B l iv ov ins sp { s with pc := z } sv pv :=
  h.change (s' := { s with pc := z }) (MR.refl _ _ _ _) rfl (machVs_setA h.lv h.li h.lc z) h.stk h.pts h.apt h.lv h.lc
theorem MM.setT (h : MM w mb B l iv ov ins sp s sv pv) (z : Int) : MM (w.setCell ⟨mb, 24, none⟩ (.int .i64 z)) mb B l iv ov ins z s sv pv :=
  h.change (s' := s) (MR.refl _ _ _ _) rfl (machVs_setT h.lv h.li h.lc z) h.stk h.pts h.apt h.lv h.lc

/-- Something on the stack. -/
theorem MM.pushS (h : MM w mb B l iv ov ins sp s sv pv) {st' : List Int} {sv' : Value} (hg : w.grownBy w' sv.ownBlock) (ho : w'.ownsRow B 3 1 sv' st'.length (intVs st')) (hv : sv'.ownBlock = sv.ownBlock ∨ ∀ k, sv'.ownBlock = some k → w.heap.size ≤ k) :
    MM (w'.setCell ⟨mb, 21, none⟩ sv') mb B l iv ov ins sp { s with st := st' } sv' pv ∧ MR mb w (w'.setCell ⟨mb, 21, none⟩ sv') sv pv sv' pv := by
  have hn := h.nmb
  have hr : MR mb w w' sv pv sv' pv := MR.grown hg (.inl rfl) hv (.inl rfl)
  refine ⟨h.change (s' := { s with st := st' }) hr (hg.block mb h.lt (fun e => by have := (h.stk.lt mb e.symm).1; omega)) (machVs_setS h.lv h.li h.lc sv') ho ?_ ?_ h.lv h.lc, hr.set _ _⟩
  · obtain ⟨hl, h1 | ⟨g, cap, cur, he, hb, hgg, hr'⟩⟩ := h.pts
    · exact ⟨hl, .inl h1⟩
    · exact ⟨hl, .inr ⟨g, cap, cur, he, hb, (hg.block g (Array.getElem?_eq_some_iff.1 hgg).1 (fun e => h.apt g e.symm (by rw [he]; rfl))).trans hgg, hr'⟩⟩
  · intro k hk hk'
    rcases hv with hv | hv
    · rw [hv] at hk; exact h.apt k hk hk'
    · have h1 := hv k hk; have h2 := (h.pts.lt k hk').2; omega

/-- Something goes out. -/
theorem MM.pushP (h : MM w mb B l iv ov ins sp s sv pv) {ps' : List (Int × Int)} {pv' : Value} (hg : w.grownBy w' pv.ownBlock) (ho : w'.ownsRow B 76 2 pv' ps'.length (putVs ps')) (hv : pv'.ownBlock = pv.ownBlock ∨ ∀ k, pv'.ownBlock = some k → w.heap.size ≤ k) :
    MM (w'.setCell ⟨mb, 22, none⟩ pv') mb B l iv ov ins sp { s with ps := ps' } sv pv' ∧ MR mb w (w'.setCell ⟨mb, 22, none⟩ pv') sv pv sv pv' := by
  have hn := h.nmb
  have hr : MR mb w w' sv pv sv pv' := MR.grown hg (.inr rfl) (.inl rfl) hv
  refine ⟨h.change (s' := { s with ps := ps' }) hr (hg.block mb h.lt (fun e => by have := (h.pts.lt mb e.symm).1; omega)) (machVs_setP h.lv h.li h.lc pv') ?_ ho ?_ h.lv h.lc, hr.set _ _⟩
  · obtain ⟨hl, h1 | ⟨g, cap, cur, he, hb, hgg, hr'⟩⟩ := h.stk
    · exact ⟨hl, .inl h1⟩
    · exact ⟨hl, .inr ⟨g, cap, cur, he, hb, (hg.block g (Array.getElem?_eq_some_iff.1 hgg).1 (fun e => h.apt g (by rw [he]; rfl) e.symm)).trans hgg, hr'⟩⟩
  · intro k hk hk'
    rcases hv with hv | hv
    · rw [hv] at hk'; exact h.apt k hk hk'
    · have h1 := hv k hk'; have h2 := (h.stk.lt k hk).2; omega

theorem st_shrink {ad : Option Addr} {c n : Nat} {st : List Int} (h : w.ownsRow B 3 1 (.slice ad (n + 1) c) st.length (intVs st)) (hn : st.length = n + 1) : w.ownsRow B 3 1 (.slice ad n c) st.dropLast.length (intVs st.dropLast) := by
  have hd : st.dropLast.length = n := by simp [hn]
  obtain ⟨hl, ⟨e, he⟩ | ⟨g, cap, cur, e, hb, hg, hc, hm, hs, ht⟩⟩ := h
  · omega
  · simp only [Value.slice.injEq] at e
    obtain ⟨rfl, -, rfl⟩ := e
    refine ⟨by simp [intVs], .inr ⟨g, c, cur, by rw [hd], hb, hg, by omega, hm, hs, ?_⟩⟩
    have e2 : intVs st.dropLast = (intVs st).take (st.dropLast.length * 1) := by
      rw [hd, Nat.mul_one]
      unfold intVs
      rw [← List.map_take, List.dropLast_eq_take, hn]
      rfl
    rw [e2, ← ht, List.take_take]
    congr 1
    omega

/-- The top of the stack is taken. -/
theorem MM.pop {ad : Option Addr} {n c : Nat} (h : MM w mb B l iv ov ins sp s (.slice ad (n + 1) c) pv) (hn : s.st.length = n + 1) :
    MM (w.setCell ⟨mb, 21, none⟩ (.slice ad n c)) mb B l iv ov ins sp { s with st := s.st.dropLast } (.slice ad n c) pv ∧ MR mb w (w.setCell ⟨mb, 21, none⟩ (.slice ad n c)) (.slice ad (n + 1) c) pv (.slice ad n c) pv :=
  h.pushS ⟨rfl, rfl, rfl, Nat.le_refl _, fun _ _ _ => rfl⟩ (st_shrink h.stk hn) (.inl (by cases ad <;> rfl))

/-- What lies on the stack. -/
theorem MM.tops (h : MM w mb B l iv ov ins sp s sv pv) {n : Nat} (hn : s.st.length = n + 1) : ∃ (b o c : Nat), sv = .slice (some ⟨b, o, none⟩) (n + 1) c ∧ w.cell? ⟨b, o + n, none⟩ = some (.int .i64 s.top) ∧ b < w.heap.size ∧ b ≠ mb ∧ n + 1 ≤ c := by
  have hm := h.nmb
  have hb := h.stk
  rw [hn] at hb
  have hb' := hb
  obtain ⟨-, ⟨e, he⟩ | ⟨g, cap, cur, e, hB, hg, hc, -, -, -⟩⟩ := hb'
  · omega
  · refine ⟨g, 0, cap, e, ?_, (Array.getElem?_eq_some_iff.1 hg).1, by omega, hc⟩
    subst e
    have h1 := hb.cellAt n (by omega)
    rw [intVs_at (by omega)] at h1
    rw [Nat.zero_add]
    have ht : s.top = s.st.getD n 0 := by
      unfold MS.top
      rw [List.getLast?_eq_getElem?, hn, Nat.add_sub_cancel, List.getD_eq_getElem?_getD]
    rw [ht]
    exact h1
end
end Go.Proofs.YtcmoehednkaehadDoor
namespace Go.Proofs.YtcmoehednkaehadDoor
open Go.ChangeShapes Go.WideShapes Go.ChangeAt Go.RowKit

theorem MM.pushed {w w4 : World} {mb B : Nat} {l : List In} {iv ov : Value} {ins : List Int} {sp : Int} {s : MS} {sv pv : Value} {z : Int} {ad4 : Option Addr} {c4 : Nat} (h : MM w mb B l iv ov ins sp s sv pv) (ho4 : w4.ownsRow B 3 1 (.slice ad4 (s.st.length + 1) c4) (s.st.length + 1) (intVs (s.st ++ [z]))) (hg4 : (w.alloc (.cells #[.int .i64 z] 3)).grownBy w4 sv.ownBlock) (hv4 : (Value.slice ad4 (s.st.length + 1) c4).ownBlock = sv.ownBlock ∨ ∀ k, (Value.slice ad4 (s.st.length + 1) c4).ownBlock = some k → (w.alloc (.cells #[.int .i64 z] 3)).heap.size ≤ k) :
    MM (w4.setCell ⟨mb, 21, none⟩ (.slice ad4 (s.st.length + 1) c4)) mb B l iv ov ins sp { s with st := s.st ++ [z] } (.slice ad4 (s.st.length + 1) c4) pv ∧ MR mb w (w4.setCell ⟨mb, 21, none⟩ (.slice ad4 (s.st.length + 1) c4)) sv pv (.slice ad4 (s.st.length + 1) c4) pv ∧ mb < w4.heap.size ∧ w4.cell? ⟨mb, 21, none⟩ = some sv ∧ ∀ j, w4.frozen? ⟨mb, j, none⟩ = false := by
  have hn := h.nmb
  have hb4 := (hg4.block mb (by have := h.lt; simp; omega) (fun e => by have := (h.stk.lt mb e.symm).1; omega)).trans (h.grow (below_new w _)).blk
  obtain ⟨p1, p2⟩ := (h.grow (below_new w (.cells #[.int .i64 z] 3))).pushS hg4 (st' := s.st ++ [z]) (by rw [List.length_append]; exact ho4) hv4
  exact ⟨p1, (MR.of_below (below_new w _)).trans p2, (cells_of hb4).2.2, (cells_of hb4).1 _ _ (machVs_rest h.lv h.li h.lc 0), (cells_of hb4).2.1⟩

set_option maxRecDepth 20000 in
set_option maxHeartbeats 4000000 in
theorem push_any (w : World) (mb B : Nat) (l : List In) (iv ov : Value) (ins : List Int) (sp : Int) (s : MS) (sv pv : Value) (z : Int) (h : MM w mb B l iv ov ins sp s sv pv) (hl : s.st.length ≤ 4000000) :
    Calls Tryd.prog 83 #[.pointer (some ⟨mb, 0, none⟩), .int .i64 z] w fun r w' => r = .returned (.tuple #[]) ∧ ∃ sv', MM w' mb B l iv ov ins sp { s with st := s.st ++ [z] } sv' pv ∧ MR mb w w' sv pv sv' pv := by
  have lm := h.lt
  have c21 := h.c_sv
  have f21 := h.cells.2.1
  have HM : Hid (MM w mb B l iv ov ins sp s sv pv) := h
  have hbas := h.bas
  clear h
  go_enter Tryd.func83, Tryd.ntmps83
  go_wp2_with (at_builtin; refine wp_push2 rfl (.tmp 8) (.tmp 10) rfl B sv s.st z w.heap.size s.st.length rfl rfl rfl rfl HM.out.stk hbas hl ?_; intro ad4 c4 w4 ho4 hg4 hv4; obtain ⟨p1, p2, l4, x4, f4⟩ := HM.out.pushed ho4 hg4 hv4; have HP : Hid (MM _ _ _ _ _ _ _ _ _ _ _ ∧ MR _ _ _ _ _ _ _) := ⟨p1, p2⟩; clear ho4 hg4 hv4 p1 p2)
  go_end0
  exact ⟨rfl, _, HP.out.1, HP.out.2⟩

set_option maxRecDepth 20000 in
set_option maxHeartbeats 4000000 in
theorem pop_any (w : World) (mb B : Nat) (l : List In) (iv ov : Value) (ins : List Int) (sp : Int) (s : MS) (sv pv : Value) (n : Nat) (h : MM w mb B l iv ov ins sp s sv pv) (hn : s.st.length = n + 1) (hl : n ≤ 4000000) :
    Calls Tryd.prog 84 #[.pointer (some ⟨mb, 0, none⟩)] w fun r w' => r = .returned (.int .i64 s.top) ∧ ∃ sv', MM w' mb B l iv ov ins sp { s with st := s.st.dropLast } sv' pv ∧ MR mb w w' sv pv sv' pv := by
  have lm := h.lt
  have c21 := h.c_sv
  have f21 := h.cells.2.1
  obtain ⟨b, o, c, rfl, ctop, lb, nb, hc⟩ := h.tops hn
  have HM : Hid (MM w mb B l iv ov ins sp s (.slice (some ⟨b, o, none⟩) (n + 1) c) pv) := h
  clear h
  go_enter Tryd.func84, Tryd.ntmps84
  go_wp2_with fail
  go_ret
  exact ⟨rfl, _, (HM.out.pop hn).1, (HM.out.pop hn).2⟩
end Go.Proofs.YtcmoehednkaehadDoor
namespace Go.Proofs.YtcmoehednkaehadDoor
open Go.ChangeShapes Go.WideShapes Go.ChangeAt Go.RowKit

section
variable (w : World) (mb B : Nat) (l : List In) (iv ov : Value) (ins : List Int) (sp : Int) (s : MS) (sv pv : Value)

set_option maxRecDepth 20000 in
set_option maxHeartbeats 4000000 in
theorem over_11 (a b : Int) : Calls Tryd.prog 45 #[.pointer (some ⟨mb, 0, none⟩), .agg #[.int .i64 11, .int .i64 a, .int .i64 b]] w fun r w' => r = .returned (.bool true) ∧ Below w.heap.size w w' := by
  go_enter Tryd.func45, Tryd.ntmps45
  go_wp2_with fail
  go_ret
  exact ⟨rfl, below_new _ _⟩

set_option maxRecDepth 20000 in
set_option maxHeartbeats 4000000 in
theorem over_12 (a b : Int) (n : Nat) (h : MM w mb B l iv ov ins sp s sv pv) (hn : s.st.length = n + 1) (hl : n ≤ 4000000) : Calls Tryd.prog 45 #[.pointer (some ⟨mb, 0, none⟩), .agg #[.int .i64 12, .int .i64 a, .int .i64 b]] w fun r w' => r = .returned (.bool (s.top == 0)) ∧ Below w.heap.size w w' := by
  have lm := h.lt
  have c21 := h.c_sv
  obtain ⟨b', o, c, rfl, ctop, lb, nb, hc⟩ := h.tops hn
  clear h
  generalize s.top = tp at *
  go_enter Tryd.func45, Tryd.ntmps45
  go_wp2_with fail
  go_quiet (fail)
  go_wp2_with fail
  go_ret
  exact ⟨rfl, below_seq' (below_new _ _)⟩

set_option maxRecDepth 20000 in
set_option maxHeartbeats 4000000 in
theorem over_14 (m : Nat) (b : Int) (h : MM w mb B l iv ov ins sp s sv pv) (hm : m < 8) : Calls Tryd.prog 45 #[.pointer (some ⟨mb, 0, none⟩), .agg #[.int .i64 14, .int .i64 (m : Int), .int .i64 b]] w fun r w' => r = .returned (.bool (decide (0 < s.cs.getD m 0))) ∧ Below w.heap.size w w' := by
  have lm := h.lt
  have cc := h.c_cs hm
  rw [Nat.add_comm] at cc
  clear h
  generalize s.cs.getD m 0 = tp at *
  go_enter Tryd.func45, Tryd.ntmps45
  go_wp2_with fail
  go_quiet (fail)
  go_wp2_with fail
  go_ret
  exact ⟨rfl, below_seq' (below_new _ _)⟩

set_option maxRecDepth 20000 in
set_option maxHeartbeats 4000000 in
theorem over_other (op a b : Int) (h1 : op ≠ 11) (h2 : op ≠ 12) (h3 : op ≠ 14) : Calls Tryd.prog 45 #[.pointer (some ⟨mb, 0, none⟩), .agg #[.int .i64 op, .int .i64 a, .int .i64 b]] w fun r w' => r = .returned (.bool false) ∧ Below w.heap.size w w' := by
  have f1 : (op == 11) = false := by simpa using h1
  have f2 : (op == 12) = false := by simpa using h2
  have f3 : (op == 14) = false := by simpa using h3
  go_enter Tryd.func45, Tryd.ntmps45
  go_wp2_with fail
  go_ret
  exact ⟨rfl, below_new _ _⟩
end

theorem over_any (w : World) (mb B : Nat) (l : List In) (iv ov : Value) (ins : List Int) (sp : Int) (s : MS) (sv pv : Value) (x : In) (h : MM w mb B l iv ov ins sp s sv pv) (hf : formErr x = 0) (ht : takesOf x.op.toNat ≤ (s.st.length : Int)) (hl : s.st.length ≤ 4000000) :
    Calls Tryd.prog 45 #[.pointer (some ⟨mb, 0, none⟩), x.val] w fun r w' => r = .returned (.bool (overI x s)) ∧ Below w.heap.size w w' := by
  obtain ⟨ha, h7, -⟩ := form_a hf
  obtain ⟨op, a, b⟩ := x
  dsimp only at *
  show Calls Tryd.prog 45 #[.pointer (some ⟨mb, 0, none⟩), .agg #[.int .i64 op, .int .i64 a, .int .i64 b]] w _
  unfold overI
  dsimp only
  by_cases e1 : op = 11
  · subst e1
    rw [if_pos rfl]
    exact over_11 w mb a b
  rw [if_neg e1]
  by_cases e2 : op = 12
  · subst e2
    rw [if_pos rfl]
    have : takesOf (Int.toNat 12) = 1 := by decide
    obtain ⟨n, hn⟩ : ∃ n, s.st.length = n + 1 := ⟨s.st.length - 1, by omega⟩
    have := over_12 w mb B l iv ov ins sp s sv pv a b n h hn (by omega)
    rwa [show (s.top == 0) = decide (s.top = 0) by rfl] at this
  rw [if_neg e2]
  by_cases e3 : op = 14
  · subst e3
    rw [if_pos rfl]
    obtain ⟨m, rfl⟩ : ∃ m : Nat, a = m := ⟨a.toNat, by omega⟩
    rw [Int.toNat_natCast]
    exact over_14 w mb B l iv ov ins sp s sv pv m b h (by have := h7 (by omega); omega)
  rw [if_neg e3]
  exact over_other w mb op a b e1 e2 e3
end Go.Proofs.YtcmoehednkaehadDoor
