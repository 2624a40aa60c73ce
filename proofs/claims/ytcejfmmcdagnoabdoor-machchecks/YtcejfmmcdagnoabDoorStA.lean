import Derived.Test.YtcejfmmcdagnoabDoorChkW
import Derived.Test.YtcejfmmcdagnoabDoorAmong
namespace Go.Proofs.YtcejfmmcdagnoabDoor
open Go.ChangeShapes Go.WideShapes Go.ChangeAt Go.RowKit

/-- What the look at the stack ends with. -/
def stackEnd (l : List In) : Int × Int :=
  match stackScan l 0 M0 with
  | .inl (c, k) => (c, (k : Int))
  | .inr M => if (M l.length).getD 0 ≠ 0 then (8, (l.length : Int)) else (0, 0)

theorem stackEnd_at {l : List In} {j : Nat} {M : Int → Option Int} (hlt : j < l.length) (hsc : stackScan (l.drop j) j M = stackScan l 0 M0) : ∀ z M', stackStep M j (l.getD j in0) = (z, M') → (z ≠ 0 → stackEnd l = (z, (j : Int))) ∧ (z = 0 → stackScan (l.drop (j + 1)) (j + 1) M' = stackScan l 0 M0) := by
  intro z M' hst
  rw [stackScan_at hlt, hst] at hsc
  constructor
  · intro hz
    rw [if_pos (by simpa using hz)] at hsc
    unfold stackEnd
    rw [← hsc]
  · intro hz
    rw [if_neg (by simpa using hz)] at hsc
    exact hsc

/-- What stackFault holds. -/
structure SF (w wr : World) (mb tb : Nat) : Prop where
  bel : Below w.heap.size w wr
  res : wr.heap[w.heap.size]? = some (.cells #[.int .i64 0, .int .i64 0] 31 (0, 0))
  tak : wr.heap[tb]? = some (.cells #[.int .i64 0, .int .i64 0, .int .i64 0, .int .i64 1, .int .i64 2, .int .i64 2, .int .i64 2, .int .i64 2, .int .i64 2, .int .i64 0, .int .i64 1, .int .i64 0, .int .i64 1, .int .i64 0, .int .i64 0, .int .i64 0, .int .i64 0, .int .i64 0, .int .i64 0] 3 (0, 0))
  giv : wr.heap[tb + 1]? = some (.cells #[.int .i64 0, .int .i64 1, .int .i64 1, .int .i64 0, .int .i64 1, .int .i64 1, .int .i64 1, .int .i64 1, .int .i64 1, .int .i64 1, .int .i64 0, .int .i64 0, .int .i64 0, .int .i64 0, .int .i64 0, .int .i64 0, .int .i64 0, .int .i64 0, .int .i64 0] 3 (0, 0))
  ord : w.heap.size < mb ∧ mb < tb

theorem SF.grow {w wr w' : World} {mb tb : Nat} (h : SF w wr mb tb) (hb : Below wr.heap.size wr w') : SF w w' mb tb :=
  ⟨below_seq h.bel hb, (hb.block _ (Array.getElem?_eq_some_iff.1 h.res).1).trans h.res, (hb.block _ (Array.getElem?_eq_some_iff.1 h.tak).1).trans h.tak, (hb.block _ (Array.getElem?_eq_some_iff.1 h.giv).1).trans h.giv, h.ord⟩

theorem SF.grown {w wr w' : World} {mb tb : Nat} (h : SF w wr mb tb) (hg : wr.grownBy w' (some mb)) : SF w w' mb tb :=
  ⟨h.bel.grown hg h.bel.size (by intro k hk; cases hk; have := h.ord; omega), (hg.block _ (Array.getElem?_eq_some_iff.1 h.res).1 (by have := h.ord; simp; omega)).trans h.res, (hg.block _ (Array.getElem?_eq_some_iff.1 h.tak).1 (by have := h.ord; simp; omega)).trans h.tak, (hg.block _ (Array.getElem?_eq_some_iff.1 h.giv).1 (by have := h.ord; simp; omega)).trans h.giv, h.ord⟩

theorem takes_at {m : Nat} (h : m ≤ 18) : (#[.int .i64 0, .int .i64 0, .int .i64 0, .int .i64 1, .int .i64 2, .int .i64 2, .int .i64 2, .int .i64 2, .int .i64 2, .int .i64 0, .int .i64 1, .int .i64 0, .int .i64 1, .int .i64 0, .int .i64 0, .int .i64 0, .int .i64 0, .int .i64 0, .int .i64 0] : Array Value)[m]? = some (.int .i64 (takesOf m)) := by
  have : m = 0 ∨ m = 1 ∨ m = 2 ∨ m = 3 ∨ m = 4 ∨ m = 5 ∨ m = 6 ∨ m = 7 ∨ m = 8 ∨ m = 9 ∨ m = 10 ∨ m = 11 ∨ m = 12 ∨ m = 13 ∨ m = 14 ∨ m = 15 ∨ m = 16 ∨ m = 17 ∨ m = 18 := by omega
  rcases this with rfl | rfl | rfl | rfl | rfl | rfl | rfl | rfl | rfl | rfl | rfl | rfl | rfl | rfl | rfl | rfl | rfl | rfl | rfl <;> rfl

theorem gives_at {m : Nat} (h : m ≤ 18) : (#[.int .i64 0, .int .i64 1, .int .i64 1, .int .i64 0, .int .i64 1, .int .i64 1, .int .i64 1, .int .i64 1, .int .i64 1, .int .i64 1, .int .i64 0, .int .i64 0, .int .i64 0, .int .i64 0, .int .i64 0, .int .i64 0, .int .i64 0, .int .i64 0, .int .i64 0] : Array Value)[m]? = some (.int .i64 (putsOf m)) := by
  have : m = 0 ∨ m = 1 ∨ m = 2 ∨ m = 3 ∨ m = 4 ∨ m = 5 ∨ m = 6 ∨ m = 7 ∨ m = 8 ∨ m = 9 ∨ m = 10 ∨ m = 11 ∨ m = 12 ∨ m = 13 ∨ m = 14 ∨ m = 15 ∨ m = 16 ∨ m = 17 ∨ m = 18 := by omega
  rcases this with rfl | rfl | rfl | rfl | rfl | rfl | rfl | rfl | rfl | rfl | rfl | rfl | rfl | rfl | rfl | rfl | rfl | rfl | rfl <;> rfl

theorem SF.takes {w wr : World} {mb tb : Nat} (h : SF w wr mb tb) {m : Nat} (hm : m ≤ 18) : wr.cell? ⟨tb, m, none⟩ = some (.int .i64 (takesOf m)) := by
  unfold World.cell?; rw [h.tak]; exact takes_at hm

theorem SF.gives {w wr : World} {mb tb : Nat} (h : SF w wr mb tb) {m : Nat} (hm : m ≤ 18) : wr.cell? ⟨tb + 1, m, none⟩ = some (.int .i64 (putsOf m)) := by
  unfold World.cell?; rw [h.giv]; exact gives_at hm

theorem StF_ends {w : World} {g : Nat} {c k : Value} {a : Act} (h : w.heap[g]? = some (.cells #[c, k] 31 (0, 0))) (h2 : a.tmps[2]?.getD undef = .pointer (some ⟨g, 0, none⟩)) :
    (results Tryd.f44 a.tmps).run Tryd.prog w = .ok (.agg #[c, k]) w := by
  obtain ⟨c1, f1, l1⟩ := cells_of (l := [_, _]) h
  have c10 := c1 0 _ rfl
  have c11 := c1 1 _ rfl
  simp [results, Tryd.results44, go_sem, h2, c10, c11]

theorem sf_start (w : World) : ∃ w1, (Instr.mapUpdate 83 (.map (some (w.heap.size + 1))) (.int .i64 0) (.int .i64 0)).run Tryd.prog ((w.alloc (.cells #[.int .i64 0, .int .i64 0] 31)).alloc (.map #[] 0)) = .ok () w1 ∧ w.heap.size + 2 ≤ w1.heap.size ∧ Hid (SF w ((w1.alloc (.cells #[.int .i64 0, .int .i64 0, .int .i64 0, .int .i64 1, .int .i64 2, .int .i64 2, .int .i64 2, .int .i64 2, .int .i64 2, .int .i64 0, .int .i64 1, .int .i64 0, .int .i64 1, .int .i64 0, .int .i64 0, .int .i64 0, .int .i64 0, .int .i64 0, .int .i64 0] 3)).alloc (.cells #[.int .i64 0, .int .i64 1, .int .i64 1, .int .i64 0, .int .i64 1, .int .i64 1, .int .i64 1, .int .i64 1, .int .i64 1, .int .i64 1, .int .i64 0, .int .i64 0, .int .i64 0, .int .i64 0, .int .i64 0, .int .i64 0, .int .i64 0, .int .i64 0, .int .i64 0] 3)) (w.heap.size + 1) w1.heap.size ∧ HtAt ((w1.alloc (.cells #[.int .i64 0, .int .i64 0, .int .i64 0, .int .i64 1, .int .i64 2, .int .i64 2, .int .i64 2, .int .i64 2, .int .i64 2, .int .i64 0, .int .i64 1, .int .i64 0, .int .i64 1, .int .i64 0, .int .i64 0, .int .i64 0, .int .i64 0, .int .i64 0, .int .i64 0] 3)).alloc (.cells #[.int .i64 0, .int .i64 1, .int .i64 1, .int .i64 0, .int .i64 1, .int .i64 1, .int .i64 1, .int .i64 1, .int .i64 1, .int .i64 1, .int .i64 0, .int .i64 0, .int .i64 0, .int .i64 0, .int .i64 0, .int .i64 0, .int .i64 0, .int .i64 0, .int .i64 0] 3)) (w.heap.size + 1) 1 M0) := by
  obtain ⟨w1, hrun, hset, hg⟩ := (HtAt.made (w.alloc (.cells #[.int .i64 0, .int .i64 0] 31))).set (by omega) (z := 0) (v := 0) (by omega) (by omega)
  rw [show (w.alloc (.cells #[.int .i64 0, .int .i64 0] 31)).heap.size = w.heap.size + 1 by simp] at hrun hset hg
  have hs := hg.size
  simp at hs
  have b0 : w1.heap[w.heap.size]? = some (Obj.cells #[.int .i64 0, .int .i64 0] 31 (0, 0)) := by
    rw [hg.block _ (by first | (simp; done) | (simp; omega)) (by first | (simp; done) | (simp; omega)), Below.heap_alloc _ _ _ (by simp)]
    exact heap_alloc_new _ _
  have hb : Below w.heap.size w w1 := ((below_new w _).alloc (by simp) _).grown hg (by simp; omega) (by intro j hj; simp at hj; omega)
  refine ⟨w1, hrun, by omega, ⟨⟨(hb.alloc (by omega) _).alloc (by simp; omega) _, ?_, ?_, ?_, by omega, by omega⟩, hset.below ((below_new w1 _).alloc (by simp) _)⟩⟩
  · rw [Below.heap_alloc _ _ _ (by simp; omega), Below.heap_alloc _ _ _ (by omega)]; exact b0
  · rw [Below.heap_alloc _ _ _ (by simp)]; exact heap_alloc_new _ _
  · have := heap_alloc_new (w1.alloc (.cells #[.int .i64 0, .int .i64 0, .int .i64 0, .int .i64 1, .int .i64 2, .int .i64 2, .int .i64 2, .int .i64 2, .int .i64 2, .int .i64 0, .int .i64 1, .int .i64 0, .int .i64 1, .int .i64 0, .int .i64 0, .int .i64 0, .int .i64 0, .int .i64 0, .int .i64 0] 3)) (.cells #[.int .i64 0, .int .i64 1, .int .i64 1, .int .i64 0, .int .i64 1, .int .i64 1, .int .i64 1, .int .i64 1, .int .i64 1, .int .i64 1, .int .i64 0, .int .i64 0, .int .i64 0, .int .i64 0, .int .i64 0, .int .i64 0, .int .i64 0, .int .i64 0, .int .i64 0] 3)
    simpa using this

theorem ints_of_own {w : World} {B : Nat} {v : Value} {ts : List Int} (h : w.ownsRow B 3 1 v ts.length (intVs ts)) : IntSl w ts v := by
  obtain ⟨ad, cap, rfl⟩ := owns_value h
  refine ⟨ad, cap, rfl, ?_⟩
  by_cases h0 : ts = []
  · exact .inl h0
  obtain ⟨-, ⟨e, he⟩ | ⟨g, cap', cur, e, -, hg, -, -, -, ht⟩⟩ := h
  · exact absurd (List.length_eq_zero_iff.1 he) h0
  cases e
  refine .inr ⟨g, 0, rfl, fun j hj => ?_⟩
  have h1 : (intVs ts)[j]? = some (.int .i64 (ts.getD j 0)) := by simp [intVs, List.getD, hj]
  rw [← ht, List.getElem?_take, if_pos (by omega)] at h1
  unfold World.cell?
  rw [hg]
  simpa using h1

theorem row_of_own {w : World} {B n c : Nat} {ad : Option Addr} {ts : List Int} (h : w.ownsRow B 3 1 (.slice ad n c) n (intVs ts)) (hn : n = ts.length) (h0 : 0 < n) : ∃ b o, ad = some ⟨b, o, none⟩ ∧ ∀ p, p < ts.length → w.cell? ⟨b, o + p, none⟩ = some (.int .i64 (ts.getD p 0)) := by
  subst hn
  obtain ⟨ad', c', e, h1 | ⟨b, o, h1, h2⟩⟩ := ints_of_own h
  · rw [h1] at h0; simp at h0
  · cases e; exact ⟨b, o, h1, h2⟩

/-- An append of one number to a row of one's own, for the walk. -/
theorem wp_push {w : World} {ops : Array Oper} {rest : List Oper} {o : Oper} {a : Act} {Q : Exit → Act → World → Prop} (hgd : o.guard = none) (s x : Operand)
    (ho : o.op = .call { callee := .builtin .append, args := #[s, x], argTypes := #[23, 23] }) (B : Nat) (v : Value) (ts : List Int) (t : Int) (g : Nat) (hgg : w.heap.size = g) (hs : a.eval s = v) (hx : a.eval x = .slice (some ⟨g, 0, none⟩) 1 1)
    (hown : w.ownsRow B 3 1 v ts.length (intVs ts)) (hB : B ≤ w.heap.size) (hl : ts.length ≤ 4000000)
    (h : ∀ ad c w', w'.ownsRow B 3 1 (.slice ad (ts.length + 1) c) (ts.length + 1) (intVs (ts ++ [t])) → Below B w w' → wpList Tryd.prog ops Q rest (a.put o.dst (.slice ad (ts.length + 1) c)) w') : wpList Tryd.prog ops Q (o :: rest) a (w.alloc (.cells #[.int .i64 t] 3)) := by
  subst hgg
  obtain ⟨i0, hi0, hz0, hz1, hz2⟩ := info_parts infoI
  have hown' : (w.alloc (.cells #[.int .i64 t] 3)).ownsRow B 3 1 v ts.length (intVs ts) := ownsRow_same hown (fun k _ hk => (below_new w _).block k hk)
  obtain ⟨v4, w4, hrun, ho4, hg4, -⟩ := append_two (P := Tryd.prog) (w.alloc (.cells #[.int .i64 t] 3)) B w.heap.size 23 o.type 3 i0 _ 1 8 Tryd.underlying23 hi0 hz0 hz1 hz2 rfl (by decide) v ts.length (intVs ts) hown' _ 1 [.int .i64 t] (World.ownsRow_lit w #[.int .i64 t] 1 (Nat.le_refl _) (by decide) rfl) (by intro u hu; simp at hu; subst hu; rfl) (by unfold maxLen; omega) (by omega) (by simp; omega)
  obtain ⟨vad, vcap, rfl⟩ := owns_value ho4
  refine append_known hgd s x 23 ho hs hx hrun ?_
  refine h vad vcap w4 (by simpa [intVs] using ho4) ?_
  refine (((Below.refl B w).alloc hB _).grown hg4 (by simp; omega) (fun k hk => (hown.lt k hk).1))

end Go.Proofs.YtcejfmmcdagnoabDoor
