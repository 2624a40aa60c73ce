import Derived.Test.YtcmoehednkaehadDoorCSem
namespace Go.Proofs.YtcmoehednkaehadDoor
open Go.ChangeShapes Go.WideShapes Go.ChangeAt Go.RowKit

theorem Check_ends {w : World} {g : Nat} {c k : Value} {a : Act} (h : w.heap[g]? = some (.cells #[c, k] 37 (0, 0))) (h2 : a.tmps[2]?.getD undef = .pointer (some ⟨g, 0, none⟩)) :
    (results Tryd.f32 a.tmps).run Tryd.prog w = .ok (.agg #[c, k]) w := by
  obtain ⟨c1, f1, l1⟩ := cells_of (l := [_, _]) h
  have c10 := c1 0 _ rfl
  have c11 := c1 1 _ rfl
  simp [results, Tryd.results32, go_sem, h2, c10, c11]

/-- What is where it was, while the looks look. -/
structure FX (wF : World) (s mb wb n fj : Nat) (rb : Nat) : Prop where
  res : wF.heap[s]? = some (.cells #[.int .i64 0, .int .i64 0] 37 (0, 0))
  jmp : wF.heap[fj]? = some (.cells #[.slice (some ⟨wb, 0, none⟩) (n + 1) (n + 1)] 23 (0, 0))
  stk : wF.heap[fj + 1]? = some (.cells #[.map (some mb)] 122 (0, 0))
  lks : wF.heap[fj + 1 + 1]? = some (.cells #[.func (Fn.func 63) #[] #[], .func (Fn.func 64) #[.pointer (some ⟨rb, 0, none⟩)] #[], .func (Fn.func 65) #[.pointer (some ⟨rb, 0, none⟩)] #[], .func (Fn.func 105) #[] #[.pointer (some ⟨fj, 0, none⟩)], .func (Fn.func 106) #[] #[.pointer (some ⟨fj + 1, 0, none⟩)]] 124 (0, 0))
  hts : HtAt wF mb 1 M0

theorem looks_fx (w5 : World) {s mb wb n rb : Nat} (hr : w5.heap[s]? = some (.cells #[.int .i64 0, .int .i64 0] 37 (0, 0))) (hh : HtAt w5 mb 1 M0) :
    FX (((w5.alloc (.cells #[.slice (some ⟨wb, 0, none⟩) (n + 1) (n + 1)] 23)).alloc (.cells #[.map (some mb)] 122)).alloc (.cells #[.func (Fn.func 63) #[] #[], .func (Fn.func 64) #[.pointer (some ⟨rb, 0, none⟩)] #[], .func (Fn.func 65) #[.pointer (some ⟨rb, 0, none⟩)] #[], .func (Fn.func 105) #[] #[.pointer (some ⟨w5.heap.size, 0, none⟩)], .func (Fn.func 106) #[] #[.pointer (some ⟨w5.heap.size + 1, 0, none⟩)]] 124)) s mb wb n w5.heap.size rb := by
  have hs : s < w5.heap.size := (Array.getElem?_eq_some_iff.1 hr).1
  refine ⟨?_, ?_, ?_, ?_, ?_⟩
  · rw [Below.heap_alloc _ _ _ (by simp; omega), Below.heap_alloc _ _ _ (by simp; omega), Below.heap_alloc _ _ _ hs]; exact hr
  · rw [Below.heap_alloc _ _ _ (by simp; omega), Below.heap_alloc _ _ _ (by simp)]; exact heap_alloc_new _ _
  · rw [Below.heap_alloc _ _ _ (by simp)]
    have := heap_alloc_new (w5.alloc (.cells #[.slice (some ⟨wb, 0, none⟩) (n + 1) (n + 1)] 23)) (.cells #[.map (some mb)] 122)
    simpa using this
  · have := heap_alloc_new ((w5.alloc (.cells #[.slice (some ⟨wb, 0, none⟩) (n + 1) (n + 1)] 23)).alloc (.cells #[.map (some mb)] 122)) (.cells #[.func (Fn.func 63) #[] #[], .func (Fn.func 64) #[.pointer (some ⟨rb, 0, none⟩)] #[], .func (Fn.func 65) #[.pointer (some ⟨rb, 0, none⟩)] #[], .func (Fn.func 105) #[] #[.pointer (some ⟨w5.heap.size, 0, none⟩)], .func (Fn.func 106) #[] #[.pointer (some ⟨w5.heap.size + 1, 0, none⟩)]] 124)
    simpa using this
  · exact hh.below (((below_new w5 _).alloc (by simp) _).alloc (by simp; omega) _)

theorem looks_ns {w w5 : World} {rb wb B : Nat} {l : List In} {iv : Value} {ws : List Int} (h : NS w w5 w5 rb wb B l iv [] (.slice none 0 0) ws) (o1 o2 o3 : Obj) :
    NS w (((w5.alloc o1).alloc o2).alloc o3) (((w5.alloc o1).alloc o2).alloc o3) rb wb (w5.heap.size + 1 + 1 + 1) l iv [] (.slice none 0 0) ws :=
  (h.grow (((below_new w5 o1).alloc (by simp) o2).alloc (by simp; omega) o3)).rebase (by have := h.bas; omega) (by simp)

theorem NS.within {w0 wF w : World} {rb wb B : Nat} {l : List In} {iv : Value} {os : List Nat} {ov : Value} {ws : List Int} (h : NS w0 wF w rb wb B l iv os ov ws) : ∀ j, j < ws.length → w.cell? ⟨wb, j, none⟩ = some (.int .i64 (ws.getD j 0)) := by
  intro j hj
  refine (cells_of h.wth).1 j _ ?_
  simp [intVs, List.getD_eq_getElem?_getD, List.getElem?_eq_getElem hj]

theorem ways_low {k : Nat} {x : In} (hk : k ≤ 2000) (h : formErr x = 0) : (∀ t ∈ waysOf k x, 0 ≤ t ∧ t ≤ 1000000) ∧ (waysOf k x).length ≤ 2 := by
  obtain ⟨op, a, b⟩ := x
  unfold formErr at h
  dsimp only at h
  split at h
  · simp at h
  split at h
  · simp at h
  rename_i h1 h2
  unfold waysOf
  dsimp only
  split
  · rename_i e; subst e
    have l1 : lowA (Int.toNat 11) = 0 := by decide
    have l2 : highA (Int.toNat 11) ≤ 1000000 := by decide
    refine ⟨fun t ht => ?_, by simp⟩
    simp at ht; subst ht; omega
  split
  · rename_i e; subst e
    have l1 : lowA (Int.toNat 12) = 0 := by decide
    have l2 : highA (Int.toNat 12) ≤ 1000000 := by decide
    refine ⟨fun t ht => ?_, by simp⟩
    simp at ht; rcases ht with rfl | rfl <;> omega
  split
  · rename_i e; subst e
    have l2 : highB (Int.toNat 14) ≤ 1000000 := by decide
    refine ⟨fun t ht => ?_, by simp⟩
    simp at ht; rcases ht with rfl | rfl <;> omega
  · refine ⟨fun t ht => ?_, by simp⟩
    simp at ht; subst ht; omega

theorem putWays_low (bh : Int) (hb : 0 ≤ bh ∧ bh ≤ 20) (ts : List Int) : ∀ M : Int → Option Int, (∀ z h, M z = some h → 0 ≤ h ∧ h ≤ 20) → ∀ z h, (putWays bh ts M).2 z = some h → 0 ≤ h ∧ h ≤ 20 := by
  induction ts with
  | nil => intro M hM; exact hM
  | cons t r ih =>
    intro M hM
    rw [putWays]
    split
    · exact hM
    · refine ih _ fun z h hz => ?_
      unfold setH at hz
      split at hz
      · cases hz; exact hb
      · exact hM z h hz

theorem stack1_any (w : World) (fb mb N : Nat) (M : Int → Option Int) (k : Nat) (x : In) (hkk : KindsIn w) (hf : w.cell? ⟨fb, 0, none⟩ = some (.map (some mb))) (hM : HtAt w mb N M) (hk : k ≤ 2000) (hx : formErr x = 0) (hr : ∀ z h, M z = some h → 0 ≤ h ∧ h ≤ 20) (hN : N ≤ 100000) (hmb : mb < w.heap.size) :
    Calls Tryd.prog 106 #[.int .i64 k, x.val, .pointer (some ⟨fb, 0, none⟩)] w fun r w' => r = .returned (.int .i64 (stackStep M k x).1) ∧ (∀ B0, B0 ≤ mb → Below B0 w w') ∧ w.heap.size ≤ w'.heap.size ∧ (∀ j, j < w.heap.size → j ≠ mb → w'.heap[j]? = w.heap[j]?) ∧ HtAt w' mb (N + 2) (stackStep M k x).2 ∧ ∀ z h, (stackStep M k x).2 z = some h → 0 ≤ h ∧ h ≤ 20 := by
  obtain ⟨hlow, hlen⟩ := ways_low hk hx
  obtain ⟨op, a, b⟩ := x
  have hop : 1 ≤ op ∧ op ≤ 18 := by
    unfold formErr at hx
    dsimp only at hx
    split at hx
    · simp at hx
    · omega
  obtain ⟨m, rfl⟩ : ∃ m : Nat, op = m := ⟨op.toNat, by omega⟩
  show Calls Tryd.prog 106 #[.int .i64 k, .agg #[.int .i64 m, .int .i64 a, .int .i64 b], .pointer (some ⟨fb, 0, none⟩)] w _
  have htk := takes_le (m := m) (by omega)
  unfold stackStep
  dsimp only
  rw [Int.toNat_natCast]
  split
  · rename_i hh
    refine (stack1_none w fb mb N M k m a b hf hM hk hh).mono ?_
    rintro r w' ⟨rfl, hb⟩
    exact ⟨rfl, fun B0 h0 => hb.mono (by omega), hb.size, fun j hj _ => hb.block j hj, (hM.below hb).mono (by omega), hr⟩
  · rename_i h hh
    have hr1 := hr _ _ hh
    split
    · rename_i hbad
      refine (stack1_bad w fb mb N M k m a b hkk hf hM hk (by omega) (by omega) h hh hr1 hbad).mono ?_
      rintro r w' ⟨rfl, hb⟩
      exact ⟨rfl, fun B0 h0 => hb.mono (by omega), hb.size, fun j hj _ => hb.block j hj, (hM.below hb).mono (by omega), hr⟩
    · rename_i hgood
      rcases hp : putWays (h - takesOf m + putsOf m) (waysOf k ⟨m, a, b⟩) M with ⟨c, M'⟩
      have hpl := putWays_low (h - takesOf m + putsOf m) (by omega) (waysOf k ⟨m, a, b⟩) M hr
      rw [hp] at hpl
      refine (stack1_good w fb mb N M k m a b hkk hf hM hk (by omega) (by omega) h hh hr1 (by omega) (by omega) _ rfl _ rfl hlow hN hlen c M' hp).mono ?_
      rintro r w' ⟨rfl, hg, hM'⟩
      exact ⟨rfl, fun B0 h0 => (Below.refl B0 w).grown hg (by omega) (by intro j hj; cases hj; exact h0), hg.size, fun j hj hne => hg.block j hj (by intro e; cases e; exact hne rfl), hM', hpl⟩
end Go.Proofs.YtcmoehednkaehadDoor
