import Derived.Test.YtgemadoieielcacDoorGPure
import Derived.Test.YtgemadoieielcacDoorGChkW
namespace Go.Proofs.YtgemadoieielcacDoor
open Go.ChangeShapes Go.WideShapes Go.ChangeAt Go.RowKit

/-- A slice of positions. -/
def AtSl (w : World) (os : List Nat) (v : Value) : Prop := ∃ ad c, v = .slice ad os.length c ∧ (os = [] ∨ ∃ b o, ad = some ⟨b, o, none⟩ ∧ ∀ j, j < os.length → w.cell? ⟨b, o + j, none⟩ = some (.int .i64 ((os.getD j 0 : Nat) : Int)))

theorem AtSl.below {w w' : World} {os : List Nat} {v : Value} (h : AtSl w os v) (hb : Below w.heap.size w w') : AtSl w' os v := by
  obtain ⟨ad, c, h1, h2⟩ := h
  refine ⟨ad, c, h1, ?_⟩
  rcases h2 with h2 | ⟨b, o, h2, h3⟩
  · exact .inl h2
  · exact .inr ⟨b, o, h2, fun j hj => below_cell hb (h3 j hj)⟩

theorem among_yes {l : List In} {z : Nat} {r : List Nat} {op a : Int} (h : (l.getD z in0).op = op ∧ (l.getD z in0).a = a) : amongI l (z :: r) op a = true := by
  unfold amongI
  rw [List.any_cons, h.1, h.2]
  simp

theorem among_no {l : List In} {z : Nat} {r : List Nat} {op a : Int} (h : ¬ ((l.getD z in0).op = op ∧ (l.getD z in0).a = a)) : amongI l (z :: r) op a = amongI l r op a := by
  unfold amongI
  rw [List.any_cons]
  have e : (decide ((l.getD z in0).op = op) && decide ((l.getD z in0).a = a)) = false := by
    rw [← Bool.decide_and]; exact decide_eq_false h
  rw [e, Bool.false_or]

theorem below_seq' {w w1 : World} {n : Nat} (h : Below w.heap.size w w1) : Below w.heap.size w (w1.drewN n) := below_seq h below_drewN'

set_option maxRecDepth 20000 in
set_option maxHeartbeats 4000000 in
/-- among. -/
theorem among_any (w : World) (ob lb xb : Nat) (l : List In) (os : List Nat) (iv ov : Value) (op xo a xc : Int) (hob : w.cell? ⟨ob, 0, none⟩ = some ov) (hlb : w.cell? ⟨lb, 0, none⟩ = some iv) (hx0 : w.cell? ⟨xb, 0, none⟩ = some (.int .i64 xo)) (hx1 : w.cell? ⟨xb, 1, none⟩ = some (.int .i64 a)) (hx2 : w.cell? ⟨xb, 2, none⟩ = some (.int .i64 xc)) (hi : InSl w l iv) (ho : AtSl w os ov) (hlow : ∀ o ∈ os, o < l.length) (_hl : l.length ≤ 4194304) (hol : os.length ≤ 4194304) :
    Calls Tryd.prog 55 #[.int .i64 op, .pointer (some ⟨ob, 0, none⟩), .pointer (some ⟨lb, 0, none⟩), .pointer (some ⟨xb, 0, none⟩)] w fun r w' => r = .returned (.bool (amongI l os op a)) ∧ Below w.heap.size w w' := by
  obtain ⟨ad, c, rfl, hrow⟩ := ho
  obtain ⟨iad, ic, rfl, himg⟩ := hi
  have HI : Hid (_ ∧ _) := ⟨hrow, himg⟩
  have HC : Hid (_ ∧ _ ∧ _ ∧ _ ∧ _) := ⟨hob, hlb, hx0, hx1, hx2⟩
  have HL : Hid (∀ o ∈ os, o < l.length) := hlow
  clear hrow himg hlb hx0 hx1 hx2 hlow
  obtain ⟨res, hres⟩ : ∃ res, amongI l os op a = res := ⟨_, rfl⟩
  rw [hres]
  have HS : Hid (amongI l os op a = res) := hres
  clear hres
  go_enter Tryd.func55, Tryd.ntmps55
  go_wp2_with fail
  go_loopw [10] (fun i wr => ∃ j : Nat, j ≤ os.length ∧ i = .int .i64 j ∧ amongI l (os.drop j) op a = amongI l os op a ∧ Below w.heap.size w wr) (fun i _ => os.length - (intOf i).toNat)
  case atStart => exact ⟨0, Nat.zero_le _, rfl, rfl, Below.refl _ _⟩
  case round =>
    obtain ⟨j, hj, rfl, hop, hb⟩ := hrel
    by_cases hlt : j < os.length
    · rcases HI.out.1 with h | ⟨b, o, had, hrow⟩
      · rw [h] at hlt; simp at hlt
      subst had
      have hmem : os.getD j 0 ∈ os := by rw [List.getD_eq_getElem?_getD, List.getElem?_eq_getElem hlt]; exact List.getElem_mem hlt
      have hlow := HL.out _ hmem
      rcases HI.out.2 with h | ⟨b', o', had', himg⟩
      · rw [h] at hlow; simp at hlow
      subst had'
      have k := below_cell hb (hrow j hlt)
      have q0 := below_cell hb (himg _ hlow).1
      have q1 := below_cell hb (himg _ hlow).2.1
      have c1 := below_cell hb HC.out.2.1
      have x1 := below_cell hb HC.out.2.2.2.1
      have hdrop : os.drop j = os.getD j 0 :: os.drop (j + 1) := by
        rw [List.getD_eq_getElem?_getD, List.getElem?_eq_getElem hlt]
        exact List.drop_eq_getElem_cons hlt
      rw [hdrop] at hop
      generalize os.getD j 0 = z at *
      have HO : Hid (amongI l (z :: os.drop (j + 1)) op a = amongI l os op a ∧ Below w.heap.size w wr) := ⟨hop, hb⟩
      clear hop hb hrow himg hdrop hmem
      have HY : Hid (((l.getD z in0).op = op ∧ (l.getD z in0).a = a → res = true) ∧ (¬ ((l.getD z in0).op = op ∧ (l.getD z in0).a = a) → amongI l (os.drop (j + 1)) op a = amongI l os op a)) := ⟨fun h => by rw [← HS.out, ← HO.out.1, among_yes h], fun h => by rw [← HO.out.1, among_no h]⟩
      generalize l.getD z in0 = y at *
      obtain ⟨yo, ya, yb⟩ := y
      dsimp only at q0 q1
      by_cases e1 : yo = op
      · subst e1
        by_cases e2 : ya = a
        · subst e2
          have e := HY.out.1 ⟨rfl, rfl⟩
          subst e
          go_wp2_with fail
          go_quiet (fail)
          go_wp2_with fail
          go_ret
          exact ⟨rfl, below_seq' HO.out.2⟩
        · have f2 : (ya == a) = false := by simpa using e2
          go_wp2_with fail
          go_quiet (fail)
          go_wp2_with fail
          go_roundw
          case rel => exact ⟨j + 1, by omega, by go_num, HY.out.2 (fun h => e2 h.2), below_seq' HO.out.2⟩
          case measure => simp [intOf]; omega
      · have f1 : (yo == op) = false := by simpa using e1
        go_wp2_with fail
        go_quiet (fail)
        go_wp2_with fail
        go_roundw
        case rel => exact ⟨j + 1, by omega, by go_num, HY.out.2 (fun h => e1 h.1), below_seq' HO.out.2⟩
        case measure => simp [intOf]; omega
    · have hje : j = os.length := by omega
      subst hje
      have e : res = false := by rw [← HS.out, ← hop, List.drop_length]; rfl
      subst e
      go_wp2_with fail
      go_ret
      exact ⟨rfl, hb⟩
end Go.Proofs.YtgemadoieielcacDoor
namespace Go.Proofs.YtgemadoieielcacDoor
open Go.ChangeShapes Go.WideShapes Go.ChangeAt Go.RowKit

/-- What the look at the stack ends with. -/
def stackEnd (l : List In) : Int × Int :=
  match stackScan l 0 M0 with
  | .inl (c, k) => (c, (k : Int))
  | .inr M => if (M l.length).getD 0 ≠ 0 then (8, (l.length : Int)) else (0, 0)

theorem stackEnd_at {l : List In} {j : Nat} {M : Int → Option Int} (hlt : j < l.length) (hsc : stackScan (l.drop j) j M = stackScan l 0 M0) : ∀ z M', stackStep M j (l.getD j in0) = (z, M') → (z ≠ 0 → stackEnd l = (z, (j : Int))) ∧ (z = 0 → stackScan (l.drop (j + 1)) (j + 1) M' = stackScan l 0 M0) := by
  intro z M' hst
  rw [stackScan_at hlt, hst] at hsc
  constructor
  · intro hz
    rw [if_pos (by simpa using hz)] at hsc
    unfold stackEnd
    rw [← hsc]
  · intro hz
    rw [if_neg (by simpa using hz)] at hsc
    exact hsc

/-- What stackFault holds. -/
structure SF (w wr : World) (mb tb : Nat) : Prop where
  bel : Below w.heap.size w wr
  res : wr.heap[w.heap.size]? = some (.cells #[.int .i64 0, .int .i64 0] 30 (0, 0))
  tak : wr.heap[tb]? = some (.cells #[.int .i64 0, .int .i64 0, .int .i64 0, .int .i64 1, .int .i64 2, .int .i64 2, .int .i64 2, .int .i64 2, .int .i64 2, .int .i64 0, .int .i64 1, .int .i64 0, .int .i64 1, .int .i64 0, .int .i64 0, .int .i64 0, .int .i64 0, .int .i64 0, .int .i64 0] 3 (0, 0))
  giv : wr.heap[tb + 1]? = some (.cells #[.int .i64 0, .int .i64 1, .int .i64 1, .int .i64 0, .int .i64 1, .int .i64 1, .int .i64 1, .int .i64 1, .int .i64 1, .int .i64 1, .int .i64 0, .int .i64 0, .int .i64 0, .int .i64 0, .int .i64 0, .int .i64 0, .int .i64 0, .int .i64 0, .int .i64 0] 3 (0, 0))
  ord : w.heap.size < mb ∧ mb < tb

theorem SF.grow {w wr w' : World} {mb tb : Nat} (h : SF w wr mb tb) (hb : Below wr.heap.size wr w') : SF w w' mb tb :=
  ⟨below_seq h.bel hb, (hb.block _ (Array.getElem?_eq_some_iff.1 h.res).1).trans h.res, (hb.block _ (Array.getElem?_eq_some_iff.1 h.tak).1).trans h.tak, (hb.block _ (Array.getElem?_eq_some_iff.1 h.giv).1).trans h.giv, h.ord⟩

theorem SF.grown {w wr w' : World} {mb tb : Nat} (h : SF w wr mb tb) (hg : wr.grownBy w' (some mb)) : SF w w' mb tb :=
  ⟨h.bel.grown hg h.bel.size (by intro k hk; cases hk; have := h.ord; omega), (hg.block _ (Array.getElem?_eq_some_iff.1 h.res).1 (by have := h.ord; simp; omega)).trans h.res, (hg.block _ (Array.getElem?_eq_some_iff.1 h.tak).1 (by have := h.ord; simp; omega)).trans h.tak, (hg.block _ (Array.getElem?_eq_some_iff.1 h.giv).1 (by have := h.ord; simp; omega)).trans h.giv, h.ord⟩

theorem takes_at {m : Nat} (h : m ≤ 18) : (#[.int .i64 0, .int .i64 0, .int .i64 0, .int .i64 1, .int .i64 2, .int .i64 2, .int .i64 2, .int .i64 2, .int .i64 2, .int .i64 0, .int .i64 1, .int .i64 0, .int .i64 1, .int .i64 0, .int .i64 0, .int .i64 0, .int .i64 0, .int .i64 0, .int .i64 0] : Array Value)[m]? = some (.int .i64 (takesOf m)) := by
  have : m = 0 ∨ m = 1 ∨ m = 2 ∨ m = 3 ∨ m = 4 ∨ m = 5 ∨ m = 6 ∨ m = 7 ∨ m = 8 ∨ m = 9 ∨ m = 10 ∨ m = 11 ∨ m = 12 ∨ m = 13 ∨ m = 14 ∨ m = 15 ∨ m = 16 ∨ m = 17 ∨ m = 18 := by omega
  rcases this with rfl | rfl | rfl | rfl | rfl | rfl | rfl | rfl | rfl | rfl | rfl | rfl | rfl | rfl | rfl | rfl | rfl | rfl | rfl <;> rfl

theorem gives_at {m : Nat} (h : m ≤ 18) : (#[.int .i64 0, .int .i64 1, .int .i64 1, .int .i64 0, .int .i64 1, .int .i64 1, .int .i64 1, .int .i64 1, .int .i64 1, .int .i64 1, .int .i64 0, .int .i64 0, .int .i64 0, .int .i64 0, .int .i64 0, .int .i64 0, .int .i64 0, .int .i64 0, .int .i64 0] : Array Value)[m]? = some (.int .i64 (putsOf m)) := by
  have : m = 0 ∨ m = 1 ∨ m = 2 ∨ m = 3 ∨ m = 4 ∨ m = 5 ∨ m = 6 ∨ m = 7 ∨ m = 8 ∨ m = 9 ∨ m = 10 ∨ m = 11 ∨ m = 12 ∨ m = 13 ∨ m = 14 ∨ m = 15 ∨ m = 16 ∨ m = 17 ∨ m = 18 := by omega
  rcases this with rfl | rfl | rfl | rfl | rfl | rfl | rfl | rfl | rfl | rfl | rfl | rfl | rfl | rfl | rfl | rfl | rfl | rfl | rfl <;> rfl

theorem SF.takes {w wr : World} {mb tb : Nat} (h : SF w wr mb tb) {m : Nat} (hm : m ≤ 18) : wr.cell? ⟨tb, m, none⟩ = some (.int .i64 (takesOf m)) := by
  unfold World.cell?; rw [h.tak]; exact takes_at hm

theorem SF.gives {w wr : World} {mb tb : Nat} (h : SF w wr mb tb) {m : Nat} (hm : m ≤ 18) : wr.cell? ⟨tb + 1, m, none⟩ = some (.int .i64 (putsOf m)) := by
  unfold World.cell?; rw [h.giv]; exact gives_at hm

theorem StF_ends {w : World} {g : Nat} {c k : Value} {a : Act} (h : w.heap[g]? = some (.cells #[c, k] 30 (0, 0))) (h2 : a.tmps[2]?.getD undef = .pointer (some ⟨g, 0, none⟩)) :
    (results Tryd.f57 a.tmps).run Tryd.prog w = .ok (.agg #[c, k]) w := by
  obtain ⟨c1, f1, l1⟩ := cells_of (l := [_, _]) h
  have c10 := c1 0 _ rfl
  have c11 := c1 1 _ rfl
  simp [results, Tryd.results57, go_sem, h2, c10, c11]

theorem sf_start (w : World) : ∃ w1, (Instr.mapUpdate 105 (.map (some (w.heap.size + 1))) (.int .i64 0) (.int .i64 0)).run Tryd.prog ((w.alloc (.cells #[.int .i64 0, .int .i64 0] 30)).alloc (.map #[] 0)) = .ok () w1 ∧ w.heap.size + 2 ≤ w1.heap.size ∧ Hid (SF w ((w1.alloc (.cells #[.int .i64 0, .int .i64 0, .int .i64 0, .int .i64 1, .int .i64 2, .int .i64 2, .int .i64 2, .int .i64 2, .int .i64 2, .int .i64 0, .int .i64 1, .int .i64 0, .int .i64 1, .int .i64 0, .int .i64 0, .int .i64 0, .int .i64 0, .int .i64 0, .int .i64 0] 3)).alloc (.cells #[.int .i64 0, .int .i64 1, .int .i64 1, .int .i64 0, .int .i64 1, .int .i64 1, .int .i64 1, .int .i64 1, .int .i64 1, .int .i64 1, .int .i64 0, .int .i64 0, .int .i64 0, .int .i64 0, .int .i64 0, .int .i64 0, .int .i64 0, .int .i64 0, .int .i64 0] 3)) (w.heap.size + 1) w1.heap.size ∧ HtAt ((w1.alloc (.cells #[.int .i64 0, .int .i64 0, .int .i64 0, .int .i64 1, .int .i64 2, .int .i64 2, .int .i64 2, .int .i64 2, .int .i64 2, .int .i64 0, .int .i64 1, .int .i64 0, .int .i64 1, .int .i64 0, .int .i64 0, .int .i64 0, .int .i64 0, .int .i64 0, .int .i64 0] 3)).alloc (.cells #[.int .i64 0, .int .i64 1, .int .i64 1, .int .i64 0, .int .i64 1, .int .i64 1, .int .i64 1, .int .i64 1, .int .i64 1, .int .i64 1, .int .i64 0, .int .i64 0, .int .i64 0, .int .i64 0, .int .i64 0, .int .i64 0, .int .i64 0, .int .i64 0, .int .i64 0] 3)) (w.heap.size + 1) 1 M0) := by
  obtain ⟨w1, hrun, hset, hg⟩ := (HtAt.made (w.alloc (.cells #[.int .i64 0, .int .i64 0] 30))).set (by omega) (z := 0) (v := 0) (by omega) (by omega)
  rw [show (w.alloc (.cells #[.int .i64 0, .int .i64 0] 30)).heap.size = w.heap.size + 1 by simp] at hrun hset hg
  have hs := hg.size
  simp at hs
  have b0 : w1.heap[w.heap.size]? = some (Obj.cells #[.int .i64 0, .int .i64 0] 30 (0, 0)) := by
    rw [hg.block _ (by first | (simp; done) | (simp; omega)) (by first | (simp; done) | (simp; omega)), Below.heap_alloc _ _ _ (by simp)]
    exact heap_alloc_new _ _
  have hb : Below w.heap.size w w1 := ((below_new w _).alloc (by simp) _).grown hg (by simp; omega) (by intro j hj; simp at hj; omega)
  refine ⟨w1, hrun, by omega, ⟨⟨(hb.alloc (by omega) _).alloc (by simp; omega) _, ?_, ?_, ?_, by omega, by omega⟩, hset.below ((below_new w1 _).alloc (by simp) _)⟩⟩
  · rw [Below.heap_alloc _ _ _ (by simp; omega), Below.heap_alloc _ _ _ (by omega)]; exact b0
  · rw [Below.heap_alloc _ _ _ (by simp)]; exact heap_alloc_new _ _
  · have := heap_alloc_new (w1.alloc (.cells #[.int .i64 0, .int .i64 0, .int .i64 0, .int .i64 1, .int .i64 2, .int .i64 2, .int .i64 2, .int .i64 2, .int .i64 2, .int .i64 0, .int .i64 1, .int .i64 0, .int .i64 1, .int .i64 0, .int .i64 0, .int .i64 0, .int .i64 0, .int .i64 0, .int .i64 0] 3)) (.cells #[.int .i64 0, .int .i64 1, .int .i64 1, .int .i64 0, .int .i64 1, .int .i64 1, .int .i64 1, .int .i64 1, .int .i64 1, .int .i64 1, .int .i64 0, .int .i64 0, .int .i64 0, .int .i64 0, .int .i64 0, .int .i64 0, .int .i64 0, .int .i64 0, .int .i64 0] 3)
    simpa using this

theorem ints_of_own {w : World} {B : Nat} {v : Value} {ts : List Int} (h : w.ownsRow B 3 1 v ts.length (intVs ts)) : IntSl w ts v := by
  obtain ⟨ad, cap, rfl⟩ := owns_value h
  refine ⟨ad, cap, rfl, ?_⟩
  by_cases h0 : ts = []
  · exact .inl h0
  obtain ⟨-, ⟨e, he⟩ | ⟨g, cap', cur, e, -, hg, -, -, -, ht⟩⟩ := h
  · exact absurd (List.length_eq_zero_iff.1 he) h0
  cases e
  refine .inr ⟨g, 0, rfl, fun j hj => ?_⟩
  have h1 : (intVs ts)[j]? = some (.int .i64 (ts.getD j 0)) := by simp [intVs, List.getD, hj]
  rw [← ht, List.getElem?_take, if_pos (by omega)] at h1
  unfold World.cell?
  rw [hg]
  simpa using h1

theorem row_of_own {w : World} {B n c : Nat} {ad : Option Addr} {ts : List Int} (h : w.ownsRow B 3 1 (.slice ad n c) n (intVs ts)) (hn : n = ts.length) (h0 : 0 < n) : ∃ b o, ad = some ⟨b, o, none⟩ ∧ ∀ p, p < ts.length → w.cell? ⟨b, o + p, none⟩ = some (.int .i64 (ts.getD p 0)) := by
  subst hn
  obtain ⟨ad', c', e, h1 | ⟨b, o, h1, h2⟩⟩ := ints_of_own h
  · rw [h1] at h0; simp at h0
  · cases e; exact ⟨b, o, h1, h2⟩

/-- An append of one number to a row of one's own, for the walk. -/
theorem wp_push {w : World} {ops : Array Oper} {rest : List Oper} {o : Oper} {a : Act} {Q : Exit → Act → World → Prop} (hgd : o.guard = none) (s x : Operand)
    (ho : o.op = .call { callee := .builtin .append, args := #[s, x], argTypes := #[23, 23] }) (B : Nat) (v : Value) (ts : List Int) (t : Int) (g : Nat) (hgg : w.heap.size = g) (hs : a.eval s = v) (hx : a.eval x = .slice (some ⟨g, 0, none⟩) 1 1)
    (hown : w.ownsRow B 3 1 v ts.length (intVs ts)) (hB : B ≤ w.heap.size) (hl : ts.length ≤ 4000000)
    (h : ∀ ad c w', w'.ownsRow B 3 1 (.slice ad (ts.length + 1) c) (ts.length + 1) (intVs (ts ++ [t])) → Below B w w' → wpList Tryd.prog ops Q rest (a.put o.dst (.slice ad (ts.length + 1) c)) w') : wpList Tryd.prog ops Q (o :: rest) a (w.alloc (.cells #[.int .i64 t] 3)) := by
  subst hgg
  obtain ⟨i0, hi0, hz0, hz1, hz2⟩ := info_parts infoI
  have hown' : (w.alloc (.cells #[.int .i64 t] 3)).ownsRow B 3 1 v ts.length (intVs ts) := ownsRow_same hown (fun k _ hk => (below_new w _).block k hk)
  obtain ⟨v4, w4, hrun, ho4, hg4, -⟩ := append_two (P := Tryd.prog) (w.alloc (.cells #[.int .i64 t] 3)) B w.heap.size 23 o.type 3 i0 _ 1 8 Tryd.underlying23 hi0 hz0 hz1 hz2 rfl (by decide) v ts.length (intVs ts) hown' _ 1 [.int .i64 t] (World.ownsRow_lit w #[.int .i64 t] 1 (Nat.le_refl _) (by decide) rfl) (by intro u hu; simp at hu; subst hu; rfl) (by unfold maxLen; omega) (by omega) (by simp; omega)
  obtain ⟨vad, vcap, rfl⟩ := owns_value ho4
  refine append_known hgd s x 23 ho hs hx hrun ?_
  refine h vad vcap w4 (by simpa [intVs] using ho4) ?_
  refine (((Below.refl B w).alloc hB _).grown hg4 (by simp; omega) (fun k hk => (hown.lt k hk).1))

end Go.Proofs.YtgemadoieielcacDoor
namespace Go.Proofs.YtgemadoieielcacDoor
open Go.ChangeShapes Go.WideShapes Go.ChangeAt Go.RowKit

/-- A slice of regions. -/
def RegSl (w : World) (rs : List (Nat × Nat)) (v : Value) : Prop := ∃ ad c, v = .slice ad rs.length c ∧ (rs = [] ∨ ∃ b o, ad = some ⟨b, o, none⟩ ∧ ∀ j, j < rs.length → w.cell? ⟨b, o + j * 2, none⟩ = some (.int .i64 ((rs.getD j (0, 0)).1 : Int)) ∧ w.cell? ⟨b, o + j * 2 + 1, none⟩ = some (.int .i64 ((rs.getD j (0, 0)).2 : Int)))

theorem RegSl.below {w w' : World} {rs : List (Nat × Nat)} {v : Value} (h : RegSl w rs v) (hb : Below w.heap.size w w') : RegSl w' rs v := by
  obtain ⟨ad, c, h1, h2⟩ := h
  refine ⟨ad, c, h1, ?_⟩
  rcases h2 with h2 | ⟨b, o, h2, h3⟩
  · exact .inl h2
  · exact .inr ⟨b, o, h2, fun j hj => ⟨below_cell hb (h3 j hj).1, below_cell hb (h3 j hj).2⟩⟩

def regVal (q : Option (Nat × Nat)) : Value := .agg #[.int .i64 ((q.getD (0, 0)).1 : Int), .int .i64 ((q.getD (0, 0)).2 : Int)]

/-- What inner holds. -/
structure InnW (w wr : World) (best : Option (Nat × Nat)) : Prop where
  bel : Below w.heap.size w wr
  res : wr.heap[w.heap.size]? = some (.cells #[.int .i64 0, .int .i64 0] 107 (0, 0))
  bst : wr.heap[w.heap.size + 1]? = some (.cells #[.int .i64 ((best.getD (0, 0)).1 : Int), .int .i64 ((best.getD (0, 0)).2 : Int)] 107 (0, 0))

theorem InnW.start (w : World) : InnW w ((w.alloc (.cells #[.int .i64 0, .int .i64 0] 107)).alloc (.cells #[.int .i64 0, .int .i64 0] 107)) none := by
  refine ⟨(below_new _ _).alloc (by simp) _, ?_, ?_⟩
  · rw [Below.heap_alloc _ _ _ (by simp)]; exact heap_alloc_new _ _
  · have := heap_alloc_new (w.alloc (.cells #[.int .i64 0, .int .i64 0] 107)) (.cells #[.int .i64 0, .int .i64 0] 107)
    simpa using this

theorem InnW.grow {w wr w' : World} {best : Option (Nat × Nat)} (h : InnW w wr best) (hb : Below wr.heap.size wr w') : InnW w w' best :=
  ⟨below_seq h.bel hb, (hb.block _ (Array.getElem?_eq_some_iff.1 h.res).1).trans h.res, (hb.block _ (Array.getElem?_eq_some_iff.1 h.bst).1).trans h.bst⟩

theorem InnW.take {w wr : World} {best : Option (Nat × Nat)} (h : InnW w wr best) (z1 z2 : Nat) (o : Obj) : InnW w (((wr.setCell ⟨w.heap.size + 1, 0, none⟩ (.int .i64 (z1 : Int))).setCell ⟨w.heap.size + 1, 1, none⟩ (.int .i64 (z2 : Int))).alloc o) (some (z1, z2)) := by
  refine InnW.grow ⟨(h.bel.setCell (by show w.heap.size ≤ w.heap.size + 1; omega) _).setCell (by show w.heap.size ≤ w.heap.size + 1; omega) _, ?_, ?_⟩ (below_new _ _)
  · rw [Below.heap_setCell _ _ _ _ (by show w.heap.size ≠ w.heap.size + 1; omega), Below.heap_setCell _ _ _ _ (by show w.heap.size ≠ w.heap.size + 1; omega)]
    exact h.res
  · have := setCell_at (i := 1) (u := .int .i64 (z2 : Int)) (setCell_at (i := 0) (u := .int .i64 (z1 : Int)) h.bst)
    simpa using this

theorem Inner_ends {w : World} {g : Nat} {c k f : Value} {a : Act} (h : w.heap[g]? = some (.cells #[c, k] 107 (0, 0))) (h4 : a.tmps[4]?.getD undef = .pointer (some ⟨g, 0, none⟩)) (h5 : a.tmps[5]?.getD undef = f) :
    (results Tryd.f56 a.tmps).run Tryd.prog w = .ok (.tuple #[.agg #[c, k], f]) w := by
  obtain ⟨c1, f1, l1⟩ := cells_of (l := [_, _]) h
  have c10 := c1 0 _ rfl
  have c11 := c1 1 _ rfl
  simp [results, Tryd.results56, go_sem, h4, h5, c10, c11]

set_option maxRecDepth 20000 in
set_option maxHeartbeats 4000000 in
/-- inner. -/
theorem inner_any (w : World) (mb : Nat) (rs : List (Nat × Nat)) (lv rv : Value) (i : Nat) (_hm0 : w.cell? ⟨mb, 0, none⟩ = some lv) (hm1 : w.cell? ⟨mb, 1, none⟩ = some rv) (hr : RegSl w rs rv) (hrl : rs.length ≤ 4194304) (_hi : i ≤ 4194304) :
    Calls Tryd.prog 56 #[.pointer (some ⟨mb, 0, none⟩), .int .i64 i] w fun r w' => r = .returned (.tuple #[regVal (innerOf rs i), .bool (innerOf rs i).isSome]) ∧ Below w.heap.size w w' := by
  obtain ⟨ad, c, rfl, hrow⟩ := hr
  have HI : Hid _ := hrow
  have lm : mb < w.heap.size := World.block_lt_of_cell? w _ hm1
  clear hrow
  go_enter Tryd.func56, Tryd.ntmps56
  go_wp2_with fail
  go_loopw [7, 16] (fun f n wr => ∃ (j : Nat) (best : Option (Nat × Nat)), j ≤ rs.length ∧ f = .bool best.isSome ∧ n = .int .i64 j ∧ (rs.drop j).foldl (better i) best = innerOf rs i ∧ InnW w wr best) (fun _ n _ => rs.length - (intOf n).toNat)
  case atStart => exact ⟨0, none, Nat.zero_le _, rfl, rfl, rfl, InnW.start w⟩
  case round =>
    obtain ⟨j, best, hj, rfl, rfl, hfo, hw⟩ := hrel
    obtain ⟨bs, bf, bl⟩ := cells_of (l := [_, _]) hw.bst
    have b0 := bs 0 _ rfl
    have b1 := bs 1 _ rfl
    have bf0 := bf 0
    have bf1 := bf 1
    clear bs bf
    by_cases hlt : j < rs.length
    · rcases HI.out with h | ⟨b, o, had, hrow⟩
      · rw [h] at hlt; simp at hlt
      subst had
      have q0 := below_cell hw.bel (hrow j hlt).1
      have q1 := below_cell hw.bel (hrow j hlt).2
      have hdrop : rs.drop j = rs.getD j (0, 0) :: rs.drop (j + 1) := by
        rw [List.getD_eq_getElem?_getD, List.getElem?_eq_getElem hlt]
        exact List.drop_eq_getElem_cons hlt
      rw [hdrop, List.foldl_cons] at hfo
      have HW : Hid (_ ∧ _) := ⟨hfo, hw⟩
      clear hfo hw hrow hdrop
      generalize rs.getD j (0, 0) = z at *
      obtain ⟨z1, z2⟩ := z
      dsimp only at q0 q1
      by_cases e1 : z1 < i
      · have f1 : decide ((z1 : Int) < (i : Int)) = true := by simp; omega
        have f1' : decide (z1 < i) = true := by simp; omega
        by_cases e2 : i ≤ z2
        · have f2 : decide ((i : Int) ≤ (z2 : Int)) = true := by simp; omega
          have f2' : decide (i ≤ z2) = true := by simp; omega
          by_cases e3 : best = none ∨ (best.getD (0, 0)).1 < z1
          · have hbt : better i best (z1, z2) = some (z1, z2) := by unfold better; rw [if_pos ⟨e1, e2, e3⟩]
            rw [hbt] at HW
            have hres := HW.out.2.take z1 z2 (.cells #[.int .i64 (z1 : Int), .int .i64 (z2 : Int)] 107)
            rcases best with _ | ⟨p1, p2⟩
            · simp only [Option.isSome_none, Option.getD_none] at b0 b1 ⊢
              go_wp2_with fail
              go_roundw
              case rel => exact ⟨j + 1, some (z1, z2), by omega, rfl, by go_num, HW.out.1, hres⟩
              case measure => simp [intOf]; omega
            · have e3' : p1 < z1 := by simpa using e3
              have f3 : decide ((p1 : Int) < (z1 : Int)) = true := by simp; omega
              have f3' : decide (p1 < z1) = true := by simp; omega
              simp only [Option.isSome_some, Option.getD_some] at b0 b1 ⊢
              go_wp2_with fail
              go_roundw
              case rel => exact ⟨j + 1, some (z1, z2), by omega, rfl, by go_num, HW.out.1, hres⟩
              case measure => simp [intOf]; omega
          · have hbt : better i best (z1, z2) = best := by unfold better; rw [if_neg (fun h => e3 h.2.2)]
            rw [hbt] at HW
            rcases best with _ | ⟨p1, p2⟩
            · exact absurd (.inl rfl) e3
            · have e3' : ¬ p1 < z1 := by simpa using e3
              have f3 : decide ((p1 : Int) < (z1 : Int)) = false := by simp; omega
              have f3' : decide (p1 < z1) = false := by simp; omega
              simp only [Option.isSome_some, Option.getD_some] at b0 b1 ⊢
              go_wp2_with fail
              go_roundw
              case rel => exact ⟨j + 1, some (p1, p2), by omega, rfl, by go_num, HW.out.1, HW.out.2.grow (below_new _ _)⟩
              case measure => simp [intOf]; omega
        · have f2 : decide ((i : Int) ≤ (z2 : Int)) = false := by simp; omega
          have f2' : decide (i ≤ z2) = false := by simp; omega
          have hbt : better i best (z1, z2) = best := by unfold better; rw [if_neg (fun h => e2 h.2.1)]
          rw [hbt] at HW
          go_wp2_with fail
          go_roundw
          case rel => exact ⟨j + 1, best, by omega, rfl, by go_num, HW.out.1, HW.out.2.grow (below_new _ _)⟩
          case measure => simp [intOf]; omega
      · have f1 : decide ((z1 : Int) < (i : Int)) = false := by simp; omega
        have f1' : decide (z1 < i) = false := by simp; omega
        have hbt : better i best (z1, z2) = best := by unfold better; rw [if_neg (fun h => e1 h.1)]
        rw [hbt] at HW
        go_wp2_with fail
        go_roundw
        case rel => exact ⟨j + 1, best, by omega, rfl, by go_num, HW.out.1, HW.out.2.grow (below_new _ _)⟩
        case measure => simp [intOf]; omega
    · have hje : j = rs.length := by omega
      subst hje
      rw [List.drop_length, List.foldl_nil] at hfo
      obtain ⟨rs', rf, rl⟩ := cells_of (l := [_, _]) hw.res
      have r0 := rs' 0 _ rfl
      have r1 := rs' 1 _ rfl
      have rf0 := rf 0
      have rf1 := rf 1
      clear rs' rf
      have HF : Hid (best = innerOf rs i) := hfo
      have HW : Hid _ := hw
      clear hw hfo
      go_wp2_with fail
      exact bodyPost_ret (v := .tuple #[regVal best, .bool best.isSome]) (Inner_ends (by simpa using setCell_at (i := 1) (u := .int .i64 ((best.getD (0, 0)).2 : Int)) (setCell_at (i := 0) (u := .int .i64 ((best.getD (0, 0)).1 : Int)) HW.out.res)) rfl rfl) rfl ⟨by rw [HF.out], (HW.out.bel.setCell (Nat.le_refl _) _).setCell (Nat.le_refl _) _⟩
end Go.Proofs.YtgemadoieielcacDoor
namespace Go.Proofs.YtgemadoieielcacDoor
open Go.ChangeShapes Go.WideShapes Go.ChangeAt Go.RowKit

def natI (os : List Nat) : List Int := os.map fun (o : Nat) => (o : Int)

def regVs : List (Nat × Nat) → List Value
  | [] => []
  | r :: t => .int .i64 (r.1 : Int) :: .int .i64 (r.2 : Int) :: regVs t

theorem regVs_append (a b : List (Nat × Nat)) : regVs (a ++ b) = regVs a ++ regVs b := by
  induction a with
  | nil => rfl
  | cons r t ih => rw [List.cons_append, regVs, regVs, ih, List.cons_append, List.cons_append]

theorem regVs_at : ∀ (rs : List (Nat × Nat)) (j : Nat), j < rs.length → (regVs rs)[j * 2]? = some (.int .i64 ((rs.getD j (0, 0)).1 : Int)) ∧ (regVs rs)[j * 2 + 1]? = some (.int .i64 ((rs.getD j (0, 0)).2 : Int))
  | [], j, h => by simp at h
  | r :: t, 0, _ => ⟨rfl, rfl⟩
  | r :: t, j + 1, h => by
    have := regVs_at t j (by simpa using h)
    rw [regVs, show (j + 1) * 2 = j * 2 + 1 + 1 by omega, show j * 2 + 1 + 1 + 1 = (j * 2 + 1) + 1 + 1 by omega]
    simpa using this

theorem natI_length (os : List Nat) : (natI os).length = os.length := by simp [natI]
theorem natI_append (a b : List Nat) : natI (a ++ b) = natI a ++ natI b := by simp [natI]

theorem at_of_own {w : World} {B : Nat} {v : Value} {os : List Nat} (h : w.ownsRow B 3 1 v os.length (intVs (natI os))) : AtSl w os v := by
  rw [← natI_length] at h
  obtain ⟨ad, c, e, h2⟩ := ints_of_own h
  rw [natI_length] at e
  refine ⟨ad, c, e, ?_⟩
  rcases h2 with h2 | ⟨b, o, h2, h3⟩
  · exact .inl (by simpa [natI] using h2)
  · refine .inr ⟨b, o, h2, fun j hj => ?_⟩
    have := h3 j (by rw [natI_length]; exact hj)
    rw [this]
    simp [natI, List.getD, hj]

theorem reg_of_own {w : World} {B : Nat} {v : Value} {rs : List (Nat × Nat)} (h : w.ownsRow B 107 2 v rs.length (regVs rs)) : RegSl w rs v := by
  obtain ⟨ad, cap, rfl⟩ := owns_value h
  refine ⟨ad, cap, rfl, ?_⟩
  by_cases h0 : rs = []
  · exact .inl h0
  have h' := h
  obtain ⟨-, ⟨e, he⟩ | ⟨g, cap', cur, e, -, hg, -, -, -, ht⟩⟩ := h'
  · exact absurd (List.length_eq_zero_iff.1 he) h0
  cases e
  refine .inr ⟨g, 0, rfl, fun j hj => ?_⟩
  obtain ⟨h1, h2⟩ := regVs_at rs j hj
  rw [Nat.zero_add]
  exact ⟨(h.cellAt (j * 2) (by omega)).trans h1, (h.cellAt (j * 2 + 1) (by omega)).trans h2⟩

theorem ownsRow_keep {w w' : World} {B n size : Nat} {e : TypeId} {v : Value} {xs : List Value} (h : w.ownsRow B e size v n xs) (hs : ∀ k, v.ownBlock = some k → w'.heap[k]? = w.heap[k]?) : w'.ownsRow B e size v n xs := by
  obtain ⟨hl, h | ⟨g, cap, cur, he, hb, hg, hr⟩⟩ := h
  · exact ⟨hl, .inl h⟩
  · exact ⟨hl, .inr ⟨g, cap, cur, he, hb, (hs g (by rw [he]; rfl)).trans hg, hr⟩⟩

/-- What ReadImage holds while it looks at the regions. -/
structure RS (w wr : World) (mb : Nat) (iv : Value) (l : List In) (os : List Nat) (ov : Value) (rs : List (Nat × Nat)) (gv : Value) : Prop where
  bel : Below w.heap.size w wr
  lbk : wr.heap[w.heap.size]? = some (.cells #[iv] 22 (0, 0))
  res : wr.heap[w.heap.size + 1]? = some (.cells #[.int .i64 0, .int .i64 0] 30 (0, 0))
  img : wr.heap[mb]? = some (.cells #[iv, gv] 102 (0, 0))
  opn : wr.heap[mb + 1]? = some (.cells #[ov] 23 (0, 0))
  own : wr.ownsRow (mb + 2) 3 1 ov os.length (intVs (natI os))
  reg : wr.ownsRow (mb + 2) 107 2 gv rs.length (regVs rs)
  apt : ∀ k, ov.ownBlock = some k → gv.ownBlock ≠ some k
  low : ∀ o ∈ os, o < l.length
  ord : w.heap.size + 1 < mb
  bas : mb + 2 ≤ wr.heap.size

section
variable {w wr w' : World} {mb : Nat} {iv : Value} {l : List In} {os : List Nat} {ov : Value} {rs : List (Nat × Nat)} {gv : Value}

theorem RS.grow (h : RS w wr mb iv l os ov rs gv) (hb : Below wr.heap.size wr w') : RS w w' mb iv l os ov rs gv := by
  have old : ∀ (k : Nat) (o : Obj), wr.heap[k]? = some o → w'.heap[k]? = some o := fun k o hk => (hb.block k (Array.getElem?_eq_some_iff.1 hk).1).trans hk
  exact ⟨below_seq h.bel hb, old _ _ h.lbk, old _ _ h.res, old _ _ h.img, old _ _ h.opn, ownsRow_same h.own (fun k _ hk => hb.block k hk), ownsRow_same h.reg (fun k _ hk => hb.block k hk), h.apt, h.low, h.ord, Nat.le_trans h.bas hb.size⟩

theorem RS.push (h : RS w wr mb iv l os ov rs gv) {ov' : Value} {os' : List Nat} (hg : wr.grownBy w' ov.ownBlock) (ho : w'.ownsRow (mb + 2) 3 1 ov' os'.length (intVs (natI os'))) (hv : ov'.ownBlock = ov.ownBlock ∨ ∀ k, ov'.ownBlock = some k → wr.heap.size ≤ k) (hlow : ∀ o ∈ os', o < l.length) : RS w (w'.setCell ⟨mb + 1, 0, none⟩ ov') mb iv l os' ov' rs gv := by
  have o1 := h.ord
  have nb : ∀ k, k < mb + 2 → some k ≠ ov.ownBlock := fun k hk e => by have := (h.own.lt k e.symm).1; omega
  have old : ∀ (k : Nat) (o : Obj), k < mb + 2 → wr.heap[k]? = some o → w'.heap[k]? = some o := fun k o hk2 hk => (hg.block k (Array.getElem?_eq_some_iff.1 hk).1 (nb k hk2)).trans hk
  refine ⟨(h.bel.grown hg h.bel.size (fun k hk => by have := (h.own.lt k hk).1; omega)).setCell (by show w.heap.size ≤ mb + 1; omega) _, (Below.heap_setCell _ _ _ _ (by show w.heap.size ≠ mb + 1; omega)).trans (old _ _ (by omega) h.lbk), (Below.heap_setCell _ _ _ _ (by show w.heap.size + 1 ≠ mb + 1; omega)).trans (old _ _ (by omega) h.res), (Below.heap_setCell _ _ _ _ (by show mb ≠ mb + 1; omega)).trans (old _ _ (by omega) h.img), ?_, ownsRow_same ho (fun j hj _ => Below.heap_setCell _ _ _ _ (by show j ≠ mb + 1; omega)), ?_, ?_, hlow, h.ord, by have := h.bas; have := hg.size; simp; omega⟩
  · have := setCell_at (i := 0) (u := ov') (old _ _ (by omega) h.opn)
    simpa using this
  · refine ownsRow_keep h.reg fun k hk => ?_
    have hk2 := h.reg.lt k hk
    rw [Below.heap_setCell _ _ _ _ (by show k ≠ mb + 1; omega)]
    exact hg.block k hk2.2 (fun e => h.apt k e.symm hk)
  · intro k hk hk'
    rcases hv with hv | hv
    · rw [hv] at hk; exact h.apt k hk hk'
    · have h1 := hv k hk; have h2 := (h.reg.lt k hk').2; omega

theorem RS.pushR (h : RS w wr mb iv l os ov rs gv) {gv' : Value} {rs' : List (Nat × Nat)} (hg : wr.grownBy w' gv.ownBlock) (ho : w'.ownsRow (mb + 2) 107 2 gv' rs'.length (regVs rs')) (hv : gv'.ownBlock = gv.ownBlock ∨ ∀ k, gv'.ownBlock = some k → wr.heap.size ≤ k) : RS w (w'.setCell ⟨mb, 1, none⟩ gv') mb iv l os ov rs' gv' := by
  have o1 := h.ord
  have nb : ∀ k, k < mb + 2 → some k ≠ gv.ownBlock := fun k hk e => by have := (h.reg.lt k e.symm).1; omega
  have old : ∀ (k : Nat) (o : Obj), k < mb + 2 → wr.heap[k]? = some o → w'.heap[k]? = some o := fun k o hk2 hk => (hg.block k (Array.getElem?_eq_some_iff.1 hk).1 (nb k hk2)).trans hk
  refine ⟨(h.bel.grown hg h.bel.size (fun k hk => by have := (h.reg.lt k hk).1; omega)).setCell (by show w.heap.size ≤ mb; omega) _, (Below.heap_setCell _ _ _ _ (by show w.heap.size ≠ mb; omega)).trans (old _ _ (by omega) h.lbk), (Below.heap_setCell _ _ _ _ (by show w.heap.size + 1 ≠ mb; omega)).trans (old _ _ (by omega) h.res), ?_, (Below.heap_setCell _ _ _ _ (by show mb + 1 ≠ mb; omega)).trans (old _ _ (by omega) h.opn), ?_, ownsRow_same ho (fun j hj _ => Below.heap_setCell _ _ _ _ (by show j ≠ mb; omega)), ?_, h.low, h.ord, by have := h.bas; have := hg.size; simp; omega⟩
  · have := setCell_at (i := 1) (u := gv') (old _ _ (by omega) h.img)
    simpa using this
  · refine ownsRow_keep h.own fun k hk => ?_
    have hk2 := h.own.lt k hk
    rw [Below.heap_setCell _ _ _ _ (by show k ≠ mb; omega)]
    exact hg.block k hk2.2 (fun e => h.apt k hk e.symm)
  · intro k hk hk'
    rcases hv with hv | hv
    · rw [hv] at hk'; exact h.apt k hk hk'
    · have h1 := hv k hk'; have h2 := (h.own.lt k hk).2; omega

theorem own_shrinkR {B : Nat} {ad : Option Addr} {c : Nat} {n : Nat} (h : w.ownsRow B 3 1 (.slice ad (n + 1) c) os.length (intVs (natI os))) (hn : os.length = n + 1) : w.ownsRow B 3 1 (.slice ad n c) os.dropLast.length (intVs (natI os.dropLast)) := by
  have hd : os.dropLast.length = n := by simp [hn]
  obtain ⟨hl, ⟨e, he⟩ | ⟨g, cap, cur, e, hb, hg, hc, hm, hs, ht⟩⟩ := h
  · omega
  · simp only [Value.slice.injEq] at e
    obtain ⟨rfl, -, rfl⟩ := e
    refine ⟨by simp [intVs, natI], .inr ⟨g, c, cur, by rw [hd], hb, hg, by omega, hm, hs, ?_⟩⟩
    have e2 : intVs (natI os.dropLast) = (intVs (natI os)).take (os.dropLast.length * 1) := by
      rw [hd, Nat.mul_one]
      unfold intVs natI
      rw [← List.map_take, ← List.map_take, List.dropLast_eq_take, hn]
      rfl
    rw [e2, ← ht, List.take_take]
    congr 1
    omega

theorem RS.pop {ad : Option Addr} {n c : Nat} (h : RS w wr mb iv l os (.slice ad (n + 1) c) rs gv) (hn : os.length = n + 1) : RS w (wr.setCell ⟨mb + 1, 0, none⟩ (.slice ad n c)) mb iv l os.dropLast (.slice ad n c) rs gv :=
  h.push ⟨rfl, rfl, rfl, Nat.le_refl _, fun _ _ _ => rfl⟩ (own_shrinkR h.own hn) (.inl (by cases ad <;> rfl)) (fun o ho => h.low o (List.dropLast_subset _ ho))
end

theorem info96 : (Tryd.prog.info? 107).map (fun i => (i.zero, i.size, i.bytes)) = some (some (.agg #[.int .i64 0, .int .i64 0]), 2, 16) := by kernel_rfl

/-- An append of a number to a row of one's own, for the walk, all that it leaves. -/
theorem wp_push2 {w : World} {ops : Array Oper} {rest : List Oper} {o : Oper} {a : Act} {Q : Exit → Act → World → Prop} (hgd : o.guard = none) (s x : Operand)
    (ho : o.op = .call { callee := .builtin .append, args := #[s, x], argTypes := #[23, 23] }) (B : Nat) (v : Value) (ts : List Int) (t : Int) (g n : Nat) (hgg : w.heap.size = g) (hn : ts.length = n) (hs : a.eval s = v) (hx : a.eval x = .slice (some ⟨g, 0, none⟩) 1 1)
    (hown : w.ownsRow B 3 1 v n (intVs ts)) (hB : B ≤ w.heap.size) (hl : n ≤ 4000000)
    (h : ∀ ad c w', w'.ownsRow B 3 1 (.slice ad (n + 1) c) (n + 1) (intVs (ts ++ [t])) → (w.alloc (.cells #[.int .i64 t] 3)).grownBy w' v.ownBlock → ((Value.slice ad (n + 1) c).ownBlock = v.ownBlock ∨ ∀ k, (Value.slice ad (n + 1) c).ownBlock = some k → (w.alloc (.cells #[.int .i64 t] 3)).heap.size ≤ k) → wpList Tryd.prog ops Q rest (a.put o.dst (.slice ad (n + 1) c)) w') : wpList Tryd.prog ops Q (o :: rest) a (w.alloc (.cells #[.int .i64 t] 3)) := by
  subst hgg hn
  obtain ⟨i0, hi0, hz0, hz1, hz2⟩ := info_parts infoI
  have hown' : (w.alloc (.cells #[.int .i64 t] 3)).ownsRow B 3 1 v ts.length (intVs ts) := ownsRow_same hown (fun k _ hk => (below_new w _).block k hk)
  obtain ⟨v4, w4, hrun, ho4, hg4, hv4⟩ := append_two (P := Tryd.prog) (w.alloc (.cells #[.int .i64 t] 3)) B w.heap.size 23 o.type 3 i0 _ 1 8 Tryd.underlying23 hi0 hz0 hz1 hz2 rfl (by decide) v ts.length (intVs ts) hown' _ 1 [.int .i64 t] (World.ownsRow_lit w #[.int .i64 t] 1 (Nat.le_refl _) (by decide) rfl) (by intro u hu; simp at hu; subst hu; rfl) (by unfold maxLen; omega) (by omega) (by simp; omega)
  obtain ⟨vad, vcap, rfl⟩ := owns_value ho4
  refine append_known hgd s x 23 ho hs hx hrun ?_
  exact h vad vcap w4 (by simpa [intVs] using ho4) hg4 hv4

/-- An append of a region. -/
theorem wp_pushR {w : World} {ops : Array Oper} {rest : List Oper} {o : Oper} {a : Act} {Q : Exit → Act → World → Prop} (hgd : o.guard = none) (s x : Operand)
    (ho : o.op = .call { callee := .builtin .append, args := #[s, x], argTypes := #[100, 100] }) (B : Nat) (v : Value) (rs : List (Nat × Nat)) (p q : Nat) (g : Nat) (hgg : w.heap.size = g) (hs : a.eval s = v) (hx : a.eval x = .slice (some ⟨g, 0, none⟩) 1 1)
    (hown : w.ownsRow B 107 2 v rs.length (regVs rs)) (hB : B ≤ w.heap.size) (hl : rs.length ≤ 4000000)
    (h : ∀ ad c w', w'.ownsRow B 107 2 (.slice ad (rs.length + 1) c) (rs.length + 1) (regVs (rs ++ [(p, q)])) → (w.alloc (.cells #[.int .i64 (p : Int), .int .i64 (q : Int)] 107)).grownBy w' v.ownBlock → ((Value.slice ad (rs.length + 1) c).ownBlock = v.ownBlock ∨ ∀ k, (Value.slice ad (rs.length + 1) c).ownBlock = some k → (w.alloc (.cells #[.int .i64 (p : Int), .int .i64 (q : Int)] 107)).heap.size ≤ k) → wpList Tryd.prog ops Q rest (a.put o.dst (.slice ad (rs.length + 1) c)) w') : wpList Tryd.prog ops Q (o :: rest) a (w.alloc (.cells #[.int .i64 (p : Int), .int .i64 (q : Int)] 107)) := by
  subst hgg
  obtain ⟨i0, hi0, hz0, hz1, hz2⟩ := info_parts info96
  have hown' : (w.alloc (.cells #[.int .i64 (p : Int), .int .i64 (q : Int)] 107)).ownsRow B 107 2 v rs.length (regVs rs) := ownsRow_same hown (fun k _ hk => (below_new w _).block k hk)
  obtain ⟨v4, w4, hrun, ho4, hg4, hv4⟩ := append_two (P := Tryd.prog) (w.alloc (.cells #[.int .i64 (p : Int), .int .i64 (q : Int)] 107)) B w.heap.size 100 o.type 107 i0 _ 2 16 Tryd.underlying100 hi0 hz0 hz1 hz2 rfl (by decide) v rs.length (regVs rs) hown' _ 1 [.int .i64 (p : Int), .int .i64 (q : Int)] (World.ownsRow_lit w #[.int .i64 (p : Int), .int .i64 (q : Int)] 1 (Nat.le_refl _) (by decide) rfl) (by intro u hu; simp at hu; rcases hu with hu | hu <;> subst hu <;> rfl) (by unfold maxLen; omega) (by omega) (by simp; omega)
  obtain ⟨vad, vcap, rfl⟩ := owns_value ho4
  refine append_known hgd s x 100 ho hs hx hrun ?_
  exact h vad vcap w4 (by rw [regVs_append]; exact ho4) hg4 hv4

theorem info29 : (Tryd.prog.info? 28).map (fun i => (i.zero, i.size, i.bytes)) = some (some (.int .i64 0), 1, 8) := by kernel_rfl

theorem zero29 (w : World) : (zeroValue 28).run Tryd.prog w = .ok (.int .i64 0) w := by
  obtain ⟨i0, hi0, hz0, hz1, hz2⟩ := info_parts info29
  simp [zeroValue, typeInfo, hi0, hz0]

/-- A map of faults by kinds, made anew: what is looked up. -/
theorem er_map (w : World) (k1 k2 v1 v2 : Int) (h1 : 0 ≤ k1 ∧ k1 ≤ 100) (h2 : 0 ≤ k2 ∧ k2 ≤ 100) (h3 : 0 ≤ v1 ∧ v1 ≤ 100) (h4 : 0 ≤ v2 ∧ v2 ≤ 100) (hne : k1 ≠ k2) : ∃ w5 w6, (Instr.mapUpdate 104 (.map (some w.heap.size)) (.int .i64 k1) (.int .i64 v1)).run Tryd.prog (w.alloc (.map #[] 0)) = .ok () w5 ∧ (Instr.mapUpdate 104 (.map (some w.heap.size)) (.int .i64 k2) (.int .i64 v2)).run Tryd.prog w5 = .ok () w6 ∧ (Instr.lookup 104 (.map (some w.heap.size)) (.int .i64 k1) false).run Tryd.prog w6 = .ok (.int .i64 v1) w6 ∧ (Instr.lookup 104 (.map (some w.heap.size)) (.int .i64 k2) false).run Tryd.prog w6 = .ok (.int .i64 v2) w6 ∧ Below w.heap.size w w5 ∧ Below w.heap.size w w6 := by
  have ho : (w.alloc (.map #[] 0)).ownsMap Tryd.prog 3 (plainElem Tryd.prog 28) w.heap.size 0 (.map [] : DataW Unit) := World.ownsMap_made w _ _ _
  obtain ⟨w5, hr5, ho5, hg5⟩ := ho.update (t := 104) (e := 28) (Maps.int_keyed Tryd.underlying3) Tryd.underlying104 (by unfold maxLen; omega) (Maps.keyOf_int_mk Tryd.underlying3 (wf_int (z := k1) (by omega))) (plainElem_int Tryd.underlying28 (wf_int (z := v1) (by omega)))
  obtain ⟨w6, hr6, ho6, hg6⟩ := ho5.update (t := 104) (e := 28) (Maps.int_keyed Tryd.underlying3) Tryd.underlying104 (by unfold maxLen; omega) (Maps.keyOf_int_mk Tryd.underlying3 (wf_int (z := k2) (by omega))) (plainElem_int Tryd.underlying28 (wf_int (z := v2) (by omega)))
  have hn12 : (Lit.int .i64 k1) ≠ (Lit.int .i64 k2) := by simpa using hne
  obtain ⟨c1, hl1, ha1, -⟩ := ho6.lookup_int (t := 104) (e := 28) (Maps.int_keyed Tryd.underlying3) Tryd.underlying104 Tryd.underlying28 (zero29 w6) (Maps.keyOf_int_mk Tryd.underlying3 (wf_int (z := k1) (by omega)))
  obtain ⟨c2, hl2, ha2, -⟩ := ho6.lookup_int (t := 104) (e := 28) (Maps.int_keyed Tryd.underlying3) Tryd.underlying104 Tryd.underlying28 (zero29 w6) (Maps.keyOf_int_mk Tryd.underlying3 (wf_int (z := k2) (by omega)))
  rw [Maps.atKey_put_other hn12, Maps.atKey_put_same (k := .int .i64 k1) ho.isMap trivial] at ha1
  rw [Maps.atKey_put_same (k := .int .i64 k2) ho5.isMap trivial] at ha2
  simp only [DataW.lit.injEq, Lit.int.injEq, true_and] at ha1 ha2
  have b1 : Below w.heap.size w w5 := (below_new w _).grown hg5 (by simp) (by intro j hj; simp at hj; omega)
  exact ⟨w5, w6, hr5, hr6, by rw [hl1, ha1], by rw [hl2, ha2], b1, b1.grown hg6 b1.size (by intro j hj; simp at hj; omega)⟩

/-- The same of numbers. -/
theorem in_map (w : World) (k1 k2 v1 v2 : Int) (h1 : 0 ≤ k1 ∧ k1 ≤ 100) (h2 : 0 ≤ k2 ∧ k2 ≤ 100) (h3 : 0 ≤ v1 ∧ v1 ≤ 100) (h4 : 0 ≤ v2 ∧ v2 ≤ 100) (hne : k1 ≠ k2) : ∃ w5 w6, (Instr.mapUpdate 105 (.map (some w.heap.size)) (.int .i64 k1) (.int .i64 v1)).run Tryd.prog (w.alloc (.map #[] 0)) = .ok () w5 ∧ (Instr.mapUpdate 105 (.map (some w.heap.size)) (.int .i64 k2) (.int .i64 v2)).run Tryd.prog w5 = .ok () w6 ∧ (Instr.lookup 105 (.map (some w.heap.size)) (.int .i64 k1) false).run Tryd.prog w6 = .ok (.int .i64 v1) w6 ∧ (Instr.lookup 105 (.map (some w.heap.size)) (.int .i64 k2) false).run Tryd.prog w6 = .ok (.int .i64 v2) w6 ∧ Below w.heap.size w w5 ∧ Below w.heap.size w w6 := by
  obtain ⟨w5, hr5, ho5, hg5⟩ := (HtAt.made w).set (by omega) (z := k1) (v := v1) (by omega) (by omega)
  obtain ⟨w6, hr6, ho6, hg6⟩ := ho5.set (by omega) (z := k2) (v := v2) (by omega) (by omega)
  have b1 : Below w.heap.size w w5 := (below_new w _).grown hg5 (by simp) (by intro j hj; simp at hj; omega)
  refine ⟨w5, w6, hr5, hr6, ?_, ?_, b1, b1.grown hg6 b1.size (by intro j hj; simp at hj; omega)⟩
  · rw [ho6.look1 (by omega)]; unfold setH; rw [if_neg hne, if_pos rfl]; rfl
  · rw [ho6.look1 (by omega)]; unfold setH; rw [if_pos rfl]; rfl

theorem docNest_at (l0 : List In) {l : List In} {j : Nat} (h : j < l.length) (os : List Nat) (rs : List (Nat × Nat)) : docNest l0 (l.drop j) j os rs = if (docOf l0 j (l.getD j in0) os).1 ≠ 0 then .inl ((docOf l0 j (l.getD j in0) os).1, j) else docNest l0 (l.drop (j + 1)) (j + 1) (docOf l0 j (l.getD j in0) os).2 (if (l.getD j in0).op = 14 ∨ (l.getD j in0).op = 17 then rs ++ [(os.getLast?.getD 0, j)] else rs) := by
  rw [drop_at h, docNest]

theorem RI_ends {w : World} {g : Nat} {c k p : Value} {a : Act} (h : w.heap[g]? = some (.cells #[c, k] 30 (0, 0))) (h2 : a.tmps[2]?.getD undef = p) (h3 : a.tmps[3]?.getD undef = .pointer (some ⟨g, 0, none⟩)) :
    (results Tryd.f24 a.tmps).run Tryd.prog w = .ok (.tuple #[p, .agg #[c, k]]) w := by
  obtain ⟨c1, f1, l1⟩ := cells_of (l := [_, _]) h
  have c10 := c1 0 _ rfl
  have c11 := c1 1 _ rfl
  simp [results, Tryd.results24, go_sem, h2, h3, c10, c11]
end Go.Proofs.YtgemadoieielcacDoor
