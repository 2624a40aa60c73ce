import Derived.Test.YtcejfmmcdagnoabDoorStA
import Derived.Test.YtcejfmmcdagnoabDoorInn
namespace Go.Proofs.YtcejfmmcdagnoabDoor
open Go.ChangeShapes Go.WideShapes Go.ChangeAt Go.RowKit

def natI (os : List Nat) : List Int := os.map fun (o : Nat) => (o : Int)

def regVs : List (Nat × Nat) → List Value
  | [] => []
  | r :: t => .int .i64 (r.1 : Int) :: .int .i64 (r.2 : Int) :: regVs t

theorem regVs_append (a b : List (Nat × Nat)) : regVs (a ++ b) = regVs a ++ regVs b := by
  induction a with
  | nil => rfl
  | cons r t ih => rw [List.cons_append, regVs, regVs, ih, List.cons_append, List.cons_append]

theorem regVs_at : ∀ (rs : List (Nat × Nat)) (j : Nat), j < rs.length → (regVs rs)[j * 2]? = some (.int .i64 ((rs.getD j (0, 0)).1 : Int)) ∧ (regVs rs)[j * 2 + 1]? = some (.int .i64 ((rs.getD j (0, 0)).2 : Int))
  | [], j, h => by simp at h
  | r :: t, 0, _ => ⟨rfl, rfl⟩
  | r :: t, j + 1, h => by
    have := regVs_at t j (by simpa using h)
    rw [regVs, show (j + 1) * 2 = j * 2 + 1 + 1 by omega, show j * 2 + 1 + 1 + 1 = (j * 2 + 1) + 1 + 1 by omega]
    simpa using this

theorem natI_length (os : List Nat) : (natI os).length = os.length := by simp [natI]
theorem natI_append (a b : List Nat) : natI (a ++ b) = natI a ++ natI b := by simp [natI]

theorem at_of_own {w : World} {B : Nat} {v : Value} {os : List Nat} (h : w.ownsRow B 3 1 v os.length (intVs (natI os))) : AtSl w os v := by
  rw [← natI_length] at h
  obtain ⟨ad, c, e, h2⟩ := ints_of_own h
  rw [natI_length] at e
  refine ⟨ad, c, e, ?_⟩
  rcases h2 with h2 | ⟨b, o, h2, h3⟩
  · exact .inl (by simpa [natI] using h2)
  · refine .inr ⟨b, o, h2, fun j hj => ?_⟩
    have := h3 j (by rw [natI_length]; exact hj)
    rw [this]
    simp [natI, List.getD, hj]

theorem reg_of_own {w : World} {B : Nat} {v : Value} {rs : List (Nat × Nat)} (h : w.ownsRow B 96 2 v rs.length (regVs rs)) : RegSl w rs v := by
  obtain ⟨ad, cap, rfl⟩ := owns_value h
  refine ⟨ad, cap, rfl, ?_⟩
  by_cases h0 : rs = []
  · exact .inl h0
  have h' := h
  obtain ⟨-, ⟨e, he⟩ | ⟨g, cap', cur, e, -, hg, -, -, -, ht⟩⟩ := h'
  · exact absurd (List.length_eq_zero_iff.1 he) h0
  cases e
  refine .inr ⟨g, 0, rfl, fun j hj => ?_⟩
  obtain ⟨h1, h2⟩ := regVs_at rs j hj
  rw [Nat.zero_add]
  exact ⟨(h.cellAt (j * 2) (by omega)).trans h1, (h.cellAt (j * 2 + 1) (by omega)).trans h2⟩

theorem ownsRow_keep {w w' : World} {B n size : Nat} {e : TypeId} {v : Value} {xs : List Value} (h : w.ownsRow B e size v n xs) (hs : ∀ k, v.ownBlock = some k → w'.heap[k]? = w.heap[k]?) : w'.ownsRow B e size v n xs := by
  obtain ⟨hl, h | ⟨g, cap, cur, he, hb, hg, hr⟩⟩ := h
  · exact ⟨hl, .inl h⟩
  · exact ⟨hl, .inr ⟨g, cap, cur, he, hb, (hs g (by rw [he]; rfl)).trans hg, hr⟩⟩

/-- What ReadImage holds while it looks at the regions. -/
structure RS (w wr : World) (mb : Nat) (iv : Value) (l : List In) (os : List Nat) (ov : Value) (rs : List (Nat × Nat)) (gv : Value) : Prop where
  bel : Below w.heap.size w wr
  lbk : wr.heap[w.heap.size]? = some (.cells #[iv] 48 (0, 0))
  res : wr.heap[w.heap.size + 1]? = some (.cells #[.int .i64 0, .int .i64 0] 31 (0, 0))
  img : wr.heap[mb]? = some (.cells #[iv, gv] 92 (0, 0))
  opn : wr.heap[mb + 1]? = some (.cells #[ov] 23 (0, 0))
  own : wr.ownsRow (mb + 2) 3 1 ov os.length (intVs (natI os))
  reg : wr.ownsRow (mb + 2) 96 2 gv rs.length (regVs rs)
  apt : ∀ k, ov.ownBlock = some k → gv.ownBlock ≠ some k
  low : ∀ o ∈ os, o < l.length
  ord : w.heap.size + 1 < mb
  bas : mb + 2 ≤ wr.heap.size

section
variable {w wr w' : World} {mb : Nat} {iv : Value} {l : List In} {os : List Nat} {ov : Value} {rs : List (Nat × Nat)} {gv : Value}

theorem RS.grow (h : RS w wr mb iv l os ov rs gv) (hb : Below wr.heap.size wr w') : RS w w' mb iv l os ov rs gv := by
  have old : ∀ (k : Nat) (o : Obj), wr.heap[k]? = some o → w'.heap[k]? = some o := fun k o hk => (hb.block k (Array.getElem?_eq_some_iff.1 hk).1).trans hk
  exact ⟨below_seq h.bel hb, old _ _ h.lbk, old _ _ h.res, old _ _ h.img, old _ _ h.opn, ownsRow_same h.own (fun k _ hk => hb.block k hk), ownsRow_same h.reg (fun k _ hk => hb.block k hk), h.apt, h.low, h.ord, Nat.le_trans h.bas hb.size⟩

theorem RS.push (h : RS w wr mb iv l os ov rs gv) {ov' : Value} {os' : List Nat} (hg : wr.grownBy w' ov.ownBlock) (ho : w'.ownsRow (mb + 2) 3 1 ov' os'.length (intVs (natI os'))) (hv : ov'.ownBlock = ov.ownBlock ∨ ∀ k, ov'.ownBlock = some k → wr.heap.size ≤ k) (hlow : ∀ o ∈ os', o < l.length) : RS w (w'.setCell ⟨mb + 1, 0, none⟩ ov') mb iv l os' ov' rs gv := by
  have o1 := h.ord
  have nb : ∀ k, k < mb + 2 → some k ≠ ov.ownBlock := fun k hk e => by have := (h.own.lt k e.symm).1; omega
  have old : ∀ (k : Nat) (o : Obj), k < mb + 2 → wr.heap[k]? = some o → w'.heap[k]? = some o := fun k o hk2 hk => (hg.block k (Array.getElem?_eq_some_iff.1 hk).1 (nb k hk2)).trans hk
  refine ⟨(h.bel.grown hg h.bel.size (fun k hk => by have := (h.own.lt k hk).1; omega)).setCell (by show w.heap.size ≤ mb + 1; omega) _, (Below.heap_setCell _ _ _ _ (by show w.heap.size ≠ mb + 1; omega)).trans (old _ _ (by omega) h.lbk), (Below.heap_setCell _ _ _ _ (by show w.heap.size + 1 ≠ mb + 1; omega)).trans (old _ _ (by omega) h.res), (Below.heap_setCell _ _ _ _ (by show mb ≠ mb + 1; omega)).trans (old _ _ (by omega) h.img), ?_, ownsRow_same ho (fun j hj _ => Below.heap_setCell _ _ _ _ (by show j ≠ mb + 1; omega)), ?_, ?_, hlow, h.ord, by have := h.bas; have := hg.size; simp; omega⟩
  · have := setCell_at (i := 0) (u := ov') (old _ _ (by omega) h.opn)
    simpa using this
  · refine ownsRow_keep h.reg fun k hk => ?_
    have hk2 := h.reg.lt k hk
    rw [Below.heap_setCell _ _ _ _ (by show k ≠ mb + 1; omega)]
    exact hg.block k hk2.2 (fun e => h.apt k e.symm hk)
  · intro k hk hk'
    rcases hv with hv | hv
    · rw [hv] at hk; exact h.apt k hk hk'
    · have h1 := hv k hk; have h2 := (h.reg.lt k hk').2; omega

theorem RS.pushR (h : RS w wr mb iv l os ov rs gv) {gv' : Value} {rs' : List (Nat × Nat)} (hg : wr.grownBy w' gv.ownBlock) (ho : w'.ownsRow (mb + 2) 96 2 gv' rs'.length (regVs rs')) (hv : gv'.ownBlock = gv.ownBlock ∨ ∀ k, gv'.ownBlock = some k → wr.heap.size ≤ k) : RS w (w'.setCell ⟨mb, 1, none⟩ gv') mb iv l os ov rs' gv' := by
  have o1 := h.ord
  have nb : ∀ k, k < mb + 2 → some k ≠ gv.ownBlock := fun k hk e => by have := (h.reg.lt k e.symm).1; omega
  have old : ∀ (k : Nat) (o : Obj), k < mb + 2 → wr.heap[k]? = some o → w'.heap[k]? = some o := fun k o hk2 hk => (hg.block k (Array.getElem?_eq_some_iff.1 hk).1 (nb k hk2)).trans hk
  refine ⟨(h.bel.grown hg h.bel.size (fun k hk => by have := (h.reg.lt k hk).1; omega)).setCell (by show w.heap.size ≤ mb; omega) _, (Below.heap_setCell _ _ _ _ (by show w.heap.size ≠ mb; omega)).trans (old _ _ (by omega) h.lbk), (Below.heap_setCell _ _ _ _ (by show w.heap.size + 1 ≠ mb; omega)).trans (old _ _ (by omega) h.res), ?_, (Below.heap_setCell _ _ _ _ (by show mb + 1 ≠ mb; omega)).trans (old _ _ (by omega) h.opn), ?_, ownsRow_same ho (fun j hj _ => Below.heap_setCell _ _ _ _ (by show j ≠ mb; omega)), ?_, h.low, h.ord, by have := h.bas; have := hg.size; simp; omega⟩
  · have := setCell_at (i := 1) (u := gv') (old _ _ (by omega) h.img)
    simpa using this
  · refine ownsRow_keep h.own fun k hk => ?_
    have hk2 := h.own.lt k hk
    rw [Below.heap_setCell _ _ _ _ (by show k ≠ mb; omega)]
    exact hg.block k hk2.2 (fun e => h.apt k hk e.symm)
  · intro k hk hk'
    rcases hv with hv | hv
    · rw [hv] at hk'; exact h.apt k hk hk'
    · have h1 := hv k hk'; have h2 := (h.own.lt k hk).2; omega

theorem own_shrink {B : Nat} {ad : Option Addr} {c : Nat} {n : Nat} (h : w.ownsRow B 3 1 (.slice ad (n + 1) c) os.length (intVs (natI os))) (hn : os.length = n + 1) : w.ownsRow B 3 1 (.slice ad n c) os.dropLast.length (intVs (natI os.dropLast)) := by
  have hd : os.dropLast.length = n := by simp [hn]
  obtain ⟨hl, ⟨e, he⟩ | ⟨g, cap, cur, e, hb, hg, hc, hm, hs, ht⟩⟩ := h
  · omega
  · simp only [Value.slice.injEq] at e
    obtain ⟨rfl, -, rfl⟩ := e
    refine ⟨by simp [intVs, natI], .inr ⟨g, c, cur, by rw [hd], hb, hg, by omega, hm, hs, ?_⟩⟩
    have e2 : intVs (natI os.dropLast) = (intVs (natI os)).take (os.dropLast.length * 1) := by
      rw [hd, Nat.mul_one]
      unfold intVs natI
      rw [← List.map_take, ← List.map_take, List.dropLast_eq_take, hn]
      rfl
    rw [e2, ← ht, List.take_take]
    congr 1
    omega

theorem RS.pop {ad : Option Addr} {n c : Nat} (h : RS w wr mb iv l os (.slice ad (n + 1) c) rs gv) (hn : os.length = n + 1) : RS w (wr.setCell ⟨mb + 1, 0, none⟩ (.slice ad n c)) mb iv l os.dropLast (.slice ad n c) rs gv :=
  h.push ⟨rfl, rfl, rfl, Nat.le_refl _, fun _ _ _ => rfl⟩ (own_shrink h.own hn) (.inl (by cases ad <;> rfl)) (fun o ho => h.low o (List.dropLast_subset _ ho))
end

theorem info96 : (Tryd.prog.info? 96).map (fun i => (i.zero, i.size, i.bytes)) = some (some (.agg #[.int .i64 0, .int .i64 0]), 2, 16) := by kernel_rfl

/-- An append of a number to a row of one's own, for the walk, all that it leaves. -/
theorem wp_push2 {w : World} {ops : Array Oper} {rest : List Oper} {o : Oper} {a : Act} {Q : Exit → Act → World → Prop} (hgd : o.guard = none) (s x : Operand)
    (ho : o.op = .call { callee := .builtin .append, args := #[s, x], argTypes := #[23, 23] }) (B : Nat) (v : Value) (ts : List Int) (t : Int) (g n : Nat) (hgg : w.heap.size = g) (hn : ts.length = n) (hs : a.eval s = v) (hx : a.eval x = .slice (some ⟨g, 0, none⟩) 1 1)
    (hown : w.ownsRow B 3 1 v n (intVs ts)) (hB : B ≤ w.heap.size) (hl : n ≤ 4000000)
    (h : ∀ ad c w', w'.ownsRow B 3 1 (.slice ad (n + 1) c) (n + 1) (intVs (ts ++ [t])) → (w.alloc (.cells #[.int .i64 t] 3)).grownBy w' v.ownBlock → ((Value.slice ad (n + 1) c).ownBlock = v.ownBlock ∨ ∀ k, (Value.slice ad (n + 1) c).ownBlock = some k → (w.alloc (.cells #[.int .i64 t] 3)).heap.size ≤ k) → wpList Tryd.prog ops Q rest (a.put o.dst (.slice ad (n + 1) c)) w') : wpList Tryd.prog ops Q (o :: rest) a (w.alloc (.cells #[.int .i64 t] 3)) := by
  subst hgg hn
  obtain ⟨i0, hi0, hz0, hz1, hz2⟩ := info_parts infoI
  have hown' : (w.alloc (.cells #[.int .i64 t] 3)).ownsRow B 3 1 v ts.length (intVs ts) := ownsRow_same hown (fun k _ hk => (below_new w _).block k hk)
  obtain ⟨v4, w4, hrun, ho4, hg4, hv4⟩ := append_two (P := Tryd.prog) (w.alloc (.cells #[.int .i64 t] 3)) B w.heap.size 23 o.type 3 i0 _ 1 8 Tryd.underlying23 hi0 hz0 hz1 hz2 rfl (by decide) v ts.length (intVs ts) hown' _ 1 [.int .i64 t] (World.ownsRow_lit w #[.int .i64 t] 1 (Nat.le_refl _) (by decide) rfl) (by intro u hu; simp at hu; subst hu; rfl) (by unfold maxLen; omega) (by omega) (by simp; omega)
  obtain ⟨vad, vcap, rfl⟩ := owns_value ho4
  refine append_known hgd s x 23 ho hs hx hrun ?_
  exact h vad vcap w4 (by simpa [intVs] using ho4) hg4 hv4

/-- An append of a region. -/
theorem wp_pushR {w : World} {ops : Array Oper} {rest : List Oper} {o : Oper} {a : Act} {Q : Exit → Act → World → Prop} (hgd : o.guard = none) (s x : Operand)
    (ho : o.op = .call { callee := .builtin .append, args := #[s, x], argTypes := #[90, 90] }) (B : Nat) (v : Value) (rs : List (Nat × Nat)) (p q : Nat) (g : Nat) (hgg : w.heap.size = g) (hs : a.eval s = v) (hx : a.eval x = .slice (some ⟨g, 0, none⟩) 1 1)
    (hown : w.ownsRow B 96 2 v rs.length (regVs rs)) (hB : B ≤ w.heap.size) (hl : rs.length ≤ 4000000)
    (h : ∀ ad c w', w'.ownsRow B 96 2 (.slice ad (rs.length + 1) c) (rs.length + 1) (regVs (rs ++ [(p, q)])) → (w.alloc (.cells #[.int .i64 (p : Int), .int .i64 (q : Int)] 96)).grownBy w' v.ownBlock → ((Value.slice ad (rs.length + 1) c).ownBlock = v.ownBlock ∨ ∀ k, (Value.slice ad (rs.length + 1) c).ownBlock = some k → (w.alloc (.cells #[.int .i64 (p : Int), .int .i64 (q : Int)] 96)).heap.size ≤ k) → wpList Tryd.prog ops Q rest (a.put o.dst (.slice ad (rs.length + 1) c)) w') : wpList Tryd.prog ops Q (o :: rest) a (w.alloc (.cells #[.int .i64 (p : Int), .int .i64 (q : Int)] 96)) := by
  subst hgg
  obtain ⟨i0, hi0, hz0, hz1, hz2⟩ := info_parts info96
  have hown' : (w.alloc (.cells #[.int .i64 (p : Int), .int .i64 (q : Int)] 96)).ownsRow B 96 2 v rs.length (regVs rs) := ownsRow_same hown (fun k _ hk => (below_new w _).block k hk)
  obtain ⟨v4, w4, hrun, ho4, hg4, hv4⟩ := append_two (P := Tryd.prog) (w.alloc (.cells #[.int .i64 (p : Int), .int .i64 (q : Int)] 96)) B w.heap.size 90 o.type 96 i0 _ 2 16 Tryd.underlying90 hi0 hz0 hz1 hz2 rfl (by decide) v rs.length (regVs rs) hown' _ 1 [.int .i64 (p : Int), .int .i64 (q : Int)] (World.ownsRow_lit w #[.int .i64 (p : Int), .int .i64 (q : Int)] 1 (Nat.le_refl _) (by decide) rfl) (by intro u hu; simp at hu; rcases hu with hu | hu <;> subst hu <;> rfl) (by unfold maxLen; omega) (by omega) (by simp; omega)
  obtain ⟨vad, vcap, rfl⟩ := owns_value ho4
  refine append_known hgd s x 90 ho hs hx hrun ?_
  exact h vad vcap w4 (by rw [regVs_append]; exact ho4) hg4 hv4

theorem info29 : (Tryd.prog.info? 29).map (fun i => (i.zero, i.size, i.bytes)) = some (some (.int .i64 0), 1, 8) := by kernel_rfl

theorem zero29 (w : World) : (zeroValue 29).run Tryd.prog w = .ok (.int .i64 0) w := by
  obtain ⟨i0, hi0, hz0, hz1, hz2⟩ := info_parts info29
  simp [zeroValue, typeInfo, hi0, hz0]

/-- A map of faults by kinds, made anew: what is looked up. -/
theorem er_map (w : World) (k1 k2 v1 v2 : Int) (h1 : 0 ≤ k1 ∧ k1 ≤ 100) (h2 : 0 ≤ k2 ∧ k2 ≤ 100) (h3 : 0 ≤ v1 ∧ v1 ≤ 100) (h4 : 0 ≤ v2 ∧ v2 ≤ 100) (hne : k1 ≠ k2) : ∃ w5 w6, (Instr.mapUpdate 94 (.map (some w.heap.size)) (.int .i64 k1) (.int .i64 v1)).run Tryd.prog (w.alloc (.map #[] 0)) = .ok () w5 ∧ (Instr.mapUpdate 94 (.map (some w.heap.size)) (.int .i64 k2) (.int .i64 v2)).run Tryd.prog w5 = .ok () w6 ∧ (Instr.lookup 94 (.map (some w.heap.size)) (.int .i64 k1) false).run Tryd.prog w6 = .ok (.int .i64 v1) w6 ∧ (Instr.lookup 94 (.map (some w.heap.size)) (.int .i64 k2) false).run Tryd.prog w6 = .ok (.int .i64 v2) w6 ∧ Below w.heap.size w w5 ∧ Below w.heap.size w w6 := by
  have ho : (w.alloc (.map #[] 0)).ownsMap Tryd.prog 3 (plainElem Tryd.prog 29) w.heap.size 0 (.map [] : DataW Unit) := World.ownsMap_made w _ _ _
  obtain ⟨w5, hr5, ho5, hg5⟩ := ho.update (t := 94) (e := 29) (Maps.int_keyed Tryd.underlying3) Tryd.underlying94 (by unfold maxLen; omega) (Maps.keyOf_int_mk Tryd.underlying3 (wf_int (z := k1) (by omega))) (plainElem_int Tryd.underlying29 (wf_int (z := v1) (by omega)))
  obtain ⟨w6, hr6, ho6, hg6⟩ := ho5.update (t := 94) (e := 29) (Maps.int_keyed Tryd.underlying3) Tryd.underlying94 (by unfold maxLen; omega) (Maps.keyOf_int_mk Tryd.underlying3 (wf_int (z := k2) (by omega))) (plainElem_int Tryd.underlying29 (wf_int (z := v2) (by omega)))
  have hn12 : (Lit.int .i64 k1) ≠ (Lit.int .i64 k2) := by simpa using hne
  obtain ⟨c1, hl1, ha1, -⟩ := ho6.lookup_int (t := 94) (e := 29) (Maps.int_keyed Tryd.underlying3) Tryd.underlying94 Tryd.underlying29 (zero29 w6) (Maps.keyOf_int_mk Tryd.underlying3 (wf_int (z := k1) (by omega)))
  obtain ⟨c2, hl2, ha2, -⟩ := ho6.lookup_int (t := 94) (e := 29) (Maps.int_keyed Tryd.underlying3) Tryd.underlying94 Tryd.underlying29 (zero29 w6) (Maps.keyOf_int_mk Tryd.underlying3 (wf_int (z := k2) (by omega)))
  rw [Maps.atKey_put_other hn12, Maps.atKey_put_same (k := .int .i64 k1) ho.isMap trivial] at ha1
  rw [Maps.atKey_put_same (k := .int .i64 k2) ho5.isMap trivial] at ha2
  simp only [DataW.lit.injEq, Lit.int.injEq, true_and] at ha1 ha2
  have b1 : Below w.heap.size w w5 := (below_new w _).grown hg5 (by simp) (by intro j hj; simp at hj; omega)
  exact ⟨w5, w6, hr5, hr6, by rw [hl1, ha1], by rw [hl2, ha2], b1, b1.grown hg6 b1.size (by intro j hj; simp at hj; omega)⟩

/-- The same of numbers. -/
theorem in_map (w : World) (k1 k2 v1 v2 : Int) (h1 : 0 ≤ k1 ∧ k1 ≤ 100) (h2 : 0 ≤ k2 ∧ k2 ≤ 100) (h3 : 0 ≤ v1 ∧ v1 ≤ 100) (h4 : 0 ≤ v2 ∧ v2 ≤ 100) (hne : k1 ≠ k2) : ∃ w5 w6, (Instr.mapUpdate 83 (.map (some w.heap.size)) (.int .i64 k1) (.int .i64 v1)).run Tryd.prog (w.alloc (.map #[] 0)) = .ok () w5 ∧ (Instr.mapUpdate 83 (.map (some w.heap.size)) (.int .i64 k2) (.int .i64 v2)).run Tryd.prog w5 = .ok () w6 ∧ (Instr.lookup 83 (.map (some w.heap.size)) (.int .i64 k1) false).run Tryd.prog w6 = .ok (.int .i64 v1) w6 ∧ (Instr.lookup 83 (.map (some w.heap.size)) (.int .i64 k2) false).run Tryd.prog w6 = .ok (.int .i64 v2) w6 ∧ Below w.heap.size w w5 ∧ Below w.heap.size w w6 := by
  obtain ⟨w5, hr5, ho5, hg5⟩ := (HtAt.made w).set (by omega) (z := k1) (v := v1) (by omega) (by omega)
  obtain ⟨w6, hr6, ho6, hg6⟩ := ho5.set (by omega) (z := k2) (v := v2) (by omega) (by omega)
  have b1 : Below w.heap.size w w5 := (below_new w _).grown hg5 (by simp) (by intro j hj; simp at hj; omega)
  refine ⟨w5, w6, hr5, hr6, ?_, ?_, b1, b1.grown hg6 b1.size (by intro j hj; simp at hj; omega)⟩
  · rw [ho6.look1 (by omega)]; unfold setH; rw [if_neg hne, if_pos rfl]; rfl
  · rw [ho6.look1 (by omega)]; unfold setH; rw [if_pos rfl]; rfl

theorem docNest_at (l0 : List In) {l : List In} {j : Nat} (h : j < l.length) (os : List Nat) (rs : List (Nat × Nat)) : docNest l0 (l.drop j) j os rs = if (docOf l0 j (l.getD j in0) os).1 ≠ 0 then .inl ((docOf l0 j (l.getD j in0) os).1, j) else docNest l0 (l.drop (j + 1)) (j + 1) (docOf l0 j (l.getD j in0) os).2 (if (l.getD j in0).op = 14 ∨ (l.getD j in0).op = 17 then rs ++ [(os.getLast?.getD 0, j)] else rs) := by
  rw [drop_at h, docNest]

theorem RI_ends {w : World} {g : Nat} {c k p : Value} {a : Act} (h : w.heap[g]? = some (.cells #[c, k] 31 (0, 0))) (h2 : a.tmps[2]?.getD undef = p) (h3 : a.tmps[3]?.getD undef = .pointer (some ⟨g, 0, none⟩)) :
    (results Tryd.f24 a.tmps).run Tryd.prog w = .ok (.tuple #[p, .agg #[c, k]]) w := by
  obtain ⟨c1, f1, l1⟩ := cells_of (l := [_, _]) h
  have c10 := c1 0 _ rfl
  have c11 := c1 1 _ rfl
  simp [results, Tryd.results24, go_sem, h2, h3, c10, c11]
end Go.Proofs.YtcejfmmcdagnoabDoor
