import Derived.Test.YtccoobcggbbciaiGreatDoorFX
import Derived.OwnWalk
import Derived.Test.YtccoobcggbbciaiGreatDoorTK
import Derived.Maps.AppendAt
import Derived.BigQuiet
import Derived.Deep.CutRange
namespace Go.Proofs.YtccoobcggbbciaiGreatDoor
open Go.ChangeShapes Go.WideShapes Go.ChangeAt Go.RowKit

theorem info3' : (Tryz.prog.info? 3).map (fun i => (i.zero, i.size, i.bytes)) = some (some (.int .i64 0), 1, 8) := by kernel_rfl

def zerosV (n : Nat) : List Value := (List.replicate n 0).map (fun z : Int => Value.int .i64 z)

theorem made_zeros (n : Nat) : madeCells (Value.int .i64 0).cells n = (zerosV n).toArray := by
  unfold madeCells zerosV
  apply Array.ext
  · simp
  · intro i h1 h2
    simp [Value.cells, Nat.mod_one]

theorem make_zeros (n : Nat) (hn : n ≤ 4194304) (W : World) : (Instr.makeSlice 24 (.int .i64 (n : Int)) (.int .i64 (n : Int))).run Tryz.prog W = .ok (.slice (some ⟨W.heap.size, 0, none⟩) n n) (W.alloc (.cells (zerosV n).toArray 3)) := by
  obtain ⟨i0, hi0, hz0, hz1, hz2⟩ := info_parts info3'
  have h := run_make (P := Tryz.prog) W 24 3 i0 _ Tryz.underlying24 hi0 hz0 .i64 .i64 (n : Int) (n : Int) (by omega) (by omega) (by rw [hz2]; omega) (by omega)
  rw [hz1, Nat.mul_one, Int.toNat_natCast, made_zeros] at h
  exact h

/-- When each task may come next. -/
def soonVs (l : List Ta) (past : List Co) : List Value := (List.range l.length).map (fun k : Nat => Value.int .i64 (soonOf l past (k : Int)))

theorem soonVs_nil (l : List Ta) : soonVs l [] = zerosV l.length := by
  unfold soonVs zerosV
  apply List.ext_getElem
  · simp
  · intro i h1 h2
    simp [soonOf, lastOf]

theorem soonVs_at {l : List Ta} {past : List Co} {k : Nat} (h : k < l.length) : (soonVs l past)[k]? = some (.int .i64 (soonOf l past (k : Int))) := by
  unfold soonVs
  simp [h]

theorem soonVs_set {l : List Ta} {past : List Co} {c : Co} {k : Nat} (hk : c.k = (k : Int)) : (soonVs l past).set k (.int .i64 (c.a + (l.getD k ta0).t)) = soonVs l (c :: past) := by
  apply List.ext_getElem
  · simp [soonVs]
  · intro i h1 h2
    simp only [soonVs, List.getElem_set, List.getElem_map, List.getElem_range, soonOf_cons, hk]
    by_cases e : k = i
    · subst e; simp
    · rw [if_neg e, if_neg (by omega)]

/-- What Legal holds while it goes. -/
structure LG (w wr : World) (M : Nat) (l : List Ta) (past : List Co) : Prop where
  fb : FB w wr w.heap.size
  row : wr.heap[M]? = some (.cells (soonVs l past).toArray 3 (0, 0))
  low : w.heap.size < M

theorem LG.grow {w wr wr' : World} {M : Nat} {l : List Ta} {past : List Co} (h : LG w wr M l past) (hb : Below wr.heap.size wr wr') : LG w wr' M l past :=
  ⟨h.fb.grow hb, (hb.block M (Array.getElem?_eq_some_iff.1 h.row).1).trans h.row, h.low⟩

theorem LG.set {w wr : World} {M : Nat} {l : List Ta} {past : List Co} {c : Co} {k : Nat} (h : LG w wr M l past) (hc : c.k = (k : Int)) : LG w (wr.setCell ⟨M, k, none⟩ (.int .i64 (c.a + (l.getD k ta0).t))) M l (c :: past) := by
  refine ⟨⟨h.fb.bel.setCell (by have := h.low; show _ ≤ M; omega) _, ?_, h.fb.low⟩, ?_, h.low⟩
  · rw [Below.heap_setCell _ _ _ _ (by have := h.low; show _ ≠ M; omega)]
    exact h.fb.res
  · rw [setCell_at h.row]
    congr 2
    rw [← soonVs_set hc]
    simp

theorem set_alloc2 {w9 : World} {g : Nat} {a b x y : Value} {o : Obj} (h : w9.heap[g]? = some (.cells #[x, y] 30 (0, 0))) : (((w9.setCell ⟨g, 0, none⟩ a).setCell ⟨g, 1, none⟩ b).alloc o).heap[g]? = some (.cells #[a, b] 30 (0, 0)) := by
  have h2 := set_two (a := a) (b := b) h
  rw [Below.heap_alloc _ _ _ (Array.getElem?_eq_some_iff.1 h2).1]
  exact h2

theorem legOne_4 {l : List Ta} {past : List Co} {c : Co} (h : within c.k 0 ((l.length : Int) - 1) = false) : legOne l past c = 4 := by
  unfold legOne; rw [if_pos]
  simp [within] at h
  omega

theorem legOne_3 {l : List Ta} {past : List Co} {c : Co} (h : within c.k 0 ((l.length : Int) - 1) = true) (h2 : within c.a 0 20000 = false) : legOne l past c = 3 := by
  simp [within] at h h2
  unfold legOne; rw [if_neg (by omega), if_pos (by omega)]

theorem legOne_12 {l : List Ta} {past : List Co} {c : Co} (h : within c.k 0 ((l.length : Int) - 1) = true) (h2 : within c.a 0 20000 = true) (h3 : c.a < nowOf past ∨ c.a < soonOf l past c.k) : legOne l past c = 12 := by
  simp [within] at h h2
  unfold legOne; rw [if_neg (by omega), if_neg (by omega), if_pos h3]

theorem legOne_0 {l : List Ta} {past : List Co} {c : Co} (h : within c.k 0 ((l.length : Int) - 1) = true) (h2 : within c.a 0 20000 = true) (h3 : ¬ (c.a < nowOf past ∨ c.a < soonOf l past c.k)) : legOne l past c = 0 := by
  simp [within] at h h2
  unfold legOne; rw [if_neg (by omega), if_neg (by omega), if_neg h3]

theorem rev_at {α : Type} {l : List α} {j : Nat} {x : α} (h : l[j]? = some x) : (l.take (j + 1)).reverse = x :: (l.take j).reverse := by
  rw [List.take_add_one, h]
  simp
end Go.Proofs.YtccoobcggbbciaiGreatDoor
namespace Go.Proofs.YtccoobcggbbciaiGreatDoor
open Go.ChangeShapes Go.WideShapes Go.ChangeAt Go.RowKit

theorem ownsRow_same {w w' : World} {B n size : Nat} {e : TypeId} {v : Value} {xs : List Value} (h : w.ownsRow B e size v n xs) (hs : ∀ k, B ≤ k → k < w.heap.size → w'.heap[k]? = w.heap[k]?) : w'.ownsRow B e size v n xs := by
  obtain ⟨hl, h | ⟨g, cap, cur, he, hb, hg, hr⟩⟩ := h
  · exact ⟨hl, .inl h⟩
  · exact ⟨hl, .inr ⟨g, cap, cur, he, hb, (hs g hb (Array.getElem?_eq_some_iff.1 hg).1).trans hg, hr⟩⟩

theorem rowArg {α : Type} {f : α → List Value} {w w1 : World} {l : List α} {ad : Option Addr} (h : l = [] ∨ ∃ b o, ad = some ⟨b, o, none⟩ ∧ ∀ q u, (l.flatMap f)[q]? = some u → w.cell? ⟨b, o + q, none⟩ = some u) (hb : Below w.heap.size w w1) : ∀ ad', ad = some ad' → ∀ j u, (l.flatMap f)[j]? = some u → w1.cell? (ad'.add j) = some u := by
  intro ad' hd j u hj
  rcases h with h2 | ⟨b, o, h2, h3⟩
  · subst h2; simp at hj
  · rw [hd] at h2
    cases h2
    rw [Addr.add_lit]
    exact below_cell hb (h3 j u hj)

theorem flatOneTa {l : List Ta} {u : Value} (h : u ∈ l.flatMap Ta.vals) : u.oneCell' = true := by
  obtain ⟨x, h⟩ := flat_mem h
  exact Ta.one h
end Go.Proofs.YtccoobcggbbciaiGreatDoor
namespace Go.Proofs.YtccoobcggbbciaiGreatDoor
open Go.ChangeShapes Go.WideShapes Go.ChangeAt Go.RowKit

theorem info3 : (Tryz.prog.info? 3).map (fun i => (i.zero, i.size, i.bytes)) = some (some (.int .i64 0), 1, 8) := by kernel_rfl

theorem flatOneN {l : List Int} {u : Value} (h : u ∈ l.flatMap nuV) : u.oneCell' = true := by
  obtain ⟨x, h⟩ := flat_mem h
  simp only [nuV, List.mem_singleton] at h
  subst h
  rfl

theorem ownsRow_below {w w' : World} {B n size : Nat} {e : TypeId} {v : Value} {xs : List Value} (h : w.ownsRow B e size v n xs) (hb : Below w.heap.size w w') : w'.ownsRow B e size v n xs := ownsRow_same h (fun k _ hk => hb.block k hk)

end Go.Proofs.YtccoobcggbbciaiGreatDoor
namespace Go.Proofs.YtccoobcggbbciaiGreatDoor
open Go.ChangeShapes Go.WideShapes Go.ChangeAt Go.RowKit

/- The jobs of comings. -/
def jobOne (l : List Ta) (c : Co) (a b : Int) : Option Jb := if a < 0 ∨ (l.getD c.k.toNat ta0).j < a ∨ b < 1 ∨ (l.getD c.k.toNat ta0).c < b then none else some ⟨c.k, c.a + a, b, c.a + (l.getD c.k.toNat ta0).d, (l.getD c.k.toNat ta0).p⟩
def jobsFrom (l : List Ta) : List Jb → List Co → List Int → List Int → Nat → (Int × Int) × List Jb
  | acc, c :: cs, a :: la, b :: tk, i => match jobOne l c a b with
    | none => ((3, (i : Int)), [])
    | some x => jobsFrom l (acc ++ [x]) cs la tk (i + 1)
  | acc, _, _, _, _ => ((0, 0), acc)
def jobsF (l : List Ta) (cs : List Co) (la tk : List Int) : (Int × Int) × List Jb := if (legF l cs).1 ≠ 0 then (legF l cs, []) else if la.length ≠ cs.length ∨ tk.length ≠ cs.length then ((2, 0), []) else jobsFrom l [] cs la tk 0

theorem jobsFrom_at {l : List Ta} {acc : List Jb} {cs : List Co} {la tk : List Int} {i j : Nat} {c : Co} {a b : Int} (hc : cs.drop i = c :: cs.drop (i + 1)) (ha : la.drop i = a :: la.drop (i + 1)) (hb : tk.drop i = b :: tk.drop (i + 1)) : jobsFrom l acc (cs.drop i) (la.drop i) (tk.drop i) j = match jobOne l c a b with
    | none => ((3, (j : Int)), [])
    | some x => jobsFrom l (acc ++ [x]) (cs.drop (i + 1)) (la.drop (i + 1)) (tk.drop (i + 1)) (j + 1) := by
  rw [hc, ha, hb, jobsFrom]

theorem jobsFrom_end {l : List Ta} {acc : List Jb} {la tk : List Int} {j : Nat} : jobsFrom l acc [] la tk j = ((0, 0), acc) := by
  cases la <;> cases tk <;> rfl

theorem jobsFrom_len {l : List Ta} : ∀ (cs : List Co) (acc : List Jb) (la tk : List Int) (j : Nat), (jobsFrom l acc cs la tk j).2.length ≤ acc.length + cs.length
  | [], acc, la, tk, j => by rw [jobsFrom_end]; simp
  | c :: cs, acc, la, tk, j => by
    cases la with
    | nil => simp [jobsFrom]
    | cons a la =>
      cases tk with
      | nil => simp [jobsFrom]
      | cons b tk =>
        rw [jobsFrom]
        cases jobOne l c a b with
        | none => simp
        | some x =>
          have := jobsFrom_len (l := l) cs (acc ++ [x]) la tk (j + 1)
          simp at this ⊢
          omega

theorem legFrom_ok {l : List Ta} : ∀ (r past : List Co) (i : Nat), (legFrom l past r i).1 = 0 → ∀ c ∈ r, 0 ≤ c.k ∧ c.k < (l.length : Int) ∧ 0 ≤ c.a ∧ c.a ≤ 20000
  | [], _, _, _, c, hc => by simp at hc
  | x :: r, past, i, h, c, hc => by
    rw [legFrom] at h
    by_cases hx : legOne l past x = 0
    · rw [if_pos hx] at h
      rcases List.mem_cons.1 hc with rfl | hc
      · exact legOne_ok hx
      · exact legFrom_ok r (x :: past) (i + 1) h c hc
    · rw [if_neg hx] at h
      exact absurd h hx

theorem legF_ok {l : List Ta} {cs : List Co} (h : (legF l cs).1 = 0) : (chkF l).1 = 0 ∧ cs.length ≤ 4000 ∧ ∀ c ∈ cs, 0 ≤ c.k ∧ c.k < (l.length : Int) ∧ 0 ≤ c.a ∧ c.a ≤ 20000 := by
  unfold legF at h
  by_cases h0 : (chkF l).1 ≠ 0
  · rw [if_pos h0] at h; exact absurd h h0
  · rw [if_neg h0] at h
    by_cases hn : 4000 < cs.length
    · rw [if_pos hn] at h; cases h
    · rw [if_neg hn] at h
      exact ⟨by simpa using h0, by omega, legFrom_ok cs [] 0 h⟩

theorem infoJb : (Tryz.prog.info? 63).map (fun i => (i.zero, i.size, i.bytes)) = some (some (.agg #[.int .i64 0, .int .i64 0, .int .i64 0, .int .i64 0, .int .i64 0]), 5, 40) := by kernel_rfl

/-- A fault's block, and a row of jobs of one's own. -/
structure JO (w wr : World) (jobs : List Jb) (jv : Value) : Prop where
  fb : FB w wr w.heap.size
  row : wr.ownsRow (w.heap.size + 1) 63 5 jv jobs.length (jobs.flatMap Jb.vals)

theorem JO.grow {w wr wr' : World} {jobs : List Jb} {jv : Value} (h : JO w wr jobs jv) (hb : Below wr.heap.size wr wr') : JO w wr' jobs jv := ⟨h.fb.grow hb, ownsRow_below h.row hb⟩

theorem owns_value {w : World} {B n size : Nat} {e : TypeId} {v : Value} {xs : List Value} (h : w.ownsRow B e size v n xs) : ∃ ad c, v = .slice ad n c := by
  obtain ⟨hl, ⟨h, hn⟩ | ⟨g, cap, cur, he, -⟩⟩ := h
  · exact ⟨none, 0, by rw [h]; simp_all⟩
  · exact ⟨_, _, he⟩

theorem flat_snoc (jobs : List Jb) (x : Jb) : (jobs ++ [x]).flatMap Jb.vals = jobs.flatMap Jb.vals ++ x.vals := by simp

/-- One job more. -/
theorem JO.push {w wr : World} {jobs : List Jb} {jv : Value} (h : JO w wr jobs jv) (x : Jb) (hl : jobs.length ≤ 4000) :
    ∃ ad c w4, (Builtin.append_ #[54, 54] 54 #[jv, .slice (some ⟨wr.heap.size, 0, none⟩) 1 1]).run Tryz.prog (wr.alloc (.cells #[.int .i64 x.k, .int .i64 x.a, .int .i64 x.c, .int .i64 x.d, .int .i64 x.p] 63)) = .ok (.slice ad (jobs.length + 1) c) w4 ∧ JO w w4 (jobs ++ [x]) (.slice ad (jobs.length + 1) c) ∧ Below (w.heap.size + 1) wr w4 ∧ ∀ k, k < wr.heap.size → some k ≠ jv.ownBlock → w4.heap[k]? = wr.heap[k]? := by
  obtain ⟨i0, hi0, hz0, hz1, hz2⟩ := info_parts infoJb
  have h1 := h.grow (below_new wr (.cells #[.int .i64 x.k, .int .i64 x.a, .int .i64 x.c, .int .i64 x.d, .int .i64 x.p] 63))
  have hlt := h.fb.lt
  obtain ⟨v4, w4, hrun, ho4, hg4, -, hv4⟩ := run_append_own_at (P := Tryz.prog) (w := wr.alloc (.cells #[.int .i64 x.k, .int .i64 x.a, .int .i64 x.c, .int .i64 x.d, .int .i64 x.p] 63)) (w.heap.size + 1) 54 54 63 i0 _ 5 40 Tryz.underlying54 hi0 hz0 hz1 hz2 rfl (by decide) jv jobs.length (jobs.flatMap Jb.vals) h1.row ⟨wr.heap.size, 0, none⟩ 1 1 x.vals rfl (fun j u hj => by rw [Addr.add_lit]; have := (cells_of (l := x.vals) (heap_alloc_new wr (.cells #[.int .i64 x.k, .int .i64 x.a, .int .i64 x.c, .int .i64 x.d, .int .i64 x.p] 63))).1 j u hj; simpa using this) (fun u hu => Jb.one hu) (by unfold maxLen; omega) (by omega) (by simp; omega)
  obtain ⟨ad, c, rfl⟩ := owns_value ho4
  have hne : ∀ k, k < w.heap.size + 1 → some k ≠ jv.ownBlock := fun k hk e => by have := (h.row.lt k e.symm).1; omega
  have hold : ∀ k, k < wr.heap.size → some k ≠ jv.ownBlock → w4.heap[k]? = wr.heap[k]? := fun k hk hn => (hg4.block k (by simp; omega) hn).trans (Below.heap_alloc _ _ _ hk)
  have hbel : Below (w.heap.size + 1) wr w4 := ((below_new wr _).mono (by omega)).grown hg4 (by simp; omega) (fun k hk => (h.row.lt k hk).1)
  refine ⟨ad, c, w4, hrun, ⟨⟨h.fb.bel.trans (hbel.mono (by omega)), (hold _ hlt (hne _ (by omega))).trans h.fb.res, h.fb.low⟩, ?_⟩, hbel, hold⟩
  rw [List.length_append, flat_snoc]
  exact ho4

theorem rowOf_own {w : World} {B : Nat} {jobs : List Jb} {v : Value} (h : w.ownsRow B 63 5 v jobs.length (jobs.flatMap Jb.vals)) : RowSl Jb.vals w jobs v := by
  have h' := h
  obtain ⟨hl, ⟨h1, h2⟩ | ⟨g, cap, cur, he, hb, hg, hr⟩⟩ := h
  · subst h1
    have : jobs = [] := by
      cases jobs with
      | nil => rfl
      | cons x r => simp_all
    subst this
    exact RowSl.nil _ _
  · subst he
    refine ⟨_, cap, rfl, (fun e => by cases e), by omega, .inr ⟨g, 0, rfl, fun q u hq => ?_⟩⟩
    have hql := (List.getElem?_eq_some_iff.1 hq).1
    rw [flat_length Jb.vals 5 Jb.len] at hql
    rw [Nat.zero_add]
    exact (h'.cellAt q (by omega)).trans hq
end Go.Proofs.YtccoobcggbbciaiGreatDoor
namespace Go.Proofs.YtccoobcggbbciaiGreatDoor
open Go.ChangeShapes Go.WideShapes Go.ChangeAt Go.RowKit

theorem ownsRow_keep2 {w w' : World} {B n size : Nat} {e : TypeId} {v : Value} {xs : List Value} (h : w.ownsRow B e size v n xs) (hs : ∀ k, v.ownBlock = some k → w'.heap[k]? = w.heap[k]?) : w'.ownsRow B e size v n xs := by
  obtain ⟨hl, h | ⟨g, cap, cur, he, hb, hg, hr⟩⟩ := h
  · exact ⟨hl, .inl h⟩
  · exact ⟨hl, .inr ⟨g, cap, cur, he, hb, (hs g (by rw [he]; rfl)).trans hg, hr⟩⟩

theorem region_append {P : Program} {ops : Array Oper} {o : Oper} {a : Act} {w : World} {K : Act → World → Prop} {Q : Exit → Act → World → Prop} {E : Prop} [Decidable (Region.wanted o (yielded ops a.tmps) = true)] (hgd : o.guard = none) (s x : Operand) (t : TypeId)
    (ho : o.op = .call { callee := .builtin .append, args := #[s, x], argTypes := #[t, t] }) {v u v' : Value} {w' : World} (hs : a.eval s = v) (hx : a.eval x = u)
    (hrun : (Builtin.append_ #[t, t] o.type #[v, u]).run P w = .ok v' w') (h : K (a.put o.dst v') w') : if Region.wanted o (yielded ops a.tmps) = true then Oper.wp P o a w K Q else E := by
  have hw : Region.wanted o (yielded ops a.tmps) = true := by simp [Region.wanted, hgd]
  rw [if_pos hw]
  unfold Oper.wp
  simp [execOp, ho, resolve, invoke, builtin, hs, hx, hrun, Result.andThen]
  exact h

theorem Jobs_nil (w : World) (B : Nat) : w.ownsRow B 63 5 (.slice none 0 0) ([] : List Jb).length (([] : List Jb).flatMap Jb.vals) := ⟨rfl, .inl ⟨rfl, rfl⟩⟩
end Go.Proofs.YtccoobcggbbciaiGreatDoor
