import Derived.Test.YtccoobcggbbciakDoorKQ0
namespace Go.Proofs.YtccoobcggbbciakDoor
open Go.ChangeShapes Go.WideShapes Go.ChangeAt Go.RowKit Go.Sort

theorem sorted_keep {α : Type} [Inhabited α] (enc : α → Value) {w : World} {g n : Nat} {os : Array Obj} (d : Array α) : w.grownBy (grow (putRow enc (Sort.ahead w n) g 0 d) os) (some g) := by
  refine ⟨rfl, rfl, rfl, by simp, fun k hk hne => ?_⟩
  rw [heap_grow_old _ _ (by simpa using hk)]
  have : g ≠ k := fun e => hne (by rw [e])
  simp [putRow, mapBlock, Sort.ahead, Array.getElem?_modify, this]


theorem grow_none (W : World) : grow W #[] = W := by simp [grow]

theorem putAll {cur : Array Value} (d : List (List UInt8)) (h : cur.size = d.length) : putCells encStr 0 d.toArray cur = (d.map encStr).toArray := by
  apply Array.ext'
  apply List.ext_getElem?
  intro j
  by_cases hj : j < d.length
  · have hjc : j < cur.size := by omega
    have e1 : (putCells encStr 0 d.toArray cur)[j]? = some (encStr d[j]) := by
      simp only [putCells, Array.getElem?_mapIdx, Array.getElem?_eq_getElem hjc, Option.map_some, Nat.zero_le, true_and, Nat.zero_add, List.size_toArray, Nat.sub_zero]
      rw [if_pos hj, getElem!_pos _ j (by simpa using hj)]
      simp
    have e2 : (putCells encStr 0 d.toArray cur).toList[j]? = (putCells encStr 0 d.toArray cur)[j]? := by rw [Array.getElem?_toList]
    rw [e2, e1]
    simp [hj]
  · rw [List.getElem?_eq_none (by simp [putCells]; omega), List.getElem?_eq_none (by simp; omega)]

/-- slices.Delete, of the second. -/
theorem Delete2 (W : World) (gs : Nat) (ws : List ByteArray) (h : W.heap[gs]? = some (.cells (ws.map Value.string).toArray 9 (0, 0))) (h2 : 2 ≤ ws.length) (hl : ws.length ≤ 2000000) :
    Calls Tryd.prog 44 #[.slice (some ⟨gs, 0, none⟩) ws.length ws.length, .int .i64 1, .int .i64 2] W fun r W' => r = .returned (.slice (some ⟨gs, 0, none⟩) (ws.length - 1) ws.length) ∧ W'.heap[gs]? = some (.cells ((ws.take 1 ++ ws.drop 2 ++ [(⟨#[]⟩ : ByteArray)]).map Value.string).toArray 9 (0, 0)) ∧ W.grownBy W' (some gs) := by
  obtain ⟨hc, hf, -⟩ := cells_of h
  have hz : (ws.map (fun b : ByteArray => b.data.toList)).length = ws.length := by simp
  have hH : Holds encStr W gs 0 (ws.map (fun b : ByteArray => b.data.toList)).toArray := by
    intro j hj
    have hj' : j < ws.length := by simpa using hj
    refine ⟨?_, hf _⟩
    rw [Nat.zero_add, getElem!_pos _ j hj]
    refine (hc j _ (by rw [List.getElem?_map, List.getElem?_eq_getElem hj']; rfl)).trans ?_
    simp [encStr]
  have hd := sh_slices_Delete_string gs 0 ws.length 1 2 (ws.map (fun b : ByteArray => b.data.toList)) W hH (by omega) (by omega) (by omega) (by omega)
  rw [hz] at hd
  refine Calls.mono hd ?_
  rintro r W' ⟨rfl, q, rfl⟩
  refine ⟨rfl, ?_, ?_⟩
  · have hh : (putRow encStr (Sort.ahead W q) gs 0 ((ws.map (fun b : ByteArray => b.data.toList)).take 1 ++ (ws.map (fun b : ByteArray => b.data.toList)).drop 2 ++ List.replicate (2 - 1) []).toArray).heap[gs]? = some (.cells (putCells encStr 0 ((ws.map (fun b : ByteArray => b.data.toList)).take 1 ++ (ws.map (fun b : ByteArray => b.data.toList)).drop 2 ++ List.replicate (2 - 1) []).toArray (ws.map Value.string).toArray) 9 (0, 0)) := by
      simp [putRow, mapBlock, Sort.ahead, Array.getElem?_modify, h, onCells]
    rw [hh, putAll _ (by simp; omega)]
    congr 3
    simp [encStr, Function.comp_def]
  · have hk := sorted_keep (w := W) (g := gs) (n := q) (os := #[]) encStr ((ws.map (fun b : ByteArray => b.data.toList)).take 1 ++ (ws.map (fun b : ByteArray => b.data.toList)).drop 2 ++ List.replicate (2 - 1) []).toArray
    rw [grow_none] at hk
    exact hk

/-- The event of a kind and numbers. -/
def candD (k : Int) (ds : List (List UInt8)) : Ev :=
    if k = 6 then
      match ds with
      | [x, t, m, n] => match atoF x, atoF t, atoF m, atoF n with
        | some x, some t, some m, some n => ⟨x, 6, t, m, n⟩
        | _, _, _, _ => zeroE
      | _ => zeroE
    else
      match ds with
      | [x, t, n] => match atoF x, atoF t, atoF n with
        | some x, some t, some n => ⟨x, k, t, 0, n⟩
        | _, _, _ => zeroE
      | _ => zeroE

theorem cand_is {w a k : List UInt8} {r : List (List UInt8)} (h : pcs 32 w = a :: k :: r) : candF w = candD (kindE k) (a :: r) := by
  unfold candF
  rw [h]
  rfl

theorem cand_short {w : List UInt8} (h : (pcs 32 w).length < 2) : candF w = zeroE := by
  unfold candF
  split
  · rename_i a k r e
    rw [e] at h
    simp at h
    omega
  · rfl

def howMany (k : Int) : Nat := if k = 6 then 4 else 3

theorem candD_len {k : Int} {ds : List (List UInt8)} (h : ds.length ≠ howMany k) : candD k ds = zeroE := by
  unfold candD
  unfold howMany at h
  split
  · rename_i hk
    rw [if_pos hk] at h
    split
    · simp at h
    · rfl
  · rename_i hk
    rw [if_neg hk] at h
    split
    · simp at h
    · rfl

theorem candD_bad {k : Int} {ds : List (List UInt8)} {i : Nat} {b : List UInt8} (hb : ds[i]? = some b) (hn : atoF b = none) : candD k ds = zeroE := by
  unfold candD
  split
  · split
    · rename_i x t m n
      split
      · rename_i h1 h2 h3 h4
        exfalso
        match i, hb with
        | 0, hb => simp at hb; subst hb; rw [hn] at h1; cases h1
        | 1, hb => simp at hb; subst hb; rw [hn] at h2; cases h2
        | 2, hb => simp at hb; subst hb; rw [hn] at h3; cases h3
        | 3, hb => simp at hb; subst hb; rw [hn] at h4; cases h4
        | n + 4, hb => simp at hb
      · rfl
    · rfl
  · split
    · rename_i x t n
      split
      · rename_i h1 h2 h3
        exfalso
        match i, hb with
        | 0, hb => simp at hb; subst hb; rw [hn] at h1; cases h1
        | 1, hb => simp at hb; subst hb; rw [hn] at h2; cases h2
        | 2, hb => simp at hb; subst hb; rw [hn] at h3; cases h3
        | n + 3, hb => simp at hb
      · rfl
    · rfl

/-- An event, while its numbers are put in. -/
def evOf (k : Int) (ns : List Int) : Ev := if k = 6 then ⟨ns.getD 0 0, 6, ns.getD 1 0, ns.getD 2 0, ns.getD 3 0⟩ else ⟨ns.getD 0 0, k, ns.getD 1 0, 0, ns.getD 2 0⟩

theorem candD_good {k : Int} {ds : List (List UInt8)} {ns : List Int} (hl : ds.length = howMany k) (h : ds.map atoF = ns.map some) : candD k ds = evOf k ns := by
  have hln : ns.length = howMany k := by
    have := congrArg List.length h
    simp at this
    omega
  unfold candD evOf
  unfold howMany at hl hln
  by_cases hk : k = 6
  · rw [if_pos hk] at hl hln
    rw [if_pos hk, if_pos hk]
    match ds, ns, hl, hln, h with
    | [x, t, m, n], [a, b, c, d], _, _, h =>
      simp at h
      obtain ⟨h1, h2, h3, h4⟩ := h
      simp [h1, h2, h3, h4]
  · rw [if_neg hk] at hl hln
    rw [if_neg hk, if_neg hk]
    match ds, ns, hl, hln, h with
    | [x, t, n], [a, b, c], _, _, h =>
      simp at h
      obtain ⟨h1, h2, h3⟩ := h
      simp [h1, h2, h3]

theorem ptrs_len (g : Nat) (k : Int) : (ptrsE g k).length = howMany k := by
  unfold ptrsE howMany
  split <;> rfl

theorem ev_put {W : World} {g : Nat} {k : Int} {ns : List Int} (h : W.heap[g]? = some (.cells (evOf k ns).vals.toArray 24 (0, 0))) (hl : ns.length < howMany k) (n : Int) : ∃ o, o < 5 ∧ (ptrsE g k)[ns.length]? = some (.pointer (some ⟨g, o, none⟩)) ∧ (W.setCell ⟨g, o, none⟩ (.int .i64 n)).heap[g]? = some (.cells (evOf k (ns ++ [n])).vals.toArray 24 (0, 0)) := by
  unfold howMany at hl
  unfold ptrsE
  by_cases hk : k = 6
  · rw [if_pos hk] at hl ⊢
    match ns, hl, h with
    | [], _, h => exact ⟨0, by omega, rfl, by rw [setCell_at h]; simp [evOf, hk, Ev.vals]⟩
    | [a], _, h => exact ⟨2, by omega, rfl, by rw [setCell_at h]; simp [evOf, hk, Ev.vals]⟩
    | [a, b], _, h => exact ⟨3, by omega, rfl, by rw [setCell_at h]; simp [evOf, hk, Ev.vals]⟩
    | [a, b, c], _, h => exact ⟨4, by omega, rfl, by rw [setCell_at h]; simp [evOf, hk, Ev.vals]⟩
    | a :: b :: c :: d :: r, hl, _ => simp at hl; omega
  · rw [if_neg hk] at hl ⊢
    match ns, hl, h with
    | [], _, h => exact ⟨0, by omega, rfl, by rw [setCell_at h]; simp [evOf, hk, Ev.vals]⟩
    | [a], _, h => exact ⟨2, by omega, rfl, by rw [setCell_at h]; simp [evOf, hk, Ev.vals]⟩
    | [a, b], _, h => exact ⟨4, by omega, rfl, by rw [setCell_at h]; simp [evOf, hk, Ev.vals]⟩
    | a :: b :: c :: r, hl, _ => simp at hl; omega

/-- The words of a line, as bytes and as pieces. -/
theorem words_are (s : ByteArray) (c : UInt8) : (Lib.splitB ⟨#[c]⟩ 0 (Lib.countB s ⟨#[c]⟩) s).map (·.data.toList) = pcs c s.data.toList := by
  rw [Lib.splitB_data]
  have e : Lib.countB s ⟨#[c]⟩ = s.data.toList.count c := Lib.count_one c s.data.toList
  rw [e]
  exact splitK_is c 0 [] (.inl ⟨rfl, rfl⟩) _ s.data.toList (Nat.le_refl _)

/-- What event holds. -/
structure EW (w W : World) (gs gE : Nat) (k : Int) (ns : List Int) (ds : List ByteArray) : Prop where
  bel : Below w.heap.size w W
  res : W.heap[w.heap.size]? = some (.cells #[.int .i64 0, .int .i64 0, .int .i64 0, .int .i64 0, .int .i64 0] 24 (0, 0))
  ev : W.heap[gE]? = some (.cells (evOf k ns).vals.toArray 24 (0, 0))
  ps : W.heap[gE + 1]? = some (.cells (ptrsE gE k).toArray 93 (0, 0))
  wd : W.heap[gs]? = some (.cells (ds.map Value.string).toArray 9 (0, 0))
  df : w.heap.size < gs ∧ gs < gE

theorem EW.grow {w W W' : World} {gs gE : Nat} {k : Int} {ns : List Int} {ds : List ByteArray} (h : EW w W gs gE k ns ds) (hb : Below W.heap.size W W') : EW w W' gs gE k ns ds :=
  ⟨below_seq h.bel hb, (hb.block _ (Array.getElem?_eq_some_iff.1 h.res).1).trans h.res, (hb.block _ (Array.getElem?_eq_some_iff.1 h.ev).1).trans h.ev, (hb.block _ (Array.getElem?_eq_some_iff.1 h.ps).1).trans h.ps, (hb.block _ (Array.getElem?_eq_some_iff.1 h.wd).1).trans h.wd, h.df⟩

theorem EW.del {w W W' : World} {gs gE : Nat} {k : Int} {ns : List Int} {ds es : List ByteArray} (h : EW w W gs gE k ns ds) (hg : W.grownBy W' (some gs)) (hw : W'.heap[gs]? = some (.cells (es.map Value.string).toArray 9 (0, 0))) : EW w W' gs gE k ns es := by
  obtain ⟨d1, d2⟩ := h.df
  have key : ∀ {q : Nat} {o : Obj}, W.heap[q]? = some o → q ≠ gs → W'.heap[q]? = some o := fun {q o} hq hn => (hg.block q (Array.getElem?_eq_some_iff.1 hq).1 (fun e => hn (Option.some.inj e))).trans hq
  exact ⟨h.bel.grown hg h.bel.size (fun q hq => by cases hq; omega), key h.res (by omega), key h.ev (by omega), key h.ps (by omega), hw, h.df⟩

theorem EW.put {w W : World} {gs gE : Nat} {k : Int} {ns : List Int} {ds : List ByteArray} (h : EW w W gs gE k ns ds) (hl : ns.length < howMany k) (n : Int) : ∃ o, o < 5 ∧ (ptrsE gE k)[ns.length]? = some (.pointer (some ⟨gE, o, none⟩)) ∧ EW w (W.setCell ⟨gE, o, none⟩ (.int .i64 n)) gs gE k (ns ++ [n]) ds := by
  obtain ⟨d1, d2⟩ := h.df
  obtain ⟨o, ho, h1, h2⟩ := ev_put h.ev hl n
  refine ⟨o, ho, h1, ⟨h.bel.setCell (show w.heap.size ≤ gE by omega) _, ?_, h2, ?_, ?_, h.df⟩⟩
  · rw [Below.heap_setCell _ _ _ _ (by show w.heap.size ≠ gE; omega)]; exact h.res
  · rw [Below.heap_setCell _ _ _ _ (by show gE + 1 ≠ gE; omega)]; exact h.ps
  · rw [Below.heap_setCell _ _ _ _ (by show gs ≠ gE; omega)]; exact h.wd

theorem event_ends {w : World} {g : Nat} {c0 c1 c2 c3 c4 : Value} {a : Act} (h : w.heap[g]? = some (.cells #[c0, c1, c2, c3, c4] 24 (0, 0))) (h2 : a.tmps[2]?.getD undef = .pointer (some ⟨g, 0, none⟩)) :
    (results Tryd.f19 a.tmps).run Tryd.prog w = .ok (.agg #[c0, c1, c2, c3, c4]) w := by
  obtain ⟨k, f1, l1⟩ := cells_of (l := [_, _, _, _, _]) h
  have k0 := k 0 _ rfl
  have k1 := k 1 _ rfl
  have k2 := k 2 _ rfl
  have k3 := k 3 _ rfl
  have k4 := k 4 _ rfl
  simp [results, Tryd.results19, go_sem, h2, k0, k1, k2, k3, k4]

theorem five_at {W : World} {g : Nat} {t : TypeId} {z0 z1 z2 z3 z4 a0 a1 a2 a3 a4 : Value} (h : W.heap[g]? = some (.cells #[z0, z1, z2, z3, z4] t (0, 0))) : (((((W.setCell ⟨g, 0, none⟩ a0).setCell ⟨g, 1, none⟩ a1).setCell ⟨g, 2, none⟩ a2).setCell ⟨g, 3, none⟩ a3).setCell ⟨g, 4, none⟩ a4).heap[g]? = some (.cells #[a0, a1, a2, a3, a4] t (0, 0)) := by
  rw [setCell_at (setCell_at (setCell_at (setCell_at (setCell_at h))))]
  rfl

theorem five_below {w W : World} {g : Nat} {a0 a1 a2 a3 a4 : Value} (h : Below w.heap.size w W) (hg : w.heap.size ≤ g) : Below w.heap.size w (((((W.setCell ⟨g, 0, none⟩ a0).setCell ⟨g, 1, none⟩ a1).setCell ⟨g, 2, none⟩ a2).setCell ⟨g, 3, none⟩ a3).setCell ⟨g, 4, none⟩ a4) :=
  ((((h.setCell hg _).setCell hg _).setCell hg _).setCell hg _).setCell hg _
end Go.Proofs.YtccoobcggbbciakDoor
