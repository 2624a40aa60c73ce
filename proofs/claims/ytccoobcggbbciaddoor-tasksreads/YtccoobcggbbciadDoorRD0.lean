import Derived.Test.YtccoobcggbbciadDoorRC0
import Derived.Test.YtccoobcggbbciadDoorRW0
import Derived.Lib.SplitLaws
namespace Go.Proofs.YtccoobcggbbciadDoor
open Go.ChangeShapes Go.WideShapes Go.ChangeAt Go.RowKit

/-- Where a task's numbers lie. -/
def ptrs (g : Nat) : List Value := [.pointer (some ⟨g, 1, none⟩), .pointer (some ⟨g, 2, none⟩), .pointer (some ⟨g, 3, none⟩), .pointer (some ⟨g, 4, none⟩), .pointer (some ⟨g, 5, none⟩), .pointer (some ⟨g, 6, none⟩)]

set_option maxRecDepth 20000 in
set_option maxHeartbeats 4000000 in
theorem numbers_any (w : World) (g : Nat) : Calls Tryd.prog 55 #[.pointer (some ⟨g, 0, none⟩)] w fun r w' => r = .returned (.slice (some ⟨w.heap.size, 0, none⟩) 6 6) ∧ w'.heap[w.heap.size]? = some (.cells (ptrs g).toArray 112 (0, 0)) ∧ Below w.heap.size w w' := by
  go_enter Tryd.func55, Tryd.ntmps55
  go_upto_region 1 with fail
  go_region_held3 (fun _ : World => True)
    (first | assumption | exact trivial)
    (first | fail)
  all_goals
    go_wp2_with fail
    go_ret
    exact ⟨rfl, heap_alloc_new _ _, (below_new _ _).drew⟩

/-- The words of a line, as bytes and as pieces. -/
theorem words_are (s : ByteArray) (c : UInt8) : (Lib.splitB ⟨#[c]⟩ 0 (Lib.countB s ⟨#[c]⟩) s).map (·.data.toList) = pcs c s.data.toList := by
  rw [Lib.splitB_data]
  have e : Lib.countB s ⟨#[c]⟩ = s.data.toList.count c := Lib.count_one c s.data.toList
  rw [e]
  exact splitK_is c 0 [] (.inl ⟨rfl, rfl⟩) _ s.data.toList (Nat.le_refl _)

def taskR (s : ByteArray) : Ta × Bool := match taskF s.data.toList with
  | some x => (x, true)
  | none => (⟨⟨#[]⟩, 0, 0, 0, 0, 0, 0⟩, false)

/-- What task holds while it reads. -/
structure TKW (w W : World) (g5 g6 : Nat) (ws : List ByteArray) (vs : List Int) (nm : ByteArray) : Prop where
  bel : Below w.heap.size w W
  res : W.heap[w.heap.size]? = some (.cells #[.string ⟨#[]⟩, .int .i64 0, .int .i64 0, .int .i64 0, .int .i64 0, .int .i64 0, .int .i64 0] 55 (0, 0))
  tsk : W.heap[w.heap.size + 1]? = some (.cells (Value.string nm :: vs.map (Value.int .i64)).toArray 55 (0, 0))
  ps : W.heap[g5]? = some (.cells (ptrs (w.heap.size + 1)).toArray 112 (0, 0))
  wd : W.heap[g6]? = some (.cells (ws.map Value.string).toArray 9 (0, 0))
  ds : w.heap.size + 1 < g5 ∧ w.heap.size + 1 < g6

theorem TKW.grow {w W W' : World} {g5 g6 : Nat} {ws : List ByteArray} {vs : List Int} {nm : ByteArray} (h : TKW w W g5 g6 ws vs nm) (hb : Below W.heap.size W W') : TKW w W' g5 g6 ws vs nm :=
  ⟨below_seq h.bel hb, (hb.block _ (Array.getElem?_eq_some_iff.1 h.res).1).trans h.res, (hb.block _ (Array.getElem?_eq_some_iff.1 h.tsk).1).trans h.tsk, (hb.block _ (Array.getElem?_eq_some_iff.1 h.ps).1).trans h.ps, (hb.block _ (Array.getElem?_eq_some_iff.1 h.wd).1).trans h.wd, h.ds⟩

theorem TKW.put {w W : World} {g5 g6 : Nat} {ws : List ByteArray} {vs : List Int} {nm : ByteArray} (h : TKW w W g5 g6 ws vs nm) (i : Nat) (n : Int) : TKW w (W.setCell ⟨w.heap.size + 1, i + 1, none⟩ (.int .i64 n)) g5 g6 ws (vs.set i n) nm := by
  obtain ⟨d1, d2⟩ := h.ds
  refine ⟨h.bel.setCell (show w.heap.size ≤ w.heap.size + 1 by omega) _, ?_, ?_, ?_, ?_, h.ds⟩
  · rw [Below.heap_setCell _ _ _ _ (by show w.heap.size ≠ w.heap.size + 1; omega)]; exact h.res
  · rw [setCell_at h.tsk]
    simp [List.map_set]
  · rw [Below.heap_setCell _ _ _ _ (by show g5 ≠ w.heap.size + 1; omega)]; exact h.ps
  · rw [Below.heap_setCell _ _ _ _ (by show g6 ≠ w.heap.size + 1; omega)]; exact h.wd

theorem task_ends {w : World} {g : Nat} {c0 c1 c2 c3 c4 c5 c6 p : Value} {a : Act} (h : w.heap[g]? = some (.cells #[c0, c1, c2, c3, c4, c5, c6] 55 (0, 0))) (h2 : a.tmps[2]?.getD undef = .pointer (some ⟨g, 0, none⟩)) (h3 : a.tmps[3]?.getD undef = p) :
    (results Tryd.f53 a.tmps).run Tryd.prog w = .ok (.tuple #[.agg #[c0, c1, c2, c3, c4, c5, c6], p]) w := by
  obtain ⟨k, f1, l1⟩ := cells_of (l := [_, _, _, _, _, _, _]) h
  have k0 := k 0 _ rfl
  have k1 := k 1 _ rfl
  have k2 := k 2 _ rfl
  have k3 := k 3 _ rfl
  have k4 := k 4 _ rfl
  have k5 := k 5 _ rfl
  have k6 := k 6 _ rfl
  simp [results, Tryd.results53, go_sem, h2, h3, k0, k1, k2, k3, k4, k5, k6]

def Ta.val9 (x : Ta) : Value := .agg #[.string x.nm, .int .i64 x.c, .int .i64 x.t, .int .i64 x.d, .int .i64 x.j, .int .i64 x.o, .int .i64 x.p]

theorem taskR_len {s : ByteArray} {ws : List ByteArray} (hw : ws.map (·.data.toList) = pcs 32 s.data.toList) (h : ws.length ≠ 7) : taskR s = (⟨⟨#[]⟩, 0, 0, 0, 0, 0, 0⟩, false) := by
  unfold taskR taskF
  have hl : (pcs 32 s.data.toList).length ≠ 7 := by rw [← hw]; simpa using h
  split
  · rename_i x hx
    split at hx
    · rename_i e
      rw [e] at hl
      simp at hl
    · cases hx
  · rfl

theorem taskR_bad {s : ByteArray} {ws : List ByteArray} (hw : ws.map (·.data.toList) = pcs 32 s.data.toList) {k : Nat} {b : ByteArray} (hk : k < 6) (hb : ws[k + 1]? = some b) (h : (numR b).2 = false) : taskR s = (⟨⟨#[]⟩, 0, 0, 0, 0, 0, 0⟩, false) := by
  have hn : numF b.data.toList = none := by
    unfold numR at h
    split at h
    · cases h
    · assumption
  have hp : (pcs 32 s.data.toList)[k + 1]? = some b.data.toList := by rw [← hw, List.getElem?_map, hb]; rfl
  unfold taskR taskF
  split
  · rename_i x hx
    split at hx
    · rename_i w0 w1 w2 w3 w4 w5 w6 e
      rw [e] at hp
      split at hx
      · rename_i h1 h2 h3 h4 h5 h6
        exfalso
        have hk6 : k = 0 ∨ k = 1 ∨ k = 2 ∨ k = 3 ∨ k = 4 ∨ k = 5 := by omega
        rcases hk6 with rfl | rfl | rfl | rfl | rfl | rfl <;> simp at hp <;> subst hp <;> simp_all
      · cases hx
    · cases hx
  · rfl

theorem taskR_good {s : ByteArray} {b0 b1 b2 b3 b4 b5 b6 : ByteArray} {n1 n2 n3 n4 n5 n6 : Int} (hw : [b0, b1, b2, b3, b4, b5, b6].map (·.data.toList) = pcs 32 s.data.toList) (h1 : numR b1 = (n1, true)) (h2 : numR b2 = (n2, true)) (h3 : numR b3 = (n3, true)) (h4 : numR b4 = (n4, true)) (h5 : numR b5 = (n5, true)) (h6 : numR b6 = (n6, true)) : taskR s = (⟨b0, n1, n2, n3, n4, n5, n6⟩, true) := by
  have key : ∀ {b : ByteArray} {n : Int}, numR b = (n, true) → numF b.data.toList = some n := fun {b n} h => by
    unfold numR at h
    split at h
    · rename_i m hm
      rw [hm]
      have := (Prod.mk.inj h).1
      rw [this]
    · cases (Prod.mk.inj h).2
  unfold taskR taskF
  rw [← hw]
  simp only [List.map_cons, List.map_nil]
  rw [key h1, key h2, key h3, key h4, key h5, key h6]
end Go.Proofs.YtccoobcggbbciadDoor
