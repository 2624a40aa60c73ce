import Derived.Test.YtcgncdpohaoejafDoorRA
import Derived.Maps.OwnOps
import Derived.Maps.Views
import Derived.Maps.Keyed
import Derived.Maps.OwnSet
namespace Go.Proofs.YtcgncdpohaoejafDoor
open Go.ChangeShapes Go.WideShapes Go.ChangeAt Go.RowKit

theorem law3 : Go.Maps.Keyed Tryd.prog 3 := Go.Maps.int_keyed Tryd.underlying3
theorem zero3 (w : World) : (zeroValue 3).run Tryd.prog w = .ok (.int .i64 0) w := by kernel_rfl

theorem wfI {z : Int} (h : -1000000000 ≤ z) (h' : z ≤ 1000000000) : (Lit.int .i64 z).wf = true := by
  have h1 : IntKind.i64.min = -9223372036854775808 := rfl
  have h2 : IntKind.i64.max = 9223372036854775807 := rfl
  simp [Lit.wf, h1, h2]
  omega

theorem any_insert {H : Type} (x : Lit × DataW H) (p : Lit × DataW H → Bool) : ∀ l : List (Lit × DataW H), (DataW.insert x l).any p = (p x || l.any p)
  | [] => by simp [DataW.insert]
  | y :: r => by
    rw [DataW.insert]
    split
    · simp
    · rw [List.any_cons, any_insert x p r, List.any_cons]
      cases p x <;> cases p y <;> simp

/-- A map of places to priorities: so many have one. -/
def MapP (W : World) (b cnt : Nat) (pm : Nat → Int) : Prop := ∃ es : List (Lit × DataW Unit), W.ownsMap Tryd.prog 3 (plainElem Tryd.prog 3) b cnt (.map es) ∧ es.length = cnt ∧ (∀ i : Nat, i ≤ 1000000 → (DataW.map es).atKey (.int .i64 (i : Int)) (.lit (.int .i64 0)) = .lit (.int .i64 (pm i))) ∧ ∀ i : Nat, i ≤ 1000000 → pm i = 0 → es.any (fun p => p.1.sameKey (.int .i64 (i : Int))) = false

theorem MapP.start (w : World) : MapP (w.alloc (.map #[] 0)) w.heap.size 0 (fun _ => 0) :=
  ⟨[], World.ownsMap_made _ _ _ _, rfl, fun _ _ => rfl, fun _ _ _ => rfl⟩

theorem MapP.same {W W' : World} {b cnt : Nat} {pm : Nat → Int} (h : MapP W b cnt pm) (hk : W'.heap[b]? = W.heap[b]?) : MapP W' b cnt pm := by
  obtain ⟨es, ⟨e2, ck, h1, h2⟩, h3⟩ := h
  exact ⟨es, ⟨e2, ck, hk.trans h1, h2⟩, h3⟩

theorem MapP.lt {W : World} {b cnt : Nat} {pm : Nat → Int} (h : MapP W b cnt pm) : b < W.heap.size := by
  obtain ⟨es, h1, -⟩ := h
  exact h1.lt

theorem MapP.grow {W W' : World} {b cnt : Nat} {pm : Nat → Int} (h : MapP W b cnt pm) (hb : Below W.heap.size W W') : MapP W' b cnt pm := h.same (hb.block b h.lt)

theorem MapP.get {W : World} {b cnt : Nat} {pm : Nat → Int} (h : MapP W b cnt pm) (i : Nat) (hi : i ≤ 1000000) : (Instr.lookup 54 (.map (some b)) (.int .i64 (i : Int)) false).run Tryd.prog W = .ok (.int .i64 (pm i)) W := by
  obtain ⟨es, h1, h2, h3, -⟩ := h
  obtain ⟨c, hrun, hat, -⟩ := h1.lookup_int law3 Tryd.underlying54 Tryd.underlying3 (zero3 _) (Go.Maps.keyOf_int_mk Tryd.underlying3 (a := (i : Int)) (wfI (by omega) (by omega)))
  rw [h3 i hi] at hat
  simp only [DataW.lit.injEq, Lit.int.injEq, true_and] at hat
  rw [hrun, ← hat]

theorem MapP.len {W : World} {b cnt : Nat} {pm : Nat → Int} (h : MapP W b cnt pm) : (Builtin.len_ #[54] 3 #[.map (some b)]).run Tryd.prog W = .ok (.int .i64 (cnt : Int)) W := by
  obtain ⟨es, h1, h2, -⟩ := h
  have := h1.len Tryd.underlying54 3
  rw [Go.Maps.size_eq, h2] at this
  exact this

/-- How many the map at a place holds. -/
def mapN (W : World) (b : Nat) : Nat := match W.heap[b]? with
  | some (.map es _) => es.size
  | _ => 0

theorem MapP.count {W : World} {b cnt : Nat} {pm : Nat → Int} (h : MapP W b cnt pm) : mapN W b = cnt := by
  obtain ⟨es, ⟨e2, ck, h1, h2, h3, h4⟩, h5, -⟩ := h
  unfold mapN
  rw [h1]
  simp only [DataW.map.injEq] at h4
  rw [← h5, h4, length_sorted]
  simp

theorem MapP.put {W : World} {b cnt : Nat} {pm : Nat → Int} (h : MapP W b cnt pm) (i : Nat) (v : Int) (hi : i ≤ 1000000) (h0 : pm i = 0) (hv : 1 ≤ v) (hv' : v ≤ 1000000000) (hc : cnt ≤ 1000000) :
    ∃ W', (Instr.mapUpdate 54 (.map (some b)) (.int .i64 (i : Int)) (.int .i64 v)).run Tryd.prog W = .ok () W' ∧ MapP W' b (cnt + 1) (fun k => if k = i then v else pm k) ∧ W.grownBy W' (some b) := by
  obtain ⟨es, h1, h2, h3, h4⟩ := h
  obtain ⟨W', hrun, ho, hg⟩ := h1.update law3 Tryd.underlying54 (by unfold maxLen; omega) (Go.Maps.keyOf_int_mk Tryd.underlying3 (a := (i : Int)) (wfI (by omega) (by omega))) (plainElem_int Tryd.underlying3 (wfI (by omega) hv'))
  have hf : es.filter (fun p => !p.1.sameKey (.int .i64 (i : Int))) = es := by
    rw [List.filter_eq_self]
    intro p hp
    have := h4 i hi h0
    rw [List.any_eq_false] at this
    simpa using this p hp
  refine ⟨W', hrun, ⟨DataW.insert (.int .i64 (i : Int), .lit (.int .i64 v)) es, ?_, by rw [length_insert, h2], fun j hj => ?_, fun j hj hj0 => ?_⟩, hg⟩
  · have e : (DataW.map es).put (.int .i64 (i : Int)) (.lit (.int .i64 v)) = .map (DataW.insert (.int .i64 (i : Int), .lit (.int .i64 v)) es) := by
      show DataW.map (DataW.insert _ (es.filter _)) = _
      rw [hf]
    rw [← e]
    exact ho
  · have e : (DataW.map (DataW.insert (.int .i64 (i : Int), .lit (.int .i64 v)) es) : DataW Unit) = (DataW.map es).put (.int .i64 (i : Int)) (.lit (.int .i64 v)) := by
      show _ = DataW.map (DataW.insert _ (es.filter _))
      rw [hf]
    rw [e]
    show _ = DataW.lit (Lit.int .i64 (if j = i then v else pm j))
    by_cases hji : j = i
    · rw [hji, Go.Maps.atKey_put_same (k := .int .i64 (i : Int)) ⟨es, rfl⟩ trivial, if_pos rfl]
    · rw [Go.Maps.atKey_put_other (by intro e; simp only [Lit.int.injEq, true_and] at e; omega), h3 j hj, if_neg hji]
  · dsimp only at hj0
    by_cases hji : j = i
    · rw [if_pos hji] at hj0; omega
    · rw [if_neg hji] at hj0
      rw [any_insert, h4 j hj hj0, Bool.or_false]
      exact Go.Maps.sameKey_ne (by intro e; simp only [Lit.int.injEq, true_and] at e; omega)
end Go.Proofs.YtcgncdpohaoejafDoor
