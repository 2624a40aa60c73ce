import Derived.Test.YtccoobcggbbciakDoorKH0
import Derived.Lib.Join
namespace Go.Proofs.YtccoobcggbbciakDoor
open Go.ChangeShapes Go.WideShapes Go.ChangeAt Go.RowKit

theorem okFrom_snoc : ∀ (b : Int) (l : List Ev) (x : Ev), okFrom b (l ++ [x]) ↔ okFrom b l ∧ standsE x ∧ (match l.getLast? with | some e => e.at_ | none => b) ≤ x.at_
  | b, [], x => by simp [okFrom]
  | b, e :: r, x => by
    have ih := okFrom_snoc e.at_ r x
    rw [List.cons_append, okFrom, okFrom, ih]
    cases hr : r.getLast? with
    | none =>
      have : r = [] := List.getLast?_eq_none_iff.1 hr
      subst this
      simp [okFrom, and_assoc]
    | some y =>
      have h2 : (e :: r).getLast? = some y := by rw [List.getLast?_cons, hr]; rfl
      rw [h2]
      simp [and_assoc]

theorem okFrom_next (l : List Ev) (x : Ev) : okFrom 0 (l ++ [x]) ↔ okFrom 0 l ∧ followsB l x = true := by
  rw [okFrom_snoc]
  unfold followsB lastE
  rw [standsB_is]
  cases hr : l.getLast? with
  | none =>
    have : l = [] := List.getLast?_eq_none_iff.1 hr
    subst this
    simp
    intro _ h
    exact h.2.2.1
  | some y =>
    have hl : l.length ≠ 0 := by
      intro e
      rw [List.eq_nil_of_length_eq_zero e] at hr
      cases hr
    simp [hl]
    intro _
    exact And.comm

theorem okFrom_take : ∀ (b : Int) (l : List Ev) (k : Nat), okFrom b l → okFrom b (l.take k)
  | _, [], _, _ => by simp [okFrom]
  | _, _ :: _, 0, _ => by simp [okFrom]
  | _, e :: r, k + 1, h => by
    rw [List.take_succ_cons, okFrom]
    exact ⟨h.1, h.2.1, okFrom_take e.at_ r k h.2.2⟩

theorem print_stop {l : List Ev} {j : Nat} {x : Ev} (hx : l[j]? = some x) (h : followsB (l.take j) x = false) : printE l = [] := by
  unfold printE
  rw [if_neg]
  intro ho
  have h1 := okFrom_take 0 l (j + 1) ho
  rw [List.take_add_one, hx] at h1
  have h2 := ((okFrom_next _ _).1 h1).2
  rw [h] at h2
  cases h2

theorem print_all {l : List Ev} (h : okFrom 0 l) : printE l = l.flatMap lineE := by unfold printE; rw [if_pos h]

theorem follows_stands {l : List Ev} {x : Ev} (h : followsB l x = true) : standsE x := by
  unfold followsB at h
  rw [standsB_is, Bool.and_eq_true] at h
  exact of_decide_eq_true h.2

theorem ok_stands : ∀ {b : Int} {l : List Ev}, okFrom b l → ∀ x ∈ l, standsE x
  | _, [], _, _, hx => by cases hx
  | _, e :: r, h, x, hx => by
    rcases List.mem_cons.1 hx with rfl | hx
    · exact h.1
    · exact ok_stands h.2.2 x hx

theorem itoa_20 {n : Int} (h0 : -9223372036854775808 ≤ n) (h1 : n ≤ 9223372036854775807) : (Lib.itoa n).length ≤ 20 := by
  unfold Lib.itoa
  split
  · have := dec_len 18 n.natAbs (by omega)
    rw [List.length_cons]
    omega
  · have := dec_len 18 n.toNat (by omega)
    omega

theorem word_4 (k : Int) : (wordE k).length ≤ 4 := by
  unfold wordE
  split
  · decide
  · split
    · decide
    · split
      · decide
      · split
        · decide
        · split
          · decide
          · split <;> decide

theorem body_len {e : Ev} (h : standsE e) (hi : inE e) : (bodyE e).length ≤ 100 := by
  obtain ⟨h1, h6, ha0, ha1, ht0, ht1, hp, hq⟩ := h
  obtain ⟨a, k, t, m, n⟩ := e
  unfold inE at hi
  dsimp only at *
  have l1 := itoa_20 (n := a) (by omega) (by omega)
  have l2 := word_4 k
  have l3 := itoa_20 (n := t) (by omega) (by omega)
  have l4 := itoa_20 hi.1 hi.2
  unfold bodyE partsE tailE
  dsimp only
  by_cases h : k = 6
  · have hm := hp h
    have l5 := itoa_20 (n := m) (by omega) (by omega)
    rw [if_pos h]
    simp [glue]
    omega
  · rw [if_neg h]
    simp [glue]
    omega

theorem lines_len : ∀ (l : List Ev), (∀ x ∈ l, standsE x ∧ inE x) → (l.flatMap lineE).length ≤ 101 * l.length
  | [], _ => by simp
  | x :: r, h => by
    have h1 := body_len (h x (by simp)).1 (h x (by simp)).2
    have h2 := lines_len r (fun y hy => h y (List.mem_cons_of_mem _ hy))
    have h3 : (lineE x).length = (bodyE x).length + 1 := by unfold lineE; simp
    rw [List.flatMap_cons, List.length_append, List.length_cons]
    omega

theorem join_glue (c : UInt8) : ∀ (ps : List (List UInt8)), Lib.join ps [c] = glue c ps
  | [] => rfl
  | [a] => by rw [Lib.join_one]; rfl
  | a :: b :: r => by
    have ih := join_glue c (b :: r)
    rw [glue, ← ih, Lib.join_cons, Lib.join_cons]
    simp [Lib.joinTail]
end Go.Proofs.YtccoobcggbbciakDoor
