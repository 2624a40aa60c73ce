import Derived.Test.YtccoobcggbbciahDoorSLW
namespace Go.Proofs.YtccoobcggbbciahDoor.S8
open Go.ChangeShapes Go.WideShapes Go.ChangeAt Go.RowKit

/- What is wrong with jobs. -/
def okJ (x : Jb) : Prop := 0 ≤ x.a ∧ x.a ≤ 60000 ∧ 1 ≤ x.c ∧ x.c ≤ 10000 ∧ 0 ≤ x.d ∧ x.d ≤ 80000

abbrev okDec (x : Jb) : Decidable (okJ x) := by unfold okJ; exact inferInstance

def chkFrom : List Jb → Nat → Int × Int
  | [], _ => (0, 0)
  | x :: r, i => if 0 ≤ x.a ∧ x.a ≤ 60000 ∧ 1 ≤ x.c ∧ x.c ≤ 10000 ∧ 0 ≤ x.d ∧ x.d ≤ 80000 then chkFrom r (i + 1) else (3, (i : Int))

/-- chapter 8's Check. -/
def chkJ (l : List Jb) : Int × Int := if 4000 < l.length then (2, 0) else chkFrom l 0

theorem chkFrom_at {l : List Jb} {j : Nat} {x : Jb} (h : l.drop j = x :: l.drop (j + 1)) : chkFrom (l.drop j) j = if 0 ≤ x.a ∧ x.a ≤ 60000 ∧ 1 ≤ x.c ∧ x.c ≤ 10000 ∧ 0 ≤ x.d ∧ x.d ≤ 80000 then chkFrom (l.drop (j + 1)) (j + 1) else (3, (j : Int)) := by
  rw [h, chkFrom]

theorem chkFrom_ok : ∀ (l : List Jb) (i : Nat), (chkFrom l i).1 = 0 → (∀ x ∈ l, okJ x) ∧ chkFrom l i = (0, 0)
  | [], _, _ => ⟨by simp, rfl⟩
  | x :: r, i, h => by
    rw [chkFrom] at h ⊢
    by_cases hx : 0 ≤ x.a ∧ x.a ≤ 60000 ∧ 1 ≤ x.c ∧ x.c ≤ 10000 ∧ 0 ≤ x.d ∧ x.d ≤ 80000
    · rw [if_pos hx] at h ⊢
      obtain ⟨h1, h2⟩ := chkFrom_ok r (i + 1) h
      exact ⟨fun y hy => (List.mem_cons.1 hy).elim (fun e => e ▸ hx) (h1 y), h2⟩
    · rw [if_neg hx] at h
      cases h

theorem chkJ_ok {l : List Jb} (h : (chkJ l).1 = 0) : l.length ≤ 4000 ∧ (∀ x ∈ l, okJ x) ∧ chkJ l = (0, 0) := by
  unfold chkJ at h ⊢
  by_cases hn : 4000 < l.length
  · rw [if_pos hn] at h; cases h
  · rw [if_neg hn] at h ⊢
    exact ⟨by omega, chkFrom_ok l 0 h⟩
end Go.Proofs.YtccoobcggbbciahDoor.S8
