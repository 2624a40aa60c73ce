import Derived.Test.YtcgncdpohaoejafDoorJL
import Derived.Maps.AppendAt
namespace Go.Proofs.YtcgncdpohaoejafDoor
open Go.ChangeShapes Go.WideShapes Go.ChangeAt Go.RowKit

/- The jobs of comings. -/
def jobOne (l : List Ta) (c : Co) (a b : Int) : Option Jb := if a < 0 ∨ (l.getD c.k.toNat ta0).j < a ∨ b < 1 ∨ (l.getD c.k.toNat ta0).c < b then none else some ⟨c.k, c.a + a, b, c.a + (l.getD c.k.toNat ta0).d, (l.getD c.k.toNat ta0).p⟩

def jobsFrom (l : List Ta) : List Jb → List Co → List Int → List Int → Nat → (Int × Int) × List Jb
  | acc, c :: cs, a :: la, b :: tk, i => match jobOne l c a b with
    | none => ((3, (i : Int)), [])
    | some x => jobsFrom l (acc ++ [x]) cs la tk (i + 1)
  | acc, _, _, _, _ => ((0, 0), acc)

def jobsF (l : List Ta) (cs : List Co) (la tk : List Int) : (Int × Int) × List Jb := if (legF l cs).1 ≠ 0 then (legF l cs, []) else if la.length ≠ cs.length ∨ tk.length ≠ cs.length then ((2, 0), []) else jobsFrom l [] cs la tk 0

theorem jobsFrom_at {l : List Ta} {acc : List Jb} {cs : List Co} {la tk : List Int} {i j : Nat} {c : Co} {a b : Int} (hc : cs.drop i = c :: cs.drop (i + 1)) (ha : la.drop i = a :: la.drop (i + 1)) (hb : tk.drop i = b :: tk.drop (i + 1)) : jobsFrom l acc (cs.drop i) (la.drop i) (tk.drop i) j = match jobOne l c a b with
    | none => ((3, (j : Int)), [])
    | some x => jobsFrom l (acc ++ [x]) (cs.drop (i + 1)) (la.drop (i + 1)) (tk.drop (i + 1)) (j + 1) := by
  rw [hc, ha, hb, jobsFrom]

theorem jobsFrom_end {l : List Ta} {acc : List Jb} {la tk : List Int} {j : Nat} : jobsFrom l acc [] la tk j = ((0, 0), acc) := by
  cases la <;> cases tk <;> rfl

theorem jobsFrom_len {l : List Ta} : ∀ (cs : List Co) (acc : List Jb) (la tk : List Int) (j : Nat), (jobsFrom l acc cs la tk j).2.length ≤ acc.length + cs.length
  | [], acc, la, tk, j => by rw [jobsFrom_end]; simp
  | c :: cs, acc, la, tk, j => by
    cases la with
    | nil => simp [jobsFrom]
    | cons a la =>
      cases tk with
      | nil => simp [jobsFrom]
      | cons b tk =>
        rw [jobsFrom]
        cases jobOne l c a b with
        | none => simp
        | some x =>
          have := jobsFrom_len (l := l) cs (acc ++ [x]) la tk (j + 1)
          simp at this ⊢
          omega

theorem legFrom_ok {l : List Ta} : ∀ (r past : List Co) (i : Nat), (legFrom l past r i).1 = 0 → ∀ c ∈ r, 0 ≤ c.k ∧ c.k < (l.length : Int) ∧ 0 ≤ c.a ∧ c.a ≤ 20000
  | [], _, _, _, c, hc => by simp at hc
  | x :: r, past, i, h, c, hc => by
    rw [legFrom] at h
    by_cases hx : legOne l past x = 0
    · rw [if_pos hx] at h
      rcases List.mem_cons.1 hc with rfl | hc
      · exact legOne_ok hx
      · exact legFrom_ok r (x :: past) (i + 1) h c hc
    · rw [if_neg hx] at h
      exact absurd h hx

theorem legF_ok {l : List Ta} {cs : List Co} (h : (legF l cs).1 = 0) : (chkF l).1 = 0 ∧ cs.length ≤ 4000 ∧ ∀ c ∈ cs, 0 ≤ c.k ∧ c.k < (l.length : Int) ∧ 0 ≤ c.a ∧ c.a ≤ 20000 := by
  unfold legF at h
  by_cases h0 : (chkF l).1 ≠ 0
  · rw [if_pos h0] at h; exact absurd h h0
  · rw [if_neg h0] at h
    by_cases hn : 4000 < cs.length
    · rw [if_pos hn] at h; cases h
    · rw [if_neg hn] at h
      exact ⟨by simpa using h0, by omega, legFrom_ok cs [] 0 h⟩

theorem owns_value {w : World} {B n size : Nat} {e : TypeId} {v : Value} {xs : List Value} (h : w.ownsRow B e size v n xs) : ∃ ad c, v = .slice ad n c := by
  obtain ⟨hl, ⟨h, hn⟩ | ⟨g, cap, cur, he, -⟩⟩ := h
  · exact ⟨none, 0, by rw [h]; simp_all⟩
  · exact ⟨_, _, he⟩

theorem flat_snoc (jobs : List Jb) (x : Jb) : (jobs ++ [x]).flatMap Jb.vals = jobs.flatMap Jb.vals ++ x.vals := by simp
end Go.Proofs.YtcgncdpohaoejafDoor
