import Derived.Test.YtccoobcggbbciahDoorTK
import Derived.OwnWalk
namespace Go.Proofs.YtccoobcggbbciahDoor
open Go.ChangeShapes Go.WideShapes Go.ChangeAt Go.RowKit

theorem ownsRow_same {w w' : World} {B n size : Nat} {e : TypeId} {v : Value} {xs : List Value} (h : w.ownsRow B e size v n xs) (hs : ∀ k, B ≤ k → k < w.heap.size → w'.heap[k]? = w.heap[k]?) : w'.ownsRow B e size v n xs := by
  obtain ⟨hl, h | ⟨g, cap, cur, he, hb, hg, hr⟩⟩ := h
  · exact ⟨hl, .inl h⟩
  · exact ⟨hl, .inr ⟨g, cap, cur, he, hb, (hs g hb (Array.getElem?_eq_some_iff.1 hg).1).trans hg, hr⟩⟩

theorem rowArg {α : Type} {f : α → List Value} {w w1 : World} {l : List α} {ad : Option Addr} (h : l = [] ∨ ∃ b o, ad = some ⟨b, o, none⟩ ∧ ∀ q u, (l.flatMap f)[q]? = some u → w.cell? ⟨b, o + q, none⟩ = some u) (hb : Below w.heap.size w w1) : ∀ ad', ad = some ad' → ∀ j u, (l.flatMap f)[j]? = some u → w1.cell? (ad'.add j) = some u := by
  intro ad' hd j u hj
  rcases h with h2 | ⟨b, o, h2, h3⟩
  · subst h2; simp at hj
  · rw [hd] at h2
    cases h2
    rw [Addr.add_lit]
    exact below_cell hb (h3 j u hj)

theorem flatOneTa {l : List Ta} {u : Value} (h : u ∈ l.flatMap Ta.vals) : u.oneCell' = true := by
  obtain ⟨x, h⟩ := flat_mem h
  exact Ta.one h
end Go.Proofs.YtccoobcggbbciahDoor
