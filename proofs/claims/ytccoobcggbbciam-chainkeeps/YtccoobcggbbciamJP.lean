import Derived.Test.YtccoobcggbbciamTK
import Derived.OwnWalk
import Derived.Test.YtccoobcggbbciamFX
import Derived.Maps.AppendAt
namespace Go.Proofs.Ytccoobcggbbciam
open Go.ChangeShapes Go.WideShapes Go.ChangeAt Go.RowKit

theorem ownsRow_same {w w' : World} {B n size : Nat} {e : TypeId} {v : Value} {xs : List Value} (h : w.ownsRow B e size v n xs) (hs : ∀ k, B ≤ k → k < w.heap.size → w'.heap[k]? = w.heap[k]?) : w'.ownsRow B e size v n xs := by
  obtain ⟨hl, h | ⟨g, cap, cur, he, hb, hg, hr⟩⟩ := h
  · exact ⟨hl, .inl h⟩
  · exact ⟨hl, .inr ⟨g, cap, cur, he, hb, (hs g hb (Array.getElem?_eq_some_iff.1 hg).1).trans hg, hr⟩⟩

theorem rowArg {α : Type} {f : α → List Value} {w w1 : World} {l : List α} {ad : Option Addr} (h : l = [] ∨ ∃ b o, ad = some ⟨b, o, none⟩ ∧ ∀ q u, (l.flatMap f)[q]? = some u → w.cell? ⟨b, o + q, none⟩ = some u) (hb : Below w.heap.size w w1) : ∀ ad', ad = some ad' → ∀ j u, (l.flatMap f)[j]? = some u → w1.cell? (ad'.add j) = some u := by
  intro ad' hd j u hj
  rcases h with h2 | ⟨b, o, h2, h3⟩
  · subst h2; simp at hj
  · rw [hd] at h2
    cases h2
    rw [Addr.add_lit]
    exact below_cell hb (h3 j u hj)

theorem infoTa : (Try.prog.info? 85).map (fun i => (i.zero, i.size, i.bytes)) = some (some (.agg #[.string ⟨#[]⟩, .int .i64 0, .int .i64 0, .int .i64 0, .int .i64 0, .int .i64 0, .int .i64 0]), 7, 64) := by kernel_rfl

theorem flatOneTa {l : List Ta} {u : Value} (h : u ∈ l.flatMap Ta.vals) : u.oneCell' = true := by
  obtain ⟨x, h⟩ := flat_mem h
  exact Ta.one h

end Go.Proofs.Ytccoobcggbbciam
namespace Go.Proofs.Ytccoobcggbbciam
open Go.ChangeShapes Go.WideShapes Go.ChangeAt Go.RowKit

theorem info3 : (Try.prog.info? 3).map (fun i => (i.zero, i.size, i.bytes)) = some (some (.int .i64 0), 1, 8) := by kernel_rfl

theorem flatOneN {l : List Int} {u : Value} (h : u ∈ l.flatMap nuV) : u.oneCell' = true := by
  obtain ⟨x, h⟩ := flat_mem h
  simp only [nuV, List.mem_singleton] at h
  subst h
  rfl

theorem ownsRow_below {w w' : World} {B n size : Nat} {e : TypeId} {v : Value} {xs : List Value} (h : w.ownsRow B e size v n xs) (hb : Below w.heap.size w w') : w'.ownsRow B e size v n xs := ownsRow_same h (fun k _ hk => hb.block k hk)

end Go.Proofs.Ytccoobcggbbciam
namespace Go.Proofs.Ytccoobcggbbciam
open Go.ChangeShapes Go.WideShapes Go.ChangeAt Go.RowKit

theorem owns_value {w : World} {B n size : Nat} {e : TypeId} {v : Value} {xs : List Value} (h : w.ownsRow B e size v n xs) : ∃ ad c, v = .slice ad n c := by
  obtain ⟨hl, ⟨h, hn⟩ | ⟨g, cap, cur, he, -⟩⟩ := h
  · exact ⟨none, 0, by rw [h]; simp_all⟩
  · exact ⟨_, _, he⟩

end Go.Proofs.Ytccoobcggbbciam
