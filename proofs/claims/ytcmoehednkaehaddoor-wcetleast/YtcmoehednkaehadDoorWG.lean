import Derived.Test.YtcmoehednkaehadDoorWL
namespace Go.Proofs.YtcmoehednkaehadDoor
open Go.ChangeShapes Go.WideShapes Go.ChangeAt Go.RowKit

/-- What is known of an image with which nothing is wrong. -/
structure GL (l : List In) : Prop where
  len : l.length ≤ 2000
  nst : Nst l (osAt l) (clF l)
  fwd : Fwd l (clF l)
  shut : ∀ k, k < l.length → (l.getD k in0).op = 13 → (l.getD (clF l k) in0).op = 14

theorem gl_of {l : List In} (h : checkI l = (0, 0)) : GL l := by
  rw [← doc_check] at h
  obtain ⟨M, hg⟩ := good_of h
  obtain ⟨hn, h1, h2⟩ := nst_of h
  refine ⟨hg.len, hn, ⟨h1, h2, hg.form⟩, fun k hk e => ?_⟩
  have hm : k ∈ osAt l (k + 1) := by rw [hn.push k hk (.inl e)]; simp
  obtain ⟨j, a1, a2, a3, a4⟩ := osAt_shut (l.length - (k + 1)) (k + 1) hm (by rw [show k + 1 + (l.length - (k + 1)) = l.length by omega, hn.fin]; simp)
  rcases a3 with a3 | a3
  · obtain ⟨o, b1, b2, -, -, b5⟩ := hn.again j (by omega) a3
    have ho : o = k := by
      have := b1.symm.trans a4
      simpa using this
    subst ho
    rw [b5]; exact a3
  · obtain ⟨o, b1, b2, b5⟩ := hn.unlock j (by omega) a3
    have ho : o = k := by
      have := b1.symm.trans a4
      simpa using this
    subst ho
    omega

theorem GL.open_ne {l : List In} (h : GL l) {k : Nat} (hk : k < l.length) (e : (l.getD k in0).op = 14 ∨ (l.getD k in0).op = 17) : osAt l k ≠ [] := by
  rcases e with e | e
  · obtain ⟨o, b1, -⟩ := h.nst.again k hk e
    rw [b1]; simp
  · obtain ⟨o, b1, -⟩ := h.nst.unlock k hk e
    rw [b1]; simp

end Go.Proofs.YtcmoehednkaehadDoor
