import Derived.Test.YtkafihaajpifoafSLA
namespace Go.Proofs.Ytkafihaajpifoaf.S8
open Go.ChangeShapes Go.WideShapes Go.ChangeAt Go.RowKit

/-- sched.Late. -/
theorem Late_any (w : World) (l : List Jb) (es : List Int) (v ve : Value) (ra : Option Addr) (R rc : Nat) (hv : RowSl Jb.vals w l v) (he : RowSl nuV w es ve) (hl : l.length ≤ 5000) :
    Calls Try.prog 13 #[v, .agg #[.slice ra R rc, ve]] w fun r w' => ∃ u, r = .returned (.tuple #[u, .agg #[.int .i64 (lateF l R es).1.1, .int .i64 (lateF l R es).1.2]]) ∧ w'.ownsRow (w.heap.size + 2) 3 1 u (lateF l R es).2.length ((lateF l R es).2.flatMap nuV) ∧ Below w.heap.size w w' := by
  unfold lateF
  by_cases h : es.length = l.length
  · rw [if_neg (by simpa using h)]
    exact Late_good w l es v ve ra R rc hv he h hl
  · rw [if_pos h]
    refine (Late_bad w l es v ve ra R rc hv he h).mono ?_
    rintro r w' ⟨rfl, hb⟩
    exact ⟨_, rfl, nums_nil _ _, hb⟩
end Go.Proofs.Ytkafihaajpifoaf.S8
