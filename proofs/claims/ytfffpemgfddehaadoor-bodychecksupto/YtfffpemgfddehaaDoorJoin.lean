import Derived.Test.YtfffpemgfddehaaDoorListW
namespace Go.Proofs.YtfffpemgfddehaaDoor

theorem bulk_pos : ∀ s : St, 1 ≤ s.bulk
  | .mk k n e ck ca cb b l => by unfold St.bulk; omega

/-- Statements by lists, lists by statements: so all lists. -/
theorem list_all (w0 : World) (hstep : ∀ N, N ≤ 1048576 → ListOk w0 N → StmtOk w0 (N + 1)) : ∀ N, N ≤ 1048576 → ListOk w0 N := by
  intro N
  induction N with
  | zero =>
    intro _
    refine list_of_stmt w0 0 (by omega) ?_
    intro s w wb B i v sv ar h
    have := bulk_pos s
    omega
  | succ N ih =>
    intro hN
    exact list_of_stmt w0 (N + 1) hN (hstep N (by omega) (ih (by omega)))
end Go.Proofs.YtfffpemgfddehaaDoor
