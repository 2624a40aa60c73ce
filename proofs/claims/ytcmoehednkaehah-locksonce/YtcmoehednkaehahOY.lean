import Derived.Test.YtcmoehednkaehahOW
namespace Go.Proofs.Ytcmoehednkaehah
open Go.ChangeShapes Go.WideShapes Go.ChangeAt Go.RowKit

theorem bump_none : ∀ (es : List En) (ws : List Int), (∀ e ∈ es, e.wt = -1) → bumpF es ws = ws
  | [], _, _ => rfl
  | _ :: _, [], _ => rfl
  | e :: r, z :: q, h => by rw [bumpF, if_pos (h e List.mem_cons_self), bump_none r q (fun e he => h e (List.mem_cons_of_mem _ he))]

theorem stuck_none (t : Int) : ∀ (es : List En) (en : List Int), (∀ e ∈ es, e.wt = -1) → stuckF t es en false = false
  | [], _, _ => rfl
  | _ :: _, [], _ => rfl
  | e :: r, z :: q, h => by
    rw [stuckF, stuck_none t r q (fun e he => h e (List.mem_cons_of_mem _ he)), if_pos (h e List.mem_cons_self)]
    split <;> (try split) <;> rfl

/-- locks.Play by ceilings: what is true of it. -/
theorem Play_once (w : World) (l : List Lj) (v : Value) (hv : LkSl w l v) (hok : chkLk l = (0, 0)) (U : Nat) (hU : U ≤ 20000) :
    Calls Try.prog 9 #[v, .int .i64 3, .int .i64 (U : Int)] w fun r w' => ∃ rv ev tv runs x, r = .returned (.tuple #[.agg #[rv, ev, tv, .bool false], .agg #[.int .i64 0, .int .i64 0]]) ∧ PlayW w w' l.length rv ev tv runs x ∧ runs.length = U ∧ G l U runs (nrm x) := by
  have ok : Ok l := ok_of (by rw [hok])
  refine (Play_good3 (fun now runs x => G l now runs (nrm x)) w l v hv hok U hU ?_ ?_).mono ?_
  · have h : nrm (x0 l) = x0 l := by
      unfold nrm x0
      dsimp only
      rw [List.map_map]
      rfl
    show G l 0 [] (nrm (x0 l))
    rw [h]
    exact G.start ok
  · intro w0 w' A B now runs hacts hlt hlen hti
    refine tick_gen (fun now runs x => G l now runs (nrm x)) (fun f x' => G l (now + 1) (runs ++ [f]) (nrm x')) 3 (topsF l) l.length w0 w' A B now runs ok.few (by omega) hti ?_ ?_
    · intro A' w2 rv x hr g
      exact begin_any ok w0 w2 A' rv x hr hacts now (by omega) runs g
    · intro f x' g
      have hw : ∀ e ∈ x'.es, e.wt = -1 := fun e he => g.wt (nac e) (List.mem_map.2 ⟨e, he, rfl⟩)
      have hws : x'.ws = List.replicate l.length 0 := g.ws
      refine ⟨fun z hz => ?_, ?_⟩
      · rw [hws] at hz
        have := (List.mem_replicate.1 hz).2
        omega
      · rw [bump_none _ _ hw]
        exact g
  · rintro r w' ⟨rv, ev, tv, runs, x, rfl, h1, h2, h3⟩
    refine ⟨rv, ev, tv, runs, x, ?_, h1, h2, h3⟩
    rw [stuck_none _ _ _ (fun e he => h3.wt (nac e) (List.mem_map.2 ⟨e, he, rfl⟩))]

/-- What the statement asks of each job. -/
theorem G.last {l : List Lj} {U : Nat} {runs : List Int} {x : Rs} (g : G l U runs x) {j : Nat} {xj : Lj} {z : Int} (hj : l[j]? = some xj) (hz : x.en[j]? = some z) (h0 : 0 ≤ xj.a) :
    (z = -1 ∨ (0 ≤ z ∧ z ≤ U)) ∧ heldF l runs xj.p xj.a.toNat (if z < 0 then U else z.toNat) ≤ mostF xj.p l := by
  obtain ⟨e, he⟩ := at_lt g.len (List.getElem?_eq_some_iff.1 hj).1
  rcases g.st j e z he hz with ⟨rfl, -⟩ | ⟨h1, h2, -⟩
  · refine ⟨.inl rfl, ?_⟩
    rw [if_pos (by omega)]
    by_cases ha : xj.a ≤ U
    · exact (g.up j xj hj hz ha).1
    · rw [heldF_none _ _ _ _ _ (by omega)]
      exact mostF_nonneg _ _
  · refine ⟨.inr ⟨h1, h2⟩, ?_⟩
    rw [if_neg (by omega)]
    exact g.dn j xj z hj hz (by omega)
end Go.Proofs.Ytcmoehednkaehah
