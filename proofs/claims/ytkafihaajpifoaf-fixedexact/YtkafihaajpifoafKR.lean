import Derived.Test.YtkafihaajpifoafKH
import Derived.Test.YtkafihaajpifoafSQH
import Derived.Test.YtkafihaajpifoafXE
import Derived.Test.YtkafihaajpifoafXS
import Derived.Test.YtkafihaajpifoafTT
namespace Go.Proofs.Ytkafihaajpifoaf
open Go.ChangeShapes Go.WideShapes Go.ChangeAt Go.RowKit

theorem zeros_row (W : World) (n : Nat) : RowSl nuV (W.alloc (.cells (zerosV n).toArray 3)) (List.replicate n 0) (.slice (some ⟨W.heap.size, 0, none⟩) n n) := by
  have e : (List.replicate n (0 : Int)).flatMap nuV = zerosV n := S8.flat_nu _
  refine ⟨some ⟨W.heap.size, 0, none⟩, n, by simp, (fun e => by cases e), by simp, .inr ⟨W.heap.size, 0, rfl, fun q u hq => ?_⟩⟩
  rw [Nat.zero_add]
  rw [e] at hq
  exact (cells_of (heap_alloc_new _ _)).1 q u hq

theorem respsFrom_zero {l : List Ta} : ∀ (bs : List Int) (k : Nat) (acc : List Int), (respsFrom l bs k acc).2.1 = 0 → (respsFrom l bs k acc).2 = (0, 0)
  | [], k, acc, _ => rfl
  | b :: r, k, acc, h => by
    unfold respsFrom at h ⊢
    by_cases hz : (respF l (k : Int) b).2.1 ≠ 0
    · rw [if_pos hz] at h; exact absurd h hz
    · rw [if_neg hz] at h ⊢; exact respsFrom_zero r (k + 1) _ h

theorem responsesF_zero {l : List Ta} {bs : List Int} (h : (responsesF l bs).2.1 = 0) : (responsesF l bs).2 = (0, 0) := by
  unfold responsesF at h ⊢
  by_cases h0 : (chkX l).1 ≠ 0
  · rw [if_pos h0] at h; exact absurd h h0
  · rw [if_neg h0] at h ⊢
    by_cases h1 : bs.length ≠ l.length
    · rw [if_pos h1] at h; cases h
    · rw [if_neg h1] at h ⊢; exact respsFrom_zero bs 0 [] h

theorem jobsFrom_zero {l : List Ta} : ∀ (cs : List Co) (acc : List Jb) (la tk : List Int) (i : Nat), (jobsFrom l acc cs la tk i).1.1 = 0 → (jobsFrom l acc cs la tk i).1 = (0, 0)
  | [], acc, la, tk, i, _ => by rw [jobsFrom_end]
  | c :: cs, acc, [], tk, i, _ => by simp [jobsFrom]
  | c :: cs, acc, a :: la, [], i, _ => by simp [jobsFrom]
  | c :: cs, acc, a :: la, b :: tk, i, h => by
    rw [jobsFrom] at h ⊢
    cases e : jobOne l c a b with
    | none => rw [e] at h; cases h
    | some x => rw [e] at h; exact jobsFrom_zero cs _ la tk (i + 1) h

theorem jobsF_zero {l : List Ta} {cs : List Co} {la tk : List Int} (h : (jobsF l cs la tk).1.1 = 0) : (jobsF l cs la tk).1 = (0, 0) := by
  unfold jobsF at h ⊢
  by_cases h0 : (legF l cs).1 ≠ 0
  · rw [if_pos h0] at h; exact absurd h h0
  · rw [if_neg h0] at h ⊢
    by_cases h1 : la.length ≠ cs.length ∨ tk.length ≠ cs.length
    · rw [if_pos h1] at h; cases h
    · rw [if_neg h1] at h ⊢; exact jobsFrom_zero cs [] la tk 0 h

theorem s8chk_ok : ∀ (js : List Jb) (k : Nat), (∀ x ∈ js, S8.okJ x) → S8.chkFrom js k = (0, 0)
  | [], k, _ => rfl
  | x :: r, k, h => by
    have h0 := h x List.mem_cons_self
    unfold S8.okJ at h0
    unfold S8.chkFrom
    rw [if_pos h0]
    exact s8chk_ok r (k + 1) (fun y hy => h y (List.mem_cons_of_mem _ hy))

theorem jobs_okJ {l : List Ta} {cs : List Co} {la tk : List Int} {js : List Jb} (h : jobsF l cs la tk = ((0, 0), js)) : ∀ x ∈ js, S8.okJ x := by
  obtain ⟨hleg, hjl, hje⟩ := jobsF_ok h
  have hlk := legF_ok hleg
  have hst := (chkF_ok hlk.1).2.2
  intro x hx
  obtain ⟨i, hi, rfl⟩ := List.getElem_of_mem hx
  have hi' : i < cs.length := by omega
  obtain ⟨a, b, e, a1, a2, b1, b2⟩ := hje i cs[i] (by simp [hi'])
  have hk := hlk.2.2 cs[i] (List.getElem_mem hi')
  obtain ⟨g1, g2, g3, g4, g5, g6, g7, g8, -, -⟩ := stands_t (stands_mem hst (k := cs[i].k.toNat) (by omega))
  have e' : js[i] = _ := Option.some.inj ((List.getElem?_eq_getElem hi).symm.trans e)
  rw [e']
  have u1 : (l.getD cs[i].k.toNat ta0).j ≤ 10000 := g8
  have u2 : (l.getD cs[i].k.toNat ta0).c ≤ 10000 := g4
  have u3 : 1 ≤ (l.getD cs[i].k.toNat ta0).d := g5
  have u4 : (l.getD cs[i].k.toNat ta0).d ≤ 10000 := g6
  unfold S8.okJ
  dsimp only
  omega

theorem plE_jobs {js : List Jb} {N : Nat} (h : ∀ x ∈ js, S8.okJ x) (hl : js.length ≤ 4000) (hN : N ≤ 20000) : S8.plE js 1 (N : Int) = (0, 0) := by
  have hc : S8.chkJ js = (0, 0) := by
    unfold S8.chkJ
    rw [if_neg (by omega)]
    exact s8chk_ok js 0 h
  unfold S8.plE
  rw [if_neg (by rw [hc]; simp), if_neg (by omega), if_neg (by omega)]

end Go.Proofs.Ytkafihaajpifoaf
namespace Go.Proofs.Ytkafihaajpifoaf
open Go.ChangeShapes Go.WideShapes Go.ChangeAt Go.RowKit

/-- A fault's block that stays. -/
def FL (W : World) (G : Nat) (z1 z2 : Int) : Prop := W.heap[G]? = some (.cells #[.int .i64 z1, .int .i64 z2] 29 (0, 0))
theorem FL.grow {W W' : World} {G : Nat} {z1 z2 : Int} (h : FL W G z1 z2) (hb : Below W.heap.size W W') : FL W' G z1 z2 := (hb.block G (Array.getElem?_eq_some_iff.1 h).1).trans h
theorem FL.new (W : World) (z1 z2 : Int) : FL (W.alloc (.cells #[.int .i64 z1, .int .i64 z2] 29)) W.heap.size z1 z2 := heap_alloc_new _ _
theorem FL.cells {W : World} {G : Nat} {z1 z2 : Int} (h : FL W G z1 z2) : W.cell? ⟨G, 0, none⟩ = some (.int .i64 z1) ∧ W.cell? ⟨G, 1, none⟩ = some (.int .i64 z2) ∧ G < W.heap.size := by
  obtain ⟨c1, f1, l1⟩ := cells_of (l := [_, _]) h
  exact ⟨c1 0 _ rfl, c1 1 _ rfl, l1⟩

set_option maxRecDepth 20000 in
set_option maxHeartbeats 4000000 in
theorem responds_any (w : World) : Calls Try.prog 6 #[] w fun r w' => r = .returned (.bool true) ∧ Below w.heap.size w w' := by
  go_enter Try.func6, Try.ntmps6
  go_wp2_with (go_at_call 20; refine (three_any _).mono ?_; rintro r w1 ⟨v1, rfl, hr1, hb1⟩; obtain ⟨a1, c1, rfl⟩ := hr1.len; have H1 : Hid (Below w.heap.size w (w1.alloc (.cells #[.int .i64 0, .int .i64 0, .int .i64 0] 3))) := below_seq hb1 (below_new _ _); have HR := Responses_any (w1.alloc (.cells #[.int .i64 0, .int .i64 0, .int .i64 0] 3)) threeL [0, 0, 0] _ (.slice (some ⟨w1.heap.size, 0, none⟩) 3 3) (by decide) (hr1.below (below_new _ _)) (row_new (f := nuV) w1 [0, 0, 0] 3 #[.int .i64 0, .int .i64 0, .int .i64 0] 3 rfl rfl); rw [resps_three] at HR; clear hr1 hb1)
  go_wp2_with (go_at_call 9; refine HR.mono ?_; rintro r w2 ⟨u2, rfl, hr2, hb2⟩; obtain ⟨a2, c2, rfl⟩ := hr2.len; have H2 : Hid (Below w.heap.size w w2 ∧ RowSl nuV w2 [1, 3, 10] (.slice a2 [(1 : Int), 3, 10].length c2)) := ⟨below_seq H1.out hb2, hr2⟩; clear hb2 hr2 HR H1)
  first
    | (go_wp2_with (go_at_call 21; refine (SameN_any _ [1, 3, 10] _ _ (by decide) (H2.out.2.below (by first | exact below_new _ _ | exact below_seq (below_new _ _) (below_new _ _))) (by first | exact row_new (f := nuV) _ [1, 3, 10] 3 #[.int .i64 1, .int .i64 3, .int .i64 10] 3 rfl rfl | (have := row_new (f := nuV) (w2.alloc (.cells #[.int .i64 0, .int .i64 0] 29)) [1, 3, 10] 3 #[.int .i64 1, .int .i64 3, .int .i64 10] 3 rfl rfl; simpa using this))).mono ?_; rintro r w3 ⟨rfl, hb3⟩)
       go_ret
       exact ⟨rfl, by first | exact below_seq (below_seq H2.out.1 (below_new _ _)) hb3 | exact below_seq (below_seq (below_seq H2.out.1 (below_new _ _)) (below_new _ _)) hb3⟩)
    | fail

end Go.Proofs.Ytkafihaajpifoaf
