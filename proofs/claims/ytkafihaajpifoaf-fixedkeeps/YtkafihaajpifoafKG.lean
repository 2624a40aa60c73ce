import Derived.Test.YtkafihaajpifoafKC
import Derived.Test.YtkafihaajpifoafKR
import Derived.Test.YtkafihaajpifoafSQI
import Derived.Test.YtkafihaajpifoafSLT
import Derived.Test.YtkafihaajpifoafTO
import Derived.WideKeyArgs
import Derived.Deep.DeepHandedRow
namespace Go.Proofs.Ytkafihaajpifoaf
open Go.ChangeShapes Go.WideShapes Go.ChangeAt Go.RowKit

theorem zeros_row (W : World) (n : Nat) : RowSl nuV (W.alloc (.cells (zerosV n).toArray 3)) (List.replicate n 0) (.slice (some ⟨W.heap.size, 0, none⟩) n n) := by
  have e : (List.replicate n (0 : Int)).flatMap nuV = zerosV n := S8.flat_nu _
  refine ⟨some ⟨W.heap.size, 0, none⟩, n, by simp, (fun e => by cases e), by simp, .inr ⟨W.heap.size, 0, rfl, fun q u hq => ?_⟩⟩
  rw [Nat.zero_add]
  rw [e] at hq
  exact (cells_of (heap_alloc_new _ _)).1 q u hq

theorem respsFrom_zero {l : List Ta} : ∀ (bs : List Int) (k : Nat) (acc : List Int), (respsFrom l bs k acc).2.1 = 0 → (respsFrom l bs k acc).2 = (0, 0)
  | [], k, acc, _ => rfl
  | b :: r, k, acc, h => by
    unfold respsFrom at h ⊢
    by_cases hz : (respF l (k : Int) b).2.1 ≠ 0
    · rw [if_pos hz] at h; exact absurd h hz
    · rw [if_neg hz] at h ⊢; exact respsFrom_zero r (k + 1) _ h

theorem responsesF_zero {l : List Ta} {bs : List Int} (h : (responsesF l bs).2.1 = 0) : (responsesF l bs).2 = (0, 0) := by
  unfold responsesF at h ⊢
  by_cases h0 : (chkX l).1 ≠ 0
  · rw [if_pos h0] at h; exact absurd h h0
  · rw [if_neg h0] at h ⊢
    by_cases h1 : bs.length ≠ l.length
    · rw [if_pos h1] at h; cases h
    · rw [if_neg h1] at h ⊢; exact respsFrom_zero bs 0 [] h

theorem jobsFrom_zero {l : List Ta} : ∀ (cs : List Co) (acc : List Jb) (la tk : List Int) (i : Nat), (jobsFrom l acc cs la tk i).1.1 = 0 → (jobsFrom l acc cs la tk i).1 = (0, 0)
  | [], acc, la, tk, i, _ => by rw [jobsFrom_end]
  | c :: cs, acc, [], tk, i, _ => by simp [jobsFrom]
  | c :: cs, acc, a :: la, [], i, _ => by simp [jobsFrom]
  | c :: cs, acc, a :: la, b :: tk, i, h => by
    rw [jobsFrom] at h ⊢
    cases e : jobOne l c a b with
    | none => rw [e] at h; cases h
    | some x => rw [e] at h; exact jobsFrom_zero cs _ la tk (i + 1) h

theorem jobsF_zero {l : List Ta} {cs : List Co} {la tk : List Int} (h : (jobsF l cs la tk).1.1 = 0) : (jobsF l cs la tk).1 = (0, 0) := by
  unfold jobsF at h ⊢
  by_cases h0 : (legF l cs).1 ≠ 0
  · rw [if_pos h0] at h; exact absurd h h0
  · rw [if_neg h0] at h ⊢
    by_cases h1 : la.length ≠ cs.length ∨ tk.length ≠ cs.length
    · rw [if_pos h1] at h; cases h
    · rw [if_neg h1] at h ⊢; exact jobsFrom_zero cs [] la tk 0 h

theorem s8chk_ok : ∀ (js : List Jb) (k : Nat), (∀ x ∈ js, S8.okJ x) → S8.chkFrom js k = (0, 0)
  | [], k, _ => rfl
  | x :: r, k, h => by
    have h0 := h x List.mem_cons_self
    unfold S8.okJ at h0
    unfold S8.chkFrom
    rw [if_pos h0]
    exact s8chk_ok r (k + 1) (fun y hy => h y (List.mem_cons_of_mem _ hy))

theorem jobs_okJ {l : List Ta} {cs : List Co} {la tk : List Int} {js : List Jb} (h : jobsF l cs la tk = ((0, 0), js)) : ∀ x ∈ js, S8.okJ x := by
  obtain ⟨hleg, hjl, hje⟩ := jobsF_ok h
  have hlk := legF_ok hleg
  have hst := (chkF_ok hlk.1).2.2
  intro x hx
  obtain ⟨i, hi, rfl⟩ := List.getElem_of_mem hx
  have hi' : i < cs.length := by omega
  obtain ⟨a, b, e, a1, a2, b1, b2⟩ := hje i cs[i] (by simp [hi'])
  have hk := hlk.2.2 cs[i] (List.getElem_mem hi')
  obtain ⟨g1, g2, g3, g4, g5, g6, g7, g8, -, -⟩ := stands_t (stands_mem hst (k := cs[i].k.toNat) (by omega))
  have e' : js[i] = _ := Option.some.inj ((List.getElem?_eq_getElem hi).symm.trans e)
  rw [e']
  have u1 : (l.getD cs[i].k.toNat ta0).j ≤ 10000 := g8
  have u2 : (l.getD cs[i].k.toNat ta0).c ≤ 10000 := g4
  have u3 : 1 ≤ (l.getD cs[i].k.toNat ta0).d := g5
  have u4 : (l.getD cs[i].k.toNat ta0).d ≤ 10000 := g6
  unfold S8.okJ
  dsimp only
  omega

theorem plE_jobs {js : List Jb} {N : Nat} (h : ∀ x ∈ js, S8.okJ x) (hl : js.length ≤ 4000) (hN : N ≤ 20000) : S8.plE js 1 (N : Int) = (0, 0) := by
  have hc : S8.chkJ js = (0, 0) := by
    unfold S8.chkJ
    rw [if_neg (by omega)]
    exact s8chk_ok js 0 h
  unfold S8.plE
  rw [if_neg (by rw [hc]; simp), if_neg (by omega), if_neg (by omega)]

set_option maxRecDepth 20000 in
set_option maxHeartbeats 8000000 in
theorem keeps_walk (w : World) (l : List Ta) (cs : List Co) (la tk : List Int) (v v2 v3 v4 : Value) (hv : RowSl Ta.vals w l v) (hv2 : RowSl Co.vals w cs v2) (hv3 : RowSl nuV w la v3) (hv4 : RowSl nuV w tk v4) :
    Calls Try.prog 3 #[v, v2, v3, v4] w fun r w' => r = .returned (.bool true) ∧ Below w.heap.size w w' := by
  obtain ⟨ad, c, rfl⟩ := hv.len
  obtain ⟨ad2, c2, rfl⟩ := hv2.len
  obtain ⟨ad3, c3, rfl⟩ := hv3.len
  obtain ⟨ad4, c4, rfl⟩ := hv4.len
  have HV : Hid (RowSl Ta.vals w l (.slice ad l.length c) ∧ RowSl Co.vals w cs (.slice ad2 cs.length c2) ∧ RowSl nuV w la (.slice ad3 la.length c3) ∧ RowSl nuV w tk (.slice ad4 tk.length c4)) := ⟨hv, hv2, hv3, hv4⟩
  clear hv hv2 hv3 hv4
  go_enter Try.func3, Try.ntmps3
  go_wp2_with (go_at_call 6; refine (responds_any _).mono ?_; rintro r w1 ⟨rfl, hb1⟩; have H1 : Hid (Below w.heap.size w w1) := hb1; clear hb1)
  go_wp2_with (go_at_call 7; refine (S8.runs_any _).mono ?_; rintro r w2 ⟨rfl, hb2⟩; have H2 : Hid (Below w.heap.size w w2) := below_seq H1.out hb2; clear hb2 H1)
  by_cases hl : l.length ≤ 5000
  · have hl' : decide ((l.length : Int) ≤ 5000) = true := by simp; omega
    by_cases hl2 : cs.length ≤ 5000
    · have hl2' : decide ((cs.length : Int) ≤ 5000) = true := by simp; omega
      have hmk := fun W => make_zeros l.length (by omega) W
      have A9 := Responses_any (w2.alloc (.cells (zerosV l.length).toArray 3)) l (List.replicate l.length 0) _ _ (by omega) (HV.out.1.below (below_seq H2.out (below_new _ _))) (zeros_row w2 l.length)
      have A10 := fun W (hb : Below w.heap.size w W) => Jobs_any W l cs la tk _ _ _ _ (HV.out.1.below hb) (HV.out.2.1.below hb) (HV.out.2.2.1.below hb) (HV.out.2.2.2.below hb)
      obtain ⟨rs, f1, f2, ER⟩ : ∃ rs f1 f2, responsesF l (List.replicate l.length 0) = (rs, (f1, f2)) := ⟨_, _, _, rfl⟩
      obtain ⟨g1, g2, js, EJ⟩ : ∃ g1 g2 js, jobsF l cs la tk = ((g1, g2), js) := ⟨_, _, _, rfl⟩
      rw [ER] at A9
      rw [EJ] at A10
      dsimp only at A9 A10
      have EE : Hid (responsesF l (List.replicate l.length 0) = (rs, (f1, f2)) ∧ jobsF l cs la tk = ((g1, g2), js)) := ⟨ER, EJ⟩
      clear ER EJ
      go_wp2_with (go_at_call 8; refine (few_any _ _).mono ?_; rintro r w5 ⟨rfl, rfl⟩; first | rw [hl'] | rw [hl2'])
      go_wp2_with (go_at_call 9; refine A9.mono ?_; rintro r w6 ⟨u6, rfl, hr6, hb6⟩; obtain ⟨a6, c6, rfl⟩ := hr6.len; have H6 : Hid (Below w.heap.size w w6 ∧ RowSl nuV w6 rs (.slice a6 rs.length c6)) := ⟨below_seq (below_seq H2.out (below_new _ _)) hb6, hr6⟩; clear hb6 hr6 A9 H2)
      by_cases hf : f1 = 0
      · by_cases hg : g1 = 0
        · subst hf hg
          obtain ⟨ER, EJ⟩ := EE.out
          have ef2 : f2 = 0 := by
            have := responsesF_zero (l := l) (bs := List.replicate l.length 0) (by rw [ER])
            rw [ER] at this
            simpa using this
          have eg2 : g2 = 0 := by
            have := jobsF_zero (l := l) (cs := cs) (la := la) (tk := tk) (by rw [EJ])
            rw [EJ] at this
            simpa using this
          subst ef2 eg2
          obtain ⟨hX, -, -⟩ := responsesF_split ER
          obtain ⟨-, -, hl1, h8, hst, -⟩ := chkX_ok hX
          obtain ⟨hleg, hjl, -⟩ := jobsF_ok EJ
          have hlk := legF_ok hleg
          have A11 := fun W (hb : Below w.heap.size w W) => lasts_any W l cs _ _ hst hl1 hl2 hlk.2.2 (HV.out.1.below hb) (HV.out.2.1.below hb)
          have hE0 := (endF_ge (l := l) cs 0).1
          obtain ⟨N, hN⟩ : ∃ N : Nat, endF l cs 0 = (N : Int) := ⟨(endF l cs 0).toNat, by omega⟩
          have HNc : Hid (∀ c ∈ cs, c.a + (Tk l c.k.toNat).d ≤ (N : Int)) := fun c hc => by rw [← hN]; exact (endF_ge (l := l) cs 0).2 c hc
          have HK : Hid ((∀ c ∈ cs, 0 ≤ c.k ∧ c.k < (l.length : Int) ∧ 0 ≤ c.a ∧ c.a ≤ 20000) ∧ js.length = cs.length ∧ ∀ x ∈ js, S8.okJ x) := ⟨hlk.2.2, hjl, jobs_okJ EJ⟩
          rw [hN] at A11
          clear ER EJ hX hst hleg hlk hN hE0 hjl
          by_cases hz : 3000 < (N : Int) ∨ 300 < cs.length
          · rw [if_pos hz] at A11
            go_wp2_with (go_at_call 10; refine (A10 _ (by first | exact H6.out.1 | exact below_seq H6.out.1 (below_new _ _))).mono ?_; rintro r w7 ⟨u7, rfl, ho7, hb7⟩; obtain ⟨a7, c7, rfl⟩ := owns_value ho7; have H7 : Hid (Below w.heap.size w w7 ∧ RowSl nuV w7 rs (.slice a6 rs.length c6) ∧ w7.ownsRow ((w6.alloc (.cells #[.int .i64 0, .int .i64 0] 29)).heap.size + 1) 60 5 (.slice a7 js.length c7) js.length (js.flatMap Jb.vals) ∧ FL w7 w6.heap.size 0 0) := ⟨below_seq H6.out.1 (below_seq (below_new _ _) hb7), H6.out.2.below (below_seq (below_new _ _) hb7), ho7, (FL.new _ _ _).grow hb7⟩; obtain ⟨f60, f61, f6l⟩ := H7.out.2.2.2.cells; have K6 : Hid (w.heap.size ≤ w6.heap.size ∧ RowSl nuV w6 rs (.slice a6 rs.length c6) ∧ Below w6.heap.size w6 w7 ∧ w6.heap.size < w7.heap.size) := ⟨H6.out.1.size, H6.out.2, below_seq (below_new _ _) hb7, f6l⟩; clear hb7 ho7 A10 H6)
            go_wp2_with (go_at_call 11; refine (A11 _ (below_seq H7.out.1 (below_new _ _))).mono ?_; rintro r w8 ⟨rfl, hb8⟩; have H8 : Hid (Below w.heap.size w w8) := below_seq (below_seq H7.out.1 (below_new _ _)) hb8; clear hb8)
            go_ret
            exact ⟨rfl, H8.out⟩
          · rw [if_neg hz] at A11
            have hNn : ¬ (N : Int) < 0 := by omega
            go_wp2_with (go_at_call 10; refine (A10 _ (by first | exact H6.out.1 | exact below_seq H6.out.1 (below_new _ _))).mono ?_; rintro r w7 ⟨u7, rfl, ho7, hb7⟩; obtain ⟨a7, c7, rfl⟩ := owns_value ho7; have H7 : Hid (Below w.heap.size w w7 ∧ RowSl nuV w7 rs (.slice a6 rs.length c6) ∧ w7.ownsRow ((w6.alloc (.cells #[.int .i64 0, .int .i64 0] 29)).heap.size + 1) 60 5 (.slice a7 js.length c7) js.length (js.flatMap Jb.vals) ∧ FL w7 w6.heap.size 0 0) := ⟨below_seq H6.out.1 (below_seq (below_new _ _) hb7), H6.out.2.below (below_seq (below_new _ _) hb7), ho7, (FL.new _ _ _).grow hb7⟩; obtain ⟨f60, f61, f6l⟩ := H7.out.2.2.2.cells; have K6 : Hid (w.heap.size ≤ w6.heap.size ∧ RowSl nuV w6 rs (.slice a6 rs.length c6) ∧ Below w6.heap.size w6 w7 ∧ w6.heap.size < w7.heap.size) := ⟨H6.out.1.size, H6.out.2, below_seq (below_new _ _) hb7, f6l⟩; clear hb7 ho7 A10 H6)
            go_wp2_with (go_at_call 11; refine (A11 _ (below_seq H7.out.1 (below_new _ _))).mono ?_; rintro r w8 ⟨rfl, hb8⟩; have H8 : Hid (Below w.heap.size w w8 ∧ RowSl nuV w8 rs (.slice a6 rs.length c6) ∧ w8.ownsRow ((w6.alloc (.cells #[.int .i64 0, .int .i64 0] 29)).heap.size + 1) 60 5 (.slice a7 js.length c7) js.length (js.flatMap Jb.vals) ∧ FL w8 w6.heap.size 0 0 ∧ FL w8 w7.heap.size 0 0) := ⟨below_seq H7.out.1 (below_seq (below_new _ _) hb8), H7.out.2.1.below (below_seq (below_new _ _) hb8), ownsRow_below H7.out.2.2.1 (below_seq (below_new _ _) hb8), H7.out.2.2.2.grow (below_seq (below_new _ _) hb8), (FL.new _ _ _).grow hb8⟩; have K8 : Hid (Below w6.heap.size w6 w8) := below_seq K6.out.2.2.1 (below_seq (below_new _ _) hb8); have A12 := S8.Play_good w8 js (.slice a7 js.length c7) 1 N true (rowOf_own H8.out.2.2.1) (by rw [plE_jobs HK.out.2.2 (by have := HK.out.2.1; omega) (by omega)]); clear hb8 H7 A11 f60 f61 f6l)
            go_wp2_with (go_at_call 12; refine A12.mono ?_; rintro r w9 ⟨v1, v2, rfl, ho⟩; obtain ⟨s, rb, eb, hp, rfl, rfl, h1, h2, hne, b1, b2⟩ := ho.out; have H9 : Hid (Below w8.heap.size w8 w9 ∧ S8.Plays js 1 true N s ∧ w9.heap[rb]? = some (.cells (s.runs.map (Value.int .i64)).toArray 3 (0, 0)) ∧ w9.heap[eb]? = some (.cells (s.ends.map (Value.int .i64)).toArray 3 (0, 0)) ∧ w8.heap.size ≤ rb ∧ w8.heap.size ≤ eb) := ⟨ho.bel, hp, h1, h2, b1, b2⟩; obtain ⟨f60, f61, f6l⟩ := (H8.out.2.2.2.1.grow ho.bel).cells; obtain ⟨f70, f71, f7l⟩ := (H8.out.2.2.2.2.grow ho.bel).cells; have f6f := (cells_of (l := [_, _]) (H8.out.2.2.2.1.grow ho.bel)).2.1; have f7f := (cells_of (l := [_, _]) (H8.out.2.2.2.2.grow ho.bel)).2.1; have ff60 := f6f 0; have ff61 := f6f 1; have ff70 := f7f 0; have ff71 := f7f 1; clear f6f f7f hp h1 h2 ho A12)
            have hlt68 : w6.heap.size < w8.heap.size := H8.out.2.2.2.1.cells.2.2
            have hlt78 : w7.heap.size < w8.heap.size := H8.out.2.2.2.2.cells.2.2
            have hne67 : w6.heap.size ≤ w7.heap.size := Nat.le_of_lt K6.out.2.2.2
            have hs6 : w.heap.size ≤ w6.heap.size := K6.out.1
            have hpl := H9.out.2.1
            have hOk := S8.plays_ok HK.out.2.2 N s hpl
            have KP := keeps_pure EE.out.1 EE.out.2 HNc.out HK.out.2.2 hpl
            have hXk : ∀ k, k < w9.heap.size → k ≠ w6.heap.size → (((w9.setCell ⟨w6.heap.size, 0, none⟩ (.int .i64 0)).setCell ⟨w6.heap.size, 1, none⟩ (.int .i64 0)).alloc (.cells #[.slice (some ⟨rb, 0, none⟩) N N, .slice (some ⟨eb, 0, none⟩) js.length js.length] 37)).heap[k]? = w9.heap[k]? := fun k hk hne => (Below.heap_alloc _ _ _ (by simpa using hk)).trans (by rw [Below.heap_setCell _ _ _ _ (by show k ≠ w6.heap.size; exact hne), Below.heap_setCell _ _ _ _ (by show k ≠ w6.heap.size; exact hne)])
            have fb9 : FB w w9 w6.heap.size := ⟨below_seq H8.out.1 H9.out.1, H8.out.2.2.2.1.grow H9.out.1, hs6⟩
            have bX : Below w.heap.size w (((w9.setCell ⟨w6.heap.size, 0, none⟩ (.int .i64 0)).setCell ⟨w6.heap.size, 1, none⟩ (.int .i64 0)).alloc (.cells #[.slice (some ⟨rb, 0, none⟩) N N, .slice (some ⟨eb, 0, none⟩) js.length js.length] 37)) := (fb9.endA (.int .i64 0) (.int .i64 0) (.cells #[.slice (some ⟨rb, 0, none⟩) N N, .slice (some ⟨eb, 0, none⟩) js.length js.length] 37)).2
            have F6 : FL (((w9.setCell ⟨w6.heap.size, 0, none⟩ (.int .i64 0)).setCell ⟨w6.heap.size, 1, none⟩ (.int .i64 0)).alloc (.cells #[.slice (some ⟨rb, 0, none⟩) N N, .slice (some ⟨eb, 0, none⟩) js.length js.length] 37)) w6.heap.size 0 0 := (fb9.endA (.int .i64 0) (.int .i64 0) (.cells #[.slice (some ⟨rb, 0, none⟩) N N, .slice (some ⟨eb, 0, none⟩) js.length js.length] 37)).1
            have b6X : Below w6.heap.size w6 (((w9.setCell ⟨w6.heap.size, 0, none⟩ (.int .i64 0)).setCell ⟨w6.heap.size, 1, none⟩ (.int .i64 0)).alloc (.cells #[.slice (some ⟨rb, 0, none⟩) N N, .slice (some ⟨eb, 0, none⟩) js.length js.length] 37)) := by
              have h0 := ((below_seq K8.out H9.out.1).setCell (p := ⟨w6.heap.size, 0, none⟩) (Nat.le_refl _) (.int .i64 0)).setCell (p := ⟨w6.heap.size, 1, none⟩) (Nat.le_refl _) (.int .i64 0)
              exact h0.alloc h0.size _
            have rX : RowSl nuV (((w9.setCell ⟨w6.heap.size, 0, none⟩ (.int .i64 0)).setCell ⟨w6.heap.size, 1, none⟩ (.int .i64 0)).alloc (.cells #[.slice (some ⟨rb, 0, none⟩) N N, .slice (some ⟨eb, 0, none⟩) js.length js.length] 37)) rs (.slice a6 rs.length c6) := K6.out.2.1.below b6X
            have hne8 : w7.heap.size ≠ w6.heap.size := by have := K6.out.2.2.2; omega
            have F7 : FL (((w9.setCell ⟨w6.heap.size, 0, none⟩ (.int .i64 0)).setCell ⟨w6.heap.size, 1, none⟩ (.int .i64 0)).alloc (.cells #[.slice (some ⟨rb, 0, none⟩) N N, .slice (some ⟨eb, 0, none⟩) js.length js.length] 37)) w7.heap.size 0 0 := (hXk _ (H8.out.2.2.2.2.grow H9.out.1).cells.2.2 hne8).trans (H8.out.2.2.2.2.grow H9.out.1)
            have PX : (((w9.setCell ⟨w6.heap.size, 0, none⟩ (.int .i64 0)).setCell ⟨w6.heap.size, 1, none⟩ (.int .i64 0)).alloc (.cells #[.slice (some ⟨rb, 0, none⟩) N N, .slice (some ⟨eb, 0, none⟩) js.length js.length] 37)).heap[w9.heap.size]? = some (.cells #[.slice (some ⟨rb, 0, none⟩) N N, .slice (some ⟨eb, 0, none⟩) js.length js.length] 37 (0, 0)) := by
              have := heap_alloc_new ((w9.setCell ⟨w6.heap.size, 0, none⟩ (.int .i64 0)).setCell ⟨w6.heap.size, 1, none⟩ (.int .i64 0)) (.cells #[.slice (some ⟨rb, 0, none⟩) N N, .slice (some ⟨eb, 0, none⟩) js.length js.length] 37)
              simpa using this
            have eB : (w6.alloc (.cells #[.int .i64 0, .int .i64 0] 29)).heap.size = w6.heap.size + 1 := by simp
            have jX : RowSl Jb.vals (((w9.setCell ⟨w6.heap.size, 0, none⟩ (.int .i64 0)).setCell ⟨w6.heap.size, 1, none⟩ (.int .i64 0)).alloc (.cells #[.slice (some ⟨rb, 0, none⟩) N N, .slice (some ⟨eb, 0, none⟩) js.length js.length] 37)) js (.slice a7 js.length c7) := rowOf_own (ownsRow_same (ownsRow_below H8.out.2.2.1 H9.out.1) (fun k hk1 hk2 => hXk k hk2 (by omega)))
            have eX0 : (((w9.setCell ⟨w6.heap.size, 0, none⟩ (.int .i64 0)).setCell ⟨w6.heap.size, 1, none⟩ (.int .i64 0)).alloc (.cells #[.slice (some ⟨rb, 0, none⟩) N N, .slice (some ⟨eb, 0, none⟩) js.length js.length] 37)).heap[eb]? = some (.cells (s.ends.map (Value.int .i64)).toArray 3 (0, 0)) := (hXk eb (Array.getElem?_eq_some_iff.1 H9.out.2.2.2.1).1 (by have := H9.out.2.2.2.2.2; omega)).trans H9.out.2.2.2.1
            have eX : RowSl nuV (((w9.setCell ⟨w6.heap.size, 0, none⟩ (.int .i64 0)).setCell ⟨w6.heap.size, 1, none⟩ (.int .i64 0)).alloc (.cells #[.slice (some ⟨rb, 0, none⟩) N N, .slice (some ⟨eb, 0, none⟩) js.length js.length] 37)) s.ends (.slice (some ⟨eb, 0, none⟩) js.length js.length) := by
              have := S8.row_block eX0
              rw [hOk.ends] at this
              exact this
            have hlate : S8.lateF js N s.ends = ((0, 0), []) := by
              unfold S8.lateF
              rw [if_neg (by rw [hOk.ends]; simp), late_none js s.ends 0 (fun i x e hx he => ?_)]
              have hi : i < cs.length := by rw [← HK.out.2.1]; exact (List.getElem?_eq_some_iff.1 hx).1
              obtain ⟨e', h1, h2, h3, h4⟩ := KP i cs[i] (by simp [hi])
              obtain ⟨a, b, h5, -⟩ := (jobsF_ok EE.out.2).2.2 i cs[i] (by simp [hi])
              rw [h1] at he
              cases he
              rw [h5] at hx
              cases hx
              exact ⟨h4, by omega⟩
            have A13 := S8.Late_any _ js s.ends _ _ (some ⟨rb, 0, none⟩) N N jX eX (by have := HK.out.2.1; omega)
            rw [hlate] at A13
            have hrl : rs.length = l.length := by
              obtain ⟨-, e0, e1⟩ := responsesF_split EE.out.1
              obtain ⟨new, e2, e3, -⟩ := respsFrom_each _ 0 [] rs e1
              rw [e2, List.nil_append, e3, e0]
            have A14 := fun Y (hbw : Below w.heap.size w Y) (he : RowSl nuV Y s.ends (.slice (some ⟨eb, 0, none⟩) js.length js.length)) (hr : RowSl nuV Y rs (.slice a6 rs.length c6)) => soon_any Y cs s.ends rs _ _ _ hl2 (by omega) (by rw [hOk.ends]; exact HK.out.2.1) (fun c hc => by rw [hrl]; exact HK.out.1 c hc) (fun i c hc => by
              obtain ⟨e', h1, h2, h3, h4⟩ := KP i c hc
              have hk := HK.out.1 c (List.mem_of_getElem? hc)
              have hd := (stands_t (stands_mem (chkX_ok (responsesF_split EE.out.1).1).2.2.2.2.1 (k := c.k.toNat) (by omega))).2.2.2.2.2.1
              exact ⟨e', h1, h2, by omega, h3⟩) (HV.out.2.1.below hbw) he hr
            have GX : Hid (Below w.heap.size w (((w9.setCell ⟨w6.heap.size, 0, none⟩ (.int .i64 0)).setCell ⟨w6.heap.size, 1, none⟩ (.int .i64 0)).alloc (.cells #[.slice (some ⟨rb, 0, none⟩) N N, .slice (some ⟨eb, 0, none⟩) js.length js.length] 37)) ∧ Below w6.heap.size w6 (((w9.setCell ⟨w6.heap.size, 0, none⟩ (.int .i64 0)).setCell ⟨w6.heap.size, 1, none⟩ (.int .i64 0)).alloc (.cells #[.slice (some ⟨rb, 0, none⟩) N N, .slice (some ⟨eb, 0, none⟩) js.length js.length] 37)) ∧ FL (((w9.setCell ⟨w6.heap.size, 0, none⟩ (.int .i64 0)).setCell ⟨w6.heap.size, 1, none⟩ (.int .i64 0)).alloc (.cells #[.slice (some ⟨rb, 0, none⟩) N N, .slice (some ⟨eb, 0, none⟩) js.length js.length] 37)) w6.heap.size 0 0 ∧ FL (((w9.setCell ⟨w6.heap.size, 0, none⟩ (.int .i64 0)).setCell ⟨w6.heap.size, 1, none⟩ (.int .i64 0)).alloc (.cells #[.slice (some ⟨rb, 0, none⟩) N N, .slice (some ⟨eb, 0, none⟩) js.length js.length] 37)) w7.heap.size 0 0 ∧ (((w9.setCell ⟨w6.heap.size, 0, none⟩ (.int .i64 0)).setCell ⟨w6.heap.size, 1, none⟩ (.int .i64 0)).alloc (.cells #[.slice (some ⟨rb, 0, none⟩) N N, .slice (some ⟨eb, 0, none⟩) js.length js.length] 37)).heap[w9.heap.size]? = some (.cells #[.slice (some ⟨rb, 0, none⟩) N N, .slice (some ⟨eb, 0, none⟩) js.length js.length] 37 (0, 0)) ∧ (((w9.setCell ⟨w6.heap.size, 0, none⟩ (.int .i64 0)).setCell ⟨w6.heap.size, 1, none⟩ (.int .i64 0)).alloc (.cells #[.slice (some ⟨rb, 0, none⟩) N N, .slice (some ⟨eb, 0, none⟩) js.length js.length] 37)).heap[eb]? = some (.cells (s.ends.map (Value.int .i64)).toArray 3 (0, 0)) ∧ eb ≠ w7.heap.size ∧ s.ends.length = js.length ∧ RowSl nuV w6 rs (.slice a6 rs.length c6) ∧ w6.heap.size ≤ w7.heap.size ∧ w.heap.size ≤ w7.heap.size) := ⟨bX, b6X, F6, F7, PX, eX0, (by have := H9.out.2.2.2.2.2; omega), hOk.ends, K6.out.2.1, hne67, by omega⟩
            have h67 : w6.heap.size < w7.heap.size := K6.out.2.2.2
            have h79 : w7.heap.size < w9.heap.size := (H8.out.2.2.2.2.grow H9.out.1).cells.2.2
            clear eB hlt68 hlt78 hne67 hs6 hpl hOk KP hXk fb9 bX F6 b6X rX hne8 F7 PX jX eX0 eX hlate hrl f60 f61 f6l f70 f71 f7l ff60 ff61 ff70 ff71 H8 H9 K8 K6 hne b1 b2
            generalize (((w9.setCell ⟨w6.heap.size, 0, none⟩ (.int .i64 0)).setCell ⟨w6.heap.size, 1, none⟩ (.int .i64 0)).alloc (.cells #[.slice (some ⟨rb, 0, none⟩) N N, .slice (some ⟨eb, 0, none⟩) js.length js.length] 37)) = X at *
            generalize w9.heap.size = PB at *
            go_wp2_with (go_at_call 13; refine A13.mono ?_; rintro r w10 ⟨u10, rfl, ho10, hb10⟩; obtain ⟨a10, c10, rfl⟩ := (S8.rowOfN_own ho10).len; have HB10 : Hid (Below X.heap.size X w10) := hb10; obtain ⟨f60, f61, f6l⟩ := (GX.out.2.2.1.grow hb10).cells; obtain ⟨f70, f71, f7l⟩ := (GX.out.2.2.2.1.grow hb10).cells; have f7f := (cells_of (l := [_, _]) (GX.out.2.2.2.1.grow hb10)).2.1; have ff70 := f7f 0; have ff71 := f7f 1; obtain ⟨pc, -, pl⟩ := cells_of (l := [_, _]) ((hb10.block _ (Array.getElem?_eq_some_iff.1 GX.out.2.2.2.2.1).1).trans GX.out.2.2.2.2.1); have p0 := pc 0 _ rfl; have p1 := pc 1 _ rfl; clear f7f pc ho10 hb10 A13)
            have bY : Below w.heap.size w ((w10.setCell ⟨w7.heap.size, 0, none⟩ (.int .i64 0)).setCell ⟨w7.heap.size, 1, none⟩ (.int .i64 0)) := ((below_seq GX.out.1 HB10.out).setCell (p := ⟨w7.heap.size, 0, none⟩) GX.out.2.2.2.2.2.2.2.2.2.2 _).setCell (p := ⟨w7.heap.size, 1, none⟩) GX.out.2.2.2.2.2.2.2.2.2.2 _
            have b6Y : Below w6.heap.size w6 ((w10.setCell ⟨w7.heap.size, 0, none⟩ (.int .i64 0)).setCell ⟨w7.heap.size, 1, none⟩ (.int .i64 0)) := ((below_seq GX.out.2.1 HB10.out).setCell (p := ⟨w7.heap.size, 0, none⟩) GX.out.2.2.2.2.2.2.2.2.2.1 _).setCell (p := ⟨w7.heap.size, 1, none⟩) GX.out.2.2.2.2.2.2.2.2.2.1 _
            have eY : RowSl nuV ((w10.setCell ⟨w7.heap.size, 0, none⟩ (.int .i64 0)).setCell ⟨w7.heap.size, 1, none⟩ (.int .i64 0)) s.ends (.slice (some ⟨eb, 0, none⟩) js.length js.length) := by
              have h0 := (HB10.out.block _ (Array.getElem?_eq_some_iff.1 GX.out.2.2.2.2.2.1).1).trans GX.out.2.2.2.2.2.1
              have h1 : ((w10.setCell ⟨w7.heap.size, 0, none⟩ (.int .i64 0)).setCell ⟨w7.heap.size, 1, none⟩ (.int .i64 0)).heap[eb]? = some (.cells (s.ends.map (Value.int .i64)).toArray 3 (0, 0)) := by
                rw [Below.heap_setCell _ _ _ _ (by show eb ≠ w7.heap.size; exact GX.out.2.2.2.2.2.2.1), Below.heap_setCell _ _ _ _ (by show eb ≠ w7.heap.size; exact GX.out.2.2.2.2.2.2.1)]
                exact h0
              have := S8.row_block h1
              rw [GX.out.2.2.2.2.2.2.2.1] at this
              exact this
            have B14 := A14 _ bY eY (GX.out.2.2.2.2.2.2.2.2.1.below b6Y)
            have HbY : Hid (Below w.heap.size w ((w10.setCell ⟨w7.heap.size, 0, none⟩ (.int .i64 0)).setCell ⟨w7.heap.size, 1, none⟩ (.int .i64 0))) := bY
            clear bY b6Y eY A14 GX
            go_wp2_with (go_at_call 14; refine B14.mono ?_; rintro r w11 ⟨rfl, hb11⟩)
            first
              | (go_ret
                 exact ⟨rfl, below_seq HbY.out hb11⟩)
              | fail
        · subst hf
          have hgb : (g1 != 0) = true := by simpa using hg
          go_wp2_with (go_at_call 10; refine (A10 _ (by first | exact H6.out.1 | exact below_seq H6.out.1 (below_new _ _))).mono ?_; rintro r w7 ⟨u7, rfl, ho7, hb7⟩; obtain ⟨a7, c7, rfl⟩ := owns_value ho7; have H7 : Hid (Below w.heap.size w w7 ∧ RowSl nuV w7 rs (.slice a6 rs.length c6) ∧ w7.ownsRow ((w6.alloc (.cells #[.int .i64 0, .int .i64 f2] 29)).heap.size + 1) 60 5 (.slice a7 js.length c7) js.length (js.flatMap Jb.vals) ∧ FL w7 w6.heap.size 0 f2) := ⟨below_seq H6.out.1 (below_seq (below_new _ _) hb7), H6.out.2.below (below_seq (below_new _ _) hb7), ho7, (FL.new _ _ _).grow hb7⟩; obtain ⟨f60, f61, f6l⟩ := H7.out.2.2.2.cells; have K6 : Hid (w.heap.size ≤ w6.heap.size ∧ RowSl nuV w6 rs (.slice a6 rs.length c6) ∧ Below w6.heap.size w6 w7 ∧ w6.heap.size < w7.heap.size) := ⟨H6.out.1.size, H6.out.2, below_seq (below_new _ _) hb7, f6l⟩; clear hb7 ho7 A10 H6)
          go_ret
          exact ⟨rfl, below_seq H7.out.1 (below_new _ _)⟩
      · have hfb : (f1 != 0) = true := by simpa using hf
        go_wp2_with (go_at_call 10; refine (A10 _ (by first | exact H6.out.1 | exact below_seq H6.out.1 (below_new _ _))).mono ?_; rintro r w7 ⟨u7, rfl, ho7, hb7⟩; obtain ⟨a7, c7, rfl⟩ := owns_value ho7; have H7 : Hid (Below w.heap.size w w7 ∧ RowSl nuV w7 rs (.slice a6 rs.length c6) ∧ w7.ownsRow ((w6.alloc (.cells #[.int .i64 f1, .int .i64 f2] 29)).heap.size + 1) 60 5 (.slice a7 js.length c7) js.length (js.flatMap Jb.vals) ∧ FL w7 w6.heap.size f1 f2) := ⟨below_seq H6.out.1 (below_seq (below_new _ _) hb7), H6.out.2.below (below_seq (below_new _ _) hb7), ho7, (FL.new _ _ _).grow hb7⟩; obtain ⟨f60, f61, f6l⟩ := H7.out.2.2.2.cells; have K6 : Hid (w.heap.size ≤ w6.heap.size ∧ RowSl nuV w6 rs (.slice a6 rs.length c6) ∧ Below w6.heap.size w6 w7 ∧ w6.heap.size < w7.heap.size) := ⟨H6.out.1.size, H6.out.2, below_seq (below_new _ _) hb7, f6l⟩; clear hb7 ho7 A10 H6)
        go_ret
        exact ⟨rfl, below_seq H7.out.1 (below_new _ _)⟩
    · have hl2' : decide ((cs.length : Int) ≤ 5000) = false := by simp; omega
      go_wp2_with (go_at_call 8; refine (few_any _ _).mono ?_; rintro r w5 ⟨rfl, rfl⟩; first | rw [hl'] | rw [hl2'])
      go_ret
      exact ⟨rfl, H2.out⟩
  · have hl' : decide ((l.length : Int) ≤ 5000) = false := by simp; omega
    go_wp2_with (go_at_call 8; refine (few_any _ _).mono ?_; rintro r w5 ⟨rfl, rfl⟩; rw [hl'])
    go_ret
    exact ⟨rfl, H2.out⟩
end Go.Proofs.Ytkafihaajpifoaf
namespace Go.Proofs.Ytkafihaajpifoaf
open Go.ChangeShapes Go.WideShapes Go.ChangeAt Go.RowKit

theorem cells40 : Try.prog.cellsOf 49 = 2 := by kernel_rfl

section
variable {H : Type} {enc : TypeId × Value → H} {w : World} {sp : Nat → Bool} {held : Bool}

/-- A coming that can be read. -/
theorem co_one {n : Nat} {cs : List Value} {y : DataW H × List MemPlace} (hl : cs.length = 2) (h : DataW.trod enc Try.prog w 0 sp held n 49 cs = some y) : ∃ x : Co, cs = x.vals ∧ y.1 = .agg [.lit (.int .i64 x.k), .lit (.int .i64 x.a)] := by
  match cs, hl with
  | [c0, c1], _ =>
    obtain ⟨xs, n1, rfl, hy, -, hlen, hf⟩ := DataW.trod_struct Try.underlying49 h
    match xs, hlen with
    | [y0, y1], _ =>
      have f0 : DataW.trod enc Try.prog w 0 sp held n1 3 ((([c0, c1] : List Value).drop 0).take (Try.prog.cellsOf 3)) = some y0 := hf 0 _ rfl
      have f1 : DataW.trod enc Try.prog w 0 sp held n1 3 ((([c0, c1] : List Value).drop 1).take (Try.prog.cellsOf 3)) = some y1 := hf 1 _ rfl
      rw [cells3] at f0 f1
      obtain ⟨k0, e0, g0, -⟩ := DataW.trod_int Try.underlying3 (show DataW.trod enc Try.prog w 0 sp held n1 3 [c0] = some y0 from f0)
      obtain ⟨k1, e1, g1, -⟩ := DataW.trod_int Try.underlying3 (show DataW.trod enc Try.prog w 0 sp held n1 3 [c1] = some y1 from f1)
      simp only [List.cons.injEq, and_true] at e0 e1
      refine ⟨⟨k0, k1⟩, by rw [e0, e1]; rfl, ?_⟩
      rw [hy, g0, g1]
      rfl

theorem co_row {n : Nat} (g : Nat) : ∀ (elems : List (DataW H × List MemPlace)) (o : Nat),
    (∀ i, i < elems.length → (w.cells? 0 ⟨g, o + i * 2, none⟩ 2).bind (DataW.trod enc Try.prog w 0 sp held n 49) = elems[i]?) →
    ∃ l : List Co, l.length = elems.length ∧ ∀ q u, (l.flatMap Co.vals)[q]? = some u → w.cell? ⟨g, o + q, none⟩ = some u
  | [], o, _ => ⟨[], rfl, fun q u hq => by simp at hq⟩
  | y :: r, o, h => by
    have h0 := h 0 (by simp)
    simp only [Nat.zero_mul, Nat.add_zero, List.getElem?_cons_zero] at h0
    obtain ⟨cs, hc, ht⟩ := Option.bind_eq_some_iff.1 h0
    obtain ⟨hlen, hcell⟩ := cells_at hc
    obtain ⟨x, rfl, -⟩ := co_one hlen ht
    obtain ⟨l, hl, hrow⟩ := co_row g r (o + 2) (fun i hi => by
      have := h (i + 1) (by simp; omega)
      rw [show o + (i + 1) * 2 = o + 2 + i * 2 by omega] at this
      simpa using this)
    refine ⟨x :: l, by simp [hl], fun q u hq => ?_⟩
    · rw [List.flatMap_cons] at hq
      by_cases h7 : q < 2
      · rw [List.getElem?_append_left (by rw [Co.len]; exact h7)] at hq
        rw [hcell q h7]
        exact hq
      · rw [List.getElem?_append_right (by rw [Co.len]; omega), Co.len] at hq
        have := hrow (q - 2) u hq
        rw [show o + 2 + (q - 2) = o + q by omega] at this
        exact this

/-- A slice of comings that can be read. -/
theorem coSl_of_trod {ad : Option Addr} {n c : Nat} {d : DataW H} {ps : List MemPlace} (h : DataW.Trod enc Try.prog w 0 sp held 23 (.slice ad n c) d ps) : ∃ l : List Co, n = l.length ∧ RowSl Co.vals w l (.slice ad n c) := by
  obtain ⟨q, hq⟩ := h
  have hcs : (Value.slice ad n c).cells.toList = [.slice ad n c] := rfl
  rw [hcs] at hq
  rcases DataW.trod_slice Try.underlying23 hq with ⟨h1, -⟩ | ⟨a, len, cap, elems, rest, n2, -, h1, -, -, hlc, -, hle, hel, -, -⟩
  · simp only [List.cons.injEq, and_true, Value.slice.injEq] at h1
    obtain ⟨rfl, rfl, rfl⟩ := h1
    exact ⟨[], rfl, RowSl.nil _ _⟩
  · simp only [List.cons.injEq, and_true, Value.slice.injEq] at h1
    obtain ⟨rfl, rfl, rfl⟩ := h1
    subst hle
    simp only [cells40] at hel
    cases elems with
    | nil => exact ⟨[], rfl, ⟨_, _, rfl, (fun e => by cases e), Nat.zero_le _, .inl rfl⟩⟩
    | cons z r =>
      have hz := hel 0 (by simp)
      obtain ⟨cs0, hc0, ht0⟩ := Option.bind_eq_some_iff.1 hz
      obtain ⟨-, hlen0, hpl⟩ := World.cells?_some hc0
      obtain ⟨x, rfl, -⟩ := co_one hlen0 (by simpa using ht0)
      have hpa := plain_addr (w := w) (a := a) (v := .int .i64 x.k) (by simpa [Addr.add, Co.vals] using hpl 0 (by omega))
      obtain ⟨l, hl, hrow⟩ := co_row (n := n2) a.block (z :: r) a.off (fun i hi => by
        have := hel i hi
        rw [hpa, add_plain'] at this
        exact this)
      exact ⟨l, hl.symm, ⟨some a, c, by rw [hl], (fun e => by cases e), by omega, .inr ⟨a.block, a.off, by rw [← hpa], hrow⟩⟩⟩

/-- A number that can be read. -/
theorem nu_one {n : Nat} {cs : List Value} {y : DataW H × List MemPlace} (h : DataW.trod enc Try.prog w 0 sp held n 3 cs = some y) : ∃ x : Int, cs = nuV x := by
  obtain ⟨k0, e0, -, -⟩ := DataW.trod_int Try.underlying3 h
  exact ⟨k0, e0⟩

theorem nu_row {n : Nat} (g : Nat) : ∀ (elems : List (DataW H × List MemPlace)) (o : Nat),
    (∀ i, i < elems.length → (w.cells? 0 ⟨g, o + i * 1, none⟩ 1).bind (DataW.trod enc Try.prog w 0 sp held n 3) = elems[i]?) →
    ∃ l : List Int, l.length = elems.length ∧ ∀ q u, (l.flatMap nuV)[q]? = some u → w.cell? ⟨g, o + q, none⟩ = some u
  | [], o, _ => ⟨[], rfl, fun q u hq => by simp at hq⟩
  | y :: r, o, h => by
    have h0 := h 0 (by simp)
    simp only [Nat.zero_mul, Nat.add_zero, List.getElem?_cons_zero] at h0
    obtain ⟨cs, hc, ht⟩ := Option.bind_eq_some_iff.1 h0
    obtain ⟨hlen, hcell⟩ := cells_at hc
    obtain ⟨x, rfl⟩ := nu_one ht
    obtain ⟨l, hl, hrow⟩ := nu_row g r (o + 1) (fun i hi => by
      have := h (i + 1) (by simp; omega)
      rw [show o + (i + 1) * 1 = o + 1 + i * 1 by omega] at this
      simpa using this)
    refine ⟨x :: l, by simp [hl], fun q u hq => ?_⟩
    · rw [List.flatMap_cons] at hq
      by_cases h7 : q < 1
      · rw [List.getElem?_append_left (by rw [nuV_len]; exact h7)] at hq
        rw [hcell q h7]
        exact hq
      · rw [List.getElem?_append_right (by rw [nuV_len]; omega), nuV_len] at hq
        have := hrow (q - 1) u hq
        rw [show o + 1 + (q - 1) = o + q by omega] at this
        exact this

/-- A slice of numbers that can be read. -/
theorem nuSl_of_trod {ad : Option Addr} {n c : Nat} {d : DataW H} {ps : List MemPlace} (h : DataW.Trod enc Try.prog w 0 sp held 24 (.slice ad n c) d ps) : ∃ l : List Int, n = l.length ∧ RowSl nuV w l (.slice ad n c) := by
  obtain ⟨q, hq⟩ := h
  have hcs : (Value.slice ad n c).cells.toList = [.slice ad n c] := rfl
  rw [hcs] at hq
  rcases DataW.trod_slice Try.underlying24 hq with ⟨h1, -⟩ | ⟨a, len, cap, elems, rest, n2, -, h1, -, -, hlc, -, hle, hel, -, -⟩
  · simp only [List.cons.injEq, and_true, Value.slice.injEq] at h1
    obtain ⟨rfl, rfl, rfl⟩ := h1
    exact ⟨[], rfl, RowSl.nil _ _⟩
  · simp only [List.cons.injEq, and_true, Value.slice.injEq] at h1
    obtain ⟨rfl, rfl, rfl⟩ := h1
    subst hle
    simp only [cells3] at hel
    cases elems with
    | nil => exact ⟨[], rfl, ⟨_, _, rfl, (fun e => by cases e), Nat.zero_le _, .inl rfl⟩⟩
    | cons z r =>
      have hz := hel 0 (by simp)
      obtain ⟨cs0, hc0, ht0⟩ := Option.bind_eq_some_iff.1 hz
      obtain ⟨-, hlen0, hpl⟩ := World.cells?_some hc0
      obtain ⟨x, rfl⟩ := nu_one (by simpa using ht0)
      have hpa := plain_addr (w := w) (a := a) (v := .int .i64 x) (by simpa [Addr.add, nuV] using hpl 0 (by omega))
      obtain ⟨l, hl, hrow⟩ := nu_row (n := n2) a.block (z :: r) a.off (fun i hi => by
        have := hel i hi
        rw [hpa, add_plain'] at this
        exact this)
      exact ⟨l, hl.symm, ⟨some a, c, by rw [hl], (fun e => by cases e), by omega, .inr ⟨a.block, a.off, by rw [← hpa], hrow⟩⟩⟩
end


theorem own : ownKnob Try.prog.godebug = none := by kernel_rfl
theorem laidOut : laidOutB Try.prog = true := by kernel_rfl
theorem reads22 : Try.prog.readableRec 22 = true := by kernel_rfl
theorem lt22 : 22 < Try.prog.types.size := of_decide_eq_true (by kernel_rfl)
theorem reads23 : Try.prog.readableRec 23 = true := by kernel_rfl
theorem lt23 : 23 < Try.prog.types.size := of_decide_eq_true (by kernel_rfl)
theorem reads24 : Try.prog.readableRec 24 = true := by kernel_rfl
theorem lt24 : 24 < Try.prog.types.size := of_decide_eq_true (by kernel_rfl)

set_option maxRecDepth 20000 in
theorem contractK (H : Type) (enc : TypeId × Value → H) (W : World) (base : Nat) (args : Array Value) (ds gs : List (DataW H)) (before : List MemPlace)
    (hval : ∀ (j : Nat) t v, Try.f3.params[j]? = some t → args[j]? = some v → Value.okWide Try.prog W .any base t v)
    (hW : DataW.Whole enc Try.prog Try.f3.params.toList Rows.fixedKeepsSpec.vars false W args.toList ds gs before) :
    Calls Try.prog 3 args W fun e W' => ∃ v, e = .returned v ∧ Rows.fixedKeepsSpec.post enc Try.prog Try.f3 false true false false W args v W' := by
  have hW' := hW
  obtain ⟨p, q, hA0, hV, rfl, hfz, hnd⟩ := hW
  have hA : DataW.TrodAll enc Try.prog W 0 (fun _ => true) true Try.f3.params.toList args.toList ds p := hA0
  rw [Try.params3] at hA hval
  obtain ⟨v0, vs0, d0, ds0, p0, q0, hargs, rfl, rfl, h0, r0⟩ := trodAll_cons hA
  obtain ⟨v1, vs1, d1, ds1, p1, q1, hargs1, rfl, rfl, h1, r1⟩ := trodAll_cons r0
  obtain ⟨v2, vs2, d2, ds2, p2, q2, hargs2, rfl, rfl, h2, r2⟩ := trodAll_cons r1
  obtain ⟨v3, vs3, d3, ds3, p3, q3, hargs3, rfl, rfl, h3, r3⟩ := trodAll_cons r2
  obtain ⟨rfl, rfl, rfl⟩ := trodAll_nil r3
  obtain rfl : args = #[v0, v1, v2, v3] := Array.toList_inj.1 (by rw [hargs, hargs1, hargs2, hargs3])
  obtain ⟨rfl, rfl⟩ := trodVars_none hV
  obtain ⟨ad, len, cap, rfl⟩ := okWide_slice Try.underlying22 (hval 0 22 v0 (by simp) (by simp))
  obtain ⟨ad1, len1, cap1, rfl⟩ := okWide_slice Try.underlying23 (hval 1 23 v1 (by simp) (by simp))
  obtain ⟨ad2, len2, cap2, rfl⟩ := okWide_slice Try.underlying24 (hval 2 24 v2 (by simp) (by simp))
  obtain ⟨ad3, len3, cap3, rfl⟩ := okWide_slice Try.underlying24 (hval 3 24 v3 (by simp) (by simp))
  clear hA0 hargs hargs1 hargs2 hargs3
  simp only [List.append_nil] at hW'
  obtain ⟨l, rfl, -, hsl⟩ := taSl_of_trod h0
  obtain ⟨cs, rfl, hcs⟩ := coSl_of_trod h1
  obtain ⟨la, rfl, hla⟩ := nuSl_of_trod h2
  obtain ⟨tk, rfl, htk⟩ := nuSl_of_trod h3
  refine (keeps_walk W l cs la tk _ _ _ _ hsl hcs hla htk).mono fun e W' ⟨he, hbel⟩ => ?_
  subst he
  have hlt0 : ∀ x ∈ p0, x.block < W.heap.size := fun x hx => by
    obtain ⟨n, hn⟩ := h0
    exact DataW.trod_lt n _ _ _ hn x hx
  have hlt1 : ∀ x ∈ p1, x.block < W.heap.size := fun x hx => by
    obtain ⟨n, hn⟩ := h1
    exact DataW.trod_lt n _ _ _ hn x hx
  have hlt2 : ∀ x ∈ p2, x.block < W.heap.size := fun x hx => by
    obtain ⟨n, hn⟩ := h2
    exact DataW.trod_lt n _ _ _ hn x hx
  have hlt3 : ∀ x ∈ p3, x.block < W.heap.size := fun x hx => by
    obtain ⟨n, hn⟩ := h3
    exact DataW.trod_lt n _ _ _ hn x hx
  refine ⟨_, rfl, [d0, d1, d2, d3], [], p0 ++ (p1 ++ (p2 ++ p3)), [], p0 ++ (p1 ++ (p2 ++ p3)), [], hW', trodAll_mk1 (shut_bool Try.underlying4 _), ?_, rfl, hbel.frame _, fun h => by cases h⟩
  have s0 := WideElems.Trod_stays (W' := W') (sp' := fun b => decide (b < W.heap.size)) laidOut reads22 lt22 h0 (fun x hx => hbel.same (hlt0 x hx)) (fun x hx => by simpa using hlt0 x hx)
  have s1 := WideElems.Trod_stays (W' := W') (sp' := fun b => decide (b < W.heap.size)) laidOut reads23 lt23 h1 (fun x hx => hbel.same (hlt1 x hx)) (fun x hx => by simpa using hlt1 x hx)
  have s2 := WideElems.Trod_stays (W' := W') (sp' := fun b => decide (b < W.heap.size)) laidOut reads24 lt24 h2 (fun x hx => hbel.same (hlt2 x hx)) (fun x hx => by simpa using hlt2 x hx)
  have s3 := WideElems.Trod_stays (W' := W') (sp' := fun b => decide (b < W.heap.size)) laidOut reads24 lt24 h3 (fun x hx => hbel.same (hlt3 x hx)) (fun x hx => by simpa using hlt3 x hx)
  have e1 := trodAll_cons_mk s0 (trodAll_cons_mk s1 (trodAll_cons_mk s2 (trodAll_cons_mk s3 (trodAll_mk0 (enc := enc) (P := Try.prog) (w := W') (base := 0) (spare := fun b => decide (b < W.heap.size)) (held := true)))))
  rw [List.append_nil] at e1
  exact e1

theorem laid_metK (os : Os) : laidMet Try.prog Rows.fixedKeepsRow.laid ((World.holding Try.prog os ⟨#[], #[], []⟩).forCall (fun _ _ => 0) ⟨#[], #[.slice none 0 0, .slice none 0 0, .slice none 0 0, .slice none 0 0], []⟩).memory :=
  laidMet_of_run' 8 (by kernel_rfl) (by kernel_rfl)
theorem readsK (os : Os) {H : Type} (enc : TypeId × Value → H) : ∃ places, DataW.whole enc Try.prog ((World.holding Try.prog os ⟨#[], #[], []⟩).forCall (fun _ _ => 0) ⟨#[], #[.slice none 0 0, .slice none 0 0, .slice none 0 0, .slice none 0 0], []⟩).memory Try.f3.params.toList Rows.fixedKeepsSpec.vars false #[Value.slice none 0 0, .slice none 0 0, .slice none 0 0, .slice none 0 0].toList 8 = some ([.nil, .nil, .nil, .nil], [], places) :=
  ⟨[], by kernel_rfl⟩

set_option maxRecDepth 100000 in
theorem liftedK (os : Os) (started : os.Started) (H : Type) (enc : TypeId × Value → H) (F : Stop.Interp) :
    ReturnsInHanded {} Try.checked os 3 .any ((OpenSpec.ofChange Rows.fixedKeepsSpec).preRow enc Try.prog Try.f3 Rows.fixedKeepsRow.domain false Rows.fixedKeepsRow.laid) (((OpenSpec.ofChange Rows.fixedKeepsSpec).at F).post enc Try.prog Try.f3 false true false false) := by
  obtain ⟨places, hx⟩ := readsK os enc
  refine returnsInHanded_of_row (C := Try.checked) (s := OpenSpec.ofChange Rows.fixedKeepsSpec) own started (by kernel_rfl) Try.func3
    (witness_row_at (enc := enc) (C := Try.checked) false (World.holding Try.prog os ⟨#[], #[], []⟩) #[.slice none 0 0, .slice none 0 0, .slice none 0 0, .slice none 0 0] rfl (by kernel_rfl) (by kernel_rfl) (by kernel_rfl)
      (OpenSpec.preRow_of_cond 8 hx (by kernel_rfl) (fun k hk => by cases hk) (by kernel_rfl) (laid_metK os))) ?_
  intro W base args ds gs before hval hW _ _ _ _ _ _
  exact contractK H enc W base args ds gs before hval hW

theorem fixedKeeps_said : Rows.FixedKeepsSaid :=
  OpenClaim.holds_of_cond 3 Try.f3 rfl rfl rfl rfl rfl rfl rfl ⟨rfl, rfl, rfl, rfl, rfl⟩ rfl rfl rfl rfl rfl (by kernel_rfl) Try.func3 (by kernel_rfl)
    (of_decide_eq_true (by kernel_rfl)) (by unfold Func.isWrapper; first | (rw [if_pos (by decide +kernel)]; kernel_rfl) | (rw [if_neg (by decide +kernel)]; exact ⟨rfl, rfl⟩))
    (fun os started H enc _ F => by rw [OpenClaim.pre_eq_preRow]; exact liftedK os started H enc F)
end Go.Proofs.Ytkafihaajpifoaf
