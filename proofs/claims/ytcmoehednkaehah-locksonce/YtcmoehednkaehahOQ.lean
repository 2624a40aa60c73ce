import Derived.Test.YtcmoehednkaehahOP
import Derived.Deep.LoopGhost
namespace Go.Proofs.Ytcmoehednkaehah
open Go.ChangeShapes Go.WideShapes Go.ChangeAt Go.RowKit
open Once

theorem nrm_end (x : Rs) (hs : List Int) (i : Nat) (e : En) (z : Int) (last : Bool) (hlast : last = decide (e.nx + 1 = e.x.acts.length)) :
    nrm (endF ⟨x.es.set i e, x.en, x.ws, hs⟩ i e z) = nxt (nrm x) i { nac e with nx := e.nx + 1, rn := 0 } last z hs := by
  subst hlast
  unfold endF nrm nxt
  dsimp only
  rw [List.set_set, List.map_set]
  by_cases hl : e.nx + 1 = e.x.acts.length
  · simp only [hl, decide_true, if_true]
    rfl
  · simp only [hl, decide_false, Bool.false_eq_true, if_false]
    rfl

/-- What a job does that goes first. -/
theorem act_G {l : List Lj} (ok : Ok l) (w0 w : World) (A : Ad) (rv : Value) (x : Rs) (hr : RunW w0 w A 3 (topsF l) l.length rv x) (hacts : ∀ y ∈ l, RowSl Ac.vals w0 y.acts y.v) (now : Nat) (hnow : now ≤ 20000) (runs : List Int) (g : G l now runs (nrm x)) (i : Nat) (hf : Fm (yS l) (sx (nrm x)) now i) (hen : x.en[i]? = some (-1)) :
    Calls Try.prog 35 #[.pointer (some ⟨A.R, 0, none⟩), .int .i64 (i : Int), .int .i64 (now : Int)] w fun r w' => ∃ (b : Bool) (x' : Rs), r = .returned (.bool b) ∧ RunW w0 w' A 3 (topsF l) l.length rv x' ∧ (b = true → G l (now + 1) (runs ++ [(i : Int)]) (nrm x')) ∧ (b = false → G l now runs (nrm x') ∧ mu (nrm x') < mu (nrm x)) := by
  have hi : i < l.length := hf.1.1
  obtain ⟨e, he⟩ := at_lt hr.ln.1 hi
  have hne := nrm_at he
  have hmem : e.x ∈ l := by
    have := g.mem hne
    exact this
  have hrow := hacts _ hmem
  obtain ⟨hlen, hc⟩ := ok.acts _ hmem
  have hid : ∀ m : Nat, ∀ es : List En, (∀ e ∈ es, e.wt = -1) → es.map (unF m) = es := fun m es h => by
    have : es.map (unF m) = es.map id := List.map_congr_left (fun e he => by unfold unF; rw [if_neg (by rw [h e he]; omega)]; rfl)
    rw [this, List.map_id]
  by_cases h0 : e.x.acts = []
  · obtain ⟨ad, c, hv⟩ := hrow.len
    rw [h0] at hv
    refine (act_none w0 w A 3 (topsF l) l.length rv x hr i e now he ad c hv).mono ?_
    rintro r w' ⟨rfl, hw⟩
    refine ⟨false, _, rfl, hw, (fun h => by cases h), fun _ => ?_⟩
    have e1 : nrm { x with es := x.es.set i (begF e), en := x.en.set i now } = nxt (nrm x) i (begF (nac e)) true now (nrm x).hs := by
      unfold nrm nxt
      dsimp only
      rw [List.map_set]
      rfl
    rw [e1]
    exact ⟨g.none hf hne hen h0, mu_none hne hen rfl rfl (by omega)⟩
  · have hnx : e.nx < e.x.acts.length := by
      rcases g.st i _ (-1) hne hen with ⟨-, h | h⟩ | h
      · exact h
      · exact absurd h.1 h0
      · omega
    have ha : e.x.acts[e.nx]? = some e.x.acts[e.nx] := List.getElem?_eq_getElem hnx
    generalize e.x.acts[e.nx] = a at ha
    have hfine := chkA_at _ _ _ hc _ _ ha
    have hwt : ∀ e' ∈ x.es.set i (begF e), e'.wt = -1 := by
      intro e' he'
      rcases List.mem_or_eq_of_mem_set he' with h | rfl
      · exact g.wt (nac e') (List.mem_map.2 ⟨e', h, rfl⟩)
      · exact g.wt (nac e) (List.mem_of_getElem? hne)
    obtain ⟨ad0, an⟩ := a
    generalize doS _ _ = s' at hfine
    rcases hfine with ⟨h, h1, h2⟩ | ⟨h, h1, h2, h3⟩ | ⟨h, _, h1⟩
    · dsimp only at h h1 h2
      subst h
      by_cases hm : e.rn + 1 = an
      · obtain ⟨r0, hg⟩ := g.worked ok hf hne hen ha hm
        refine (act_worked w0 w A 3 (topsF l) l.length rv x hr ok.few i e now he hrow hlen an ha hm h2 r0 (by omega) (by omega)).mono ?_
        rintro r w' ⟨rfl, hw⟩
        refine ⟨true, _, rfl, hw, fun _ => ?_, (fun h => by cases h)⟩
        rw [nrm_end x _ i _ _ _ rfl]
        exact hg
      · obtain ⟨r0, r1, hg⟩ := g.work ok hf hne hen ha hm
        refine (act_work w0 w A 3 (topsF l) l.length rv x hr ok.few i e now he hrow hlen an ha r0 r1 h2).mono ?_
        rintro r w' ⟨rfl, hw⟩
        refine ⟨true, _, rfl, hw, fun _ => ?_, (fun h => by cases h)⟩
        have e1 : nrm { x with es := x.es.set i { e with bg := true, rn := e.rn + 1 } } = nxt (nrm x) i { nac e with bg := true, rn := e.rn + 1 } false ((now : Int) + 1) (nrm x).hs := by
          unfold nrm nxt
          dsimp only
          rw [List.map_set]
          rfl
        rw [e1]
        exact hg
    · dsimp only at h h1 h2
      subst h
      obtain ⟨m, rfl⟩ : ∃ m : Nat, an = (m : Int) := ⟨an.toNat, by omega⟩
      have hm : m < 4 := by omega
      obtain ⟨q1, q2, hg⟩ := g.take ok hf hne hen hm ha
      refine (act_take w0 w A 3 (topsF l) l.length rv x hr ok.few i e now he hrow hlen m ha hm q1).mono ?_
      rintro r w' ⟨rfl, hw⟩
      refine ⟨false, _, rfl, hw, (fun h => by cases h), fun _ => ?_⟩
      rw [nrm_end x _ i _ _ false (by symm; exact decide_eq_false q2)]
      exact ⟨hg, mu_more hne hen rfl rfl hnx (by omega)⟩
    · dsimp only at h
      subst h
      have hlk := chkA_locks _ _ _ hc (fun _ h => by simp at h) e.nx an (by rw [h1]; simp)
      obtain ⟨m, rfl⟩ : ∃ m : Nat, an = (m : Int) := ⟨an.toNat, by omega⟩
      obtain ⟨hm, hg⟩ := g.give ok hf hne hen ha
      refine (act_give w0 w A 3 (topsF l) l.length rv x hr ok.few i e now he hrow hlen m ha hm).mono ?_
      rintro r w' ⟨rfl, hw⟩
      refine ⟨false, _, rfl, hw, (fun h => by cases h), fun _ => ?_⟩
      have hun : unF m (begF e) = begF e := by unfold unF; rw [if_neg (by have := g.wt (nac e) (List.mem_of_getElem? hne); change e.wt = -1 at this; show ¬ e.wt = _; omega)]
      rw [hun, hid m _ hwt, nrm_end x _ i _ _ _ rfl]
      exact ⟨hg, mu_more hne hen rfl rfl hnx (by omega)⟩

theorem G.holds {l : List Lj} {now : Nat} {runs : List Int} {x : Rs} (g : G l now runs (nrm x)) : ∀ z ∈ x.hs, z = -1 ∨ (0 ≤ z ∧ z < (l.length : Int)) := by
  intro z hz
  obtain ⟨m, hm⟩ := List.getElem?_of_mem hz
  have hm4 : m < 4 := by have := (List.getElem?_eq_some_iff.1 hm).1; have := g.nh; change x.hs.length = 4 at this; omega
  obtain ⟨z', h1, h2⟩ := g.hs m hm4
  change x.hs[m]? = some z' at h1
  rw [hm] at h1
  cases h1
  rcases h2 with ⟨h2, -⟩ | ⟨i, h2, h3, -⟩
  · exact .inl h2
  · exact .inr (by omega)

theorem nrm_up (x : Rs) (tp : List Int) : nrm { x with es := upAll x.hs tp (x.es.map loF) } = nrm x := by
  unfold nrm
  dsimp only
  rw [nac_up, nac_lo]

theorem G.nobody {l : List Lj} {now : Nat} {runs : List Int} {x : Rs} (g : G l now runs (nrm x)) (hb : Best x now l.length (-1)) : ∀ (i : Nat) (y : Lj), l[i]? = some y → (nrm x).en[i]? = some (-1) → ¬ y.a ≤ (now : Int) := by
  intro i y hy hen ha
  have hi := (List.getElem?_eq_some_iff.1 hy).1
  rcases hb with ⟨-, h⟩ | ⟨i', -, h, -⟩
  · obtain ⟨e, he⟩ : ∃ e, x.es[i]? = some e := ⟨_, List.getElem?_eq_getElem (by have := g.len; unfold nrm at this; simp at this; omega)⟩
    have hj := g.job (nrm_at he)
    rw [hy] at hj
    cases hj
    exact h i hi ⟨e, he, hen, ha, g.wt (nac e) (List.mem_of_getElem? (nrm_at he))⟩
  · omega

set_option maxRecDepth 20000 in
set_option maxHeartbeats 2000000 in
/-- What is done at a tick, till one works. -/
theorem begin_any {l : List Lj} (ok : Ok l) (w0 w : World) (A : Ad) (rv : Value) (x : Rs) (hr : RunW w0 w A 3 (topsF l) l.length rv x) (hacts : ∀ y ∈ l, RowSl Ac.vals w0 y.acts y.v) (now : Nat) (hnow : now ≤ 20000) (runs : List Int) (g : G l now runs (nrm x)) :
    Calls Try.prog 30 #[.pointer (some ⟨A.R, 0, none⟩), .int .i64 (now : Int)] w fun r w' => ∃ (f : Int) (x' : Rs), r = .returned (.int .i64 f) ∧ RunW w0 w' A 3 (topsF l) l.length rv x' ∧ G l (now + 1) (runs ++ [f]) (nrm x') := by
  have H0 : Hid (RunW w0 w A 3 (topsF l) l.length rv x ∧ G l now runs (nrm x)) := ⟨hr, g⟩
  have HA : Hid (∀ y ∈ l, RowSl Ac.vals w0 y.acts y.v) := hacts
  have HOk : Hid (Ok l) := ok
  clear hr g hacts ok
  go_enter Try.func30, Try.ntmps30
  go_wp2_with fail
  go_loopg [] (mu (nrm x)) (fun k wr => ∃ x1, RunW w0 wr A 3 (topsF l) l.length rv x1 ∧ G l now runs (nrm x1) ∧ mu (nrm x1) ≤ k)
  case atStart => exact ⟨x, H0.out.1, H0.out.2, Nat.le_refl _⟩
  case round =>
    obtain ⟨x1, hr1, g1, hm1⟩ := hrel
    have HF := foremost_any w0 wr A 3 (topsF l) l.length rv _ now HOk.out.few (raise_any w0 wr A (topsF l) l.length rv x1 hr1 HOk.out.few g1.holds)
    have HG : Hid (G l now runs (nrm x1) ∧ mu (nrm x1) ≤ gk) := ⟨g1, hm1⟩
    clear hr1 g1 hm1
    go_wp2_with (go_at_call 34; refine HF.mono ?_; rintro r w1 ⟨f, rfl, hb, hw⟩; have HB : Hid (Best { x1 with es := upAll x1.hs (topsF l) (x1.es.map loF) } now l.length f ∧ RunW w0 w1 A 3 (topsF l) l.length rv { x1 with es := upAll x1.hs (topsF l) (x1.es.map loF) }) := ⟨hb, hw⟩; clear hb hw HF)
    · have hf : f = -1 := by assumption
      subst hf
      go_ret
      refine ⟨-1, _, rfl, HB.out.2, ?_⟩
      have g2 : G l now runs (nrm { x1 with es := upAll x1.hs (topsF l) (x1.es.map loF) }) := by rw [nrm_up]; exact HG.out.1
      exact g2.idle HOk.out (g2.nobody HB.out.1)
    · have hf : ¬ f = -1 := by assumption
      obtain ⟨i, rfl⟩ : ∃ i : Nat, f = (i : Int) := by
        rcases HB.out.1 with ⟨h, -⟩ | ⟨i, -, h, -⟩
        · exact absurd h hf
        · exact ⟨i, h⟩
      obtain ⟨hfm, hil, hen⟩ := HG.out.1.first HOk.out HB.out.1
      have HAct := act_G HOk.out w0 w1 A rv { x1 with es := upAll x1.hs (topsF l) (x1.es.map loF) } HB.out.2 HA.out now hnow runs (by rw [nrm_up]; exact HG.out.1) i (by rw [nrm_up]; exact hfm) hen
      rw [nrm_up] at HAct
      clear hfm hil hen
      go_wp2_with (go_at_call 35; refine HAct.mono ?_; rintro r w2 ⟨b, x2, rfl, hw2, hb1, hb2⟩; have H2 : Hid (RunW w0 w2 A 3 (topsF l) l.length rv x2 ∧ (b = true → G l (now + 1) (runs ++ [(i : Int)]) (nrm x2)) ∧ (b = false → G l now runs (nrm x2) ∧ mu (nrm x2) < mu (nrm x1))) := ⟨hw2, hb1, hb2⟩; clear hw2 hb1 hb2 HAct; cases b)
      · obtain ⟨h1, h2⟩ := H2.out.2.2 (by first | rfl | trivial)
        have h3 := HG.out.2
        go_roundg (mu (nrm x2))
        case measure => omega
        case rel => exact ⟨x2, H2.out.1, h1, Nat.le_refl _⟩
      · go_ret
        exact ⟨_, x2, rfl, H2.out.1, H2.out.2.1 (by first | rfl | trivial)⟩
end Go.Proofs.Ytcmoehednkaehah
