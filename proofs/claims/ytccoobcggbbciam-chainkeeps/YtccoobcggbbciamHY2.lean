import Derived.Test.YtccoobcggbbciamHY1
namespace Go.Proofs.Ytccoobcggbbciam
open Go.ChangeShapes Go.WideShapes Go.ChangeAt Go.RowKit

theorem Play_ends {w : World} {g : Nat} {c k v : Value} {a : Act} (h : w.heap[g]? = some (.cells #[c, k] 29 (0, 0))) (h2 : a.tmps[8]?.getD undef = v) (h3 : a.tmps[9]?.getD undef = .pointer (some ⟨g, 0, none⟩)) :
    (results Try.f7 a.tmps).run Try.prog w = .ok (.tuple #[v, .agg #[c, k]]) w := by
  obtain ⟨c1, f1, l1⟩ := cells_of (l := [_, _]) h
  have c10 := c1 0 _ rfl
  have c11 := c1 1 _ rfl
  simp [results, Try.results7, go_sem, h2, h3, c10, c11]

/-- In which order chains come, in a row of its own. -/
def InTimePost (W : World) (ord : List Nat) (r : Ending) (w' : World) : Prop := ∃ g, r = .returned (.slice (some ⟨g, 0, none⟩) ord.length ord.length) ∧ W.heap.size ≤ g ∧ w'.heap[g]? = some (.cells (ord.map fun k : Nat => Value.int .i64 (k : Int)).toArray 3 (0, 0)) ∧ Below W.heap.size W w'
/-- Those that wait still. -/
def WtV (g : Nat) (ord : List Nat) (v : Value) (ws : List Nat) : Prop := ∃ j ad c, v = .slice ad ws.length c ∧ ws = ord.drop j ∧ (ws = [] ∨ ad = some ⟨g, j, none⟩) ∧ ws.length ≤ c
theorem SW.frame {A : Ad} {W : World} {jv mv ev : List Value} {s : Sc} (h : SW A W jv mv ev s) {W' : World} (hb : Below W.heap.size W W') {g : Nat} {o : Obj} (hg : W.heap.size ≤ g) (ho : W'.heap[g]? = some o) : SW { A with F := (g, o) :: A.F } W' jv mv ev s := by
  have h1 := h.grow hb
  obtain ⟨-, f2, -⟩ := h.fresh hg
  have l1 := heap_lt h.sc
  have l2 := heap_lt h.jr
  have l3 := heap_lt h.mr
  refine ⟨h1.bel, h1.sc, h1.jr, h1.mr, h1.er, h1.bp, h1.bt, h1.lj, h1.lm, h1.le, h1.ljs, h1.lms, h1.ens, h1.aj, h1.am, h1.ax, h1.ea, h1.ne, h1.low, h1.lov, fun p hp => ?_, fun p hp => ?_⟩
  · rcases List.mem_cons.1 hp with rfl | hp
    · exact ho
    · exact h1.fr p hp
  · rcases List.mem_cons.1 hp with rfl | hp
    · exact ⟨by show g ≠ A.gs; omega, by show g ≠ A.gJ; omega, by show g ≠ A.gM; omega, fun v hv => f2 v hv⟩
    · exact h.far p hp
def PlayPost (w : World) (l : List Pa) (cs : List Co) (tk : List Int) (n : Int) (ord : List Nat) (r : Ending) (w' : World) : Prop :=
  ((chkPl l cs tk n).1 ≠ 0 ∧ r = .returned (.tuple #[.slice none 0 0, .agg #[.int .i64 (chkPl l cs tk n).1, .int .i64 (chkPl l cs tk n).2]]) ∧ Below w.heap.size w w') ∨
  ((chkPl l cs tk n).1 = 0 ∧ ∃ (gE : Nat) (ev : List Value), r = .returned (.tuple #[.slice (some ⟨gE, 0, none⟩) cs.length cs.length, .agg #[.int .i64 0, .int .i64 0]]) ∧ w'.heap[gE]? = some (.cells ev.toArray 24 (0, 0)) ∧ ev.length = cs.length ∧ (∀ (i : Nat) (v : Value), ev[i]? = some v → EnR w' v ((playTo l tk cs ord n.toNat).2.ends.getD i [])) ∧ ev.Pairwise Apt ∧ (∀ v ∈ ev, ∀ g : Nat, v.ownBlock = some g → w.heap.size ≤ g) ∧ Below w.heap.size w w')

theorem scene0_ok (l : List Pa) (m K : Nat) : SOk l m K (scene0 l.length m) := by
  refine ⟨by simp [scene0], by simp [scene0], by simp [scene0], fun i r hr => ?_, fun i q hq => ?_, fun i q hq => ?_, .inl rfl⟩
  · have := (List.mem_replicate.1 (List.mem_of_getElem? hr)).2
    rw [this]; simp
  · have := (List.mem_replicate.1 (List.mem_of_getElem? hq)).2
    rw [this]; exact ⟨Nat.zero_le _, fun p hp => by simp at hp⟩
  · have := (List.mem_replicate.1 (List.mem_of_getElem? hq)).2
    rw [this]; exact ⟨Nat.zero_le _, fun p hp => by simp at hp⟩
def lenV : Value → Nat
  | .slice _ n _ => n
  | _ => 0
/-- What holds between two ticks. -/
def PlW (A : Ad) (W : World) (gW : Nat) (ord : List Nat) (v : Value) (ws : List Nat) (s : Sc) (ev : List Value) : Prop := WtV gW ord v ws ∧ ∃ jv mv, SW A W jv mv ev s
theorem playTo_ok {l : List Pa} {tk : List Int} {cs : List Co} {ord : List Nat} (hok : PsOk l) (hcs : ∀ (k : Nat) (c : Co), cs[k]? = some c → 0 ≤ c.k ∧ c.k < (l.length : Int) ∧ (l.getD c.k.toNat paZ).fr = -1 ∧ 0 ≤ c.a ∧ c.a ≤ 20000) (ho : ∀ k ∈ ord, k < cs.length) : ∀ t, SOk l cs.length (ord.length - (playTo l tk cs ord t).1.length + 40 * t) (playTo l tk cs ord t).2 ∧ (∀ k ∈ (playTo l tk cs ord t).1, k < cs.length) ∧ (playTo l tk cs ord t).1.length ≤ ord.length
  | 0 => ⟨scene0_ok _ _ _, ho, Nat.le_refl _⟩
  | t + 1 => by
    obtain ⟨h1, h2, h3⟩ := playTo_ok (tk := tk) hok hcs ho t
    obtain ⟨g1, g2, g3⟩ := comeF_ok (tk := tk) (now := (t : Int)) (cs := cs) hok (fun k hk => by
      have := hcs k _ (some_getD (d := ⟨0, 0⟩) hk)
      omega) rfl (playTo l tk cs ord t).1 _ _ h1 h2
    refine ⟨(tickF_ok (now := (t : Int)) g1 hok).mono ?_, g2, by show (comeF l tk cs t (playTo l tk cs ord t).1 (playTo l tk cs ord t).2).1.length ≤ _; omega⟩
    show _ ≤ ord.length - (comeF l tk cs t (playTo l tk cs ord t).1 (playTo l tk cs ord t).2).1.length + 40 * (t + 1)
    omega
theorem firstNeg_all {tk : List Int} (h : ¬ 0 ≤ firstNeg tk 0) : ∀ z ∈ tk, 0 ≤ z := fun z hz => by
  by_cases e : 0 ≤ z
  · exact e
  · exact absurd ((firstNeg_ge tk 0).2 ⟨z, hz, by omega⟩) h
theorem chkC_ok {l : List Pa} : ∀ (cs : List Co) (i : Nat), (chkC l cs i).1 = 0 → ∀ (k : Nat) (c : Co), cs[k]? = some c → 0 ≤ c.k ∧ c.k < (l.length : Int) ∧ (l.getD c.k.toNat paZ).fr = -1 ∧ 0 ≤ c.a ∧ c.a ≤ 20000
  | [], _, _, k, c, hc => by simp at hc
  | x :: r, i, h, k, c, hc => by
    unfold chkC at h
    by_cases h1 : within x.k 0 ((l.length : Int) - 1) = false ∨ (l.getD x.k.toNat paZ).fr ≠ -1
    · rw [if_pos h1] at h; cases h
    rw [if_neg h1] at h
    by_cases h2 : within x.a 0 20000 = false
    · rw [if_pos h2] at h; cases h
    rw [if_neg h2] at h
    cases k with
    | zero =>
      cases hc
      rw [not_or] at h1
      obtain ⟨h3, h4⟩ := h1
      simp only [within, Bool.not_eq_false, Bool.and_eq_true, decide_eq_true_eq] at h2 h3
      exact ⟨h3.1, by omega, by simpa using h4, h2.1, h2.2⟩
    | succ k => exact chkC_ok r (i + 1) h k c (by simpa using hc)
theorem chkPl_ok {l : List Pa} {cs : List Co} {tk : List Int} {n : Int} (h : (chkPl l cs tk n).1 = 0) : PsOk l ∧ cs.length ≤ 4000 ∧ 0 ≤ n ∧ n ≤ 20000 ∧ (∀ z ∈ tk, 0 ≤ z) ∧ (∀ (k : Nat) (c : Co), cs[k]? = some c → 0 ≤ c.k ∧ c.k < (l.length : Int) ∧ (l.getD c.k.toNat paZ).fr = -1 ∧ 0 ≤ c.a ∧ c.a ≤ 20000) ∧ chkPl l cs tk n = (0, 0) := by
  have h0 := h
  unfold chkPl at h
  by_cases h1 : (chkP l).1 ≠ 0
  · rw [if_pos h1] at h; exact absurd h h1
  rw [if_neg h1] at h
  by_cases h2 : 4000 < cs.length
  · rw [if_pos h2] at h; cases h
  rw [if_neg h2] at h
  by_cases h3 : within n 0 20000 = false ∨ 0 ≤ firstNeg tk 0
  · rw [if_pos h3] at h; cases h
  rw [if_neg h3] at h
  rw [not_or] at h3
  obtain ⟨h4, h5⟩ := h3
  simp only [within, Bool.not_eq_false, Bool.and_eq_true, decide_eq_true_eq] at h4
  have hz : ∀ (cs : List Co) (i : Nat), (chkC l cs i).1 = 0 → chkC l cs i = (0, 0) := by
    intro cs
    induction cs with
    | nil => intro i _; rfl
    | cons x r ih =>
      intro i h
      unfold chkC at h ⊢
      split at h
      · cases h
      · next g1 =>
        rw [if_neg g1]
        split at h
        · cases h
        · next g2 =>
          rw [if_neg g2]
          exact ih _ h
  refine ⟨chkP_ok (by simpa using h1), by omega, h4.1, h4.2, firstNeg_all h5, chkC_ok cs 0 h, ?_⟩
  unfold chkPl
  rw [if_neg h1, if_neg h2, if_neg (by rw [not_or]; exact ⟨by simp [within]; omega, h5⟩)]
  exact hz cs 0 h

set_option maxRecDepth 20000 in
set_option maxHeartbeats 8000000 in
theorem Play_any (w : World) (l : List Pa) (cs : List Co) (tk : List Int) (n : Int) (pv cv tv : Value) (ord : List Nat) (hp : RowSl Pa.vals w l pv) (hc : RowSl Co.vals w cs cv) (ht : RowSl nuV w tk tv) (hcl : cs.length ≤ 1000000) (htl : tk.length ≤ 9223372036854775807) (ho : ord.length = cs.length) (hom : ∀ k ∈ ord, k < cs.length) (hIT : ∀ W, Below w.heap.size w W → Calls Try.prog 19 #[cv] W (InTimePost W ord)) : Calls Try.prog 7 #[pv, cv, tv, .int .i64 n] w (PlayPost w l cs tk n ord) := by
  have HC := checkPlay_any (w.alloc (.cells #[.int .i64 0, .int .i64 0] 29)) l cs tk n pv cv tv (hp.below (below_new _ _)) (hc.below (below_new _ _)) (ht.below (below_new _ _)) hcl htl
  obtain ⟨z1, z2, hz⟩ : ∃ z1 z2, chkPl l cs tk n = (z1, z2) := ⟨_, _, rfl⟩
  have HZ : Hid (chkPl l cs tk n = (z1, z2)) := hz
  rw [hz] at HC
  dsimp only at HC
  have HR : Hid (RowSl Pa.vals w l pv ∧ RowSl Co.vals w cs cv ∧ RowSl nuV w tk tv) := ⟨hp, hc, ht⟩
  have HIT : Hid (∀ W, Below w.heap.size w W → Calls Try.prog 19 #[cv] W (InTimePost W ord)) := hIT
  have HO : Hid (ord.length = cs.length ∧ ∀ k ∈ ord, k < cs.length) := ⟨ho, hom⟩
  obtain ⟨pad, pc, rfl⟩ := hp.len
  obtain ⟨cad, cc, rfl⟩ := hc.len
  obtain ⟨tad, tc, rfl⟩ := ht.len
  have hF : Hid (FB w (w.alloc (.cells #[.int .i64 0, .int .i64 0] 29)) w.heap.size) := FB.start w
  clear hp hc ht hz hIT ho hom
  go_enter Try.func7, Try.ntmps7
  go_upto_region 2 with (go_at_call 16; refine HC.mono ?_; rintro r w1 ⟨rfl, hb1⟩; have H1 : Hid (FB w (w1.alloc (.cells #[.int .i64 z1, .int .i64 z2] 29)) w.heap.size) := (hF.out.grow hb1).grow (below_new _ _); have hl1 : w.heap.size < w1.heap.size := (hF.out.grow hb1).lt; clear hb1 HC)
  obtain ⟨fs, -, fl⟩ := cells_of (l := [_, _]) (heap_alloc_new w1 (.cells #[.int .i64 z1, .int .i64 z2] 29))
  have g0 := fs 0 _ rfl
  have g1 := fs 1 _ rfl
  clear fs hF
  generalize w1.alloc (.cells #[.int .i64 z1, .int .i64 z2] 29) = w2 at *
  generalize w1.heap.size = gf at *
  obtain ⟨q0, q1, qf0, qf1, ql⟩ := H1.out.res2
  by_cases h0 : z1 = 0
  rotate_left 1
  · have hz1 : (z1 != 0) = true := by simpa using h0
    have HN : Hid (z1 ≠ 0) := h0
    clear h0
    go_wp2_with fail
    go_region
    all_goals go_wp2_with fail
    all_goals
      refine bodyPost_ret (Play_ends (g := w.heap.size) (c := .int .i64 z1) (k := .int .i64 z2) (v := .slice none 0 0) (set_two H1.out.res) rfl rfl) rfl ?_
      refine Or.inl ⟨by rw [HZ.out]; exact HN.out, by rw [HZ.out], (H1.out.set _ _).drew⟩
  subst h0
  obtain ⟨hok, hm4, hn0, hn1, htk, hcs, hzz⟩ := chkPl_ok (l := l) (cs := cs) (tk := tk) (n := n) (by rw [HZ.out])
  have h1 := hok.one
  have h8 := hok.most
  have HOK : Hid (PsOk l ∧ (∀ z ∈ tk, 0 ≤ z) ∧ (∀ (k : Nat) (c : Co), cs[k]? = some c → 0 ≤ c.k ∧ c.k < (l.length : Int) ∧ (l.getD c.k.toNat paZ).fr = -1 ∧ 0 ≤ c.a ∧ c.a ≤ 20000)) := ⟨hok, htk, hcs⟩
  obtain ⟨nn, rfl⟩ : ∃ nn : Nat, n = (nn : Int) := ⟨n.toNat, by omega⟩
  have HN4 := newScene_any w ((w2.alloc (.cells #[.slice pad l.length pc] 22)).alloc (.cells #[.slice tad tk.length tc] 24)) l tk (.slice pad l.length pc) (.slice tad tk.length tc) w2.heap.size (w2.heap.size + 1) cs.length [(w.heap.size, .cells #[.int .i64 0, .int .i64 0] 29 (0, 0))] (by
    have b1 := below_seq (below_new w2 (.cells #[.slice pad l.length pc] 22)) (below_new (w2.alloc (.cells #[.slice pad l.length pc] 22)) (.cells #[.slice tad tk.length tc] 24))
    refine ⟨below_seq H1.out.bel b1, ?_, ?_, fun p hp => ?_⟩
    · rw [Below.heap_alloc _ _ _ (by simp)]; exact heap_alloc_new _ _
    · have := heap_alloc_new (w2.alloc (.cells #[.slice pad l.length pc] 22)) (.cells #[.slice tad tk.length tc] 24); simpa using this
    · rw [List.mem_singleton.1 hp]
      exact (b1.block _ H1.out.lt).trans H1.out.res) HR.out.1 h8 hm4
  clear hok htk hcs hzz
  go_upto_region 5 with (first
    | (go_at_call 17; refine HN4.mono ?_; rintro r w4 ⟨gs, gJ, gM, gE, jv, mv, ev, rfl, h4⟩; have H4 : Hid (SW ⟨w, gs, gJ, gM, gE, w2.heap.size, w2.heap.size + 1, .slice pad l.length pc, .slice tad tk.length tc, l, tk, cs.length, [(w.heap.size, .cells #[.int .i64 0, .int .i64 0] 29 (0, 0))]⟩ w4 jv mv ev (scene0 l.length cs.length)) := h4; clear h4 HN4)
    | (go_at_call 18; refine (works_any _ _ _ _ _ _ _).mono ?_; rintro r w3 ⟨rfl, hw3⟩; have hw4 := hw3; subst hw4; clear hw3))
  go_upto_region 6 with (go_at_call 19; refine (HIT.out w4 H4.out.bel).mono ?_; rintro r w5 ⟨gW, rfl, hg5, hr5, hb5⟩; have H5 : Hid (SW ⟨w, gs, gJ, gM, gE, w2.heap.size, w2.heap.size + 1, .slice pad l.length pc, .slice tad tk.length tc, l, tk, cs.length, [(gW, .cells (ord.map fun k : Nat => Value.int .i64 (k : Int)).toArray 3 (0, 0)), (w.heap.size, .cells #[.int .i64 0, .int .i64 0] 29 (0, 0))]⟩ w5 jv mv ev (scene0 l.length cs.length)) := H4.out.frame hb5 hg5 hr5; clear hg5 hr5 hb5)
  clear H4 HIT
  generalize w2.heap.size + 1 = gt at *
  generalize w2.heap.size = gp at *
  have HI : Hid (Inp ⟨w, gs, gJ, gM, gE, gp, gt, .slice pad l.length pc, .slice tad tk.length tc, l, tk, cs.length, [(gW, .cells (ord.map fun k : Nat => Value.int .i64 (k : Int)).toArray 3 (0, 0)), (w.heap.size, .cells #[.int .i64 0, .int .i64 0] 29 (0, 0))]⟩) := ⟨HOK.out.1, HR.out.1, HR.out.2.2, HOK.out.2.1, htl, hm4⟩
  have HS0 : Hid (SOk l cs.length 4000 (scene0 l.length cs.length)) := scene0_ok l cs.length 4000
  have HW0 : Hid (∃ ws s jv' mv' v, playTo l tk cs ord 0 = (ws, s) ∧ WtV gW ord v ws ∧ v = .slice (some ⟨gW, 0, none⟩) ord.length ord.length ∧ SW ⟨w, gs, gJ, gM, gE, gp, gt, .slice pad l.length pc, .slice tad tk.length tc, l, tk, cs.length, [(gW, .cells (ord.map fun k : Nat => Value.int .i64 (k : Int)).toArray 3 (0, 0)), (w.heap.size, .cells #[.int .i64 0, .int .i64 0] 29 (0, 0))]⟩ w5 jv' mv' ev s) := ⟨ord, _, jv, mv, _, rfl, ⟨0, _, _, rfl, rfl, .inr rfl, Nat.le_refl _⟩, rfl, H5.out⟩
  clear g0 g1 q0 q1 qf0 qf1 ql fl hl1
  go_wp2_with fail
  go_loopw [12, 33] (fun v iv wr => ∃ t : Nat, t ≤ nn ∧ iv = .int .i64 (t : Int) ∧ Hid (PlW ⟨w, gs, gJ, gM, gE, gp, gt, .slice pad l.length pc, .slice tad tk.length tc, l, tk, cs.length, [(gW, .cells (ord.map fun k : Nat => Value.int .i64 (k : Int)).toArray 3 (0, 0)), (w.heap.size, .cells #[.int .i64 0, .int .i64 0] 29 (0, 0))]⟩ wr gW ord v (playTo l tk cs ord t).1 (playTo l tk cs ord t).2 ev)) (fun _ iv _ => nn - (intOf iv).toNat)
  case atStart => exact ⟨0, Nat.zero_le _, rfl, ⟨⟨0, _, _, rfl, rfl, .inr rfl, Nat.le_refl _⟩, jv, mv, H5.out⟩⟩
  case round =>
    obtain ⟨t, ht, rfl, HX⟩ := hrel
    generalize wr = wR at *
    clear H5 HW0
    have HPO : Hid (SOk l cs.length (ord.length - (playTo l tk cs ord t).1.length + 40 * t) (playTo l tk cs ord t).2 ∧ (∀ k ∈ (playTo l tk cs ord t).1, k < cs.length) ∧ (playTo l tk cs ord t).1.length ≤ ord.length) := playTo_ok HOK.out.1 HOK.out.2.2 HO.out.2 t
    by_cases htn : t < nn
    rotate_left 1
    · have hte : t = nn := by omega
      subst hte
      have hti : ¬ ((t : Nat) : Int) < (t : Int) := by omega
      obtain ⟨-, jv', mv', hS⟩ := HX.out
      have HS : Hid (SW ⟨w, gs, gJ, gM, gE, gp, gt, .slice pad l.length pc, .slice tad tk.length tc, l, tk, cs.length, [(gW, .cells (ord.map fun k : Nat => Value.int .i64 (k : Int)).toArray 3 (0, 0)), (w.heap.size, .cells #[.int .i64 0, .int .i64 0] 29 (0, 0))]⟩ wR jv' mv' ev (playTo l tk cs ord t).2) := hS
      obtain ⟨ss, -, sl⟩ := cells_of (l := [_, _, _, _, _, _]) hS.sc
      have c5 := ss 5 _ rfl
      have hfr := hS.fr (w.heap.size, .cells #[.int .i64 0, .int .i64 0] 29 (0, 0)) (by simp)
      have HFR : Hid (wR.heap[w.heap.size]? = some (.cells #[.int .i64 0, .int .i64 0] 29 (0, 0))) := hfr
      obtain ⟨rs, rf, rl⟩ := cells_of (l := [_, _]) hfr
      have r0 := rs 0 _ rfl
      have r1 := rs 1 _ rfl
      have e0 := rf 0
      have e1 := rf 1
      have gne : gs ≠ w.heap.size := ty_ne hS.sc hfr (by decide)
      dsimp only at c5 sl
      clear hS HX ss rs rf hfr
      go_wp2_with fail
      refine bodyPost_ret (Play_ends (g := w.heap.size) (c := .int .i64 0) (k := .int .i64 0) (v := .slice (some ⟨gE, 0, none⟩) cs.length cs.length) (set_two HFR.out) rfl rfl) rfl ?_
      have keep : ∀ {g : Nat} {o : Obj}, g ≠ w.heap.size → wR.heap[g]? = some o → ((wR.setCell ⟨w.heap.size, 0, none⟩ (.int .i64 0)).setCell ⟨w.heap.size, 1, none⟩ (.int .i64 0)).heap[g]? = some o := fun hg ho => by
        rw [Below.heap_setCell _ _ _ _ hg, Below.heap_setCell _ _ _ _ hg]; exact ho
      have hfar := (HS.out.far (w.heap.size, .cells #[.int .i64 0, .int .i64 0] 29 (0, 0)) (by simp)).2.2.2
      refine Or.inr ⟨by rw [HZ.out], gE, ev, rfl, keep (ty_ne HS.out.er HFR.out (by decide)) HS.out.er, HS.out.le, fun i v hv => ?_, HS.out.ea, fun v hv g hg => HS.out.lov v (List.mem_append_right _ hv) g hg, (HS.out.bel.setCell (Nat.le_refl _) _).setCell (Nat.le_refl _) _⟩
      rw [Int.toNat_natCast]
      refine (HS.out.ens i v hv).keep fun g hg => ?_
      have hgn : g ≠ w.heap.size := fun e => hfar v (List.mem_append_right _ (List.mem_of_getElem? hv)) (by rw [hg, e])
      rw [Below.heap_setCell _ _ _ _ hgn, Below.heap_setCell _ _ _ _ hgn]
    have hti : (t : Int) < (nn : Int) := by omega
    obtain ⟨ws0, s0, hws0⟩ : ∃ ws s, playTo l tk cs ord t = (ws, s) := ⟨_, _, rfl⟩
    rw [hws0] at HPO HX
    dsimp only at HPO HX
    have HPT : Hid (playTo l tk cs ord (t + 1) = ((comeF l tk cs t ws0 s0).1, tickF l tk (comeF l tk cs t ws0 s0).2 t)) := by
      show _ = _
      rw [show playTo l tk cs ord (t + 1) = ((comeF l tk cs t (playTo l tk cs ord t).1 (playTo l tk cs ord t).2).1, tickF l tk (comeF l tk cs t (playTo l tk cs ord t).1 (playTo l tk cs ord t).2).2 t) from rfl, hws0]
    have HK0 : Hid (ord.length - ws0.length + 40 * t + ws0.length ≤ 4000 + 40 * t ∧ t ≤ 20000) := (⟨by have h1 := HPO.out.2.2; have h2 := HO.out.1; omega, by omega⟩ : ord.length - ws0.length + 40 * t + ws0.length ≤ 4000 + 40 * t ∧ t ≤ 20000)
    clear hws0
    go_wp2_with fail
    go_loopw [12] (fun v wr => ∃ (ws : List Nat) (s : Sc) (K : Nat), Hid (PlW ⟨w, gs, gJ, gM, gE, gp, gt, .slice pad l.length pc, .slice tad tk.length tc, l, tk, cs.length, [(gW, .cells (ord.map fun k : Nat => Value.int .i64 (k : Int)).toArray 3 (0, 0)), (w.heap.size, .cells #[.int .i64 0, .int .i64 0] 29 (0, 0))]⟩ wr gW ord v ws s ev ∧ SOk l cs.length K s ∧ K + ws.length ≤ 4000 + 40 * t ∧ (∀ k ∈ ws, k < cs.length) ∧ comeF l tk cs t ws s = comeF l tk cs t ws0 s0)) (fun v _ => lenV v)
    case atStart => exact ⟨ws0, s0, _, ⟨HX.out, HPO.out.1, HK0.out.1, HPO.out.2.1, rfl⟩⟩
    case round =>
      obtain ⟨ws, s, K, HY⟩ := hrel
      generalize wr = wI at *
      clear HX
      obtain ⟨⟨⟨j, ad, c, rfl, hwsj, had, hcap⟩, jv', mv', hS⟩, hSO, hKw, hwk, hcome⟩ := HY.out
      have ht9 := HK0.out.2
      have HTk := tick_any ⟨w, gs, gJ, gM, gE, gp, gt, .slice pad l.length pc, .slice tad tk.length tc, l, tk, cs.length, [(gW, .cells (ord.map fun k : Nat => Value.int .i64 (k : Int)).toArray 3 (0, 0)), (w.heap.size, .cells #[.int .i64 0, .int .i64 0] 29 (0, 0))]⟩ wI jv' mv' ev s K t HI.out hSO hS (by omega) (by omega) (by omega)
      dsimp only at HTk
      rcases ws with _ | ⟨k, r⟩
      · have HE : Hid (playTo l tk cs ord (t + 1) = ([], tickF l tk s t)) := by
          show _ = _
          rw [HPT.out, ← hcome]
          rfl
        have HWT : Hid (WtV gW ord (.slice ad ([] : List Nat).length c) []) := ⟨j, ad, c, rfl, hwsj, had, hcap⟩
        simp only [List.length_nil] at HWT ⊢
        clear HY hwsj had hS hSO hKw hwk hcome
        go_wp2_with (go_at_call 21; refine HTk.mono ?_; rintro r w6 ⟨rfl, jv6, mv6, h6⟩; have H6 : Hid (PlW ⟨w, gs, gJ, gM, gE, gp, gt, .slice pad l.length pc, .slice tad tk.length tc, l, tk, cs.length, [(gW, .cells (ord.map fun k : Nat => Value.int .i64 (k : Int)).toArray 3 (0, 0)), (w.heap.size, .cells #[.int .i64 0, .int .i64 0] 29 (0, 0))]⟩ w6 gW ord (.slice ad 0 c) [] (tickF l tk s t) ev) := ⟨HWT.out, jv6, mv6, h6⟩; clear h6 HTk)
        exact ⟨⟨t + 1, by omega, by simp, (by rw [HE.out]; exact H6.out)⟩, by simp [intOf]; omega⟩
      · rcases had with had | rfl
        · cases had
        have hjl : ord[j]? = some k := by
          have h9 := congrArg (fun x : List Nat => x[0]?) hwsj
          simpa using h9.symm
        have hrj : r = ord.drop (j + 1) := by
          have h9 := congrArg List.tail hwsj
          simpa [List.tail_drop] using h9
        have hkm := hwk k List.mem_cons_self
        obtain ⟨x, hx⟩ : ∃ x, cs[k]? = some x := ⟨_, List.getElem?_eq_getElem hkm⟩
        have hxo := HOK.out.2.2 k x hx
        obtain ⟨cad', cc', ce, -, hcc, hcrow⟩ := HR.out.2.1
        cases ce
        rcases hcrow with h9 | ⟨cb, co, rfl, hcrow⟩
        · rw [h9] at hkm; simp at hkm
        obtain ⟨y0, y1⟩ := co_at (fun q u hq => below_cell hS.bel (hcrow q u hq)) hx
        have yw := (co_at (fun q u hq => hcrow q u hq) hx).1
        have hfw := hS.fr (gW, .cells (ord.map fun k : Nat => Value.int .i64 (k : Int)).toArray 3 (0, 0)) (by simp)
        have cw := (cells_of hfw).1 j (.int .i64 (k : Int)) (by rw [List.getElem?_map, hjl]; rfl)
        have lgW := heap_lt hfw
        have lcb := World.block_lt_of_cell? _ _ y0
        dsimp only at lgW lcb
        have hki : (k : Int) < (cs.length : Int) := by omega
        have hxd : cs.getD k ⟨0, 0⟩ = x := getD_some hx
        have hcm2 : comeF l tk cs t (k :: r) s = if x.a = (t : Int) then comeF l tk cs t r (addJ l tk s x.k.toNat k t) else (k :: r, s) := by
          rw [comeF, hxd]
        obtain ⟨kn, hkn⟩ : ∃ kn : Nat, x.k = (kn : Int) := ⟨x.k.toNat, by omega⟩
        have hknl : kn < l.length := by omega
        obtain ⟨ck, ca⟩ := x
        dsimp only at y0 y1 hkn hcm2 yw
        subst hkn
        rw [Int.toNat_natCast] at hcm2
        have HWT : Hid (WtV gW ord (.slice (some ⟨gW, j, none⟩) (k :: r).length c) (k :: r)) := ⟨j, _, c, rfl, hwsj, .inr rfl, hcap⟩
        have HCM : Hid (comeF l tk cs t (k :: r) s = comeF l tk cs t ws0 s0) := hcome
        have hl0 : (0 : Int) < (((k :: r).length : Nat) : Int) := by rw [List.length_cons]; omega
        have hr2 : 1 ≤ c := by rw [List.length_cons] at hcap; omega
        by_cases hat : ca = (t : Int)
        rotate_left 1
        · have hab : (ca == (t : Int)) = false := by simpa using hat
          have HE : Hid (playTo l tk cs ord (t + 1) = (k :: r, tickF l tk s t)) := by
            show _ = _
            rw [HPT.out, ← HCM.out, hcm2, if_neg hat]
          clear HY hwsj hS hSO hKw hwk hcome hcm2 hxo hxd hx hrj hjl hfw hcrow hat
          generalize (k :: r).length = qn at *
          go_wp2_with (go_at_call 21; refine HTk.mono ?_; rintro r9 w6 ⟨rfl, jv6, mv6, h6⟩; have H6 : Hid (PlW ⟨w, gs, gJ, gM, gE, gp, gt, .slice pad l.length pc, .slice tad tk.length tc, l, tk, cs.length, [(gW, .cells (ord.map fun k : Nat => Value.int .i64 (k : Int)).toArray 3 (0, 0)), (w.heap.size, .cells #[.int .i64 0, .int .i64 0] 29 (0, 0))]⟩ w6 gW ord (.slice (some ⟨gW, j, none⟩) qn c) (k :: r) (tickF l tk s t) ev) := ⟨HWT.out, jv6, mv6, h6⟩; clear h6 HTk)
          exact ⟨⟨t + 1, by omega, by simp, (by rw [HE.out]; exact H6.out)⟩, by simp [intOf]; omega⟩
        · subst hat
          have hab : ((t : Int) == (t : Int)) = true := by simp
          have HJL : Hid (ord[j]? = some k) := hjl
          have HYW : Hid (w.cell? ⟨cb, co + k * 2, none⟩ = some (.int .i64 (kn : Int))) := yw
          have HAJ' := addJ_any ⟨w, gs, gJ, gM, gE, gp, gt, .slice pad l.length pc, .slice tad tk.length tc, l, tk, cs.length, [(gW, .cells (ord.map fun k : Nat => Value.int .i64 (k : Int)).toArray 3 (0, 0)), (w.heap.size, .cells #[.int .i64 0, .int .i64 0] 29 (0, 0))]⟩ wI.drew jv' mv' ev s kn k K t HI.out hSO (hS.grow (Below.refl _ _).drew) hknl hkm (by omega)
          dsimp only at HAJ'
          have HNX : Hid (SOk l cs.length (K + 1) (addJ l tk s kn k t) ∧ K + 1 + r.length ≤ 4000 + 40 * t ∧ (∀ k ∈ r, k < cs.length) ∧ comeF l tk cs t r (addJ l tk s kn k t) = comeF l tk cs t ws0 s0) := by
            refine ⟨hSO.addJ HOK.out.1 hknl hkm, by rw [List.length_cons] at hKw; omega, fun q hq => hwk q (List.mem_cons_of_mem _ hq), ?_⟩
            rw [← HCM.out, hcm2, if_pos rfl]
          have HWN : Hid (WtV gW ord (.slice (if c = 1 then some ⟨gW, j, none⟩ else some ⟨gW, j + 1, none⟩) r.length (c - 1)) r) := by
            rw [List.length_cons] at hcap
            by_cases e : c = 1
            · have : r = [] := List.eq_nil_of_length_eq_zero (by omega)
              subst this
              exact ⟨j + 1, _, _, rfl, hrj, .inl rfl, by simp⟩
            · rw [if_neg e]
              exact ⟨j + 1, _, _, rfl, hrj, .inr rfl, by omega⟩
          have hr1 : (1 : Int) ≤ ((r.length + 1 : Nat) : Int) := by omega
          have hr4 : (1 : Int) ≤ (r.length : Int) + 1 := by omega
          have hr5 : (0 : Int) < (r.length : Int) + 1 := by omega
          have hr3 : 1 ≤ r.length + 1 := by omega
          have hr6 : (0 : Int) < ((r.length + 1 : Nat) : Int) := by omega
          clear HY hwsj hS hSO hKw hwk hcome hcm2 hxo hxd hx hrj hjl hfw hcrow HTk hl0 yw HWT
          simp only [List.length_cons] at hcap ⊢
          go_upto_region 11 with fail
          refine wp_region_noPanic ?_
          refine wp_region_held_drew (S := fun w' => w'.cell? ⟨gW, j, none⟩ = some (.int .i64 (k : Int)) ∧ w'.cell? ⟨cb, co + k * 2, none⟩ = some (.int .i64 (kn : Int))) (by kernel_rfl) ⟨cw, y0⟩ (fun hHeld => ?_)
          refine take_at (i := 0) (n := 52) (v := ?_) rfl rfl (by kernel_rfl) (by kernel_rfl) (by kernel_rfl) (fun _ _ _ h => h) (Or.inl ⟨by rfl, ?_⟩) (by assumption) ?_
          rotate_left 1
          · intro wz hSw
            obtain ⟨s0, s1⟩ := hSw
            first | (go_simp; done) | (go_simp; with_reducible rfl)
          simp only [List.set_cons_zero, List.set_cons_succ]
          refine take_at (i := 1) (n := 53) (v := ?_) rfl rfl (by kernel_rfl) (by kernel_rfl) (by kernel_rfl) (fun _ _ _ h => h) (Or.inl ⟨by rfl, ?_⟩) (by assumption) ?_
          rotate_left 1
          · intro wz hSw
            obtain ⟨s0, s1⟩ := hSw
            first | (go_simp; done) | (go_simp; with_reducible rfl)
          simp only [List.set_cons_zero, List.set_cons_succ]
          refine take_at (i := 2) (n := 54) (v := ?_) rfl rfl (by kernel_rfl) (by kernel_rfl) (by kernel_rfl) (fun _ _ _ h => h) (Or.inl ⟨by rfl, ?_⟩) (by assumption) ?_
          rotate_left 1
          · intro wz hSw
            obtain ⟨s0, s1⟩ := hSw
            first | (go_simp; done) | (go_simp; with_reducible rfl)
          simp only [List.set_cons_zero, List.set_cons_succ]
          refine take_at (i := 3) (n := 55) (v := ?_) rfl rfl (by kernel_rfl) (by kernel_rfl) (by kernel_rfl) (fun _ _ _ h => h) (Or.inl ⟨by rfl, ?_⟩) (by assumption) ?_
          rotate_left 1
          · intro wz hSw
            obtain ⟨s0, s1⟩ := hSw
            first | (go_simp; done) | (go_simp; with_reducible rfl)
          simp only [List.set_cons_zero, List.set_cons_succ]
          refine take_at (i := 4) (n := 56) (v := ?_) rfl rfl (by kernel_rfl) (by kernel_rfl) (by kernel_rfl) (fun _ _ _ h => h) (Or.inl ⟨by rfl, ?_⟩) (by assumption) ?_
          rotate_left 1
          · intro wz hSw
            obtain ⟨s0, s1⟩ := hSw
            first | (go_simp; done) | (go_simp; with_reducible rfl)
          simp only [List.set_cons_zero, List.set_cons_succ]
          refine take_at (i := 5) (n := 57) (v := ?_) rfl rfl (by kernel_rfl) (by kernel_rfl) (by kernel_rfl) (fun _ _ _ h => h) (Or.inl ⟨by rfl, ?_⟩) (by assumption) ?_
          rotate_left 1
          · intro wz hSw
            obtain ⟨s0, s1⟩ := hSw
            first | (go_simp; done) | (go_simp; with_reducible rfl)
          simp only [List.set_cons_zero, List.set_cons_succ]
          refine take_at (i := 6) (n := 58) (v := ?_) rfl rfl (by kernel_rfl) (by kernel_rfl) (by kernel_rfl) (fun _ _ _ h => h) (Or.inl ⟨by rfl, ?_⟩) (by assumption) ?_
          rotate_left 1
          · intro wz hSw
            obtain ⟨s0, s1⟩ := hSw
            first | (go_simp; done) | (go_simp; with_reducible rfl)
          simp only [List.set_cons_zero, List.set_cons_succ]
          refine take_at (i := 7) (n := 59) (v := ?_) rfl rfl (by kernel_rfl) (by kernel_rfl) (by kernel_rfl) (fun _ _ _ h => h) (Or.inl ⟨by rfl, ?_⟩) (by assumption) ?_
          rotate_left 1
          · intro wz hSw
            obtain ⟨s0, s1⟩ := hSw
            first | (go_simp; done) | (go_simp; with_reducible rfl)
          simp only [List.set_cons_zero, List.set_cons_succ]
          refine take_at (i := 8) (n := 60) (v := ?_) rfl rfl (by kernel_rfl) (by kernel_rfl) (by kernel_rfl) (fun _ _ _ h => h) (Or.inl ⟨by rfl, ?_⟩) (by assumption) ?_
          rotate_left 1
          · intro wz hSw
            obtain ⟨s0, s1⟩ := hSw
            first | (go_simp; done) | (go_simp; with_reducible rfl)
          simp only [List.set_cons_zero, List.set_cons_succ]
          refine take_at (i := 9) (n := 61) (v := ?_) rfl rfl (by kernel_rfl) (by kernel_rfl) (by kernel_rfl) (fun _ _ _ h => h) (Or.inl ⟨by rfl, ?_⟩) (by assumption) ?_
          rotate_left 1
          · intro wz hSw
            obtain ⟨s0, s1⟩ := hSw
            first | (go_simp; done) | (go_simp; with_reducible rfl)
          simp only [List.set_cons_zero, List.set_cons_succ]
          refine take_at (i := 10) (n := 62) (v := ?_) rfl rfl (by kernel_rfl) (by kernel_rfl) (by kernel_rfl) (fun _ _ _ h => h) (Or.inl ⟨by rfl, ?_⟩) (by assumption) ?_
          rotate_left 1
          · intro wz hSw
            obtain ⟨s0, s1⟩ := hSw
            first | (go_simp; done) | (go_simp; with_reducible rfl)
          simp only [List.set_cons_zero, List.set_cons_succ]
          refine take_at (i := 11) (n := 63) (v := ?_) rfl rfl (by kernel_rfl) (by kernel_rfl) (by kernel_rfl) (fun _ _ _ h => h) (Or.inl ⟨by rfl, ?_⟩) (by assumption) ?_
          rotate_left 1
          · intro wz hSw
            obtain ⟨s0, s1⟩ := hSw
            first | (go_simp; done) | (go_simp; with_reducible rfl)
          simp only [List.set_cons_zero, List.set_cons_succ]
          refine wpAnyH_ready (rs := [12]) (by kernel_rfl) (by simp) ?_
          refine AllReadyH.cons rfl (fun K hK => ?_) AllReadyH.nil
          go_simp
          go_wp2_with (go_at_call 20; refine HAJ'.mono ?_; rintro r9 w6 ⟨rfl, jv6, h6⟩)
          have H6 : Hid (∃ jv mv, SW ⟨w, gs, gJ, gM, gE, gp, gt, .slice pad l.length pc, .slice tad tk.length tc, l, tk, cs.length, [(gW, .cells (ord.map fun k : Nat => Value.int .i64 (k : Int)).toArray 3 (0, 0)), (w.heap.size, .cells #[.int .i64 0, .int .i64 0] 29 (0, 0))]⟩ w6 jv mv ev (addJ l tk s kn k t)) := ⟨jv6, mv', h6⟩
          refine hK.out _ _ ⟨(cells_of (h6.fr (gW, .cells (ord.map fun k : Nat => Value.int .i64 (k : Int)).toArray 3 (0, 0)) (by simp))).1 j _ (by rw [List.getElem?_map, HJL.out]; rfl), below_cell h6.bel HYW.out⟩ (fun hHeld => ?_)
          clear h6
          clear hK K
          try simp only [List.set_cons_zero, List.set_cons_succ]
          refine wpAnyH_done (by kernel_rfl) ?_ _
          refine NoPanic.normal ?_
          clear hHeld
          go_wp2_with fail
          exact ⟨⟨r, addJ l tk s kn k t, K + 1, ⟨⟨HWN.out, H6.out⟩, HNX.out⟩⟩, by simp [lenV]⟩
end Go.Proofs.Ytccoobcggbbciam
