import Derived.Test.YtcmoehednkaehahGSC
namespace Go.Proofs.Ytcmoehednkaehah
open Go.ChangeShapes Go.WideShapes Go.ChangeAt Go.RowKit

set_option maxRecDepth 20000 in
set_option maxHeartbeats 4000000 in
/-- The active priorities, where those that wait lend theirs. -/
theorem raise_lend (w0 w : World) (A : Ad) (tp : List Int) (n : Nat) (rv : Value) (x : Rs) (h : RunW w0 w A 2 tp n rv x) (hn : n ≤ 100) (hg : Gx n x) (a : Nat → Int) (ha : IsAc 2 tp x a) :
    Calls Try.prog 39 #[.pointer (some ⟨A.R, 0, none⟩)] w fun r w' => r = .returned (.tuple #[]) ∧ RunW w0 w' A 2 tp n rv { x with es := wAc x.es a } := by
  have hxl := h.ln.1
  obtain ⟨-, -, -, c4, -, -⟩ := h.own
  have HH : Hid (RunW w0 w A 2 tp n rv x) := h
  have HG : Hid (Gx n x ∧ IsAc 2 tp x a) := ⟨hg, ha⟩
  clear h hg ha
  go_enter Try.func39, Try.ntmps39
  go_wp2_with fail
  go_loopw [11] (fun i wr => ∃ k : Nat, k ≤ n ∧ i = .int .i64 k ∧ RunW w0 wr A 2 tp n rv { x with es := mid loF x.es k }) (fun i _ => n - (intOf i).toNat)
  case atStart => exact ⟨0, Nat.zero_le _, rfl, by rw [mid_zero]; exact HH.out⟩
  case round =>
    obtain ⟨k, hk, rfl, hr⟩ := hrel
    by_cases hlt' : k < n
    · obtain ⟨e, he⟩ := at_lt HH.out.ln.1 hlt'
      have hj := hr.job (mid_at loF he)
      obtain ⟨-, j1, -, -, -, -, -, j7⟩ := hj
      obtain ⟨-, -, -, d4, -, -⟩ := hr.own
      have hf7 := hr.frz.2.1 (k * 8 + 7)
      have hki : (k : Int) < (n : Int) := by omega
      obtain ⟨-, lJ, -⟩ := hr.lts
      have hRJ := hr.ne.1.1
      have hs := hr.setJ (k := 7) (u := .int .i64 e.x.p) (e' := loF e) (mid_at loF he) (by omega) rfl
      dsimp only at hs
      rw [mid_set loF he] at hs
      have HS : Hid (RunW w0 (wr.setCell ⟨A.J, k * 8 + 7, none⟩ (.int .i64 e.x.p)) A 2 tp n rv { x with es := mid loF x.es (k + 1) }) := hs
      clear hs hr he
      go_wp2_with fail
      have hS0 : (fun w' : World => w'.cell? ⟨A.R, 4, none⟩ = some (.slice (some ⟨A.J, 0, none⟩) n n) ∧ w'.cell? ⟨A.J, k * 8 + 1, none⟩ = some (.int .i64 e.x.p)) wr.drew := ⟨d4, j1⟩
      refine wp_region_noPanic ?_
      refine wp_region_held_drew (S := fun w' => w'.cell? ⟨A.R, 4, none⟩ = some (.slice (some ⟨A.J, 0, none⟩) n n) ∧ w'.cell? ⟨A.J, k * 8 + 1, none⟩ = some (.int .i64 e.x.p)) (by kernel_rfl) (hS0) (fun hHeld => ?_)
      refine take_at (i := 0) (n := 14) (v := ?_) rfl rfl (by kernel_rfl) (by kernel_rfl) (by kernel_rfl) (fun _ _ _ h => h) (Or.inl ⟨by rfl, ?_⟩) (by assumption) ?_
      rotate_left 1
      · intro wz hSw
        obtain ⟨s0, s1⟩ := hSw
        first | (go_simp; done) | (go_simp; with_reducible rfl)
      simp only [List.set_cons_zero, List.set_cons_succ]
      refine take_at (i := 1) (n := 15) (v := ?_) rfl rfl (by kernel_rfl) (by kernel_rfl) (by kernel_rfl) (fun _ _ _ h => h) (Or.inl ⟨by rfl, ?_⟩) (by assumption) ?_
      rotate_left 1
      · intro wz hSw
        obtain ⟨s0, s1⟩ := hSw
        first | (go_simp; done) | (go_simp; with_reducible rfl)
      simp only [List.set_cons_zero, List.set_cons_succ]
      refine take_at (i := 2) (n := 16) (v := ?_) rfl rfl (by kernel_rfl) (by kernel_rfl) (by kernel_rfl) (fun _ _ _ h => h) (Or.inl ⟨by rfl, ?_⟩) (by assumption) ?_
      rotate_left 1
      · intro wz hSw
        obtain ⟨s0, s1⟩ := hSw
        first | (go_simp; done) | (go_simp; with_reducible rfl)
      simp only [List.set_cons_zero, List.set_cons_succ]
      refine take_at (i := 3) (n := 17) (v := ?_) rfl rfl (by kernel_rfl) (by kernel_rfl) (by kernel_rfl) (fun _ _ _ h => h) (Or.inl ⟨by rfl, ?_⟩) (by assumption) ?_
      rotate_left 1
      · intro wz hSw
        obtain ⟨s0, s1⟩ := hSw
        first | (go_simp; done) | (go_simp; with_reducible rfl)
      simp only [List.set_cons_zero, List.set_cons_succ]
      refine take_at (i := 4) (n := 18) (v := ?_) rfl rfl (by kernel_rfl) (by kernel_rfl) (by kernel_rfl) (fun _ _ _ h => h) (Or.inl ⟨by rfl, ?_⟩) (by assumption) ?_
      rotate_left 1
      · intro wz hSw
        obtain ⟨s0, s1⟩ := hSw
        first | (go_simp; done) | (go_simp; with_reducible rfl)
      simp only [List.set_cons_zero, List.set_cons_succ]
      refine take_at (i := 5) (n := 19) (v := ?_) rfl rfl (by kernel_rfl) (by kernel_rfl) (by kernel_rfl) (fun _ _ _ h => h) (Or.inl ⟨by rfl, ?_⟩) (by assumption) ?_
      rotate_left 1
      · intro wz hSw
        obtain ⟨s0, s1⟩ := hSw
        first | (go_simp; done) | (go_simp; with_reducible rfl)
      simp only [List.set_cons_zero, List.set_cons_succ]
      refine take_at (i := 6) (n := 20) (v := ?_) rfl rfl (by kernel_rfl) (by kernel_rfl) (by kernel_rfl) (fun _ _ _ h => h) (Or.inl ⟨by rfl, ?_⟩) (by assumption) ?_
      rotate_left 1
      · intro wz hSw
        obtain ⟨s0, s1⟩ := hSw
        first | (go_simp; done) | (go_simp; with_reducible rfl)
      simp only [List.set_cons_zero, List.set_cons_succ]
      refine take_at (i := 7) (n := 21) (v := ?_) rfl rfl (by kernel_rfl) (by kernel_rfl) (by kernel_rfl) (fun _ _ _ h => h) (Or.inl ⟨by rfl, ?_⟩) (by assumption) ?_
      rotate_left 1
      · intro wz hSw
        obtain ⟨s0, s1⟩ := hSw
        first | (go_simp; done) | (go_simp; with_reducible rfl)
      simp only [List.set_cons_zero, List.set_cons_succ]
      refine take_at (i := 8) (n := 22) (v := ?_) rfl rfl (by kernel_rfl) (by kernel_rfl) (by kernel_rfl) (fun _ _ _ h => h) (Or.inl ⟨by rfl, ?_⟩) (by assumption) ?_
      rotate_left 1
      · intro wz hSw
        obtain ⟨s0, s1⟩ := hSw
        first | (go_simp; done) | (go_simp; with_reducible rfl)
      simp only [List.set_cons_zero, List.set_cons_succ]
      refine take_at (i := 9) (n := 23) (v := ?_) rfl rfl (by kernel_rfl) (by kernel_rfl) (by kernel_rfl) (fun _ _ _ h => h) (Or.inl ⟨by rfl, ?_⟩) (by assumption) ?_
      rotate_left 1
      · intro wz hSw
        obtain ⟨s0, s1⟩ := hSw
        first | (go_simp; done) | (go_simp; with_reducible rfl)
      simp only [List.set_cons_zero, List.set_cons_succ]
      refine take_at (i := 10) (n := 24) (v := ?_) rfl rfl (by kernel_rfl) (by kernel_rfl) (by kernel_rfl) (fun _ _ _ h => h) (Or.inl ⟨by rfl, ?_⟩) (by assumption) ?_
      rotate_left 1
      · intro wz hSw
        obtain ⟨s0, s1⟩ := hSw
        first | (go_simp; done) | (go_simp; with_reducible rfl)
      simp only [List.set_cons_zero, List.set_cons_succ]
      refine take_at (i := 11) (n := 25) (v := ?_) rfl rfl (by kernel_rfl) (by kernel_rfl) (by kernel_rfl) (fun _ _ _ h => h) (Or.inl ⟨by rfl, ?_⟩) (by assumption) ?_
      rotate_left 1
      · intro wz hSw
        obtain ⟨s0, s1⟩ := hSw
        first | (go_simp; done) | (go_simp; with_reducible rfl)
      simp only [List.set_cons_zero, List.set_cons_succ]
      refine take_at (i := 12) (n := 26) (v := ?_) rfl rfl (by kernel_rfl) (by kernel_rfl) (by kernel_rfl) (fun _ _ _ h => h) (Or.inl ⟨by rfl, ?_⟩) (by assumption) ?_
      rotate_left 1
      · intro wz hSw
        obtain ⟨s0, s1⟩ := hSw
        first | (go_simp; done) | (go_simp; with_reducible rfl)
      simp only [List.set_cons_zero, List.set_cons_succ]
      refine take_at (i := 13) (n := 27) (v := ?_) rfl rfl (by kernel_rfl) (by kernel_rfl) (by kernel_rfl) (fun _ _ _ h => h) (Or.inl ⟨by rfl, ?_⟩) (by assumption) ?_
      rotate_left 1
      · intro wz hSw
        obtain ⟨s0, s1⟩ := hSw
        first | (go_simp; done) | (go_simp; with_reducible rfl)
      simp only [List.set_cons_zero, List.set_cons_succ]
      refine take_at (i := 14) (n := 28) (v := ?_) rfl rfl (by kernel_rfl) (by kernel_rfl) (by kernel_rfl) (fun _ _ _ h => h) (Or.inl ⟨by rfl, ?_⟩) (by assumption) ?_
      rotate_left 1
      · intro wz hSw
        obtain ⟨s0, s1⟩ := hSw
        first | (go_simp; done) | (go_simp; with_reducible rfl)
      simp only [List.set_cons_zero, List.set_cons_succ]
      refine take_at (i := 15) (n := 29) (v := ?_) rfl rfl (by kernel_rfl) (by kernel_rfl) (by kernel_rfl) (fun _ _ _ h => h) (Or.inl ⟨by rfl, ?_⟩) (by assumption) ?_
      rotate_left 1
      · intro wz hSw
        obtain ⟨s0, s1⟩ := hSw
        first | (go_simp; done) | (go_simp; with_reducible rfl)
      simp only [List.set_cons_zero, List.set_cons_succ]
      refine wpAnyH_ready (rs := [16]) (by kernel_rfl) (by simp) ?_
      refine AllReadyH.cons rfl (fun K hK => ?_) AllReadyH.nil
      go_simp
      refine hK.out _ _ (by refine ⟨?_, ?_⟩ <;> go_simp) (fun hHeld => ?_)
      clear hK K
      refine wpAnyH_done (by kernel_rfl) ?_ _
      refine NoPanic.normal ?_
      go_wp2_with fail
      exact ⟨⟨k + 1, by omega, by simp, HS.out.drew⟩, by simp [intOf]; omega⟩
    · have hke : k = n := by omega
      subst hke
      have HE : Hid (RunW w0 wr A 2 tp k rv { x with es := wAc x.es (pF x) }) := by
        have e := HH.out.ln.1
        rw [← lo_wAc, ← mid_all, e]
        exact hr
      obtain ⟨-, -, -, d4, d5, -⟩ := hr.own
      clear hr
      go_wp2_with fail
      go_loopw [42] (fun i wl => ∃ (j : Nat) (b : Nat → Int), j ≤ k ∧ i = .int .i64 j ∧ RunW w0 wl A 2 tp k rv { x with es := wAc x.es b } ∧ LD x j b) (fun i _ => k - (intOf i).toNat)
      case atStart => exact ⟨0, _, Nat.zero_le _, rfl, HE.out, LD.zero x⟩
      case round =>
        obtain ⟨j, b, hj, rfl, hr, hld⟩ := hrel
        by_cases hjk : j < k
        · have HL := lend_any w0 wr A tp k rv x b hr hn HG.out.1 j hjk hld
          have hji : (j : Int) < (k : Int) := by omega
          clear hr hld
          go_wp2_with (go_at_call 44; refine HL.mono ?_; rintro r w1 ⟨rfl, b1, hw1, hl1⟩; have H1 : Hid (RunW w0 w1 A 2 tp k rv { x with es := wAc x.es b1 } ∧ LD x (j + 1) b1) := ⟨hw1, hl1⟩; clear hw1 hl1 HL)
          exact ⟨⟨j + 1, b1, by omega, by simp, H1.out.1, H1.out.2⟩, by simp [intOf]; omega⟩
        · have hje : j = k := by omega
          subst hje
          have HE2 : Hid (RunW w0 wr A 2 tp j rv { x with es := wAc x.es a }) := by
            rw [wAc_one HG.out.2 (hld.done tp hxl)]
            exact hr
          clear hr hld
          go_wp2_with fail
          go_end0
          exact ⟨rfl, HE2.out⟩

/-- Active priorities there are. -/
theorem ac_plain (tp : List Int) (x : Rs) : IsAc 1 tp x (pF x) := fun i e he => by
  rw [pF_at he]
  exact ⟨Int.le_refl _, fun h => by omega, fun h => by omega, .inl rfl⟩

def uF (tp : List Int) (x : Rs) (i : Nat) : Int := (((upAll x.hs tp (x.es.map loF))[i]?).map En.ac).getD 0

theorem up_wAc {n : Nat} (tp : List Int) (x : Rs) (hh : ∀ (m : Nat) (z : Int), x.hs[m]? = some z → z = -1 ∨ ∃ i : Nat, z = (i : Int) ∧ i < n) : upAll x.hs tp (x.es.map loF) = wAc x.es (uF tp x) ∧ IsAc 3 tp x (uF tp x) := by
  have hz0 : ∀ z ∈ x.hs, z = -1 ∨ 0 ≤ z := fun z hz => by
    obtain ⟨m, hm⟩ := List.getElem?_of_mem hz
    rcases hh m z hm with h | ⟨i, h, -⟩ <;> omega
  have key : ∀ (i : Nat) (e : En), x.es[i]? = some e → ∃ c, (upAll x.hs tp (x.es.map loF))[i]? = some { e with ac := c } ∧ e.x.p ≤ c ∧ (∀ (m : Nat) (t : Int), x.hs[m]? = some (i : Int) → tp[m]? = some t → t ≤ c) ∧ (c = e.x.p ∨ ∃ (m : Nat) (t : Int), x.hs[m]? = some (i : Int) ∧ tp[m]? = some t ∧ c = t) := fun i e he => by
    obtain ⟨c, h1, h2, h3, h4⟩ := upAll_at x.hs tp (x.es.map loF) i (loF e) hz0 (by rw [List.getElem?_map, he]; rfl)
    exact ⟨c, h1, h2, h3, h4⟩
  have ku : ∀ (i : Nat) (e : En) (c : Int), (upAll x.hs tp (x.es.map loF))[i]? = some { e with ac := c } → uF tp x i = c := fun i e c h => by unfold uF; rw [h]; rfl
  have hlen : (upAll x.hs tp (x.es.map loF)).length = x.es.length := by
    have := congrArg List.length (nac_up x.hs tp (x.es.map loF))
    simpa using this
  refine ⟨?_, fun i e he => ?_⟩
  · apply List.ext_getElem?
    intro i
    cases h : x.es[i]? with
    | none =>
      rw [wAc_none h]
      exact List.getElem?_eq_none (by rw [hlen]; exact List.getElem?_eq_none_iff.1 h)
    | some e =>
      obtain ⟨c, h1, -⟩ := key i e h
      rw [wAc_at h, h1, ku i e c h1]
  · obtain ⟨c, h1, h2, h3, h4⟩ := key i e he
    rw [ku i e c h1]
    refine ⟨h2, fun _ => h3, (fun h => by omega), ?_⟩
    rcases h4 with h | h
    · exact .inl h
    · exact .inr (.inl ⟨rfl, h⟩)

theorem ac_some {l : List Lj} {now : Nat} {x : Rs} (g : GI l now x) (tp : List Int) (pr : Int) (hpr : pr = 1 ∨ pr = 2 ∨ pr = 3) : ∃ a, IsAc pr tp x a := by
  rcases hpr with rfl | rfl | rfl
  · exact ⟨_, ac_plain tp x⟩
  · obtain ⟨b, hb⟩ := LD.to g.gx g.len l.length (Nat.le_refl _)
    exact ⟨b, hb.done tp g.len⟩
  · exact ⟨_, (up_wAc tp x g.hs).2⟩

/-- locks.raise, by any protocol. -/
theorem raise_gen {l : List Lj} (pr : Int) (hpr : pr = 1 ∨ pr = 2 ∨ pr = 3) (w0 w : World) (A : Ad) (tp : List Int) (rv : Value) (x : Rs) (h : RunW w0 w A pr tp l.length rv x) (hn : l.length ≤ 100) {now : Nat} (g : GI l now x) (a : Nat → Int) (ha : IsAc pr tp x a) :
    Calls Try.prog 39 #[.pointer (some ⟨A.R, 0, none⟩)] w fun r w' => r = .returned (.tuple #[]) ∧ RunW w0 w' A pr tp l.length rv { x with es := wAc x.es a } := by
  rcases hpr with rfl | rfl | rfl
  · rw [wAc_one ha (ac_plain tp x), ← lo_wAc]
    exact raise_plain w0 w A tp l.length rv x h hn
  · exact raise_lend w0 w A tp l.length rv x h hn g.gx a ha
  · obtain ⟨h1, h2⟩ := up_wAc tp x g.hs
    rw [wAc_one ha h2, ← h1]
    refine raise_any w0 w A tp l.length rv x h hn (fun z hz => ?_)
    obtain ⟨m, hm⟩ := List.getElem?_of_mem hz
    rcases g.hs m z hm with h | ⟨i, h, hi⟩ <;> omega
end Go.Proofs.Ytcmoehednkaehah
namespace Go.Proofs.Ytcmoehednkaehah
open Go.ChangeShapes Go.WideShapes Go.ChangeAt Go.RowKit


set_option maxRecDepth 20000 in
set_option maxHeartbeats 4000000 in
theorem Play_good2 (I : Nat → List Int → Rs → Prop) (w : World) (l : List Lj) (v : Value) (hv : LkSl w l v) (hok : chkLk l = (0, 0)) (U : Nat) (hU : U ≤ 20000) (h0 : I 0 [] (x0 l))
    (HT : ∀ (w0 w' : World) (A : Ad) (B now : Nat) (runs : List Int), (∀ y ∈ l, RowSl Ac.vals w0 y.acts y.v) → now < U → runs.length = now → TI I 2 (topsF l) l.length w0 w' A B now runs → Calls Try.prog 22 #[.pointer (some ⟨A.R, 0, none⟩), .int .i64 (now : Int)] w' fun r w'' => r = .returned (.tuple #[]) ∧ ∃ f, TI I 2 (topsF l) l.length w0 w'' A B (now + 1) (runs ++ [f])) :
    Calls Try.prog 9 #[v, .int .i64 2, .int .i64 (U : Int)] w fun r w' => ∃ rv ev tv runs x, r = .returned (.tuple #[.agg #[rv, ev, tv, .bool (stuckF U x.es x.en false)], .agg #[.int .i64 0, .int .i64 0]]) ∧ PlayW w w' l.length rv ev tv runs x ∧ runs.length = U ∧ I U runs x := by
  have hck := chkLk_right (l := l) (by rw [hok])
  have HNew := fun W (hb : Below w.heap.size w W) => newRun_any W l v (hv.below hb) hck.1 (fun x hx => (hck.2 x hx).1) 2
  have HCk := fun W (hb : Below w.heap.size w W) => checkJobs_any W l v (hv.below hb)
  rw [hok] at HCk
  have HA : Hid (∀ W, Below w.heap.size w W → ∀ y ∈ l, RowSl Ac.vals W y.acts y.v) := fun W hb y hy => (hv.2 y hy).below hb
  have hn : l.length ≤ 100 := hck.1
  have H0 : Hid (I 0 [] (x0 l)) := h0
  have hUi : (U : Int) ≤ 20000 := by omega
  have hUw : within (U : Int) 0 20000 = true := by simp [within]; omega
  have HC0 := HCk ((w.alloc (.cells #[.slice none 0 0, .slice none 0 0, .slice none 0 0, .bool false] 37)).alloc (.cells #[.int .i64 0, .int .i64 0] 31)) (below_seq (below_new _ _) (below_new _ _))
  clear hck hok hv h0 HCk
  go_enter Try.func9, Try.ntmps9
  go_wp2_with (go_at_call 19; refine HC0.mono ?_; rintro r w1 ⟨rfl, hb1⟩; have H1 : Hid (Below ((w.alloc (.cells #[.slice none 0 0, .slice none 0 0, .slice none 0 0, .bool false] 37)).alloc (.cells #[.int .i64 0, .int .i64 0] 31)).heap.size ((w.alloc (.cells #[.slice none 0 0, .slice none 0 0, .slice none 0 0, .bool false] 37)).alloc (.cells #[.int .i64 0, .int .i64 0] 31)) w1) := hb1; clear hb1 HC0)
  go_wp2_with (go_at_call 20; refine (within_any _ _ _ _).mono ?_; rintro r w2 ⟨rfl, rfl⟩; rw [hUw])
  obtain ⟨Wn, hWn⟩ : ∃ Wn, w1.alloc (.cells #[.int .i64 0, .int .i64 0] 31) = Wn := ⟨_, rfl⟩
  rw [hWn]
  have hbn : Below w.heap.size w Wn := by
    rw [← hWn]
    exact below_seq (below_seq (below_seq (below_new _ _) (below_new _ _)) H1.out) (below_new _ _)
  have hs1 : w.heap.size + 2 ≤ w1.heap.size := by have := H1.out.size; simp at this; omega
  have P6 : Wn.heap[w.heap.size]? = some (.cells #[.slice none 0 0, .slice none 0 0, .slice none 0 0, .bool false] 37 (0, 0)) := by
    rw [← hWn, (below_new w1 _).block _ (by omega), H1.out.block _ (by simp <;> omega), (below_new _ _).block _ (by simp <;> omega)]
    exact heap_alloc_new w _
  have P7 : Wn.heap[w.heap.size + 1]? = some (.cells #[.int .i64 0, .int .i64 0] 31 (0, 0)) := by
    rw [← hWn, (below_new w1 _).block _ (by omega), H1.out.block _ (by simp <;> omega)]
    have := heap_alloc_new (w.alloc (.cells #[.slice none 0 0, .slice none 0 0, .slice none 0 0, .bool false] 37)) (.cells #[.int .i64 0, .int .i64 0] 31)
    simpa using this
  have HN := HNew Wn hbn
  have HP : Hid (Below w.heap.size w Wn ∧ Wn.heap[w.heap.size]? = some (.cells #[.slice none 0 0, .slice none 0 0, .slice none 0 0, .bool false] 37 (0, 0)) ∧ Wn.heap[w.heap.size + 1]? = some (.cells #[.int .i64 0, .int .i64 0] 31 (0, 0)) ∧ w.heap.size + 2 ≤ Wn.heap.size) := ⟨hbn, P6, P7, by rw [← hWn]; simp; omega⟩
  have HTt : Hid (∀ (w0 w' : World) (A : Ad) (B now : Nat) (runs : List Int), (∀ y ∈ l, RowSl Ac.vals w0 y.acts y.v) → now < U → runs.length = now → TI I 2 (topsF l) l.length w0 w' A B now runs → Calls Try.prog 22 #[.pointer (some ⟨A.R, 0, none⟩), .int .i64 (now : Int)] w' fun r w'' => r = .returned (.tuple #[]) ∧ ∃ f, TI I 2 (topsF l) l.length w0 w'' A B (now + 1) (runs ++ [f])) := HT
  clear hWn hbn hs1 P6 P7 HNew H1 HT
  go_wp2_with (go_at_call 21; refine HN.mono ?_; rintro r w2 ⟨A, B, rfl, hr2, hl2⟩; have H2 : Hid (RunW Wn w2 A 2 (topsF l) l.length (.slice none 0 0) (x0 l) ∧ Lows Wn A B) := ⟨hr2, hl2⟩; clear hr2 hl2 HN)
  go_loopw [42] (fun i wr => ∃ (now : Nat) (runs : List Int), now ≤ U ∧ i = .int .i64 now ∧ runs.length = now ∧ TI I 2 (topsF l) l.length Wn wr A B now runs) (fun i _ => U - (intOf i).toNat)
  case atStart => exact ⟨0, [], Nat.zero_le _, rfl, rfl, ⟨⟨_, _, H2.out.1, ⟨rfl, .inl ⟨rfl, rfl⟩⟩, H0.out⟩, H2.out.2⟩⟩
  case round =>
    obtain ⟨now, runs, hnow, rfl, hlen, hti⟩ := hrel
    by_cases hlt : now < U
    · have HTk := HTt.out Wn wr A B now runs (HA.out Wn HP.out.1) hlt hlen hti
      have hni : (now : Int) < (U : Int) := by omega
      have HLn : Hid (runs.length = now) := hlen
      clear hti hlen
      go_wp2_with (go_at_call 22; refine HTk.mono ?_; rintro r w3 ⟨rfl, f, ht3⟩; have H3 : Hid (TI I 2 (topsF l) l.length Wn w3 A B (now + 1) (runs ++ [f])) := ht3; clear ht3 HTk)
      exact ⟨⟨now + 1, runs ++ [f], by omega, by simp, by rw [List.length_append, HLn.out]; rfl, H3.out⟩, by simp [intOf]; omega⟩
    · have hne : now = U := by omega
      subst hne
      obtain ⟨⟨rv, x, hr, hst, g⟩, hlow⟩ := hti
      obtain ⟨ad, c, rfl⟩ := owns_value hst
      have HSt := stuck_any Wn wr A 2 (topsF l) l.length (.slice ad runs.length c) x hr hn now
      generalize hsk : stuckF now x.es x.en false = sk at HSt
      obtain ⟨rc, rf, rl⟩ := cells_of hr.hR
      have r0 : wr.cell? ⟨A.R, 0, none⟩ = some (.slice ad runs.length c) := rc 0 _ rfl
      have r1 : wr.cell? ⟨A.R, 1, none⟩ = some (.slice (some ⟨A.E, 0, none⟩) l.length l.length) := rc 1 _ rfl
      have r2 : wr.cell? ⟨A.R, 2, none⟩ = some (.slice (some ⟨A.T, 0, none⟩) l.length l.length) := rc 2 _ rfl
      have r3 : wr.cell? ⟨A.R, 3, none⟩ = some (.bool false) := rc 3 _ rfl
      have rf3 := rf 3
      have q6 := (hr.bel.block _ (by have := HP.out.2.2.2; omega)).trans HP.out.2.1
      have q7 := (hr.bel.block _ (by have := HP.out.2.2.2; omega)).trans HP.out.2.2.1
      obtain ⟨xc, xf, xl⟩ := cells_of (l := [_, _, _, _]) q6
      obtain ⟨yc, yf, yl⟩ := cells_of (l := [_, _]) q7
      have x0' := xc 0 _ rfl
      have x1' := xc 1 _ rfl
      have x2' := xc 2 _ rfl
      have x3' := xc 3 _ rfl
      have y0' := yc 0 _ rfl
      have y1' := yc 1 _ rfl
      have xf0 := xf 0
      have xf1 := xf 1
      have xf2 := xf 2
      have xf3 := xf 3
      have yf0 := yf 0
      have yf1 := yf 1
      have hRl := hr.lo.1
      have hWl := HP.out.2.2.2
      have n6 : w.heap.size ≠ A.R := by omega
      have n7 : w.heap.size + 1 ≠ A.R := by omega
      have HE : Hid (RunW Wn wr A 2 (topsF l) l.length (.slice ad runs.length c) x ∧ Stk wr B (.slice ad runs.length c) runs ∧ I now runs x ∧ Lows Wn A B ∧ runs.length = now ∧ stuckF now x.es x.en false = sk) := ⟨hr, hst, g, hlow, hlen, hsk⟩
      have HQ : Hid (wr.heap[w.heap.size]? = some (.cells #[.slice none 0 0, .slice none 0 0, .slice none 0 0, .bool false] 37 (0, 0)) ∧ wr.heap[w.heap.size + 1]? = some (.cells #[.int .i64 0, .int .i64 0] 31 (0, 0))) := ⟨q6, q7⟩
      clear hr hst g hlow hlen hsk rc rf xc xf yc yf q6 q7
      go_wp2_with (go_at_call 23; refine HSt.mono ?_; rintro r w4 ⟨rfl, rfl⟩; clear HSt)
      obtain ⟨s6, s7, sk6, sb⟩ := play_store (W5 := w4.setCell ⟨A.R, 3, none⟩ (.bool sk)) (s := w.heap.size) (.slice ad runs.length c) (.slice (some ⟨A.E, 0, none⟩) l.length l.length) (.slice (some ⟨A.T, 0, none⟩) l.length l.length) (.bool sk) ((Below.heap_setCell _ _ _ _ n6).trans HQ.out.1) ((Below.heap_setCell _ _ _ _ n7).trans HQ.out.2)
      refine bodyPost_ret (Play_ends s6 s7 rfl rfl) rfl ?_
      obtain ⟨hr, hst, g, hlow, hlen, hsk⟩ := HE.out
      have hkeep : ∀ k, k ≠ A.R → k ≠ w.heap.size → k ≠ w.heap.size + 1 → _ := fun k h1 h2 h3 => (sk6 k h2 h3).trans (Below.heap_setCell w4 ⟨A.R, 3, none⟩ (.bool sk) k h1)
      have hE := hr.lo.2.2.1
      have hT := hr.lo.2.2.2.1
      refine ⟨_, _, _, runs, x, by rw [hsk], ⟨?_, ?_, ?_, ?_, hr.ln.2.1, hr.ln.2.2.1⟩, hlen, g⟩
      · exact ((HP.out.1.trans (hr.bel.mono HP.out.1.size)).setCell (by show w.heap.size ≤ A.R; omega) _).trans sb
      · refine (hst.keep (fun k hk => hkeep k ?_ ?_ ?_)).row
        · have := hst.low hk; have := hlow.bs.1; omega
        · have := hst.low hk; have := hlow.w; omega
        · have := hst.low hk; have := hlow.w; omega
      · exact row_block ((hkeep A.E (Ne.symm hr.ne.1.2.1) (by omega) (by omega)).trans hr.hE) hr.ln.2.1
      · exact row_block ((hkeep A.T (Ne.symm hr.ne.1.2.2.1) (by omega) (by omega)).trans hr.hT) hr.ln.2.2.1

theorem nac_same {e e' : En} (h : nac e = nac e') : e.x = e'.x ∧ e.nx = e'.nx ∧ e.rn = e'.rn ∧ e.bg = e'.bg ∧ e.wt = e'.wt := by
  unfold nac at h
  simp only [En.mk.injEq] at h
  exact ⟨h.1, h.2.1, h.2.2.1, h.2.2.2.1, h.2.2.2.2.1⟩

theorem nrm_back {x y : Rs} (h : nrm x = nrm y) : (x.en = y.en ∧ x.ws = y.ws ∧ x.hs = y.hs) ∧ ∀ (i : Nat) (e : En), y.es[i]? = some e → ∃ e0, x.es[i]? = some e0 ∧ e0.x = e.x ∧ e0.nx = e.nx ∧ e0.rn = e.rn ∧ e0.bg = e.bg ∧ e0.wt = e.wt := by
  unfold nrm at h
  simp only [Rs.mk.injEq] at h
  refine ⟨h.2, fun i e he => ?_⟩
  have h1 : (x.es.map nac)[i]? = some (nac e) := by rw [h.1, List.getElem?_map, he]; rfl
  rw [List.getElem?_map] at h1
  cases h0 : x.es[i]? with
  | none => rw [h0] at h1; cases h1
  | some e0 =>
    rw [h0] at h1
    have : nac e0 = nac e := by simpa using h1
    exact ⟨e0, rfl, nac_same this⟩

theorem GI_same {l : List Lj} {now : Nat} {x y : Rs} (g : GI l now x) (h : nrm x = nrm y) : GI l now y := by
  obtain ⟨⟨h1, h2, h3⟩, h4⟩ := nrm_back h
  have hle : y.es.map En.x = x.es.map En.x := by
    unfold nrm at h
    simp only [Rs.mk.injEq] at h
    have := congrArg (List.map En.x) h.1
    rw [List.map_map, List.map_map] at this
    exact this.symm
  refine ⟨hle.trans g.le, h1 ▸ g.ne, h2 ▸ g.nw, h3 ▸ g.nh, h3 ▸ g.hs, ?_, ?_, ?_, h2 ▸ g.ws⟩
  · intro i e z he hz
    obtain ⟨e0, k0, k1, k2, k3, k4, k5⟩ := h4 i e he
    rw [← h1] at hz
    have := g.st i e0 z k0 hz
    rw [k1, k2, k5] at this
    exact this
  · intro i e he
    obtain ⟨e0, k0, k1, k2, k3, k4, k5⟩ := h4 i e he
    have := g.rn i e0 k0
    rw [k1, k2, k3] at this
    exact this
  · intro i e he
    obtain ⟨e0, k0, k1, k2, k3, k4, k5⟩ := h4 i e he
    have := g.wt i e0 k0
    rw [k5, h3] at this
    exact this

theorem nrm_wAc (x : Rs) (a : Nat → Int) : nrm { x with es := wAc x.es a } = nrm x := by
  unfold nrm
  dsimp only
  congr 1
  apply List.ext_getElem?
  intro i
  rw [List.getElem?_map, List.getElem?_map]
  cases h : x.es[i]? with
  | none => rw [wAc_none h]
  | some e => rw [wAc_at h]; rfl

theorem wAc_nrm (x : Rs) (a : Nat → Int) : wAc (nrm x).es a = wAc x.es a := by
  apply List.ext_getElem?
  intro i
  cases h : x.es[i]? with
  | none => rw [wAc_none h, wAc_none (show (nrm x).es[i]? = none by unfold nrm; simp [h])]
  | some e => rw [wAc_at h, wAc_at (nrm_at h)]; rfl

theorem edge_nrm {x : Rs} {u v : Nat} (h : Edge (nrm x) u v) : Edge x u v := by
  obtain ⟨e, m, h1, h2, h3⟩ := h
  obtain ⟨-, h4⟩ := nrm_back (x := x) (y := nrm x) (nrm_nrm x).symm
  obtain ⟨e0, k0, -, -, -, -, k5⟩ := h4 u e h1
  exact ⟨e0, m, k0, k5.trans h2, h3⟩
theorem edge_nrm' {x : Rs} {u v : Nat} (h : Edge x u v) : Edge (nrm x) u v := by
  obtain ⟨e, m, h1, h2, h3⟩ := h
  exact ⟨nac e, m, nrm_at h1, h2, h3⟩
theorem reach_nrm {x : Rs} {u v : Nat} (h : Reach x u v) : Reach (nrm x) u v := by
  induction h with
  | refl => exact .refl _
  | step h1 h2 ih => exact .step ih (edge_nrm' h2)

theorem IsAc.nrm {pr : Int} {tp : List Int} {x : Rs} {a : Nat → Int} (h : IsAc pr tp x a) : IsAc pr tp (Ytcmoehednkaehah.nrm x) a := by
  intro i e he
  obtain ⟨-, h4⟩ := nrm_back (x := x) (y := Ytcmoehednkaehah.nrm x) (nrm_nrm x).symm
  obtain ⟨e0, k0, k1, -⟩ := h4 i e he
  obtain ⟨q1, q2, q3, q4⟩ := h i e0 k0
  rw [k1] at q1 q4
  refine ⟨q1, q2, fun hp k hk => q3 hp k (edge_nrm hk), ?_⟩
  rcases q4 with q | q | ⟨hp, k, e', h1, h2, h3⟩
  · exact .inl q
  · exact .inr (.inl q)
  · exact .inr (.inr ⟨hp, k, nac e', nrm_at h1, reach_nrm h2, h3⟩)

theorem mu2_nrm (n : Nat) (x : Rs) : mu2 n (nrm x) = mu2 n x := by
  unfold mu2 mu cwF nrm
  dsimp only
  rw [List.map_map, List.map_map]
  rfl
theorem mu2_same {n : Nat} {x y : Rs} (h : nrm x = nrm y) : mu2 n x = mu2 n y := by rw [← mu2_nrm n x, h, mu2_nrm]

theorem bumpF_nac : ∀ (es : List En) (ws : List Int), bumpF (es.map nac) ws = bumpF es ws
  | [], _ => rfl
  | _ :: _, [] => rfl
  | e :: r, z :: q => by
    rw [List.map_cons, bumpF, bumpF, bumpF_nac r q]
    rfl
theorem stuckF_nac (t : Int) : ∀ (es : List En) (en : List Int) (b : Bool), stuckF t (es.map nac) en b = stuckF t es en b
  | [], _, _ => rfl
  | _ :: _, [], _ => rfl
  | e :: r, z :: q, b => by
    rw [List.map_cons, stuckF, stuckF, stuckF_nac t r q b, stuckF_nac t r q true]
    rfl

set_option maxRecDepth 20000 in
set_option maxHeartbeats 2000000 in
/-- locks.begin, by any protocol. -/
theorem begin_gen {l : List Lj} (ok : Ok l) (pr : Int) (hpr : pr = 1 ∨ pr = 2 ∨ pr = 3) (w0 w : World) (A : Ad) (tp : List Int) (rv : Value) (x : Rs) (hr : RunW w0 w A pr tp l.length rv x) (hrow : ∀ y ∈ l, RowSl Ac.vals w0 y.acts y.v) (now : Nat) (hnow : now ≤ 20000) (g : GI l now x) :
    Calls Try.prog 30 #[.pointer (some ⟨A.R, 0, none⟩), .int .i64 (now : Int)] w fun r w' => ∃ (f : Int) (z : Rs), r = .returned (.int .i64 f) ∧ RunW w0 w' A pr tp l.length rv z ∧ GI l now z ∧ Beg pr tp l.length now (nrm x) f (nrm z) := by
  have hn := ok.few
  have H0 : Hid (RunW w0 w A pr tp l.length rv x ∧ GI l now x) := ⟨hr, g⟩
  have HA : Hid ((∀ y ∈ l, RowSl Ac.vals w0 y.acts y.v) ∧ Ok l ∧ (pr = 1 ∨ pr = 2 ∨ pr = 3)) := ⟨hrow, ok, hpr⟩
  clear hr hrow g ok hpr
  go_enter Try.func30, Try.ntmps30
  go_wp2_with fail
  go_loopg [] (mu2 l.length x + 1) (fun q wr => ∃ x1, RunW w0 wr A pr tp l.length rv x1 ∧ GI l now x1 ∧ mu2 l.length x1 < q ∧ ∀ f y, Beg pr tp l.length now (nrm x1) f y → Beg pr tp l.length now (nrm x) f y)
  case atStart => exact ⟨x, H0.out.1, H0.out.2, Nat.lt_succ_self _, fun f y h => h⟩
  case round =>
    obtain ⟨x1, hr1, g1, hmu, hbeg⟩ := hrel
    obtain ⟨a, ha⟩ := ac_some g1 tp pr HA.out.2.2
    have HF := foremost_any w0 wr A pr tp l.length rv _ now hn (raise_gen pr HA.out.2.2 w0 wr A tp rv x1 hr1 hn g1 a ha)
    have hy := nrm_wAc x1 a
    have hfst : ∀ f, Best { x1 with es := wAc x1.es a } now l.length f → Fst pr tp l.length (nrm x1) now f := fun f hf => ⟨a, ha.nrm, by rw [wAc_nrm]; exact hf⟩
    have gy := GI_same g1 hy.symm
    have hmy : mu2 l.length { x1 with es := wAc x1.es a } < gk := by rw [mu2_same hy]; exact hmu
    rw [← hy] at hfst hbeg
    generalize ({ x1 with es := wAc x1.es a } : Rs) = y at HF hfst gy hmy hbeg
    have HG : Hid ((∀ f, Best y now l.length f → Fst pr tp l.length (nrm y) now f) ∧ GI l now y ∧ mu2 l.length y < gk ∧ ∀ f z, Beg pr tp l.length now (nrm y) f z → Beg pr tp l.length now (nrm x) f z) := ⟨hfst, gy, hmy, hbeg⟩
    clear hr1 g1 hmu hbeg ha hy hfst gy hmy
    go_wp2_with (go_at_call 34; refine HF.mono ?_; rintro r w1 ⟨f, rfl, hbe, hw⟩; have HB : Hid (Best y now l.length f ∧ RunW w0 w1 A pr tp l.length rv y) := ⟨hbe, hw⟩; clear hbe hw HF)
    · have hg : f = -1 := by assumption
      subst hg
      go_ret
      exact ⟨-1, y, rfl, HB.out.2, HG.out.2.1, HG.out.2.2.2 _ _ (.none (HG.out.1 _ HB.out.1))⟩
    · have hg : ¬ f = -1 := by assumption
      obtain ⟨i, hi, hel⟩ : ∃ i : Nat, f = (i : Int) ∧ Elig y now i := by
        rcases HB.out.1 with ⟨h, -⟩ | ⟨i, -, h, h', -⟩
        · exact absurd h hg
        · exact ⟨i, h, h'⟩
      subst hi
      obtain ⟨b, z, ha, gz, hmz⟩ := HG.out.2.1.act HA.out.2.1 hel
      have HAct := act_exact (fun q hq => (HA.out.2.1.acts q hq).1) w0 w1 A pr tp rv y z HB.out.2 HA.out.1 hn HG.out.2.1.le now hnow i b ha
      have han := actF_nrm ha
      cases b
      · have HZ : Hid (GI l now z ∧ mu2 l.length z < mu2 l.length y ∧ actF (nrm y) i now = some (false, nrm z)) := ⟨gz, hmz rfl, han⟩
        clear ha gz hmz han hel
        go_wp2_with (go_at_call 35; refine HAct.mono ?_; rintro r w2 ⟨rfl, hw2⟩; have H2 : Hid (RunW w0 w2 A pr tp l.length rv z) := hw2; clear hw2 HAct)
        go_roundg (gk - 1)
        case measure => have := HG.out.2.2.1; have := HZ.out.2.1; omega
        case rel => exact ⟨z, H2.out, HZ.out.1, by have := HG.out.2.2.1; have := HZ.out.2.1; omega, fun f q hq => HG.out.2.2.2 _ _ (.more (HG.out.1 _ HB.out.1) HZ.out.2.2 hq)⟩
      · have HZ : Hid (GI l now z ∧ actF (nrm y) i now = some (true, nrm z)) := ⟨gz, han⟩
        clear ha gz hmz han hel
        go_wp2_with (go_at_call 35; refine HAct.mono ?_; rintro r w2 ⟨rfl, hw2⟩; have H2 : Hid (RunW w0 w2 A pr tp l.length rv z) := hw2; clear hw2 HAct)
        go_ret
        exact ⟨(i : Int), z, rfl, H2.out, HZ.out.1, HG.out.2.2.2 _ _ (.work (HG.out.1 _ HB.out.1) HZ.out.2)⟩

/-- locks.Play, by any protocol. -/
theorem Play_gen (w : World) (l : List Lj) (v : Value) (hv : LkSl w l v) (hok : chkLk l = (0, 0)) (pr : Int) (hpr : pr = 1 ∨ pr = 2 ∨ pr = 3) (U : Nat) (hU : U ≤ 20000) :
    Calls Try.prog 9 #[v, .int .i64 pr, .int .i64 (U : Int)] w fun r w' => ∃ rv ev tv runs x, r = .returned (.tuple #[.agg #[rv, ev, tv, .bool (stuckF U x.es x.en false)], .agg #[.int .i64 0, .int .i64 0]]) ∧ PlayW w w' l.length rv ev tv runs x ∧ runs.length = U ∧ Rn pr l U runs x := by
  have ok : Ok l := ok_of (by rw [hok])
  have h0 : Rn pr l 0 [] (nrm (x0 l)) ∧ GI l 0 (x0 l) := by
    refine ⟨?_, GI.start ok⟩
    have : nrm (x0 l) = x0 l := by
      unfold nrm x0
      dsimp only
      rw [List.map_map]
      rfl
    rw [this]
    exact .zero
  have ht : ∀ (w0 w' : World) (A : Ad) (B now : Nat) (runs : List Int), (∀ y ∈ l, RowSl Ac.vals w0 y.acts y.v) → now < U → runs.length = now → TI (fun now runs x => Rn pr l now runs (nrm x) ∧ GI l now x) pr (topsF l) l.length w0 w' A B now runs → Calls Try.prog 22 #[.pointer (some ⟨A.R, 0, none⟩), .int .i64 (now : Int)] w' fun r w'' => r = .returned (.tuple #[]) ∧ ∃ f, TI (fun now runs x => Rn pr l now runs (nrm x) ∧ GI l now x) pr (topsF l) l.length w0 w'' A B (now + 1) (runs ++ [f]) := by
    intro w0 w' A B now runs hrow hlt hrl hti
    refine tick_gen _ (fun f z => GI l now z ∧ Rn pr l (now + 1) (runs ++ [f]) (nrm { z with ws := bumpF z.es z.ws })) pr (topsF l) l.length w0 w' A B now runs ok.few (by omega) hti ?_ ?_
    · rintro A' w2 rv x hr ⟨hp, hx⟩
      refine (begin_gen ok pr hpr w0 w2 A' (topsF l) rv x hr hrow now (by omega) hx).mono ?_
      rintro r w3 ⟨f, z, rfl, h1, h2, h3⟩
      refine ⟨f, z, rfl, h1, h2, ?_⟩
      have := Rn.more hp h3
      rw [show (nrm z).ws = z.ws from rfl, show (nrm z).es = z.es.map nac from rfl, bumpF_nac] at this
      exact this
    · rintro f z ⟨g, h⟩
      refine ⟨fun q hq => ?_, h, g.tick⟩
      have := g.ws q hq
      omega
  have fin : ∀ {r : Ending} {w' : World}, (∃ rv ev tv runs x, r = .returned (.tuple #[.agg #[rv, ev, tv, .bool (stuckF U x.es x.en false)], .agg #[.int .i64 0, .int .i64 0]]) ∧ PlayW w w' l.length rv ev tv runs x ∧ runs.length = U ∧ (Rn pr l U runs (nrm x) ∧ GI l U x)) → ∃ rv ev tv runs x, r = .returned (.tuple #[.agg #[rv, ev, tv, .bool (stuckF U x.es x.en false)], .agg #[.int .i64 0, .int .i64 0]]) ∧ PlayW w w' l.length rv ev tv runs x ∧ runs.length = U ∧ Rn pr l U runs x := by
    rintro r w' ⟨rv, ev, tv, runs, x, rfl, h1, h2, h3, -⟩
    refine ⟨rv, ev, tv, runs, nrm x, ?_, ⟨h1.bel, h1.r, h1.e, h1.t, h1.ln⟩, h2, h3⟩
    rw [show (nrm x).es = x.es.map nac from rfl, stuckF_nac]
    rfl
  rcases hpr with rfl | rfl | rfl
  · exact (Play_good1 _ w l v hv hok U hU h0 ht).mono fun r w' h => fin h
  · exact (Play_good2 _ w l v hv hok U hU h0 ht).mono fun r w' h => fin h
  · exact (Play_good3 _ w l v hv hok U hU h0 ht).mono fun r w' h => fin h
end Go.Proofs.Ytcmoehednkaehah
