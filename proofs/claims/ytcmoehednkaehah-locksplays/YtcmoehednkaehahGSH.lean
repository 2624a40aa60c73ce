import Derived.Test.YtcmoehednkaehahGSG
import Derived.BigQuiet
namespace Go.Proofs.Ytcmoehednkaehah
open Go.ChangeShapes Go.WideShapes Go.ChangeAt Go.RowKit

/-- The row of active priorities that is being made. -/
structure RowW (W wr : World) (n : Nat) (b : Nat → Int) : Prop where
  bel : Below W.heap.size W wr
  row : wr.heap[W.heap.size]? = some (.cells (inV (rowF b n)).toArray 3 (0, 0))

theorem RowW.grow {W wr wr' : World} {n : Nat} {b : Nat → Int} (h : RowW W wr n b) (hb : Below wr.heap.size wr wr') : RowW W wr' n b := ⟨below_seq h.bel hb, (hb.block _ (heap_lt h.row)).trans h.row⟩
theorem RowW.turn {W wr wr' : World} {n r : Nat} {b : Nat → Int} (h : RowW W wr n b) (hg : wr.grownBy wr' (some r)) (hr : W.heap.size < r) : RowW W wr' n b :=
  ⟨h.bel.grown hg h.bel.size (fun k hk => by cases hk; omega), (hg.block _ (heap_lt h.row) (by simp; omega)).trans h.row⟩
theorem RowW.at_ {W wr : World} {n : Nat} {b : Nat → Int} (h : RowW W wr n b) {i : Nat} (hi : i < n) : wr.cell? ⟨W.heap.size, i, none⟩ = some (.int .i64 (b i)) ∧ wr.frozen? ⟨W.heap.size, i, none⟩ = false ∧ W.heap.size < wr.heap.size :=
  ⟨(cells_of h.row).1 _ _ (inV_at (rowF_at b hi)), (cells_of h.row).2.1 i, heap_lt h.row⟩
theorem RowW.set {W wr : World} {n : Nat} {b : Nat → Int} (h : RowW W wr n b) {i : Nat} (hi : i < n) (v : Int) : RowW W (wr.setCell ⟨W.heap.size, i, none⟩ (.int .i64 v)) n (upd b i v) := by
  refine ⟨h.bel.setCell (Nat.le_refl _) _, ?_⟩
  rw [setCell_at h.row, List.setIfInBounds_toArray, inV_set, rowF_set b v hi]
theorem RowW.new (W : World) (n : Nat) : RowW W (W.alloc (.cells (List.replicate n (Value.int .i64 0)).toArray 3)) n (fun _ => 0) := by
  refine ⟨below_new _ _, ?_⟩
  rw [heap_alloc_new]
  congr 3
  apply List.ext_getElem?
  intro i
  by_cases hi : i < n
  · rw [inV_at (rowF_at (fun _ => 0) hi), List.getElem?_replicate, if_pos hi]
  · rw [List.getElem?_eq_none (by simp; omega), List.getElem?_eq_none (by unfold inV rowF; simp; omega)]

theorem ranges_set {w : World} {b r n : Nat} {D : DataW Unit} {left : Lit → Bool} {cnt : Nat} (h : w.ranges Try.prog 3 (plainElem Try.prog 3) b r n D left cnt) {a : Addr} (u : Value) (hb : b ≠ a.block) (hr : r ≠ a.block) : (w.setCell a u).ranges Try.prog 3 (plainElem Try.prog 3) b r n D left cnt := by
  obtain ⟨es, clock, since, seen, c0, h1, h2, h3, h4, h5, h6⟩ := h
  exact ⟨es, clock, since, seen, c0, (Below.heap_setCell _ _ _ _ hb).trans h1, h2, h3, h4, (Below.heap_setCell _ _ _ _ hr).trans h5, h6⟩
theorem ranges_drewN {w : World} {b r n k : Nat} {D : DataW Unit} {left : Lit → Bool} {cnt : Nat} (h : w.ranges Try.prog 3 (plainElem Try.prog 3) b r n D left cnt) : (w.drewN k).ranges Try.prog 3 (plainElem Try.prog 3) b r n D left cnt := by
  have hb := h.owns.lt
  have hr := h.lt
  obtain ⟨es, clock, since, seen, c0, h1, h2, h3, h4, h5, h6⟩ := h
  exact ⟨es, clock, since, seen, c0, (below_drewN'.block _ hb).trans h1, h2, h3, h4, (below_drewN'.block _ hr).trans h5, h6⟩

theorem same_int {a b : Int} (h : (Lit.int .i64 a).sameKey (.int .i64 b) = true) : a = b := by
  simpa [Lit.sameKey] using h

/-- How far the priorities are. -/
def BI (x : Rs) (a : Nat → Int) (n k : Nat) (b : Nat → Int) : Prop := (∀ (i : Nat) (e : En), x.es[i]? = some e → e.x.p ≤ b i ∧ b i ≤ a i) ∧ uns a b n ≤ n - k
def MI (pr : Int) (tp : List Int) (x : Rs) (a b b' : Nat → Int) (D : DataW Unit) (left : Lit → Bool) : Prop := (∀ (i : Nat) (e : En), x.es[i]? = some e → b i ≤ b' i ∧ b' i ≤ a i) ∧ (∀ kl, left kl = true → Go.Maps.has D kl = true) ∧
  ∀ m h : Nat, x.hs[m]? = some (h : Int) → left (.int .i64 (m : Int)) = false → (pr = 3 → ∀ t, tp[m]? = some t → t ≤ b' h) ∧ (pr = 2 → ∀ (u : Nat) (e : En), x.es[u]? = some e → e.wt = (m : Int) → b u ≤ b' h)
def NI (pr : Int) (tp : List Int) (x : Rs) (a b b' : Nat → Int) (m h u : Nat) : Prop := (∀ (i : Nat) (e : En), x.es[i]? = some e → b i ≤ b' i ∧ b' i ≤ a i) ∧ (pr = 3 → ∀ t, tp[m]? = some t → t ≤ b' h) ∧ (pr = 2 → ∀ (q : Nat) (e : En), q < u → x.es[q]? = some e → e.wt = (m : Int) → b q ≤ b' h)

theorem MI.start {pr : Int} {tp : List Int} {x : Rs} {a b : Nat → Int} {D : DataW Unit} {n k : Nat} (hb : BI x a n k b) (hs : MSpec D x.hs) : MI pr tp x a b b D (Go.Maps.has D) := by
  refine ⟨fun i e he => ⟨Int.le_refl _, (hb.1 i e he).2⟩, fun _ h => h, fun m h hm hl => ?_⟩
  rw [hs.has m _ hm] at hl
  simp at hl

theorem MI.stop {pr : Int} {tp : List Int} {x : Rs} {a b b' : Nat → Int} {D : DataW Unit} {left : Lit → Bool} {n k : Nat} (hpr : pr = 1 ∨ pr = 2 ∨ pr = 3) (ha : IsAc pr tp x a) (hl : x.es.length = n) (hk : k < n) (hb : BI x a n k b) (h : MI pr tp x a b b' D left) (h0 : ∀ kl, left kl = false) : BI x a n (k + 1) b' := by
  refine ⟨fun i e he => ⟨by have := (hb.1 i e he).1; have := (h.1 i e he).1; omega, (h.1 i e he).2⟩, ?_⟩
  have hr := uns_round hpr ha hl (b := b) (b' := b') (fun i e he => ⟨(hb.1 i e he).1, (h.1 i e he).1, (h.1 i e he).2⟩) (fun hp m q t h1 h2 => ((h.2.2 m q h1 (h0 _)).1 hp t h2)) (fun hp u v hu => by
    obtain ⟨e, m, h1, h2, h3⟩ := hu
    exact (h.2.2 m v h3 (h0 _)).2 hp u e h1 h2)
  have := hb.2
  omega

theorem NI.start {pr : Int} {tp : List Int} {x : Rs} {a b b' : Nat → Int} {D : DataW Unit} {left : Lit → Bool} {m h : Nat} (hm : MI pr tp x a b b' D left) (h3 : pr = 3 → ∀ t, tp[m]? = some t → t ≤ b' h) : NI pr tp x a b b' m h 0 := ⟨hm.1, h3, fun _ q e hq => by omega⟩
theorem NI.raise {tp : List Int} {x : Rs} {a b b' : Nat → Int} {D : DataW Unit} {left : Lit → Bool} {m h : Nat} {t : Int} {eh : En} (ha : IsAc 3 tp x a) (hm : MI 3 tp x a b b' D left) (hh : x.hs[m]? = some (h : Int)) (he : x.es[h]? = some eh) (ht : tp[m]? = some t) (hlt : b' h < t) : NI 3 tp x a b (upd b' h t) m h 0 := by
  refine ⟨fun i e hi => ?_, fun _ t' ht' => ?_, fun hp => by omega⟩
  · by_cases e' : i = h
    · subst e'
      rw [upd_self]
      have := (hm.1 i e hi).1
      exact ⟨by omega, (ha i e hi).2.1 rfl m t hh ht⟩
    · rw [upd_ne _ _ e']
      exact hm.1 i e hi
  · rw [ht] at ht'
    cases ht'
    rw [upd_self]
    exact Int.le_refl _
theorem NI.skip {pr : Int} {tp : List Int} {x : Rs} {a b b' : Nat → Int} {m h u : Nat} (h1 : NI pr tp x a b b' m h u) (h2 : pr = 2 → ∀ e, x.es[u]? = some e → e.wt = (m : Int) → b u ≤ b' h) : NI pr tp x a b b' m h (u + 1) := by
  refine ⟨h1.1, h1.2.1, fun hp q e hq he hw => ?_⟩
  by_cases e' : q = u
  · subst e'; exact h2 hp e he hw
  · exact h1.2.2 hp q e (by omega) he hw
theorem NI.lend {tp : List Int} {x : Rs} {a b b' : Nat → Int} {m h u : Nat} {eu eh : En} (ha : IsAc 2 tp x a) (h1 : NI 2 tp x a b b' m h u) (hu : x.es[u]? = some eu) (hw : eu.wt = (m : Int)) (hh : x.hs[m]? = some (h : Int)) (he : x.es[h]? = some eh) (hlt : b' h < b' u) : NI 2 tp x a b (upd b' h (b' u)) m h (u + 1) := by
  have hed : Edge x u h := ⟨eu, m, hu, hw, hh⟩
  have q1 := (ha h eh he).2.2.1 rfl u hed
  have q2 := (h1.1 u eu hu)
  refine ⟨fun i e hi => ?_, (fun hp => by omega), fun _ q e hq hqe hqw => ?_⟩
  · by_cases e' : i = h
    · subst e'
      rw [upd_self]
      have := (h1.1 i e hi).1
      exact ⟨by omega, by omega⟩
    · rw [upd_ne _ _ e']
      exact h1.1 i e hi
  · rw [upd_self]
    by_cases e' : q = u
    · subst e'; exact q2.1
    · have := h1.2.2 rfl q e (by omega) hqe hqw
      omega
theorem NI.stop {pr : Int} {tp : List Int} {x : Rs} {a b b' b'' : Nat → Int} {D : DataW Unit} {left : Lit → Bool} {m h n : Nat} (hl : x.es.length = n) (hm : MI pr tp x a b b' D left) (hmono : ∀ (i : Nat) (e : En), x.es[i]? = some e → b' i ≤ b'' i) (hle : ∀ z, x.hs[m]? = some z → z = (h : Int)) (hin : ∀ (k q : Nat), x.hs[k]? = some (q : Int) → ∃ e, x.es[q]? = some e) (h1 : NI pr tp x a b b'' m h n) : MI pr tp x a b b'' D (fun z => left z && !z.sameKey (.int .i64 (m : Int))) := by
  refine ⟨h1.1, fun kl hk => hm.2.1 kl (by simp at hk; exact hk.1), fun k q hk hlf => ?_⟩
  by_cases e : k = m
  · subst e
    have := hle _ hk
    have : q = h := by omega
    subst this
    exact ⟨h1.2.1, fun hp u e he hw => h1.2.2 hp u e (by rw [← hl]; exact (List.getElem?_eq_some_iff.1 he).1) he hw⟩
  · have hl0 : left (.int .i64 (k : Int)) = false := by
      rcases hlv : left (.int .i64 (k : Int)) with _ | _
      · rfl
      · dsimp only at hlf
        rw [hlv] at hlf
        simp only [Bool.true_and, Bool.not_eq_false'] at hlf
        have := same_int hlf
        omega
    obtain ⟨q1, q2⟩ := hm.2.2 k q hk hl0
    obtain ⟨eq, heq⟩ := hin k q hk
    have := hmono q eq heq
    exact ⟨fun hp t ht => by have := q1 hp t ht; omega, fun hp u e he hw => by have := q2 hp u e he hw; omega⟩

set_option maxRecDepth 20000 in
set_option maxHeartbeats 8000000 in
/-- punctualref.strength. -/
theorem strength_any (W : World) (d : Dd) (pr : Int) (hpr : pr = 1 ∨ pr = 2 ∨ pr = 3) (lv : Value) (l : List Lj) (x : Rs) (cnt : Nat) (D : DataW Unit) (hv : DV W d pr lv l x cnt D) (hn : l.length ≤ 100) {now : Nat} (g : GI l now x) (a : Nat → Int) (ha : IsAc pr (topsF l) x a) :
    Calls Try.prog 27 #[.pointer (some ⟨d.S, 0, none⟩)] W fun r W' => r = .returned (sl0 W.heap.size l.length) ∧ RowW W W' l.length a := by
  obtain ⟨ad, cp, rfl⟩ := hv.job.1.len
  obtain ⟨c0, c1, c2, -, -, -, c6, c7, c8⟩ := hv.own
  obtain ⟨lS, -⟩ := hv.lts
  have hmk : ∀ W : World, (Instr.makeSlice 26 (.int .i64 (l.length : Int)) (.int .i64 (l.length : Int))).run Try.prog W = .ok (.slice (some ⟨W.heap.size, 0, none⟩) l.length l.length) (W.alloc (.cells (List.replicate l.length (Value.int .i64 0)).toArray 3)) := fun W => make_row W l.length W.heap.size (by omega) rfl
  have HV : Hid ((∀ wr, Below W.heap.size W wr → DV wr d pr (.slice ad l.length cp) l x cnt D) ∧ GI l now x ∧ IsAc pr (topsF l) x a ∧ (pr = 1 ∨ pr = 2 ∨ pr = 3)) := ⟨fun wr hb => hv.grow hb, g, ha, hpr⟩
  have hxl := g.len
  clear hv g ha hpr
  unfold sl0 at *
  go_enter Try.func27, Try.ntmps27
  go_wp2_with fail
  go_loopw [20] (fun i wr => ∃ k : Nat, k ≤ l.length ∧ i = .int .i64 k ∧ RowW W wr l.length (fun i => if i < k then pF x i else 0)) (fun i _ => l.length - (intOf i).toNat)
  case atStart => exact ⟨0, Nat.zero_le _, rfl, RowW.new W l.length⟩
  case round =>
    obtain ⟨k, hk, rfl, hr⟩ := hrel
    by_cases hlt : k < l.length
    · obtain ⟨y, hy, -⟩ := drop_at hlt
      have hvw := HV.out.1 wr hr.bel
      obtain ⟨⟨ad', cp', e', -, -, hrw⟩, hra⟩ := hvw.job
      cases e'
      rcases hrw with h | ⟨jb, jo, rfl, hrow⟩
      · rw [h] at hy; simp at hy
      have hja := lj_at hrow hy
      have hac := hra y (List.mem_of_getElem? hy)
      obtain ⟨e, he⟩ := at_lt hxl hlt
      have hep : pF x k = y.p := by
        have h9 := HV.out.2.1.job he
        rw [hy] at h9
        cases h9
        exact pF_at he
      obtain ⟨ya, yp, yacts, yv⟩ := y
      dsimp only at hac hja hep
      obtain ⟨aad, ac, rfl⟩ := hac.len
      obtain ⟨j0, j1, j2⟩ := hja
      dsimp only at j0 j1 j2
      have jl : jb < wr.heap.size := World.block_lt_of_cell? _ _ j0
      have hki : (k : Int) < (l.length : Int) := by omega
      obtain ⟨r0, r1, r2⟩ := hr.at_ hlt
      have hne : ¬ (wr.heap.size = W.heap.size) := by omega
      have hset := hr.set hlt yp
      have hsame : upd (fun i => if i < k then pF x i else 0) k yp = (fun i => if i < k + 1 then pF x i else 0) := by
        funext i
        by_cases hi : i = k
        · subst hi
          rw [upd_self, if_pos (by omega), hep]
        · rw [upd_ne _ _ hi]
          by_cases h2 : i < k
          · rw [if_pos h2, if_pos (by omega)]
          · rw [if_neg h2, if_neg (by omega)]
      rw [hsame] at hset
      have HS : Hid (RowW W ((wr.setCell ⟨W.heap.size, k, none⟩ (.int .i64 yp)).alloc (.cells #[.int .i64 ya, .int .i64 yp, .slice aad yacts.length ac] 47)) l.length (fun i => if i < k + 1 then pF x i else 0)) := hset.grow (below_new _ _)
      clear hset hsame hep hac hra hrow hvw hr hy he
      go_wp2_with fail
      exact ⟨⟨k + 1, by omega, by simp, HS.out⟩, by simp [intOf]; omega⟩
    · have hke : k = l.length := by omega
      subst hke
      have HS : Hid (RowW W wr l.length (fun i => if i < l.length then pF x i else 0)) := hr
      obtain ⟨e0, -, -, -, -, -, -, -, -⟩ := (HV.out.1 wr hr.bel).own
      clear hr
      unfold sl0 at *
      go_wp2_with fail
      go_loopw [36] (fun i wr => ∃ (k : Nat) (b : Nat → Int), k ≤ l.length ∧ i = .int .i64 k ∧ RowW W wr l.length b ∧ BI x a l.length k b) (fun i _ => l.length - (intOf i).toNat)
      case atStart =>
        refine ⟨0, _, Nat.zero_le _, rfl, HS.out, fun i e he => ?_, by have := uns_le a (fun i => if i < l.length then pF x i else 0) l.length; omega⟩
        have hil : i < l.length := by rw [← hxl]; exact (List.getElem?_eq_some_iff.1 he).1
        show e.x.p ≤ (if i < l.length then pF x i else 0) ∧ (if i < l.length then pF x i else 0) ≤ a i
        rw [if_pos hil, pF_at he]
        exact ⟨Int.le_refl _, (HV.out.2.2.1 i e he).1⟩
      case round =>
        obtain ⟨k, b, hk, rfl, hr, hbi⟩ := hrel
        obtain ⟨wo, hwo⟩ : ∃ wo, wo = wr := ⟨_, rfl⟩
        subst hwo
        by_cases hlt : k < l.length
        · have hvo := HV.out.1 wo hr.bel
          have hown := hvo.map
          obtain ⟨-, -, -, -, -, -, -, -, d8⟩ := hvo.own
          have hki : (k : Int) < (l.length : Int) := by omega
          have hsz : W.heap.size < wo.heap.size := heap_lt hr.row
          have HB : Hid (BI x a l.length k b ∧ RowW W wo l.length b ∧ MSpec D x.hs) := ⟨hbi, hr, hvo.spec⟩
          clear hr hbi hvo
          go_wp2_with (first
            | (at_range; refine wpList_range_own _ rfl _ 56 rfl 3 3 law3 Try.underlying56 _ d.M cnt D rfl hown ?_; intro w0 hrg0 hg0 hs0)
            | go_in)
          go_frame
          go_loopw [6] (fun _ wl => ∃ (left : Lit → Bool) (c : Nat) (b' : Nat → Int), wl.ranges Try.prog 3 (plainElem Try.prog 3) d.M wo.heap.size cnt D left c ∧ RowW W wl l.length b' ∧ MI pr (topsF l) x a b b' D left) (fun _ wl => wl.rangeLeft d.M wo.heap.size)
          case atStart => exact ⟨_, _, b, hrg0, HB.out.2.1.grow ⟨hg0.os, hg0.tape, hg0.output, hg0.size, fun i hi => hg0.block i hi (by simp)⟩, MI.start HB.out.1 HB.out.2.2⟩
          case round =>
            obtain ⟨left, c, b', hrg, hr, hmi⟩ := hrel
            have HL : Hid (wr.rangeLeft d.M wo.heap.size = c) := hrg.left_eq
            have HR0 : Hid (RowW W wr l.length b' ∧ MI pr (topsF l) x a b b' D left) := ⟨hr, hmi⟩
            clear hr hmi
            go_wp2_with (first
              | (at_next; refine wpList_next_ranges_ii _ rfl _ rfl 3 3 .i64 .i64 law3 Try.underlying3 Try.underlying3 d.M wo.heap.size cnt _ _ _ rfl hrg ?_ ?_)
              | go_in)
            · intro _ hl0
              have HE : Hid (BI x a l.length (k + 1) b') := MI.stop HV.out.2.2.2 HV.out.2.2.1 hxl hlt HB.out.1 HR0.out.2 hl0
              clear hl0 hrg hrg0
              go_wp2_with fail
              exact ⟨⟨k + 1, b', by omega, by simp, HR0.out.1, HE.out⟩, by simp [intOf]; omega⟩
            · intro mx cx w1 cnt1 hwx hwc hlx hat hrg1 hlt1 hg1 hs1 hen
              obtain ⟨m, hm4, hmk'⟩ := HB.out.2.2.key _ (HR0.out.2.2.1 _ hlx)
              have hmx : mx = (m : Int) := by simpa using hmk'
              subst hmx
              have hmh : m < x.hs.length := by rw [HV.out.2.1.nh]; exact hm4
              have hz : x.hs[m]? = some x.hs[m] := List.getElem?_eq_getElem hmh
              generalize x.hs[m] = z at hz
              have hzn : z ≠ -1 := by
                have h8 := HB.out.2.2.has m z hz
                rw [HR0.out.2.2.1 _ hlx] at h8
                simpa using h8.symm
              have hcz : cx = z := by
                have h8 := HB.out.2.2.at_ m z hz hzn (.lit (.int .i64 0))
                rw [hat] at h8
                simpa using h8
              subst hcz
              obtain ⟨h, rfl, hh⟩ : ∃ h : Nat, cx = (h : Int) ∧ h < l.length := by
                rcases HV.out.2.1.hs m cx hz with q | q
                · exact absurd q hzn
                · exact q
              obtain ⟨eh, heh⟩ := at_lt hxl hh
              have hr1 := HR0.out.1.turn hg1 hsz
              have hv1 := HV.out.1 w1 hr1.bel
              obtain ⟨q0, q1, q2, -, -, -, -, -, -⟩ := hv1.own
              have htp : (topsF l)[m]? = some (topL m l (-1)) := top_at l m hm4
              have t0 := hv1.top htp
              obtain ⟨s0, s1, s2⟩ := hr1.at_ hh
              have hmi4 : (m : Int) < 4 := by omega
              have hhi : (h : Int) < (l.length : Int) := by omega
              have hMne : d.M ≠ W.heap.size := by have := (HV.out.1 W (Below.refl _ _)).lts; omega
              have hGne : wo.heap.size ≠ W.heap.size := by omega
              have HM : Hid (x.hs[m]? = some (h : Int) ∧ x.es[h]? = some eh ∧ MI pr (topsF l) x a b b' D left) := ⟨hz, heh, HR0.out.2⟩
              have HG : Hid (w1.ranges Try.prog 3 (plainElem Try.prog 3) d.M wo.heap.size cnt D (fun z => left z && !z.sameKey (.int .i64 (m : Int))) cnt1 ∧ RowW W w1 l.length b') := ⟨hrg1, hr1⟩
              generalize hT : topL (m : Int) l (-1) = t at *
              clear hrg hrg0 hrg1 hr1 hv1 hz hzn heh hmk' hlx hat hwx hwc hg1 hs1
              unfold sl0 at *
              by_cases hp3 : pr = 3
              · subst hp3
                by_cases hbt : b' h < t
                · have H1 : Hid (∀ q, ((w1.drewN q).setCell ⟨W.heap.size, h, none⟩ (.int .i64 t)).ranges Try.prog 3 (plainElem Try.prog 3) d.M wo.heap.size cnt D (fun z => left z && !z.sameKey (.int .i64 (m : Int))) cnt1 ∧ RowW W ((w1.drewN q).setCell ⟨W.heap.size, h, none⟩ (.int .i64 t)) l.length (upd b' h t) ∧ NI 3 (topsF l) x a b (upd b' h t) m h 0 ∧ (∀ (i : Nat) (e : En), x.es[i]? = some e → b' i ≤ upd b' h t i)) := fun q => ⟨ranges_set (ranges_drewN HG.out.1) _ hMne hGne, (HG.out.2.grow below_drewN').set hh t, NI.raise HV.out.2.2.1 HM.out.2.2 HM.out.1 HM.out.2.1 htp hbt, fun i e hi => by
                    by_cases e' : i = h
                    · subst e'; rw [upd_self]; omega
                    · rw [upd_ne _ _ e']; exact Int.le_refl _⟩
                  clear htp
                  go_wp2_with fail
                  go_quiet (fail)
                  go_wp2_with fail
                  go_loopw [82] (fun i wl => ∃ (u : Nat) (b2 : Nat → Int), u ≤ l.length ∧ i = .int .i64 u ∧ wl.ranges Try.prog 3 (plainElem Try.prog 3) d.M wo.heap.size cnt D (fun z => left z && !z.sameKey (.int .i64 (m : Int))) cnt1 ∧ RowW W wl l.length b2 ∧ NI 3 (topsF l) x a b b2 m h u ∧ (∀ (i : Nat) (e : En), x.es[i]? = some e → b' i ≤ b2 i)) (fun i _ => l.length - (intOf i).toNat)
                  case atStart => exact ⟨0, _, Nat.zero_le _, rfl, (H1.out _).1, (H1.out _).2.1, (H1.out 0).2.2.1, (H1.out 0).2.2.2⟩
                  case round =>
                    obtain ⟨u, b2, hu, rfl, hrg, hr, hni, hmo⟩ := hrel
                    by_cases hul : u < l.length
                    · have hvr := HV.out.1 wr hr.bel
                      obtain ⟨-, f1, -, -, -, -, f6, f7, -⟩ := hvr.own
                      obtain ⟨eu, heu⟩ := at_lt hxl hul
                      obtain ⟨zu, hzu⟩ := at_lt HV.out.2.1.ne hul
                      obtain ⟨-, -, -, k3⟩ := hvr.ent heu
                      have k4 := hvr.dn hzu
                      obtain ⟨r0, -, -⟩ := hr.at_ hul
                      obtain ⟨s0, s1, s2⟩ := hr.at_ hh
                      have hui : (u : Int) < (l.length : Int) := by omega
                      have hMne : d.M ≠ W.heap.size := by have := (HV.out.1 W (Below.refl _ _)).lts; omega
                      have hGne : wo.heap.size ≠ W.heap.size := by omega
                      have HR : Hid (wr.ranges Try.prog 3 (plainElem Try.prog 3) d.M wo.heap.size cnt D (fun z => left z && !z.sameKey (.int .i64 (m : Int))) cnt1 ∧ RowW W wr l.length b2 ∧ NI 3 (topsF l) x a b b2 m h u ∧ (∀ (i : Nat) (e : En), x.es[i]? = some e → b' i ≤ b2 i)) := ⟨hrg, hr, hni, hmo⟩
                      clear hrg hr hni hmo hvr
                      unfold sl0 at *
                      have hp2 : ¬ ((3 : Int) = 2) := by decide
                      have HN2 : Hid (NI 3 (topsF l) x a b b2 m h (u + 1)) := HR.out.2.2.1.skip (fun hp => absurd hp hp2)
                      clear heu hzu
                      go_wp2_with fail
                      go_quiet (fail)
                      go_wp2_with fail
                      exact ⟨⟨u + 1, b2, by omega, by simp, ranges_drewN HR.out.1, HR.out.2.1.grow below_drewN', HN2.out, HR.out.2.2.2⟩, by simp [intOf]; omega⟩
                    · have hue : u = l.length := by omega
                      subst hue
                      have HR : Hid (wr.ranges Try.prog 3 (plainElem Try.prog 3) d.M wo.heap.size cnt D (fun z => left z && !z.sameKey (.int .i64 (m : Int))) cnt1 ∧ RowW W wr l.length b2 ∧ MI 3 (topsF l) x a b b2 D (fun z => left z && !z.sameKey (.int .i64 (m : Int)))) := ⟨hrg, hr, NI.stop hxl HM.out.2.2 hmo (fun z hz => by rw [HM.out.1] at hz; cases hz; rfl) (fun k q hk => by
                        rcases HV.out.2.1.hs k q hk with h | ⟨i, h, hi⟩
                        · omega
                        · obtain ⟨e, he⟩ := at_lt hxl hi
                          exact ⟨e, by rw [show q = i by omega]; exact he⟩) hni⟩
                      clear hrg hr hni hmo
                      go_wp2_with fail
                      go_roundw
                      case rel => exact ⟨_, cnt1, b2, HR.out.1, HR.out.2.1, HR.out.2.2⟩
                      case measure => rw [HR.out.1.left_eq, HL.out]; exact hlt1
                · have hbt' : decide (b' h < t) = false := by simpa using hbt
                  have H1 : Hid (∀ q, (w1.drewN q).ranges Try.prog 3 (plainElem Try.prog 3) d.M wo.heap.size cnt D (fun z => left z && !z.sameKey (.int .i64 (m : Int))) cnt1 ∧ RowW W (w1.drewN q) l.length b' ∧ NI 3 (topsF l) x a b b' m h 0 ∧ (∀ (i : Nat) (e : En), x.es[i]? = some e → b' i ≤ b' i)) := fun q => ⟨ranges_drewN HG.out.1, HG.out.2.grow below_drewN', NI.start HM.out.2.2 (fun _ t' ht' => by rw [htp] at ht'; cases ht'; omega), fun _ _ _ => Int.le_refl _⟩
                  clear htp
                  go_wp2_with fail
                  go_quiet (fail)
                  go_wp2_with fail
                  go_loopw [82] (fun i wl => ∃ (u : Nat) (b2 : Nat → Int), u ≤ l.length ∧ i = .int .i64 u ∧ wl.ranges Try.prog 3 (plainElem Try.prog 3) d.M wo.heap.size cnt D (fun z => left z && !z.sameKey (.int .i64 (m : Int))) cnt1 ∧ RowW W wl l.length b2 ∧ NI 3 (topsF l) x a b b2 m h u ∧ (∀ (i : Nat) (e : En), x.es[i]? = some e → b' i ≤ b2 i)) (fun i _ => l.length - (intOf i).toNat)
                  case atStart => exact ⟨0, _, Nat.zero_le _, rfl, (H1.out _).1, (H1.out _).2.1, (H1.out 0).2.2.1, (H1.out 0).2.2.2⟩
                  case round =>
                    obtain ⟨u, b2, hu, rfl, hrg, hr, hni, hmo⟩ := hrel
                    by_cases hul : u < l.length
                    · have hvr := HV.out.1 wr hr.bel
                      obtain ⟨-, f1, -, -, -, -, f6, f7, -⟩ := hvr.own
                      obtain ⟨eu, heu⟩ := at_lt hxl hul
                      obtain ⟨zu, hzu⟩ := at_lt HV.out.2.1.ne hul
                      obtain ⟨-, -, -, k3⟩ := hvr.ent heu
                      have k4 := hvr.dn hzu
                      obtain ⟨r0, -, -⟩ := hr.at_ hul
                      obtain ⟨s0, s1, s2⟩ := hr.at_ hh
                      have hui : (u : Int) < (l.length : Int) := by omega
                      have hMne : d.M ≠ W.heap.size := by have := (HV.out.1 W (Below.refl _ _)).lts; omega
                      have hGne : wo.heap.size ≠ W.heap.size := by omega
                      have HR : Hid (wr.ranges Try.prog 3 (plainElem Try.prog 3) d.M wo.heap.size cnt D (fun z => left z && !z.sameKey (.int .i64 (m : Int))) cnt1 ∧ RowW W wr l.length b2 ∧ NI 3 (topsF l) x a b b2 m h u ∧ (∀ (i : Nat) (e : En), x.es[i]? = some e → b' i ≤ b2 i)) := ⟨hrg, hr, hni, hmo⟩
                      clear hrg hr hni hmo hvr
                      unfold sl0 at *
                      have hp2 : ¬ ((3 : Int) = 2) := by decide
                      have HN2 : Hid (NI 3 (topsF l) x a b b2 m h (u + 1)) := HR.out.2.2.1.skip (fun hp => absurd hp hp2)
                      clear heu hzu
                      go_wp2_with fail
                      go_quiet (fail)
                      go_wp2_with fail
                      exact ⟨⟨u + 1, b2, by omega, by simp, ranges_drewN HR.out.1, HR.out.2.1.grow below_drewN', HN2.out, HR.out.2.2.2⟩, by simp [intOf]; omega⟩
                    · have hue : u = l.length := by omega
                      subst hue
                      have HR : Hid (wr.ranges Try.prog 3 (plainElem Try.prog 3) d.M wo.heap.size cnt D (fun z => left z && !z.sameKey (.int .i64 (m : Int))) cnt1 ∧ RowW W wr l.length b2 ∧ MI 3 (topsF l) x a b b2 D (fun z => left z && !z.sameKey (.int .i64 (m : Int)))) := ⟨hrg, hr, NI.stop hxl HM.out.2.2 hmo (fun z hz => by rw [HM.out.1] at hz; cases hz; rfl) (fun k q hk => by
                        rcases HV.out.2.1.hs k q hk with h | ⟨i, h, hi⟩
                        · omega
                        · obtain ⟨e, he⟩ := at_lt hxl hi
                          exact ⟨e, by rw [show q = i by omega]; exact he⟩) hni⟩
                      clear hrg hr hni hmo
                      go_wp2_with fail
                      go_roundw
                      case rel => exact ⟨_, cnt1, b2, HR.out.1, HR.out.2.1, HR.out.2.2⟩
                      case measure => rw [HR.out.1.left_eq, HL.out]; exact hlt1
              · have hp3' : (pr == 3) = false := by simpa using hp3
                have H1 : Hid (∀ q, (w1.drewN q).ranges Try.prog 3 (plainElem Try.prog 3) d.M wo.heap.size cnt D (fun z => left z && !z.sameKey (.int .i64 (m : Int))) cnt1 ∧ RowW W (w1.drewN q) l.length b' ∧ NI pr (topsF l) x a b b' m h 0 ∧ (∀ (i : Nat) (e : En), x.es[i]? = some e → b' i ≤ b' i)) := fun q => ⟨ranges_drewN HG.out.1, HG.out.2.grow below_drewN', NI.start HM.out.2.2 (fun hp => absurd hp hp3), fun _ _ _ => Int.le_refl _⟩
                clear htp
                go_wp2_with fail
                go_quiet (fail)
                go_wp2_with fail
                go_loopw [82] (fun i wl => ∃ (u : Nat) (b2 : Nat → Int), u ≤ l.length ∧ i = .int .i64 u ∧ wl.ranges Try.prog 3 (plainElem Try.prog 3) d.M wo.heap.size cnt D (fun z => left z && !z.sameKey (.int .i64 (m : Int))) cnt1 ∧ RowW W wl l.length b2 ∧ NI pr (topsF l) x a b b2 m h u ∧ (∀ (i : Nat) (e : En), x.es[i]? = some e → b' i ≤ b2 i)) (fun i _ => l.length - (intOf i).toNat)
                case atStart => exact ⟨0, _, Nat.zero_le _, rfl, (H1.out _).1, (H1.out _).2.1, (H1.out 0).2.2.1, (H1.out 0).2.2.2⟩
                case round =>
                  obtain ⟨u, b2, hu, rfl, hrg, hr, hni, hmo⟩ := hrel
                  by_cases hul : u < l.length
                  · have hvr := HV.out.1 wr hr.bel
                    obtain ⟨-, f1, -, -, -, -, f6, f7, -⟩ := hvr.own
                    obtain ⟨eu, heu⟩ := at_lt hxl hul
                    obtain ⟨zu, hzu⟩ := at_lt HV.out.2.1.ne hul
                    obtain ⟨-, -, -, k3⟩ := hvr.ent heu
                    have k4 := hvr.dn hzu
                    obtain ⟨r0, -, -⟩ := hr.at_ hul
                    obtain ⟨s0, s1, s2⟩ := hr.at_ hh
                    have hui : (u : Int) < (l.length : Int) := by omega
                    have hMne : d.M ≠ W.heap.size := by have := (HV.out.1 W (Below.refl _ _)).lts; omega
                    have hGne : wo.heap.size ≠ W.heap.size := by omega
                    have HR : Hid (wr.ranges Try.prog 3 (plainElem Try.prog 3) d.M wo.heap.size cnt D (fun z => left z && !z.sameKey (.int .i64 (m : Int))) cnt1 ∧ RowW W wr l.length b2 ∧ NI pr (topsF l) x a b b2 m h u ∧ (∀ (i : Nat) (e : En), x.es[i]? = some e → b' i ≤ b2 i)) := ⟨hrg, hr, hni, hmo⟩
                    clear hrg hr hni hmo hvr
                    unfold sl0 at *
                    by_cases hp2 : pr = 2
                    · subst hp2
                      by_cases hwm : eu.wt = (m : Int)
                      · have hz1 : zu = -1 := by
                          rcases HV.out.2.1.st u eu zu heu hzu with q | q
                          · exact q.1
                          · omega
                        subst hz1
                        rw [hwm] at k3
                        by_cases hbb : b2 h < b2 u
                        · have HN : Hid (∀ q, RowW W ((wr.drewN q).setCell ⟨W.heap.size, h, none⟩ (.int .i64 (b2 u))) l.length (upd b2 h (b2 u)) ∧ ((wr.drewN q).setCell ⟨W.heap.size, h, none⟩ (.int .i64 (b2 u))).ranges Try.prog 3 (plainElem Try.prog 3) d.M wo.heap.size cnt D (fun z => left z && !z.sameKey (.int .i64 (m : Int))) cnt1) := fun q => ⟨(HR.out.2.1.grow below_drewN').set hh _, ranges_set (ranges_drewN HR.out.1) _ hMne hGne⟩
                          have HN2 : Hid (NI 2 (topsF l) x a b (upd b2 h (b2 u)) m h (u + 1) ∧ ∀ (i : Nat) (e : En), x.es[i]? = some e → b' i ≤ upd b2 h (b2 u) i) := ⟨HR.out.2.2.1.lend HV.out.2.2.1 heu hwm HM.out.1 HM.out.2.1 hbb, fun i e hi => by
                            by_cases e' : i = h
                            · subst e'; rw [upd_self]; have := HR.out.2.2.2 i e hi; omega
                            · rw [upd_ne _ _ e']; exact HR.out.2.2.2 i e hi⟩
                          clear heu hzu hwm
                          go_wp2_with fail
                          go_quiet (fail)
                          go_wp2_with fail
                          exact ⟨⟨u + 1, _, by omega, by simp, (HN.out _).2, (HN.out _).1, HN2.out.1, HN2.out.2⟩, by simp [intOf]; omega⟩
                        · have hbb' : decide (b2 h < b2 u) = false := by simpa using hbb
                          have HN2 : Hid (NI 2 (topsF l) x a b b2 m h (u + 1)) := HR.out.2.2.1.skip (fun _ e he hw => by have := (HR.out.2.2.1.1 u e he).1; omega)
                          clear heu hzu hwm
                          go_wp2_with fail
                          go_quiet (fail)
                          go_wp2_with fail
                          exact ⟨⟨u + 1, b2, by omega, by simp, ranges_drewN HR.out.1, HR.out.2.1.grow below_drewN', HN2.out, HR.out.2.2.2⟩, by simp [intOf]; omega⟩
                      · have hwm' : (eu.wt == (m : Int)) = false := by simpa using hwm
                        have HN2 : Hid (NI 2 (topsF l) x a b b2 m h (u + 1)) := HR.out.2.2.1.skip (fun _ e he hw => by rw [heu] at he; cases he; exact absurd hw hwm)
                        clear heu hzu hwm
                        go_wp2_with fail
                        go_quiet (fail)
                        go_wp2_with fail
                        exact ⟨⟨u + 1, b2, by omega, by simp, ranges_drewN HR.out.1, HR.out.2.1.grow below_drewN', HN2.out, HR.out.2.2.2⟩, by simp [intOf]; omega⟩
                    · have hp2' : (pr == 2) = false := by simpa using hp2
                      have HN2 : Hid (NI pr (topsF l) x a b b2 m h (u + 1)) := HR.out.2.2.1.skip (fun hp => absurd hp hp2)
                      clear heu hzu
                      go_wp2_with fail
                      go_quiet (fail)
                      go_wp2_with fail
                      exact ⟨⟨u + 1, b2, by omega, by simp, ranges_drewN HR.out.1, HR.out.2.1.grow below_drewN', HN2.out, HR.out.2.2.2⟩, by simp [intOf]; omega⟩
                  · have hue : u = l.length := by omega
                    subst hue
                    have HR : Hid (wr.ranges Try.prog 3 (plainElem Try.prog 3) d.M wo.heap.size cnt D (fun z => left z && !z.sameKey (.int .i64 (m : Int))) cnt1 ∧ RowW W wr l.length b2 ∧ MI pr (topsF l) x a b b2 D (fun z => left z && !z.sameKey (.int .i64 (m : Int)))) := ⟨hrg, hr, NI.stop hxl HM.out.2.2 hmo (fun z hz => by rw [HM.out.1] at hz; cases hz; rfl) (fun k q hk => by
                      rcases HV.out.2.1.hs k q hk with h | ⟨i, h, hi⟩
                      · omega
                      · obtain ⟨e, he⟩ := at_lt hxl hi
                        exact ⟨e, by rw [show q = i by omega]; exact he⟩) hni⟩
                    clear hrg hr hni hmo
                    go_wp2_with fail
                    go_roundw
                    case rel => exact ⟨_, cnt1, b2, HR.out.1, HR.out.2.1, HR.out.2.2⟩
                    case measure => rw [HR.out.1.left_eq, HL.out]; exact hlt1
        · have hke : k = l.length := by omega
          subst hke
          have HE : Hid (RowW W wo l.length a) := by
            refine ⟨hr.bel, ?_⟩
            rw [hr.row]
            congr 4
            unfold rowF
            refine List.map_congr_left (fun i hi => ?_)
            have hil := List.mem_range.1 hi
            obtain ⟨e, he⟩ := at_lt hxl hil
            have h1 := (hbi.1 i e he).2
            have h2 := uns_zero (a := a) (b := b) l.length (by have := hbi.2; omega) i hil
            omega
          clear hr hbi
          go_wp2_with fail
          go_ret
          exact ⟨rfl, HE.out⟩
end Go.Proofs.Ytcmoehednkaehah
