import Derived.Test.YtccoobcggbbciaiGreatDoorMS
namespace Go.Proofs.YtccoobcggbbciaiGreatDoor
open Go.ChangeShapes Go.WideShapes Go.ChangeAt Go.RowKit

/-- The two blocks of Play's answers. -/
structure MB2 (w W : World) : Prop where
  bel : Below w.heap.size w W
  r1 : W.heap[w.heap.size]? = some (.cells #[.slice none 0 0, .slice none 0 0, .int .i64 0] 43 (0, 0))
  r2 : W.heap[w.heap.size + 1]? = some (.cells #[.int .i64 0, .int .i64 0] 30 (0, 0))

theorem MB2.start (w : World) : MB2 w ((w.alloc (.cells #[.slice none 0 0, .slice none 0 0, .int .i64 0] 43)).alloc (.cells #[.int .i64 0, .int .i64 0] 30)) :=
  ⟨below_seq (below_new _ _) (below_new _ _), (Below.heap_alloc _ _ _ (by simp)).trans (heap_alloc_new _ _), by have := heap_alloc_new (w.alloc (.cells #[.slice none 0 0, .slice none 0 0, .int .i64 0] 43)) (.cells #[.int .i64 0, .int .i64 0] 30); simpa using this⟩

theorem MB2.grow {w W W' : World} (h : MB2 w W) (hb : Below W.heap.size W W') : MB2 w W' :=
  ⟨below_seq h.bel hb, (hb.block _ (lt_heapM h.r1)).trans h.r1, (hb.block _ (lt_heapM h.r2)).trans h.r2⟩

def put5 (W : World) (g : Nat) (a b t c k : Value) : World := ((((W.setCell ⟨g, 0, none⟩ a).setCell ⟨g, 1, none⟩ b).setCell ⟨g, 2, none⟩ t).setCell ⟨g + 1, 0, none⟩ c).setCell ⟨g + 1, 1, none⟩ k

theorem MB2.put {w W : World} (h : MB2 w W) (a b t c k : Value) : (put5 W w.heap.size a b t c k).heap[w.heap.size]? = some (.cells #[a, b, t] 43 (0, 0)) ∧ (put5 W w.heap.size a b t c k).heap[w.heap.size + 1]? = some (.cells #[c, k] 30 (0, 0)) ∧ Below w.heap.size w (put5 W w.heap.size a b t c k) ∧ ∀ q, w.heap.size + 1 < q → (put5 W w.heap.size a b t c k).heap[q]? = W.heap[q]? := by
  have n1 : ∀ q, q ≠ w.heap.size → (((W.setCell ⟨w.heap.size, 0, none⟩ a).setCell ⟨w.heap.size, 1, none⟩ b).setCell ⟨w.heap.size, 2, none⟩ t).heap[q]? = W.heap[q]? := fun q hq => by
    rw [Below.heap_setCell _ _ _ _ hq, Below.heap_setCell _ _ _ _ hq, Below.heap_setCell _ _ _ _ hq]
  have n2 : ∀ (X : World) q, q ≠ w.heap.size + 1 → ((X.setCell ⟨w.heap.size + 1, 0, none⟩ c).setCell ⟨w.heap.size + 1, 1, none⟩ k).heap[q]? = X.heap[q]? := fun X q hq => by
    rw [Below.heap_setCell _ _ _ _ hq, Below.heap_setCell _ _ _ _ hq]
  have ha : (((W.setCell ⟨w.heap.size, 0, none⟩ a).setCell ⟨w.heap.size, 1, none⟩ b).setCell ⟨w.heap.size, 2, none⟩ t).heap[w.heap.size]? = some (.cells #[a, b, t] 43 (0, 0)) := by rw [setCell_at (setCell_at (setCell_at h.r1))]; rfl
  have hb := (n1 (w.heap.size + 1) (by omega)).trans h.r2
  unfold put5
  refine ⟨(n2 _ _ (by omega)).trans ha, ?_, ?_, fun q hq => (n2 _ _ (by omega)).trans (n1 q (by omega))⟩
  · rw [setCell_at (setCell_at hb)]; rfl
  · exact ((((h.bel.setCell (show w.heap.size ≤ w.heap.size by omega) _).setCell (show w.heap.size ≤ w.heap.size by omega) _).setCell (show w.heap.size ≤ w.heap.size by omega) _).setCell (show w.heap.size ≤ w.heap.size + 1 by omega) _).setCell (show w.heap.size ≤ w.heap.size + 1 by omega) _

theorem PlayM_ends {w : World} {g1 g2 : Nat} {a b t c k : Value} {ac : Act} (h : w.heap[g1]? = some (.cells #[a, b, t] 43 (0, 0))) (h' : w.heap[g2]? = some (.cells #[c, k] 30 (0, 0))) (h2 : ac.tmps[8]?.getD undef = .pointer (some ⟨g1, 0, none⟩)) (h3 : ac.tmps[9]?.getD undef = .pointer (some ⟨g2, 0, none⟩)) :
    (results Tryz.f12 ac.tmps).run Tryz.prog w = .ok (.tuple #[.agg #[a, b, t], .agg #[c, k]]) w := by
  obtain ⟨c1, f1, l1⟩ := cells_of (l := [_, _, _]) h
  have c10 := c1 0 _ rfl
  have c11 := c1 1 _ rfl
  have c12 := c1 2 _ rfl
  obtain ⟨d1, f2, l2⟩ := cells_of (l := [_, _]) h'
  have d10 := d1 0 _ rfl
  have d11 := d1 1 _ rfl
  simp [results, Tryz.results12, go_sem, h2, h3, c10, c11, c12, d10, d11]

/-- Nothing is wrong with it. -/
theorem chkMF_ok {set : List Cr} {tk : List Int} : ∀ (r : List Co) (i : Nat), (chkMF set tk r i).1 = 0 → (∀ n c, r[n]? = some c → badM set c (tk.getD (i + n) 0) = 0) ∧ chkMF set tk r i = (0, 0)
  | [], i, h => ⟨fun n c hc => by simp at hc, rfl⟩
  | x :: r, i, h => by
    rw [chkMF] at h ⊢
    by_cases hz : badM set x (tk.getD i 0) = 0
    · rw [if_pos hz] at h ⊢
      obtain ⟨h1, h2⟩ := chkMF_ok r (i + 1) h
      refine ⟨fun n c hc => ?_, h2⟩
      cases n with
      | zero => simp at hc; rw [← hc]; exact hz
      | succ n => rw [show i + (n + 1) = i + 1 + n by omega]; exact h1 n c (by simpa using hc)
    · rw [if_neg hz] at h
      exact absurd h hz

theorem badM_ok {set : List Cr} {c : Co} {y : Int} (h : badM set c y = 0) : (0 ≤ c.k ∧ c.k < (set.length : Int)) ∧ (0 ≤ c.a ∧ c.a ≤ 20000) ∧ 1 ≤ y ∧ y ≤ (set.getD c.k.toNat cr0).h := by
  unfold badM at h
  split at h
  · omega
  · rename_i h1
    split at h
    · omega
    · rename_i h2
      have h1' : within c.k 0 ((set.length : Int) - 1) = true := by simpa using h1
      have h2' : within c.a 0 20000 = true ∧ within y 1 (set.getD c.k.toNat cr0).h = true := by
        constructor
        · cases e : within c.a 0 20000 with
          | true => rfl
          | false => exact absurd (.inl e) h2
        · cases e : within y 1 (set.getD c.k.toNat cr0).h with
          | true => rfl
          | false => exact absurd (.inr e) h2
      unfold within at h1' h2'
      simp only [Bool.and_eq_true, decide_eq_true_eq] at h1' h2'
      omega

theorem chkM_ok {set : List Cr} {cs : List Co} {tk : List Int} {u : Int} (h : (chkM set cs tk u).1 = 0) : (chkC set).1 = 0 ∧ cs.length ≤ 4000 ∧ tk.length = cs.length ∧ (0 ≤ u ∧ u ≤ 20000) ∧ (∀ n c, cs[n]? = some c → (0 ≤ c.k ∧ c.k < (set.length : Int)) ∧ (0 ≤ c.a ∧ c.a ≤ 20000) ∧ 1 ≤ tk.getD n 0 ∧ tk.getD n 0 ≤ (crOf set cs n).h) ∧ chkM set cs tk u = (0, 0) := by
  by_cases h1 : (chkC set).1 = 0
  rotate_left 1
  · rw [chkM_1 h1] at h; exact absurd h h1
  by_cases h2 : 4000 < cs.length ∨ tk.length ≠ cs.length
  · rw [chkM_2 h1 h2] at h; cases h
  cases h3 : within u 0 20000 with
  | false => rw [chkM_3 h1 h2 h3] at h; cases h
  | true =>
    have e := chkM_4 (tk := tk) (cs := cs) h1 h2 h3
    rw [e] at h ⊢
    obtain ⟨h4, h5⟩ := chkMF_ok _ _ h
    refine ⟨h1, by omega, by omega, by unfold within at h3; simpa using h3, fun n c hc => ?_, h5⟩
    have := badM_ok (h4 n c hc)
    rw [Nat.zero_add] at this
    refine ⟨this.1, this.2.1, this.2.2.1, ?_⟩
    have e2 : crOf set cs n = set.getD c.k.toNat cr0 := by
      unfold crOf cr0
      rw [show cs.getD n ⟨0, 0⟩ = c by rw [List.getD_eq_getElem?_getD, hc]; rfl]
    rw [e2]
    exact this.2.2.2

theorem chkM_whose {set : List Cr} {cs : List Co} {tk : List Int} {u : Int} (h : (chkM set cs tk u).1 = 0) : Whose set cs := fun c hc => by
  obtain ⟨n, hn, e⟩ := List.mem_iff_getElem.1 hc
  exact ((chkM_ok h).2.2.2.2.1 n c (by rw [List.getElem?_eq_getElem hn, e])).1

theorem chkM_jobs {set : List Cr} {cs : List Co} {tk : List Int} {u : Int} (h : (chkM set cs tk u).1 = 0) : ∀ x ∈ jsF set cs tk, S8.okJ x := fun x hx => by
  obtain ⟨h1, h2, h3, h4, h5, -⟩ := chkM_ok h
  obtain ⟨n, hn, e⟩ := List.mem_map.1 hx
  have hn' : n < cs.length := by simpa using hn
  obtain ⟨c, hc⟩ : ∃ c, cs[n]? = some c := ⟨_, List.getElem?_eq_getElem hn'⟩
  obtain ⟨g1, g2, g3, g4⟩ := h5 n c hc
  have hcr : crOf set cs n ∈ set := by
    obtain ⟨_, k, -, -, h9⟩ := (chkM_whose h).at hn'
    exact List.mem_of_getElem? h9
  have hok := (chkC_ok h1).2.2.1 _ hcr
  have e1 : cs.getD n ⟨0, 0⟩ = c := by rw [List.getD_eq_getElem?_getD, hc]; rfl
  rw [← e, e1]
  unfold S8.okJ
  unfold okCr at hok
  dsimp only
  omega

set_option maxRecDepth 20000 in
set_option maxHeartbeats 2000000 in
theorem PlayM_bad (w : World) (set : List Cr) (cs : List Co) (tk : List Int) (u : Int) (v vc vt : Value) (hv : RowSl Cr.vals w set v) (hc : RowSl Co.vals w cs vc) (ht : RowSl nuV w tk vt) (h0 : (chkM set cs tk u).1 ≠ 0) :
    Calls Tryz.prog 12 #[v, vc, vt, .int .i64 u] w fun r W => r = .returned (.tuple #[.agg #[.slice none 0 0, .slice none 0 0, .int .i64 0], .agg #[.int .i64 (chkM set cs tk u).1, .int .i64 (chkM set cs tk u).2]]) ∧ Below w.heap.size w W := by
  have hb0 := (MB2.start w).bel
  have HC := checkPlayM_any ((w.alloc (.cells #[.slice none 0 0, .slice none 0 0, .int .i64 0] 43)).alloc (.cells #[.int .i64 0, .int .i64 0] 30)) set cs tk u v vc vt (hv.below hb0) (hc.below hb0) (ht.below hb0)
  obtain ⟨ad, ac, rfl⟩ := hv.len
  obtain ⟨bd, bc, rfl⟩ := hc.len
  obtain ⟨td, tc, rfl⟩ := ht.len
  generalize (chkM set cs tk u).1 = z1 at *
  generalize (chkM set cs tk u).2 = z2 at *
  have hz : (z1 != 0) = true := by simpa using h0
  clear h0 hv hc ht hb0
  go_enter Tryz.func12, Tryz.ntmps12
  go_upto_region 3 with (go_at_call 36; refine HC.mono ?_; rintro r w1 ⟨rfl, hb1⟩; have H1 : Hid (MB2 w (w1.alloc (.cells #[.int .i64 z1, .int .i64 z2] 30))) := ((MB2.start w).grow hb1).grow (below_new _ _); have hl1 : w.heap.size < w1.heap.size := lt_heapM ((MB2.start w).grow hb1).r1; have hl2 : w.heap.size + 1 < w1.heap.size := lt_heapM ((MB2.start w).grow hb1).r2; clear hb1 HC)
  obtain ⟨fs, -, fl⟩ := cells_of (l := [_, _]) (heap_alloc_new w1 (.cells #[.int .i64 z1, .int .i64 z2] 30))
  have g0 := fs 0 _ rfl
  have g1 := fs 1 _ rfl
  clear fs
  generalize (w1.alloc (.cells #[.int .i64 z1, .int .i64 z2] 30)) = w2 at *
  obtain ⟨qs, qf, ql⟩ := cells_of (l := [_, _, _]) H1.out.r1
  have q0 := qs 0 _ rfl
  have q1 := qs 1 _ rfl
  have q2 := qs 2 _ rfl
  have qf0 := qf 0
  have qf1 := qf 1
  have qf2 := qf 2
  obtain ⟨rs, rf, rl⟩ := cells_of (l := [_, _]) H1.out.r2
  have r0 := rs 0 _ rfl
  have r1 := rs 1 _ rfl
  have rf0 := rf 0
  have rf1 := rf 1
  clear qs qf rs rf
  go_region
  all_goals go_wp2_with fail
  all_goals
    have hx := H1.out.put (.slice none 0 0) (.slice none 0 0) (.int .i64 0) (.int .i64 z1) (.int .i64 z2)
    unfold put5 at hx
    refine bodyPost_ret (PlayM_ends (g1 := w.heap.size) (g2 := w.heap.size + 1) (a := .slice none 0 0) (b := .slice none 0 0) (t := .int .i64 0) (c := .int .i64 z1) (k := .int .i64 z2) hx.1 hx.2.1 rfl rfl) rfl ?_
    exact ⟨rfl, hx.2.2.1.drew⟩

set_option maxRecDepth 20000 in
set_option maxHeartbeats 2000000 in
theorem PlayM_good (w : World) (set : List Cr) (cs : List Co) (tk : List Int) (n : Nat) (v vc vt : Value) (hv : RowSl Cr.vals w set v) (hc : RowSl Co.vals w cs vc) (ht : RowSl nuV w tk vt) (h0 : (chkM set cs tk (n : Int)).1 = 0) :
    Calls Tryz.prog 12 #[v, vc, vt, .int .i64 (n : Int)] w fun r W => ∃ s T rb eb, PlaysT (jsF set cs tk) (hiOf set cs) (fun j => (crOf set cs j).c) n s T ∧ r = .returned (.tuple #[.agg #[.slice (some ⟨rb, 0, none⟩) n n, .slice (some ⟨eb, 0, none⟩) cs.length cs.length, .int .i64 T], .agg #[.int .i64 0, .int .i64 0]]) ∧ W.heap[rb]? = some (.cells (s.runs.map (Value.int .i64)).toArray 3 (0, 0)) ∧ W.heap[eb]? = some (.cells (s.ends.map (Value.int .i64)).toArray 3 (0, 0)) ∧ rb ≠ eb ∧ w.heap.size ≤ rb ∧ w.heap.size ≤ eb ∧ Below w.heap.size w W := by
  have hb0 := (MB2.start w).bel
  have HC := checkPlayM_any ((w.alloc (.cells #[.slice none 0 0, .slice none 0 0, .int .i64 0] 43)).alloc (.cells #[.int .i64 0, .int .i64 0] 30)) set cs tk (n : Int) v vc vt (hv.below hb0) (hc.below hb0) (ht.below hb0)
  obtain ⟨k1, k2, k3, k4, -, k6⟩ := chkM_ok h0
  have k7 := chkM_whose h0
  have k8 := chkM_jobs h0
  rw [k6] at HC
  dsimp only at HC
  obtain ⟨ad, ac, rfl⟩ := hv.len
  obtain ⟨bd, bc, rfl⟩ := hc.len
  obtain ⟨td, tc, rfl⟩ := ht.len
  have HV : Hid (∀ W, Below w.heap.size w W → Calls Tryz.prog 37 #[.slice ad set.length ac, .slice bd cs.length bc, .slice td tk.length tc, .int .i64 (n : Int)] W (PMPost W set cs tk n)) := fun W hb => playModal_any W set cs tk n _ _ _ (hv.below hb) (hc.below hb) (ht.below hb) k2 k3 (by omega) k7 k8
  clear hv hc ht h0 hb0 k1 k2 k3 k4 k6 k7 k8
  go_enter Tryz.func12, Tryz.ntmps12
  go_upto_region 4 with (go_at_call 36; refine HC.mono ?_; rintro r w1 ⟨rfl, hb1⟩; have H1 : Hid (MB2 w (w1.alloc (.cells #[.int .i64 0, .int .i64 0] 30))) := ((MB2.start w).grow hb1).grow (below_new _ _); clear hb1 HC)
  generalize (w1.alloc (.cells #[.int .i64 0, .int .i64 0] 30)) = w2 at *
  have HP := HV.out w2 H1.out.bel
  go_wp2_with (go_at_call 37; refine HP.mono ?_; rintro r w3 ⟨s, TT, rb, eb, hpl, rfl, hrb, heb, hne, hlr, hle, hb3⟩; have H3 : Hid (MB2 w w3 ∧ PlaysT (jsF set cs tk) (hiOf set cs) (fun j => (crOf set cs j).c) n s TT ∧ w3.heap[rb]? = some (.cells (s.runs.map (Value.int .i64)).toArray 3 (0, 0)) ∧ w3.heap[eb]? = some (.cells (s.ends.map (Value.int .i64)).toArray 3 (0, 0)) ∧ rb ≠ eb ∧ w.heap.size + 1 < rb ∧ w.heap.size + 1 < eb) := ⟨H1.out.grow hb3, hpl, hrb, heb, hne, by have := lt_heapM H1.out.r2; omega, by have := lt_heapM H1.out.r2; omega⟩; obtain ⟨qs, qf, ql⟩ := cells_of (l := [_, _, _]) H3.out.1.r1; have q0 := qs 0 _ rfl; have q1 := qs 1 _ rfl; have q2 := qs 2 _ rfl; have qf0 := qf 0; have qf1 := qf 1; have qf2 := qf 2; obtain ⟨rs, rf, rl⟩ := cells_of (l := [_, _]) H3.out.1.r2; have r0 := rs 0 _ rfl; have r1 := rs 1 _ rfl; have rf0 := rf 0; have rf1 := rf 1; clear qs qf rs rf hpl hrb heb hne hlr hle hb3 HP)
  have hx := H3.out.1.put (.slice (some ⟨rb, 0, none⟩) n n) (.slice (some ⟨eb, 0, none⟩) cs.length cs.length) (.int .i64 TT) (.int .i64 0) (.int .i64 0)
  unfold put5 at hx
  refine bodyPost_ret (PlayM_ends (g1 := w.heap.size) (g2 := w.heap.size + 1) (a := .slice (some ⟨rb, 0, none⟩) n n) (b := .slice (some ⟨eb, 0, none⟩) cs.length cs.length) (t := .int .i64 TT) (c := .int .i64 0) (k := .int .i64 0) hx.1 hx.2.1 rfl rfl) rfl ?_
  exact ⟨s, TT, rb, eb, H3.out.2.1, rfl, (hx.2.2.2 rb H3.out.2.2.2.2.2.1).trans H3.out.2.2.1, (hx.2.2.2 eb H3.out.2.2.2.2.2.2).trans H3.out.2.2.2.1, H3.out.2.2.2.2.1, by have := H3.out.2.2.2.2.2.1; omega, by have := H3.out.2.2.2.2.2.2; omega, hx.2.2.1⟩
end Go.Proofs.YtccoobcggbbciaiGreatDoor
