import Derived.Test.YtkafihaajpifoafAI
import Derived.Deep.CutRange
import Derived.Deep.CutBlock
namespace Go.Proofs.Ytkafihaajpifoaf
open Go.ChangeShapes Go.WideShapes Go.ChangeAt Go.RowKit

set_option maxRecDepth 20000 in
set_option maxHeartbeats 2000000 in
theorem stable_any (W : World) (l : List Ta) (v : Value) (bB bS g : Nat) (h0 : 0 < l.length) (h8 : l.length ≤ 8) (hv : RowSl Ta.vals W l v) (h1 : W.cell? ⟨bB, 0, none⟩ = some (.func (Fn.func 47) #[] #[])) (h2 : W.cell? ⟨bS, 0, none⟩ = some v) (hn1 : bB ≠ g) (hn2 : bS ≠ g) (hrow : ∀ ad c, v = .slice ad l.length c → ∀ b o, ad = some ⟨b, o, none⟩ → b ≠ g) (hN : NumB W g (zI (List.range l.length))) :
    Calls Try.prog 77 #[.slice (some ⟨g, 0, none⟩) l.length l.length, .int .i64 (l.length : Int), .func (Fn.func 66) #[] #[.pointer (some ⟨bB, 0, none⟩), .pointer (some ⟨bS, 0, none⟩)]] W fun r W' => r = .returned (.tuple #[]) ∧ ∃ od, InOrd (fun k => (Tk l k).d) l.length od ∧ NumB W' g (zI od) ∧ W.grownBy W' (some g) := by
  have HI := ins_any W l v bB bS g h0 h8 hv h1 h2 hn1 hn2 hrow hN
  have ha : ¬ (20 : Int) ≤ (l.length : Int) := by omega
  have hb : ¬ (20 : Int) < (l.length : Int) := by omega
  clear hv h1 h2 hn1 hn2 hrow hN
  go_enter Try.func77, Try.ntmps77
  go_wp2_with fail
  go_loopw [7, 8] (fun v7 v8 wr => v7 = .int .i64 0 ∧ v8 = .int .i64 20 ∧ wr = W) (fun _ _ _ => 0)
  case atStart => exact ⟨rfl, rfl, rfl⟩
  case round =>
    obtain ⟨rfl, rfl, hw⟩ := hrel
    have hw := hw.symm
    subst hw
    go_wp2_with (go_at_call 84; refine HI.mono ?_; rintro r w5 ⟨rfl, h5⟩; have H5 : Hid (∃ od, InOrd (fun k => (Tk l k).d) l.length od ∧ NumB w5 g (zI od) ∧ W.grownBy w5 (some g)) := h5; clear h5 HI)
    go_loopw [6, 7, 8, 9] (fun v6 _ _ _ wr => v6 = .int .i64 20 ∧ wr = w5) (fun _ _ _ _ _ => 0)
    case atStart => exact ⟨rfl, rfl⟩
    case round =>
      obtain ⟨rfl, hw⟩ := hrel
      have hw := hw.symm
      subst hw
      go_wp2_with fail
      go_end0
      exact ⟨rfl, H5.out⟩

set_option maxRecDepth 20000 in
theorem sortS_any (W : World) (l : List Ta) (v : Value) (bB bS g : Nat) (h0 : 0 < l.length) (h8 : l.length ≤ 8) (hv : RowSl Ta.vals W l v) (h1 : W.cell? ⟨bB, 0, none⟩ = some (.func (Fn.func 47) #[] #[])) (h2 : W.cell? ⟨bS, 0, none⟩ = some v) (hn1 : bB ≠ g) (hn2 : bS ≠ g) (hrow : ∀ ad c, v = .slice ad l.length c → ∀ b o, ad = some ⟨b, o, none⟩ → b ≠ g) (hN : NumB W g (zI (List.range l.length))) :
    Calls Try.prog 65 #[.slice (some ⟨g, 0, none⟩) l.length l.length, .func (Fn.func 66) #[] #[.pointer (some ⟨bB, 0, none⟩), .pointer (some ⟨bS, 0, none⟩)]] W fun r W' => r = .returned (.tuple #[]) ∧ ∃ od, InOrd (fun k => (Tk l k).d) l.length od ∧ NumB W' g (zI od) ∧ W.grownBy W' (some g) := by
  have HI := stable_any W l v bB bS g h0 h8 hv h1 h2 hn1 hn2 hrow hN
  clear hv h1 h2 hn1 hn2 hrow hN
  go_enter Try.func65, Try.ntmps65
  go_wp2_with (go_at_call 77; refine HI.mono ?_; rintro r w5 ⟨rfl, h5⟩; have H5 : Hid (∃ od, InOrd (fun k => (Tk l k).d) l.length od ∧ NumB w5 g (zI od) ∧ W.grownBy w5 (some g)) := h5; clear h5 HI)
  go_end0
  exact ⟨rfl, H5.out⟩

/-- Where ranked stands. -/
structure RW (w W : World) (b1 g5 gN gO : Nat) (v : Value) (ocap : Nat) (od : List Nat) (out : List Ta) : Prop where
  bel : Below w.heap.size w W
  c1 : W.heap[b1]? = some (.cells #[v] 22 (0, 0))
  c5 : W.heap[g5]? = some (.cells #[.int .i64 0, .int .i64 0] 29 (0, 0))
  num : NumB W gN (zI od)
  orow : W.ownsRow w.heap.size 45 7 (.slice (some ⟨gO, 0, none⟩) out.length ocap) out.length (out.flatMap Ta.vals)
  ord : w.heap.size ≤ b1 ∧ b1 < g5 ∧ g5 < gN ∧ gN < gO

theorem RW.put {w W : World} {b1 g5 gN gO ocap : Nat} {v : Value} {od : List Nat} {out : List Ta} (h : RW w W b1 g5 gN gO v ocap od out) {k : Nat} (hk : k < out.length) (p : Int) : RW w (W.setCell ⟨gO, k * 7 + 6, none⟩ (.int .i64 p)) b1 g5 gN gO v ocap od (setP out k p) := by
  obtain ⟨o1, o2, o3, o4⟩ := h.ord
  have ks : ∀ q, q ≠ gO → (W.setCell ⟨gO, k * 7 + 6, none⟩ (.int .i64 p)).heap[q]? = W.heap[q]? := fun q hq => Below.heap_setCell _ _ _ _ hq
  have hlen : (setP out k p).length = out.length := by unfold setP; simp
  refine ⟨h.bel.setCell (by show w.heap.size ≤ gO; omega) _, (ks _ (by omega)).trans h.c1, (ks _ (by omega)).trans h.c5, (ks _ (by omega)).trans h.num, ?_, h.ord⟩
  rw [hlen]
  have e := ownsRow_put (u := .int .i64 p) h.orow (q := k * 7 + 6)
  have e2 : (setP out k p).flatMap Ta.vals = (out.flatMap Ta.vals).set (k * 7 + 6) (.int .i64 p) := by
    unfold setP
    exact flat_setP out k (Tk out k) p (Tk_get hk)
  rw [e2]
  exact e

theorem ranked_ends {w : World} {g : Nat} {c k p : Value} {a : Act} (h : w.heap[g]? = some (.cells #[c, k] 29 (0, 0))) (h2 : a.tmps[4]?.getD undef = p) (h3 : a.tmps[5]?.getD undef = .pointer (some ⟨g, 0, none⟩)) :
    (results Try.f46 a.tmps).run Try.prog w = .ok (.tuple #[p, .agg #[c, k]]) w := by
  obtain ⟨c1, f1, l1⟩ := cells_of (l := [_, _]) h
  have c10 := c1 0 _ rfl
  have c11 := c1 1 _ rfl
  subst h2
  simp [results, Try.results46, go_sem, h3, c10, c11]

theorem row_low {w : World} {l : List Ta} {v : Value} (hv : RowSl Ta.vals w l v) (h0 : 0 < l.length) : ∀ ad c, v = .slice ad l.length c → ∀ b o, ad = some ⟨b, o, none⟩ → b < w.heap.size := by
  obtain ⟨ad, c, rfl, -, -, h⟩ := hv
  intro ad' c' e b o e'
  cases e
  rcases h with h | ⟨b2, o2, e2, h⟩
  · rw [h] at h0; simp at h0
  · rw [e'] at e2
    cases e2
    have := ta_at h (Tk_get h0)
    exact World.block_lt_of_cell? _ _ this.1

set_option maxRecDepth 20000 in
set_option maxHeartbeats 8000000 in
theorem ranked_good (w : World) (l : List Ta) (v : Value) (hX : (chkF l).1 = 0) (hv : RowSl Ta.vals w l v) :
    Calls Try.prog 46 #[v, .func (Fn.func 47) #[] #[]] w fun r w' => ∃ u od, r = .returned (.tuple #[u, .agg #[.int .i64 0, .int .i64 0]]) ∧ InOrd (fun k => (Tk l k).d) l.length od ∧ RowHi w.heap.size w' (rkF l od 0 l) u ∧ Below w.heap.size w w' := by
  obtain ⟨hl0, h8, -⟩ := chkF_ok hX
  obtain ⟨ad, c, rfl⟩ := hv.len
  have hll : 0 < l.length := by omega
  have HV : Hid (RowSl Ta.vals w l (.slice ad l.length c) ∧ ∀ ad' c', (.slice ad l.length c : Value) = .slice ad' l.length c' → ∀ b o, ad' = some ⟨b, o, none⟩ → b < w.heap.size) := ⟨hv, row_low hv hll⟩
  have hb0 : Below w.heap.size w (((w.alloc (.cells #[.slice ad l.length c] 22)).alloc (.cells #[.func (Fn.func 47) #[] #[]] 82)).alloc (.cells #[.int .i64 0, .int .i64 0] 29)) := below_seq (below_seq (below_new _ _) (below_new _ _)) (below_new _ _)
  have HC := Check_any (((w.alloc (.cells #[.slice ad l.length c] 22)).alloc (.cells #[.func (Fn.func 47) #[] #[]] 82)).alloc (.cells #[.int .i64 0, .int .i64 0] 29)) l _ (hv.below hb0)
  rw [hX] at HC
  generalize (chkF l).2 = z2 at HC
  have H0 : Hid (Below w.heap.size w (((w.alloc (.cells #[.slice ad l.length c] 22)).alloc (.cells #[.func (Fn.func 47) #[] #[]] 82)).alloc (.cells #[.int .i64 0, .int .i64 0] 29)) ∧ (((w.alloc (.cells #[.slice ad l.length c] 22)).alloc (.cells #[.func (Fn.func 47) #[] #[]] 82)).alloc (.cells #[.int .i64 0, .int .i64 0] 29)).heap[w.heap.size]? = some (.cells #[.slice ad l.length c] 22 (0, 0)) ∧ (((w.alloc (.cells #[.slice ad l.length c] 22)).alloc (.cells #[.func (Fn.func 47) #[] #[]] 82)).alloc (.cells #[.int .i64 0, .int .i64 0] 29)).heap[w.heap.size + 1]? = some (.cells #[.func (Fn.func 47) #[] #[]] 82 (0, 0)) ∧ (((w.alloc (.cells #[.slice ad l.length c] 22)).alloc (.cells #[.func (Fn.func 47) #[] #[]] 82)).alloc (.cells #[.int .i64 0, .int .i64 0] 29)).heap[w.heap.size + 1 + 1]? = some (.cells #[.int .i64 0, .int .i64 0] 29 (0, 0))) := by
    refine ⟨hb0, ?_, ?_, heap_new3 _ _ _ _⟩
    · exact (Below.heap_alloc _ _ _ (by simp; omega)).trans ((Below.heap_alloc _ _ _ (by simp)).trans (heap_alloc_new _ _))
    · exact (Below.heap_alloc _ _ _ (by simp)).trans (heap_new2 _ _ _)
  clear hv hX hb0 hl0
  go_enter Try.func46, Try.ntmps46
  go_upto_region 4 with (go_at_call 34; refine HC.mono ?_; rintro r w1 ⟨rfl, hb1⟩; have H1 : Hid (Below w.heap.size w (w1.alloc (.cells #[.int .i64 0, .int .i64 z2] 29)) ∧ (w1.alloc (.cells #[.int .i64 0, .int .i64 z2] 29)).heap[w.heap.size]? = some (.cells #[.slice ad l.length c] 22 (0, 0)) ∧ (w1.alloc (.cells #[.int .i64 0, .int .i64 z2] 29)).heap[w.heap.size + 1]? = some (.cells #[.func (Fn.func 47) #[] #[]] 82 (0, 0)) ∧ (w1.alloc (.cells #[.int .i64 0, .int .i64 z2] 29)).heap[w.heap.size + 1 + 1]? = some (.cells #[.int .i64 0, .int .i64 0] 29 (0, 0))) := ⟨below_seq (below_seq H0.out.1 hb1) (below_new _ _), ((below_seq hb1 (below_new w1 (.cells #[.int .i64 0, .int .i64 z2] 29))).block _ (lt_heap H0.out.2.1)).trans H0.out.2.1, ((below_seq hb1 (below_new w1 (.cells #[.int .i64 0, .int .i64 z2] 29))).block _ (lt_heap H0.out.2.2.1)).trans H0.out.2.2.1, ((below_seq hb1 (below_new w1 (.cells #[.int .i64 0, .int .i64 z2] 29))).block _ (lt_heap H0.out.2.2.2)).trans H0.out.2.2.2⟩; clear hb1 HC H0)
  generalize w1.alloc (.cells #[.int .i64 0, .int .i64 z2] 29) = wA at *
  have q1 := (cells_of (l := [_]) H1.out.2.1).1 0 _ rfl
  go_upto_region 5 with (go_at_call 39; refine (numbers_any wA l.length (by omega)).mono ?_; rintro r w3 ⟨gN, rfl, hN3, hg3, hb3⟩; have H3 : Hid ((Below w.heap.size w w3 ∧ w3.heap[w.heap.size]? = some (.cells #[.slice ad l.length c] 22 (0, 0)) ∧ w3.heap[w.heap.size + 1]? = some (.cells #[.func (Fn.func 47) #[] #[]] 82 (0, 0)) ∧ w3.heap[w.heap.size + 1 + 1]? = some (.cells #[.int .i64 0, .int .i64 0] 29 (0, 0))) ∧ NumB w3 gN (zI (List.range l.length)) ∧ wA.heap.size ≤ gN ∧ w.heap.size + 1 + 1 < wA.heap.size) := ⟨⟨below_seq H1.out.1 hb3, (hb3.block _ (lt_heap H1.out.2.1)).trans H1.out.2.1, (hb3.block _ (lt_heap H1.out.2.2.1)).trans H1.out.2.2.1, (hb3.block _ (lt_heap H1.out.2.2.2)).trans H1.out.2.2.2⟩, hN3, hg3, lt_heap H1.out.2.2.2⟩; clear hb3 hN3 hg3 H1 q1)
  have HSo := sortS_any w3 l _ (w.heap.size + 1) w.heap.size gN hll h8 (HV.out.1.below H3.out.1.1) ((cells_of (l := [_]) H3.out.1.2.2.1).1 0 _ rfl) ((cells_of (l := [_]) H3.out.1.2.1).1 0 _ rfl) (by have := H3.out.2.2; omega) (by have := H3.out.2.2; omega) (fun ad' c' e b o e' => by have := HV.out.2 ad' c' e b o e'; have := H3.out.2.2; omega) H3.out.2.1
  go_upto_region 6 with (go_at_call 65; refine HSo.mono ?_; rintro r w4 ⟨rfl, od, hin, hN4, hg4⟩; have hb4 : Below (w.heap.size + 1 + 1 + 1) w3 w4 := (Below.refl _ w3).grown hg4 (by have := lt_heap H3.out.1.2.2.2; omega) (fun q hq => by have := H3.out.2.2; have := Option.some.inj hq; omega); have H4 : Hid (InOrd (fun k => (Tk l k).d) l.length od ∧ (Below w.heap.size w w4 ∧ w4.heap[w.heap.size]? = some (.cells #[.slice ad l.length c] 22 (0, 0)) ∧ w4.heap[w.heap.size + 1]? = some (.cells #[.func (Fn.func 47) #[] #[]] 82 (0, 0)) ∧ w4.heap[w.heap.size + 1 + 1]? = some (.cells #[.int .i64 0, .int .i64 0] 29 (0, 0))) ∧ NumB w4 gN (zI od) ∧ w.heap.size + 1 + 1 < gN) := ⟨hin, ⟨H3.out.1.1.trans (hb4.mono (by omega)), (hb4.block _ (by omega)).trans H3.out.1.2.1, (hb4.block _ (by omega)).trans H3.out.1.2.2.1, (hb4.block _ (by omega)).trans H3.out.1.2.2.2⟩, hN4, by have := H3.out.2.2; omega⟩; clear hin hN4 hg4 hb4 HSo H3)
  have q1 := (cells_of (l := [_]) H4.out.2.1.2.1).1 0 _ rfl
  go_upto_region 7 with (go_at_call 38; refine (cloneT_any w4 l _ (HV.out.1.below H4.out.2.1.1) hll (by omega)).mono ?_; rintro r w5 ⟨gO, ocap, rfl, ho5, hb5⟩; have H5 : Hid (RW w w5 w.heap.size (w.heap.size + 1 + 1) gN gO (.slice ad l.length c) ocap od l) := ⟨below_seq H4.out.2.1.1 hb5, (hb5.block _ (lt_heap H4.out.2.1.2.1)).trans H4.out.2.1.2.1, (hb5.block _ (lt_heap H4.out.2.1.2.2.2)).trans H4.out.2.1.2.2.2, H4.out.2.2.1.grow hb5, by (obtain ⟨e0, ⟨e1, -⟩ | ⟨g', cap', cur, e1, hB, hg, hc, hm, hss, ht⟩⟩ := ho5; (· cases e1); exact ⟨e0, .inr ⟨g', cap', cur, e1, by have := H4.out.2.1.1.size; omega, hg, hc, hm, hss, ht⟩⟩), by have := (World.ownsRow.lt ho5 gO rfl).1; have := H4.out.2.2.1.lt; have := H4.out.2.2.2; omega⟩; clear ho5 hb5 q1)
  have HO : Hid (InOrd (fun k => (Tk l k).d) l.length od) := H4.out.1
  have hodl : od.length = l.length := by have := H4.out.1.1.length_eq; simpa using this
  have HM : Hid (∀ i ∈ od, i < l.length) := fun i hi => by simpa using H4.out.1.1.mem_iff.1 hi
  clear H4
  go_wp2_with fail
  go_loopw [27] (fun vi wr => ∃ (j : Nat) (out : List Ta), j ≤ l.length ∧ vi = .int .i64 j ∧ RW w wr w.heap.size (w.heap.size + 1 + 1) gN gO (.slice ad l.length c) ocap od out ∧ out.length = l.length ∧ rkF l (od.drop j) j out = rkF l od 0 l) (fun vi _ => l.length - (intOf vi).toNat)
  case atStart => exact ⟨0, l, Nat.zero_le _, rfl, H5.out, rfl, rfl⟩
  case round =>
    obtain ⟨j, out, hj, rfl, hA, hol, hac⟩ := hrel
    have HA : Hid (RW w wr w.heap.size (w.heap.size + 1 + 1) gN gO (.slice ad l.length c) ocap od out) := hA
    by_cases hjl : j < l.length
    · obtain ⟨k, hk, hd⟩ := drop_at (l := od) (k := j) (by omega)
      have hkl := HM.out k (List.mem_of_getElem? hk)
      rw [rkF_at hd] at hac
      have HE : Hid (rkF l (od.drop (j + 1)) (j + 1) (setP out k ((l.length : Int) - (j : Int))) = rkF l od 0 l) := hac
      obtain ⟨nc, -⟩ := hA.num.cell (i := j) (x := (k : Int)) (by unfold zI; rw [List.getElem?_map, hk]; rfl)
      have q1 := (cells_of (l := [_]) hA.c1).1 0 _ rfl
      have ko : k < out.length := by omega
      have oc0 := hA.orow.cellAt (k * 7 + 6) (by omega)
      rw [flat_at Ta.vals 7 Ta.len out k 6 _ (Tk_get ko) (by omega)] at oc0
      have oc : wr.cell? ⟨gO, k * 7 + 6, none⟩ = some (.int .i64 (Tk out k).p) := oc0
      have of := hA.orow.frozenAt (k * 7 + 6)
      have og := (World.ownsRow.lt hA.orow gO rfl).2
      have hkk : (k : Int) < (l.length : Int) := by omega
      have hji : (j : Int) < (l.length : Int) := by omega
      generalize (Tk out k).p = oldp at *
      clear oc0 hac hd hk hA
      go_wp2_with fail
      exact ⟨⟨j + 1, setP out k ((l.length : Int) - (j : Int)), by omega, by simp, HA.out.put ko _, by unfold setP; simpa using hol, HE.out⟩, by simp [intOf]; omega⟩
    · have hje : j = l.length := by omega
      subst hje
      have HE : Hid (out = rkF l od 0 l) := by rw [← hodl, List.drop_length] at hac; exact hac
      obtain ⟨rs1, rf1, rl1⟩ := cells_of (l := [_, _]) hA.c5
      have r10 := rs1 0 _ rfl
      have r11 := rs1 1 _ rfl
      have f10 := rf1 0
      have f11 := rf1 1
      clear rs1 rf1 hA hac
      go_wp2_with fail
      refine bodyPost_ret (ranked_ends (g := w.heap.size + 1 + 1) (c := .int .i64 0) (k := .int .i64 0) (set_two HA.out.c5) rfl rfl) rfl ?_
      obtain ⟨o1, o2, o3, o4⟩ := HA.out.ord
      refine ⟨_, od, rfl, HO.out, ?_, (HA.out.bel.setCell (by show w.heap.size ≤ w.heap.size + 1 + 1; omega) _).setCell (by show w.heap.size ≤ w.heap.size + 1 + 1; omega) _⟩
      have e := ownsRow_keep2 (w' := (wr.setCell ⟨w.heap.size + 1 + 1, 0, none⟩ (.int .i64 0)).setCell ⟨w.heap.size + 1 + 1, 1, none⟩ (.int .i64 0)) HA.out.orow (fun q hq => by
        have hq' : gO = q := Option.some.inj hq
        rw [Below.heap_setCell _ _ _ _ (by show q ≠ w.heap.size + 1 + 1; omega), Below.heap_setCell _ _ _ _ (by show q ≠ w.heap.size + 1 + 1; omega)])
      have e2 := row_own e rfl
      rw [hol] at e2
      rw [← HE.out]
      exact ⟨gO, ocap, by rw [hol]; rfl, by omega, e2⟩

theorem Dead_ends {w : World} {g : Nat} {c k p : Value} {a : Act} (h : w.heap[g]? = some (.cells #[c, k] 29 (0, 0))) (h2 : a.tmps[2]?.getD undef = p) (h3 : a.tmps[3]?.getD undef = .pointer (some ⟨g, 0, none⟩)) :
    (results Try.f19 a.tmps).run Try.prog w = .ok (.tuple #[p, .agg #[c, k]]) w := by
  obtain ⟨c1, f1, l1⟩ := cells_of (l := [_, _]) h
  have c10 := c1 0 _ rfl
  have c11 := c1 1 _ rfl
  subst h2
  simp [results, Try.results19, go_sem, h3, c10, c11]

set_option maxRecDepth 20000 in
theorem Deadlines_good (w : World) (l : List Ta) (v : Value) (hX : (chkF l).1 = 0) (hv : RowSl Ta.vals w l v) :
    Calls Try.prog 19 #[v] w fun r w' => ∃ u od, r = .returned (.tuple #[u, .agg #[.int .i64 0, .int .i64 0]]) ∧ InOrd (fun k => (Tk l k).d) l.length od ∧ RowHi w.heap.size w' (rkF l od 0 l) u ∧ Below w.heap.size w w' := by
  have HR := ranked_good (w.alloc (.cells #[.int .i64 0, .int .i64 0] 29)) l v hX (hv.below (below_new _ _))
  obtain ⟨ad, c, rfl⟩ := hv.len
  have HF : Hid (FB w (w.alloc (.cells #[.int .i64 0, .int .i64 0] 29)) w.heap.size) := FB.start w
  clear hv hX
  go_enter Try.func19, Try.ntmps19
  go_wp2_with (go_at_call 46; refine HR.mono ?_; rintro r w1 ⟨u, od, rfl, hin, hru, hb1⟩; have H1 : Hid (FB w w1 w.heap.size ∧ InOrd (fun k => (Tk l k).d) l.length od ∧ RowHi (w.heap.size + 1) w1 (rkF l od 0 l) u ∧ Below (w.alloc (.cells #[.int .i64 0, .int .i64 0] 29)).heap.size (w.alloc (.cells #[.int .i64 0, .int .i64 0] 29)) w1) := ⟨HF.out.grow hb1, hin, by simpa using hru, hb1⟩; obtain ⟨rs1, rf1, rl1⟩ := cells_of (l := [_, _]) H1.out.1.res; have r10 := rs1 0 _ rfl; have r11 := rs1 1 _ rfl; have f10 := rf1 0; have f11 := rf1 1; clear rs1 rf1 hb1 hin hru HR)
  refine bodyPost_ret (Dead_ends (g := w.heap.size) (c := .int .i64 0) (k := .int .i64 0) (set_two H1.out.1.res) rfl rfl) rfl ?_
  refine ⟨u, od, rfl, H1.out.2.1, ?_, H1.out.1.set _ _⟩
  obtain ⟨g, cap, e, hB, hr⟩ := (H1.out.2.2.1.set (q := w.heap.size) (o := 0) (x := .int .i64 0) (by omega)).set (q := w.heap.size) (o := 1) (x := .int .i64 0) (by omega)
  exact ⟨g, cap, e, by omega, hr⟩

end Go.Proofs.Ytkafihaajpifoaf
