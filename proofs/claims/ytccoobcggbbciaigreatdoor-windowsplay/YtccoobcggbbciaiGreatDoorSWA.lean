import Derived.Test.YtccoobcggbbciaiGreatDoorSPV
import Derived.Test.YtccoobcggbbciaiGreatDoorSPR
import Derived.Test.YtccoobcggbbciaiGreatDoorSRB
import Derived.Test.YtccoobcggbbciaiGreatDoorSRC
namespace Go.Proofs.YtccoobcggbbciaiGreatDoor.S8
open Go.ChangeShapes Go.WideShapes Go.ChangeAt Go.RowKit Go.Sort

/-- Who runs, where a core isn't always there. -/
def PickO (l : List Jb) (op : Nat → Bool) (t : Nat) (s : St) (b : Int) : Prop := (op t = false ∧ b = -1) ∨ (op t = true ∧ IsBest l 1 s.left (t : Int) b)

def PlaysO (l : List Jb) (op : Nat → Bool) : Nat → St → Prop
  | 0, s => s = St.init l
  | t + 1, s => ∃ s0 b, PlaysO l op t s0 ∧ PickO l op t s0 b ∧ s = s0.after t b

theorem ok_afterO {l : List Jb} {op : Nat → Bool} {t : Nat} {s : St} {b : Int} (h : Ok l t s) (hp : PickO l op t s b) : Ok l (t + 1) (s.after t b) := by
  rcases hp with ⟨-, rfl⟩ | ⟨-, hp⟩
  · have e : s.after t (-1) = ⟨s.left, s.ends, s.runs ++ [-1]⟩ := rfl
    rw [e]
    exact ⟨h.left, h.ends, by simp [h.runs], h.nneg, h.small, fun r hr => by
      rcases List.mem_append.1 hr with hr | hr
      · exact h.rng r hr
      · simp at hr; exact .inl hr⟩
  · exact ok_after (pol := 1) (pre := true) h (.inr ⟨(fun e => by cases e.1), hp⟩)

theorem playsO_ok {l : List Jb} {op : Nat → Bool} (hl : ∀ x ∈ l, okJ x) : ∀ (t : Nat) (s : St), PlaysO l op t s → Ok l t s
  | 0, s, h => by rw [show s = _ from h]; exact ok_init hl
  | t + 1, s, ⟨s0, b, h1, h2, h3⟩ => by rw [h3]; exact ok_afterO (playsO_ok hl t s0 h1) h2

/-- So many are laid; the others are nobody. -/
def padC (n : Nat) (runs : List Int) : List Value := runs.map (Value.int .i64) ++ List.replicate (n - runs.length) (.int .i64 (-1))
theorem padC_len {n : Nat} {runs : List Int} (h : runs.length ≤ n) : (padC n runs).length = n := by simp [padC]; omega
theorem padC_snoc {n : Nat} {runs : List Int} {v : Int} (h : runs.length < n) : (padC n runs).set runs.length (.int .i64 v) = padC n (runs ++ [v]) := by
  unfold padC
  rw [List.set_append_right _ _ (by simp)]
  obtain ⟨m, hm⟩ : ∃ m, n - runs.length = m + 1 := ⟨n - runs.length - 1, by omega⟩
  rw [hm, List.replicate_succ]
  simp [show n - (runs.length + 1) = m by omega]
theorem padC_idle {n : Nat} {runs : List Int} (h : runs.length < n) : padC n (runs ++ [-1]) = padC n runs := by
  unfold padC
  obtain ⟨m, hm⟩ : ∃ m, n - runs.length = m + 1 := ⟨n - runs.length - 1, by omega⟩
  rw [hm, List.replicate_succ]
  simp [show n - (runs.length + 1) = m by omega]
theorem padC_full {runs : List Int} : padC runs.length runs = runs.map (Value.int .i64) := by simp [padC]

structure PlayM (w : World) (B K Lf Rn Rd C : Nat) (W : World) (l : List Jb) (rk cm : List Nat) (k : Nat) (th : List Nat) (left : List Int) (jv tv cv : Value) (rs pb rb eb n : Nat) (runs ends : List Int) : Prop where
  line : LineW w B K Lf Rn Rd C W l rk cm k th left jv tv cv
  res : W.heap[rs]? = some (.cells #[.slice none 0 0, .slice none 0 0] 41 (0, 0))
  p : W.heap[pb]? = some (.cells #[.slice (some ⟨rb, 0, none⟩) n n, .slice (some ⟨eb, 0, none⟩) l.length l.length] 41 (0, 0))
  rv : W.heap[rb]? = some (.cells (padC n runs).toArray 3 (0, 0))
  ev : W.heap[eb]? = some (.cells (ends.map (Value.int .i64)).toArray 3 (0, 0))
  bs : B ≤ rs ∧ B ≤ pb ∧ B ≤ rb ∧ B ≤ eb
  ds : rs ≠ pb ∧ rs ≠ rb ∧ rs ≠ eb ∧ pb ≠ rb ∧ pb ≠ eb ∧ rb ≠ eb
  os : tv.ownBlock ≠ some rs ∧ tv.ownBlock ≠ some pb ∧ tv.ownBlock ≠ some rb ∧ tv.ownBlock ≠ some eb

section

variable {w : World} {B K Lf Rn Rd C : Nat} {W W' : World} {l : List Jb} {rk cm : List Nat} {k k' : Nat} {th th' : List Nat} {left left' : List Int} {jv tv cv tv' cv' : Value} {rs pb rb eb n : Nat} {runs ends : List Int}

theorem PlayM.base (h : PlayM w B K Lf Rn Rd C W l rk cm k th left jv tv cv rs pb rb eb n runs ends) : w.heap.size ≤ B := h.line.low.2

theorem PlayM.lts (h : PlayM w B K Lf Rn Rd C W l rk cm k th left jv tv cv rs pb rb eb n runs ends) : rs < W.heap.size ∧ pb < W.heap.size ∧ rb < W.heap.size ∧ eb < W.heap.size :=
  ⟨lt_of_heap h.res, lt_of_heap h.p, lt_of_heap h.rv, lt_of_heap h.ev⟩

/-- The line has moved, and nothing else. -/
theorem PlayM.moved (h : PlayM w B K Lf Rn Rd C W l rk cm k th left jv tv cv rs pb rb eb n runs ends) (hc : LineW w B K Lf Rn Rd C W' l rk cm k' th' left' jv tv' cv') (hm : MovedL W W' K Lf tv tv') : PlayM w B K Lf Rn Rd C W' l rk cm k' th' left' jv tv' cv' rs pb rb eb n runs ends := by
  obtain ⟨l1, l2, l3, l4⟩ := h.lts
  obtain ⟨b1, b2, b3, b4⟩ := h.bs
  obtain ⟨o1, o2, o3, o4⟩ := h.os
  obtain ⟨hK, hL, -⟩ := h.line.lt
  obtain ⟨e1, f1⟩ := hm.block rs l1 (by omega) (by omega) o1
  obtain ⟨e2, f2⟩ := hm.block pb l2 (by omega) (by omega) o2
  obtain ⟨e3, f3⟩ := hm.block rb l3 (by omega) (by omega) o3
  obtain ⟨e4, f4⟩ := hm.block eb l4 (by omega) (by omega) o4
  exact ⟨hc, e1.trans h.res, e2.trans h.p, e3.trans h.rv, e4.trans h.ev, h.bs, h.ds, f1, f2, f3, f4⟩

theorem PlayM.drewN (h : PlayM w B K Lf Rn Rd C W l rk cm k th left jv tv cv rs pb rb eb n runs ends) (q : Nat) : PlayM w B K Lf Rn Rd C (W.drewN q) l rk cm k th left jv tv cv rs pb rb eb n runs ends :=
  h.moved (h.line.drewN q) (MovedL.drewN W K Lf tv q)

/-- Who runs is laid down. -/
theorem PlayM.run (h : PlayM w B K Lf Rn Rd C W l rk cm k th left jv tv cv rs pb rb eb n runs ends) {i : Nat} {v : Int} {runs' : List Int} (he : (padC n runs).set i (.int .i64 v) = padC n runs') : PlayM w B K Lf Rn Rd C (W.setCell ⟨rb, i, none⟩ (.int .i64 v)) l rk cm k th left jv tv cv rs pb rb eb n runs' ends := by
  obtain ⟨b1, b2, b3, b4⟩ := h.bs
  obtain ⟨d1, d2, d3, d4, d5, d6⟩ := h.ds
  have keep : ∀ q, q ≠ rb → (W.setCell ⟨rb, i, none⟩ (.int .i64 v)).heap[q]? = W.heap[q]? := fun q hq => Below.heap_setCell _ _ _ _ hq
  refine ⟨h.line.other b3 h.os.2.2.1, (keep rs d2).trans h.res, (keep pb d4).trans h.p, ?_, (keep eb (Ne.symm d6)).trans h.ev, h.bs, h.ds, h.os⟩
  rw [setCell_list h.rv, he]

/-- When it was done is laid down. -/
theorem PlayM.done (h : PlayM w B K Lf Rn Rd C W l rk cm k th left jv tv cv rs pb rb eb n runs ends) {i : Nat} {v : Int} : PlayM w B K Lf Rn Rd C (W.setCell ⟨eb, i, none⟩ (.int .i64 v)) l rk cm k th left jv tv cv rs pb rb eb n runs (ends.set i v) := by
  obtain ⟨b1, b2, b3, b4⟩ := h.bs
  obtain ⟨d1, d2, d3, d4, d5, d6⟩ := h.ds
  have keep : ∀ q, q ≠ eb → (W.setCell ⟨eb, i, none⟩ (.int .i64 v)).heap[q]? = W.heap[q]? := fun q hq => Below.heap_setCell _ _ _ _ hq
  refine ⟨h.line.other b4 h.os.2.2.2, (keep rs d3).trans h.res, (keep pb d5).trans h.p, (keep rb d6).trans h.rv, ?_, h.bs, h.ds, h.os⟩
  rw [setCell_list h.ev, List.map_set]

end


theorem PlayM.idle {w : World} {B K Lf Rn Rd C : Nat} {W : World} {l : List Jb} {rk cm : List Nat} {k : Nat} {th : List Nat} {left : List Int} {jv tv cv : Value} {rs pb rb eb n : Nat} {runs ends : List Int} (h : PlayM w B K Lf Rn Rd C W l rk cm k th left jv tv cv rs pb rb eb n runs ends) (hn : runs.length < n) : PlayM w B K Lf Rn Rd C W l rk cm k th left jv tv cv rs pb rb eb n (runs ++ [-1]) ends :=
  ⟨h.line, h.res, h.p, by rw [padC_idle hn]; exact h.rv, h.ev, h.bs, h.ds, h.os⟩

theorem PlayM.below {w : World} {B K Lf Rn Rd C : Nat} {W W' : World} {l : List Jb} {rk cm : List Nat} {k : Nat} {th : List Nat} {left : List Int} {jv tv cv : Value} {rs pb rb eb n : Nat} {runs ends : List Int} (h : PlayM w B K Lf Rn Rd C W l rk cm k th left jv tv cv rs pb rb eb n runs ends) (hb : Below W.heap.size W W') : PlayM w B K Lf Rn Rd C W' l rk cm k th left jv tv cv rs pb rb eb n runs ends := by
  obtain ⟨l1, l2, l3, l4⟩ := h.lts
  exact ⟨h.line.below hb, (hb.block _ l1).trans h.res, (hb.block _ l2).trans h.p, (hb.block _ l3).trans h.rv, (hb.block _ l4).trans h.ev, h.bs, h.ds, h.os⟩

theorem playM_ends {w : World} {g : Nat} {c k : Value} {a : Act} (h : w.heap[g]? = some (.cells #[c, k] 41 (0, 0))) (h3 : a.tmps[10]?.getD undef = .pointer (some ⟨g, 0, none⟩)) :
    (results Tryz.f58 a.tmps).run Tryz.prog w = .ok (.agg #[c, k]) w := by
  obtain ⟨c1, f1, l1⟩ := cells_of (l := [_, _]) h
  have c10 := c1 0 _ rfl
  have c11 := c1 1 _ rfl
  simp [results, Tryz.results58, go_sem, h3, c10, c11]

theorem nothing_any (w : World) (a b : Int) : Calls Tryz.prog 60 #[.int .i64 a, .int .i64 b] w fun r w' => r = .returned (.tuple #[]) ∧ w' = w := by
  go_enter Tryz.func60, Tryz.ntmps60
  go_wp2_with fail
  go_end0
  exact ⟨rfl, rfl⟩

/-- What is laid ahead of the first tick. -/
theorem PlayM.start {w : World} {B K Lf Rn Rd C : Nat} {W W1 W2 W3 : World} {l : List Jb} {rk cm : List Nat} {left : List Int} {jv tv cv : Value} {rb eb n : Nat} (h : LineW w B K Lf Rn Rd C W l rk cm 0 [] left jv tv cv) (hres : W1.heap[W.heap.size]? = some (.cells #[.slice none 0 0, .slice none 0 0] 41 (0, 0))) (hb1 : Below W.heap.size W W1)
    (hg1 : W1.heap.size ≤ rb) (hr : W2.heap[rb]? = some (.cells (List.replicate n (Value.int .i64 (-1))).toArray 3 (0, 0))) (hb2 : Below W1.heap.size W1 W2) (hg2 : W2.heap.size ≤ eb) (he : W3.heap[eb]? = some (.cells (List.replicate l.length (Value.int .i64 (-1))).toArray 3 (0, 0))) (hb3 : Below W2.heap.size W2 W3) :
    PlayM w B K Lf Rn Rd C (W3.alloc (.cells #[.slice (some ⟨rb, 0, none⟩) n n, .slice (some ⟨eb, 0, none⟩) l.length l.length] 41)) l rk cm 0 [] left jv tv cv W.heap.size W3.heap.size rb eb n [] (List.replicate l.length (-1)) := by
  have l1 := lt_of_heap hres
  have l2 := lt_of_heap hr
  have l3 := lt_of_heap he
  have s3 := hb3.size
  have hn3 := below_new W3 (.cells #[.slice (some ⟨rb, 0, none⟩) n n, .slice (some ⟨eb, 0, none⟩) l.length l.length] 41)
  have hall : Below W.heap.size W (W3.alloc (.cells #[.slice (some ⟨rb, 0, none⟩) n n, .slice (some ⟨eb, 0, none⟩) l.length l.length] 41)) := below_seq (below_seq (below_seq hb1 hb2) hb3) hn3
  have ho : ∀ q, W.heap.size ≤ q → tv.ownBlock ≠ some q := fun q hq e => by have := (h.there.low e).2; omega
  have hB : B ≤ W.heap.size := by have := h.bs; have := h.lt; omega
  refine ⟨h.below hall, ?_, heap_alloc_new _ _, ?_, ?_, ⟨hB, by have := hb1.size; have := hb2.size; omega, by have := hb1.size; omega, by have := hb1.size; have := hb2.size; omega⟩, ⟨by omega, by omega, by omega, by omega, by omega, by omega⟩, ho _ (Nat.le_refl _), ho _ (by have := hb1.size; have := hb2.size; omega), ho _ (by have := hb1.size; omega), ho _ (by have := hb1.size; have := hb2.size; omega)⟩
  · rw [hn3.block _ (by omega), hb3.block _ (by omega), hb2.block _ l1]; exact hres
  · rw [hn3.block _ (by omega), hb3.block _ l2, hr]; simp [padC]
  · rw [hn3.block _ l3, he]; simp

set_option maxRecDepth 20000 in
set_option maxHeartbeats 4000000 in
theorem playM_any (w W : World) (B K Lf Rn Rd C : Nat) (l : List Jb) (rk cm : List Nat) (jv tv cv : Value) (n : Nat) (op : Nat → Bool) (bn : Value) (hcore : LineW w B K Lf Rn Rd C W l rk cm 0 [] (l.map (·.c)) jv tv cv) (hr : Ranked l 1 rk) (hc : Coming l rk cm) (hl : l.length ≤ 4000) (hok : ∀ x ∈ l, okJ x) (hn : n ≤ 20000)
    (HO : ∀ W', Below w.heap.size w W' → ∀ t : Nat, t ≤ 20000 → Calls Tryz.prog 59 #[bn, .int .i64 (t : Int)] W' fun r w' => r = .returned (.bool (op t)) ∧ Below W'.heap.size W' w') :
    Calls Tryz.prog 58 #[.pointer (some ⟨K, 0, none⟩), .int .i64 (l.length : Int), .int .i64 (n : Int), .func (Fn.func 59) #[bn] #[], .func (Fn.func 60) #[] #[]] W fun r W' => ∃ s rb eb, PlaysO l op n s ∧ r = .returned (.agg #[.slice (some ⟨rb, 0, none⟩) n n, .slice (some ⟨eb, 0, none⟩) l.length l.length]) ∧ W'.heap[rb]? = some (.cells (s.runs.map (Value.int .i64)).toArray 3 (0, 0)) ∧ W'.heap[eb]? = some (.cells (s.ends.map (Value.int .i64)).toArray 3 (0, 0)) ∧ rb ≠ eb ∧ w.heap.size ≤ rb ∧ w.heap.size ≤ eb ∧ Below w.heap.size w W' := by
  have HQ : Hid (Ranked l 1 rk ∧ Coming l rk cm ∧ ∀ x ∈ l, okJ x) := ⟨hr, hc, hok⟩
  have HW : Hid (LineW w B K Lf Rn Rd C W l rk cm 0 [] (l.map (·.c)) jv tv cv) := hcore
  have HT : Hid (∀ W', Below w.heap.size w W' → ∀ t : Nat, t ≤ 20000 → Calls Tryz.prog 59 #[bn, .int .i64 (t : Int)] W' fun r w' => r = .returned (.bool (op t)) ∧ Below W'.heap.size W' w') := HO
  clear hcore HO hr hc hok
  go_enter Tryz.func58, Tryz.ntmps58
  go_upto_region 2 with (first | (go_at_call 89; refine (Repeat_any (w1.alloc (.cells #[.int .i64 (-1)] 3)) _ l.length (heap_alloc_new _ _) (by omega)).mono ?_; rintro r w2 ⟨eb, rfl, hg2, hr2, hb2⟩; have H2 : Hid (w1.heap.size + 1 ≤ eb ∧ w2.heap[eb]? = some (.cells (List.replicate l.length (Value.int .i64 (-1))).toArray 3 (0, 0)) ∧ Below (w1.heap.size + 1) (w1.alloc (.cells #[.int .i64 (-1)] 3)) w2) := ⟨by simpa using hg2, hr2, by simpa using hb2⟩; clear hg2 hr2 hb2) | (go_at_call 89; refine (Repeat_any ((W.alloc (.cells #[.slice none 0 0, .slice none 0 0] 41)).alloc (.cells #[.int .i64 (-1)] 3)) _ n (by have := heap_alloc_new (W.alloc (.cells #[.slice none 0 0, .slice none 0 0] 41)) (.cells #[.int .i64 (-1)] 3); simpa using this) (by omega)).mono ?_; rintro r w1 ⟨rb, rfl, hg1, hr1, hb1⟩; have H1 : Hid (W.heap.size + 2 ≤ rb ∧ w1.heap[rb]? = some (.cells (List.replicate n (Value.int .i64 (-1))).toArray 3 (0, 0)) ∧ Below (W.heap.size + 2) ((W.alloc (.cells #[.slice none 0 0, .slice none 0 0] 41)).alloc (.cells #[.int .i64 (-1)] 3)) w1) := ⟨by simpa using hg1, hr1, by simpa using hb1⟩; clear hg1 hr1 hb1))
  have H0 : Hid (PlayM w B K Lf Rn Rd C (w2.alloc (.cells #[.slice (some ⟨rb, 0, none⟩) n n, .slice (some ⟨eb, 0, none⟩) l.length l.length] 41)) l rk cm 0 [] (l.map (·.c)) jv tv cv W.heap.size w2.heap.size rb eb n [] (List.replicate l.length (-1))) := by
    refine PlayM.start (W1 := (W.alloc (.cells #[.slice none 0 0, .slice none 0 0] 41)).alloc (.cells #[.int .i64 (-1)] 3)) (W2 := w1) HW.out ?_ (below_seq (below_new _ _) (below_new _ _)) (by simpa using H1.out.1) H1.out.2.1 (by simpa using H1.out.2.2) ?_ H2.out.2.1 ?_
    · exact (Below.heap_alloc _ _ _ (by simp)).trans (heap_alloc_new _ _)
    · have := H2.out.1; omega
    · refine (below_new w1 (.cells #[.int .i64 (-1)] 3)).trans ?_
      exact H2.out.2.2.mono (by omega)
  clear HW H1 H2
  generalize (w2.alloc (.cells #[.slice (some ⟨rb, 0, none⟩) n n, .slice (some ⟨eb, 0, none⟩) l.length l.length] 41)) = w3 at *
  generalize w2.heap.size = pb at *
  go_wp2_with fail
  go_loopw [22] (fun i wr => ∃ (t : Nat) (s : St) (k1 : Nat) (th1 : List Nat) (tv1 cv1 : Value), t ≤ n ∧ i = .int .i64 t ∧ PlayM w B K Lf Rn Rd C wr l rk cm k1 th1 s.left jv tv1 cv1 W.heap.size pb rb eb n s.runs s.ends ∧ Core l rk cm k1 th1 s.left ∧ (∀ p ∈ cm.take k1, (J l (RK rk p)).a ≤ (t : Int)) ∧ PlaysO l op t s) (fun i _ => n - (intOf i).toNat)
  case atStart => exact ⟨0, St.init l, 0, [], tv, cv, Nat.zero_le _, rfl, H0.out, core_start HQ.out.1 HQ.out.2.1 HQ.out.2.2, by simp, rfl⟩
  case round =>
    obtain ⟨t, s, k0, th0, tv0, cv0, ht, rfl, hpw, hco, hbd, hpl⟩ := hrel
    have hokt := playsO_ok HQ.out.2.2 t s hpl
    by_cases hlt : t < n
    · have hti : (t : Int) < (n : Int) := by omega
      have HR : Hid (PlayM w B K Lf Rn Rd C wr l rk cm k0 th0 s.left jv tv0 cv0 W.heap.size pb rb eb n s.runs s.ends ∧ Core l rk cm k0 th0 s.left ∧ (∀ p ∈ cm.take k0, (J l (RK rk p)).a ≤ (t : Int)) ∧ PlaysO l op t s ∧ Ok l t s) := ⟨hpw, hco, hbd, hpl, hokt⟩
      clear hpw hco hbd hpl hokt
      go_upto_region 6 with (go_at_call 90; refine (Come_any w B K Lf Rn Rd C wr l 1 rk cm k0 th0 s.left jv tv0 cv0 (t : Int) HR.out.1.line HR.out.2.1 HQ.out.1 HQ.out.2.1 hl HR.out.2.2.1).mono ?_; rintro r w1 ⟨⟨cb, rfl⟩, k1, th1, tv1, cv1, hcw, hco1, hnow, hmv, hsub⟩; have H1 : Hid (PlayM w B K Lf Rn Rd C w1 l rk cm k1 th1 s.left jv tv1 cv1 W.heap.size pb rb eb n s.runs s.ends ∧ Core l rk cm k1 th1 s.left ∧ Now l rk cm k1 (t : Int)) := ⟨HR.out.1.moved hcw hmv, hco1, hnow⟩; clear hcw hco1 hnow hmv hsub)
      go_upto_region 7 with (go_at_call 91; refine (First_any w B K Lf Rn Rd C w1 l 1 rk cm k1 th1 s.left jv tv1 cv1 H1.out.1.line HQ.out.1 (fun p hp => H1.out.2.1.lt HQ.out.2.1 hp)).mono ?_; rintro r w2' ⟨rfl, q2, rfl⟩)
      have H2 : Hid (PlayM w B K Lf Rn Rd C (w1.drewN q2) l rk cm k1 th1 s.left jv tv1 cv1 W.heap.size pb rb eb n s.runs s.ends ∧ Core l rk cm k1 th1 s.left ∧ Now l rk cm k1 (t : Int)) := ⟨H1.out.1.drewN q2, H1.out.2⟩
      clear H1
      generalize w1.drewN q2 = wd at *
      have hrl := HR.out.2.2.2.2.runs
      have HTt := HT.out wd H2.out.1.line.bel t (by omega)
      cases th1 with
      | nil =>
        have hbest := H2.out.2.1.best_none HQ.out.1 HQ.out.2.1 H2.out.2.2
        have HP : Hid (PickO l op t s (-1)) := by
          show PickO l op t s (-1)
          cases ho : op t with
          | false => exact .inl ⟨ho, rfl⟩
          | true => exact .inr ⟨ho, hbest⟩
        have H3 : Hid (PlayM w B K Lf Rn Rd C wd l rk cm k1 [] s.left jv tv1 cv1 W.heap.size pb rb eb n (s.runs ++ [-1]) s.ends) := H2.out.1.idle (by omega)
        have hf : foreJ rk [] = -1 := rfl
        clear hbest HTt
        rw [hf]
        go_wp2_with fail
        exact ⟨⟨t + 1, ⟨s.left, s.ends, s.runs ++ [-1]⟩, k1, [], tv1, cv1, by omega, by simp, H3.out, H2.out.2.1, fun q hq => by have := H2.out.2.2.come q hq; omega, ⟨s, -1, HR.out.2.2.2.1, HP.out, rfl⟩⟩, by simp [intOf]; omega⟩
      | cons p th2 =>
        have hpt : p ∈ p :: th2 := List.mem_cons_self
        have hbest := H2.out.2.1.best_some HQ.out.1 HQ.out.2.1 H2.out.2.2
        have hf : foreJ rk (p :: th2) = ((RK rk p : Nat) : Int) := rfl
        rw [hf]
        have hqm : (((RK rk p : Nat) : Int) == -1) = false := by rw [beq_eq_false_iff_ne]; omega
        have hqm' : decide (((RK rk p : Nat) : Int) = -1) = false := decide_eq_false (by omega)
        cases ho : op t with
        | false =>
          rw [ho] at HTt
          have HP : Hid (PickO l op t s (-1)) := .inl ⟨ho, rfl⟩
          clear hbest
          go_wp2_with (go_at_call 59; refine HTt.mono ?_; rintro r w5 ⟨rfl, hb5⟩; have H5 : Hid (PlayM w B K Lf Rn Rd C w5 l rk cm k1 (p :: th2) s.left jv tv1 cv1 W.heap.size pb rb eb n (s.runs ++ [-1]) s.ends) := (H2.out.1.below hb5).idle (by omega); clear hb5 HTt)
          exact ⟨⟨t + 1, ⟨s.left, s.ends, s.runs ++ [-1]⟩, k1, p :: th2, tv1, cv1, by omega, by simp, H5.out, H2.out.2.1, fun q hq => by have := H2.out.2.2.come q hq; omega, ⟨s, -1, HR.out.2.2.2.1, HP.out, rfl⟩⟩, by simp [intOf]; omega⟩
        | true =>
          rw [ho] at HTt
          have hpll : p < l.length := H2.out.2.1.lt HQ.out.2.1 hpt
          have HP : Hid (PickO l op t s ((RK rk p : Nat) : Int)) := .inr ⟨ho, hbest⟩
          have hrkl : RK rk p < l.length := HQ.out.1.lt hpll
          obtain ⟨Lv, hLv⟩ : ∃ Lv, L s.left (RK rk p) = Lv := ⟨_, rfl⟩
          have hL0 : 0 < Lv := by rw [← hLv]; exact ((H2.out.2.1.mem p).1 hpt).2
          have hL1 : Lv ≤ 10000 := by rw [← hLv]; exact HR.out.2.2.2.2.small _
          have hll := HR.out.2.2.2.2.left
          have haft : s.after t ((RK rk p : Nat) : Int) = ⟨s.left.set (RK rk p) (Lv - 1), if Lv - 1 = 0 then s.ends.set (RK rk p) ((t : Int) + 1) else s.ends, s.runs ++ [((RK rk p : Nat) : Int)]⟩ := by
            unfold St.after
            rw [if_neg (by omega), Int.toNat_natCast, hLv]
          have hthl := H2.out.2.1.len HQ.out.2.1
          have HC : Hid (L s.left (RK rk p) = Lv ∧ s.left.length = l.length ∧ RK rk p < l.length ∧ p < l.length ∧ (p :: th2).length ≤ l.length) := ⟨hLv, hll, hrkl, hpll, by omega⟩
          have hqi : ((RK rk p : Nat) : Int) < (l.length : Int) := by omega
          clear hbest ho hLv hll hthl hpll hpt
          go_upto_region 8 with (go_at_call 59; refine HTt.mono ?_; rintro r w5 ⟨rfl, hb5⟩; have H5 : Hid (PlayM w B K Lf Rn Rd C w5 l rk cm k1 (p :: th2) s.left jv tv1 cv1 W.heap.size pb rb eb n s.runs s.ends) := H2.out.1.below hb5; clear hb5 HTt)
          obtain ⟨ps, pf, pl⟩ := cells_of (l := [_, _]) H5.out.p
          have p0 := ps 0 _ rfl
          obtain ⟨rc, rf, rl⟩ := cells_of (l := padC n s.runs) H5.out.rv
          have r0 := rc t _ (List.getElem?_eq_getElem (by rw [padC_len (by omega)]; exact hlt))
          have rf0 := rf t
          generalize (padC n s.runs)[t]'(by rw [padC_len (by omega)]; exact hlt) = rold at r0
          have HB : Hid (PlayM w B K Lf Rn Rd C (w5.setCell ⟨rb, t, none⟩ (.int .i64 ((RK rk p : Nat) : Int))) l rk cm k1 (p :: th2) s.left jv tv1 cv1 W.heap.size pb rb eb n (s.runs ++ [((RK rk p : Nat) : Int)]) s.ends) := H5.out.run (i := t) (v := ((RK rk p : Nat) : Int)) (by rw [← hrl]; exact padC_snoc (by omega))
          clear ps pf rc rf
          by_cases hz : Lv = 1
          · subst hz
            have HA : Hid (s.after t ((RK rk p : Nat) : Int) = ⟨s.left.set (RK rk p) 0, s.ends.set (RK rk p) ((t : Int) + 1), s.runs ++ [((RK rk p : Nat) : Int)]⟩) := by
              rw [if_pos (by decide)] at haft
              exact haft
            have hel := HR.out.2.2.2.2.ends
            have HEL : Hid (RK rk p < (s.ends.map (Value.int .i64)).length) := by
              have e : RK rk p < (s.ends.map (Value.int .i64)).length := by rw [List.length_map, hel]; exact hrkl
              exact e
            clear hL0 hL1 haft hel hrkl
            go_upto_region 10 with (go_at_call 92; refine (Work_last w B K Lf Rn Rd C _ l 1 rk cm k1 p (p :: th2) s.left jv tv1 cv1 HB.out.line HQ.out.1 List.mem_cons_self HC.out.2.2.2.1 HC.out.2.1 HC.out.1 H2.out.2.1.asc (by have := HC.out.2.2.2.2; omega)).mono ?_; rintro r w6 ⟨rfl, tv6, hc6, hm6⟩; have H6 : Hid (PlayM w B K Lf Rn Rd C w6 l rk cm k1 ((p :: th2).take ((p :: th2).countP (· < p)) ++ (p :: th2).drop ((p :: th2).countP (· < p) + 1)) (s.left.set (RK rk p) 0) jv tv6 cv1 W.heap.size pb rb eb n (s.runs ++ [((RK rk p : Nat) : Int)]) s.ends) := HB.out.moved hc6 hm6; clear hc6 hm6)
            obtain ⟨ps, pf, pl⟩ := cells_of (l := [_, _]) H6.out.p
            have p1 := ps 1 _ rfl
            obtain ⟨ec, ef, el⟩ := cells_of (l := s.ends.map (Value.int .i64)) H6.out.ev
            have e0 := ec (RK rk p) _ (List.getElem?_eq_getElem HEL.out)
            have ef0 := ef (RK rk p)
            generalize (s.ends.map (Value.int .i64))[RK rk p]'HEL.out = eold at e0
            clear ps pf ec ef
            have qt : IntKind.i64.wrap ((t : Int) + 1) = (t : Int) + 1 := by rw [IntKind.wrap_i64]; omega
            go_wp2_with (go_at_call 60; refine (nothing_any _ _ _).mono ?_; rintro r w7 ⟨rfl, hw7⟩; have hw8 := hw7.symm; subst hw8; clear hw7)
            exact ⟨⟨t + 1, ⟨s.left.set (RK rk p) 0, s.ends.set (RK rk p) ((t : Int) + 1), s.runs ++ [((RK rk p : Nat) : Int)]⟩, k1, _, tv6, cv1, by omega, by simp, H6.out.done, H2.out.2.1.leave HQ.out.1 HQ.out.2.1 HC.out.2.1 List.mem_cons_self, fun q hq => by have := H2.out.2.2.come q hq; omega, ⟨s, _, HR.out.2.2.2.1, HP.out, HA.out.symm⟩⟩, by simp [intOf]; omega⟩
          · have HA : Hid (s.after t ((RK rk p : Nat) : Int) = ⟨s.left.set (RK rk p) (Lv - 1), s.ends, s.runs ++ [((RK rk p : Nat) : Int)]⟩) := by
              rw [if_neg (by omega)] at haft
              exact haft
            have HZ : Hid (1 < Lv ∧ Lv ≤ 10000) := by
              have e : 1 < Lv ∧ Lv ≤ 10000 := by omega
              exact e
            clear hL0 hL1 haft hrkl hz
            go_wp2_with (first | (go_at_call 92; refine (Work_on w B K Lf Rn Rd C _ l rk cm k1 (RK rk p) Lv (p :: th2) s.left jv tv1 cv1 HB.out.line HC.out.2.2.1 HC.out.2.1 HC.out.1 HZ.out.1 HZ.out.2).mono ?_; rintro r w6 ⟨rfl, hc6, hm6⟩; have H6 : Hid (PlayM w B K Lf Rn Rd C w6 l rk cm k1 (p :: th2) (s.left.set (RK rk p) (Lv - 1)) jv tv1 cv1 W.heap.size pb rb eb n (s.runs ++ [((RK rk p : Nat) : Int)]) s.ends) := HB.out.moved hc6 hm6; clear hc6 hm6) | (go_at_call 60; refine (nothing_any _ _ _).mono ?_; rintro r w7 ⟨rfl, hw7⟩; have hw8 := hw7.symm; subst hw8; clear hw7))
            exact ⟨⟨t + 1, ⟨s.left.set (RK rk p) (Lv - 1), s.ends, s.runs ++ [((RK rk p : Nat) : Int)]⟩, k1, p :: th2, tv1, cv1, by omega, by simp, H6.out, H2.out.2.1.tick HQ.out.1 HQ.out.2.1 HC.out.2.1 List.mem_cons_self (by have := HZ.out.1; omega), fun q hq => by have := H2.out.2.2.come q hq; omega, ⟨s, _, HR.out.2.2.2.1, HP.out, HA.out.symm⟩⟩, by simp [intOf]; omega⟩
    · have hte : t = n := by omega
      subst hte
      have HE : Hid (PlayM w B K Lf Rn Rd C wr l rk cm k0 th0 s.left jv tv0 cv0 W.heap.size pb rb eb t s.runs s.ends ∧ PlaysO l op t s ∧ Ok l t s) := ⟨hpw, hpl, hokt⟩
      obtain ⟨ps, pf, pl⟩ := cells_of (l := [_, _]) hpw.p
      have p0 := ps 0 _ rfl
      have p1 := ps 1 _ rfl
      obtain ⟨qs, qf, ql⟩ := cells_of (l := [_, _]) hpw.res
      have q0 := qs 0 _ rfl
      have q1 := qs 1 _ rfl
      have qf0 := qf 0
      have qf1 := qf 1
      clear ps pf qs qf hpw hpl hokt hco hbd
      go_wp2_with fail
      refine bodyPost_ret (playM_ends (g := W.heap.size) (c := .slice (some ⟨rb, 0, none⟩) t t) (k := .slice (some ⟨eb, 0, none⟩) l.length l.length) (by rw [setCell_at (setCell_at HE.out.1.res)]; rfl) rfl) rfl ?_
      obtain ⟨d1, d2, d3, d4, d5, d6⟩ := HE.out.1.ds
      obtain ⟨b1, b2, b3, b4⟩ := HE.out.1.bs
      have hbs := HE.out.1.base
      refine ⟨s, rb, eb, HE.out.2.1, rfl, ?_, ?_, d6, by omega, by omega, (HE.out.1.line.bel.setCell (show w.heap.size ≤ W.heap.size by omega) _).setCell (show w.heap.size ≤ W.heap.size by omega) _⟩
      · rw [Below.heap_setCell _ _ _ _ (Ne.symm d2), Below.heap_setCell _ _ _ _ (Ne.symm d2), HE.out.1.rv, ← HE.out.2.2.runs, padC_full]
      · rw [Below.heap_setCell _ _ _ _ (Ne.symm d3), Below.heap_setCell _ _ _ _ (Ne.symm d3), HE.out.1.ev]
end Go.Proofs.YtccoobcggbbciaiGreatDoor.S8
