import Derived.Test.YtcmoehednkaehahGOT
import Derived.Deep.CutRange
namespace Go.Proofs.Ytcmoehednkaehah
open Go.ChangeShapes Go.WideShapes Go.ChangeAt Go.RowKit

def zE : En := ⟨⟨0, 0, [], .slice none 0 0⟩, 0, 0, false, 0, 0⟩

theorem info75 : (Try.prog.info? 75).map (fun i => (i.zero, i.size, i.bytes)) = some (some (.agg #[.int .i64 0, .int .i64 0, .slice none 0 0, .int .i64 0, .int .i64 0, .bool false, .int .i64 0, .int .i64 0]), 8, 80) := by kernel_rfl

def nrvals (J C n : Nat) (pr : Int) (a b c d : Int) (ev tv : Value) : List Value := [.slice none 0 0, ev, tv, .bool false, .slice (some ⟨J, 0, none⟩) n n, .int .i64 pr, .slice (some ⟨C, 0, none⟩) 4 4, .int .i64 a, .int .i64 b, .int .i64 c, .int .i64 d]

/-- A run that is being made. -/
structure NR (l : List Lj) (w W : World) (R J C : Nat) (pr : Int) (es : List En) (a b c d : Int) (ev tv : Value) : Prop where
  bel : Below w.heap.size w W
  lo : w.heap.size ≤ R ∧ w.heap.size ≤ J ∧ w.heap.size ≤ C
  ne : R ≠ J ∧ R ≠ C ∧ J ≠ C
  hR : W.heap[R]? = some (.cells (nrvals J C l.length pr a b c d ev tv).toArray 70 (0, 0))
  hJ : W.heap[J]? = some (.cells (es.flatMap En.vals).toArray 75 (0, 0))
  hC : W.heap[C]? = some (.cells (inV (topsF l)).toArray 3 (0, 0))

theorem NR.grow {l : List Lj} {w W W' : World} {R J C : Nat} {pr : Int} {es : List En} {a b c d : Int} {ev tv : Value} (h : NR l w W R J C pr es a b c d ev tv) (hb : Below W.heap.size W W') : NR l w W' R J C pr es a b c d ev tv :=
  ⟨h.bel.trans (hb.mono h.bel.size), h.lo, h.ne, (hb.block _ (heap_lt h.hR)).trans h.hR, (hb.block _ (heap_lt h.hJ)).trans h.hJ, (hb.block _ (heap_lt h.hC)).trans h.hC⟩



theorem flat_rep (n : Nat) : madeCells (Value.agg #[.int .i64 0, .int .i64 0, .slice none 0 0, .int .i64 0, .int .i64 0, .bool false, .int .i64 0, .int .i64 0]).cells (n * 8) = ((List.replicate n zE).flatMap En.vals).toArray := by
  have hl : ((List.replicate n zE).flatMap En.vals).length = n * 8 := by rw [flat_length En.vals 8 En.len, List.length_replicate]
  have hs : ((List.replicate n zE).flatMap En.vals).toArray.size = n * 8 := by simpa using hl
  apply Array.ext
  · rw [hs]
    simp [madeCells]
  · intro i h1 h2
    rw [hs] at h2
    have h3 : ((List.replicate n zE).flatMap En.vals)[i]? = (En.vals zE)[i % 8]? := by
      rw [← flat_at En.vals 8 En.len (List.replicate n zE) (i / 8) (i % 8) zE (by rw [List.getElem?_replicate, if_pos (by omega)]) (Nat.mod_lt _ (by omega))]
      congr 1
      omega
    have h4 : i % 8 < 8 := Nat.mod_lt _ (by omega)
    rw [List.getElem?_eq_getElem (by rw [hl]; exact h2), List.getElem?_eq_getElem (by rw [En.len]; exact h4)] at h3
    have h5 := Option.some.inj h3
    have e1 : ((List.replicate n zE).flatMap En.vals).toArray[i]'(by rw [hs]; exact h2) = (En.vals zE)[i % 8]'(by rw [En.len]; exact h4) := by rw [← h5]; simp
    rw [e1]
    have h6 : i % 8 = 0 ∨ i % 8 = 1 ∨ i % 8 = 2 ∨ i % 8 = 3 ∨ i % 8 = 4 ∨ i % 8 = 5 ∨ i % 8 = 6 ∨ i % 8 = 7 := by omega
    simp only [madeCells]
    show _ = (En.vals zE)[i % 8]
    rcases h6 with h | h | h | h | h | h | h | h <;> simp [h, Value.cells, zE, En.vals]

theorem make75 (W : World) (n : Nat) (hn : n ≤ 100) : (Instr.makeSlice 67 (.int .i64 (n : Int)) (.int .i64 (n : Int))).run Try.prog W = .ok (.slice (some ⟨W.heap.size, 0, none⟩) n n) (W.alloc (.cells ((List.replicate n zE).flatMap En.vals).toArray 75)) := by
  obtain ⟨i0, hi0, hz0, hz1, hz2⟩ := info_parts info75
  have h := run_make (P := Try.prog) W 67 75 i0 _ Try.underlying67 hi0 hz0 .i64 .i64 (n : Int) (n : Int) (by omega) (by omega) (by rw [hz2]; omega) (by omega)
  rw [Int.toNat_natCast, hz1, flat_rep] at h
  exact h

theorem nr_box {l : List Lj} {w W : World} {J C : Nat} (pr : Int) {es : List En} (hb : Below w.heap.size w W) (lJ : w.heap.size ≤ J) (lC : w.heap.size ≤ C) (ne : J ≠ C) (hJ : W.heap[J]? = some (.cells (es.flatMap En.vals).toArray 75 (0, 0))) (hC : W.heap[C]? = some (.cells (inV (topsF l)).toArray 3 (0, 0))) :
    NR l w (W.alloc (.cells (nrvals J C l.length pr 0 0 0 0 (.slice none 0 0) (.slice none 0 0)).toArray 70)) W.heap.size J C pr es 0 0 0 0 (.slice none 0 0) (.slice none 0 0) := by
  have h1 := heap_lt hJ
  have h2 := heap_lt hC
  exact ⟨below_seq hb (below_new _ _), ⟨hb.size, lJ, lC⟩, ⟨by omega, by omega, ne⟩, heap_alloc_new _ _, ((below_new W _).block _ h1).trans hJ, ((below_new W _).block _ h2).trans hC⟩

theorem NR.setJ {l : List Lj} {w W : World} {R J C : Nat} {pr : Int} {es : List En} {a b c d : Int} {ev tv : Value} (h : NR l w W R J C pr es a b c d ev tv) {i k : Nat} {e : En} (e' : En) {u : Value} (hi : es[i]? = some e) (hk : k < 8) (he : e'.vals = e.vals.set k u) : NR l w (W.setCell ⟨J, i * 8 + k, none⟩ u) R J C pr (es.set i e') a b c d ev tv := by
  obtain ⟨n1, n2, n3⟩ := h.ne
  refine ⟨h.bel.setCell h.lo.2.1 _, h.lo, h.ne, (Below.heap_setCell _ _ _ _ n1).trans h.hR, ?_, (Below.heap_setCell _ _ _ _ (Ne.symm n3)).trans h.hC⟩
  rw [setCell_at h.hJ, List.setIfInBounds_toArray, flat_set En.vals 8 En.len _ _ _ _ _ _ hi hk he]

theorem NR.fill {l : List Lj} {w W : World} {R J C : Nat} {pr : Int} {es : List En} {a b c d : Int} {ev tv : Value} (h : NR l w W R J C pr es a b c d ev tv) {k : Nat} (hk : es[k]? = some zE) (y : Lj) :
    NR l w ((((((((W.setCell ⟨J, k * 8, none⟩ (.int .i64 y.a)).setCell ⟨J, k * 8 + 1, none⟩ (.int .i64 y.p)).setCell ⟨J, k * 8 + 2, none⟩ y.v).setCell ⟨J, k * 8 + 3, none⟩ (.int .i64 0)).setCell ⟨J, k * 8 + 4, none⟩ (.int .i64 0)).setCell ⟨J, k * 8 + 5, none⟩ (.bool false)).setCell ⟨J, k * 8 + 6, none⟩ (.int .i64 (-1))).setCell ⟨J, k * 8 + 7, none⟩ (.int .i64 0)) R J C pr (es.set k (en0 y)) a b c d ev tv := by
  have hl := (List.getElem?_eq_some_iff.1 hk).1
  have hs : ∀ e : En, (es.set k e)[k]? = some e := fun e => List.getElem?_set_self hl
  have h1 := h.setJ (k := 0) (u := .int .i64 y.a) ⟨⟨y.a, 0, [], .slice none 0 0⟩, 0, 0, false, 0, 0⟩ hk (by omega) rfl
  have h2 := h1.setJ (i := k) (e := ⟨⟨y.a, 0, [], .slice none 0 0⟩, 0, 0, false, 0, 0⟩) (k := 1) (u := .int .i64 y.p) ⟨⟨y.a, y.p, [], .slice none 0 0⟩, 0, 0, false, 0, 0⟩ (hs _) (by omega) rfl
  have h3 := h2.setJ (i := k) (e := ⟨⟨y.a, y.p, [], .slice none 0 0⟩, 0, 0, false, 0, 0⟩) (k := 2) (u := y.v) ⟨y, 0, 0, false, 0, 0⟩ (by rw [List.set_set]; exact hs _) (by omega) rfl
  have h4 := h3.setJ (i := k) (e := ⟨y, 0, 0, false, 0, 0⟩) (k := 3) (u := .int .i64 0) ⟨y, 0, 0, false, 0, 0⟩ (by rw [List.set_set, List.set_set]; exact hs _) (by omega) rfl
  have h5 := h4.setJ (i := k) (e := ⟨y, 0, 0, false, 0, 0⟩) (k := 4) (u := .int .i64 0) ⟨y, 0, 0, false, 0, 0⟩ (by rw [List.set_set, List.set_set, List.set_set]; exact hs _) (by omega) rfl
  have h6 := h5.setJ (i := k) (e := ⟨y, 0, 0, false, 0, 0⟩) (k := 5) (u := .bool false) ⟨y, 0, 0, false, 0, 0⟩ (by rw [List.set_set, List.set_set, List.set_set, List.set_set]; exact hs _) (by omega) rfl
  have h7 := h6.setJ (i := k) (e := ⟨y, 0, 0, false, 0, 0⟩) (k := 6) (u := .int .i64 (-1)) (en0 y) (by rw [List.set_set, List.set_set, List.set_set, List.set_set, List.set_set]; exact hs _) (by omega) rfl
  have h8 := h7.setJ (i := k) (e := en0 y) (k := 7) (u := .int .i64 0) (en0 y) (by rw [List.set_set, List.set_set, List.set_set, List.set_set, List.set_set, List.set_set]; exact hs _) (by omega) rfl
  rw [List.set_set, List.set_set, List.set_set, List.set_set, List.set_set, List.set_set, List.set_set] at h8
  exact h8

theorem fill_next {l : List Lj} {k : Nat} {y : Lj} (h : l[k]? = some y) : ((l.take k).map en0 ++ List.replicate (l.length - k) zE).set k (en0 y) = (l.take (k + 1)).map en0 ++ List.replicate (l.length - (k + 1)) zE := by
  have hk := (List.getElem?_eq_some_iff.1 h).1
  obtain ⟨q, hq⟩ : ∃ q, l.length - k = q + 1 := ⟨l.length - k - 1, by omega⟩
  rw [List.set_append_right _ _ (by simp; omega), List.length_map, List.length_take, Nat.min_eq_left (by omega), Nat.sub_self, hq, List.replicate_succ, List.set_cons_zero, show l.length - (k + 1) = q by omega, List.take_add_one, h]
  simp

theorem NR.setR {l : List Lj} {w W : World} {R J C : Nat} {pr : Int} {es : List En} {a b c d a' b' c' d' : Int} {ev tv ev' tv' : Value} (h : NR l w W R J C pr es a b c d ev tv) (k : Nat) (u : Value) (he : (nrvals J C l.length pr a b c d ev tv).set k u = nrvals J C l.length pr a' b' c' d' ev' tv') : NR l w (W.setCell ⟨R, k, none⟩ u) R J C pr es a' b' c' d' ev' tv' := by
  obtain ⟨n1, n2, n3⟩ := h.ne
  refine ⟨h.bel.setCell h.lo.1 _, h.lo, h.ne, ?_, (Below.heap_setCell _ _ _ _ (Ne.symm n1)).trans h.hJ, (Below.heap_setCell _ _ _ _ (Ne.symm n2)).trans h.hC⟩
  rw [setCell_at h.hR, List.setIfInBounds_toArray, he]

def hv (m i : Nat) : Int := if i < m then -1 else 0

theorem NR.hold {l : List Lj} {w W : World} {R J C : Nat} {pr : Int} {es : List En} {ev tv : Value} {m : Nat} (hm : m < 4) (h : NR l w W R J C pr es (hv m 0) (hv m 1) (hv m 2) (hv m 3) ev tv) : NR l w (W.setCell ⟨R, 7 + m, none⟩ (.int .i64 (-1))) R J C pr es (hv (m + 1) 0) (hv (m + 1) 1) (hv (m + 1) 2) (hv (m + 1) 3) ev tv := by
  refine h.setR _ _ ?_
  have : m = 0 ∨ m = 1 ∨ m = 2 ∨ m = 3 := by omega
  rcases this with rfl | rfl | rfl | rfl <;> rfl

theorem four_inV {l : List Lj} {W W' : World} {g : Nat} {a b c d : Int} (h : Four W W' g a b c d) (ht : topsF l = [a, b, c, d]) : W'.heap[g]? = some (.cells (inV (topsF l)).toArray 3 (0, 0)) := by
  rw [ht]
  exact h.row

set_option maxRecDepth 20000 in
set_option maxHeartbeats 4000000 in
theorem newRun_any (w : World) (l : List Lj) (v : Value) (hv : LkSl w l v) (hl : l.length ≤ 100) (hok : ∀ x ∈ l, chkActs x.acts = (0, 0)) (pr : Int) :
    Calls Try.prog 21 #[v, .int .i64 pr] w fun r w' => ∃ A B, r = .returned (.pointer (some ⟨A.R, 0, none⟩)) ∧ RunW w w' A pr (topsF l) l.length (.slice none 0 0) (x0 l) ∧ Lows w A B := by
  obtain ⟨ad, c, hve⟩ := hv.1.len
  subst hve
  have HCe := fun W (hb : Below w.heap.size w W) => ceilings_any W l (.slice ad l.length c) (hv.below hb) hl hok
  have HV : Hid (LkSl w l (.slice ad l.length c)) := hv
  clear hv hok
  go_enter Try.func21, Try.ntmps21
  go_wp2_with fail
  go_cut [5] from 9 (fun s W => ∃ R J C, s = .pointer (some ⟨R, 0, none⟩) ∧ NR l w W R J C pr (List.replicate l.length zE) 0 0 0 0 (.slice none 0 0) (.slice none 0 0))
  case first =>
    obtain ⟨Z, hZ⟩ : ∃ Z, ((List.replicate l.length zE).flatMap En.vals).toArray = Z := ⟨_, rfl⟩
    have hmk : ∀ W : World, (Instr.makeSlice 67 (.int .i64 (l.length : Int)) (.int .i64 (l.length : Int))).run Try.prog W = .ok (.slice (some ⟨W.heap.size, 0, none⟩) l.length l.length) (W.alloc (.cells Z 75)) := fun W => by rw [← hZ]; exact make75 W l.length hl
    have HZ : Hid (((List.replicate l.length zE).flatMap En.vals).toArray = Z) := hZ
    clear hZ
    refine wp_region_noPanic ?_
    refine wp_region_held_drew (S := fun _ => True) (by kernel_rfl) (trivial) (fun hHeld => ?_)
    refine take_at (i := 0) (n := 9) (v := ?_) rfl rfl (by kernel_rfl) (by kernel_rfl) (by kernel_rfl) (fun _ _ _ h => h) (Or.inl ⟨by rfl, ?_⟩) (by assumption) ?_
    rotate_left 1
    · intro wz hSw
      first | (go_simp; done) | (go_simp; with_reducible rfl)
    simp only [List.set_cons_zero, List.set_cons_succ]
    refine take_at (i := 1) (n := 10) (v := ?_) rfl rfl (by kernel_rfl) (by kernel_rfl) (by kernel_rfl) (fun _ _ _ h => h) (Or.inl ⟨by rfl, ?_⟩) (by assumption) ?_
    rotate_left 1
    · intro wz hSw
      first | (go_simp; done) | (go_simp; with_reducible rfl)
    simp only [List.set_cons_zero, List.set_cons_succ]
    refine take_at (i := 3) (n := 12) (v := ?_) rfl rfl (by kernel_rfl) (by kernel_rfl) (by kernel_rfl) (fun _ _ _ h => h) (Or.inl ⟨by rfl, ?_⟩) (by assumption) ?_
    rotate_left 1
    · intro wz hSw
      first | (go_simp; done) | (go_simp; with_reducible rfl)
    simp only [List.set_cons_zero, List.set_cons_succ]
    refine take_at (i := 4) (n := 13) (v := ?_) rfl rfl (by kernel_rfl) (by kernel_rfl) (by kernel_rfl) (fun _ _ _ h => h) (Or.inl ⟨by rfl, ?_⟩) (by assumption) ?_
    rotate_left 1
    · intro wz hSw
      first | (go_simp; done) | (go_simp; with_reducible rfl)
    simp only [List.set_cons_zero, List.set_cons_succ]
    refine wpAnyH_ready (rs := [2, 5]) (by kernel_rfl) (by simp) ?_
    refine AllReadyH.cons rfl (fun K hK => ?_) (AllReadyH.cons rfl (fun K hK => ?_) AllReadyH.nil)
    · have H0 := HCe (w.drew.alloc (.cells Z 75)) ((Below.refl _ w).drew.alloc (Nat.le_refl _) _)
      clear HCe
      go_simp
      refine hK.out _ _ trivial (fun hHeld => ?_)
      clear hK K
      refine wpAnyH_ready (rs := [5]) (by kernel_rfl) (by simp) ?_
      refine AllReadyH.cons rfl (fun K hK => ?_) AllReadyH.nil
      go_simp
      go_wp2_with (go_at_call 28; refine H0.mono ?_; rintro r w1 ⟨g, a, b, c1, d, rfl, ht, hf⟩; have H1 : Hid (topsF l = [a, b, c1, d] ∧ Four (w.drew.alloc (.cells Z 75)) w1 g a b c1 d) := ⟨ht, hf⟩; clear H0 ht hf)
      refine hK.out _ _ (trivial) (fun hHeld => ?_)
      clear hK K
      refine wpAnyH_ready (rs := [6]) (by kernel_rfl) (by simp) ?_
      refine AllReadyH.cons rfl (fun K hK => ?_) AllReadyH.nil
      go_simp
      refine hK.out _ _ (trivial) (fun hHeld => ?_)
      clear hK K
      refine wpAnyH_ready (rs := [7]) (by kernel_rfl) (by simp) ?_
      refine AllReadyH.cons rfl (fun K hK => ?_) AllReadyH.nil
      go_simp
      refine hK.out _ _ (trivial) (fun hHeld => ?_)
      clear hK K
      refine take_at (i := 8) (n := 5) (v := ?_) rfl rfl (by kernel_rfl) (by kernel_rfl) (by kernel_rfl) (fun _ _ _ h => h) (Or.inl ⟨by rfl, ?_⟩) (by assumption) ?_
      rotate_left 1
      · intro wz hSw
        first | (go_simp; done) | (go_simp; with_reducible rfl)
      simp only [List.set_cons_zero, List.set_cons_succ]
      refine wpAnyH_done (by kernel_rfl) ?_ _
      refine NoPanic.normal ?_
      go_wp2_with fail
      go_meet
      case rel =>
        obtain rfl := HZ.out
        have hb0 : Below w.heap.size w (w.drew.alloc (.cells ((List.replicate l.length zE).flatMap En.vals).toArray 75)) := (Below.refl w.heap.size w).drew.alloc (Nat.le_refl _) _
        have hb := below_seq hb0 H1.out.2.bel
        refine ⟨_, w.heap.size, g, rfl, nr_box pr hb (Nat.le_refl _) (by have := H1.out.2.low; simp at this; omega) (by have := H1.out.2.low; simp at this; omega) ((H1.out.2.bel.block _ (by simp)).trans (heap_alloc_new w.drew _)) (four_inV H1.out.2 H1.out.1)⟩
    · have H0 := HCe w.drew (Below.refl _ w).drew
      clear HCe
      go_simp
      go_wp2_with (go_at_call 28; refine H0.mono ?_; rintro r w1 ⟨g, a, b, c1, d, rfl, ht, hf⟩; have H1 : Hid (topsF l = [a, b, c1, d] ∧ Four w.drew w1 g a b c1 d) := ⟨ht, hf⟩; clear H0 ht hf)
      refine hK.out _ _ trivial (fun hHeld => ?_)
      clear hK K
      refine wpAnyH_ready (rs := [2]) (by kernel_rfl) (by simp) ?_
      refine AllReadyH.cons rfl (fun K hK => ?_) AllReadyH.nil
      go_simp
      refine hK.out _ _ (trivial) (fun hHeld => ?_)
      clear hK K
      refine wpAnyH_ready (rs := [6]) (by kernel_rfl) (by simp) ?_
      refine AllReadyH.cons rfl (fun K hK => ?_) AllReadyH.nil
      go_simp
      refine hK.out _ _ (trivial) (fun hHeld => ?_)
      clear hK K
      refine wpAnyH_ready (rs := [7]) (by kernel_rfl) (by simp) ?_
      refine AllReadyH.cons rfl (fun K hK => ?_) AllReadyH.nil
      go_simp
      refine hK.out _ _ (trivial) (fun hHeld => ?_)
      clear hK K
      refine take_at (i := 8) (n := 5) (v := ?_) rfl rfl (by kernel_rfl) (by kernel_rfl) (by kernel_rfl) (fun _ _ _ h => h) (Or.inl ⟨by rfl, ?_⟩) (by assumption) ?_
      rotate_left 1
      · intro wz hSw
        first | (go_simp; done) | (go_simp; with_reducible rfl)
      simp only [List.set_cons_zero, List.set_cons_succ]
      refine wpAnyH_done (by kernel_rfl) ?_ _
      refine NoPanic.normal ?_
      go_wp2_with fail
      go_meet
      case rel =>
        obtain rfl := HZ.out
        have hb0 : Below w.heap.size w w1 := (Below.refl w.heap.size w).drew.trans H1.out.2.bel
        have hb := below_seq hb0 (below_new w1 (.cells ((List.replicate l.length zE).flatMap En.vals).toArray 75))
        have hg := heap_lt H1.out.2.row
        refine ⟨_, w1.heap.size, g, by simp, nr_box (W := w1.alloc (.cells ((List.replicate l.length zE).flatMap En.vals).toArray 75)) pr hb H1.out.2.bel.size H1.out.2.low (by omega) (heap_alloc_new w1 _) ?_⟩
        exact ((below_new w1 _).block _ hg).trans (four_inV H1.out.2 H1.out.1)
  case rest =>
    obtain ⟨R, J, C, rfl, hnr⟩ := hcut
    have HN : Hid (NR l w wc R J C pr (List.replicate l.length zE) 0 0 0 0 (.slice none 0 0) (.slice none 0 0)) := hnr
    clear hnr HCe
    go_wp2_with fail
    go_loopw [19] (fun i wr => ∃ k : Nat, k ≤ l.length ∧ i = .int .i64 k ∧ NR l w wr R J C pr ((l.take k).map en0 ++ List.replicate (l.length - k) zE) 0 0 0 0 (.slice none 0 0) (.slice none 0 0)) (fun i _ => l.length - (intOf i).toNat)
    case atStart => exact ⟨0, Nat.zero_le _, rfl, by simpa using HN.out⟩
    case round =>
      obtain ⟨k, hk, rfl, hr⟩ := hrel
      by_cases hlt : k < l.length
      · obtain ⟨y, hy⟩ := at_lt rfl hlt
        obtain ⟨⟨_, _, e0, -, -, hrow⟩, hac⟩ := HV.out.below hr.bel
        cases e0
        rcases hrow with h0 | ⟨b, o, rfl, hrow⟩
        · rw [h0] at hlt; simp at hlt
        obtain ⟨c0, c1, c2⟩ := lj_at hrow hy
        obtain ⟨yad, yc, hyv⟩ := (hac y (List.mem_of_getElem? hy)).len
        have lb : b < wr.heap.size := World.block_lt_of_cell? _ _ c0
        obtain ⟨ya, yp, yacts, yv⟩ := y
        dsimp only at c0 c1 c2 hyv
        subst hyv
        have hki : (k : Int) < (l.length : Int) := by omega
        obtain ⟨rc, rf, rl⟩ := cells_of hr.hR
        have r4 : wr.cell? ⟨R, 4, none⟩ = some (.slice (some ⟨J, 0, none⟩) l.length l.length) := rc 4 _ rfl
        obtain ⟨jc, jf, jl⟩ := cells_of hr.hJ
        have jf' : ∀ q, wr.frozen? ⟨J, k * 8 + q, none⟩ = false := fun q => jf _
        have hz : ((l.take k).map en0 ++ List.replicate (l.length - k) zE)[k]? = some zE := by
          rw [List.getElem?_append_right (by simp; omega), List.getElem?_replicate, if_pos (by simp; omega)]
        have jk : ∀ q u, q < 8 → zE.vals[q]? = some u → wr.cell? ⟨J, k * 8 + q, none⟩ = some u := fun q u hq hu => jc _ _ ((flat_at En.vals 8 En.len _ k q zE hz hq).trans hu)
        have j0 := jk 0 _ (by omega) rfl
        have j1 := jk 1 _ (by omega) rfl
        have j2 := jk 2 _ (by omega) rfl
        have j3 := jk 3 _ (by omega) rfl
        have j4 := jk 4 _ (by omega) rfl
        have j5 := jk 5 _ (by omega) rfl
        have j6 := jk 6 _ (by omega) rfl
        have j7 := jk 7 _ (by omega) rfl
        have f0 := jf' 0
        have f1 := jf' 1
        have f2 := jf' 2
        have f3 := jf' 3
        have f4 := jf' 4
        have f5 := jf' 5
        have f6 := jf' 6
        have f7 := jf' 7
        rw [Nat.add_zero] at j0 f0
        have HR : Hid (NR l w wr R J C pr ((l.take k).map en0 ++ List.replicate (l.length - k) zE) 0 0 0 0 (.slice none 0 0) (.slice none 0 0) ∧ ((l.take k).map en0 ++ List.replicate (l.length - k) zE)[k]? = some zE ∧ l[k]? = some ⟨ya, yp, yacts, .slice yad yacts.length yc⟩) := ⟨hr, hz, hy⟩
        have hRJ := hr.ne.1
        clear hr hrow hac hy rc rf jc jf jf' hz jk
        go_wp2_with fail
        refine wp_region_noPanic ?_
        refine wp_region_held_drew (S := fun w' => w'.cell? ⟨R, 4, none⟩ = some (.slice (some ⟨J, 0, none⟩) l.length l.length) ∧ w'.cell? ⟨wr.heap.size, 0, none⟩ = some (.int .i64 ya) ∧ w'.cell? ⟨wr.heap.size, 1, none⟩ = some (.int .i64 yp) ∧ w'.cell? ⟨wr.heap.size, 2, none⟩ = some (.slice yad yacts.length yc)) (by kernel_rfl) (by refine ⟨?_, ?_, ?_, ?_⟩ <;> go_simp) (fun hHeld => ?_)
        refine take_at (i := 0) (n := 24) (v := ?_) rfl rfl (by kernel_rfl) (by kernel_rfl) (by kernel_rfl) (fun _ _ _ h => h) (Or.inl ⟨by rfl, ?_⟩) (by assumption) ?_
        rotate_left 1
        · intro wz hSw
          obtain ⟨s0, s1, s2, s3⟩ := hSw
          first | (go_simp; done) | (go_simp; with_reducible rfl)
        simp only [List.set_cons_zero, List.set_cons_succ]
        refine take_at (i := 1) (n := 25) (v := ?_) rfl rfl (by kernel_rfl) (by kernel_rfl) (by kernel_rfl) (fun _ _ _ h => h) (Or.inl ⟨by rfl, ?_⟩) (by assumption) ?_
        rotate_left 1
        · intro wz hSw
          obtain ⟨s0, s1, s2, s3⟩ := hSw
          first | (go_simp; done) | (go_simp; with_reducible rfl)
        simp only [List.set_cons_zero, List.set_cons_succ]
        refine take_at (i := 2) (n := 26) (v := ?_) rfl rfl (by kernel_rfl) (by kernel_rfl) (by kernel_rfl) (fun _ _ _ h => h) (Or.inl ⟨by rfl, ?_⟩) (by assumption) ?_
        rotate_left 1
        · intro wz hSw
          obtain ⟨s0, s1, s2, s3⟩ := hSw
          first | (go_simp; done) | (go_simp; with_reducible rfl)
        simp only [List.set_cons_zero, List.set_cons_succ]
        refine take_at (i := 3) (n := 27) (v := ?_) rfl rfl (by kernel_rfl) (by kernel_rfl) (by kernel_rfl) (fun _ _ _ h => h) (Or.inl ⟨by rfl, ?_⟩) (by assumption) ?_
        rotate_left 1
        · intro wz hSw
          obtain ⟨s0, s1, s2, s3⟩ := hSw
          first | (go_simp; done) | (go_simp; with_reducible rfl)
        simp only [List.set_cons_zero, List.set_cons_succ]
        refine take_at (i := 4) (n := 28) (v := ?_) rfl rfl (by kernel_rfl) (by kernel_rfl) (by kernel_rfl) (fun _ _ _ h => h) (Or.inl ⟨by rfl, ?_⟩) (by assumption) ?_
        rotate_left 1
        · intro wz hSw
          obtain ⟨s0, s1, s2, s3⟩ := hSw
          first | (go_simp; done) | (go_simp; with_reducible rfl)
        simp only [List.set_cons_zero, List.set_cons_succ]
        refine take_at (i := 5) (n := 29) (v := ?_) rfl rfl (by kernel_rfl) (by kernel_rfl) (by kernel_rfl) (fun _ _ _ h => h) (Or.inl ⟨by rfl, ?_⟩) (by assumption) ?_
        rotate_left 1
        · intro wz hSw
          obtain ⟨s0, s1, s2, s3⟩ := hSw
          first | (go_simp; done) | (go_simp; with_reducible rfl)
        simp only [List.set_cons_zero, List.set_cons_succ]
        refine take_at (i := 6) (n := 30) (v := ?_) rfl rfl (by kernel_rfl) (by kernel_rfl) (by kernel_rfl) (fun _ _ _ h => h) (Or.inl ⟨by rfl, ?_⟩) (by assumption) ?_
        rotate_left 1
        · intro wz hSw
          obtain ⟨s0, s1, s2, s3⟩ := hSw
          first | (go_simp; done) | (go_simp; with_reducible rfl)
        simp only [List.set_cons_zero, List.set_cons_succ]
        refine take_at (i := 7) (n := 31) (v := ?_) rfl rfl (by kernel_rfl) (by kernel_rfl) (by kernel_rfl) (fun _ _ _ h => h) (Or.inl ⟨by rfl, ?_⟩) (by assumption) ?_
        rotate_left 1
        · intro wz hSw
          obtain ⟨s0, s1, s2, s3⟩ := hSw
          first | (go_simp; done) | (go_simp; with_reducible rfl)
        simp only [List.set_cons_zero, List.set_cons_succ]
        refine wpAnyH_ready (rs := [8]) (by kernel_rfl) (by simp) ?_
        refine AllReadyH.cons rfl (fun K hK => ?_) AllReadyH.nil
        go_simp
        refine hK.out _ _ (by refine ⟨?_, ?_, ?_, ?_⟩ <;> go_simp) (fun hHeld => ?_)
        clear hK K
        refine wpAnyH_done (by kernel_rfl) ?_ _
        refine NoPanic.normal ?_
        go_wp2_with fail
        refine ⟨⟨k + 1, by omega, by simp, ?_⟩, by simp [intOf]; omega⟩
        have hfl := (HR.out.1.fill HR.out.2.1 ⟨ya, yp, yacts, .slice yad yacts.length yc⟩).grow (below_new _ (.cells #[.int .i64 ya, .int .i64 yp, .slice yad yacts.length yc] 47))
        rw [fill_next HR.out.2.2] at hfl
        exact hfl.grow (Below.refl _ _).drew
      · have hke : k = l.length := by omega
        subst hke
        have HE : Hid (NR l w wr R J C pr (l.map en0) 0 0 0 0 (.slice none 0 0) (.slice none 0 0)) := by
          rw [List.take_length, Nat.sub_self, List.replicate_zero, List.append_nil] at hr
          exact hr
        clear hr
        go_wp2_with fail
        obtain ⟨wo, hwo⟩ : ∃ wo, wo = wr := ⟨_, rfl⟩
        subst hwo
        go_loopw [33] (fun i wr => ∃ m : Nat, m ≤ 4 ∧ i = .int .i64 m ∧ NR l w wr R J C pr (l.map en0) (hv m 0) (hv m 1) (hv m 2) (hv m 3) (.slice none 0 0) (.slice none 0 0)) (fun i _ => 4 - (intOf i).toNat)
        case atStart => exact ⟨0, Nat.zero_le _, rfl, HE.out⟩
        case round =>
          obtain ⟨m, hm, rfl, hr⟩ := hrel
          obtain ⟨rc, rf, rl⟩ := cells_of hr.hR
          by_cases hm4 : m < 4
          · have hmi : (m : Int) < 4 := by omega
            have r7 : wr.cell? ⟨R, 7 + m, none⟩ = some (.int .i64 (if m = 0 then hv m 0 else if m = 1 then hv m 1 else if m = 2 then hv m 2 else hv m 3)) := by
              have : m = 0 ∨ m = 1 ∨ m = 2 ∨ m = 3 := by omega
              rcases this with rfl | rfl | rfl | rfl
              · exact rc 7 _ rfl
              · exact rc 8 _ rfl
              · exact rc 9 _ rfl
              · exact rc 10 _ rfl
            have f7 := rf (7 + m)
            have HS : Hid (NR l w (wr.setCell ⟨R, 7 + m, none⟩ (.int .i64 (-1))) R J C pr (l.map en0) (hv (m + 1) 0) (hv (m + 1) 1) (hv (m + 1) 2) (hv (m + 1) 3) (.slice none 0 0) (.slice none 0 0)) := hr.hold hm4
            generalize (if m = 0 then hv m 0 else if m = 1 then hv m 1 else if m = 2 then hv m 2 else hv m 3) = zz at r7
            clear hr rc rf
            go_wp2_with fail
            exact ⟨⟨m + 1, by omega, by simp, HS.out⟩, by simp [intOf]; omega⟩
          · have hme : m = 4 := by omega
            subst hme
            have HF : Hid (NR l w wr R J C pr (l.map en0) (-1) (-1) (-1) (-1) (.slice none 0 0) (.slice none 0 0)) := hr
            have HRep := Repeat_any (wr.alloc (.cells #[.int .i64 (-1)] 3)) wr.heap.size l.length (heap_alloc_new _ _) (by omega)
            have hmk : ∀ W : World, (Instr.makeSlice 26 (.int .i64 (l.length : Int)) (.int .i64 (l.length : Int))).run Try.prog W = .ok (.slice (some ⟨W.heap.size, 0, none⟩) l.length l.length) (W.alloc (.cells (List.replicate l.length (Value.int .i64 0)).toArray 3)) := fun W => make_row W l.length W.heap.size (by omega) rfl
            clear hr rc rf
            go_wp2_with (go_at_call 29; refine HRep.mono ?_; rintro r w3 ⟨g, rfl, hg1, hg2, hb3⟩; have hn3 := (HF.out.grow (below_new _ (.cells #[.int .i64 (-1)] 3))).grow hb3; obtain ⟨sc, sf, sl⟩ := cells_of hn3.hR; have s1 : w3.cell? ⟨R, 1, none⟩ = some (.slice none 0 0) := sc 1 _ rfl; have s2 : w3.cell? ⟨R, 2, none⟩ = some (.slice none 0 0) := sc 2 _ rfl; have t1 := sf 1; have t2 := sf 2; have H3 : Hid (NR l w w3 R J C pr (l.map en0) (-1) (-1) (-1) (-1) (.slice none 0 0) (.slice none 0 0) ∧ wr.heap.size < g ∧ w3.heap[g]? = some (.cells (List.replicate l.length (Value.int .i64 (-1))).toArray 3 (0, 0)) ∧ wr.heap.size ≤ w3.heap.size) := ⟨hn3, by simp at hg1; omega, hg2, by have := hb3.size; simp at this; omega⟩; clear hn3 sc sf hg1 hg2 hb3 HRep)
            go_ret
            obtain ⟨hn3, hg, hgr, hsz⟩ := H3.out
            have hn := (hn3.setR (ev' := .slice (some ⟨g, 0, none⟩) l.length l.length) (tv' := .slice none 0 0) 1 _ rfl).setR (ev' := .slice (some ⟨g, 0, none⟩) l.length l.length) (tv' := .slice (some ⟨w3.heap.size, 0, none⟩) l.length l.length) 2 _ rfl
            have hnA := hn.grow (below_new _ (.cells (Array.replicate l.length (.int .i64 0)) 3))
            have k1 := heap_lt HF.out.hR
            have k2 := heap_lt HF.out.hJ
            have k3 := heap_lt HF.out.hC
            have k4 := heap_lt hgr
            have k5 := HF.out.bel.size
            obtain ⟨o1, o2, o3⟩ := hnA.lo
            obtain ⟨q1, q2, q3⟩ := hnA.ne
            refine ⟨⟨R, J, g, w3.heap.size, C, fun _ => none⟩, w3.heap.size + 1, rfl, ⟨hnA.bel, ⟨o1, o2, by dsimp only; omega, by dsimp only; omega, o3⟩, ⟨⟨q1, by dsimp only; omega, by dsimp only; omega, q2⟩, ⟨by dsimp only; omega, by dsimp only; omega, q3⟩, ⟨by dsimp only; omega, by dsimp only; omega⟩, by dsimp only; omega⟩, hnA.hR, hnA.hJ, ?_, ?_, hnA.hC, ⟨by simp [x0], by simp [x0], by simp [x0], rfl, rfl⟩, fun k o hk => by cases hk⟩, ⟨⟨by dsimp only; omega, by dsimp only; omega, by dsimp only; omega, by dsimp only; omega, by dsimp only; omega⟩, by omega, rfl, rfl⟩⟩
            · rw [(below_new _ _).block g (by simp; omega), Below.heap_setCell _ _ _ _ (by dsimp only; omega), Below.heap_setCell _ _ _ _ (by dsimp only; omega), hgr]
              simp [x0, inV]
            · have e9 := heap_alloc_new ((w3.setCell ⟨R, 1, none⟩ (.slice (some ⟨g, 0, none⟩) l.length l.length)).setCell ⟨R, 2, none⟩ (.slice (some ⟨w3.heap.size, 0, none⟩) l.length l.length)) (.cells (Array.replicate l.length (.int .i64 0)) 3)
              have e8 : ((w3.setCell ⟨R, 1, none⟩ (.slice (some ⟨g, 0, none⟩) l.length l.length)).setCell ⟨R, 2, none⟩ (.slice (some ⟨w3.heap.size, 0, none⟩) l.length l.length)).heap.size = w3.heap.size := by simp
              rw [e8] at e9
              rw [e9]
              simp [x0, inV]
end Go.Proofs.Ytcmoehednkaehah
