import Derived.Test.YtcmoehednkaehahPB
import Derived.Test.YtcmoehednkaehahOY
import Derived.Test.YtcmoehednkaehahLJ
import Derived.Test.YtcmoehednkaehahLG
import Derived.Test.YtcmoehednkaehahLT
namespace Go.Proofs.Ytcmoehednkaehah
open Go.ChangeShapes Go.WideShapes Go.ChangeAt Go.RowKit

theorem lkOne_core {x y : Lj} (h : x.core = y.core) : lkOne x = lkOne y := by
  obtain ⟨xa, xp, xacts, xv⟩ := x
  obtain ⟨ya, yp, yacts, yv⟩ := y
  simp only [Lj.core, Prod.mk.injEq] at h
  obtain ⟨rfl, rfl, rfl⟩ := h
  rfl

theorem chkL_core : ∀ (a b : List Lj) (k : Nat), a.map Lj.core = b.map Lj.core → chkL a k = chkL b k
  | [], [], _, _ => rfl
  | [], _ :: _, _, h => by simp at h
  | _ :: _, [], _, h => by simp at h
  | x :: r, y :: s, k, h => by
    simp only [List.map_cons, List.cons.injEq] at h
    rw [chkL, chkL, lkOne_core h.1, chkL_core r s (k + 1) h.2]

theorem chkLk_core {a b : List Lj} (h : a.map Lj.core = b.map Lj.core) : chkLk a = chkLk b := by
  have hl : a.length = b.length := by simpa using congrArg List.length h
  unfold chkLk
  rw [hl, chkL_core a b 0 h]

theorem mostF_core (p : Int) : ∀ (a b : List Lj), a.map Lj.core = b.map Lj.core → mostF p a = mostF p b
  | [], [], _ => rfl
  | [], _ :: _, h => by simp at h
  | _ :: _, [], h => by simp at h
  | x :: r, y :: s, h => by
    simp only [List.map_cons, List.cons.injEq] at h
    obtain ⟨xa, xp, xacts, xv⟩ := x
    obtain ⟨ya, yp, yacts, yv⟩ := y
    obtain ⟨h1, h2⟩ := h
    simp only [Lj.core, Prod.mk.injEq] at h1
    obtain ⟨rfl, rfl, rfl⟩ := h1
    rw [mostF, mostF, mostF_core p r s h2]

theorem core_at {a b : List Lj} (h : a.map Lj.core = b.map Lj.core) {i : Nat} {x : Lj} (hx : b[i]? = some x) : ∃ y, a[i]? = some y ∧ y.a = x.a ∧ y.p = x.p ∧ y.acts = x.acts := by
  have h1 : (a.map Lj.core)[i]? = (b.map Lj.core)[i]? := by rw [h]
  rw [List.getElem?_map, List.getElem?_map, hx] at h1
  cases ha : a[i]? with
  | none => rw [ha] at h1; simp at h1
  | some y =>
    rw [ha] at h1
    simp [Lj.core] at h1
    exact ⟨y, rfl, h1.1, h1.2.1, h1.2.2⟩

theorem hc_core {a b : List Lj} (h : a.map Lj.core = b.map Lj.core) (p r : Int) : hc a p r = hc b p r := by
  unfold hc
  split
  · cases hb : b[r.toNat]? with
    | none =>
      have hl : a.length = b.length := by simpa using congrArg List.length h
      rw [List.getElem?_eq_none (by have := List.getElem?_eq_none_iff.1 hb; omega)]
    | some x =>
      obtain ⟨y, hy, -, hp, -⟩ := core_at h hb
      rw [hy]
      dsimp only
      rw [hp]
  · rfl

theorem heldF_core {a b : List Lj} (h : a.map Lj.core = b.map Lj.core) (runs : List Int) (p : Int) (s e : Nat) : heldF a runs p s e = heldF b runs p s e := by
  unfold heldF
  congr 1
  exact List.map_congr_left (fun r _ => hc_core h p r)

theorem heldF_next {l : List Lj} {runs : List Int} {p r : Int} {a t : Nat} (ha : a ≤ t) (hr : runs[t]? = some r) : heldF l runs p a (t + 1) = heldF l runs p a t + hc l p r := by
  have ht := (List.getElem?_eq_some_iff.1 hr).1
  unfold heldF
  rw [List.take_add_one, hr, List.drop_append_of_le_length (by simp; omega)]
  simp

theorem mostF_drop {l : List Lj} {k : Nat} {x : Lj} (h : l[k]? = some x) (p : Int) : mostF p (l.drop k) = max (if x.p < p then longF x.acts else 0) (mostF p (l.drop (k + 1))) := by
  rw [List.drop_eq_getElem_cons (List.getElem?_eq_some_iff.1 h).1, (List.getElem?_eq_some_iff.1 h).2, mostF]

theorem Play_endsD {w : World} {g h : Nat} {a1 a2 a3 a4 c k : Value} {a : Act} (hg : w.heap[g]? = some (.cells #[a1, a2, a3, a4] 37 (0, 0))) (hh : w.heap[h]? = some (.cells #[c, k] 31 (0, 0))) (h3 : a.tmps[6]?.getD undef = .pointer (some ⟨g, 0, none⟩)) (h4 : a.tmps[7]?.getD undef = .pointer (some ⟨h, 0, none⟩)) :
    (results Try.f9 a.tmps).run Try.prog w.drew = .ok (.tuple #[.agg #[a1, a2, a3, a4], .agg #[c, k]]) w.drew := Play_ends (w := w.drew) hg hh h3 h4

theorem play_store2 {W5 : World} {s : Nat} {x1 x2 x3 x4 y1 y2 : Value} (a1 a2 a3 a4 b1 b2 : Value) (h6 : W5.heap[s]? = some (.cells #[x1, x2, x3, x4] 37 (0, 0))) (h7 : W5.heap[s + 1]? = some (.cells #[y1, y2] 31 (0, 0))) :
    let W' := (((((W5.setCell ⟨s, 0, none⟩ a1).setCell ⟨s, 1, none⟩ a2).setCell ⟨s, 2, none⟩ a3).setCell ⟨s, 3, none⟩ a4).setCell ⟨s + 1, 0, none⟩ b1).setCell ⟨s + 1, 1, none⟩ b2
    W'.heap[s]? = some (.cells #[a1, a2, a3, a4] 37 (0, 0)) ∧ W'.heap[s + 1]? = some (.cells #[b1, b2] 31 (0, 0)) ∧ Below s W5 W' := by
  intro W'
  have e1 : ∀ k, k ≠ s → ((((W5.setCell ⟨s, 0, none⟩ a1).setCell ⟨s, 1, none⟩ a2).setCell ⟨s, 2, none⟩ a3).setCell ⟨s, 3, none⟩ a4).heap[k]? = W5.heap[k]? := fun k hk => by
    rw [Below.heap_setCell _ _ _ _ hk, Below.heap_setCell _ _ _ _ hk, Below.heap_setCell _ _ _ _ hk, Below.heap_setCell _ _ _ _ hk]
  have e2 : ∀ k, k ≠ s + 1 → W'.heap[k]? = ((((W5.setCell ⟨s, 0, none⟩ a1).setCell ⟨s, 1, none⟩ a2).setCell ⟨s, 2, none⟩ a3).setCell ⟨s, 3, none⟩ a4).heap[k]? := fun k hk => by
    rw [Below.heap_setCell _ _ _ _ hk, Below.heap_setCell _ _ _ _ hk]
  refine ⟨?_, ?_, ?_⟩
  · rw [e2 s (by omega), setCell_at (setCell_at (setCell_at (setCell_at h6)))]
    rfl
  · exact set_two ((e1 (s + 1) (by omega)).trans h7)
  · exact ((((((Below.refl s W5).setCell (Nat.le_refl _) _).setCell (Nat.le_refl _) _).setCell (Nat.le_refl _) _).setCell (Nat.le_refl _) _).setCell (Nat.le_succ _) _).setCell (Nat.le_succ _) _

set_option maxRecDepth 20000 in
set_option maxHeartbeats 2000000 in
theorem Play_bad (w : World) (l : List Lj) (v : Value) (hv : LkSl w l v) (h0 : (chkLk l).1 ≠ 0) (U : Int) :
    Calls Try.prog 9 #[v, .int .i64 3, .int .i64 U] w fun r w' => r = .returned (.tuple #[.agg #[.slice none 0 0, .slice none 0 0, .slice none 0 0, .bool false], .agg #[.int .i64 (chkLk l).1, .int .i64 (chkLk l).2]]) ∧ Below w.heap.size w w' := by
  have HC0 := checkJobs_any ((w.alloc (.cells #[.slice none 0 0, .slice none 0 0, .slice none 0 0, .bool false] 37)).alloc (.cells #[.int .i64 0, .int .i64 0] 31)) l v (hv.below (below_seq (below_new _ _) (below_new _ _)))
  generalize (chkLk l).1 = z1 at *
  generalize (chkLk l).2 = z2 at *
  have h0' : (z1 != 0) = true := by simpa using h0
  clear hv
  go_enter Try.func9, Try.ntmps9
  go_wp2_with (go_at_call 19; refine HC0.mono ?_; rintro r w1 ⟨rfl, hb1⟩; have H1 : Hid (Below ((w.alloc (.cells #[.slice none 0 0, .slice none 0 0, .slice none 0 0, .bool false] 37)).alloc (.cells #[.int .i64 0, .int .i64 0] 31)).heap.size ((w.alloc (.cells #[.slice none 0 0, .slice none 0 0, .slice none 0 0, .bool false] 37)).alloc (.cells #[.int .i64 0, .int .i64 0] 31)) w1) := hb1; clear hb1 HC0)
  obtain ⟨Wn, hWn⟩ : ∃ Wn, w1.alloc (.cells #[.int .i64 z1, .int .i64 z2] 31) = Wn := ⟨_, rfl⟩
  rw [hWn]
  have hs1 : w.heap.size + 2 ≤ w1.heap.size := by have := H1.out.size; simp at this; omega
  have q6 : Wn.heap[w.heap.size]? = some (.cells #[.slice none 0 0, .slice none 0 0, .slice none 0 0, .bool false] 37 (0, 0)) := by
    rw [← hWn, (below_new w1 _).block _ (by omega), H1.out.block _ (by simp <;> omega), (below_new _ _).block _ (by simp <;> omega)]
    exact heap_alloc_new w _
  have q7 : Wn.heap[w.heap.size + 1]? = some (.cells #[.int .i64 0, .int .i64 0] 31 (0, 0)) := by
    rw [← hWn, (below_new w1 _).block _ (by omega), H1.out.block _ (by simp <;> omega)]
    have := heap_alloc_new (w.alloc (.cells #[.slice none 0 0, .slice none 0 0, .slice none 0 0, .bool false] 37)) (.cells #[.int .i64 0, .int .i64 0] 31)
    simpa using this
  have q8 : Wn.heap[w1.heap.size]? = some (.cells #[.int .i64 z1, .int .i64 z2] 31 (0, 0)) := by rw [← hWn]; exact heap_alloc_new _ _
  have HQ : Hid (Below w.heap.size w Wn ∧ Wn.heap[w.heap.size]? = some (.cells #[.slice none 0 0, .slice none 0 0, .slice none 0 0, .bool false] 37 (0, 0)) ∧ Wn.heap[w.heap.size + 1]? = some (.cells #[.int .i64 0, .int .i64 0] 31 (0, 0))) := by
    refine ⟨?_, q6, q7⟩
    rw [← hWn]
    exact below_seq (below_seq (below_seq (below_new _ _) (below_new _ _)) H1.out) (below_new _ _)
  obtain ⟨xc, xf, xl⟩ := cells_of (l := [_, _, _, _]) q6
  obtain ⟨yc, yf, yl⟩ := cells_of (l := [_, _]) q7
  obtain ⟨zc, -, zl⟩ := cells_of (l := [_, _]) q8
  have x0' := xc 0 _ rfl
  have x1' := xc 1 _ rfl
  have x2' := xc 2 _ rfl
  have x3' := xc 3 _ rfl
  have y0' := yc 0 _ rfl
  have y1' := yc 1 _ rfl
  have z0' := zc 0 _ rfl
  have z1' := zc 1 _ rfl
  have xf0 := xf 0
  have xf1 := xf 1
  have xf2 := xf 2
  have xf3 := xf 3
  have yf0 := yf 0
  have yf1 := yf 1
  have n1 : ¬ (w1.heap.size = w.heap.size) := by omega
  have n2 : ¬ (w1.heap.size = w.heap.size + 1) := by omega
  clear hWn H1 xc xf yc yf zc q6 q7 q8
  refine wp_region_noPanic ?_
  refine wp_region_held_drew (S := fun w' => w'.cell? ⟨w1.heap.size, 0, none⟩ = some (.int .i64 z1) ∧ w'.cell? ⟨w1.heap.size, 1, none⟩ = some (.int .i64 z2)) (by kernel_rfl) (by refine ⟨?_, ?_⟩ <;> go_simp) (fun hHeld => ?_)
  refine take_at (i := 0) (n := 17) (v := ?_) rfl rfl (by kernel_rfl) (by kernel_rfl) (by kernel_rfl) (fun _ _ _ h => h) (Or.inl ⟨by rfl, ?_⟩) (by assumption) ?_
  rotate_left 1
  · intro wz hSw
    obtain ⟨s0, s1⟩ := hSw
    first | (go_simp; done) | (go_simp; with_reducible rfl)
  simp only [List.set_cons_zero, List.set_cons_succ]
  refine take_at (i := 1) (n := 18) (v := ?_) rfl rfl (by kernel_rfl) (by kernel_rfl) (by kernel_rfl) (fun _ _ _ h => h) (Or.inl ⟨by rfl, ?_⟩) (by assumption) ?_
  rotate_left 1
  · intro wz hSw
    obtain ⟨s0, s1⟩ := hSw
    first | (go_simp; done) | (go_simp; with_reducible rfl)
  simp only [List.set_cons_zero, List.set_cons_succ]
  refine wpAnyH_ready (rs := [2]) (by kernel_rfl) (by simp) ?_
  refine AllReadyH.cons rfl (fun K hK => ?_) AllReadyH.nil
  go_simp
  refine hK.out _ _ (by refine ⟨?_, ?_⟩ <;> go_simp) (fun hHeld => ?_)
  clear hK K
  refine wpAnyH_ready (rs := [3]) (by kernel_rfl) (by simp) ?_
  refine AllReadyH.cons rfl (fun K hK => ?_) AllReadyH.nil
  go_simp
  refine hK.out _ _ (by refine ⟨?_, ?_⟩ <;> go_simp) (fun hHeld => ?_)
  clear hK K
  refine wpAnyH_done (by kernel_rfl) ?_ _
  refine NoPanic.normal ?_
  go_wp2_with fail
  obtain ⟨s6, s7, sb⟩ := play_store2 (W5 := Wn) (s := w.heap.size) (.slice none 0 0) (.slice none 0 0) (.slice none 0 0) (.bool false) (.int .i64 z1) (.int .i64 z2) HQ.out.2.1 HQ.out.2.2
  refine bodyPost_ret (Play_endsD s6 s7 rfl rfl) rfl ?_
  exact ⟨rfl, (HQ.out.1.trans sb).drew⟩

set_option maxRecDepth 20000 in
set_option maxHeartbeats 2000000 in
theorem Play_range (w : World) (l : List Lj) (v : Value) (hv : LkSl w l v) (h0 : chkLk l = (0, 0)) (U : Int) (hU : within U 0 20000 = false) :
    Calls Try.prog 9 #[v, .int .i64 3, .int .i64 U] w fun r w' => r = .returned (.tuple #[.agg #[.slice none 0 0, .slice none 0 0, .slice none 0 0, .bool false], .agg #[.int .i64 3, .int .i64 0]]) ∧ Below w.heap.size w w' := by
  have HC0 := checkJobs_any ((w.alloc (.cells #[.slice none 0 0, .slice none 0 0, .slice none 0 0, .bool false] 37)).alloc (.cells #[.int .i64 0, .int .i64 0] 31)) l v (hv.below (below_seq (below_new _ _) (below_new _ _)))
  rw [h0] at HC0
  clear hv h0
  go_enter Try.func9, Try.ntmps9
  go_wp2_with (go_at_call 19; refine HC0.mono ?_; rintro r w1 ⟨rfl, hb1⟩; have H1 : Hid (Below ((w.alloc (.cells #[.slice none 0 0, .slice none 0 0, .slice none 0 0, .bool false] 37)).alloc (.cells #[.int .i64 0, .int .i64 0] 31)).heap.size ((w.alloc (.cells #[.slice none 0 0, .slice none 0 0, .slice none 0 0, .bool false] 37)).alloc (.cells #[.int .i64 0, .int .i64 0] 31)) w1) := hb1; clear hb1 HC0)
  obtain ⟨Wn, hWn⟩ : ∃ Wn, w1.alloc (.cells #[.int .i64 0, .int .i64 0] 31) = Wn := ⟨_, rfl⟩
  rw [hWn]
  have hs1 : w.heap.size + 2 ≤ w1.heap.size := by have := H1.out.size; simp at this; omega
  have q6 : Wn.heap[w.heap.size]? = some (.cells #[.slice none 0 0, .slice none 0 0, .slice none 0 0, .bool false] 37 (0, 0)) := by
    rw [← hWn, (below_new w1 _).block _ (by omega), H1.out.block _ (by simp <;> omega), (below_new _ _).block _ (by simp <;> omega)]
    exact heap_alloc_new w _
  have q7 : Wn.heap[w.heap.size + 1]? = some (.cells #[.int .i64 0, .int .i64 0] 31 (0, 0)) := by
    rw [← hWn, (below_new w1 _).block _ (by omega), H1.out.block _ (by simp <;> omega)]
    have := heap_alloc_new (w.alloc (.cells #[.slice none 0 0, .slice none 0 0, .slice none 0 0, .bool false] 37)) (.cells #[.int .i64 0, .int .i64 0] 31)
    simpa using this
  have q8 : Wn.heap[w1.heap.size]? = some (.cells #[.int .i64 0, .int .i64 0] 31 (0, 0)) := by rw [← hWn]; exact heap_alloc_new _ _
  have HQ : Hid (Below w.heap.size w Wn ∧ Wn.heap[w.heap.size]? = some (.cells #[.slice none 0 0, .slice none 0 0, .slice none 0 0, .bool false] 37 (0, 0)) ∧ Wn.heap[w.heap.size + 1]? = some (.cells #[.int .i64 0, .int .i64 0] 31 (0, 0))) := by
    refine ⟨?_, q6, q7⟩
    rw [← hWn]
    exact below_seq (below_seq (below_seq (below_new _ _) (below_new _ _)) H1.out) (below_new _ _)
  obtain ⟨xc, xf, xl⟩ := cells_of (l := [_, _, _, _]) q6
  obtain ⟨yc, yf, yl⟩ := cells_of (l := [_, _]) q7
  obtain ⟨zc, -, zl⟩ := cells_of (l := [_, _]) q8
  have x0' := xc 0 _ rfl
  have x1' := xc 1 _ rfl
  have x2' := xc 2 _ rfl
  have x3' := xc 3 _ rfl
  have y0' := yc 0 _ rfl
  have y1' := yc 1 _ rfl
  have z0' := zc 0 _ rfl
  have z1' := zc 1 _ rfl
  have xf0 := xf 0
  have xf1 := xf 1
  have xf2 := xf 2
  have xf3 := xf 3
  have yf0 := yf 0
  have yf1 := yf 1
  have n1 : ¬ (w1.heap.size = w.heap.size) := by omega
  have n2 : ¬ (w1.heap.size = w.heap.size + 1) := by omega
  clear hWn H1 xc xf yc yf zc q6 q7 q8
  go_wp2_with (go_at_call 20; refine (within_any _ _ _ _).mono ?_; rintro r w2 ⟨rfl, rfl⟩; rw [hU])
  obtain ⟨s6, s7, sb⟩ := play_store2 (W5 := w2) (s := w.heap.size) (.slice none 0 0) (.slice none 0 0) (.slice none 0 0) (.bool false) (.int .i64 3) (.int .i64 0) HQ.out.2.1 HQ.out.2.2
  refine bodyPost_ret (Play_ends s6 s7 rfl rfl) rfl ?_
  exact ⟨rfl, HQ.out.1.trans sb⟩
end Go.Proofs.Ytcmoehednkaehah
