import Derived.Test.YtcgncdpohaoejafDoorRA
namespace Go.Proofs.YtcgncdpohaoejafDoor
open Go.ChangeShapes Go.WideShapes Go.ChangeAt Go.RowKit

theorem r_free {w : World} {B g n m cap size q : Nat} {e : TypeId} {xs : List Value} (h : w.ownsRow B e size (.slice (some ⟨g, 0, none⟩) m cap) n xs) : w.frozen? ⟨g, q, none⟩ = false := by
  obtain ⟨hl, ⟨h, -⟩ | ⟨g', cap', cur, he, hB2, hg, hr⟩⟩ := h
  · cases h
  · cases he
    unfold World.frozen?
    rw [hg]
    simp

theorem r_lt {w : World} {B g n m cap size : Nat} {e : TypeId} {xs : List Value} (h : w.ownsRow B e size (.slice (some ⟨g, 0, none⟩) m cap) n xs) : g < w.heap.size := by
  obtain ⟨hl, ⟨h, -⟩ | ⟨g', cap', cur, he, hB2, hg, hr⟩⟩ := h
  · cases h
  · cases he
    exact (Array.getElem?_eq_some_iff.1 hg).1

theorem r_chkFrom_zero {l : List Ta} : ∀ (r : List Ta) (k : Nat), (chkFrom l r k).1 = 0 → chkFrom l r k = (0, 0)
  | [], _, _ => rfl
  | x :: r, k, h => by
    rw [chkFrom] at h ⊢
    by_cases h0 : wrongF x (l.take k) = 0
    · rw [if_pos h0] at h ⊢
      exact r_chkFrom_zero r _ h
    · rw [if_neg h0] at h
      exact absurd h h0

theorem chkF_zero {l : List Ta} (h : (chkF l).1 = 0) : chkF l = (0, 0) := by
  unfold chkF at h ⊢
  by_cases h0 : l.length = 0 ∨ 8 < l.length
  · rw [if_pos h0] at h; cases h
  · rw [if_neg h0] at h ⊢
    exact r_chkFrom_zero _ _ h

theorem r_mono {w : World} {B B' n size : Nat} {e : TypeId} {v : Value} {xs : List Value} (h : w.ownsRow B e size v n xs) (hB : B' ≤ B) : w.ownsRow B' e size v n xs := by
  obtain ⟨hl, h | ⟨g, cap, cur, he, hB2, hr⟩⟩ := h
  · exact ⟨hl, .inl h⟩
  · exact ⟨hl, .inr ⟨g, cap, cur, he, by omega, hr⟩⟩

theorem r_low {w : World} {B g n m cap size : Nat} {e : TypeId} {xs : List Value} (h : w.ownsRow B e size (.slice (some ⟨g, 0, none⟩) m cap) n xs) : B ≤ g := by
  obtain ⟨hl, ⟨h, -⟩ | ⟨g', cap', cur, he, hB2, hr⟩⟩ := h
  · cases h
  · cases he; exact hB2

theorem r_row {w : World} {B g n cap : Nat} {m : List Ta} (h : w.ownsRow B 30 7 (.slice (some ⟨g, 0, none⟩) n cap) n (m.flatMap Ta.vals)) (hn : m.length = n) : RowSl Ta.vals w m (.slice (some ⟨g, 0, none⟩) n cap) := by
  subst hn
  have h' := h
  obtain ⟨h1, ⟨h2, -⟩ | ⟨g', cap', cur, e1, hB, hg, hc, hm, hs, ht⟩⟩ := h
  · cases h2
  · cases e1
    refine ⟨_, cap, rfl, (fun e => by cases e), hc, .inr ⟨g, 0, rfl, fun q u hq => ?_⟩⟩
    have hql := (List.getElem?_eq_some_iff.1 hq).1
    rw [flat_length Ta.vals 7 Ta.len] at hql
    rw [Nat.zero_add]
    exact (h'.cellAt q (by omega)).trans hq

theorem r_keep2 {W : World} {m : List Ta} {g n cap k : Nat} {a b : Value} (h : RowSl Ta.vals W m (.slice (some ⟨g, 0, none⟩) n cap)) (hk : g ≠ k) : RowSl Ta.vals ((W.setCell ⟨k, 0, none⟩ a).setCell ⟨k, 1, none⟩ b) m (.slice (some ⟨g, 0, none⟩) n cap) := by
  obtain ⟨ad, c, e, h1, h2, h3⟩ := h
  cases e
  refine ⟨_, cap, rfl, h1, h2, h3.imp id ?_⟩
  rintro ⟨b', o', e', h⟩
  cases e'
  refine ⟨g, 0, rfl, fun q u hq => ?_⟩
  exact (World.cell?_of_block (w := W) (a := ⟨g, 0 + q, none⟩) (by rw [Below.heap_setCell _ _ _ _ hk, Below.heap_setCell _ _ _ _ hk])).trans (h q u hq)

set_option maxRecDepth 20000 in
set_option maxHeartbeats 8000000 in
theorem Ranked9_good (w : World) (l : List Ta) (v : Value) (hS : ∀ x ∈ l, x.nm.size ≤ 9223372036854775807) (h0 : (chkF l).1 = 0) (hv : RowSl Ta.vals w l v) : Calls Tryd.prog 8 #[v, .func (Fn.func 9) #[] #[]] w fun r w' => ∃ u, r = .returned (.tuple #[u, .agg #[.int .i64 0, .int .i64 0]]) ∧ RowSl Ta.vals w' (rkL (fun x : Ta => x.t) l l.length) u ∧ Below w.heap.size w w' := by
  have HF : Hid (FB w (w.alloc (.cells #[.int .i64 0, .int .i64 0] 26)) w.heap.size) := FB.start w
  have HC := CheckSet_any (w.alloc (.cells #[.int .i64 0, .int .i64 0] 26)) l v hS (hv.below (below_new _ _))
  rw [chkF_zero h0] at HC
  obtain ⟨hl0, hl8, -⟩ := chkF_ok h0
  obtain ⟨ad, c, rfl⟩ := hv.len
  have HV : Hid (RowSl Ta.vals w l (.slice ad l.length c)) := hv
  obtain ⟨_, _, e, -, hcap, hrow⟩ := hv
  cases e
  rcases hrow with hrow | ⟨b, o, rfl, hrow⟩
  · rw [hrow] at hl0; simp at hl0
  have HR : Hid (∀ q u, (l.flatMap Ta.vals)[q]? = some u → w.cell? ⟨b, o + q, none⟩ = some u) := hrow
  have KK := key9_any
  unfold Ta.val at KK
  clear hrow h0 hS
  go_enter Tryd.func8, Tryd.ntmps8
  go_wp2_with (first | (go_at_call 20; refine HC.mono ?_; rintro r w1 ⟨rfl, hb1⟩; have H1 : Hid (FB w w1 w.heap.size) := HF.out.grow hb1; obtain ⟨g, cap, w2, hrun, hown, hb2⟩ := r_copy (w1.alloc (.cells #[.int .i64 0, .int .i64 0] 26)) l (some ⟨b, o, none⟩) c hl0 (by omega) (HV.out.below (below_seq (below_seq (below_new _ _) hb1) (below_new _ _))); rw [show (w1.alloc (.cells #[.int .i64 0, .int .i64 0] 26)).heap.size = w1.heap.size + 1 by simp] at hrun; have H2 : Hid (_ = _) := hrun; have H3 : Hid (FB w w2 w.heap.size ∧ w2.ownsRow (w.heap.size + 1) 30 7 (.slice (some ⟨g, 0, none⟩) l.length cap) l.length (l.flatMap Ta.vals)) := ⟨(H1.out.grow (below_new _ _)).grow hb2, r_mono hown (by have := H1.out.lt; simp; omega)⟩; clear hb1 hb2 hrun hown HC H1) | (at_builtin; refine r_known rfl (.tmp 19) (.tmp 20) 22 rfl rfl rfl H2.out ?_))
  go_loopw [24] (fun vi wr => ∃ i : Nat, i ≤ l.length ∧ vi = .int .i64 i ∧ FB w wr w.heap.size ∧ wr.ownsRow (w.heap.size + 1) 30 7 (.slice (some ⟨g, 0, none⟩) l.length cap) l.length ((rkL (fun x : Ta => x.t) l i).flatMap Ta.vals)) (fun vi _ => l.length - (intOf vi).toNat)
  case atStart => exact ⟨0, Nat.zero_le _, rfl, H3.out.1, by rw [rkL_zero]; exact H3.out.2⟩
  case round =>
    obtain ⟨i, hi, rfl, hf, hown⟩ := hrel
    by_cases hlt : i < l.length
    · have hx := Tk_get hlt
      have ha := ta_at (fun q u hq => below_cell hf.bel (HR.out q u hq)) hx
      obtain ⟨wo, hwo⟩ : ∃ wo, wo = wr := ⟨_, rfl⟩
      subst hwo
      have lb : b < wo.heap.size := World.block_lt_of_cell? _ _ ha.1
      have hii : (i : Int) < (l.length : Int) := by omega
      have HO : Hid (FB w wo w.heap.size ∧ wo.ownsRow (w.heap.size + 1) 30 7 (.slice (some ⟨g, 0, none⟩) l.length cap) l.length ((rkL (fun x : Ta => x.t) l i).flatMap Ta.vals)) := ⟨hf, hown⟩
      have HXd : Hid (Tk l i = Tk l i) := rfl
      generalize hxe : Tk l i = x at ha
      have HX : Hid (Tk l i = x) := hxe
      obtain ⟨xnm, xc, xt, xd, xj, xo, xp⟩ := x
      obtain ⟨c0, c1, c2, c3, c4, c5, c6⟩ := ha
      dsimp only at c0 c1 c2 c3 c4 c5 c6
      clear hf hown hx hxe HXd
      go_wp2_with fail
      go_loopw [10, 31] (fun vp vk wl => ∃ k : Nat, k ≤ l.length ∧ vk = .int .i64 k ∧ vp = .int .i64 (1 + (bhN (fun x : Ta => x.t) l i k : Int)) ∧ Below (wo.heap.size + 1) (wo.alloc (.cells #[.string xnm, .int .i64 xc, .int .i64 xt, .int .i64 xd, .int .i64 xj, .int .i64 xo, .int .i64 xp] 30)) wl) (fun _ vk _ => l.length - (intOf vk).toNat)
      case atStart => exact ⟨0, Nat.zero_le _, rfl, rfl, Below.refl _ _⟩
      case round =>
        obtain ⟨k, hk, rfl, rfl, hbl⟩ := hrel
        obtain ⟨wv, hwv⟩ : ∃ wv, wv = wr := ⟨_, rfl⟩
        subst hwv
        have hbo : Below wo.heap.size wo wv := (below_new wo (.cells #[.string xnm, .int .i64 xc, .int .i64 xt, .int .i64 xd, .int .i64 xj, .int .i64 xo, .int .i64 xp] 30)).trans (hbl.mono (by omega))
        by_cases hkl : k < l.length
        · have hy := Tk_get hkl
          have ha := ta_at (fun q u hq => below_cell (below_seq HO.out.1.bel hbo) (HR.out q u hq)) hy
          have lv : b < wv.heap.size := World.block_lt_of_cell? _ _ ha.1
          have hsz : wo.heap.size + 1 ≤ wv.heap.size := by have := hbl.size; simp at this; omega
          have HL : Hid (Below (wo.heap.size + 1) (wo.alloc (.cells #[.string xnm, .int .i64 xc, .int .i64 xt, .int .i64 xd, .int .i64 xj, .int .i64 xo, .int .i64 xp] 30)) wv ∧ wo.heap.size + 1 ≤ wv.heap.size) := ⟨hbl, hsz⟩
          have hki : (k : Int) < (l.length : Int) := by omega
          have hcnt := bhN_le (fun x : Ta => x.t) l i k
          have hsucc := bhN_succ (fun x : Ta => x.t) l i k
          unfold bhP at hsucc
          rw [HX.out] at hsucc
          generalize hye : Tk l k = y at ha hsucc
          obtain ⟨ynm, yc, yt, yd, yj, yo, yp⟩ := y
          obtain ⟨d0, d1, d2, d3, d4, d5, d6⟩ := ha
          dsimp only at d0 d1 d2 d3 d4 d5 d6 hsucc
          have HSx : Hid (∀ W, Below (wv.heap.size + 1) (wv.alloc (.cells #[.string ynm, .int .i64 yc, .int .i64 yt, .int .i64 yd, .int .i64 yj, .int .i64 yo, .int .i64 yp] 30)) W → W.cell? ⟨wv.heap.size, 0, none⟩ = some (.string ynm) ∧ W.cell? ⟨wv.heap.size, 1, none⟩ = some (.int .i64 yc) ∧ W.cell? ⟨wv.heap.size, 2, none⟩ = some (.int .i64 yt) ∧ W.cell? ⟨wv.heap.size, 3, none⟩ = some (.int .i64 yd) ∧ W.cell? ⟨wv.heap.size, 4, none⟩ = some (.int .i64 yj) ∧ W.cell? ⟨wv.heap.size, 5, none⟩ = some (.int .i64 yo) ∧ W.cell? ⟨wv.heap.size, 6, none⟩ = some (.int .i64 yp) ∧ W.cell? ⟨wo.heap.size, 0, none⟩ = some (.string xnm) ∧ W.cell? ⟨wo.heap.size, 1, none⟩ = some (.int .i64 xc) ∧ W.cell? ⟨wo.heap.size, 2, none⟩ = some (.int .i64 xt) ∧ W.cell? ⟨wo.heap.size, 3, none⟩ = some (.int .i64 xd) ∧ W.cell? ⟨wo.heap.size, 4, none⟩ = some (.int .i64 xj) ∧ W.cell? ⟨wo.heap.size, 5, none⟩ = some (.int .i64 xo) ∧ W.cell? ⟨wo.heap.size, 6, none⟩ = some (.int .i64 xp)) := fun W hb => ⟨(hb.cell (by show wv.heap.size < wv.heap.size + 1; omega)).trans (by go_simp), (hb.cell (by show wv.heap.size < wv.heap.size + 1; omega)).trans (by go_simp), (hb.cell (by show wv.heap.size < wv.heap.size + 1; omega)).trans (by go_simp), (hb.cell (by show wv.heap.size < wv.heap.size + 1; omega)).trans (by go_simp), (hb.cell (by show wv.heap.size < wv.heap.size + 1; omega)).trans (by go_simp), (hb.cell (by show wv.heap.size < wv.heap.size + 1; omega)).trans (by go_simp), (hb.cell (by show wv.heap.size < wv.heap.size + 1; omega)).trans (by go_simp), ((hb.cell (by show wo.heap.size < wv.heap.size + 1; omega)).trans (((below_new wv _).cell (by show wo.heap.size < wv.heap.size; omega)).trans (hbl.cell (by show wo.heap.size < wo.heap.size + 1; omega)))).trans (by go_simp), ((hb.cell (by show wo.heap.size < wv.heap.size + 1; omega)).trans (((below_new wv _).cell (by show wo.heap.size < wv.heap.size; omega)).trans (hbl.cell (by show wo.heap.size < wo.heap.size + 1; omega)))).trans (by go_simp), ((hb.cell (by show wo.heap.size < wv.heap.size + 1; omega)).trans (((below_new wv _).cell (by show wo.heap.size < wv.heap.size; omega)).trans (hbl.cell (by show wo.heap.size < wo.heap.size + 1; omega)))).trans (by go_simp), ((hb.cell (by show wo.heap.size < wv.heap.size + 1; omega)).trans (((below_new wv _).cell (by show wo.heap.size < wv.heap.size; omega)).trans (hbl.cell (by show wo.heap.size < wo.heap.size + 1; omega)))).trans (by go_simp), ((hb.cell (by show wo.heap.size < wv.heap.size + 1; omega)).trans (((below_new wv _).cell (by show wo.heap.size < wv.heap.size; omega)).trans (hbl.cell (by show wo.heap.size < wo.heap.size + 1; omega)))).trans (by go_simp), ((hb.cell (by show wo.heap.size < wv.heap.size + 1; omega)).trans (((below_new wv _).cell (by show wo.heap.size < wv.heap.size; omega)).trans (hbl.cell (by show wo.heap.size < wo.heap.size + 1; omega)))).trans (by go_simp), ((hb.cell (by show wo.heap.size < wv.heap.size + 1; omega)).trans (((below_new wv _).cell (by show wo.heap.size < wv.heap.size; omega)).trans (hbl.cell (by show wo.heap.size < wo.heap.size + 1; omega)))).trans (by go_simp)⟩
          have Kx := fun W => KK W ⟨xnm, xc, xt, xd, xj, xo, xp⟩
          have Ky := fun W => KK W ⟨ynm, yc, yt, yd, yj, yo, yp⟩
          dsimp only at Kx Ky
          generalize hn : bhN (fun x : Ta => x.t) l i k = cn at *
          clear hy hye hbl hbo hn
          by_cases hgt : xt < yt
          · rw [if_pos (by simp; omega)] at hsucc
            have HN : Hid (bhN (fun x : Ta => x.t) l i (k + 1) = cn + 1) := hsucc
            clear hsucc
            go_wp2_with fail
            obtain ⟨wV, hwV⟩ : ∃ x, x = wv.alloc (.cells #[.string ynm, .int .i64 yc, .int .i64 yt, .int .i64 yd, .int .i64 yj, .int .i64 yo, .int .i64 yp] 30) := ⟨_, rfl⟩
            have HS : Hid (∀ W, Below wV.heap.size wV W → W.cell? ⟨wv.heap.size, 0, none⟩ = some (.string ynm) ∧ W.cell? ⟨wv.heap.size, 1, none⟩ = some (.int .i64 yc) ∧ W.cell? ⟨wv.heap.size, 2, none⟩ = some (.int .i64 yt) ∧ W.cell? ⟨wv.heap.size, 3, none⟩ = some (.int .i64 yd) ∧ W.cell? ⟨wv.heap.size, 4, none⟩ = some (.int .i64 yj) ∧ W.cell? ⟨wv.heap.size, 5, none⟩ = some (.int .i64 yo) ∧ W.cell? ⟨wv.heap.size, 6, none⟩ = some (.int .i64 yp) ∧ W.cell? ⟨wo.heap.size, 0, none⟩ = some (.string xnm) ∧ W.cell? ⟨wo.heap.size, 1, none⟩ = some (.int .i64 xc) ∧ W.cell? ⟨wo.heap.size, 2, none⟩ = some (.int .i64 xt) ∧ W.cell? ⟨wo.heap.size, 3, none⟩ = some (.int .i64 xd) ∧ W.cell? ⟨wo.heap.size, 4, none⟩ = some (.int .i64 xj) ∧ W.cell? ⟨wo.heap.size, 5, none⟩ = some (.int .i64 xo) ∧ W.cell? ⟨wo.heap.size, 6, none⟩ = some (.int .i64 xp)) := fun W hb => HSx.out W (by rw [hwV] at hb; simpa using hb)
            have HBV : Hid (Below wv.heap.size wv wV) := by
              show Below _ _ _
              rw [hwV]
              exact below_new _ _
            rw [← hwV]
            clear hwV HSx
            refine wp_region_noPanic ?_
            refine wp_region_held_drew (S := fun w' => w'.cell? ⟨wv.heap.size, 0, none⟩ = some (.string ynm) ∧ w'.cell? ⟨wv.heap.size, 1, none⟩ = some (.int .i64 yc) ∧ w'.cell? ⟨wv.heap.size, 2, none⟩ = some (.int .i64 yt) ∧ w'.cell? ⟨wv.heap.size, 3, none⟩ = some (.int .i64 yd) ∧ w'.cell? ⟨wv.heap.size, 4, none⟩ = some (.int .i64 yj) ∧ w'.cell? ⟨wv.heap.size, 5, none⟩ = some (.int .i64 yo) ∧ w'.cell? ⟨wv.heap.size, 6, none⟩ = some (.int .i64 yp) ∧ w'.cell? ⟨wo.heap.size, 0, none⟩ = some (.string xnm) ∧ w'.cell? ⟨wo.heap.size, 1, none⟩ = some (.int .i64 xc) ∧ w'.cell? ⟨wo.heap.size, 2, none⟩ = some (.int .i64 xt) ∧ w'.cell? ⟨wo.heap.size, 3, none⟩ = some (.int .i64 xd) ∧ w'.cell? ⟨wo.heap.size, 4, none⟩ = some (.int .i64 xj) ∧ w'.cell? ⟨wo.heap.size, 5, none⟩ = some (.int .i64 xo) ∧ w'.cell? ⟨wo.heap.size, 6, none⟩ = some (.int .i64 xp)) (by kernel_rfl) (HS.out _ (Below.refl _ _).drew) (fun hHeld => ?_)
            refine take_at (i := 0) (n := 36) (v := ?_) rfl rfl (by kernel_rfl) (by kernel_rfl) (by kernel_rfl) (fun _ _ _ h => h) (Or.inl ⟨by rfl, ?_⟩) (by assumption) ?_
            rotate_left 1
            · intro wz hSw
              obtain ⟨s0, s1, s2, s3, s4, s5, s6, s7, s8, s9, s10, s11, s12, s13⟩ := hSw
              first | (go_simp; done) | (go_simp; with_reducible rfl)
            simp only [List.set_cons_zero, List.set_cons_succ]
            refine take_at (i := 1) (n := 37) (v := ?_) rfl rfl (by kernel_rfl) (by kernel_rfl) (by kernel_rfl) (fun _ _ _ h => h) (Or.inl ⟨by rfl, ?_⟩) (by assumption) ?_
            rotate_left 1
            · intro wz hSw
              obtain ⟨s0, s1, s2, s3, s4, s5, s6, s7, s8, s9, s10, s11, s12, s13⟩ := hSw
              first | (go_simp; done) | (go_simp; with_reducible rfl)
            simp only [List.set_cons_zero, List.set_cons_succ]
            refine take_at (i := 3) (n := 39) (v := ?_) rfl rfl (by kernel_rfl) (by kernel_rfl) (by kernel_rfl) (fun _ _ _ h => h) (Or.inl ⟨by rfl, ?_⟩) (by assumption) ?_
            rotate_left 1
            · intro wz hSw
              obtain ⟨s0, s1, s2, s3, s4, s5, s6, s7, s8, s9, s10, s11, s12, s13⟩ := hSw
              first | (go_simp; done) | (go_simp; with_reducible rfl)
            simp only [List.set_cons_zero, List.set_cons_succ]
            refine take_at (i := 4) (n := 40) (v := ?_) rfl rfl (by kernel_rfl) (by kernel_rfl) (by kernel_rfl) (fun _ _ _ h => h) (Or.inl ⟨by rfl, ?_⟩) (by assumption) ?_
            rotate_left 1
            · intro wz hSw
              obtain ⟨s0, s1, s2, s3, s4, s5, s6, s7, s8, s9, s10, s11, s12, s13⟩ := hSw
              first | (go_simp; done) | (go_simp; with_reducible rfl)
            simp only [List.set_cons_zero, List.set_cons_succ]
            refine wpAnyH_ready (rs := [2]) (by kernel_rfl) (by simp) ?_
            refine AllReadyH.cons rfl (fun K hK => ?_) AllReadyH.nil
            go_wp2_with (go_at_call 9; refine (Ky _).mono ?_; rintro r w11 ⟨rfl, hbw11⟩)
            have Hw11 : Hid (Below wV.heap.size wV w11) := below_seq (Below.refl _ _).drew hbw11
            refine hK.out _ _ (HS.out _ Hw11.out) (fun hHeld => ?_)
            clear hK K hbw11
            refine wpAnyH_ready (rs := [5]) (by kernel_rfl) (by simp) ?_
            refine AllReadyH.cons rfl (fun K hK => ?_) AllReadyH.nil
            go_simp
            go_wp2_with (go_at_call 9; refine (Kx _).mono ?_; rintro r w12 ⟨rfl, hbw12⟩)
            have Hw12 : Hid (Below wV.heap.size wV w12) := below_seq Hw11.out hbw12
            refine hK.out _ _ (HS.out _ Hw12.out) (fun hHeld => ?_)
            clear hK K hbw12
            refine take_at (i := 6) (n := 42) (v := ?_) rfl rfl (by kernel_rfl) (by kernel_rfl) (by kernel_rfl) (fun _ _ _ h => h) (Or.inl ⟨by rfl, ?_⟩) (by assumption) ?_
            rotate_left 1
            · intro wz hSw
              obtain ⟨s0, s1, s2, s3, s4, s5, s6, s7, s8, s9, s10, s11, s12, s13⟩ := hSw
              first | (go_simp; done) | (go_simp; with_reducible rfl)
            simp only [List.set_cons_zero, List.set_cons_succ]
            refine take_at (i := 7) (n := 43) (v := ?_) rfl rfl (by kernel_rfl) (by kernel_rfl) (by kernel_rfl) (fun _ _ _ h => h) (Or.inl ⟨by rfl, ?_⟩) (by assumption) ?_
            rotate_left 1
            · intro wz hSw
              obtain ⟨s0, s1, s2, s3, s4, s5, s6, s7, s8, s9, s10, s11, s12, s13⟩ := hSw
              first | (go_simp; done) | (go_simp; with_reducible rfl)
            simp only [List.set_cons_zero, List.set_cons_succ]
            refine take_at (i := 8) (n := 44) (v := undef) rfl rfl (by kernel_rfl) (by kernel_rfl) (by kernel_rfl) (fun _ _ _ h => h) (Or.inr ⟨by rfl, rfl⟩) (by assumption) ?_
            simp only [List.set_cons_zero, List.set_cons_succ]
            refine take_at (i := 9) (n := 45) (v := undef) rfl rfl (by kernel_rfl) (by kernel_rfl) (by kernel_rfl) (fun _ _ _ h => h) (Or.inr ⟨by rfl, rfl⟩) (by assumption) ?_
            simp only [List.set_cons_zero, List.set_cons_succ]
            refine take_at (i := 10) (n := 46) (v := undef) rfl rfl (by kernel_rfl) (by kernel_rfl) (by kernel_rfl) (fun _ _ _ h => h) (Or.inr ⟨by rfl, rfl⟩) (by assumption) ?_
            simp only [List.set_cons_zero, List.set_cons_succ]
            refine take_at (i := 11) (n := 47) (v := undef) rfl rfl (by kernel_rfl) (by kernel_rfl) (by kernel_rfl) (fun _ _ _ h => h) (Or.inr ⟨by rfl, rfl⟩) (by assumption) ?_
            simp only [List.set_cons_zero, List.set_cons_succ]
            refine take_at (i := 12) (n := 48) (v := undef) rfl rfl (by kernel_rfl) (by kernel_rfl) (by kernel_rfl) (fun _ _ _ h => h) (Or.inr ⟨by rfl, rfl⟩) (by assumption) ?_
            simp only [List.set_cons_zero, List.set_cons_succ]
            refine take_at (i := 13) (n := 49) (v := undef) rfl rfl (by kernel_rfl) (by kernel_rfl) (by kernel_rfl) (fun _ _ _ h => h) (Or.inr ⟨by rfl, rfl⟩) (by assumption) ?_
            simp only [List.set_cons_zero, List.set_cons_succ]
            refine take_at (i := 14) (n := 50) (v := undef) rfl rfl (by kernel_rfl) (by kernel_rfl) (by kernel_rfl) (fun _ _ _ h => h) (Or.inr ⟨by rfl, rfl⟩) (by assumption) ?_
            simp only [List.set_cons_zero, List.set_cons_succ]
            refine take_at (i := 15) (n := 51) (v := undef) rfl rfl (by kernel_rfl) (by kernel_rfl) (by kernel_rfl) (fun _ _ _ h => h) (Or.inr ⟨by rfl, rfl⟩) (by assumption) ?_
            simp only [List.set_cons_zero, List.set_cons_succ]
            refine take_at (i := 16) (n := 52) (v := undef) rfl rfl (by kernel_rfl) (by kernel_rfl) (by kernel_rfl) (fun _ _ _ h => h) (Or.inr ⟨by rfl, rfl⟩) (by assumption) ?_
            simp only [List.set_cons_zero, List.set_cons_succ]
            refine take_at (i := 17) (n := 53) (v := undef) rfl rfl (by kernel_rfl) (by kernel_rfl) (by kernel_rfl) (fun _ _ _ h => h) (Or.inr ⟨by rfl, rfl⟩) (by assumption) ?_
            simp only [List.set_cons_zero, List.set_cons_succ]
            refine take_at (i := 18) (n := 54) (v := undef) rfl rfl (by kernel_rfl) (by kernel_rfl) (by kernel_rfl) (fun _ _ _ h => h) (Or.inr ⟨by rfl, rfl⟩) (by assumption) ?_
            simp only [List.set_cons_zero, List.set_cons_succ]
            refine take_at (i := 19) (n := 55) (v := undef) rfl rfl (by kernel_rfl) (by kernel_rfl) (by kernel_rfl) (fun _ _ _ h => h) (Or.inr ⟨by rfl, rfl⟩) (by assumption) ?_
            simp only [List.set_cons_zero, List.set_cons_succ]
            refine take_at (i := 20) (n := 56) (v := ?_) rfl rfl (by kernel_rfl) (by kernel_rfl) (by kernel_rfl) (fun _ _ _ h => h) (Or.inl ⟨by rfl, ?_⟩) (by assumption) ?_
            rotate_left 1
            · intro wz hSw
              obtain ⟨s0, s1, s2, s3, s4, s5, s6, s7, s8, s9, s10, s11, s12, s13⟩ := hSw
              first | (go_simp; done) | (go_simp; with_reducible rfl)
            simp only [List.set_cons_zero, List.set_cons_succ]
            refine wpAnyH_done (by kernel_rfl) ?_ _
            refine NoPanic.normal ?_
            clear hHeld
            go_wp2_with fail
            exact ⟨⟨k + 1, by omega, by simp, by rw [HN.out]; first | rfl | (congr 1; omega), HL.out.1.trans ((below_seq HBV.out Hw12.out).mono HL.out.2)⟩, by simp [intOf]; omega⟩
          · have hgd : decide (xt < yt) = false := by simp; omega
            by_cases heq : yt = xt
            · subst heq
              by_cases hik : i < k
              · rw [if_pos (by simp; omega)] at hsucc
                have HN : Hid (bhN (fun x : Ta => x.t) l i (k + 1) = cn + 1) := hsucc
                have hik' : (i : Int) < (k : Int) := by omega
                clear hsucc
                go_wp2_with fail
                obtain ⟨wV, hwV⟩ : ∃ x, x = wv.alloc (.cells #[.string ynm, .int .i64 yc, .int .i64 yt, .int .i64 yd, .int .i64 yj, .int .i64 yo, .int .i64 yp] 30) := ⟨_, rfl⟩
                have HS : Hid (∀ W, Below wV.heap.size wV W → W.cell? ⟨wv.heap.size, 0, none⟩ = some (.string ynm) ∧ W.cell? ⟨wv.heap.size, 1, none⟩ = some (.int .i64 yc) ∧ W.cell? ⟨wv.heap.size, 2, none⟩ = some (.int .i64 yt) ∧ W.cell? ⟨wv.heap.size, 3, none⟩ = some (.int .i64 yd) ∧ W.cell? ⟨wv.heap.size, 4, none⟩ = some (.int .i64 yj) ∧ W.cell? ⟨wv.heap.size, 5, none⟩ = some (.int .i64 yo) ∧ W.cell? ⟨wv.heap.size, 6, none⟩ = some (.int .i64 yp) ∧ W.cell? ⟨wo.heap.size, 0, none⟩ = some (.string xnm) ∧ W.cell? ⟨wo.heap.size, 1, none⟩ = some (.int .i64 xc) ∧ W.cell? ⟨wo.heap.size, 2, none⟩ = some (.int .i64 yt) ∧ W.cell? ⟨wo.heap.size, 3, none⟩ = some (.int .i64 xd) ∧ W.cell? ⟨wo.heap.size, 4, none⟩ = some (.int .i64 xj) ∧ W.cell? ⟨wo.heap.size, 5, none⟩ = some (.int .i64 xo) ∧ W.cell? ⟨wo.heap.size, 6, none⟩ = some (.int .i64 xp)) := fun W hb => HSx.out W (by rw [hwV] at hb; simpa using hb)
                have HBV : Hid (Below wv.heap.size wv wV) := by
                  show Below _ _ _
                  rw [hwV]
                  exact below_new _ _
                rw [← hwV]
                clear hwV HSx
                refine wp_region_noPanic ?_
                refine wp_region_held_drew (S := fun w' => w'.cell? ⟨wv.heap.size, 0, none⟩ = some (.string ynm) ∧ w'.cell? ⟨wv.heap.size, 1, none⟩ = some (.int .i64 yc) ∧ w'.cell? ⟨wv.heap.size, 2, none⟩ = some (.int .i64 yt) ∧ w'.cell? ⟨wv.heap.size, 3, none⟩ = some (.int .i64 yd) ∧ w'.cell? ⟨wv.heap.size, 4, none⟩ = some (.int .i64 yj) ∧ w'.cell? ⟨wv.heap.size, 5, none⟩ = some (.int .i64 yo) ∧ w'.cell? ⟨wv.heap.size, 6, none⟩ = some (.int .i64 yp) ∧ w'.cell? ⟨wo.heap.size, 0, none⟩ = some (.string xnm) ∧ w'.cell? ⟨wo.heap.size, 1, none⟩ = some (.int .i64 xc) ∧ w'.cell? ⟨wo.heap.size, 2, none⟩ = some (.int .i64 yt) ∧ w'.cell? ⟨wo.heap.size, 3, none⟩ = some (.int .i64 xd) ∧ w'.cell? ⟨wo.heap.size, 4, none⟩ = some (.int .i64 xj) ∧ w'.cell? ⟨wo.heap.size, 5, none⟩ = some (.int .i64 xo) ∧ w'.cell? ⟨wo.heap.size, 6, none⟩ = some (.int .i64 xp)) (by kernel_rfl) (HS.out _ (Below.refl _ _).drew) (fun hHeld => ?_)
                refine take_at (i := 0) (n := 36) (v := ?_) rfl rfl (by kernel_rfl) (by kernel_rfl) (by kernel_rfl) (fun _ _ _ h => h) (Or.inl ⟨by rfl, ?_⟩) (by assumption) ?_
                rotate_left 1
                · intro wz hSw
                  obtain ⟨s0, s1, s2, s3, s4, s5, s6, s7, s8, s9, s10, s11, s12, s13⟩ := hSw
                  first | (go_simp; done) | (go_simp; with_reducible rfl)
                simp only [List.set_cons_zero, List.set_cons_succ]
                refine take_at (i := 1) (n := 37) (v := ?_) rfl rfl (by kernel_rfl) (by kernel_rfl) (by kernel_rfl) (fun _ _ _ h => h) (Or.inl ⟨by rfl, ?_⟩) (by assumption) ?_
                rotate_left 1
                · intro wz hSw
                  obtain ⟨s0, s1, s2, s3, s4, s5, s6, s7, s8, s9, s10, s11, s12, s13⟩ := hSw
                  first | (go_simp; done) | (go_simp; with_reducible rfl)
                simp only [List.set_cons_zero, List.set_cons_succ]
                refine take_at (i := 3) (n := 39) (v := ?_) rfl rfl (by kernel_rfl) (by kernel_rfl) (by kernel_rfl) (fun _ _ _ h => h) (Or.inl ⟨by rfl, ?_⟩) (by assumption) ?_
                rotate_left 1
                · intro wz hSw
                  obtain ⟨s0, s1, s2, s3, s4, s5, s6, s7, s8, s9, s10, s11, s12, s13⟩ := hSw
                  first | (go_simp; done) | (go_simp; with_reducible rfl)
                simp only [List.set_cons_zero, List.set_cons_succ]
                refine take_at (i := 4) (n := 40) (v := ?_) rfl rfl (by kernel_rfl) (by kernel_rfl) (by kernel_rfl) (fun _ _ _ h => h) (Or.inl ⟨by rfl, ?_⟩) (by assumption) ?_
                rotate_left 1
                · intro wz hSw
                  obtain ⟨s0, s1, s2, s3, s4, s5, s6, s7, s8, s9, s10, s11, s12, s13⟩ := hSw
                  first | (go_simp; done) | (go_simp; with_reducible rfl)
                simp only [List.set_cons_zero, List.set_cons_succ]
                refine wpAnyH_ready (rs := [2]) (by kernel_rfl) (by simp) ?_
                refine AllReadyH.cons rfl (fun K hK => ?_) AllReadyH.nil
                go_wp2_with (go_at_call 9; refine (Ky _).mono ?_; rintro r w11 ⟨rfl, hbw11⟩)
                have Hw11 : Hid (Below wV.heap.size wV w11) := below_seq (Below.refl _ _).drew hbw11
                refine hK.out _ _ (HS.out _ Hw11.out) (fun hHeld => ?_)
                clear hK K hbw11
                refine wpAnyH_ready (rs := [5]) (by kernel_rfl) (by simp) ?_
                refine AllReadyH.cons rfl (fun K hK => ?_) AllReadyH.nil
                go_simp
                go_wp2_with (go_at_call 9; refine (Kx _).mono ?_; rintro r w12 ⟨rfl, hbw12⟩)
                have Hw12 : Hid (Below wV.heap.size wV w12) := below_seq Hw11.out hbw12
                refine hK.out _ _ (HS.out _ Hw12.out) (fun hHeld => ?_)
                clear hK K hbw12
                refine take_at (i := 6) (n := 42) (v := ?_) rfl rfl (by kernel_rfl) (by kernel_rfl) (by kernel_rfl) (fun _ _ _ h => h) (Or.inl ⟨by rfl, ?_⟩) (by assumption) ?_
                rotate_left 1
                · intro wz hSw
                  obtain ⟨s0, s1, s2, s3, s4, s5, s6, s7, s8, s9, s10, s11, s12, s13⟩ := hSw
                  first | (go_simp; done) | (go_simp; with_reducible rfl)
                simp only [List.set_cons_zero, List.set_cons_succ]
                refine take_at (i := 7) (n := 43) (v := ?_) rfl rfl (by kernel_rfl) (by kernel_rfl) (by kernel_rfl) (fun _ _ _ h => h) (Or.inl ⟨by rfl, ?_⟩) (by assumption) ?_
                rotate_left 1
                · intro wz hSw
                  obtain ⟨s0, s1, s2, s3, s4, s5, s6, s7, s8, s9, s10, s11, s12, s13⟩ := hSw
                  first | (go_simp; done) | (go_simp; with_reducible rfl)
                simp only [List.set_cons_zero, List.set_cons_succ]
                refine take_at (i := 8) (n := 44) (v := ?_) rfl rfl (by kernel_rfl) (by kernel_rfl) (by kernel_rfl) (fun _ _ _ h => h) (Or.inl ⟨by rfl, ?_⟩) (by assumption) ?_
                rotate_left 1
                · intro wz hSw
                  obtain ⟨s0, s1, s2, s3, s4, s5, s6, s7, s8, s9, s10, s11, s12, s13⟩ := hSw
                  first | (go_simp; done) | (go_simp; with_reducible rfl)
                simp only [List.set_cons_zero, List.set_cons_succ]
                refine take_at (i := 9) (n := 45) (v := ?_) rfl rfl (by kernel_rfl) (by kernel_rfl) (by kernel_rfl) (fun _ _ _ h => h) (Or.inl ⟨by rfl, ?_⟩) (by assumption) ?_
                rotate_left 1
                · intro wz hSw
                  obtain ⟨s0, s1, s2, s3, s4, s5, s6, s7, s8, s9, s10, s11, s12, s13⟩ := hSw
                  first | (go_simp; done) | (go_simp; with_reducible rfl)
                simp only [List.set_cons_zero, List.set_cons_succ]
                refine take_at (i := 11) (n := 47) (v := ?_) rfl rfl (by kernel_rfl) (by kernel_rfl) (by kernel_rfl) (fun _ _ _ h => h) (Or.inl ⟨by rfl, ?_⟩) (by assumption) ?_
                rotate_left 1
                · intro wz hSw
                  obtain ⟨s0, s1, s2, s3, s4, s5, s6, s7, s8, s9, s10, s11, s12, s13⟩ := hSw
                  first | (go_simp; done) | (go_simp; with_reducible rfl)
                simp only [List.set_cons_zero, List.set_cons_succ]
                refine take_at (i := 12) (n := 48) (v := ?_) rfl rfl (by kernel_rfl) (by kernel_rfl) (by kernel_rfl) (fun _ _ _ h => h) (Or.inl ⟨by rfl, ?_⟩) (by assumption) ?_
                rotate_left 1
                · intro wz hSw
                  obtain ⟨s0, s1, s2, s3, s4, s5, s6, s7, s8, s9, s10, s11, s12, s13⟩ := hSw
                  first | (go_simp; done) | (go_simp; with_reducible rfl)
                simp only [List.set_cons_zero, List.set_cons_succ]
                refine wpAnyH_ready (rs := [10]) (by kernel_rfl) (by simp) ?_
                refine AllReadyH.cons rfl (fun K hK => ?_) AllReadyH.nil
                go_simp
                go_wp2_with (go_at_call 9; refine (Ky _).mono ?_; rintro r w13 ⟨rfl, hbw13⟩)
                have Hw13 : Hid (Below wV.heap.size wV w13) := below_seq Hw12.out hbw13
                refine hK.out _ _ (HS.out _ Hw13.out) (fun hHeld => ?_)
                clear hK K hbw13
                refine wpAnyH_ready (rs := [13]) (by kernel_rfl) (by simp) ?_
                refine AllReadyH.cons rfl (fun K hK => ?_) AllReadyH.nil
                go_simp
                go_wp2_with (go_at_call 9; refine (Kx _).mono ?_; rintro r w14 ⟨rfl, hbw14⟩)
                have Hw14 : Hid (Below wV.heap.size wV w14) := below_seq Hw13.out hbw14
                refine hK.out _ _ (HS.out _ Hw14.out) (fun hHeld => ?_)
                clear hK K hbw14
                refine take_at (i := 14) (n := 50) (v := ?_) rfl rfl (by kernel_rfl) (by kernel_rfl) (by kernel_rfl) (fun _ _ _ h => h) (Or.inl ⟨by rfl, ?_⟩) (by assumption) ?_
                rotate_left 1
                · intro wz hSw
                  obtain ⟨s0, s1, s2, s3, s4, s5, s6, s7, s8, s9, s10, s11, s12, s13⟩ := hSw
                  first | (go_simp; done) | (go_simp; with_reducible rfl)
                simp only [List.set_cons_zero, List.set_cons_succ]
                refine take_at (i := 15) (n := 51) (v := ?_) rfl rfl (by kernel_rfl) (by kernel_rfl) (by kernel_rfl) (fun _ _ _ h => h) (Or.inl ⟨by rfl, ?_⟩) (by assumption) ?_
                rotate_left 1
                · intro wz hSw
                  obtain ⟨s0, s1, s2, s3, s4, s5, s6, s7, s8, s9, s10, s11, s12, s13⟩ := hSw
                  first | (go_simp; done) | (go_simp; with_reducible rfl)
                simp only [List.set_cons_zero, List.set_cons_succ]
                refine take_at (i := 16) (n := 52) (v := ?_) rfl rfl (by kernel_rfl) (by kernel_rfl) (by kernel_rfl) (fun _ _ _ h => h) (Or.inl ⟨by rfl, ?_⟩) (by assumption) ?_
                rotate_left 1
                · intro wz hSw
                  obtain ⟨s0, s1, s2, s3, s4, s5, s6, s7, s8, s9, s10, s11, s12, s13⟩ := hSw
                  first | (go_simp; done) | (go_simp; with_reducible rfl)
                simp only [List.set_cons_zero, List.set_cons_succ]
                refine take_at (i := 17) (n := 53) (v := ?_) rfl rfl (by kernel_rfl) (by kernel_rfl) (by kernel_rfl) (fun _ _ _ h => h) (Or.inl ⟨by rfl, ?_⟩) (by assumption) ?_
                rotate_left 1
                · intro wz hSw
                  obtain ⟨s0, s1, s2, s3, s4, s5, s6, s7, s8, s9, s10, s11, s12, s13⟩ := hSw
                  first | (go_simp; done) | (go_simp; with_reducible rfl)
                simp only [List.set_cons_zero, List.set_cons_succ]
                refine take_at (i := 18) (n := 54) (v := ?_) rfl rfl (by kernel_rfl) (by kernel_rfl) (by kernel_rfl) (fun _ _ _ h => h) (Or.inl ⟨by rfl, ?_⟩) (by assumption) ?_
                rotate_left 1
                · intro wz hSw
                  obtain ⟨s0, s1, s2, s3, s4, s5, s6, s7, s8, s9, s10, s11, s12, s13⟩ := hSw
                  first | (go_simp; done) | (go_simp; with_reducible rfl)
                simp only [List.set_cons_zero, List.set_cons_succ]
                refine take_at (i := 19) (n := 55) (v := ?_) rfl rfl (by kernel_rfl) (by kernel_rfl) (by kernel_rfl) (fun _ _ _ h => h) (Or.inl ⟨by rfl, ?_⟩) (by assumption) ?_
                rotate_left 1
                · intro wz hSw
                  obtain ⟨s0, s1, s2, s3, s4, s5, s6, s7, s8, s9, s10, s11, s12, s13⟩ := hSw
                  first | (go_simp; done) | (go_simp; with_reducible rfl)
                simp only [List.set_cons_zero, List.set_cons_succ]
                refine take_at (i := 20) (n := 56) (v := ?_) rfl rfl (by kernel_rfl) (by kernel_rfl) (by kernel_rfl) (fun _ _ _ h => h) (Or.inl ⟨by rfl, ?_⟩) (by assumption) ?_
                rotate_left 1
                · intro wz hSw
                  obtain ⟨s0, s1, s2, s3, s4, s5, s6, s7, s8, s9, s10, s11, s12, s13⟩ := hSw
                  first | (go_simp; done) | (go_simp; with_reducible rfl)
                simp only [List.set_cons_zero, List.set_cons_succ]
                refine wpAnyH_done (by kernel_rfl) ?_ _
                refine NoPanic.normal ?_
                clear hHeld
                go_wp2_with fail
                exact ⟨⟨k + 1, by omega, by simp, by rw [HN.out]; first | rfl | (congr 1; omega), HL.out.1.trans ((below_seq HBV.out Hw14.out).mono HL.out.2)⟩, by simp [intOf]; omega⟩
              · rw [if_neg (by simp; omega)] at hsucc
                have HN : Hid (bhN (fun x : Ta => x.t) l i (k + 1) = cn + 0) := hsucc
                have hik' : decide ((i : Int) < (k : Int)) = false := by simp; omega
                have hik2 : decide (i < k) = false := by simp; omega
                clear hsucc
                go_wp2_with fail
                obtain ⟨wV, hwV⟩ : ∃ x, x = wv.alloc (.cells #[.string ynm, .int .i64 yc, .int .i64 yt, .int .i64 yd, .int .i64 yj, .int .i64 yo, .int .i64 yp] 30) := ⟨_, rfl⟩
                have HS : Hid (∀ W, Below wV.heap.size wV W → W.cell? ⟨wv.heap.size, 0, none⟩ = some (.string ynm) ∧ W.cell? ⟨wv.heap.size, 1, none⟩ = some (.int .i64 yc) ∧ W.cell? ⟨wv.heap.size, 2, none⟩ = some (.int .i64 yt) ∧ W.cell? ⟨wv.heap.size, 3, none⟩ = some (.int .i64 yd) ∧ W.cell? ⟨wv.heap.size, 4, none⟩ = some (.int .i64 yj) ∧ W.cell? ⟨wv.heap.size, 5, none⟩ = some (.int .i64 yo) ∧ W.cell? ⟨wv.heap.size, 6, none⟩ = some (.int .i64 yp) ∧ W.cell? ⟨wo.heap.size, 0, none⟩ = some (.string xnm) ∧ W.cell? ⟨wo.heap.size, 1, none⟩ = some (.int .i64 xc) ∧ W.cell? ⟨wo.heap.size, 2, none⟩ = some (.int .i64 yt) ∧ W.cell? ⟨wo.heap.size, 3, none⟩ = some (.int .i64 xd) ∧ W.cell? ⟨wo.heap.size, 4, none⟩ = some (.int .i64 xj) ∧ W.cell? ⟨wo.heap.size, 5, none⟩ = some (.int .i64 xo) ∧ W.cell? ⟨wo.heap.size, 6, none⟩ = some (.int .i64 xp)) := fun W hb => HSx.out W (by rw [hwV] at hb; simpa using hb)
                have HBV : Hid (Below wv.heap.size wv wV) := by
                  show Below _ _ _
                  rw [hwV]
                  exact below_new _ _
                rw [← hwV]
                clear hwV HSx
                refine wp_region_noPanic ?_
                refine wp_region_held_drew (S := fun w' => w'.cell? ⟨wv.heap.size, 0, none⟩ = some (.string ynm) ∧ w'.cell? ⟨wv.heap.size, 1, none⟩ = some (.int .i64 yc) ∧ w'.cell? ⟨wv.heap.size, 2, none⟩ = some (.int .i64 yt) ∧ w'.cell? ⟨wv.heap.size, 3, none⟩ = some (.int .i64 yd) ∧ w'.cell? ⟨wv.heap.size, 4, none⟩ = some (.int .i64 yj) ∧ w'.cell? ⟨wv.heap.size, 5, none⟩ = some (.int .i64 yo) ∧ w'.cell? ⟨wv.heap.size, 6, none⟩ = some (.int .i64 yp) ∧ w'.cell? ⟨wo.heap.size, 0, none⟩ = some (.string xnm) ∧ w'.cell? ⟨wo.heap.size, 1, none⟩ = some (.int .i64 xc) ∧ w'.cell? ⟨wo.heap.size, 2, none⟩ = some (.int .i64 yt) ∧ w'.cell? ⟨wo.heap.size, 3, none⟩ = some (.int .i64 xd) ∧ w'.cell? ⟨wo.heap.size, 4, none⟩ = some (.int .i64 xj) ∧ w'.cell? ⟨wo.heap.size, 5, none⟩ = some (.int .i64 xo) ∧ w'.cell? ⟨wo.heap.size, 6, none⟩ = some (.int .i64 xp)) (by kernel_rfl) (HS.out _ (Below.refl _ _).drew) (fun hHeld => ?_)
                refine take_at (i := 0) (n := 36) (v := ?_) rfl rfl (by kernel_rfl) (by kernel_rfl) (by kernel_rfl) (fun _ _ _ h => h) (Or.inl ⟨by rfl, ?_⟩) (by assumption) ?_
                rotate_left 1
                · intro wz hSw
                  obtain ⟨s0, s1, s2, s3, s4, s5, s6, s7, s8, s9, s10, s11, s12, s13⟩ := hSw
                  first | (go_simp; done) | (go_simp; with_reducible rfl)
                simp only [List.set_cons_zero, List.set_cons_succ]
                refine take_at (i := 1) (n := 37) (v := ?_) rfl rfl (by kernel_rfl) (by kernel_rfl) (by kernel_rfl) (fun _ _ _ h => h) (Or.inl ⟨by rfl, ?_⟩) (by assumption) ?_
                rotate_left 1
                · intro wz hSw
                  obtain ⟨s0, s1, s2, s3, s4, s5, s6, s7, s8, s9, s10, s11, s12, s13⟩ := hSw
                  first | (go_simp; done) | (go_simp; with_reducible rfl)
                simp only [List.set_cons_zero, List.set_cons_succ]
                refine take_at (i := 3) (n := 39) (v := ?_) rfl rfl (by kernel_rfl) (by kernel_rfl) (by kernel_rfl) (fun _ _ _ h => h) (Or.inl ⟨by rfl, ?_⟩) (by assumption) ?_
                rotate_left 1
                · intro wz hSw
                  obtain ⟨s0, s1, s2, s3, s4, s5, s6, s7, s8, s9, s10, s11, s12, s13⟩ := hSw
                  first | (go_simp; done) | (go_simp; with_reducible rfl)
                simp only [List.set_cons_zero, List.set_cons_succ]
                refine take_at (i := 4) (n := 40) (v := ?_) rfl rfl (by kernel_rfl) (by kernel_rfl) (by kernel_rfl) (fun _ _ _ h => h) (Or.inl ⟨by rfl, ?_⟩) (by assumption) ?_
                rotate_left 1
                · intro wz hSw
                  obtain ⟨s0, s1, s2, s3, s4, s5, s6, s7, s8, s9, s10, s11, s12, s13⟩ := hSw
                  first | (go_simp; done) | (go_simp; with_reducible rfl)
                simp only [List.set_cons_zero, List.set_cons_succ]
                refine wpAnyH_ready (rs := [2]) (by kernel_rfl) (by simp) ?_
                refine AllReadyH.cons rfl (fun K hK => ?_) AllReadyH.nil
                go_wp2_with (go_at_call 9; refine (Ky _).mono ?_; rintro r w11 ⟨rfl, hbw11⟩)
                have Hw11 : Hid (Below wV.heap.size wV w11) := below_seq (Below.refl _ _).drew hbw11
                refine hK.out _ _ (HS.out _ Hw11.out) (fun hHeld => ?_)
                clear hK K hbw11
                refine wpAnyH_ready (rs := [5]) (by kernel_rfl) (by simp) ?_
                refine AllReadyH.cons rfl (fun K hK => ?_) AllReadyH.nil
                go_simp
                go_wp2_with (go_at_call 9; refine (Kx _).mono ?_; rintro r w12 ⟨rfl, hbw12⟩)
                have Hw12 : Hid (Below wV.heap.size wV w12) := below_seq Hw11.out hbw12
                refine hK.out _ _ (HS.out _ Hw12.out) (fun hHeld => ?_)
                clear hK K hbw12
                refine take_at (i := 6) (n := 42) (v := ?_) rfl rfl (by kernel_rfl) (by kernel_rfl) (by kernel_rfl) (fun _ _ _ h => h) (Or.inl ⟨by rfl, ?_⟩) (by assumption) ?_
                rotate_left 1
                · intro wz hSw
                  obtain ⟨s0, s1, s2, s3, s4, s5, s6, s7, s8, s9, s10, s11, s12, s13⟩ := hSw
                  first | (go_simp; done) | (go_simp; with_reducible rfl)
                simp only [List.set_cons_zero, List.set_cons_succ]
                refine take_at (i := 7) (n := 43) (v := ?_) rfl rfl (by kernel_rfl) (by kernel_rfl) (by kernel_rfl) (fun _ _ _ h => h) (Or.inl ⟨by rfl, ?_⟩) (by assumption) ?_
                rotate_left 1
                · intro wz hSw
                  obtain ⟨s0, s1, s2, s3, s4, s5, s6, s7, s8, s9, s10, s11, s12, s13⟩ := hSw
                  first | (go_simp; done) | (go_simp; with_reducible rfl)
                simp only [List.set_cons_zero, List.set_cons_succ]
                refine take_at (i := 8) (n := 44) (v := ?_) rfl rfl (by kernel_rfl) (by kernel_rfl) (by kernel_rfl) (fun _ _ _ h => h) (Or.inl ⟨by rfl, ?_⟩) (by assumption) ?_
                rotate_left 1
                · intro wz hSw
                  obtain ⟨s0, s1, s2, s3, s4, s5, s6, s7, s8, s9, s10, s11, s12, s13⟩ := hSw
                  first | (go_simp; done) | (go_simp; with_reducible rfl)
                simp only [List.set_cons_zero, List.set_cons_succ]
                refine take_at (i := 9) (n := 45) (v := ?_) rfl rfl (by kernel_rfl) (by kernel_rfl) (by kernel_rfl) (fun _ _ _ h => h) (Or.inl ⟨by rfl, ?_⟩) (by assumption) ?_
                rotate_left 1
                · intro wz hSw
                  obtain ⟨s0, s1, s2, s3, s4, s5, s6, s7, s8, s9, s10, s11, s12, s13⟩ := hSw
                  first | (go_simp; done) | (go_simp; with_reducible rfl)
                simp only [List.set_cons_zero, List.set_cons_succ]
                refine take_at (i := 11) (n := 47) (v := ?_) rfl rfl (by kernel_rfl) (by kernel_rfl) (by kernel_rfl) (fun _ _ _ h => h) (Or.inl ⟨by rfl, ?_⟩) (by assumption) ?_
                rotate_left 1
                · intro wz hSw
                  obtain ⟨s0, s1, s2, s3, s4, s5, s6, s7, s8, s9, s10, s11, s12, s13⟩ := hSw
                  first | (go_simp; done) | (go_simp; with_reducible rfl)
                simp only [List.set_cons_zero, List.set_cons_succ]
                refine take_at (i := 12) (n := 48) (v := ?_) rfl rfl (by kernel_rfl) (by kernel_rfl) (by kernel_rfl) (fun _ _ _ h => h) (Or.inl ⟨by rfl, ?_⟩) (by assumption) ?_
                rotate_left 1
                · intro wz hSw
                  obtain ⟨s0, s1, s2, s3, s4, s5, s6, s7, s8, s9, s10, s11, s12, s13⟩ := hSw
                  first | (go_simp; done) | (go_simp; with_reducible rfl)
                simp only [List.set_cons_zero, List.set_cons_succ]
                refine wpAnyH_ready (rs := [10]) (by kernel_rfl) (by simp) ?_
                refine AllReadyH.cons rfl (fun K hK => ?_) AllReadyH.nil
                go_simp
                go_wp2_with (go_at_call 9; refine (Ky _).mono ?_; rintro r w13 ⟨rfl, hbw13⟩)
                have Hw13 : Hid (Below wV.heap.size wV w13) := below_seq Hw12.out hbw13
                refine hK.out _ _ (HS.out _ Hw13.out) (fun hHeld => ?_)
                clear hK K hbw13
                refine wpAnyH_ready (rs := [13]) (by kernel_rfl) (by simp) ?_
                refine AllReadyH.cons rfl (fun K hK => ?_) AllReadyH.nil
                go_simp
                go_wp2_with (go_at_call 9; refine (Kx _).mono ?_; rintro r w14 ⟨rfl, hbw14⟩)
                have Hw14 : Hid (Below wV.heap.size wV w14) := below_seq Hw13.out hbw14
                refine hK.out _ _ (HS.out _ Hw14.out) (fun hHeld => ?_)
                clear hK K hbw14
                refine take_at (i := 14) (n := 50) (v := ?_) rfl rfl (by kernel_rfl) (by kernel_rfl) (by kernel_rfl) (fun _ _ _ h => h) (Or.inl ⟨by rfl, ?_⟩) (by assumption) ?_
                rotate_left 1
                · intro wz hSw
                  obtain ⟨s0, s1, s2, s3, s4, s5, s6, s7, s8, s9, s10, s11, s12, s13⟩ := hSw
                  first | (go_simp; done) | (go_simp; with_reducible rfl)
                simp only [List.set_cons_zero, List.set_cons_succ]
                refine take_at (i := 15) (n := 51) (v := ?_) rfl rfl (by kernel_rfl) (by kernel_rfl) (by kernel_rfl) (fun _ _ _ h => h) (Or.inl ⟨by rfl, ?_⟩) (by assumption) ?_
                rotate_left 1
                · intro wz hSw
                  obtain ⟨s0, s1, s2, s3, s4, s5, s6, s7, s8, s9, s10, s11, s12, s13⟩ := hSw
                  first | (go_simp; done) | (go_simp; with_reducible rfl)
                simp only [List.set_cons_zero, List.set_cons_succ]
                refine take_at (i := 16) (n := 52) (v := ?_) rfl rfl (by kernel_rfl) (by kernel_rfl) (by kernel_rfl) (fun _ _ _ h => h) (Or.inl ⟨by rfl, ?_⟩) (by assumption) ?_
                rotate_left 1
                · intro wz hSw
                  obtain ⟨s0, s1, s2, s3, s4, s5, s6, s7, s8, s9, s10, s11, s12, s13⟩ := hSw
                  first | (go_simp; done) | (go_simp; with_reducible rfl)
                simp only [List.set_cons_zero, List.set_cons_succ]
                refine take_at (i := 17) (n := 53) (v := ?_) rfl rfl (by kernel_rfl) (by kernel_rfl) (by kernel_rfl) (fun _ _ _ h => h) (Or.inl ⟨by rfl, ?_⟩) (by assumption) ?_
                rotate_left 1
                · intro wz hSw
                  obtain ⟨s0, s1, s2, s3, s4, s5, s6, s7, s8, s9, s10, s11, s12, s13⟩ := hSw
                  first | (go_simp; done) | (go_simp; with_reducible rfl)
                simp only [List.set_cons_zero, List.set_cons_succ]
                refine take_at (i := 18) (n := 54) (v := ?_) rfl rfl (by kernel_rfl) (by kernel_rfl) (by kernel_rfl) (fun _ _ _ h => h) (Or.inl ⟨by rfl, ?_⟩) (by assumption) ?_
                rotate_left 1
                · intro wz hSw
                  obtain ⟨s0, s1, s2, s3, s4, s5, s6, s7, s8, s9, s10, s11, s12, s13⟩ := hSw
                  first | (go_simp; done) | (go_simp; with_reducible rfl)
                simp only [List.set_cons_zero, List.set_cons_succ]
                refine take_at (i := 19) (n := 55) (v := ?_) rfl rfl (by kernel_rfl) (by kernel_rfl) (by kernel_rfl) (fun _ _ _ h => h) (Or.inl ⟨by rfl, ?_⟩) (by assumption) ?_
                rotate_left 1
                · intro wz hSw
                  obtain ⟨s0, s1, s2, s3, s4, s5, s6, s7, s8, s9, s10, s11, s12, s13⟩ := hSw
                  first | (go_simp; done) | (go_simp; with_reducible rfl)
                simp only [List.set_cons_zero, List.set_cons_succ]
                refine take_at (i := 20) (n := 56) (v := ?_) rfl rfl (by kernel_rfl) (by kernel_rfl) (by kernel_rfl) (fun _ _ _ h => h) (Or.inl ⟨by rfl, ?_⟩) (by assumption) ?_
                rotate_left 1
                · intro wz hSw
                  obtain ⟨s0, s1, s2, s3, s4, s5, s6, s7, s8, s9, s10, s11, s12, s13⟩ := hSw
                  first | (go_simp; done) | (go_simp; with_reducible rfl)
                simp only [List.set_cons_zero, List.set_cons_succ]
                refine wpAnyH_done (by kernel_rfl) ?_ _
                refine NoPanic.normal ?_
                clear hHeld
                go_wp2_with fail
                exact ⟨⟨k + 1, by omega, by simp, by rw [HN.out]; first | rfl | (congr 1; omega), HL.out.1.trans ((below_seq HBV.out Hw14.out).mono HL.out.2)⟩, by simp [intOf]; omega⟩
            · rw [if_neg (by simp; omega)] at hsucc
              have HN : Hid (bhN (fun x : Ta => x.t) l i (k + 1) = cn + 0) := hsucc
              have heq' : (yt == xt) = false := by simpa using heq
              clear hsucc
              go_wp2_with fail
              obtain ⟨wV, hwV⟩ : ∃ x, x = wv.alloc (.cells #[.string ynm, .int .i64 yc, .int .i64 yt, .int .i64 yd, .int .i64 yj, .int .i64 yo, .int .i64 yp] 30) := ⟨_, rfl⟩
              have HS : Hid (∀ W, Below wV.heap.size wV W → W.cell? ⟨wv.heap.size, 0, none⟩ = some (.string ynm) ∧ W.cell? ⟨wv.heap.size, 1, none⟩ = some (.int .i64 yc) ∧ W.cell? ⟨wv.heap.size, 2, none⟩ = some (.int .i64 yt) ∧ W.cell? ⟨wv.heap.size, 3, none⟩ = some (.int .i64 yd) ∧ W.cell? ⟨wv.heap.size, 4, none⟩ = some (.int .i64 yj) ∧ W.cell? ⟨wv.heap.size, 5, none⟩ = some (.int .i64 yo) ∧ W.cell? ⟨wv.heap.size, 6, none⟩ = some (.int .i64 yp) ∧ W.cell? ⟨wo.heap.size, 0, none⟩ = some (.string xnm) ∧ W.cell? ⟨wo.heap.size, 1, none⟩ = some (.int .i64 xc) ∧ W.cell? ⟨wo.heap.size, 2, none⟩ = some (.int .i64 xt) ∧ W.cell? ⟨wo.heap.size, 3, none⟩ = some (.int .i64 xd) ∧ W.cell? ⟨wo.heap.size, 4, none⟩ = some (.int .i64 xj) ∧ W.cell? ⟨wo.heap.size, 5, none⟩ = some (.int .i64 xo) ∧ W.cell? ⟨wo.heap.size, 6, none⟩ = some (.int .i64 xp)) := fun W hb => HSx.out W (by rw [hwV] at hb; simpa using hb)
              have HBV : Hid (Below wv.heap.size wv wV) := by
                show Below _ _ _
                rw [hwV]
                exact below_new _ _
              rw [← hwV]
              clear hwV HSx
              refine wp_region_noPanic ?_
              refine wp_region_held_drew (S := fun w' => w'.cell? ⟨wv.heap.size, 0, none⟩ = some (.string ynm) ∧ w'.cell? ⟨wv.heap.size, 1, none⟩ = some (.int .i64 yc) ∧ w'.cell? ⟨wv.heap.size, 2, none⟩ = some (.int .i64 yt) ∧ w'.cell? ⟨wv.heap.size, 3, none⟩ = some (.int .i64 yd) ∧ w'.cell? ⟨wv.heap.size, 4, none⟩ = some (.int .i64 yj) ∧ w'.cell? ⟨wv.heap.size, 5, none⟩ = some (.int .i64 yo) ∧ w'.cell? ⟨wv.heap.size, 6, none⟩ = some (.int .i64 yp) ∧ w'.cell? ⟨wo.heap.size, 0, none⟩ = some (.string xnm) ∧ w'.cell? ⟨wo.heap.size, 1, none⟩ = some (.int .i64 xc) ∧ w'.cell? ⟨wo.heap.size, 2, none⟩ = some (.int .i64 xt) ∧ w'.cell? ⟨wo.heap.size, 3, none⟩ = some (.int .i64 xd) ∧ w'.cell? ⟨wo.heap.size, 4, none⟩ = some (.int .i64 xj) ∧ w'.cell? ⟨wo.heap.size, 5, none⟩ = some (.int .i64 xo) ∧ w'.cell? ⟨wo.heap.size, 6, none⟩ = some (.int .i64 xp)) (by kernel_rfl) (HS.out _ (Below.refl _ _).drew) (fun hHeld => ?_)
              refine take_at (i := 0) (n := 36) (v := ?_) rfl rfl (by kernel_rfl) (by kernel_rfl) (by kernel_rfl) (fun _ _ _ h => h) (Or.inl ⟨by rfl, ?_⟩) (by assumption) ?_
              rotate_left 1
              · intro wz hSw
                obtain ⟨s0, s1, s2, s3, s4, s5, s6, s7, s8, s9, s10, s11, s12, s13⟩ := hSw
                first | (go_simp; done) | (go_simp; with_reducible rfl)
              simp only [List.set_cons_zero, List.set_cons_succ]
              refine take_at (i := 1) (n := 37) (v := ?_) rfl rfl (by kernel_rfl) (by kernel_rfl) (by kernel_rfl) (fun _ _ _ h => h) (Or.inl ⟨by rfl, ?_⟩) (by assumption) ?_
              rotate_left 1
              · intro wz hSw
                obtain ⟨s0, s1, s2, s3, s4, s5, s6, s7, s8, s9, s10, s11, s12, s13⟩ := hSw
                first | (go_simp; done) | (go_simp; with_reducible rfl)
              simp only [List.set_cons_zero, List.set_cons_succ]
              refine take_at (i := 3) (n := 39) (v := ?_) rfl rfl (by kernel_rfl) (by kernel_rfl) (by kernel_rfl) (fun _ _ _ h => h) (Or.inl ⟨by rfl, ?_⟩) (by assumption) ?_
              rotate_left 1
              · intro wz hSw
                obtain ⟨s0, s1, s2, s3, s4, s5, s6, s7, s8, s9, s10, s11, s12, s13⟩ := hSw
                first | (go_simp; done) | (go_simp; with_reducible rfl)
              simp only [List.set_cons_zero, List.set_cons_succ]
              refine take_at (i := 4) (n := 40) (v := ?_) rfl rfl (by kernel_rfl) (by kernel_rfl) (by kernel_rfl) (fun _ _ _ h => h) (Or.inl ⟨by rfl, ?_⟩) (by assumption) ?_
              rotate_left 1
              · intro wz hSw
                obtain ⟨s0, s1, s2, s3, s4, s5, s6, s7, s8, s9, s10, s11, s12, s13⟩ := hSw
                first | (go_simp; done) | (go_simp; with_reducible rfl)
              simp only [List.set_cons_zero, List.set_cons_succ]
              refine wpAnyH_ready (rs := [2]) (by kernel_rfl) (by simp) ?_
              refine AllReadyH.cons rfl (fun K hK => ?_) AllReadyH.nil
              go_wp2_with (go_at_call 9; refine (Ky _).mono ?_; rintro r w11 ⟨rfl, hbw11⟩)
              have Hw11 : Hid (Below wV.heap.size wV w11) := below_seq (Below.refl _ _).drew hbw11
              refine hK.out _ _ (HS.out _ Hw11.out) (fun hHeld => ?_)
              clear hK K hbw11
              refine wpAnyH_ready (rs := [5]) (by kernel_rfl) (by simp) ?_
              refine AllReadyH.cons rfl (fun K hK => ?_) AllReadyH.nil
              go_simp
              go_wp2_with (go_at_call 9; refine (Kx _).mono ?_; rintro r w12 ⟨rfl, hbw12⟩)
              have Hw12 : Hid (Below wV.heap.size wV w12) := below_seq Hw11.out hbw12
              refine hK.out _ _ (HS.out _ Hw12.out) (fun hHeld => ?_)
              clear hK K hbw12
              refine take_at (i := 6) (n := 42) (v := ?_) rfl rfl (by kernel_rfl) (by kernel_rfl) (by kernel_rfl) (fun _ _ _ h => h) (Or.inl ⟨by rfl, ?_⟩) (by assumption) ?_
              rotate_left 1
              · intro wz hSw
                obtain ⟨s0, s1, s2, s3, s4, s5, s6, s7, s8, s9, s10, s11, s12, s13⟩ := hSw
                first | (go_simp; done) | (go_simp; with_reducible rfl)
              simp only [List.set_cons_zero, List.set_cons_succ]
              refine take_at (i := 7) (n := 43) (v := ?_) rfl rfl (by kernel_rfl) (by kernel_rfl) (by kernel_rfl) (fun _ _ _ h => h) (Or.inl ⟨by rfl, ?_⟩) (by assumption) ?_
              rotate_left 1
              · intro wz hSw
                obtain ⟨s0, s1, s2, s3, s4, s5, s6, s7, s8, s9, s10, s11, s12, s13⟩ := hSw
                first | (go_simp; done) | (go_simp; with_reducible rfl)
              simp only [List.set_cons_zero, List.set_cons_succ]
              refine take_at (i := 8) (n := 44) (v := ?_) rfl rfl (by kernel_rfl) (by kernel_rfl) (by kernel_rfl) (fun _ _ _ h => h) (Or.inl ⟨by rfl, ?_⟩) (by assumption) ?_
              rotate_left 1
              · intro wz hSw
                obtain ⟨s0, s1, s2, s3, s4, s5, s6, s7, s8, s9, s10, s11, s12, s13⟩ := hSw
                first | (go_simp; done) | (go_simp; with_reducible rfl)
              simp only [List.set_cons_zero, List.set_cons_succ]
              refine take_at (i := 9) (n := 45) (v := ?_) rfl rfl (by kernel_rfl) (by kernel_rfl) (by kernel_rfl) (fun _ _ _ h => h) (Or.inl ⟨by rfl, ?_⟩) (by assumption) ?_
              rotate_left 1
              · intro wz hSw
                obtain ⟨s0, s1, s2, s3, s4, s5, s6, s7, s8, s9, s10, s11, s12, s13⟩ := hSw
                first | (go_simp; done) | (go_simp; with_reducible rfl)
              simp only [List.set_cons_zero, List.set_cons_succ]
              refine take_at (i := 11) (n := 47) (v := ?_) rfl rfl (by kernel_rfl) (by kernel_rfl) (by kernel_rfl) (fun _ _ _ h => h) (Or.inl ⟨by rfl, ?_⟩) (by assumption) ?_
              rotate_left 1
              · intro wz hSw
                obtain ⟨s0, s1, s2, s3, s4, s5, s6, s7, s8, s9, s10, s11, s12, s13⟩ := hSw
                first | (go_simp; done) | (go_simp; with_reducible rfl)
              simp only [List.set_cons_zero, List.set_cons_succ]
              refine take_at (i := 12) (n := 48) (v := ?_) rfl rfl (by kernel_rfl) (by kernel_rfl) (by kernel_rfl) (fun _ _ _ h => h) (Or.inl ⟨by rfl, ?_⟩) (by assumption) ?_
              rotate_left 1
              · intro wz hSw
                obtain ⟨s0, s1, s2, s3, s4, s5, s6, s7, s8, s9, s10, s11, s12, s13⟩ := hSw
                first | (go_simp; done) | (go_simp; with_reducible rfl)
              simp only [List.set_cons_zero, List.set_cons_succ]
              refine wpAnyH_ready (rs := [10]) (by kernel_rfl) (by simp) ?_
              refine AllReadyH.cons rfl (fun K hK => ?_) AllReadyH.nil
              go_simp
              go_wp2_with (go_at_call 9; refine (Ky _).mono ?_; rintro r w13 ⟨rfl, hbw13⟩)
              have Hw13 : Hid (Below wV.heap.size wV w13) := below_seq Hw12.out hbw13
              refine hK.out _ _ (HS.out _ Hw13.out) (fun hHeld => ?_)
              clear hK K hbw13
              refine wpAnyH_ready (rs := [13]) (by kernel_rfl) (by simp) ?_
              refine AllReadyH.cons rfl (fun K hK => ?_) AllReadyH.nil
              go_simp
              go_wp2_with (go_at_call 9; refine (Kx _).mono ?_; rintro r w14 ⟨rfl, hbw14⟩)
              have Hw14 : Hid (Below wV.heap.size wV w14) := below_seq Hw13.out hbw14
              refine hK.out _ _ (HS.out _ Hw14.out) (fun hHeld => ?_)
              clear hK K hbw14
              refine take_at (i := 14) (n := 50) (v := ?_) rfl rfl (by kernel_rfl) (by kernel_rfl) (by kernel_rfl) (fun _ _ _ h => h) (Or.inl ⟨by rfl, ?_⟩) (by assumption) ?_
              rotate_left 1
              · intro wz hSw
                obtain ⟨s0, s1, s2, s3, s4, s5, s6, s7, s8, s9, s10, s11, s12, s13⟩ := hSw
                first | (go_simp; done) | (go_simp; with_reducible rfl)
              simp only [List.set_cons_zero, List.set_cons_succ]
              refine take_at (i := 15) (n := 51) (v := ?_) rfl rfl (by kernel_rfl) (by kernel_rfl) (by kernel_rfl) (fun _ _ _ h => h) (Or.inl ⟨by rfl, ?_⟩) (by assumption) ?_
              rotate_left 1
              · intro wz hSw
                obtain ⟨s0, s1, s2, s3, s4, s5, s6, s7, s8, s9, s10, s11, s12, s13⟩ := hSw
                first | (go_simp; done) | (go_simp; with_reducible rfl)
              simp only [List.set_cons_zero, List.set_cons_succ]
              refine take_at (i := 16) (n := 52) (v := undef) rfl rfl (by kernel_rfl) (by kernel_rfl) (by kernel_rfl) (fun _ _ _ h => h) (Or.inr ⟨by rfl, rfl⟩) (by assumption) ?_
              simp only [List.set_cons_zero, List.set_cons_succ]
              refine take_at (i := 17) (n := 53) (v := undef) rfl rfl (by kernel_rfl) (by kernel_rfl) (by kernel_rfl) (fun _ _ _ h => h) (Or.inr ⟨by rfl, rfl⟩) (by assumption) ?_
              simp only [List.set_cons_zero, List.set_cons_succ]
              refine take_at (i := 18) (n := 54) (v := undef) rfl rfl (by kernel_rfl) (by kernel_rfl) (by kernel_rfl) (fun _ _ _ h => h) (Or.inr ⟨by rfl, rfl⟩) (by assumption) ?_
              simp only [List.set_cons_zero, List.set_cons_succ]
              refine take_at (i := 19) (n := 55) (v := ?_) rfl rfl (by kernel_rfl) (by kernel_rfl) (by kernel_rfl) (fun _ _ _ h => h) (Or.inl ⟨by rfl, ?_⟩) (by assumption) ?_
              rotate_left 1
              · intro wz hSw
                obtain ⟨s0, s1, s2, s3, s4, s5, s6, s7, s8, s9, s10, s11, s12, s13⟩ := hSw
                first | (go_simp; done) | (go_simp; with_reducible rfl)
              simp only [List.set_cons_zero, List.set_cons_succ]
              refine take_at (i := 20) (n := 56) (v := ?_) rfl rfl (by kernel_rfl) (by kernel_rfl) (by kernel_rfl) (fun _ _ _ h => h) (Or.inl ⟨by rfl, ?_⟩) (by assumption) ?_
              rotate_left 1
              · intro wz hSw
                obtain ⟨s0, s1, s2, s3, s4, s5, s6, s7, s8, s9, s10, s11, s12, s13⟩ := hSw
                first | (go_simp; done) | (go_simp; with_reducible rfl)
              simp only [List.set_cons_zero, List.set_cons_succ]
              refine wpAnyH_done (by kernel_rfl) ?_ _
              refine NoPanic.normal ?_
              clear hHeld
              go_wp2_with fail
              exact ⟨⟨k + 1, by omega, by simp, by rw [HN.out]; first | rfl | (congr 1; omega), HL.out.1.trans ((below_seq HBV.out Hw14.out).mono HL.out.2)⟩, by simp [intOf]; omega⟩
        · have hke : k = l.length := by omega
          subst hke
          have hsz : wo.heap.size + 1 ≤ wv.heap.size := by have := hbl.size; simp at this; omega
          have hcnt := bhN_le (fun x : Ta => x.t) l i l.length
          have hO2 := r_below HO.out.2 hbo
          have hat := hO2.cellAt (i * 7 + 6) (by omega)
          rw [flat_at Ta.vals 7 Ta.len _ _ 6 _ (rkL_at (fun x : Ta => x.t) l i hlt) (by omega)] at hat
          have hfz := r_free (q := i * 7 + 6) hO2
          have hgl := r_lt hO2
          rw [HX.out] at hat
          have hat' : wv.cell? ⟨g, i * 7 + 6, none⟩ = some (.int .i64 xp) := hat
          have HP : Hid ((rkL (fun x : Ta => x.t) l (i + 1)).flatMap Ta.vals = ((rkL (fun x : Ta => x.t) l i).flatMap Ta.vals).set (i * 7 + 6) (.int .i64 (1 + (bhN (fun x : Ta => x.t) l i l.length : Int))) ∧ FB w wv w.heap.size ∧ wv.ownsRow (w.heap.size + 1) 30 7 (.slice (some ⟨g, 0, none⟩) l.length cap) l.length ((rkL (fun x : Ta => x.t) l i).flatMap Ta.vals) ∧ w.heap.size + 1 ≤ g) := ⟨by rw [← rkL_set (fun x : Ta => x.t) l i hlt]; exact r_setP _ _ _ _ (rkL_at (fun x : Ta => x.t) l i hlt), HO.out.1.grow hbo, hO2, r_low hO2⟩
          generalize hn : bhN (fun x : Ta => x.t) l i l.length = cn at *
          clear hO2 hat hbl hbo hn
          have hgw : w.heap.size ≤ g := by have := HP.out.2.2.2; omega
          go_wp2_with fail
          refine ⟨⟨i + 1, by omega, by simp, ⟨HP.out.2.1.bel.setCell hgw _, ?_, Nat.le_refl _⟩, ?_⟩, by simp [intOf]; omega⟩
          · rw [Below.heap_setCell _ _ _ _ (by have := HP.out.2.2.2; show ¬ (w.heap.size = g); omega)]
            exact HP.out.2.1.res
          · rw [HP.out.1]
            exact r_put HP.out.2.2.1
    · have hie : i = l.length := by omega
      subst hie
      have HO : Hid (FB w wr w.heap.size ∧ RowSl Ta.vals wr (rkL (fun x : Ta => x.t) l l.length) (.slice (some ⟨g, 0, none⟩) l.length cap)) := ⟨hf, r_row hown (rkL_len _ _ _ (Nat.le_refl _))⟩
      have hgw : w.heap.size + 1 ≤ g := r_low hown
      obtain ⟨r10, r11, f10, f11, rl⟩ := hf.res2
      clear hf hown
      go_wp2_with fail
      refine bodyPost_ret (Ranked_ends (set_two HO.out.1.res) rfl rfl) rfl ?_
      exact ⟨_, rfl, r_keep2 HO.out.2 (by omega), HO.out.1.set _ _⟩
end Go.Proofs.YtcgncdpohaoejafDoor
