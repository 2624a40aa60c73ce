import Derived.Test.YtkafihaajpifoajCR
namespace Go.Proofs.Ytkafihaajpifoaj
open Go.ChangeShapes Go.WideShapes Go.ChangeAt Go.RowKit Go.Sort

/-- The fault's block, and the row that grows. -/
structure RO (w W : World) (acc : List Int) (av : Value) : Prop where
  fb : FB w W w.heap.size
  row : W.ownsRow (w.heap.size + 1) 3 1 av acc.length (acc.flatMap nuV)

theorem RO.grow {w W W' : World} {acc : List Int} {av : Value} (h : RO w W acc av) (hb : Below W.heap.size W W') : RO w W' acc av := ⟨h.fb.grow hb, ownsRow_below h.row hb⟩

theorem RO.push {w W : World} {acc : List Int} {av : Value} (h : RO w W acc av) (x : Int) (hl : acc.length ≤ 100000) :
    ∃ ad c w4, (Builtin.append_ #[24, 24] 24 #[av, .slice (some ⟨W.heap.size, 0, none⟩) 1 1]).run Try.prog (W.alloc (.cells #[.int .i64 x] 3)) = .ok (.slice ad (acc.length + 1) c) w4 ∧ RO w w4 (acc ++ [x]) (.slice ad (acc.length + 1) c) := by
  obtain ⟨i0, hi0, hz0, hz1, hz2⟩ := info_parts infoNu
  have h1 := h.grow (below_new W (.cells #[.int .i64 x] 3))
  have hlt := h.fb.lt
  obtain ⟨v4, w4, hrun, ho4, hg4, -, hv4⟩ := run_append_own_at (P := Try.prog) (w := W.alloc (.cells #[.int .i64 x] 3)) (w.heap.size + 1) 24 24 3 i0 _ 1 8 Try.underlying24 hi0 hz0 hz1 hz2 rfl (by decide) av acc.length (acc.flatMap nuV) h1.row ⟨W.heap.size, 0, none⟩ 1 1 (nuV x) rfl (fun j u hj => by rw [Addr.add_lit]; have := (cells_of (l := nuV x) (heap_alloc_new W (.cells #[.int .i64 x] 3))).1 j u hj; simpa using this) (fun u hu => by simp [nuV] at hu; subst hu; rfl) (by unfold maxLen; omega) (by omega) (by simp; omega)
  obtain ⟨ad, c, rfl⟩ := owns_value ho4
  have hne : ∀ k, k < w.heap.size + 1 → some k ≠ av.ownBlock := fun k hk e => by have := (h.row.lt k e.symm).1; omega
  have hold : ∀ k, k < W.heap.size → some k ≠ av.ownBlock → w4.heap[k]? = W.heap[k]? := fun k hk hn => (hg4.block k (by simp; omega) hn).trans (Below.heap_alloc _ _ _ hk)
  have hbel : Below (w.heap.size + 1) W w4 := ((below_new W _).mono (by omega)).grown hg4 (by simp; omega) (fun k hk => (h.row.lt k hk).1)
  refine ⟨ad, c, w4, hrun, ⟨h.fb.bel.trans (hbel.mono (by omega)), (hold _ hlt (hne _ (by omega))).trans h.fb.res, Nat.le_refl _⟩, ?_⟩
  rw [List.length_append, show (acc ++ [x]).flatMap nuV = acc.flatMap nuV ++ nuV x by simp]
  exact ho4

set_option maxRecDepth 20000 in
set_option maxHeartbeats 4000000 in
theorem RoundOf_any (w : World) (l : List Ro) (f : Int) (d : List Int) (v vd : Value) (hv : TabSl w l v) (hd : RowSl nuV w d vd) : Calls Try.prog 14 #[v, .int .i64 f, vd] w (RndPost w (l.map Ro.xs) f d) := by
  obtain ⟨ad, c, rfl⟩ := hv.1.len
  obtain ⟨ad2, c2, rfl⟩ := hd.len
  have HF : Hid (FB w (w.alloc (.cells #[.int .i64 0, .int .i64 0] 29)) w.heap.size) := FB.start w
  by_cases h1 : l.length = 0
  · have e : rndF (l.map Ro.xs) f d = ([], 2, 0) := by rw [rndF, if_pos (by rw [List.length_map]; omega)]
    rw [h1]
    clear hv hd
    go_enter Try.func14, Try.ntmps14
    go_wp2_with (go_at_call 26; refine (F_any _ _ _).mono ?_; rintro r w9 ⟨rfl, hb9⟩; have H9 : Hid (FB w w9 w.heap.size) := HF.out.grow hb9; have lg9 : w.heap.size < w9.heap.size := H9.out.lt; obtain ⟨ps, pf, pl⟩ := cells_of (l := [_, _]) H9.out.res; have p0 := ps 0 _ rfl; have p1 := ps 1 _ rfl; have pf0 := pf 0; have pf1 := pf 1; clear ps pf hb9)
    refine bodyPost_ret (RoundOf_ends (g := w.heap.size) (c := .int .i64 2) (k := .int .i64 0) (v := .slice none 0 0) (set_two H9.out.res) rfl rfl) rfl ?_
    exact RndPost.bad e (H9.out.set _ _)
  have f1 : ((l.length : Int) == 0) = false := beq_eq_false_iff_ne.2 (by omega)
  have f2 : decide ((l.length : Int) = 0) = false := decide_eq_false (by omega)
  by_cases h2 : 10 < l.length
  · have e : rndF (l.map Ro.xs) f d = ([], 2, 0) := by rw [rndF, if_pos (by rw [List.length_map]; omega)]
    have f3 : decide ((10 : Int) < (l.length : Int)) = true := by simp; omega
    clear hv hd
    go_enter Try.func14, Try.ntmps14
    go_wp2_with (go_at_call 26; refine (F_any _ _ _).mono ?_; rintro r w9 ⟨rfl, hb9⟩; have H9 : Hid (FB w w9 w.heap.size) := HF.out.grow hb9; have lg9 : w.heap.size < w9.heap.size := H9.out.lt; obtain ⟨ps, pf, pl⟩ := cells_of (l := [_, _]) H9.out.res; have p0 := ps 0 _ rfl; have p1 := ps 1 _ rfl; have pf0 := pf 0; have pf1 := pf 1; clear ps pf hb9)
    refine bodyPost_ret (RoundOf_ends (g := w.heap.size) (c := .int .i64 2) (k := .int .i64 0) (v := .slice none 0 0) (set_two H9.out.res) rfl rfl) rfl ?_
    exact RndPost.bad e (H9.out.set _ _)
  have f3 : decide ((10 : Int) < (l.length : Int)) = false := by simp; omega
  by_cases h3 : d.length = l.length
  rotate_left 1
  · have e : rndF (l.map Ro.xs) f d = ([], 2, 0) := by rw [rndF, if_pos (by rw [List.length_map]; omega)]
    have g1 : ((d.length : Int) != (l.length : Int)) = true := by simp; omega
    have g2 : ((d.length : Int) == (l.length : Int)) = false := beq_eq_false_iff_ne.2 (by omega)
    have g3 : decide ((d.length : Int) = (l.length : Int)) = false := decide_eq_false (by omega)
    clear hv hd
    go_enter Try.func14, Try.ntmps14
    go_wp2_with (go_at_call 26; refine (F_any _ _ _).mono ?_; rintro r w9 ⟨rfl, hb9⟩; have H9 : Hid (FB w w9 w.heap.size) := HF.out.grow hb9; have lg9 : w.heap.size < w9.heap.size := H9.out.lt; obtain ⟨ps, pf, pl⟩ := cells_of (l := [_, _]) H9.out.res; have p0 := ps 0 _ rfl; have p1 := ps 1 _ rfl; have pf0 := pf 0; have pf1 := pf 1; clear ps pf hb9)
    refine bodyPost_ret (RoundOf_ends (g := w.heap.size) (c := .int .i64 2) (k := .int .i64 0) (v := .slice none 0 0) (set_two H9.out.res) rfl rfl) rfl ?_
    exact RndPost.bad e (H9.out.set _ _)
  rw [h3] at hd ⊢
  have HV : Hid (TabSl w l (.slice ad l.length c) ∧ RowSl nuV w d (.slice ad2 l.length c2) ∧ d.length = l.length ∧ ¬ (l.length = 0 ∨ 10 < l.length)) := ⟨hv, hd, h3, by omega⟩
  have hl10 : l.length ≤ 10 := by omega
  clear hv hd h1 h2 h3 HF
  go_enter Try.func14, Try.ntmps14
  go_wp2_with fail
  go_loopw [8, 31] (fun ov i wr => ∃ j : Nat, j ≤ l.length ∧ i = .int .i64 (j : Int) ∧ RO w wr ((rndL f (l.map Ro.xs) d).take j) ov ∧ Hid (rndE l.length f ((l.map Ro.xs).drop j) (d.drop j) j = rndE l.length f (l.map Ro.xs) d 0)) (fun _ i _ => l.length - (intOf i).toNat)
  case atStart => exact ⟨0, Nat.zero_le _, rfl, ⟨FB.start w, by rw [List.take_zero]; exact ⟨rfl, .inl ⟨rfl, rfl⟩⟩⟩, rfl⟩
  case round =>
    obtain ⟨j, hj, rfl, htw, HQ⟩ := hrel
    obtain ⟨oad, oc, rfl⟩ := owns_value htw.row
    have HT : Hid (RO w wr ((rndL f (l.map Ro.xs) d).take j) (.slice oad ((rndL f (l.map Ro.xs) d).take j).length oc)) := htw
    have HF : Hid (FB w wr w.heap.size) := htw.fb
    by_cases hjl : j < l.length
    · obtain ⟨x, hx, -⟩ := drop_at hjl
      have hjd : j < d.length := by have := HV.out.2.2.1; omega
      obtain ⟨y, hy, hdy⟩ := drop_at hjd
      have hjm : j < (l.map Ro.xs).length := by rw [List.length_map]; exact hjl
      obtain ⟨x', hx', hdx⟩ := drop_at hjm
      have hxx : x' = x.xs := by rw [List.getElem?_map, hx] at hx'; exact (Option.some.inj hx').symm
      subst hxx
      obtain ⟨ad', c', he, -, hcap, hrow⟩ := HV.out.1.1.below htw.fb.bel
      cases he
      rcases hrow with h | ⟨b, o, rfl, hrow⟩
      · rw [h] at hjl; simp at hjl
      obtain ⟨ad2', c2', he2, -, hcap2, hrow2⟩ := HV.out.2.1.below htw.fb.bel
      rw [HV.out.2.2.1] at he2
      cases he2
      rcases hrow2 with h | ⟨b2, o2, rfl, hrow2⟩
      · rw [h] at hjd; simp at hjd
      have c0 := ro_at hrow hx
      have y0 := nu_at hrow2 hy
      have rx := (HV.out.1.2 x (List.mem_of_getElem? hx)).below htw.fb.bel
      have HM := MiddleOf_any wr x.xs f x.v rx
      obtain ⟨xa, xc, hxe⟩ := rx.len
      rw [hxe] at c0 HM
      have lb : b < wr.heap.size := World.block_lt_of_cell? _ _ c0
      have lb2 : b2 < wr.heap.size := World.block_lt_of_cell? _ _ y0
      have hji : (j : Int) < (l.length : Int) := by omega
      have hE := HQ.out
      rw [rndE_at hdx hdy] at hE
      have HX : Hid ((l.map Ro.xs)[j]? = some x.xs ∧ d[j]? = some y) := ⟨hx', hy⟩
      have hLl : ((rndL f (l.map Ro.xs) d).take j).length = j := by rw [List.length_take, rndL_len (by rw [List.length_map]; exact HV.out.2.2.1), List.length_map]; omega
      clear hrow hrow2 hx hy hx' hdx hdy htw HQ hxe rx
      by_cases n1 : x.xs.length = l.length
      rotate_left 1
      · rw [if_pos (.inl n1)] at hE
        have HE : Hid (rndF (l.map Ro.xs) f d = ([], 3, (j : Int))) := by show _ = _; rw [rndF, if_neg (by rw [List.length_map]; have h8 := HV.out.2.2; omega), List.length_map, ← hE, if_neg (show ¬ ((3 : Int) = 0) by decide)]
        have g1 : ((x.xs.length : Int) != (l.length : Int)) = true := by simp; omega
        have g2 : ((x.xs.length : Int) == (l.length : Int)) = false := beq_eq_false_iff_ne.2 (by omega)
        have g3 : decide ((x.xs.length : Int) = (l.length : Int)) = false := decide_eq_false (by omega)
        clear hE HM
        go_wp2_with (go_at_call 26; refine (F_any _ _ _).mono ?_; rintro r w9 ⟨rfl, hb9⟩; have H9 : Hid (FB w w9 w.heap.size) := HF.out.grow hb9; have lg9 : w.heap.size < w9.heap.size := H9.out.lt; obtain ⟨ps, pf, pl⟩ := cells_of (l := [_, _]) H9.out.res; have p0 := ps 0 _ rfl; have p1 := ps 1 _ rfl; have pf0 := pf 0; have pf1 := pf 1; clear ps pf hb9)
        refine bodyPost_ret (RoundOf_ends (g := w.heap.size) (c := .int .i64 3) (k := .int .i64 (j : Int)) (v := .slice none 0 0) (set_two H9.out.res) rfl rfl) rfl ?_
        exact RndPost.bad HE.out (H9.out.set _ _)
      rw [n1] at c0 HM
      by_cases n2 : y < -1099511627776
      · rw [if_pos (.inr (by simp [nearB, within]; omega))] at hE
        have HE : Hid (rndF (l.map Ro.xs) f d = ([], 3, (j : Int))) := by show _ = _; rw [rndF, if_neg (by rw [List.length_map]; have h8 := HV.out.2.2; omega), List.length_map, ← hE, if_neg (show ¬ ((3 : Int) = 0) by decide)]
        have g1 : decide (y < -1099511627776) = true := by simp [n2]
        clear hE HM
        go_wp2_with (go_at_call 26; refine (F_any _ _ _).mono ?_; rintro r w9 ⟨rfl, hb9⟩; have H9 : Hid (FB w w9 w.heap.size) := HF.out.grow hb9; have lg9 : w.heap.size < w9.heap.size := H9.out.lt; obtain ⟨ps, pf, pl⟩ := cells_of (l := [_, _]) H9.out.res; have p0 := ps 0 _ rfl; have p1 := ps 1 _ rfl; have pf0 := pf 0; have pf1 := pf 1; clear ps pf hb9)
        refine bodyPost_ret (RoundOf_ends (g := w.heap.size) (c := .int .i64 3) (k := .int .i64 (j : Int)) (v := .slice none 0 0) (set_two H9.out.res) rfl rfl) rfl ?_
        exact RndPost.bad HE.out (H9.out.set _ _)
      have g1 : decide (y < -1099511627776) = false := decide_eq_false n2
      by_cases n4 : 1099511627776 < y
      · rw [if_pos (.inr (by simp [nearB, within]; omega))] at hE
        have HE : Hid (rndF (l.map Ro.xs) f d = ([], 3, (j : Int))) := by show _ = _; rw [rndF, if_neg (by rw [List.length_map]; have h8 := HV.out.2.2; omega), List.length_map, ← hE, if_neg (show ¬ ((3 : Int) = 0) by decide)]
        have g2 : decide (1099511627776 < y) = true := by simp [n4]
        clear hE HM
        go_wp2_with (go_at_call 26; refine (F_any _ _ _).mono ?_; rintro r w9 ⟨rfl, hb9⟩; have H9 : Hid (FB w w9 w.heap.size) := HF.out.grow hb9; have lg9 : w.heap.size < w9.heap.size := H9.out.lt; obtain ⟨ps, pf, pl⟩ := cells_of (l := [_, _]) H9.out.res; have p0 := ps 0 _ rfl; have p1 := ps 1 _ rfl; have pf0 := pf 0; have pf1 := pf 1; clear ps pf hb9)
        refine bodyPost_ret (RoundOf_ends (g := w.heap.size) (c := .int .i64 3) (k := .int .i64 (j : Int)) (v := .slice none 0 0) (set_two H9.out.res) rfl rfl) rfl ?_
        exact RndPost.bad HE.out (H9.out.set _ _)
      have g2 : decide (1099511627776 < y) = false := decide_eq_false n4
      have n5 : nearB y = true := by simp [nearB, within]; omega
      rw [if_neg (by simp [n1, n5])] at hE
      by_cases n3 : (midF x.xs f).2 = 0
      rotate_left 1
      · rw [if_pos n3] at hE
        have HE : Hid (rndF (l.map Ro.xs) f d = ([], (midF x.xs f).2, (j : Int))) := by show _ = _; rw [rndF, if_neg (by rw [List.length_map]; have h8 := HV.out.2.2; omega), List.length_map, ← hE, if_neg n3]
        obtain ⟨m1, hm1⟩ : ∃ m1, (midF x.xs f).1 = m1 := ⟨_, rfl⟩
        obtain ⟨m2, hm2⟩ : ∃ m2, (midF x.xs f).2 = m2 := ⟨_, rfl⟩
        rw [hm1, hm2] at HM
        rw [hm2] at HE n3
        have k1 : (m2 != 0) = true := by simpa using n3
        have k2 : (m2 == 0) = false := by simpa using n3
        have k3 : decide (m2 = 0) = false := by simpa using n3
        clear hE n3 hm1 hm2 HF n5
        go_wp2_with (first | (go_at_call 19; refine HM.mono ?_; rintro r w5 ⟨rfl, hb5⟩; have H5 : Hid (RO w w5 ((rndL f (l.map Ro.xs) d).take j) (.slice oad ((rndL f (l.map Ro.xs) d).take j).length oc)) := HT.out.grow hb5; have HF : Hid (FB w w5 w.heap.size) := H5.out.fb; have lg5 : w.heap.size < w5.heap.size := HF.out.lt; have y5 := below_cell hb5 y0; have lb5 : b2 < w5.heap.size := World.block_lt_of_cell? _ _ y5; clear hb5 HM) | (go_at_call 26; refine (F_any _ _ _).mono ?_; rintro r w9 ⟨rfl, hb9⟩; have H9 : Hid (FB w w9 w.heap.size) := HF.out.grow hb9; have lg9 : w.heap.size < w9.heap.size := H9.out.lt; obtain ⟨ps, pf, pl⟩ := cells_of (l := [_, _]) H9.out.res; have p0 := ps 0 _ rfl; have p1 := ps 1 _ rfl; have pf0 := pf 0; have pf1 := pf 1; clear ps pf hb9))
        refine bodyPost_ret (RoundOf_ends (g := w.heap.size) (c := .int .i64 m2) (k := .int .i64 (j : Int)) (v := .slice none 0 0) (set_two H9.out.res) rfl rfl) rfl ?_
        exact RndPost.bad HE.out (H9.out.set _ _)
      rw [if_neg (by simpa using n3)] at hE
      have HE : Hid (rndE l.length f ((l.map Ro.xs).drop (j + 1)) (d.drop (j + 1)) (j + 1) = rndE l.length f (l.map Ro.xs) d 0) := hE
      have hL := rndL_take (f := f) HX.out.1 HX.out.2
      obtain ⟨m1, hm1⟩ : ∃ m1, (midF x.xs f).1 = m1 := ⟨_, rfl⟩
      rw [hm1, n3] at HM
      rw [hm1] at hL
      obtain ⟨sm, hsm⟩ : ∃ sm, IntKind.i64.wrap (m1 + y) = sm := ⟨_, rfl⟩
      rw [hsm] at hL
      have HLL : Hid ((rndL f (l.map Ro.xs) d).take (j + 1) = (rndL f (l.map Ro.xs) d).take j ++ [sm] ∧ ((rndL f (l.map Ro.xs) d).take j).length = j) := ⟨hL, hLl⟩
      rw [hLl] at HT
      clear hE n3 hm1 hL hLl HF n5
      rw [HLL.out.2]
      go_wp2_with (first | (go_at_call 19; refine HM.mono ?_; rintro r w5 ⟨rfl, hb5⟩; obtain ⟨nad, nc, w6, hrun6, hro6⟩ := (HT.out.grow hb5).push sm (by rw [HLL.out.2]; omega); rw [HLL.out.2] at hrun6; have H6 : Hid (_ = _) := hrun6; have H7 : Hid (RO w w6 ((rndL f (l.map Ro.xs) d).take j ++ [sm]) (.slice nad (((rndL f (l.map Ro.xs) d).take j).length + 1) nc)) := hro6; have y5 := below_cell hb5 y0; have lb5 : b2 < w5.heap.size := World.block_lt_of_cell? _ _ y5; clear hb5 HM hrun6 hro6) | (at_builtin; refine append_known rfl (.tmp 68) (.tmp 75) 24 rfl rfl rfl H6.out ?_))
      have hp := H7.out
      rw [← HLL.out.1, HLL.out.2] at hp
      exact ⟨⟨j + 1, by omega, by simp, hp, HE⟩, by simp [intOf]; omega⟩
    · have hje : j = l.length := by omega
      subst hje
      have hE := HQ.out
      rw [List.drop_eq_nil_of_le (by rw [List.length_map]; exact Nat.le_refl _), rndE_nil] at hE
      have HE : Hid (rndF (l.map Ro.xs) f d = (rndL f (l.map Ro.xs) d, 0, 0)) := by show _ = _; rw [rndF, if_neg (by rw [List.length_map]; have h8 := HV.out.2.2; omega), List.length_map, ← hE, if_pos rfl]
      obtain ⟨qs, qf, ql⟩ := cells_of (l := [_, _]) htw.fb.res
      have q0 := qs 0 _ rfl
      have q1 := qs 1 _ rfl
      have qf0 := qf 0
      have qf1 := qf 1
      clear qs qf hE HQ htw
      go_wp2_with fail
      refine bodyPost_ret (RoundOf_ends (g := w.heap.size) (c := .int .i64 0) (k := .int .i64 0) (v := .slice oad ((rndL f (l.map Ro.xs) d).take l.length).length oc) (set_two HT.out.fb.res) rfl rfl) rfl ?_
      refine ⟨_, by rw [HE.out], ?_, HT.out.fb.set _ _⟩
      rw [HE.out]
      have htk : (rndL f (l.map Ro.xs) d).take l.length = rndL f (l.map Ro.xs) d := List.take_of_length_le (by rw [rndL_len (by rw [List.length_map]; exact HV.out.2.2.1), List.length_map]; exact Nat.le_refl _)
      have hr : RowSl nuV ((wr.setCell ⟨w.heap.size, 0, none⟩ (.int .i64 0)).setCell ⟨w.heap.size, 1, none⟩ (.int .i64 0)) ((rndL f (l.map Ro.xs) d).take l.length) (.slice oad ((rndL f (l.map Ro.xs) d).take l.length).length oc) := (rowOfN_own HT.out.row).keep fun k hk => by
        have := (HT.out.row.lt k hk).1
        rw [Below.heap_setCell _ _ _ _ (show k ≠ w.heap.size by omega), Below.heap_setCell _ _ _ _ (show k ≠ w.heap.size by omega)]
      rw [htk] at hr ⊢
      exact hr
end Go.Proofs.Ytkafihaajpifoaj
