import Derived.Test.YtcgncdpohaoejafDoorRD
namespace Go.Proofs.YtcgncdpohaoejafDoor
open Go.ChangeShapes Go.WideShapes Go.ChangeAt Go.RowKit

/-- Another task behind a row of one's own. -/
theorem push_ta (W : World) (B : Nat) (acc : List Ta) (v : Value) (y : Ta) (hl : acc.length ≤ 1000000) (hB : B ≤ W.heap.size) (h : W.ownsRow B 30 7 v acc.length (acc.flatMap Ta.vals)) : ∃ v' W', (Builtin.append_ #[22, 22] 22 #[v, .slice (some ⟨W.heap.size, 0, none⟩) 1 1]).run Tryd.prog (W.alloc (.cells #[.string y.nm, .int .i64 y.c, .int .i64 y.t, .int .i64 y.d, .int .i64 y.j, .int .i64 y.o, .int .i64 y.p] 30)) = .ok v' W' ∧ W'.ownsRow B 30 7 v' (acc ++ [y]).length ((acc ++ [y]).flatMap Ta.vals) ∧ ∀ C, C ≤ B → Below C W W' := by
  obtain ⟨i0, hi0, hz0, hz1, hz2⟩ := info_parts infoTa
  have hb0 := below_new W (.cells #[.string y.nm, .int .i64 y.c, .int .i64 y.t, .int .i64 y.d, .int .i64 y.j, .int .i64 y.o, .int .i64 y.p] 30)
  obtain ⟨v', W', hrun, ho, hg, -, hu⟩ := run_append_own_at (P := Tryd.prog) (w := W.alloc (.cells #[.string y.nm, .int .i64 y.c, .int .i64 y.t, .int .i64 y.d, .int .i64 y.j, .int .i64 y.o, .int .i64 y.p] 30)) B 22 22 30 i0 _ 7 64 Tryd.underlying22 hi0 hz0 hz1 hz2 rfl (by decide) v acc.length (acc.flatMap Ta.vals) (r_below h hb0) ⟨W.heap.size, 0, none⟩ 1 1 y.vals rfl (fun j u hj => by rw [Addr.add_lit]; have := (cells_of (l := y.vals) (heap_alloc_new W (.cells #[.string y.nm, .int .i64 y.c, .int .i64 y.t, .int .i64 y.d, .int .i64 y.j, .int .i64 y.o, .int .i64 y.p] 30))).1 j u hj; simpa using this) (fun u hu => Ta.one hu) (by unfold maxLen; omega) (by omega) (by simp; omega)
  refine ⟨v', W', hrun, by rw [List.length_append, List.flatMap_append]; simpa using ho, fun C hC => ?_⟩
  refine (hb0.mono (by omega)).trans ((Below.refl _ _).grown hg (by simp; omega) (fun k hk => ?_))
  obtain ⟨-, ⟨e, -⟩ | ⟨g, cap, cur, e, hB2, -⟩⟩ := h
  · rw [e] at hk; cases hk
  · rw [e] at hk; cases hk; exact Nat.le_trans hC hB2

theorem r_owns {w : World} {B n size : Nat} {e : TypeId} {v : Value} {xs : List Value} (h : w.ownsRow B e size v n xs) : ∃ ad c, v = .slice ad n c := by
  obtain ⟨hl, ⟨h, hn⟩ | ⟨g, cap, cur, he, -⟩⟩ := h
  · exact ⟨none, 0, by rw [h]; simp_all⟩
  · exact ⟨_, _, he⟩

theorem r_rowv {w : World} {B : Nat} {m : List Ta} {v : Value} (h : w.ownsRow B 30 7 v m.length (m.flatMap Ta.vals)) : RowSl Ta.vals w m v := by
  have h' := h
  obtain ⟨h1, ⟨h2, h3⟩ | ⟨g', cap', cur, e1, -⟩⟩ := h
  · have : m = [] := List.eq_nil_of_length_eq_zero h3
    subst this
    rw [h2]
    exact RowSl.nil _ _
  · subst e1
    exact r_row h' rfl

theorem worst_nonneg (A : Nat → Bool) (l : List Ta) (i : Nat) (b : Int) (h : stands (Tk l i) = true) : 0 ≤ worstF A l i b := by
  have hs : 0 ≤ (Tk l i).j ∧ 1 ≤ (Tk l i).d := by
    simp [stands, within] at h
    omega
  exact (wOf_range hs.1 (by omega)).1

set_option maxRecDepth 20000 in
set_option maxHeartbeats 8000000 in
theorem Assigned_good (w : World) (l : List Ta) (v v2 : Value) (bs : List Int) (hS : ∀ x ∈ l, x.nm.size ≤ 9223372036854775807) (h0 : (chkX l).1 = 0) (he : bs.length = l.length) (hb : ∀ b ∈ bs, 0 ≤ b ∧ b ≤ 10000) (hv : RowSl Ta.vals w l v) (hv2 : RowSl nuV w bs v2) : Calls Tryd.prog 15 #[v, v2] w fun r w' => ∃ u z, r = .returned (.tuple #[u, .agg #[.int .i64 z, .int .i64 0]]) ∧ ((asgF l bs l.length (List.range l.length) l 0 = none ∧ z = 13 ∧ u = .slice none 0 0) ∨ (∃ m, asgF l bs l.length (List.range l.length) l 0 = some m ∧ z = 0 ∧ RowSl Ta.vals w' m u)) ∧ Below w.heap.size w w' := by
  have HF : Hid (FB w (w.alloc (.cells #[.int .i64 0, .int .i64 0] 26)) w.heap.size) := FB.start w
  have HC := CheckFixed_any (w.alloc (.cells #[.int .i64 0, .int .i64 0] 26)) l v hS (hv.below (below_new _ _))
  obtain ⟨-, -, hl0, hl8, hst, hX0⟩ := chkX_ok h0
  rw [hX0] at HC
  have HV : Hid (RowSl Ta.vals w l v ∧ (∀ x ∈ l, stands x = true) ∧ bs.length = l.length ∧ (∀ b ∈ bs, 0 ≤ b ∧ b ≤ 10000)) := ⟨hv, hst, he, hb⟩
  obtain ⟨ad, c, rfl, -, hcap, hrow⟩ := hv
  rcases hrow with hrow | ⟨b, o, rfl, hrow⟩
  · rw [hrow] at hl0; simp at hl0
  obtain ⟨ad2, c2, rfl, -, hcap2, hrow2⟩ := hv2
  rcases hrow2 with hrow2 | ⟨b2, o2, rfl, hrow2⟩
  · rw [hrow2] at he; simp at he; omega
  have HR : Hid ((∀ q u, (l.flatMap Ta.vals)[q]? = some u → w.cell? ⟨b, o + q, none⟩ = some u) ∧ (∀ q u, (bs.flatMap nuV)[q]? = some u → w.cell? ⟨b2, o2 + q, none⟩ = some u)) := ⟨hrow, hrow2⟩
  rw [he] at hcap2 ⊢
  have KW := AtWorst_any
  unfold Ta.val at KW
  clear hrow hrow2 hb he hst h0 hS hX0
  go_enter Tryd.func15, Tryd.ntmps15
  go_wp2_with (go_at_call 35; refine HC.mono ?_; rintro r w1 ⟨rfl, hb1⟩; have H1 : Hid (FB w w1 w.heap.size) := HF.out.grow hb1; clear hb1 HC)
  go_loopw [31] (fun vi wr => ∃ i : Nat, i ≤ l.length ∧ vi = .int .i64 i ∧ FB w wr w.heap.size) (fun vi _ => l.length - (intOf vi).toNat)
  case atStart => exact ⟨0, Nat.zero_le _, rfl, H1.out.grow (below_new _ _)⟩
  case round =>
    obtain ⟨i, hi, rfl, hf⟩ := hrel
    by_cases hlt : i < l.length
    · obtain ⟨z, hz, -⟩ := drop_at (l := bs) (k := i) (by rw [HV.out.2.2.1]; exact hlt)
      have c0 := nu_at (fun q u hq => below_cell hf.bel (HR.out.2 q u hq)) hz
      have hii : (i : Int) < (l.length : Int) := by omega
      have hzr := HV.out.2.2.2 z (List.mem_of_getElem? hz)
      have hz1 : ¬ (z < 0) := by omega
      have hz2 : ¬ (10000 < z) := by omega
      have HO : Hid (FB w wr w.heap.size) := hf
      clear hf hz
      go_wp2_with fail
      exact ⟨⟨i + 1, by omega, by simp, HO.out⟩, by simp [intOf]; omega⟩
    · have hie : i = l.length := by omega
      subst hie
      obtain ⟨wq, hwq⟩ : ∃ wq, wq = wr := ⟨_, rfl⟩
      subst hwq
      have HQ : Hid (FB w (wq.alloc (.map #[] 0)) w.heap.size ∧ w.heap.size < wq.heap.size) := ⟨hf.grow (below_new _ _), hf.lt⟩
      clear hf
      have hmm : (Instr.makeMap 54 none).run Tryd.prog wq = .ok (.map (some wq.heap.size)) (wq.alloc (.map #[] 0)) := rfl
      go_wp2_with fail
      clear hmm
      go_loopw [10] (fun _ wr => ∃ (cnt : Nat) (left : List Nat) (out : List Ta) (pm : Nat → Int), cnt + left.length = l.length ∧ FB w wr w.heap.size ∧ MapP wr wq.heap.size cnt pm ∧ Pri l left out pm ∧ asgF l bs left.length left out (cnt : Int) = asgF l bs l.length (List.range l.length) l 0) (fun _ wr => l.length - mapN wr wq.heap.size)
      case atStart => exact ⟨0, List.range l.length, l, fun _ => 0, by simp, HQ.out.1, MapP.start wq, Pri.start l, by rw [List.length_range]; rfl⟩
      case round =>
        obtain ⟨cnt, left, out, pm, hcn, hf, hm, hp, ha⟩ := hrel
        obtain ⟨wm, hwm⟩ : ∃ wm, wm = wr := ⟨_, rfl⟩
        subst hwm
        have hlen := hm.len
        have HM : Hid (FB w wm w.heap.size ∧ MapP wm wq.heap.size cnt pm ∧ Pri l left out pm ∧ asgF l bs left.length left out (cnt : Int) = asgF l bs l.length (List.range l.length) l 0 ∧ mapN wm wq.heap.size = cnt) := ⟨hf, hm, hp, ha, hm.count⟩
        have hml := hm.lt
        clear hf hm hp ha
        by_cases hcl : cnt < l.length
        · have hcli : (cnt : Int) < (l.length : Int) := by omega
          go_wp2_with fail
          go_loopw [10, 11] (fun vf vi wl => ∃ (q : Nat) (f : Int), q ≤ l.length ∧ vi = .int .i64 ((q : Int) - 1) ∧ vf = .int .i64 f ∧ Fnd l bs left q f ∧ Below wm.heap.size wm wl) (fun _ vi _ => (intOf vi + 1).toNat)
          case atStart => exact ⟨l.length, -1, Nat.le_refl _, rfl, rfl, Fnd.start HM.out.2.2.1.rng, Below.refl _ _⟩
          case round =>
            obtain ⟨q, f, hq, rfl, rfl, hfn, hbl⟩ := hrel
            obtain ⟨wi, hwi⟩ : ∃ wi, wi = wr := ⟨_, rfl⟩
            subst hwi
            cases q with
            | zero =>
              have hdn := hfn.done HM.out.2.2.1.srt
              have HW : Hid (FB w wi w.heap.size ∧ MapP wi wq.heap.size cnt pm) := ⟨HM.out.1.grow hbl, HM.out.2.1.grow hbl⟩
              have hlen2 := HW.out.2.len
              obtain ⟨r10, r11, f10, f11, rl⟩ := HW.out.1.res2
              rw [show (((0 : Nat) : Int) - 1) = -1 by omega]
              clear hfn hbl
              rcases hdn with ⟨rfl, hnone⟩ | ⟨a, ha, rfl, hsome⟩
              · have HN : Hid (asgF l bs l.length (List.range l.length) l 0 = none) := by
                  show _ = _
                  rw [← HM.out.2.2.2.1]
                  obtain ⟨n9, h9⟩ : ∃ n9, left.length = n9 + 1 := ⟨left.length - 1, by omega⟩
                  rw [h9, asgF, hnone]
                clear hnone
                go_wp2_with (go_at_call 36; refine (F_any _ _ _).mono ?_; rintro r w2 ⟨rfl, hb2⟩; have H2 : Hid (FB w w2 w.heap.size) := HW.out.1.grow hb2; obtain ⟨s10, s11, t10, t11, sl⟩ := H2.out.res2; clear hb2)
                refine bodyPost_ret (Assigned_ends (set_two H2.out.res) rfl rfl) rfl ?_
                exact ⟨_, 13, rfl, .inl ⟨HN.out, rfl, rfl⟩, H2.out.set _ _⟩
              · have hrg : left[a] < l.length := HM.out.2.2.1.rng _ (List.getElem_mem _)
                have hz0 : pm left[a] = 0 := (HM.out.2.2.1.z _ hrg).1 (List.getElem_mem _)
                obtain ⟨W', hput, hm', hg'⟩ := HW.out.2.put left[a] ((cnt : Int) + 1) (by omega) hz0 (by omega) (by omega) (by omega)
                have HP : Hid (FB w W' w.heap.size ∧ MapP W' wq.heap.size (cnt + 1) (fun k => if k = left[a] then (cnt : Int) + 1 else pm k) ∧ Pri l (left.eraseIdx a) (setP out (left.getD a 0) ((cnt : Int) + 1)) (fun k => if k = left[a] then (cnt : Int) + 1 else pm k) ∧ asgF l bs (left.eraseIdx a).length (left.eraseIdx a) (setP out (left.getD a 0) ((cnt : Int) + 1)) (((cnt + 1 : Nat) : Int)) = asgF l bs l.length (List.range l.length) l 0 ∧ (left.eraseIdx a).length + 1 = left.length) := by
                  have hle : (left.eraseIdx a).length + 1 = left.length := by rw [List.length_eraseIdx, if_pos ha]; omega
                  refine ⟨⟨HW.out.1.bel.trans ((Below.refl _ _).grown hg' (by have := HW.out.1.bel.size; omega) (fun k hk => by cases hk; have := HQ.out.2; omega)), ?_, Nat.le_refl _⟩, hm', HM.out.2.2.1.next a ha _ (by omega) (by omega), ?_, hle⟩
                  · rw [hg'.block _ rl (by intro e; have := HQ.out.2; simp at e; omega)]
                    exact HW.out.1.res
                  · rw [← HM.out.2.2.2.1, ← hle, asgF, hsome]
                    rfl
                have HCn : Hid (mapN W' wq.heap.size = cnt + 1) := HP.out.2.1.count
                have hfl : ¬ ((left[a] : Int) < 0) := by omega
                generalize hq : left[a] = qa at *
                clear hsome hm' hg' hz0 hq
                go_wp2_with fail
                refine ⟨⟨cnt + 1, left.eraseIdx a, _, _, by have := HP.out.2.2.2.2; omega, HP.out.1, HP.out.2.1, HP.out.2.2.1, HP.out.2.2.2.1⟩, ?_⟩
                have h1 := HCn.out
                have h2 := HM.out.2.2.2.2
                omega
            | succ i =>
              rw [show (((i + 1 : Nat) : Int) - 1) = (i : Int) by omega]
              have hil : i < l.length := by omega
              have HW : Hid (FB w wi w.heap.size ∧ MapP wi wq.heap.size cnt pm ∧ Fnd l bs left (i + 1) f ∧ Below wm.heap.size wm wi) := ⟨HM.out.1.grow hbl, HM.out.2.1.grow hbl, hfn, hbl⟩
              have hget := HW.out.2.1.get i (by omega)
              have hpz := HM.out.2.2.1.z i hil
              have hpp := HM.out.2.2.1.pos i
              clear hfn hbl
              by_cases hin : i ∈ left
              · rw [hpz.1 hin] at hget
                have HI : Hid (i ∈ left) := hin
                clear hpz hpp hin
                go_wp2_with fail
                go_loopw [12, 62] (fun vo vk wl => ∃ (k : Nat) (acc : List Ta), k ≤ l.length ∧ vk = .int .i64 k ∧ wl.ownsRow wi.heap.size 30 7 vo acc.length (acc.flatMap Ta.vals) ∧ acc ++ othF (inL left) i (l.drop k) k = othF (inL left) i l 0 ∧ acc.length ≤ k ∧ Below wi.heap.size wi wl) (fun _ vk _ => l.length - (intOf vk).toNat)
                case atStart => exact ⟨0, [], Nat.zero_le _, rfl, ⟨rfl, .inl ⟨rfl, rfl⟩⟩, rfl, Nat.le_refl _, Below.refl _ _⟩
                case round =>
                  obtain ⟨k, acc, hk, rfl, how, hac, hal, hbl⟩ := hrel
                  obtain ⟨wl, hwl⟩ : ∃ wl, wl = wr := ⟨_, rfl⟩
                  subst hwl
                  obtain ⟨oad, oc, rfl⟩ := r_owns how
                  by_cases hkl : k < l.length
                  · have hy := Tk_get hkl
                    obtain ⟨y0, hy0, hdy⟩ := drop_at hkl
                    obtain rfl : y0 = Tk l k := Option.some.inj (hy0.symm.trans hy)
                    rw [hdy, othF] at hac
                    have hta := ta_at (fun q u hq => below_cell (below_seq HW.out.1.bel hbl) (HR.out.1 q u hq)) hy
                    have lv : b < wl.heap.size := World.block_lt_of_cell? _ _ hta.1
                    have hki : (k : Int) < (l.length : Int) := by omega
                    have hpk := HM.out.2.2.1.z k hkl
                    have hmk := (HW.out.2.1.grow hbl)
                    have hgk := (hmk.grow (below_new wl (.cells #[.string (Tk l k).nm, .int .i64 (Tk l k).c, .int .i64 (Tk l k).t, .int .i64 (Tk l k).d, .int .i64 (Tk l k).j, .int .i64 (Tk l k).o, .int .i64 (Tk l k).p] 30))).get k (by omega)
                    obtain ⟨v', W', hrun, how', hbw'⟩ := push_ta (wl.alloc (.cells #[.string (Tk l k).nm, .int .i64 (Tk l k).c, .int .i64 (Tk l k).t, .int .i64 (Tk l k).d, .int .i64 (Tk l k).j, .int .i64 (Tk l k).o, .int .i64 (Tk l k).p] 30)) wi.heap.size acc _ (Tk l k) (by omega) (by have := hbl.size; simp; omega) (r_below how (below_new _ _))
                    generalize hyy : Tk l k = y at hta hgk hrun how' hac
                    obtain ⟨ynm, yc, yt, yd, yj, yo, yp⟩ := y
                    obtain ⟨d0, d1, d2, d3, d4, d5, d6⟩ := hta
                    dsimp only at d0 d1 d2 d3 d4 d5 d6 hgk hrun hac
                    by_cases hki2 : k = i
                    · rw [if_neg (by simp [hki2])] at hac
                      have hki3 : i = k := hki2.symm
                      subst hki3
                      have HO : Hid (wl.ownsRow wi.heap.size 30 7 (.slice oad acc.length oc) acc.length (acc.flatMap Ta.vals) ∧ acc ++ othF (inL left) i (l.drop (i + 1)) (i + 1) = othF (inL left) i l 0 ∧ Below wi.heap.size wi wl) := ⟨how, hac, hbl⟩
                      clear hac how hbl hy hy0 hdy hmk hrun how' hbw' hyy hpk hki2
                      go_wp2_with fail
                      exact ⟨⟨i + 1, acc, by omega, by simp, r_below HO.out.1 (below_new _ _), HO.out.2.1, by omega, HO.out.2.2.trans ((below_new _ _).mono HO.out.2.2.size)⟩, by simp [intOf]; omega⟩
                    · have hne : ((k : Int) != (i : Int)) = true := by simp; omega
                      by_cases hkin : k ∈ left
                      · rw [if_pos ⟨hki2, inL_iff.2 hkin⟩] at hac
                        rw [hpk.1 hkin] at hgk
                        rw [show (wl.alloc (.cells #[.string ynm, .int .i64 yc, .int .i64 yt, .int .i64 yd, .int .i64 yj, .int .i64 yo, .int .i64 yp] 30)).heap.size = wl.heap.size + 1 by simp] at hrun
                        have HO : Hid (W'.ownsRow wi.heap.size 30 7 v' (acc ++ ([⟨ynm, yc, yt, yd, yj, yo, yp⟩] : List Ta)).length ((acc ++ ([⟨ynm, yc, yt, yd, yj, yo, yp⟩] : List Ta)).flatMap Ta.vals) ∧ (acc ++ ([⟨ynm, yc, yt, yd, yj, yo, yp⟩] : List Ta)) ++ othF (inL left) i (l.drop (k + 1)) (k + 1) = othF (inL left) i l 0 ∧ Below wi.heap.size wi W') := ⟨how', by rw [List.append_assoc]; exact hac, hbl.trans (((below_new _ _).mono hbl.size).trans (hbw' _ (Nat.le_refl _)))⟩
                        have HRu : Hid (_ = _) := hrun
                        clear hac how hbl hy hy0 hdy hmk how' hbw' hyy hpk hrun
                        go_wp2_with (at_builtin; refine r_known rfl (.tmp 76) (.tmp 78) 22 rfl rfl rfl HRu.out ?_)
                        exact ⟨⟨k + 1, acc ++ [⟨ynm, yc, yt, yd, yj, yo, yp⟩], by omega, by simp, HO.out.1, HO.out.2.1, by simp; omega, HO.out.2.2⟩, by simp [intOf]; omega⟩
                      · rw [if_neg (by simp [hkin, inL])] at hac
                        have hpne : (pm k == 0) = false := by
                          have : pm k ≠ 0 := fun e => hkin (hpk.2 e)
                          simpa using this
                        have HO : Hid (wl.ownsRow wi.heap.size 30 7 (.slice oad acc.length oc) acc.length (acc.flatMap Ta.vals) ∧ acc ++ othF (inL left) i (l.drop (k + 1)) (k + 1) = othF (inL left) i l 0 ∧ Below wi.heap.size wi wl) := ⟨how, hac, hbl⟩
                        clear hac how hbl hy hy0 hdy hmk hrun how' hbw' hyy hpk
                        go_wp2_with fail
                        exact ⟨⟨k + 1, acc, by omega, by simp, r_below HO.out.1 (below_new _ _), HO.out.2.1, by omega, HO.out.2.2.trans ((below_new _ _).mono HO.out.2.2.size)⟩, by simp [intOf]; omega⟩
                  · have hke : k = l.length := by omega
                    subst hke
                    rw [List.drop_length, othF, List.append_nil] at hac
                    have hx := Tk_get hil
                    have hxs := HV.out.2.1 _ (Tk_mem hil)
                    obtain ⟨z, hz, -⟩ := drop_at (l := bs) (k := i) (by rw [HV.out.2.2.1]; exact hil)
                    have hzr := HV.out.2.2.2 z (List.mem_of_getElem? hz)
                    have hbw : Below w.heap.size w wl := below_seq HW.out.1.bel hbl
                    have hta := ta_at (fun q u hq => HR.out.1 q u hq) hx
                    have hzc := nu_at (fun q u hq => HR.out.2 q u hq) hz
                    have hworst : worstF (inL left) l i (bs.getD i 0) = wOf (askF ((Tk l i).c + z) acc) (Tk l i).j (Tk l i).d := by
                      unfold worstF
                      rw [hac, show bs.getD i 0 = z by rw [List.getD_eq_getElem?_getD, hz]; rfl]
                    have hnn := worst_nonneg (inL left) l i (bs.getD i 0) hxs
                    have hlast : lastIn l bs left i = decide (worstF (inL left) l i (bs.getD i 0) ≠ 0) := rfl
                    rw [hworst] at hnn hlast
                    have HK : Hid (∀ W, Below wl.heap.size wl W → Calls Tryd.prog 37 #[(Tk l i).val, .slice oad acc.length oc, .int .i64 z] W fun r w' => r = .returned (.int .i64 (wOf (askF ((Tk l i).c + z) acc) (Tk l i).j (Tk l i).d)) ∧ Below W.heap.size W w') := fun W hb => AtWorst_any W (Tk l i) acc _ z (by rw [hac]; have := othF_len (A := inL left) (i := i) l 0; omega) hxs (fun x hx2 => HV.out.2.1 x (by rw [hac] at hx2; exact othF_mem l 0 x hx2)) hzr.1 hzr.2 (r_rowv (r_below how hb))
                    generalize wOf (askF ((Tk l i).c + z) acc) (Tk l i).j (Tk l i).d = R at *
                    unfold Ta.val at HK
                    generalize hxx : Tk l i = x at hta HK
                    obtain ⟨xnm, xc, xt, xd, xj, xo, xp⟩ := x
                    have HB : Hid (Below w.heap.size w wl ∧ Below wm.heap.size wm wl) := ⟨hbw, HW.out.2.2.2.trans (hbl.mono HW.out.2.2.2.size)⟩
                    have HS : Hid (∀ W, Below w.heap.size w W → W.cell? ⟨b, o + i * 7, none⟩ = some (.string xnm) ∧ W.cell? ⟨b, o + i * 7 + 1, none⟩ = some (.int .i64 xc) ∧ W.cell? ⟨b, o + i * 7 + 2, none⟩ = some (.int .i64 xt) ∧ W.cell? ⟨b, o + i * 7 + 3, none⟩ = some (.int .i64 xd) ∧ W.cell? ⟨b, o + i * 7 + 4, none⟩ = some (.int .i64 xj) ∧ W.cell? ⟨b, o + i * 7 + 5, none⟩ = some (.int .i64 xo) ∧ W.cell? ⟨b, o + i * 7 + 6, none⟩ = some (.int .i64 xp) ∧ W.cell? ⟨b2, o2 + i, none⟩ = some (.int .i64 z)) := fun W hb => ⟨below_cell hb hta.1, below_cell hb hta.2.1, below_cell hb hta.2.2.1, below_cell hb hta.2.2.2.1, below_cell hb hta.2.2.2.2.1, below_cell hb hta.2.2.2.2.2.1, below_cell hb hta.2.2.2.2.2.2, below_cell hb hzc⟩
                    have hii : (i : Int) < (l.length : Int) := by omega
                    have HLA : Hid (lastIn l bs left i = decide (R ≠ 0)) := hlast
                    clear hac hx hxs hz hzr hbw hta hzc hworst hlast hxx hbl how
                    go_wp2_with fail
                    refine wp_region_noPanic ?_
                    refine wp_region_held_drew (S := fun w' => w'.cell? ⟨b, o + i * 7, none⟩ = some (.string xnm) ∧ w'.cell? ⟨b, o + i * 7 + 1, none⟩ = some (.int .i64 xc) ∧ w'.cell? ⟨b, o + i * 7 + 2, none⟩ = some (.int .i64 xt) ∧ w'.cell? ⟨b, o + i * 7 + 3, none⟩ = some (.int .i64 xd) ∧ w'.cell? ⟨b, o + i * 7 + 4, none⟩ = some (.int .i64 xj) ∧ w'.cell? ⟨b, o + i * 7 + 5, none⟩ = some (.int .i64 xo) ∧ w'.cell? ⟨b, o + i * 7 + 6, none⟩ = some (.int .i64 xp) ∧ w'.cell? ⟨b2, o2 + i, none⟩ = some (.int .i64 z)) (by kernel_rfl) (HS.out _ HB.out.1.drew) (fun hHeld => ?_)
                    refine take_at (i := 0) (n := 81) (v := ?_) rfl rfl (by kernel_rfl) (by kernel_rfl) (by kernel_rfl) (fun _ _ _ h => h) (Or.inl ⟨by rfl, ?_⟩) (by assumption) ?_
                    rotate_left 1
                    · intro wz hSw
                      obtain ⟨s0, s1, s2, s3, s4, s5, s6, s7⟩ := hSw
                      first | (go_simp; done) | (go_simp; with_reducible rfl)
                    simp only [List.set_cons_zero, List.set_cons_succ]
                    refine take_at (i := 1) (n := 82) (v := ?_) rfl rfl (by kernel_rfl) (by kernel_rfl) (by kernel_rfl) (fun _ _ _ h => h) (Or.inl ⟨by rfl, ?_⟩) (by assumption) ?_
                    rotate_left 1
                    · intro wz hSw
                      obtain ⟨s0, s1, s2, s3, s4, s5, s6, s7⟩ := hSw
                      first | (go_simp; done) | (go_simp; with_reducible rfl)
                    simp only [List.set_cons_zero, List.set_cons_succ]
                    refine take_at (i := 2) (n := 83) (v := ?_) rfl rfl (by kernel_rfl) (by kernel_rfl) (by kernel_rfl) (fun _ _ _ h => h) (Or.inl ⟨by rfl, ?_⟩) (by assumption) ?_
                    rotate_left 1
                    · intro wz hSw
                      obtain ⟨s0, s1, s2, s3, s4, s5, s6, s7⟩ := hSw
                      first | (go_simp; done) | (go_simp; with_reducible rfl)
                    simp only [List.set_cons_zero, List.set_cons_succ]
                    refine take_at (i := 3) (n := 84) (v := ?_) rfl rfl (by kernel_rfl) (by kernel_rfl) (by kernel_rfl) (fun _ _ _ h => h) (Or.inl ⟨by rfl, ?_⟩) (by assumption) ?_
                    rotate_left 1
                    · intro wz hSw
                      obtain ⟨s0, s1, s2, s3, s4, s5, s6, s7⟩ := hSw
                      first | (go_simp; done) | (go_simp; with_reducible rfl)
                    simp only [List.set_cons_zero, List.set_cons_succ]
                    refine take_at (i := 4) (n := 85) (v := ?_) rfl rfl (by kernel_rfl) (by kernel_rfl) (by kernel_rfl) (fun _ _ _ h => h) (Or.inl ⟨by rfl, ?_⟩) (by assumption) ?_
                    rotate_left 1
                    · intro wz hSw
                      obtain ⟨s0, s1, s2, s3, s4, s5, s6, s7⟩ := hSw
                      first | (go_simp; done) | (go_simp; with_reducible rfl)
                    simp only [List.set_cons_zero, List.set_cons_succ]
                    refine take_at (i := 5) (n := 86) (v := ?_) rfl rfl (by kernel_rfl) (by kernel_rfl) (by kernel_rfl) (fun _ _ _ h => h) (Or.inl ⟨by rfl, ?_⟩) (by assumption) ?_
                    rotate_left 1
                    · intro wz hSw
                      obtain ⟨s0, s1, s2, s3, s4, s5, s6, s7⟩ := hSw
                      first | (go_simp; done) | (go_simp; with_reducible rfl)
                    simp only [List.set_cons_zero, List.set_cons_succ]
                    refine take_at (i := 6) (n := 87) (v := ?_) rfl rfl (by kernel_rfl) (by kernel_rfl) (by kernel_rfl) (fun _ _ _ h => h) (Or.inl ⟨by rfl, ?_⟩) (by assumption) ?_
                    rotate_left 1
                    · intro wz hSw
                      obtain ⟨s0, s1, s2, s3, s4, s5, s6, s7⟩ := hSw
                      first | (go_simp; done) | (go_simp; with_reducible rfl)
                    simp only [List.set_cons_zero, List.set_cons_succ]
                    refine take_at (i := 7) (n := 88) (v := ?_) rfl rfl (by kernel_rfl) (by kernel_rfl) (by kernel_rfl) (fun _ _ _ h => h) (Or.inl ⟨by rfl, ?_⟩) (by assumption) ?_
                    rotate_left 1
                    · intro wz hSw
                      obtain ⟨s0, s1, s2, s3, s4, s5, s6, s7⟩ := hSw
                      first | (go_simp; done) | (go_simp; with_reducible rfl)
                    simp only [List.set_cons_zero, List.set_cons_succ]
                    refine take_at (i := 8) (n := 89) (v := ?_) rfl rfl (by kernel_rfl) (by kernel_rfl) (by kernel_rfl) (fun _ _ _ h => h) (Or.inl ⟨by rfl, ?_⟩) (by assumption) ?_
                    rotate_left 1
                    · intro wz hSw
                      obtain ⟨s0, s1, s2, s3, s4, s5, s6, s7⟩ := hSw
                      first | (go_simp; done) | (go_simp; with_reducible rfl)
                    simp only [List.set_cons_zero, List.set_cons_succ]
                    refine wpAnyH_ready (rs := [9]) (by kernel_rfl) (by simp) ?_
                    refine AllReadyH.cons rfl (fun K hK => ?_) AllReadyH.nil
                    go_wp2_with (go_at_call 37; refine (HK.out _ (Below.refl _ _).drew).mono ?_; rintro r wB ⟨rfl, hbB⟩)
                    have HC2 : Hid (Below wl.heap.size wl wB) := below_seq (Below.refl _ _).drew hbB
                    refine hK.out _ _ (HS.out _ (below_seq HB.out.1 HC2.out)) (fun hHeld => ?_)
                    clear hK K hbB
                    refine take_at (i := 10) (n := 91) (v := ?_) rfl rfl (by kernel_rfl) (by kernel_rfl) (by kernel_rfl) (fun _ _ _ h => h) (Or.inl ⟨by rfl, ?_⟩) (by assumption) ?_
                    rotate_left 1
                    · intro wz hSw
                      obtain ⟨s0, s1, s2, s3, s4, s5, s6, s7⟩ := hSw
                      first | (go_simp; done) | (go_simp; with_reducible rfl)
                    simp only [List.set_cons_zero, List.set_cons_succ]
                    refine wpAnyH_done (by kernel_rfl) ?_ _
                    refine NoPanic.normal ?_
                    clear hHeld
                    have HBm : Hid (Below wm.heap.size wm wB) := HB.out.2.trans (HC2.out.mono HB.out.2.size)
                    by_cases hR : 0 < R
                    · go_wp2_with fail
                      exact ⟨⟨i, (i : Int), by omega, by first | rfl | simp, rfl, Fnd.hit HI.out (by rw [HLA.out]; simp; omega), HBm.out⟩, by simp [intOf]⟩
                    · go_wp2_with fail
                      exact ⟨⟨i, f, by omega, by first | rfl | simp, rfl, HW.out.2.2.1.skip (fun _ => by rw [HLA.out]; simp; omega), HBm.out⟩, by simp [intOf]⟩
              · have hpo : 0 < pm i := by
                  have : pm i ≠ 0 := fun e => hin (hpz.2 e)
                  omega
                have HI : Hid (i ∉ left) := hin
                clear hpz hpp hin
                go_wp2_with fail
                exact ⟨⟨i, f, by omega, by first | rfl | simp, rfl, HW.out.2.2.1.skip (fun h => absurd h HI.out), HW.out.2.2.2⟩, by simp [intOf]⟩
        · have hce : cnt = l.length := by omega
          have hln : left = [] := List.eq_nil_of_length_eq_zero (by omega)
          subst hln
          subst hce
          obtain ⟨g, cap, w2, hrun, hown, hb2⟩ := r_copy wm l (some ⟨b, o, none⟩) c hl0 (by omega) (HV.out.1.below HM.out.1.bel)
          have H2 : Hid (_ = _) := hrun
          have H3 : Hid (FB w w2 w.heap.size ∧ MapP w2 wq.heap.size l.length pm ∧ w2.ownsRow wm.heap.size 30 7 (.slice (some ⟨g, 0, none⟩) l.length cap) l.length (l.flatMap Ta.vals)) := ⟨HM.out.1.grow hb2, HM.out.2.1.grow hb2, hown⟩
          have hgm : wm.heap.size ≤ g := r_low hown
          have hwg : w.heap.size < g := by have := HM.out.1.lt; omega
          clear hrun hown hb2
          go_wp2_with (first | (at_builtin; refine r_known rfl (.tmp 101) (.tmp 102) 22 rfl rfl rfl H2.out ?_))
          go_loopw [106] (fun vi wr => ∃ i : Nat, i ≤ l.length ∧ vi = .int .i64 i ∧ FB w wr w.heap.size ∧ MapP wr wq.heap.size l.length pm ∧ wr.ownsRow wm.heap.size 30 7 (.slice (some ⟨g, 0, none⟩) l.length cap) l.length ((outP l pm i).flatMap Ta.vals)) (fun vi _ => l.length - (intOf vi).toNat)
          case atStart => exact ⟨0, Nat.zero_le _, rfl, H3.out.1, H3.out.2.1, by rw [outP_zero]; exact H3.out.2.2⟩
          case round =>
            obtain ⟨i, hi, rfl, hf, hm, how⟩ := hrel
            by_cases hlt : i < l.length
            · have hget := hm.get i (by omega)
              have hat := how.cellAt (i * 7 + 6) (by omega)
              rw [flat_at Ta.vals 7 Ta.len _ _ 6 _ (outP_at l pm i hlt) (by omega)] at hat
              have hat' : wr.cell? ⟨g, i * 7 + 6, none⟩ = some (.int .i64 (Tk l i).p) := hat
              have hfz := r_free (q := i * 7 + 6) how
              have hgl := r_lt how
              have hii : (i : Int) < (l.length : Int) := by omega
              have hcp : l.length ≤ cap := by
                obtain ⟨-, ⟨e, -⟩ | ⟨g', cap', cur, e, -, -, h9, -⟩⟩ := how
                · cases e
                · cases e; exact h9
              have HP : Hid ((outP l pm (i + 1)).flatMap Ta.vals = ((outP l pm i).flatMap Ta.vals).set (i * 7 + 6) (.int .i64 (pm i)) ∧ FB w wr w.heap.size ∧ MapP wr wq.heap.size l.length pm ∧ wr.ownsRow wm.heap.size 30 7 (.slice (some ⟨g, 0, none⟩) l.length cap) l.length ((outP l pm i).flatMap Ta.vals)) := ⟨by rw [← outP_set l pm i hlt]; exact r_setP _ _ _ _ (outP_at l pm i hlt), hf, hm, how⟩
              have hgw : w.heap.size ≤ g := by omega
              generalize pm i = pmi at *
              clear hat hf how
              go_wp2_with fail
              refine ⟨⟨i + 1, by omega, by simp, ⟨HP.out.2.1.bel.setCell hgw _, ?_, Nat.le_refl _⟩, HP.out.2.2.1.same (Below.heap_setCell _ _ _ _ (by show ¬ (wq.heap.size = g); omega)), ?_⟩, by simp [intOf]; omega⟩
              · rw [Below.heap_setCell _ _ _ _ (by show ¬ (w.heap.size = g); omega)]
                exact HP.out.2.1.res
              · rw [HP.out.1]
                exact r_put HP.out.2.2.2
            · have hie : i = l.length := by omega
              subst hie
              have HO : Hid (FB w wr w.heap.size ∧ RowSl Ta.vals wr out (.slice (some ⟨g, 0, none⟩) l.length cap)) := ⟨hf, by
                have h9 := r_row how (outP_len _ _ _ (Nat.le_refl _))
                rw [HM.out.2.2.1.told] at h9
                exact h9⟩
              obtain ⟨r10, r11, f10, f11, rl⟩ := hf.res2
              clear hf how hm
              go_wp2_with fail
              refine bodyPost_ret (Assigned_ends (set_two HO.out.1.res) rfl rfl) rfl ?_
              exact ⟨_, 0, rfl, .inr ⟨out, by rw [← HM.out.2.2.2.1]; rfl, rfl, r_keep2 HO.out.2 (by omega)⟩, HO.out.1.set _ _⟩
end Go.Proofs.YtcgncdpohaoejafDoor
