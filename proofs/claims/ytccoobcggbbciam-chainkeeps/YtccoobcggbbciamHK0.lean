import Derived.Test.YtccoobcggbbciamHJ2
namespace Go.Proofs.Ytccoobcggbbciam
open Go.ChangeShapes Go.WideShapes Go.ChangeAt Go.RowKit

set_option maxRecDepth 20000 in
set_option maxHeartbeats 4000000 in
theorem EqN_any (w : World) (a b : List Int) (v v' : Value) (hl : a.length ≤ 4194304) (hab : a.length = b.length) (h : RowSl nuV w a v) (h' : RowSl nuV w b v') :
    Calls Try.prog 24 #[v, v'] w fun r w' => r = .returned (.bool (decide (a = b))) ∧ Below w.heap.size w w' := by
  obtain ⟨ad, c, rfl, -, -, hc⟩ := h
  obtain ⟨ad', c', rfl, -, -, hc'⟩ := h'
  have HR : Hid (_ ∧ _) := ⟨hc, hc'⟩
  have HL : Hid (a.length = b.length) := hab
  rw [← hab]
  obtain ⟨z, hz⟩ : ∃ z, decide (a = b) = z := ⟨_, rfl⟩
  rw [hz]
  have HZ : Hid (decide (a = b) = z) := hz
  clear hz hc hc' hab
  go_enter Try.func24, Try.ntmps24
  go_wp2_with fail
  go_loopw [13] (fun x wr => ∃ j : Nat, j ≤ a.length ∧ x = .int .i64 j ∧ Below w.heap.size w wr ∧ Hid (a.take j = b.take j)) (fun x _ => a.length - (intOf x).toNat)
  case atStart => exact ⟨0, Nat.zero_le _, rfl, Below.refl _ _, rfl⟩
  case round =>
    obtain ⟨j, hj, rfl, hb, HT⟩ := hrel
    have HB : Hid (Below w.heap.size w wr) := hb
    by_cases hlt : j < a.length
    · obtain ⟨x, hx, -⟩ := drop_at hlt
      obtain ⟨y, hy, -⟩ := drop_at (l := b) (k := j) (by have := HL.out; omega)
      have HXY : Hid (a[j]? = some x ∧ b[j]? = some y) := ⟨hx, hy⟩
      rcases HR.out.1 with h | ⟨b1, o1, rfl, hrow1⟩
      · rw [h] at hlt; simp at hlt
      rcases HR.out.2 with h | ⟨b2, o2, rfl, hrow2⟩
      · have := HL.out; rw [h] at this; simp at this; rw [this] at hlt; simp at hlt
      have c0 := nu_at (fun q u hq => below_cell hb (hrow1 q u hq)) hx
      have d0 := nu_at (fun q u hq => below_cell hb (hrow2 q u hq)) hy
      clear hrow1 hrow2 hb hx hy
      by_cases he : x = y
      · subst he
        have HS : Hid (a.take (j + 1) = b.take (j + 1)) := (by rw [List.take_add_one, List.take_add_one, HT.out, HXY.out.1, HXY.out.2] : a.take (j + 1) = b.take (j + 1))
        go_wp2_with fail
        go_quiet (fail)
        go_wp2_with fail
        go_roundw
        case rel => exact ⟨j + 1, by omega, by go_num, below_seq HB.out (below_drewN' (n := nq)), HS.out⟩
        case measure => simp [intOf]; omega
      · have hne : (x != y) = true := by simpa using he
        have HZF : Hid (z = false) := (by rw [← HZ.out, decide_eq_false_iff_not]; intro e; have h1 := HXY.out.1; rw [e, HXY.out.2] at h1; cases h1; exact he rfl : z = false)
        go_wp2_with fail
        go_quiet (fail)
        go_wp2_with fail
        go_ret
        exact ⟨by rw [HZF.out]; rfl, below_seq HB.out (below_drewN' (n := nq))⟩
    · have hje : j = a.length := by omega
      subst hje
      have HZT : Hid (z = true) := (by
        rw [← HZ.out, decide_eq_true_iff]
        have h1 := HT.out
        rw [List.take_of_length_le (Nat.le_refl _), List.take_of_length_le (by rw [HL.out]; exact Nat.le_refl _)] at h1
        exact h1 : z = true)
      go_wp2_with fail
      go_ret
      exact ⟨by rw [HZT.out]; rfl, hb⟩

set_option maxRecDepth 20000 in
set_option maxHeartbeats 4000000 in
theorem SmN_any (w : World) (a b : List Int) (v v' : Value) (hl : a.length ≤ 4194304) (hab : a.length = b.length) (h : RowSl nuV w a v) (h' : RowSl nuV w b v') :
    Calls Try.prog 9 #[v, v'] w fun r w' => r = .returned (.bool (decide (a = b))) ∧ Below w.heap.size w w' := by
  obtain ⟨ad, c, rfl, -, -, hc⟩ := h
  obtain ⟨ad', c', rfl, -, -, hc'⟩ := h'
  have HR : Hid (_ ∧ _) := ⟨hc, hc'⟩
  have HL : Hid (a.length = b.length) := hab
  rw [← hab]
  obtain ⟨z, hz⟩ : ∃ z, decide (a = b) = z := ⟨_, rfl⟩
  rw [hz]
  have HZ : Hid (decide (a = b) = z) := hz
  clear hz hc hc' hab
  go_enter Try.func9, Try.ntmps9
  go_wp2_with fail
  go_loopw [13] (fun x wr => ∃ j : Nat, j ≤ a.length ∧ x = .int .i64 j ∧ Below w.heap.size w wr ∧ Hid (a.take j = b.take j)) (fun x _ => a.length - (intOf x).toNat)
  case atStart => exact ⟨0, Nat.zero_le _, rfl, Below.refl _ _, rfl⟩
  case round =>
    obtain ⟨j, hj, rfl, hb, HT⟩ := hrel
    have HB : Hid (Below w.heap.size w wr) := hb
    by_cases hlt : j < a.length
    · obtain ⟨x, hx, -⟩ := drop_at hlt
      obtain ⟨y, hy, -⟩ := drop_at (l := b) (k := j) (by have := HL.out; omega)
      have HXY : Hid (a[j]? = some x ∧ b[j]? = some y) := ⟨hx, hy⟩
      rcases HR.out.1 with h | ⟨b1, o1, rfl, hrow1⟩
      · rw [h] at hlt; simp at hlt
      rcases HR.out.2 with h | ⟨b2, o2, rfl, hrow2⟩
      · have := HL.out; rw [h] at this; simp at this; rw [this] at hlt; simp at hlt
      have c0 := nu_at (fun q u hq => below_cell hb (hrow1 q u hq)) hx
      have d0 := nu_at (fun q u hq => below_cell hb (hrow2 q u hq)) hy
      clear hrow1 hrow2 hb hx hy
      by_cases he : x = y
      · subst he
        have HS : Hid (a.take (j + 1) = b.take (j + 1)) := (by rw [List.take_add_one, List.take_add_one, HT.out, HXY.out.1, HXY.out.2] : a.take (j + 1) = b.take (j + 1))
        go_wp2_with fail
        go_quiet (fail)
        go_wp2_with fail
        go_roundw
        case rel => exact ⟨j + 1, by omega, by go_num, below_seq HB.out (below_drewN' (n := nq)), HS.out⟩
        case measure => simp [intOf]; omega
      · have hne : (x != y) = true := by simpa using he
        have HZF : Hid (z = false) := (by rw [← HZ.out, decide_eq_false_iff_not]; intro e; have h1 := HXY.out.1; rw [e, HXY.out.2] at h1; cases h1; exact he rfl : z = false)
        go_wp2_with fail
        go_quiet (fail)
        go_wp2_with fail
        go_ret
        exact ⟨by rw [HZF.out]; rfl, below_seq HB.out (below_drewN' (n := nq))⟩
    · have hje : j = a.length := by omega
      subst hje
      have HZT : Hid (z = true) := (by
        rw [← HZ.out, decide_eq_true_iff]
        have h1 := HT.out
        rw [List.take_of_length_le (Nat.le_refl _), List.take_of_length_le (by rw [HL.out]; exact Nat.le_refl _)] at h1
        exact h1 : z = true)
      go_wp2_with fail
      go_ret
      exact ⟨by rw [HZT.out]; rfl, hb⟩


def UPost (w : World) (n : Nat) (R : Option (List Int) → Prop) (r : Ending) (w' : World) : Prop := ∃ res u, R res ∧ Below w.heap.size w w' ∧ r = .returned (.tuple #[u, .bool res.isSome]) ∧ (res = none → u = .slice none 0 0) ∧ ∀ nx, res = some nx → RowSl nuV w' nx u ∧ NewSl w.heap.size u ∧ nx.length = n

theorem LatPost.u {w : World} {l : List Pa} {tk : List Int} {r : Ending} {w' : World} (h : LatPost w l tk r w') : UPost w l.length (LatR l tk) r w' := by
  obtain ⟨res, h1, h2, ⟨rfl, rfl⟩ | ⟨late, u, rfl, rfl, h3, h4, h5⟩⟩ := h
  · exact ⟨none, _, h1, h2, rfl, fun _ => rfl, fun nx e => by cases e⟩
  · exact ⟨some late, u, h1, h2, rfl, (fun e => by cases e), fun nx e => by cases e; exact ⟨h3, h4, h5⟩⟩

theorem RespCPost.u {w : World} {l : List Pa} {late : List Int} {r : Ending} {w' : World} (h : RespCPost w l late r w') : UPost w l.length (fun res => res = respC l late 4) r w' := by
  obtain ⟨h2, ⟨h1, rfl⟩ | ⟨all, u, h1, rfl, h3, h4, h5⟩⟩ := h
  · exact ⟨none, _, h1.symm, h2, rfl, fun _ => rfl, fun nx e => by cases e⟩
  · exact ⟨some all, u, h1.symm, h2, rfl, (fun e => by cases e), fun nx e => by cases e; exact ⟨h3, h4, h5⟩⟩

theorem follow_ends {w : World} {p q : Value} {a : Act} (h2 : a.tmps[3]?.getD undef = p) (h3 : a.tmps[4]?.getD undef = q) : (results Try.f13 a.tmps).run Try.prog w = .ok (.tuple #[p, q]) w := by
  simp [results, Try.results13, go_sem, h2, h3]
theorem settleC_ends {w : World} {p q : Value} {a : Act} (h2 : a.tmps[4]?.getD undef = p) (h3 : a.tmps[5]?.getD undef = q) : (results Try.f12 a.tmps).run Try.prog w = .ok (.tuple #[p, q]) w := by
  simp [results, Try.results12, go_sem, h2, h3]

theorem PsOk.fr {l : List Pa} (h : PsOk l) : ∀ (i : Nat) (x : Pa), l[i]? = some x → x.fr = -1 ∨ (0 ≤ x.fr ∧ x.fr < (i : Int)) := fun i x hx => by
  rcases (h.at_ i x hx).fr with h | h
  · exact .inl h.1
  · exact .inr ⟨h.1, h.2.1⟩

set_option maxRecDepth 20000 in
set_option maxHeartbeats 4000000 in
theorem follow_any (w : World) (l : List Pa) (tk : List Int) (v v2 : Value) (g : Nat) (hok : PsOk l) (hg : w.cell? ⟨g, 0, none⟩ = some v) (hv : RowSl Pa.vals w l v) (ht : RowSl nuV w tk v2) (hlen : tk.length = l.length) : Calls Try.prog 13 #[v2, .pointer (some ⟨g, 0, none⟩)] w (UPost w l.length (StepR l tk)) := by
  have HC := (lateness_any w l tk v v2 hv ht hok.one hok.most hlen hok.fr).mono (fun r w' h => LatPost.u h)
  obtain ⟨ad, c, rfl⟩ := hv.len
  have HV : Hid (RowSl Pa.vals w l (.slice ad l.length c) ∧ PsOk l) := ⟨hv, hok⟩
  clear hv hok ht hlen
  go_enter Try.func13, Try.ntmps13
  go_upto_region 2 with (go_at_call 14; refine HC.mono ?_; rintro r w1 ⟨res, u, hr, hb1, rfl, hn, hs⟩; have H1 : Hid (LatR l tk res ∧ Below w.heap.size w w1 ∧ (res = none → u = .slice none 0 0) ∧ ∀ nx, res = some nx → RowSl nuV w1 nx u ∧ NewSl w.heap.size u ∧ nx.length = l.length) := ⟨hr, hb1, hn, hs⟩; have hg1 := below_cell hb1 hg; clear hr hb1 hn hs HC hg)
  rcases res with _ | late
  · simp only [Option.isSome]
    go_wp2_with fail
    refine bodyPost_ret (follow_ends rfl rfl) rfl ?_
    exact ⟨none, _, ⟨none, H1.out.1, .inl ⟨rfl, rfl⟩⟩, H1.out.2.1, rfl, fun _ => rfl, fun nx e => by cases e⟩
  · obtain ⟨hr, hb1, -, hs⟩ := H1.out
    obtain ⟨hs1, hs2, hs3⟩ := hs late rfl
    have HD := (responsesC_any w1 l late _ u (HV.out.1.below hb1) hs1 HV.out.2.one HV.out.2.most hs3).mono (fun r w' h => RespCPost.u h)
    obtain ⟨ad1, c1, rfl⟩ := hs1.len
    have H2 : Hid (LatR l tk (some late) ∧ Below w.heap.size w w1) := ⟨hr, hb1⟩
    clear hr hb1 hs hs1 hs2 hs3 H1
    simp only [Option.isSome]
    go_wp2_with (go_at_call 15; refine HD.mono ?_; rintro r w2 ⟨res, u, hr, hb2, rfl, hn, hs⟩; have H3 : Hid (res = respC l late 4 ∧ Below w1.heap.size w1 w2 ∧ (res = none → u = .slice none 0 0) ∧ ∀ nx, res = some nx → RowSl nuV w2 nx u ∧ NewSl w1.heap.size u ∧ nx.length = l.length) := ⟨hr, hb2, hn, hs⟩; clear hr hb2 hn hs HD)
    refine bodyPost_ret (follow_ends rfl rfl) rfl ?_
    obtain ⟨g1, g2, g3, g4⟩ := H3.out
    exact ⟨res, u, ⟨some late, H2.out.1, .inr ⟨late, rfl, g1⟩⟩, below_seq H2.out.2 g2, rfl, g3, fun nx e => ⟨(g4 nx e).1, (g4 nx e).2.1.mono H2.out.2.size, (g4 nx e).2.2⟩⟩

/-- The numbers of a row, as they stand in memory. -/
def rdN (W : World) : Value → List Int
  | .slice (some ⟨b, o, _⟩) n _ => (List.range n).map fun q => match W.cell? ⟨b, o + q, none⟩ with
    | some (.int _ z) => z
    | _ => 0
  | _ => []

theorem rdN_row {W : World} {tk : List Int} {v : Value} (h : RowSl nuV W tk v) : rdN W v = tk := by
  obtain ⟨ad, c, rfl, hn, -, hr⟩ := h
  rcases hr with rfl | ⟨b, o, rfl, hr⟩
  · cases ad <;> simp [rdN]
  · simp only [rdN]
    refine List.ext_getElem? fun q => ?_
    rw [List.getElem?_map]
    by_cases hq : q < tk.length
    · rw [List.getElem?_range hq, Option.map_some, nu_at hr (List.getElem?_eq_getElem hq), List.getElem?_eq_getElem hq]
    · rw [List.getElem?_eq_none (by simp; omega), List.getElem?_eq_none (by omega)]; rfl

set_option maxRecDepth 20000 in
set_option maxHeartbeats 4000000 in
theorem settleC_any (w : World) (l : List Pa) (v : Value) (g : Nat) (hok : PsOk l) (hg : w.cell? ⟨g, 0, none⟩ = some v) (hv : RowSl Pa.vals w l v) : Calls Try.prog 12 #[.int .i64 (l.length : Int), .func (Fn.func 13) #[] #[.pointer (some ⟨g, 0, none⟩)]] w (UPost w l.length (Sett l (List.replicate l.length 0))) := by
  have h8 := hok.most
  obtain ⟨w3, hmk, hb3, hh3⟩ := make_ints w l.length (by omega)
  have H3 : Hid (RowSl nuV w3 (List.replicate l.length 0) (.slice (some ⟨w.heap.size, 0, none⟩) l.length l.length) ∧ Below w.heap.size w w3 ∧ NewSl w.heap.size (.slice (some ⟨w.heap.size, 0, none⟩) l.length l.length)) := ⟨zeros_row hh3, hb3, fun a n c e => by cases e; exact Nat.le_refl _⟩
  have HV : Hid (RowSl Pa.vals w l v ∧ PsOk l ∧ w.cell? ⟨g, 0, none⟩ = some v) := ⟨hv, hok, hg⟩
  obtain ⟨G, hG⟩ : ∃ G, w.heap.size = G := ⟨_, rfl⟩
  have HG : Hid (w.heap.size = G) := hG
  rw [hG] at hmk
  clear hv hok hg hb3 hh3 hG
  go_enter Try.func12, Try.ntmps12
  go_wp2_with fail
  clear hmk
  go_loopw [6] (fun tv wr => ∃ ad n c, tv = .slice ad n c ∧ n = l.length ∧ Hid (∃ tk, Rise l tk ∧ RowSl nuV wr tk (.slice ad n c) ∧ Below w.heap.size w wr)) (fun tv wr => mz l (rdN wr tv))
  case atStart => exact ⟨_, _, _, rfl, rfl, ⟨_, Rise.start HV.out.2.1, by rw [← HG.out]; exact H3.out.1, H3.out.2.1⟩⟩
  case round =>
    obtain ⟨ad, n, c, rfl, rfl, HX⟩ := hrel
    clear H3 HG
    obtain ⟨tk, hr, hrow, hbw⟩ := HX.out
    have HC := follow_any wr l tk v _ g HV.out.2.1 (below_cell hbw HV.out.2.2) (HV.out.1.below hbw) hrow hr.ok.1
    have HT : Hid (Rise l tk ∧ RowSl nuV wr tk (.slice ad l.length c) ∧ Below w.heap.size w wr) := ⟨hr, hrow, hbw⟩
    clear hr hrow hbw HX
    go_upto_region 3 with (go_at_call 13; refine HC.mono ?_; rintro r w1 ⟨res, u, hr, hb1, rfl, hn, hs⟩; have H1 : Hid (StepR l tk res ∧ Below wr.heap.size wr w1 ∧ (res = none → u = .slice none 0 0) ∧ ∀ nx, res = some nx → RowSl nuV w1 nx u ∧ NewSl wr.heap.size u ∧ nx.length = l.length) := ⟨hr, hb1, hn, hs⟩; clear hr hb1 hn hs HC)
    rcases res with _ | nx
    · obtain rfl := H1.out.2.2.1 rfl
      simp only [Option.isSome]
      go_wp2_with fail
      refine bodyPost_ret (settleC_ends rfl rfl) rfl ?_
      exact ⟨none, _, HT.out.1.tell none (.stop H1.out.1), below_seq HT.out.2.2 H1.out.2.1, rfl, fun _ => rfl, fun nx e => by cases e⟩
    · obtain ⟨hst, hb1, -, hs⟩ := H1.out
      obtain ⟨hs1, hs2, hs3⟩ := hs nx rfl
      have HE := EqN_any w1 nx tk u _ (by have := HV.out.2.1.most; omega) (by rw [hs3, HT.out.1.ok.1]) hs1 (HT.out.2.1.below hb1)
      have h9 := hs1
      obtain ⟨ad1, c1, hu⟩ := h9.len
      rw [hs3] at hu
      subst hu
      have H2 : Hid (StepR l tk (some nx) ∧ Below w.heap.size w w1 ∧ RowSl nuV w1 nx (.slice ad1 l.length c1) ∧ NewSl w.heap.size (.slice ad1 l.length c1) ∧ nx.length = l.length) := ⟨hst, below_seq HT.out.2.2 hb1, hs1, hs2.mono HT.out.2.2.size, hs3⟩
      clear hst hb1 hs hs1 hs2 hs3 H1 h9
      simp only [Option.isSome]
      by_cases he : nx = tk
      · rw [decide_eq_true he] at HE
        have HQ : Hid (nx = tk) := he
        clear he
        go_wp2_with (go_at_call 24; refine HE.mono ?_; rintro r w2 ⟨rfl, hb2⟩; have H4 : Hid (Below w1.heap.size w1 w2) := hb2; clear hb2 HE)
        refine bodyPost_ret (settleC_ends rfl rfl) rfl ?_
        obtain ⟨g1, g2, g3, g4, g5⟩ := H2.out
        refine ⟨some nx, _, HT.out.1.tell _ ?_, below_seq g2 H4.out, rfl, (fun e => by cases e), fun nx' e => by cases e; exact ⟨g3.below H4.out, g4, g5⟩⟩
        have hq := HQ.out
        subst hq
        exact .fix g1
      · rw [decide_eq_false he] at HE
        have HQ : Hid (nx ≠ tk) := he
        clear he
        go_wp2_with (go_at_call 24; refine HE.mono ?_; rintro r w2 ⟨rfl, hb2⟩; have H4 : Hid (Below w1.heap.size w1 w2) := hb2; clear hb2 HE)
        obtain ⟨g1, g2, g3, g4, g5⟩ := H2.out
        obtain ⟨k1, k2⟩ := HT.out.1.next HV.out.2.1 g1 HQ.out
        refine ⟨⟨_, _, _, rfl, rfl, ⟨nx, k1, g3.below H4.out, below_seq g2 H4.out⟩⟩, ?_⟩
        rw [rdN_row (g3.below H4.out), rdN_row HT.out.2.1]
        exact k2

theorem RespsC_ends {w : World} {g : Nat} {c k v : Value} {a : Act} (h : w.heap[g]? = some (.cells #[c, k] 29 (0, 0))) (h2 : a.tmps[2]?.getD undef = v) (h3 : a.tmps[3]?.getD undef = .pointer (some ⟨g, 0, none⟩)) :
    (results Try.f6 a.tmps).run Try.prog w = .ok (.tuple #[v, .agg #[c, k]]) w := by
  obtain ⟨c1, f1, l1⟩ := cells_of (l := [_, _]) h
  have c10 := c1 0 _ rfl
  have c11 := c1 1 _ rfl
  simp [results, Try.results6, go_sem, h2, h3, c10, c11]

theorem cell_other {W : World} {p q : Addr} {u : Value} (h : q.block ≠ p.block) : (W.setCell p u).cell? q = W.cell? q := by
  simp only [World.cell?, Below.heap_setCell _ _ _ _ h]

/-- A row of one's own that lies behind the fault's block is still there. -/
theorem rowset2 {W : World} {ts : List Int} {tv : Value} {g : Nat} (h : RowSl nuV W ts tv) (hn : ∀ a n c, tv = .slice (some a) n c → g < a.block) (x y : Value) : RowSl nuV ((W.setCell ⟨g, 0, none⟩ x).setCell ⟨g, 1, none⟩ y) ts tv := by
  obtain ⟨ad, c, rfl, h1, h2, h3⟩ := h
  refine ⟨ad, c, rfl, h1, h2, ?_⟩
  rcases h3 with h3 | ⟨b, o, rfl, h3⟩
  · exact .inl h3
  · refine .inr ⟨b, o, rfl, fun q u hq => ?_⟩
    have hb := hn _ _ _ rfl
    have h4 := h3 q u hq
    rw [cell_other (by dsimp at hb ⊢; omega), cell_other (by dsimp at hb ⊢; omega)]
    exact h4

/-- What Responses tells. -/
def RespsR (l : List Pa) (ts : List Int) (e : Int × Int) : Prop := ((chkP l).1 ≠ 0 ∧ ts = [] ∧ e = chkP l) ∨ ((chkP l).1 = 0 ∧ ∃ res, Sett l (List.replicate l.length 0) res ∧ ((res = none ∧ ts = [] ∧ e = (13, 0)) ∨ (res = some ts ∧ ts.length = l.length ∧ e = (0, 0))))
def RespsPost (w : World) (l : List Pa) (r : Ending) (w' : World) : Prop := ∃ ts e tv, RespsR l ts e ∧ r = .returned (.tuple #[tv, .agg #[.int .i64 e.1, .int .i64 e.2]]) ∧ RowSl nuV w' ts tv ∧ Below w.heap.size w w' ∧ NewSl w.heap.size tv

theorem RespsR.one {l : List Pa} {a b : List Int} {e f : Int × Int} (h : RespsR l a e) (h' : RespsR l b f) : a = b ∧ e = f := by
  rcases h with ⟨h1, rfl, rfl⟩ | ⟨h1, r, h2, h3⟩
  · rcases h' with ⟨-, rfl, rfl⟩ | ⟨g1, -⟩
    · exact ⟨rfl, rfl⟩
    · exact absurd g1 h1
  · rcases h' with ⟨g1, -⟩ | ⟨-, s, g2, g3⟩
    · exact absurd h1 g1
    · cases h2.one g2
      rcases h3 with ⟨rfl, rfl, rfl⟩ | ⟨rfl, -, rfl⟩
      · rcases g3 with ⟨-, rfl, rfl⟩ | ⟨e, -⟩
        · exact ⟨rfl, rfl⟩
        · cases e
      · rcases g3 with ⟨e, -⟩ | ⟨e, -, rfl⟩
        · cases e
        · cases e; exact ⟨rfl, rfl⟩

set_option maxRecDepth 20000 in
set_option maxHeartbeats 4000000 in
theorem RespsC_any (w : World) (l : List Pa) (v : Value) (hv : RowSl Pa.vals w l v) : Calls Try.prog 6 #[v] w (RespsPost w l) := by
  have HC := CheckC_any ((w.alloc (.cells #[v] 22)).alloc (.cells #[.int .i64 0, .int .i64 0] 29)) l v ((hv.below (below_new _ _)).below (below_new _ _))
  obtain ⟨z1, z2, hz⟩ : ∃ z1 z2, chkP l = (z1, z2) := ⟨_, _, rfl⟩
  have HZ : Hid (chkP l = (z1, z2)) := hz
  rw [hz] at HC
  dsimp only at HC
  obtain ⟨ad, c, rfl⟩ := hv.len
  have HV : Hid (RowSl Pa.vals w l (.slice ad l.length c)) := hv
  clear hv hz
  have hF : Hid (FB (w.alloc (.cells #[.slice ad l.length c] 22)) ((w.alloc (.cells #[.slice ad l.length c] 22)).alloc (.cells #[.int .i64 0, .int .i64 0] 29)) (w.heap.size + 1)) := by have h9 := FB.start (w.alloc (.cells #[.slice ad l.length c] 22)); rwa [World.size_alloc] at h9
  have hA : Hid (((w.alloc (.cells #[.slice ad l.length c] 22)).alloc (.cells #[.int .i64 0, .int .i64 0] 29)).cell? ⟨w.heap.size, 0, none⟩ = some (.slice ad l.length c)) := below_cell (below_new _ _) ((cells_of (l := [_]) (heap_alloc_new _ _)).1 0 _ rfl)
  go_enter Try.func6, Try.ntmps6
  go_upto_region 2 with (go_at_call 11; refine HC.mono ?_; rintro r w1 ⟨rfl, hb1⟩; have H1 : Hid (FB (w.alloc (.cells #[.slice ad l.length c] 22)) (w1.alloc (.cells #[.int .i64 z1, .int .i64 z2] 29)) (w.heap.size + 1) ∧ (w1.alloc (.cells #[.int .i64 z1, .int .i64 z2] 29)).cell? ⟨w.heap.size, 0, none⟩ = some (.slice ad l.length c)) := ⟨(hF.out.grow hb1).grow (below_new _ _), below_cell (below_new _ _) (below_cell hb1 hA.out)⟩; have H0 : Hid (w.heap.size + 1 < w1.heap.size) := (hF.out.grow hb1).lt; clear hb1 HC)
  obtain ⟨fs, -, fl⟩ := cells_of (l := [_, _]) (heap_alloc_new w1 (.cells #[.int .i64 z1, .int .i64 z2] 29))
  have g0 := fs 0 _ rfl
  have g1 := fs 1 _ rfl
  have hl1 : w.heap.size + 1 < w1.heap.size := H0.out
  have hbx : Hid (Below w.heap.size w (w.alloc (.cells #[.slice ad l.length c] 22))) := below_new _ _
  clear fs hF hA H0
  generalize w1.alloc (.cells #[.int .i64 z1, .int .i64 z2] 29) = w2 at *
  generalize w1.heap.size = gf at *
  generalize w.alloc (.cells #[.slice ad l.length c] 22) = wb at *
  by_cases h0 : z1 = 0
  rotate_left 1
  · have hz1 : (z1 != 0) = true := by simpa using h0
    obtain ⟨q0, q1, qf0, qf1, ql⟩ := H1.out.1.res2
    have HN : Hid (z1 ≠ 0) := h0
    clear h0
    go_wp2_with fail
    go_region
    all_goals go_wp2_with fail
    all_goals
      refine bodyPost_ret (RespsC_ends (g := w.heap.size + 1) (c := .int .i64 z1) (k := .int .i64 z2) (v := .slice none 0 0) (set_two H1.out.1.res) rfl rfl) rfl ?_
      exact ⟨[], (z1, z2), _, .inl ⟨by rw [HZ.out]; exact HN.out, rfl, HZ.out.symm⟩, rfl, RowSl.nil _ _, (below_seq hbx.out (H1.out.1.set _ _)).drew, NewSl.none _ _ _⟩
  · subst h0
    have hok := chkP_ok (l := l) (by rw [HZ.out])
    have hbw : Below w.heap.size w w2 := below_seq hbx.out H1.out.1.bel
    have HS := settleC_any w2 l _ w.heap.size hok H1.out.2 (HV.out.below hbw)
    have cb := H1.out.2
    clear hok hbw
    go_upto_region 5 with (go_at_call 12; refine HS.mono ?_; rintro r w3 ⟨res, u, hr, hb3, rfl, hn, hs⟩; have H3 : Hid (Sett l (List.replicate l.length 0) res ∧ Below w2.heap.size w2 w3 ∧ (res = none → u = .slice none 0 0) ∧ ∀ nx, res = some nx → RowSl nuV w3 nx u ∧ NewSl w2.heap.size u ∧ nx.length = l.length) := ⟨hr, hb3, hn, hs⟩; clear hr hb3 hn hs HS)
    have HB : Hid (FB wb w3 (w.heap.size + 1)) := H1.out.1.grow H3.out.2.1
    obtain ⟨q0, q1, qf0, qf1, ql⟩ := HB.out.res2
    clear cb g0 g1
    rcases res with _ | nx
    · obtain rfl := H3.out.2.2.1 rfl
      simp only [Option.isSome]
      go_wp2_with fail
      refine bodyPost_ret (RespsC_ends (g := w.heap.size + 1) (c := .int .i64 13) (k := .int .i64 0) (v := .slice none 0 0) (set_two HB.out.res) rfl rfl) rfl ?_
      exact ⟨[], (13, 0), _, .inr ⟨by rw [HZ.out], none, H3.out.1, .inl ⟨rfl, rfl, rfl⟩⟩, rfl, RowSl.nil _ _, below_seq hbx.out (HB.out.set _ _), NewSl.none _ _ _⟩
    · obtain ⟨s1, s2, s3⟩ := H3.out.2.2.2 nx rfl
      have H5 : Hid (RowSl nuV w3 nx u ∧ NewSl w2.heap.size u ∧ nx.length = l.length) := ⟨s1, s2, s3⟩
      obtain ⟨ad1, c1, rfl⟩ := s1.len
      clear s1 s2 s3
      simp only [Option.isSome]
      go_wp2_with fail
      refine bodyPost_ret (RespsC_ends (g := w.heap.size + 1) (c := .int .i64 0) (k := .int .i64 0) (v := .slice ad1 nx.length c1) (set_two HB.out.res) rfl rfl) rfl ?_
      have hsz : w.heap.size + 1 < w2.heap.size := H1.out.1.lt
      refine ⟨nx, (0, 0), _, .inr ⟨by rw [HZ.out], some nx, H3.out.1, .inr ⟨rfl, H5.out.2.2, rfl⟩⟩, rfl, ?_, below_seq hbx.out (HB.out.set _ _), H5.out.2.1.mono (by omega)⟩
      exact rowset2 H5.out.1 (fun a n c e => Nat.lt_of_lt_of_le hsz (H5.out.2.1 a n c e)) _ _
end Go.Proofs.Ytccoobcggbbciam
