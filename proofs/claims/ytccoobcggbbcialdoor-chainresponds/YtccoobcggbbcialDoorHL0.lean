import Derived.Test.YtccoobcggbbcialDoorHJ2
namespace Go.Proofs.YtccoobcggbbcialDoor
open Go.ChangeShapes Go.WideShapes Go.ChangeAt Go.RowKit

set_option maxRecDepth 20000 in
set_option maxHeartbeats 4000000 in
theorem EqN_any (w : World) (a b : List Int) (v v' : Value) (hl : a.length ≤ 4194304) (hab : a.length = b.length) (h : RowSl nuV w a v) (h' : RowSl nuV w b v') :
    Calls Tryd.prog 90 #[v, v'] w fun r w' => r = .returned (.bool (decide (a = b))) ∧ Below w.heap.size w w' := by
  obtain ⟨ad, c, rfl, -, -, hc⟩ := h
  obtain ⟨ad', c', rfl, -, -, hc'⟩ := h'
  have HR : Hid (_ ∧ _) := ⟨hc, hc'⟩
  have HL : Hid (a.length = b.length) := hab
  rw [← hab]
  obtain ⟨z, hz⟩ : ∃ z, decide (a = b) = z := ⟨_, rfl⟩
  rw [hz]
  have HZ : Hid (decide (a = b) = z) := hz
  clear hz hc hc' hab
  go_enter Tryd.func90, Tryd.ntmps90
  go_wp2_with fail
  go_loopw [13] (fun x wr => ∃ j : Nat, j ≤ a.length ∧ x = .int .i64 j ∧ Below w.heap.size w wr ∧ Hid (a.take j = b.take j)) (fun x _ => a.length - (intOf x).toNat)
  case atStart => exact ⟨0, Nat.zero_le _, rfl, Below.refl _ _, rfl⟩
  case round =>
    obtain ⟨j, hj, rfl, hb, HT⟩ := hrel
    have HB : Hid (Below w.heap.size w wr) := hb
    by_cases hlt : j < a.length
    · obtain ⟨x, hx, -⟩ := drop_at hlt
      obtain ⟨y, hy, -⟩ := drop_at (l := b) (k := j) (by have := HL.out; omega)
      have HXY : Hid (a[j]? = some x ∧ b[j]? = some y) := ⟨hx, hy⟩
      rcases HR.out.1 with h | ⟨b1, o1, rfl, hrow1⟩
      · rw [h] at hlt; simp at hlt
      rcases HR.out.2 with h | ⟨b2, o2, rfl, hrow2⟩
      · have := HL.out; rw [h] at this; simp at this; rw [this] at hlt; simp at hlt
      have c0 := nu_at (fun q u hq => below_cell hb (hrow1 q u hq)) hx
      have d0 := nu_at (fun q u hq => below_cell hb (hrow2 q u hq)) hy
      clear hrow1 hrow2 hb hx hy
      by_cases he : x = y
      · subst he
        have HS : Hid (a.take (j + 1) = b.take (j + 1)) := (by rw [List.take_add_one, List.take_add_one, HT.out, HXY.out.1, HXY.out.2] : a.take (j + 1) = b.take (j + 1))
        go_wp2_with fail
        go_quiet (fail)
        go_wp2_with fail
        go_roundw
        case rel => exact ⟨j + 1, by omega, by go_num, below_seq HB.out (below_drewN' (n := nq)), HS.out⟩
        case measure => simp [intOf]; omega
      · have hne : (x != y) = true := by simpa using he
        have HZF : Hid (z = false) := (by rw [← HZ.out, decide_eq_false_iff_not]; intro e; have h1 := HXY.out.1; rw [e, HXY.out.2] at h1; cases h1; exact he rfl : z = false)
        go_wp2_with fail
        go_quiet (fail)
        go_wp2_with fail
        go_ret
        exact ⟨by rw [HZF.out]; rfl, below_seq HB.out (below_drewN' (n := nq))⟩
    · have hje : j = a.length := by omega
      subst hje
      have HZT : Hid (z = true) := (by
        rw [← HZ.out, decide_eq_true_iff]
        have h1 := HT.out
        rw [List.take_of_length_le (Nat.le_refl _), List.take_of_length_le (by rw [HL.out]; exact Nat.le_refl _)] at h1
        exact h1 : z = true)
      go_wp2_with fail
      go_ret
      exact ⟨by rw [HZT.out]; rfl, hb⟩

set_option maxRecDepth 20000 in
set_option maxHeartbeats 4000000 in
theorem SmN_any (w : World) (a b : List Int) (v v' : Value) (hl : a.length ≤ 4194304) (hab : a.length = b.length) (h : RowSl nuV w a v) (h' : RowSl nuV w b v') :
    Calls Tryd.prog 29 #[v, v'] w fun r w' => r = .returned (.bool (decide (a = b))) ∧ Below w.heap.size w w' := by
  obtain ⟨ad, c, rfl, -, -, hc⟩ := h
  obtain ⟨ad', c', rfl, -, -, hc'⟩ := h'
  have HR : Hid (_ ∧ _) := ⟨hc, hc'⟩
  have HL : Hid (a.length = b.length) := hab
  rw [← hab]
  obtain ⟨z, hz⟩ : ∃ z, decide (a = b) = z := ⟨_, rfl⟩
  rw [hz]
  have HZ : Hid (decide (a = b) = z) := hz
  clear hz hc hc' hab
  go_enter Tryd.func29, Tryd.ntmps29
  go_wp2_with fail
  go_loopw [13] (fun x wr => ∃ j : Nat, j ≤ a.length ∧ x = .int .i64 j ∧ Below w.heap.size w wr ∧ Hid (a.take j = b.take j)) (fun x _ => a.length - (intOf x).toNat)
  case atStart => exact ⟨0, Nat.zero_le _, rfl, Below.refl _ _, rfl⟩
  case round =>
    obtain ⟨j, hj, rfl, hb, HT⟩ := hrel
    have HB : Hid (Below w.heap.size w wr) := hb
    by_cases hlt : j < a.length
    · obtain ⟨x, hx, -⟩ := drop_at hlt
      obtain ⟨y, hy, -⟩ := drop_at (l := b) (k := j) (by have := HL.out; omega)
      have HXY : Hid (a[j]? = some x ∧ b[j]? = some y) := ⟨hx, hy⟩
      rcases HR.out.1 with h | ⟨b1, o1, rfl, hrow1⟩
      · rw [h] at hlt; simp at hlt
      rcases HR.out.2 with h | ⟨b2, o2, rfl, hrow2⟩
      · have := HL.out; rw [h] at this; simp at this; rw [this] at hlt; simp at hlt
      have c0 := nu_at (fun q u hq => below_cell hb (hrow1 q u hq)) hx
      have d0 := nu_at (fun q u hq => below_cell hb (hrow2 q u hq)) hy
      clear hrow1 hrow2 hb hx hy
      by_cases he : x = y
      · subst he
        have HS : Hid (a.take (j + 1) = b.take (j + 1)) := (by rw [List.take_add_one, List.take_add_one, HT.out, HXY.out.1, HXY.out.2] : a.take (j + 1) = b.take (j + 1))
        go_wp2_with fail
        go_quiet (fail)
        go_wp2_with fail
        go_roundw
        case rel => exact ⟨j + 1, by omega, by go_num, below_seq HB.out (below_drewN' (n := nq)), HS.out⟩
        case measure => simp [intOf]; omega
      · have hne : (x != y) = true := by simpa using he
        have HZF : Hid (z = false) := (by rw [← HZ.out, decide_eq_false_iff_not]; intro e; have h1 := HXY.out.1; rw [e, HXY.out.2] at h1; cases h1; exact he rfl : z = false)
        go_wp2_with fail
        go_quiet (fail)
        go_wp2_with fail
        go_ret
        exact ⟨by rw [HZF.out]; rfl, below_seq HB.out (below_drewN' (n := nq))⟩
    · have hje : j = a.length := by omega
      subst hje
      have HZT : Hid (z = true) := (by
        rw [← HZ.out, decide_eq_true_iff]
        have h1 := HT.out
        rw [List.take_of_length_le (Nat.le_refl _), List.take_of_length_le (by rw [HL.out]; exact Nat.le_refl _)] at h1
        exact h1 : z = true)
      go_wp2_with fail
      go_ret
      exact ⟨by rw [HZT.out]; rfl, hb⟩


def UPost (w : World) (n : Nat) (R : Option (List Int) → Prop) (r : Ending) (w' : World) : Prop := ∃ res u, R res ∧ Below w.heap.size w w' ∧ r = .returned (.tuple #[u, .bool res.isSome]) ∧ (res = none → u = .slice none 0 0) ∧ ∀ nx, res = some nx → RowSl nuV w' nx u ∧ NewSl w.heap.size u ∧ nx.length = n

theorem LatPost.u {w : World} {l : List Pa} {tk : List Int} {r : Ending} {w' : World} (h : LatPost w l tk r w') : UPost w l.length (LatR l tk) r w' := by
  obtain ⟨res, h1, h2, ⟨rfl, rfl⟩ | ⟨late, u, rfl, rfl, h3, h4, h5⟩⟩ := h
  · exact ⟨none, _, h1, h2, rfl, fun _ => rfl, fun nx e => by cases e⟩
  · exact ⟨some late, u, h1, h2, rfl, (fun e => by cases e), fun nx e => by cases e; exact ⟨h3, h4, h5⟩⟩

theorem RespCPost.u {w : World} {l : List Pa} {late : List Int} {r : Ending} {w' : World} (h : RespCPost w l late r w') : UPost w l.length (fun res => res = respC l late 4) r w' := by
  obtain ⟨h2, ⟨h1, rfl⟩ | ⟨all, u, h1, rfl, h3, h4, h5⟩⟩ := h
  · exact ⟨none, _, h1.symm, h2, rfl, fun _ => rfl, fun nx e => by cases e⟩
  · exact ⟨some all, u, h1.symm, h2, rfl, (fun e => by cases e), fun nx e => by cases e; exact ⟨h3, h4, h5⟩⟩

theorem follow_ends {w : World} {p q : Value} {a : Act} (h2 : a.tmps[3]?.getD undef = p) (h3 : a.tmps[4]?.getD undef = q) : (results Tryd.f58 a.tmps).run Tryd.prog w = .ok (.tuple #[p, q]) w := by
  simp [results, Tryd.results58, go_sem, h2, h3]
theorem settleC_ends {w : World} {p q : Value} {a : Act} (h2 : a.tmps[4]?.getD undef = p) (h3 : a.tmps[5]?.getD undef = q) : (results Tryd.f57 a.tmps).run Tryd.prog w = .ok (.tuple #[p, q]) w := by
  simp [results, Tryd.results57, go_sem, h2, h3]

theorem PsOk.fr {l : List Pa} (h : PsOk l) : ∀ (i : Nat) (x : Pa), l[i]? = some x → x.fr = -1 ∨ (0 ≤ x.fr ∧ x.fr < (i : Int)) := fun i x hx => by
  rcases (h.at_ i x hx).fr with h | h
  · exact .inl h.1
  · exact .inr ⟨h.1, h.2.1⟩

set_option maxRecDepth 20000 in
set_option maxHeartbeats 4000000 in
theorem follow_any (w : World) (l : List Pa) (tk : List Int) (v v2 : Value) (g : Nat) (hok : PsOk l) (hg : w.cell? ⟨g, 0, none⟩ = some v) (hv : RowSl Pa.vals w l v) (ht : RowSl nuV w tk v2) (hlen : tk.length = l.length) : Calls Tryd.prog 58 #[v2, .pointer (some ⟨g, 0, none⟩)] w (UPost w l.length (StepR l tk)) := by
  have HC := (lateness_any w l tk v v2 hv ht hok.one hok.most hlen hok.fr).mono (fun r w' h => LatPost.u h)
  obtain ⟨ad, c, rfl⟩ := hv.len
  have HV : Hid (RowSl Pa.vals w l (.slice ad l.length c) ∧ PsOk l) := ⟨hv, hok⟩
  clear hv hok ht hlen
  go_enter Tryd.func58, Tryd.ntmps58
  go_upto_region 2 with (go_at_call 59; refine HC.mono ?_; rintro r w1 ⟨res, u, hr, hb1, rfl, hn, hs⟩; have H1 : Hid (LatR l tk res ∧ Below w.heap.size w w1 ∧ (res = none → u = .slice none 0 0) ∧ ∀ nx, res = some nx → RowSl nuV w1 nx u ∧ NewSl w.heap.size u ∧ nx.length = l.length) := ⟨hr, hb1, hn, hs⟩; have hg1 := below_cell hb1 hg; clear hr hb1 hn hs HC hg)
  rcases res with _ | late
  · simp only [Option.isSome]
    go_wp2_with fail
    refine bodyPost_ret (follow_ends rfl rfl) rfl ?_
    exact ⟨none, _, ⟨none, H1.out.1, .inl ⟨rfl, rfl⟩⟩, H1.out.2.1, rfl, fun _ => rfl, fun nx e => by cases e⟩
  · obtain ⟨hr, hb1, -, hs⟩ := H1.out
    obtain ⟨hs1, hs2, hs3⟩ := hs late rfl
    have HD := (responsesC_any w1 l late _ u (HV.out.1.below hb1) hs1 HV.out.2.one HV.out.2.most hs3).mono (fun r w' h => RespCPost.u h)
    obtain ⟨ad1, c1, rfl⟩ := hs1.len
    have H2 : Hid (LatR l tk (some late) ∧ Below w.heap.size w w1) := ⟨hr, hb1⟩
    clear hr hb1 hs hs1 hs2 hs3 H1
    simp only [Option.isSome]
    go_wp2_with (go_at_call 60; refine HD.mono ?_; rintro r w2 ⟨res, u, hr, hb2, rfl, hn, hs⟩; have H3 : Hid (res = respC l late 4 ∧ Below w1.heap.size w1 w2 ∧ (res = none → u = .slice none 0 0) ∧ ∀ nx, res = some nx → RowSl nuV w2 nx u ∧ NewSl w1.heap.size u ∧ nx.length = l.length) := ⟨hr, hb2, hn, hs⟩; clear hr hb2 hn hs HD)
    refine bodyPost_ret (follow_ends rfl rfl) rfl ?_
    obtain ⟨g1, g2, g3, g4⟩ := H3.out
    exact ⟨res, u, ⟨some late, H2.out.1, .inr ⟨late, rfl, g1⟩⟩, below_seq H2.out.2 g2, rfl, g3, fun nx e => ⟨(g4 nx e).1, (g4 nx e).2.1.mono H2.out.2.size, (g4 nx e).2.2⟩⟩

/-- The numbers of a row, as they stand in memory. -/
def rdN (W : World) : Value → List Int
  | .slice (some ⟨b, o, _⟩) n _ => (List.range n).map fun q => match W.cell? ⟨b, o + q, none⟩ with
    | some (.int _ z) => z
    | _ => 0
  | _ => []

theorem rdN_row {W : World} {tk : List Int} {v : Value} (h : RowSl nuV W tk v) : rdN W v = tk := by
  obtain ⟨ad, c, rfl, hn, -, hr⟩ := h
  rcases hr with rfl | ⟨b, o, rfl, hr⟩
  · cases ad <;> simp [rdN]
  · simp only [rdN]
    refine List.ext_getElem? fun q => ?_
    rw [List.getElem?_map]
    by_cases hq : q < tk.length
    · rw [List.getElem?_range hq, Option.map_some, nu_at hr (List.getElem?_eq_getElem hq), List.getElem?_eq_getElem hq]
    · rw [List.getElem?_eq_none (by simp; omega), List.getElem?_eq_none (by omega)]; rfl

set_option maxRecDepth 20000 in
set_option maxHeartbeats 4000000 in
theorem settleC_any (w : World) (l : List Pa) (v : Value) (g : Nat) (hok : PsOk l) (hg : w.cell? ⟨g, 0, none⟩ = some v) (hv : RowSl Pa.vals w l v) : Calls Tryd.prog 57 #[.int .i64 (l.length : Int), .func (Fn.func 58) #[] #[.pointer (some ⟨g, 0, none⟩)]] w (UPost w l.length (Sett l (List.replicate l.length 0))) := by
  have h8 := hok.most
  obtain ⟨w3, hmk, hb3, hh3⟩ := make_ints w l.length (by omega)
  have H3 : Hid (RowSl nuV w3 (List.replicate l.length 0) (.slice (some ⟨w.heap.size, 0, none⟩) l.length l.length) ∧ Below w.heap.size w w3 ∧ NewSl w.heap.size (.slice (some ⟨w.heap.size, 0, none⟩) l.length l.length)) := ⟨zeros_row hh3, hb3, fun a n c e => by cases e; exact Nat.le_refl _⟩
  have HV : Hid (RowSl Pa.vals w l v ∧ PsOk l ∧ w.cell? ⟨g, 0, none⟩ = some v) := ⟨hv, hok, hg⟩
  obtain ⟨G, hG⟩ : ∃ G, w.heap.size = G := ⟨_, rfl⟩
  have HG : Hid (w.heap.size = G) := hG
  rw [hG] at hmk
  clear hv hok hg hb3 hh3 hG
  go_enter Tryd.func57, Tryd.ntmps57
  go_wp2_with fail
  clear hmk
  go_loopw [6] (fun tv wr => ∃ ad n c, tv = .slice ad n c ∧ n = l.length ∧ Hid (∃ tk, Rise l tk ∧ RowSl nuV wr tk (.slice ad n c) ∧ Below w.heap.size w wr)) (fun tv wr => mz l (rdN wr tv))
  case atStart => exact ⟨_, _, _, rfl, rfl, ⟨_, Rise.start HV.out.2.1, by rw [← HG.out]; exact H3.out.1, H3.out.2.1⟩⟩
  case round =>
    obtain ⟨ad, n, c, rfl, rfl, HX⟩ := hrel
    clear H3 HG
    obtain ⟨tk, hr, hrow, hbw⟩ := HX.out
    have HC := follow_any wr l tk v _ g HV.out.2.1 (below_cell hbw HV.out.2.2) (HV.out.1.below hbw) hrow hr.ok.1
    have HT : Hid (Rise l tk ∧ RowSl nuV wr tk (.slice ad l.length c) ∧ Below w.heap.size w wr) := ⟨hr, hrow, hbw⟩
    clear hr hrow hbw HX
    go_upto_region 3 with (go_at_call 58; refine HC.mono ?_; rintro r w1 ⟨res, u, hr, hb1, rfl, hn, hs⟩; have H1 : Hid (StepR l tk res ∧ Below wr.heap.size wr w1 ∧ (res = none → u = .slice none 0 0) ∧ ∀ nx, res = some nx → RowSl nuV w1 nx u ∧ NewSl wr.heap.size u ∧ nx.length = l.length) := ⟨hr, hb1, hn, hs⟩; clear hr hb1 hn hs HC)
    rcases res with _ | nx
    · obtain rfl := H1.out.2.2.1 rfl
      simp only [Option.isSome]
      go_wp2_with fail
      refine bodyPost_ret (settleC_ends rfl rfl) rfl ?_
      exact ⟨none, _, HT.out.1.tell none (.stop H1.out.1), below_seq HT.out.2.2 H1.out.2.1, rfl, fun _ => rfl, fun nx e => by cases e⟩
    · obtain ⟨hst, hb1, -, hs⟩ := H1.out
      obtain ⟨hs1, hs2, hs3⟩ := hs nx rfl
      have HE := EqN_any w1 nx tk u _ (by have := HV.out.2.1.most; omega) (by rw [hs3, HT.out.1.ok.1]) hs1 (HT.out.2.1.below hb1)
      have h9 := hs1
      obtain ⟨ad1, c1, hu⟩ := h9.len
      rw [hs3] at hu
      subst hu
      have H2 : Hid (StepR l tk (some nx) ∧ Below w.heap.size w w1 ∧ RowSl nuV w1 nx (.slice ad1 l.length c1) ∧ NewSl w.heap.size (.slice ad1 l.length c1) ∧ nx.length = l.length) := ⟨hst, below_seq HT.out.2.2 hb1, hs1, hs2.mono HT.out.2.2.size, hs3⟩
      clear hst hb1 hs hs1 hs2 hs3 H1 h9
      simp only [Option.isSome]
      by_cases he : nx = tk
      · rw [decide_eq_true he] at HE
        have HQ : Hid (nx = tk) := he
        clear he
        go_wp2_with (go_at_call 90; refine HE.mono ?_; rintro r w2 ⟨rfl, hb2⟩; have H4 : Hid (Below w1.heap.size w1 w2) := hb2; clear hb2 HE)
        refine bodyPost_ret (settleC_ends rfl rfl) rfl ?_
        obtain ⟨g1, g2, g3, g4, g5⟩ := H2.out
        refine ⟨some nx, _, HT.out.1.tell _ ?_, below_seq g2 H4.out, rfl, (fun e => by cases e), fun nx' e => by cases e; exact ⟨g3.below H4.out, g4, g5⟩⟩
        have hq := HQ.out
        subst hq
        exact .fix g1
      · rw [decide_eq_false he] at HE
        have HQ : Hid (nx ≠ tk) := he
        clear he
        go_wp2_with (go_at_call 90; refine HE.mono ?_; rintro r w2 ⟨rfl, hb2⟩; have H4 : Hid (Below w1.heap.size w1 w2) := hb2; clear hb2 HE)
        obtain ⟨g1, g2, g3, g4, g5⟩ := H2.out
        obtain ⟨k1, k2⟩ := HT.out.1.next HV.out.2.1 g1 HQ.out
        refine ⟨⟨_, _, _, rfl, rfl, ⟨nx, k1, g3.below H4.out, below_seq g2 H4.out⟩⟩, ?_⟩
        rw [rdN_row (g3.below H4.out), rdN_row HT.out.2.1]
        exact k2

theorem RespsC_ends {w : World} {g : Nat} {c k v : Value} {a : Act} (h : w.heap[g]? = some (.cells #[c, k] 30 (0, 0))) (h2 : a.tmps[2]?.getD undef = v) (h3 : a.tmps[3]?.getD undef = .pointer (some ⟨g, 0, none⟩)) :
    (results Tryd.f25 a.tmps).run Tryd.prog w = .ok (.tuple #[v, .agg #[c, k]]) w := by
  obtain ⟨c1, f1, l1⟩ := cells_of (l := [_, _]) h
  have c10 := c1 0 _ rfl
  have c11 := c1 1 _ rfl
  simp [results, Tryd.results25, go_sem, h2, h3, c10, c11]

theorem cell_other {W : World} {p q : Addr} {u : Value} (h : q.block ≠ p.block) : (W.setCell p u).cell? q = W.cell? q := by
  simp only [World.cell?, Below.heap_setCell _ _ _ _ h]

/-- A row of one's own that lies behind the fault's block is still there. -/
theorem rowset2 {W : World} {ts : List Int} {tv : Value} {g : Nat} (h : RowSl nuV W ts tv) (hn : ∀ a n c, tv = .slice (some a) n c → g < a.block) (x y : Value) : RowSl nuV ((W.setCell ⟨g, 0, none⟩ x).setCell ⟨g, 1, none⟩ y) ts tv := by
  obtain ⟨ad, c, rfl, h1, h2, h3⟩ := h
  refine ⟨ad, c, rfl, h1, h2, ?_⟩
  rcases h3 with h3 | ⟨b, o, rfl, h3⟩
  · exact .inl h3
  · refine .inr ⟨b, o, rfl, fun q u hq => ?_⟩
    have hb := hn _ _ _ rfl
    have h4 := h3 q u hq
    rw [cell_other (by dsimp at hb ⊢; omega), cell_other (by dsimp at hb ⊢; omega)]
    exact h4

/-- What Responses tells. -/
def RespsR (l : List Pa) (ts : List Int) (e : Int × Int) : Prop := ((chkP l).1 ≠ 0 ∧ ts = [] ∧ e = chkP l) ∨ ((chkP l).1 = 0 ∧ ∃ res, Sett l (List.replicate l.length 0) res ∧ ((res = none ∧ ts = [] ∧ e = (13, 0)) ∨ (res = some ts ∧ ts.length = l.length ∧ e = (0, 0))))
def RespsPost (w : World) (l : List Pa) (r : Ending) (w' : World) : Prop := ∃ ts e tv, RespsR l ts e ∧ r = .returned (.tuple #[tv, .agg #[.int .i64 e.1, .int .i64 e.2]]) ∧ RowSl nuV w' ts tv ∧ Below w.heap.size w w' ∧ NewSl w.heap.size tv

theorem RespsR.one {l : List Pa} {a b : List Int} {e f : Int × Int} (h : RespsR l a e) (h' : RespsR l b f) : a = b ∧ e = f := by
  rcases h with ⟨h1, rfl, rfl⟩ | ⟨h1, r, h2, h3⟩
  · rcases h' with ⟨-, rfl, rfl⟩ | ⟨g1, -⟩
    · exact ⟨rfl, rfl⟩
    · exact absurd g1 h1
  · rcases h' with ⟨g1, -⟩ | ⟨-, s, g2, g3⟩
    · exact absurd h1 g1
    · cases h2.one g2
      rcases h3 with ⟨rfl, rfl, rfl⟩ | ⟨rfl, -, rfl⟩
      · rcases g3 with ⟨-, rfl, rfl⟩ | ⟨e, -⟩
        · exact ⟨rfl, rfl⟩
        · cases e
      · rcases g3 with ⟨e, -⟩ | ⟨e, -, rfl⟩
        · cases e
        · cases e; exact ⟨rfl, rfl⟩

set_option maxRecDepth 20000 in
set_option maxHeartbeats 4000000 in
theorem RespsC_any (w : World) (l : List Pa) (v : Value) (hv : RowSl Pa.vals w l v) : Calls Tryd.prog 25 #[v] w (RespsPost w l) := by
  have HC := CheckC_any ((w.alloc (.cells #[v] 51)).alloc (.cells #[.int .i64 0, .int .i64 0] 30)) l v ((hv.below (below_new _ _)).below (below_new _ _))
  obtain ⟨z1, z2, hz⟩ : ∃ z1 z2, chkP l = (z1, z2) := ⟨_, _, rfl⟩
  have HZ : Hid (chkP l = (z1, z2)) := hz
  rw [hz] at HC
  dsimp only at HC
  obtain ⟨ad, c, rfl⟩ := hv.len
  have HV : Hid (RowSl Pa.vals w l (.slice ad l.length c)) := hv
  clear hv hz
  have hF : Hid (FB (w.alloc (.cells #[.slice ad l.length c] 51)) ((w.alloc (.cells #[.slice ad l.length c] 51)).alloc (.cells #[.int .i64 0, .int .i64 0] 30)) (w.heap.size + 1)) := by have h9 := FB.start (w.alloc (.cells #[.slice ad l.length c] 51)); rwa [World.size_alloc] at h9
  have hA : Hid (((w.alloc (.cells #[.slice ad l.length c] 51)).alloc (.cells #[.int .i64 0, .int .i64 0] 30)).cell? ⟨w.heap.size, 0, none⟩ = some (.slice ad l.length c)) := below_cell (below_new _ _) ((cells_of (l := [_]) (heap_alloc_new _ _)).1 0 _ rfl)
  go_enter Tryd.func25, Tryd.ntmps25
  go_upto_region 2 with (go_at_call 23; refine HC.mono ?_; rintro r w1 ⟨rfl, hb1⟩; have H1 : Hid (FB (w.alloc (.cells #[.slice ad l.length c] 51)) (w1.alloc (.cells #[.int .i64 z1, .int .i64 z2] 30)) (w.heap.size + 1) ∧ (w1.alloc (.cells #[.int .i64 z1, .int .i64 z2] 30)).cell? ⟨w.heap.size, 0, none⟩ = some (.slice ad l.length c)) := ⟨(hF.out.grow hb1).grow (below_new _ _), below_cell (below_new _ _) (below_cell hb1 hA.out)⟩; have H0 : Hid (w.heap.size + 1 < w1.heap.size) := (hF.out.grow hb1).lt; clear hb1 HC)
  obtain ⟨fs, -, fl⟩ := cells_of (l := [_, _]) (heap_alloc_new w1 (.cells #[.int .i64 z1, .int .i64 z2] 30))
  have g0 := fs 0 _ rfl
  have g1 := fs 1 _ rfl
  have hl1 : w.heap.size + 1 < w1.heap.size := H0.out
  have hbx : Hid (Below w.heap.size w (w.alloc (.cells #[.slice ad l.length c] 51))) := below_new _ _
  clear fs hF hA H0
  generalize w1.alloc (.cells #[.int .i64 z1, .int .i64 z2] 30) = w2 at *
  generalize w1.heap.size = gf at *
  generalize w.alloc (.cells #[.slice ad l.length c] 51) = wb at *
  by_cases h0 : z1 = 0
  rotate_left 1
  · have hz1 : (z1 != 0) = true := by simpa using h0
    obtain ⟨q0, q1, qf0, qf1, ql⟩ := H1.out.1.res2
    have HN : Hid (z1 ≠ 0) := h0
    clear h0
    go_wp2_with fail
    go_region
    all_goals go_wp2_with fail
    all_goals
      refine bodyPost_ret (RespsC_ends (g := w.heap.size + 1) (c := .int .i64 z1) (k := .int .i64 z2) (v := .slice none 0 0) (set_two H1.out.1.res) rfl rfl) rfl ?_
      exact ⟨[], (z1, z2), _, .inl ⟨by rw [HZ.out]; exact HN.out, rfl, HZ.out.symm⟩, rfl, RowSl.nil _ _, (below_seq hbx.out (H1.out.1.set _ _)).drew, NewSl.none _ _ _⟩
  · subst h0
    have hok := chkP_ok (l := l) (by rw [HZ.out])
    have hbw : Below w.heap.size w w2 := below_seq hbx.out H1.out.1.bel
    have HS := settleC_any w2 l _ w.heap.size hok H1.out.2 (HV.out.below hbw)
    have cb := H1.out.2
    clear hok hbw
    go_upto_region 5 with (go_at_call 57; refine HS.mono ?_; rintro r w3 ⟨res, u, hr, hb3, rfl, hn, hs⟩; have H3 : Hid (Sett l (List.replicate l.length 0) res ∧ Below w2.heap.size w2 w3 ∧ (res = none → u = .slice none 0 0) ∧ ∀ nx, res = some nx → RowSl nuV w3 nx u ∧ NewSl w2.heap.size u ∧ nx.length = l.length) := ⟨hr, hb3, hn, hs⟩; clear hr hb3 hn hs HS)
    have HB : Hid (FB wb w3 (w.heap.size + 1)) := H1.out.1.grow H3.out.2.1
    obtain ⟨q0, q1, qf0, qf1, ql⟩ := HB.out.res2
    clear cb g0 g1
    rcases res with _ | nx
    · obtain rfl := H3.out.2.2.1 rfl
      simp only [Option.isSome]
      go_wp2_with fail
      refine bodyPost_ret (RespsC_ends (g := w.heap.size + 1) (c := .int .i64 13) (k := .int .i64 0) (v := .slice none 0 0) (set_two HB.out.res) rfl rfl) rfl ?_
      exact ⟨[], (13, 0), _, .inr ⟨by rw [HZ.out], none, H3.out.1, .inl ⟨rfl, rfl, rfl⟩⟩, rfl, RowSl.nil _ _, below_seq hbx.out (HB.out.set _ _), NewSl.none _ _ _⟩
    · obtain ⟨s1, s2, s3⟩ := H3.out.2.2.2 nx rfl
      have H5 : Hid (RowSl nuV w3 nx u ∧ NewSl w2.heap.size u ∧ nx.length = l.length) := ⟨s1, s2, s3⟩
      obtain ⟨ad1, c1, rfl⟩ := s1.len
      clear s1 s2 s3
      simp only [Option.isSome]
      go_wp2_with fail
      refine bodyPost_ret (RespsC_ends (g := w.heap.size + 1) (c := .int .i64 0) (k := .int .i64 0) (v := .slice ad1 nx.length c1) (set_two HB.out.res) rfl rfl) rfl ?_
      have hsz : w.heap.size + 1 < w2.heap.size := H1.out.1.lt
      refine ⟨nx, (0, 0), _, .inr ⟨by rw [HZ.out], some nx, H3.out.1, .inr ⟨rfl, H5.out.2.2, rfl⟩⟩, rfl, ?_, below_seq hbx.out (HB.out.set _ _), H5.out.2.1.mono (by omega)⟩
      exact rowset2 H5.out.1 (fun a n c e => Nat.lt_of_lt_of_le hsz (H5.out.2.1 a n c e)) _ _
end Go.Proofs.YtccoobcggbbcialDoor
namespace Go.Proofs.YtccoobcggbbcialDoor
open Go.ChangeShapes Go.WideShapes Go.ChangeAt Go.RowKit

/-- Parts that lie on other cores. -/
def onC : List Pa → List Int → List Pa
  | x :: r, c :: s => { x with co := c } :: onC r s
  | _, _ => []

theorem onC_len : ∀ (l : List Pa) (cs : List Int), cs.length = l.length → (onC l cs).length = l.length
  | [], cs, h => by cases cs <;> rfl
  | x :: r, [], h => by simp at h
  | x :: r, c :: s, h => by simp only [onC, List.length_cons]; rw [onC_len r s (by simpa using h)]

theorem onC_self : ∀ (l : List Pa), onC l (l.map (·.co)) = l
  | [] => rfl
  | x :: r => by simp only [List.map_cons, onC]; rw [onC_self r]

theorem onC_at : ∀ (l : List Pa) (cs : List Int) (i : Nat) (x : Pa) (c : Int), l[i]? = some x → cs[i]? = some c → (onC l cs)[i]? = some { x with co := c }
  | [], _, _, _, _, h, _ => by simp at h
  | _ :: _, [], _, _, _, _, h => by simp at h
  | y :: r, d :: s, 0, x, c, h, h' => by cases h; cases h'; rfl
  | y :: r, d :: s, i + 1, x, c, h, h' => by simp only [onC, List.getElem?_cons_succ]; exact onC_at r s i x c (by simpa using h) (by simpa using h')

theorem onC_set : ∀ (l : List Pa) (cs : List Int) (i : Nat) (c : Int) (ex : List Value), i < l.length → cs.length = l.length → ((onC l cs).flatMap Pa.vals ++ ex).set (i * 7) (.int .i64 c) = (onC l (cs.set i c)).flatMap Pa.vals ++ ex
  | [], _, _, _, _, h, _ => by simp at h
  | _ :: _, [], _, _, _, _, h => by simp at h
  | x :: r, d :: s, 0, c, ex, _, _ => by simp [onC, Pa.vals]
  | x :: r, d :: s, i + 1, c, ex, h, h' => by
    have ih := onC_set r s i c ex (by simpa using h) (by simpa using h')
    have e : (i + 1) * 7 = i * 7 + 7 := by omega
    simp only [onC, List.set_cons_succ, List.flatMap_cons, e]
    rw [List.append_assoc, List.append_assoc, ← ih]
    simp [Pa.vals]

/-- One block alone has changed. -/
structure Kx (g : Nat) (w W : World) : Prop where
  os : W.os = w.os
  tape : W.tape = w.tape
  output : W.output = w.output
  size : w.heap.size ≤ W.heap.size
  block : ∀ k, k < w.heap.size → k ≠ g → W.heap[k]? = w.heap[k]?

theorem Kx.refl (g : Nat) (w : World) : Kx g w w := ⟨rfl, rfl, rfl, Nat.le_refl _, fun _ _ _ => rfl⟩
theorem Kx.grow {g : Nat} {w W W' : World} (h : Kx g w W) (hb : Below W.heap.size W W') : Kx g w W' := ⟨hb.os.trans h.os, hb.tape.trans h.tape, hb.output.trans h.output, Nat.le_trans h.size hb.size, fun k hk hg => (hb.block k (Nat.lt_of_lt_of_le hk h.size)).trans (h.block k hk hg)⟩
theorem Kx.trans {g : Nat} {w W W' : World} (h : Kx g w W) (h' : Kx g W W') : Kx g w W' := ⟨h'.os.trans h.os, h'.tape.trans h.tape, h'.output.trans h.output, Nat.le_trans h.size h'.size, fun k hk hg => (h'.block k (Nat.lt_of_lt_of_le hk h.size) hg).trans (h.block k hk hg)⟩
theorem Kx.set {g : Nat} {w W : World} (h : Kx g w W) (i : Nat) (u : Value) : Kx g w (W.setCell ⟨g, i, none⟩ u) := by
  have hb := (Below.refl g W).setCell (p := ⟨g, i, none⟩) (Nat.le_refl _) u
  exact ⟨hb.os.trans h.os, hb.tape.trans h.tape, hb.output.trans h.output, Nat.le_trans h.size hb.size, fun k hk hg => (Below.heap_setCell _ _ _ _ hg).trans (h.block k hk hg)⟩
theorem Kx.cell {g : Nat} {w W : World} (h : Kx g w W) {p : Addr} {v : Value} (hp : p.block ≠ g) (hc : w.cell? p = some v) : W.cell? p = some v := by
  have hl := World.block_lt_of_cell? w p hc
  unfold World.cell? at hc ⊢
  rw [h.block _ hl hp]
  exact hc
theorem Kx.below {g B : Nat} {w0 w W : World} (h : Kx g w W) (hb : Below B w0 w) (hg : B ≤ g) (hB : B ≤ w.heap.size) : Below B w0 W := ⟨h.os.trans hb.os, h.tape.trans hb.tape, h.output.trans hb.output, Nat.le_trans hb.size h.size, fun k hk => (h.block k (Nat.lt_of_lt_of_le hk hB) (by omega)).trans (hb.block k hk)⟩
theorem Kx.row {α : Type} {f : α → List Value} {g : Nat} {w W : World} {l : List α} {v : Value} (h : Kx g w W) (hr : RowSl f w l v) (hn : ∀ a n c, v = .slice (some a) n c → a.block ≠ g) : RowSl f W l v := by
  obtain ⟨ad, c, rfl, h1, h2, h3⟩ := hr
  refine ⟨ad, c, rfl, h1, h2, ?_⟩
  rcases h3 with h3 | ⟨b, o, rfl, h3⟩
  · exact .inl h3
  · exact .inr ⟨b, o, rfl, fun q u hq => h.cell (p := ⟨b, o + q, none⟩) (hn ⟨b, o, none⟩ _ _ rfl) (h3 q u hq)⟩

/-- What 'good' lays parts on. -/
structure LW (W : World) (l : List Pa) (gL gl c : Nat) (cs : List Int) (ex : List Value) : Prop where
  bx : W.cell? ⟨gL, 0, none⟩ = some (.slice (some ⟨gl, 0, none⟩) l.length c)
  row : W.heap[gl]? = some (.cells ((onC l cs).flatMap Pa.vals ++ ex).toArray 53 (0, 0))
  len : cs.length = l.length
  ne : gL ≠ gl
  cap : l.length ≤ c

theorem LW.set {W : World} {l : List Pa} {gL gl c : Nat} {cs : List Int} {ex : List Value} (h : LW W l gL gl c cs ex) {i : Nat} (hi : i < l.length) (z : Int) : LW (W.setCell ⟨gl, i * 7, none⟩ (.int .i64 z)) l gL gl c (cs.set i z) ex := by
  refine ⟨?_, ?_, by rw [List.length_set]; exact h.len, h.ne, h.cap⟩
  · rw [cell_other h.ne]; exact h.bx
  · rw [setCell_list h.row, onC_set l cs i z ex hi h.len]
theorem LW.grow {W W' : World} {l : List Pa} {gL gl c : Nat} {cs : List Int} {ex : List Value} (h : LW W l gL gl c cs ex) (hb : Below W.heap.size W W') : LW W' l gL gl c cs ex :=
  ⟨below_cell hb h.bx, (hb.block _ (Array.getElem?_eq_some_iff.1 h.row).1).trans h.row, h.len, h.ne, h.cap⟩
theorem LW.rowSl {W : World} {l : List Pa} {gL gl c : Nat} {cs : List Int} {ex : List Value} (h : LW W l gL gl c cs ex) : RowSl Pa.vals W (onC l cs) (.slice (some ⟨gl, 0, none⟩) l.length c) := by
  have hl := onC_len l cs h.len
  refine ⟨some ⟨gl, 0, none⟩, c, by rw [hl], (fun e => by cases e), by rw [hl]; exact h.cap, .inr ⟨gl, 0, rfl, fun q u hq => ?_⟩⟩
  rw [Nat.zero_add]
  exact (cells_of h.row).1 q u (by rw [List.getElem?_append_left (List.getElem?_eq_some_iff.1 hq).1]; exact hq)
theorem LW.at_ {W : World} {l : List Pa} {gL gl c : Nat} {cs : List Int} {ex : List Value} (h : LW W l gL gl c cs ex) {i : Nat} (hi : i < l.length) : (∃ u, W.cell? ⟨gl, i * 7, none⟩ = some u) ∧ W.frozen? ⟨gl, i * 7, none⟩ = false := by
  have hl := onC_len l cs h.len
  have h9 := flat_length Pa.vals 7 Pa.len (onC l cs)
  refine ⟨⟨_, (cells_of h.row).1 (i * 7) _ (List.getElem?_eq_getElem (by rw [List.length_append, h9, hl]; omega))⟩, (cells_of h.row).2.1 _⟩

set_option maxRecDepth 20000 in
set_option maxHeartbeats 4000000 in
theorem good_any (W : World) (l : List Pa) (ws cs : List Int) (ex : List Value) (v2 : Value) (gL gl c : Nat) (h : LW W l gL gl c cs ex) (hw : RowSl nuV W ws v2) (hlen : ws.length = l.length) (hne : ∀ a n c, v2 = .slice (some a) n c → a.block ≠ gl) (h1 : 1 ≤ l.length) (h8 : l.length ≤ 8) : Calls Tryd.prog 65 #[v2, .pointer (some ⟨gL, 0, none⟩)] W fun r w' => ∃ ts e, RespsR (onC l ws) ts e ∧ r = .returned (.bool (e.1 == 0)) ∧ LW w' l gL gl c ws ex ∧ Kx gl W w' := by
  have hw' := hw
  obtain ⟨ad, c2, rfl, -, hc2, hrow⟩ := hw'
  rcases hrow with hnil | ⟨bw, ow, rfl, hrow⟩
  · rw [hnil] at hlen; simp at hlen; omega
  have hbw : bw ≠ gl := hne _ _ _ rfl
  have HW : Hid (∀ q u, (ws.flatMap nuV)[q]? = some u → W.cell? ⟨bw, ow + q, none⟩ = some u) := hrow
  have H0 : Hid (LW W l gL gl c cs ex ∧ Kx gl W W) := ⟨h, Kx.refl _ _⟩
  have HN : Hid (ws.length = l.length) := hlen
  have hcap := h.cap
  have hgne := h.ne
  rw [hlen] at hc2 ⊢
  clear h hw hrow hne hlen
  go_enter Tryd.func65, Tryd.ntmps65
  go_wp2_with fail
  go_loopw [10] (fun iv wr => ∃ i : Nat, i ≤ l.length ∧ iv = .int .i64 (i : Int) ∧ Hid (∃ ds, ds.take i = ws.take i ∧ LW wr l gL gl c ds ex ∧ Kx gl W wr)) (fun iv _ => l.length - (intOf iv).toNat)
  case atStart => exact ⟨0, Nat.zero_le _, rfl, ⟨cs, rfl, H0.out.1, H0.out.2⟩⟩
  case round =>
    obtain ⟨i, hi, rfl, HX⟩ := hrel
    clear H0
    obtain ⟨ds, ht, hl, hk⟩ := HX.out
    by_cases hil : i < l.length
    · obtain ⟨z, hz, -⟩ := drop_at (l := ws) (k := i) (by have := HN.out; omega)
      have cz := nu_at (fun q u hq => hk.cell (p := ⟨bw, ow + q, none⟩) hbw (HW.out q u hq)) hz
      obtain ⟨⟨old, hold⟩, hfr⟩ := hl.at_ hil
      have cb := hl.bx
      have HP : Hid (∃ ds', ds'.take (i + 1) = ws.take (i + 1) ∧ LW (wr.setCell ⟨gl, i * 7, none⟩ (.int .i64 z)) l gL gl c ds' ex ∧ Kx gl W (wr.setCell ⟨gl, i * 7, none⟩ (.int .i64 z))) := by
        refine ⟨ds.set i z, ?_, hl.set hil z, hk.set _ _⟩
        rw [List.take_add_one, List.take_add_one, hz, List.getElem?_set_self (by rw [hl.len]; exact hil), List.take_set_of_le (Nat.le_refl _), ht]
      have l1 := World.block_lt_of_cell? _ _ cz
      have l2 := World.block_lt_of_cell? _ _ hold
      have l3 := World.block_lt_of_cell? _ _ cb
      have hii : (i : Int) < (l.length : Int) := by omega
      have hic : i < c := by omega
      clear ht hl hk HX hz
      go_wp2_with fail
      exact ⟨⟨i + 1, by omega, by simp, HP.out⟩, by simp [intOf]; omega⟩
    · have hie : i = l.length := by omega
      subst hie
      have hds : ds = ws := by
        rw [List.take_of_length_le (by rw [hl.len]; exact Nat.le_refl _), List.take_of_length_le (by rw [HN.out]; exact Nat.le_refl _)] at ht
        exact ht
      subst hds
      have HL : Hid (LW wr l gL gl c ds ex ∧ Kx gl W wr) := ⟨hl, hk⟩
      have HR := RespsC_any wr (onC l ds) _ hl.rowSl
      have cb := hl.bx
      have l3 := World.block_lt_of_cell? _ _ cb
      have hii : ¬ ((l.length : Nat) : Int) < (l.length : Int) := by omega
      clear hl hk HX ht
      go_upto_region 7 with (go_at_call 25; refine HR.mono ?_; rintro r w1 ⟨ts, e, tv, hr, rfl, hrow, hb1, hn⟩; have H1 : Hid (RespsR (onC l ds) ts e ∧ LW (w1.alloc (.cells #[.int .i64 e.1, .int .i64 e.2] 30)) l gL gl c ds ex ∧ Kx gl W (w1.alloc (.cells #[.int .i64 e.1, .int .i64 e.2] 30))) := ⟨hr, (HL.out.1.grow hb1).grow (below_new _ _), (HL.out.2.grow hb1).grow (below_new _ _)⟩; obtain ⟨ad3, c3, rfl⟩ := hrow.len; clear hr hrow hb1 hn HR)
      have hnb := heap_alloc_new w1 (.cells #[.int .i64 e.1, .int .i64 e.2] 30)
      generalize w1.alloc (.cells #[.int .i64 e.1, .int .i64 e.2] 30) = w8 at *
      generalize w1.heap.size = gf at *
      obtain ⟨qs, -, ql⟩ := cells_of (l := [_, _]) hnb
      have q0 := qs 0 _ rfl
      clear qs hnb
      go_wp2_with fail
      go_ret
      exact ⟨ts, e, H1.out.1, rfl, H1.out.2.1, H1.out.2.2⟩
end Go.Proofs.YtccoobcggbbcialDoor
