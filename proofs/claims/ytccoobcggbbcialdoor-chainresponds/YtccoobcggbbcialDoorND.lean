import Derived.Test.YtccoobcggbbcialDoorNC
namespace Go.Proofs.YtccoobcggbbcialDoor
open Go.ChangeShapes Go.WideShapes Go.ChangeAt Go.RowKit

theorem CheckB_ends {w : World} {g : Nat} {c k : Value} {a : Act} (h : w.heap[g]? = some (.cells #[c, k] 30 (0, 0))) (h3 : a.tmps[2]?.getD undef = .pointer (some ⟨g, 0, none⟩)) :
    (results Tryd.f94 a.tmps).run Tryd.prog w = .ok (.agg #[c, k]) w := by
  obtain ⟨c1, f1, l1⟩ := cells_of (l := [_, _]) h
  have c10 := c1 0 _ rfl
  have c11 := c1 1 _ rfl
  simp [results, Tryd.results94, go_sem, h3, c10, c11]

set_option maxRecDepth 20000 in
set_option maxHeartbeats 1000000 in
theorem CheckB_any (w : World) (l : List Fr) (v : Value) (hv : RowSl Fr.vals w l v) : Calls Tryd.prog 94 #[v] w fun r w' => r = .returned (.agg #[.int .i64 (chkN l).1, .int .i64 (chkN l).2]) ∧ Below w.heap.size w w' := by
  by_cases hn : l.length = 0 ∨ 8 < l.length
  · have e0 : chkN l = (2, 0) := by unfold chkN; rw [if_pos hn]
    rw [e0]
    obtain ⟨ad, c, rfl⟩ := hv.len
    have HN : Hid (l.length = 0 ∨ 8 < l.length) := hn
    clear hv e0
    by_cases hz : l.length = 0
    · rw [hz]
      clear hn HN
      go_enter Tryd.func94, Tryd.ntmps94
      go_wp2_with (go_at_call 41; refine (F_any _ _ _).mono ?_; rintro r w2 ⟨rfl, hb2⟩; have H2 : Hid (FB w w2 w.heap.size) := (FB.start w).grow hb2; obtain ⟨qs, qf, ql⟩ := cells_of (l := [_, _]) H2.out.res; have q0 := qs 0 _ rfl; have q1 := qs 1 _ rfl; have qf0 := qf 0; have qf1 := qf 1; clear qs qf hb2)
      refine bodyPost_ret (CheckB_ends (g := w.heap.size) (c := .int .i64 2) (k := .int .i64 0) (set_two H2.out.res) rfl) rfl ?_
      exact ⟨rfl, H2.out.set _ _⟩
    · have hz' : ((l.length : Int) == 0) = false := beq_eq_false_iff_ne.2 (by omega)
      have h8 : (8 : Int) < (l.length : Int) := by omega
      clear hn HN hz
      go_enter Tryd.func94, Tryd.ntmps94
      go_wp2_with (go_at_call 41; refine (F_any _ _ _).mono ?_; rintro r w2 ⟨rfl, hb2⟩; have H2 : Hid (FB w w2 w.heap.size) := (FB.start w).grow hb2; obtain ⟨qs, qf, ql⟩ := cells_of (l := [_, _]) H2.out.res; have q0 := qs 0 _ rfl; have q1 := qs 1 _ rfl; have qf0 := qf 0; have qf1 := qf 1; clear qs qf hb2)
      refine bodyPost_ret (CheckB_ends (g := w.heap.size) (c := .int .i64 2) (k := .int .i64 0) (set_two H2.out.res) rfl) rfl ?_
      exact ⟨rfl, H2.out.set _ _⟩
  have e0 : chkN l = chkNF l 0 := by unfold chkN; rw [if_neg hn]
  rw [e0]
  have hl8 : l.length ≤ 8 := by omega
  have h8 : ¬ (8 : Int) < (l.length : Int) := by omega
  have hz' : ((l.length : Int) == 0) = false := beq_eq_false_iff_ne.2 (by omega)
  clear e0 hn
  obtain ⟨ad, c, rfl, -, hcap, hrow⟩ := hv
  have HR : Hid (l = [] ∨ ∃ b o, ad = some ⟨b, o, none⟩ ∧ ∀ q u, (l.flatMap Fr.vals)[q]? = some u → w.cell? ⟨b, o + q, none⟩ = some u) := hrow
  clear hrow
  go_enter Tryd.func94, Tryd.ntmps94
  go_wp2_with fail
  go_loopw [16] (fun i wr => ∃ j : Nat, j ≤ l.length ∧ i = .int .i64 j ∧ FB w wr w.heap.size ∧ chkNF (l.drop j) j = chkNF l 0) (fun i _ => l.length - (intOf i).toNat)
  case atStart => exact ⟨0, Nat.zero_le _, rfl, FB.start _, rfl⟩
  case round =>
    obtain ⟨j, hj, rfl, hg, hac⟩ := hrel
    have HG : Hid (FB w wr w.heap.size) := hg
    by_cases hjl : j < l.length
    · obtain ⟨x, hx, hd⟩ := drop_at hjl
      rcases HR.out with h | ⟨gb, go, rfl, hr1⟩
      · rw [h] at hjl; simp at hjl
      obtain ⟨y0, y1, y2, y3⟩ := fr_at (fun q u hq => below_cell hg.bel (hr1 q u hq)) hx
      rw [chkNF_at hd] at hac
      obtain ⟨xc, xt, xd, xj⟩ := x
      dsimp only at y0 y1 y2 y3
      have HA : Hid ((if wrFr ⟨xc, xt, xd, xj⟩ = 0 then chkNF (l.drop (j + 1)) (j + 1) else (wrFr ⟨xc, xt, xd, xj⟩, (j : Int))) = chkNF l 0) := hac
      have hgl := hg.lt
      clear hac hd hr1 hx hg
      by_cases k0 : xc < 1
      · have e : wrFr ⟨xc, xt, xd, xj⟩ = 3 := by unfold wrFr badFr; simp; omega
        have HA3 : Hid ((3, (j : Int)) = chkNF l 0) := by
          have HA2 := HA.out
          rw [e, if_neg (by decide)] at HA2
          exact HA2
        clear HA e
        go_wp2_with (go_at_call 41; refine (F_any _ _ _).mono ?_; rintro r w2 ⟨rfl, hb2⟩; have H2 : Hid (FB w w2 w.heap.size) := (HG.out.grow (below_new _ _)).grow hb2; obtain ⟨qs, qf, ql⟩ := cells_of (l := [_, _]) H2.out.res; have q0 := qs 0 _ rfl; have q1 := qs 1 _ rfl; have qf0 := qf 0; have qf1 := qf 1; clear qs qf hb2)
        refine bodyPost_ret (CheckB_ends (g := w.heap.size) (c := .int .i64 3) (k := .int .i64 (j : Int)) (set_two H2.out.res) rfl) rfl ?_
        rw [← HA3.out]
        exact ⟨rfl, H2.out.set _ _⟩
      by_cases k1 : 10000 < xc
      · have e : wrFr ⟨xc, xt, xd, xj⟩ = 3 := by unfold wrFr badFr; simp; omega
        have HA3 : Hid ((3, (j : Int)) = chkNF l 0) := by
          have HA2 := HA.out
          rw [e, if_neg (by decide)] at HA2
          exact HA2
        clear HA e
        go_wp2_with (go_at_call 41; refine (F_any _ _ _).mono ?_; rintro r w2 ⟨rfl, hb2⟩; have H2 : Hid (FB w w2 w.heap.size) := (HG.out.grow (below_new _ _)).grow hb2; obtain ⟨qs, qf, ql⟩ := cells_of (l := [_, _]) H2.out.res; have q0 := qs 0 _ rfl; have q1 := qs 1 _ rfl; have qf0 := qf 0; have qf1 := qf 1; clear qs qf hb2)
        refine bodyPost_ret (CheckB_ends (g := w.heap.size) (c := .int .i64 3) (k := .int .i64 (j : Int)) (set_two H2.out.res) rfl) rfl ?_
        rw [← HA3.out]
        exact ⟨rfl, H2.out.set _ _⟩
      by_cases k2 : xt < 1
      · have e : wrFr ⟨xc, xt, xd, xj⟩ = 3 := by unfold wrFr badFr; simp; omega
        have HA3 : Hid ((3, (j : Int)) = chkNF l 0) := by
          have HA2 := HA.out
          rw [e, if_neg (by decide)] at HA2
          exact HA2
        clear HA e
        go_wp2_with (go_at_call 41; refine (F_any _ _ _).mono ?_; rintro r w2 ⟨rfl, hb2⟩; have H2 : Hid (FB w w2 w.heap.size) := (HG.out.grow (below_new _ _)).grow hb2; obtain ⟨qs, qf, ql⟩ := cells_of (l := [_, _]) H2.out.res; have q0 := qs 0 _ rfl; have q1 := qs 1 _ rfl; have qf0 := qf 0; have qf1 := qf 1; clear qs qf hb2)
        refine bodyPost_ret (CheckB_ends (g := w.heap.size) (c := .int .i64 3) (k := .int .i64 (j : Int)) (set_two H2.out.res) rfl) rfl ?_
        rw [← HA3.out]
        exact ⟨rfl, H2.out.set _ _⟩
      by_cases k3 : 10000 < xt
      · have e : wrFr ⟨xc, xt, xd, xj⟩ = 3 := by unfold wrFr badFr; simp; omega
        have HA3 : Hid ((3, (j : Int)) = chkNF l 0) := by
          have HA2 := HA.out
          rw [e, if_neg (by decide)] at HA2
          exact HA2
        clear HA e
        go_wp2_with (go_at_call 41; refine (F_any _ _ _).mono ?_; rintro r w2 ⟨rfl, hb2⟩; have H2 : Hid (FB w w2 w.heap.size) := (HG.out.grow (below_new _ _)).grow hb2; obtain ⟨qs, qf, ql⟩ := cells_of (l := [_, _]) H2.out.res; have q0 := qs 0 _ rfl; have q1 := qs 1 _ rfl; have qf0 := qf 0; have qf1 := qf 1; clear qs qf hb2)
        refine bodyPost_ret (CheckB_ends (g := w.heap.size) (c := .int .i64 3) (k := .int .i64 (j : Int)) (set_two H2.out.res) rfl) rfl ?_
        rw [← HA3.out]
        exact ⟨rfl, H2.out.set _ _⟩
      by_cases k4 : xd < 1
      · have e : wrFr ⟨xc, xt, xd, xj⟩ = 3 := by unfold wrFr badFr; simp; omega
        have HA3 : Hid ((3, (j : Int)) = chkNF l 0) := by
          have HA2 := HA.out
          rw [e, if_neg (by decide)] at HA2
          exact HA2
        clear HA e
        go_wp2_with (go_at_call 41; refine (F_any _ _ _).mono ?_; rintro r w2 ⟨rfl, hb2⟩; have H2 : Hid (FB w w2 w.heap.size) := (HG.out.grow (below_new _ _)).grow hb2; obtain ⟨qs, qf, ql⟩ := cells_of (l := [_, _]) H2.out.res; have q0 := qs 0 _ rfl; have q1 := qs 1 _ rfl; have qf0 := qf 0; have qf1 := qf 1; clear qs qf hb2)
        refine bodyPost_ret (CheckB_ends (g := w.heap.size) (c := .int .i64 3) (k := .int .i64 (j : Int)) (set_two H2.out.res) rfl) rfl ?_
        rw [← HA3.out]
        exact ⟨rfl, H2.out.set _ _⟩
      by_cases k5 : 10000 < xd
      · have e : wrFr ⟨xc, xt, xd, xj⟩ = 3 := by unfold wrFr badFr; simp; omega
        have HA3 : Hid ((3, (j : Int)) = chkNF l 0) := by
          have HA2 := HA.out
          rw [e, if_neg (by decide)] at HA2
          exact HA2
        clear HA e
        go_wp2_with (go_at_call 41; refine (F_any _ _ _).mono ?_; rintro r w2 ⟨rfl, hb2⟩; have H2 : Hid (FB w w2 w.heap.size) := (HG.out.grow (below_new _ _)).grow hb2; obtain ⟨qs, qf, ql⟩ := cells_of (l := [_, _]) H2.out.res; have q0 := qs 0 _ rfl; have q1 := qs 1 _ rfl; have qf0 := qf 0; have qf1 := qf 1; clear qs qf hb2)
        refine bodyPost_ret (CheckB_ends (g := w.heap.size) (c := .int .i64 3) (k := .int .i64 (j : Int)) (set_two H2.out.res) rfl) rfl ?_
        rw [← HA3.out]
        exact ⟨rfl, H2.out.set _ _⟩
      by_cases k6 : xj < 0
      · have e : wrFr ⟨xc, xt, xd, xj⟩ = 3 := by unfold wrFr badFr; simp; omega
        have HA3 : Hid ((3, (j : Int)) = chkNF l 0) := by
          have HA2 := HA.out
          rw [e, if_neg (by decide)] at HA2
          exact HA2
        clear HA e
        go_wp2_with (go_at_call 41; refine (F_any _ _ _).mono ?_; rintro r w2 ⟨rfl, hb2⟩; have H2 : Hid (FB w w2 w.heap.size) := (HG.out.grow (below_new _ _)).grow hb2; obtain ⟨qs, qf, ql⟩ := cells_of (l := [_, _]) H2.out.res; have q0 := qs 0 _ rfl; have q1 := qs 1 _ rfl; have qf0 := qf 0; have qf1 := qf 1; clear qs qf hb2)
        refine bodyPost_ret (CheckB_ends (g := w.heap.size) (c := .int .i64 3) (k := .int .i64 (j : Int)) (set_two H2.out.res) rfl) rfl ?_
        rw [← HA3.out]
        exact ⟨rfl, H2.out.set _ _⟩
      by_cases k7 : 10000 < xj
      · have e : wrFr ⟨xc, xt, xd, xj⟩ = 3 := by unfold wrFr badFr; simp; omega
        have HA3 : Hid ((3, (j : Int)) = chkNF l 0) := by
          have HA2 := HA.out
          rw [e, if_neg (by decide)] at HA2
          exact HA2
        clear HA e
        go_wp2_with (go_at_call 41; refine (F_any _ _ _).mono ?_; rintro r w2 ⟨rfl, hb2⟩; have H2 : Hid (FB w w2 w.heap.size) := (HG.out.grow (below_new _ _)).grow hb2; obtain ⟨qs, qf, ql⟩ := cells_of (l := [_, _]) H2.out.res; have q0 := qs 0 _ rfl; have q1 := qs 1 _ rfl; have qf0 := qf 0; have qf1 := qf 1; clear qs qf hb2)
        refine bodyPost_ret (CheckB_ends (g := w.heap.size) (c := .int .i64 3) (k := .int .i64 (j : Int)) (set_two H2.out.res) rfl) rfl ?_
        rw [← HA3.out]
        exact ⟨rfl, H2.out.set _ _⟩
      by_cases k8 : xt < xj
      · have e : wrFr ⟨xc, xt, xd, xj⟩ = 12 := by unfold wrFr badFr; simp; omega
        have HA3 : Hid ((12, (j : Int)) = chkNF l 0) := by
          have HA2 := HA.out
          rw [e, if_neg (by decide)] at HA2
          exact HA2
        clear HA e
        go_wp2_with (go_at_call 41; refine (F_any _ _ _).mono ?_; rintro r w2 ⟨rfl, hb2⟩; have H2 : Hid (FB w w2 w.heap.size) := (HG.out.grow (below_new _ _)).grow hb2; obtain ⟨qs, qf, ql⟩ := cells_of (l := [_, _]) H2.out.res; have q0 := qs 0 _ rfl; have q1 := qs 1 _ rfl; have qf0 := qf 0; have qf1 := qf 1; clear qs qf hb2)
        refine bodyPost_ret (CheckB_ends (g := w.heap.size) (c := .int .i64 12) (k := .int .i64 (j : Int)) (set_two H2.out.res) rfl) rfl ?_
        rw [← HA3.out]
        exact ⟨rfl, H2.out.set _ _⟩
      · have e : wrFr ⟨xc, xt, xd, xj⟩ = 0 := by unfold wrFr badFr; simp; omega
        have HA2 := HA.out
        rw [e, if_pos rfl] at HA2
        have HA3 : Hid (chkNF (l.drop (j + 1)) (j + 1) = chkNF l 0) := HA2
        clear HA e HA2
        go_wp2_with fail
        exact ⟨⟨j + 1, by omega, by simp, HG.out.grow (below_new _ _), HA3.out⟩, by simp [intOf]; omega⟩
    · have hje : j = l.length := by omega
      subst hje
      rw [List.drop_length] at hac
      have HA : Hid ((0, 0) = chkNF l 0) := hac
      obtain ⟨qs, qf, ql⟩ := cells_of (l := [_, _]) hg.res
      have q0 := qs 0 _ rfl
      have q1 := qs 1 _ rfl
      have qf0 := qf 0
      have qf1 := qf 1
      clear qs qf hac hg
      go_wp2_with fail
      refine bodyPost_ret (CheckB_ends (g := w.heap.size) (c := .int .i64 0) (k := .int .i64 0) (set_two HG.out.res) rfl) rfl ?_
      rw [← HA.out]
      exact ⟨rfl, HG.out.set _ _⟩

end Go.Proofs.YtccoobcggbbcialDoor
