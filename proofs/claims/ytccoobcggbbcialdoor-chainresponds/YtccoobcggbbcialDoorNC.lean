import Derived.Test.YtccoobcggbbcialDoorNF
namespace Go.Proofs.YtccoobcggbbcialDoor
open Go.ChangeShapes Go.WideShapes Go.ChangeAt Go.RowKit

theorem withinN_any (w : World) (n a b : Int) : Calls Tryd.prog 144 #[.int .i64 n, .int .i64 a, .int .i64 b] w fun r w' => r = .returned (.bool (within n a b)) ∧ w' = w := by
  by_cases h : a ≤ n
  · by_cases h2 : n ≤ b
    · have e : within n a b = true := by simp [within, h, h2]
      rw [e]
      go_enter Tryd.func144, Tryd.ntmps144
      go_wp2_with fail
      go_ret
      exact ⟨rfl, rfl⟩
    · have e : within n a b = false := by simp [within, h2]
      rw [e]
      go_enter Tryd.func144, Tryd.ntmps144
      go_wp2_with fail
      go_ret
      exact ⟨rfl, rfl⟩
  · have e : within n a b = false := by simp [within, h]
    rw [e]
    go_enter Tryd.func144, Tryd.ntmps144
    go_wp2_with fail
    go_ret
    exact ⟨rfl, rfl⟩

def isT (n : Int) : Bool := within n 1 10000

theorem isTimeN_any (w : World) (n : Int) : Calls Tryd.prog 170 #[.int .i64 n] w fun r w' => r = .returned (.bool (isT n)) ∧ w' = w := by
  unfold isT
  go_enter Tryd.func170, Tryd.ntmps170
  go_wp2_with (go_at_call 144; refine (withinN_any _ _ _ _).mono ?_; rintro r w1 ⟨rfl, hw1⟩; have hw2 := hw1.symm; subst hw2)
  go_ret
  exact ⟨rfl, rfl⟩

set_option maxRecDepth 20000 in
set_option maxHeartbeats 1000000 in
theorem wrongN_any (w : World) (x : Fr) : Calls Tryd.prog 145 #[x.val] w fun r w' => r = .returned (.int .i64 (wrFr x)) ∧ Below w.heap.size w w' := by
  obtain ⟨c, t, d, j⟩ := x
  show Calls Tryd.prog 145 #[.agg #[.int .i64 c, .int .i64 t, .int .i64 d, .int .i64 j]] w _
  by_cases h1 : isT c = true
  rotate_left 1
  · have h1 : isT c = false := by simpa using h1
    have e : wrFr ⟨c, t, d, j⟩ = 3 := by unfold wrFr badFr; unfold isT within at *; simp at *; omega
    rw [e]
    go_enter Tryd.func145, Tryd.ntmps145
    go_wp2_with (first | (go_at_call 170; refine (isTimeN_any _ _).mono ?_; rintro r w1 ⟨rfl, hw1⟩; have hw2 := hw1.symm; subst hw2; first | rw [h1] | rw [h2] | rw [h3]) | (go_at_call 144; refine (withinN_any _ _ _ _).mono ?_; rintro r w1 ⟨rfl, hw1⟩; have hw2 := hw1.symm; subst hw2; rw [h4]))
    go_ret
    exact ⟨rfl, below_new _ _⟩
  by_cases h2 : isT t = true
  rotate_left 1
  · have h2 : isT t = false := by simpa using h2
    have e : wrFr ⟨c, t, d, j⟩ = 3 := by unfold wrFr badFr; unfold isT within at *; simp at *; omega
    rw [e]
    go_enter Tryd.func145, Tryd.ntmps145
    go_wp2_with (first | (go_at_call 170; refine (isTimeN_any _ _).mono ?_; rintro r w1 ⟨rfl, hw1⟩; have hw2 := hw1.symm; subst hw2; first | rw [h1] | rw [h2] | rw [h3]) | (go_at_call 144; refine (withinN_any _ _ _ _).mono ?_; rintro r w1 ⟨rfl, hw1⟩; have hw2 := hw1.symm; subst hw2; rw [h4]))
    go_ret
    exact ⟨rfl, below_new _ _⟩
  by_cases h3 : isT d = true
  rotate_left 1
  · have h3 : isT d = false := by simpa using h3
    have e : wrFr ⟨c, t, d, j⟩ = 3 := by unfold wrFr badFr; unfold isT within at *; simp at *; omega
    rw [e]
    go_enter Tryd.func145, Tryd.ntmps145
    go_wp2_with (first | (go_at_call 170; refine (isTimeN_any _ _).mono ?_; rintro r w1 ⟨rfl, hw1⟩; have hw2 := hw1.symm; subst hw2; first | rw [h1] | rw [h2] | rw [h3]) | (go_at_call 144; refine (withinN_any _ _ _ _).mono ?_; rintro r w1 ⟨rfl, hw1⟩; have hw2 := hw1.symm; subst hw2; rw [h4]))
    go_ret
    exact ⟨rfl, below_new _ _⟩
  by_cases h4 : within j 0 10000 = true
  rotate_left 1
  · have h4 : within j 0 10000 = false := by simpa using h4
    have e : wrFr ⟨c, t, d, j⟩ = 3 := by unfold wrFr badFr; unfold isT within at *; simp at *; omega
    rw [e]
    go_enter Tryd.func145, Tryd.ntmps145
    go_wp2_with (first | (go_at_call 170; refine (isTimeN_any _ _).mono ?_; rintro r w1 ⟨rfl, hw1⟩; have hw2 := hw1.symm; subst hw2; first | rw [h1] | rw [h2] | rw [h3]) | (go_at_call 144; refine (withinN_any _ _ _ _).mono ?_; rintro r w1 ⟨rfl, hw1⟩; have hw2 := hw1.symm; subst hw2; rw [h4]))
    go_ret
    exact ⟨rfl, below_new _ _⟩
  by_cases h5 : t < j
  · have e : wrFr ⟨c, t, d, j⟩ = 12 := by unfold wrFr badFr; unfold isT within at *; simp at *; omega
    rw [e]
    go_enter Tryd.func145, Tryd.ntmps145
    go_wp2_with (first | (go_at_call 170; refine (isTimeN_any _ _).mono ?_; rintro r w1 ⟨rfl, hw1⟩; have hw2 := hw1.symm; subst hw2; first | rw [h1] | rw [h2] | rw [h3]) | (go_at_call 144; refine (withinN_any _ _ _ _).mono ?_; rintro r w1 ⟨rfl, hw1⟩; have hw2 := hw1.symm; subst hw2; rw [h4]))
    go_ret
    exact ⟨rfl, below_new _ _⟩
  · have e : wrFr ⟨c, t, d, j⟩ = 0 := by unfold wrFr badFr; unfold isT within at *; simp at *; omega
    rw [e]
    go_enter Tryd.func145, Tryd.ntmps145
    go_wp2_with (first | (go_at_call 170; refine (isTimeN_any _ _).mono ?_; rintro r w1 ⟨rfl, hw1⟩; have hw2 := hw1.symm; subst hw2; first | rw [h1] | rw [h2] | rw [h3]) | (go_at_call 144; refine (withinN_any _ _ _ _).mono ?_; rintro r w1 ⟨rfl, hw1⟩; have hw2 := hw1.symm; subst hw2; rw [h4]))
    go_ret
    exact ⟨rfl, below_new _ _⟩
end Go.Proofs.YtccoobcggbbcialDoor
namespace Go.Proofs.YtccoobcggbbcialDoor
open Go.ChangeShapes Go.WideShapes Go.ChangeAt Go.RowKit

theorem CheckN_ends {w : World} {g : Nat} {c k : Value} {a : Act} (h : w.heap[g]? = some (.cells #[c, k] 30 (0, 0))) (h3 : a.tmps[2]?.getD undef = .pointer (some ⟨g, 0, none⟩)) :
    (results Tryd.f127 a.tmps).run Tryd.prog w = .ok (.agg #[c, k]) w := by
  obtain ⟨c1, f1, l1⟩ := cells_of (l := [_, _]) h
  have c10 := c1 0 _ rfl
  have c11 := c1 1 _ rfl
  simp [results, Tryd.results127, go_sem, h3, c10, c11]

set_option maxRecDepth 20000 in
set_option maxHeartbeats 1000000 in
theorem CheckN_any (w : World) (l : List Fr) (v : Value) (hv : RowSl Fr.vals w l v) : Calls Tryd.prog 127 #[v] w fun r w' => r = .returned (.agg #[.int .i64 (chkN l).1, .int .i64 (chkN l).2]) ∧ Below w.heap.size w w' := by
  by_cases hn : l.length = 0 ∨ 8 < l.length
  · have e0 : chkN l = (2, 0) := by unfold chkN; rw [if_pos hn]
    rw [e0]
    obtain ⟨ad, c, rfl⟩ := hv.len
    have HN : Hid (l.length = 0 ∨ 8 < l.length) := hn
    clear hv e0
    have hw : within (l.length : Int) 1 8 = false := by unfold within; simp; have := HN.out; omega
    clear hn
    go_enter Tryd.func127, Tryd.ntmps127
    go_wp2_with (go_at_call 144; refine (withinN_any _ _ _ _).mono ?_; rintro r w1 ⟨rfl, hw1⟩; have hw2 := hw1.symm; subst hw2; rw [hw])
    refine bodyPost_ret (CheckN_ends (g := w.heap.size) (c := .int .i64 2) (k := .int .i64 0) (heap_alloc_new _ _) rfl) rfl ?_
    exact ⟨rfl, below_new _ _⟩
  have e0 : chkN l = chkNF l 0 := by unfold chkN; rw [if_neg hn]
  rw [e0]
  have hw : within (l.length : Int) 1 8 = true := by unfold within; simp; omega
  have hl8 : l.length ≤ 8 := by omega
  clear e0 hn
  obtain ⟨ad, c, rfl, -, hcap, hrow⟩ := hv
  have HR : Hid (l = [] ∨ ∃ b o, ad = some ⟨b, o, none⟩ ∧ ∀ q u, (l.flatMap Fr.vals)[q]? = some u → w.cell? ⟨b, o + q, none⟩ = some u) := hrow
  clear hrow
  go_enter Tryd.func127, Tryd.ntmps127
  go_wp2_with (go_at_call 144; refine (withinN_any _ _ _ _).mono ?_; rintro r w1 ⟨rfl, hw1⟩; have hw2 := hw1.symm; subst hw2; rw [hw])
  go_loopw [13] (fun i wr => ∃ j : Nat, j ≤ l.length ∧ i = .int .i64 j ∧ FB w wr w.heap.size ∧ chkNF (l.drop j) j = chkNF l 0) (fun i _ => l.length - (intOf i).toNat)
  case atStart => exact ⟨0, Nat.zero_le _, rfl, FB.start _, rfl⟩
  case round =>
    obtain ⟨j, hj, rfl, hg, hac⟩ := hrel
    have HG : Hid (FB w wr w.heap.size) := hg
    by_cases hjl : j < l.length
    · obtain ⟨x, hx, hd⟩ := drop_at hjl
      rcases HR.out with h | ⟨gb, go, rfl, hr1⟩
      · rw [h] at hjl; simp at hjl
      obtain ⟨y0, y1, y2, y3⟩ := fr_at (fun q u hq => below_cell hg.bel (hr1 q u hq)) hx
      rw [chkNF_at hd] at hac
      obtain ⟨xc, xt, xd, xj⟩ := x
      dsimp only at y0 y1 y2 y3
      have HA : Hid ((if wrFr ⟨xc, xt, xd, xj⟩ = 0 then chkNF (l.drop (j + 1)) (j + 1) else (wrFr ⟨xc, xt, xd, xj⟩, (j : Int))) = chkNF l 0) := hac
      have hgl := hg.lt
      clear hac hd hr1 hx hg
      by_cases h0 : wrFr ⟨xc, xt, xd, xj⟩ = 0
      · have hwr := fun W => wrongN_any W ⟨xc, xt, xd, xj⟩
        rw [h0] at hwr
        simp only [Fr.val] at hwr
        go_wp2_with (go_at_call 145; refine (hwr _).mono ?_; rintro r w2 ⟨rfl, hb2⟩; have H2 : Hid (FB w w2 w.heap.size) := (HG.out.grow (below_new _ _)).grow hb2; clear hb2)
        have HA2 := HA.out
        rw [if_pos h0] at HA2
        exact ⟨⟨j + 1, by omega, by simp, H2.out, HA2⟩, by simp [intOf]; omega⟩
      · have hwr := fun W => wrongN_any W ⟨xc, xt, xd, xj⟩
        simp only [Fr.val] at hwr
        have HA2 := HA.out
        rw [if_neg h0] at HA2
        have HA3 : Hid ((wrFr ⟨xc, xt, xd, xj⟩, (j : Int)) = chkNF l 0) := HA2
        clear HA2 HA
        generalize wrFr ⟨xc, xt, xd, xj⟩ = z at *
        have hz : (z != 0) = true := by simpa using h0
        clear h0
        go_wp2_with (go_at_call 145; refine (hwr _).mono ?_; rintro r w2 ⟨rfl, hb2⟩; have H2 : Hid (FB w w2 w.heap.size) := (HG.out.grow (below_new _ _)).grow hb2; obtain ⟨qs, qf, ql⟩ := cells_of (l := [_, _]) H2.out.res; have q0 := qs 0 _ rfl; have q1 := qs 1 _ rfl; have qf0 := qf 0; have qf1 := qf 1; clear qs qf hb2)
        refine bodyPost_ret (CheckN_ends (g := w.heap.size) (c := .int .i64 z) (k := .int .i64 (j : Int)) (set_two H2.out.res) rfl) rfl ?_
        rw [← HA3.out]
        exact ⟨rfl, H2.out.set _ _⟩
    · have hje : j = l.length := by omega
      subst hje
      rw [List.drop_length] at hac
      have HA : Hid ((0, 0) = chkNF l 0) := hac
      obtain ⟨qs, qf, ql⟩ := cells_of (l := [_, _]) hg.res
      have q0 := qs 0 _ rfl
      have q1 := qs 1 _ rfl
      have qf0 := qf 0
      have qf1 := qf 1
      clear qs qf hac hg
      go_wp2_with fail
      refine bodyPost_ret (CheckN_ends (g := w.heap.size) (c := .int .i64 0) (k := .int .i64 0) (set_two HG.out.res) rfl) rfl ?_
      rw [← HA.out]
      exact ⟨rfl, HG.out.set _ _⟩
end Go.Proofs.YtccoobcggbbcialDoor
