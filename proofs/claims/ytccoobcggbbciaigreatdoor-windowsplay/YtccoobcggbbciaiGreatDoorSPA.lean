import Derived.Test.YtccoobcggbbciaiGreatDoorSLW
namespace Go.Proofs.YtccoobcggbbciaiGreatDoor.S8
open Go.ChangeShapes Go.WideShapes Go.ChangeAt Go.RowKit

/- What is wrong with jobs. -/
def okJ (x : Jb) : Prop := 0 ≤ x.a ∧ x.a ≤ 60000 ∧ 1 ≤ x.c ∧ x.c ≤ 10000 ∧ 0 ≤ x.d ∧ x.d ≤ 80000

abbrev okDec (x : Jb) : Decidable (okJ x) := by unfold okJ; exact inferInstance

def chkFrom : List Jb → Nat → Int × Int
  | [], _ => (0, 0)
  | x :: r, i => if 0 ≤ x.a ∧ x.a ≤ 60000 ∧ 1 ≤ x.c ∧ x.c ≤ 10000 ∧ 0 ≤ x.d ∧ x.d ≤ 80000 then chkFrom r (i + 1) else (3, (i : Int))

/-- chapter 8's Check. -/
def chkJ (l : List Jb) : Int × Int := if 4000 < l.length then (2, 0) else chkFrom l 0

theorem chkFrom_at {l : List Jb} {j : Nat} {x : Jb} (h : l.drop j = x :: l.drop (j + 1)) : chkFrom (l.drop j) j = if 0 ≤ x.a ∧ x.a ≤ 60000 ∧ 1 ≤ x.c ∧ x.c ≤ 10000 ∧ 0 ≤ x.d ∧ x.d ≤ 80000 then chkFrom (l.drop (j + 1)) (j + 1) else (3, (j : Int)) := by
  rw [h, chkFrom]

theorem chkFrom_ok : ∀ (l : List Jb) (i : Nat), (chkFrom l i).1 = 0 → (∀ x ∈ l, okJ x) ∧ chkFrom l i = (0, 0)
  | [], _, _ => ⟨by simp, rfl⟩
  | x :: r, i, h => by
    rw [chkFrom] at h ⊢
    by_cases hx : 0 ≤ x.a ∧ x.a ≤ 60000 ∧ 1 ≤ x.c ∧ x.c ≤ 10000 ∧ 0 ≤ x.d ∧ x.d ≤ 80000
    · rw [if_pos hx] at h ⊢
      obtain ⟨h1, h2⟩ := chkFrom_ok r (i + 1) h
      exact ⟨fun y hy => (List.mem_cons.1 hy).elim (fun e => e ▸ hx) (h1 y), h2⟩
    · rw [if_neg hx] at h
      cases h

theorem chkJ_ok {l : List Jb} (h : (chkJ l).1 = 0) : l.length ≤ 4000 ∧ (∀ x ∈ l, okJ x) ∧ chkJ l = (0, 0) := by
  unfold chkJ at h ⊢
  by_cases hn : 4000 < l.length
  · rw [if_pos hn] at h; cases h
  · rw [if_neg hn] at h ⊢
    exact ⟨by omega, chkFrom_ok l 0 h⟩

theorem within_any (w : World) (n a b : Int) : Calls Tryz.prog 81 #[.int .i64 n, .int .i64 a, .int .i64 b] w fun r w' => r = .returned (.bool (within n a b)) ∧ w' = w := by
  by_cases h : a ≤ n
  · by_cases h2 : n ≤ b
    · have e : within n a b = true := by simp [within, h, h2]
      rw [e]
      go_enter Tryz.func81, Tryz.ntmps81
      go_wp2_with fail
      go_ret
      exact ⟨rfl, rfl⟩
    · have e : within n a b = false := by simp [within, h2]
      rw [e]
      go_enter Tryz.func81, Tryz.ntmps81
      go_wp2_with fail
      go_ret
      exact ⟨rfl, rfl⟩
  · have e : within n a b = false := by simp [within, h]
    rw [e]
    go_enter Tryz.func81, Tryz.ntmps81
    go_wp2_with fail
    go_ret
    exact ⟨rfl, rfl⟩

theorem Check_ends {w : World} {g : Nat} {c k : Value} {a : Act} (h : w.heap[g]? = some (.cells #[c, k] 30 (0, 0))) (h3 : a.tmps[2]?.getD undef = .pointer (some ⟨g, 0, none⟩)) :
    (results Tryz.f54 a.tmps).run Tryz.prog w = .ok (.agg #[c, k]) w := by
  obtain ⟨c1, f1, l1⟩ := cells_of (l := [_, _]) h
  have c10 := c1 0 _ rfl
  have c11 := c1 1 _ rfl
  simp [results, Tryz.results54, go_sem, h3, c10, c11]

set_option maxRecDepth 20000 in
set_option maxHeartbeats 2000000 in
theorem Check_any (w : World) (l : List Jb) (v : Value) (hv : RowSl Jb.vals w l v) : Calls Tryz.prog 54 #[v] w fun r w' => r = .returned (.agg #[.int .i64 (chkJ l).1, .int .i64 (chkJ l).2]) ∧ Below w.heap.size w w' := by
  by_cases hn : 4000 < l.length
  · have hn' : (4000 : Int) < (l.length : Int) := by omega
    have e0 : chkJ l = (2, 0) := by unfold chkJ; rw [if_pos hn]
    rw [e0]
    obtain ⟨ad, c, rfl⟩ := hv.len
    clear hv e0
    go_enter Tryz.func54, Tryz.ntmps54
    go_wp2_with fail
    refine bodyPost_ret (Check_ends (g := w.heap.size) (c := .int .i64 2) (k := .int .i64 0) (heap_alloc_new _ _) rfl) rfl ?_
    exact ⟨rfl, below_new _ _⟩
  have hn' : ¬ (4000 : Int) < (l.length : Int) := by omega
  have e0 : chkJ l = chkFrom l 0 := by unfold chkJ; rw [if_neg hn]
  rw [e0]
  clear e0
  obtain ⟨ad, c, rfl, -, hcap, hrow⟩ := hv
  have HR : Hid (l = [] ∨ ∃ b o, ad = some ⟨b, o, none⟩ ∧ ∀ q u, (l.flatMap Jb.vals)[q]? = some u → w.cell? ⟨b, o + q, none⟩ = some u) := hrow
  clear hrow
  go_enter Tryz.func54, Tryz.ntmps54
  go_wp2_with fail
  go_loopw [11] (fun i wr => ∃ j : Nat, j ≤ l.length ∧ i = .int .i64 j ∧ FB w wr w.heap.size ∧ chkFrom (l.drop j) j = chkFrom l 0) (fun i _ => l.length - (intOf i).toNat)
  case atStart => exact ⟨0, Nat.zero_le _, rfl, FB.start _, rfl⟩
  case round =>
    obtain ⟨j, hj, rfl, hg, hac⟩ := hrel
    have HG : Hid (FB w wr w.heap.size) := hg
    by_cases hjl : j < l.length
    · obtain ⟨x, hx, hd⟩ := drop_at hjl
      rcases HR.out with h | ⟨gb, go, rfl, hr1⟩
      · rw [h] at hjl; simp at hjl
      obtain ⟨y0, y1, y2, y3, y4⟩ := jb_at (fun q u hq => below_cell hg.bel (hr1 q u hq)) hx
      rw [chkFrom_at hd] at hac
      obtain ⟨xk, xa, xc, xd, xp⟩ := x
      dsimp only at y0 y1 y2 y3 y4 hac
      have HA : Hid ((if 0 ≤ xa ∧ xa ≤ 60000 ∧ 1 ≤ xc ∧ xc ≤ 10000 ∧ 0 ≤ xd ∧ xd ≤ 80000 then chkFrom (l.drop (j + 1)) (j + 1) else (3, (j : Int))) = chkFrom l 0) := hac
      clear hac hd hr1 hx hg
      by_cases q0 : 0 ≤ xa ∧ xa ≤ 60000
      rotate_left 1
      · have e0 : within xa 0 60000 = false := by unfold within; simp; omega
        have HE : Hid ((3, (j : Int)) = chkFrom l 0) := by have e := HA.out; rw [if_neg (by omega)] at e; exact e
        obtain ⟨rs1, rf1, rl1⟩ := cells_of (l := [_, _]) HG.out.res
        have r10 := rs1 0 _ rfl
        have r11 := rs1 1 _ rfl
        have f10 := rf1 0
        have f11 := rf1 1
        clear rs1 rf1
        go_wp2_with (go_at_call 81; refine (within_any _ _ _ _).mono ?_; rintro r w3 ⟨rfl, rfl⟩; first | rw [e0])
        refine bodyPost_ret (Check_ends (g := w.heap.size) (c := .int .i64 3) (k := .int .i64 (j : Int)) (set_alloc2 HG.out.res) rfl) rfl ?_
        rw [← HE.out]
        exact ⟨rfl, (HG.out.set _ _).alloc (by have := (HG.out.set (.int .i64 3) (.int .i64 (j : Int))).size; omega) _⟩
      · have e0 : within xa 0 60000 = true := by unfold within; simp; omega
        by_cases q1 : 1 ≤ xc ∧ xc ≤ 10000
        rotate_left 1
        · have e1 : within xc 1 10000 = false := by unfold within; simp; omega
          have HE : Hid ((3, (j : Int)) = chkFrom l 0) := by have e := HA.out; rw [if_neg (by omega)] at e; exact e
          obtain ⟨rs1, rf1, rl1⟩ := cells_of (l := [_, _]) HG.out.res
          have r10 := rs1 0 _ rfl
          have r11 := rs1 1 _ rfl
          have f10 := rf1 0
          have f11 := rf1 1
          clear rs1 rf1
          go_wp2_with (go_at_call 81; refine (within_any _ _ _ _).mono ?_; rintro r w3 ⟨rfl, rfl⟩; first | rw [e0] | rw [e1])
          refine bodyPost_ret (Check_ends (g := w.heap.size) (c := .int .i64 3) (k := .int .i64 (j : Int)) (set_alloc2 HG.out.res) rfl) rfl ?_
          rw [← HE.out]
          exact ⟨rfl, (HG.out.set _ _).alloc (by have := (HG.out.set (.int .i64 3) (.int .i64 (j : Int))).size; omega) _⟩
        · have e1 : within xc 1 10000 = true := by unfold within; simp; omega
          by_cases q2 : 0 ≤ xd ∧ xd ≤ 80000
          rotate_left 1
          · have e2 : within xd 0 80000 = false := by unfold within; simp; omega
            have HE : Hid ((3, (j : Int)) = chkFrom l 0) := by have e := HA.out; rw [if_neg (by omega)] at e; exact e
            obtain ⟨rs1, rf1, rl1⟩ := cells_of (l := [_, _]) HG.out.res
            have r10 := rs1 0 _ rfl
            have r11 := rs1 1 _ rfl
            have f10 := rf1 0
            have f11 := rf1 1
            clear rs1 rf1
            go_wp2_with (go_at_call 81; refine (within_any _ _ _ _).mono ?_; rintro r w3 ⟨rfl, rfl⟩; first | rw [e0] | rw [e1] | rw [e2])
            refine bodyPost_ret (Check_ends (g := w.heap.size) (c := .int .i64 3) (k := .int .i64 (j : Int)) (set_alloc2 HG.out.res) rfl) rfl ?_
            rw [← HE.out]
            exact ⟨rfl, (HG.out.set _ _).alloc (by have := (HG.out.set (.int .i64 3) (.int .i64 (j : Int))).size; omega) _⟩
          · have e2 : within xd 0 80000 = true := by unfold within; simp; omega
            have HE : Hid (chkFrom (l.drop (j + 1)) (j + 1) = chkFrom l 0) := by have e := HA.out; rw [if_pos (by omega)] at e; exact e
            go_wp2_with (go_at_call 81; refine (within_any _ _ _ _).mono ?_; rintro r w3 ⟨rfl, rfl⟩; first | rw [e0] | rw [e1] | rw [e2])
            exact ⟨⟨j + 1, by omega, by simp, HG.out.grow (below_new _ _), HE.out⟩, by simp [intOf]; omega⟩
    · have hje : j = l.length := by omega
      subst hje
      have HE : Hid ((0, 0) = chkFrom l 0) := by rw [List.drop_length] at hac; exact hac
      obtain ⟨rs1, rf1, rl1⟩ := cells_of (l := [_, _]) HG.out.res
      have r10 := rs1 0 _ rfl
      have r11 := rs1 1 _ rfl
      have f10 := rf1 0
      have f11 := rf1 1
      clear rs1 rf1
      clear hg hac
      go_wp2_with fail
      refine bodyPost_ret (Check_ends (g := w.heap.size) (c := .int .i64 0) (k := .int .i64 0) (set_two HG.out.res) rfl) rfl ?_
      rw [← HE.out]
      exact ⟨rfl, HG.out.set _ _⟩
end Go.Proofs.YtccoobcggbbciaiGreatDoor.S8
