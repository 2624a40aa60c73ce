import Derived.Test.YtnkgbkkakokciaiDoorVG
namespace Go.Proofs.YtnkgbkkakokciaiDoor
open Go.ChangeShapes Go.WideShapes Go.ChangeAt Go.RowKit

theorem timesF_good {n y : Int} {l : List Wi} {ts : List Int} (h : timesF n l ts = (0, y)) : (0, (frmF n l).2) = frmF n l ∧ ts.any outT = false ∧ y = 0 := by
  unfold timesF at h
  split at h
  · rename_i h0
    rw [h] at h0
    simp at h0
  · rename_i h0
    split at h
    · cases h
    · rename_i h1
      cases h
      exact ⟨by rw [← show (frmF n l).1 = 0 by simpa using h0], by simpa using h1, rfl⟩

theorem Supply_ends {w : World} {g : Nat} {c k p : Value} {a : Act} (h : w.heap[g]? = some (.cells #[c, k] 30 (0, 0))) (h2 : a.tmps[8]?.getD undef = p) (h3 : a.tmps[9]?.getD undef = .pointer (some ⟨g, 0, none⟩)) :
    (results Tryd.f11 a.tmps).run Tryd.prog w = .ok (.tuple #[p, .agg #[c, k]]) w := by
  obtain ⟨c1, f1, l1⟩ := cells_of (l := [_, _]) h
  have c10 := c1 0 _ rfl
  have c11 := c1 1 _ rfl
  simp [results, Tryd.results11, go_sem, h2, h3, c10, c11]

/-- What Supply answers. -/
def SupplyF (n : Int) (l : List Wi) (s k : Int) : Int × Int × Int := if (timesF n l [s, k]).1 ≠ 0 then (0, timesF n l [s, k]) else (sup n l s.toNat k.toNat, 0, 0)

set_option maxRecDepth 20000 in
set_option maxHeartbeats 4000000 in
theorem Supply_any (w : World) (n s k : Int) (l : List Wi) (v : Value) (hv : RowSl Wi.vals w l v) : Calls Tryd.prog 11 #[.int .i64 n, v, .int .i64 s, .int .i64 k] w fun r w' => r = .returned (.tuple #[.int .i64 (SupplyF n l s k).1, .agg #[.int .i64 (SupplyF n l s k).2.1, .int .i64 (SupplyF n l s k).2.2]]) ∧ Below w.heap.size w w' := by
  have H0 : Hid (FB w ((w.alloc (.cells #[.int .i64 0, .int .i64 0] 30)).alloc (.cells #[.int .i64 s, .int .i64 k] 3)) w.heap.size) := (FB.start w).grow (below_new _ _)
  have hrow : RowSl intV ((w.alloc (.cells #[.int .i64 0, .int .i64 0] 30)).alloc (.cells #[.int .i64 s, .int .i64 k] 3)) [s, k] (.slice (some ⟨w.heap.size + 1, 0, none⟩) 2 2) := by
    refine ⟨_, _, rfl, (fun e => by cases e), Nat.le_refl _, .inr ⟨w.heap.size + 1, 0, rfl, fun q u hq => ?_⟩⟩
    have hh := (cells_of (l := [.int .i64 s, .int .i64 k]) (heap_alloc_new (w.alloc (.cells #[.int .i64 0, .int .i64 0] 30)) (.cells #[.int .i64 s, .int .i64 k] 3))).1 q u hq
    rw [Nat.zero_add]
    simpa using hh
  have HC := checkTimes_any ((w.alloc (.cells #[.int .i64 0, .int .i64 0] 30)).alloc (.cells #[.int .i64 s, .int .i64 k] 3)) n l [s, k] v _ (hv.below H0.out.bel) hrow (by simp)
  obtain ⟨ad, c, rfl⟩ := hv.len
  have HV : Hid (RowSl Wi.vals w l (.slice ad l.length c)) := hv
  unfold SupplyF
  rcases hz : timesF n l [s, k] with ⟨z, y⟩
  rw [hz] at HC
  dsimp only at HC ⊢
  clear hv hrow
  by_cases h0 : z = 0
  · rw [if_neg (by simpa using h0)]
    subst h0
    obtain ⟨hg, hok, rfl⟩ := timesF_good hz
    obtain ⟨hn, h20, hs, -⟩ := frmF_good (z := (frmF n l).2) (by rw [← hg])
    have hok : (0 ≤ s ∧ s ≤ 20000) ∧ (0 ≤ k ∧ k ≤ 20000) := by simpa [outT, wthin] using hok
    obtain ⟨n', rfl⟩ : ∃ n' : Nat, n = (n' : Int) := ⟨n.toNat, by omega⟩
    obtain ⟨sn, rfl⟩ : ∃ m : Nat, s = (m : Int) := ⟨s.toNat, by omega⟩
    obtain ⟨kn, rfl⟩ : ∃ m : Nat, k = (m : Int) := ⟨k.toNat, by omega⟩
    have HS : Hid (∀ W, Below w.heap.size w W → Calls Tryd.prog 21 #[.agg #[.int .i64 (n' : Int), .slice ad l.length c], .int .i64 (sn : Int), .int .i64 (kn : Int)] W fun r w' => r = .returned (.int .i64 (sup n' l sn kn)) ∧ Below W.heap.size W w') := fun W hW => supply_any W n' sn kn l ad c (by omega) h20 hs (by omega) (HV.out.below hW)
    clear hz hg
    simp only [Int.toNat_natCast]
    generalize sup n' l sn kn = q at *
    go_enter Tryd.func11, Tryd.ntmps11
    go_wp2_with (first
      | (go_at_call 21; refine (HS.out _ H1.out.bel).mono ?_; rintro r w2 ⟨rfl, hb2⟩; have H2 : Hid (FB w w2 w.heap.size) := H1.out.grow hb2; obtain ⟨r10, r11, f10, f11, rl⟩ := H2.out.res2; clear hb2)
      | (go_at_call 20; refine HC.mono ?_; rintro r w1 ⟨rfl, hb1⟩; have H1 : Hid (FB w (w1.alloc (.cells #[.int .i64 0, .int .i64 0] 30)) w.heap.size) := (H0.out.grow hb1).grow (below_new _ _); clear hb1))
    first
      | (refine bodyPost_ret (Supply_ends (set_two H2.out.res) rfl rfl) rfl ?_; exact ⟨rfl, H2.out.set _ _⟩)
      | (go_region
         all_goals go_wp2_with fail
         all_goals
           refine bodyPost_ret (Supply_ends (set_two H2.out.res) rfl rfl) rfl ?_
           first | exact ⟨rfl, H2.out.set _ _⟩ | exact ⟨rfl, (H2.out.set _ _).drew⟩)
  · rw [if_pos (by simpa using h0)]
    go_enter Tryd.func11, Tryd.ntmps11
    go_wp2_with (go_at_call 20; refine HC.mono ?_; rintro r w1 ⟨rfl, hb1⟩; have H1 : Hid (FB w w1 w.heap.size) := H0.out.grow hb1; obtain ⟨r10, r11, f10, f11, rl⟩ := H1.out.res2; clear hb1)
    go_region
    all_goals go_wp2_with fail
    all_goals
      refine bodyPost_ret (Supply_ends (H1.out.setA (.int .i64 z) (.int .i64 y) _).1 rfl rfl) rfl ?_
      first | exact ⟨rfl, (H1.out.setA (.int .i64 z) (.int .i64 y) _).2.drew⟩ | exact ⟨rfl, (H1.out.setA (.int .i64 z) (.int .i64 y) _).2⟩

theorem Least_ends {w : World} {g : Nat} {c k p : Value} {a : Act} (h : w.heap[g]? = some (.cells #[c, k] 30 (0, 0))) (h2 : a.tmps[6]?.getD undef = p) (h3 : a.tmps[7]?.getD undef = .pointer (some ⟨g, 0, none⟩)) :
    (results Tryd.f12 a.tmps).run Tryd.prog w = .ok (.tuple #[p, .agg #[c, k]]) w := by
  obtain ⟨c1, f1, l1⟩ := cells_of (l := [_, _]) h
  have c10 := c1 0 _ rfl
  have c11 := c1 1 _ rfl
  simp [results, Tryd.results12, go_sem, h2, h3, c10, c11]

/-- What Least answers. -/
def LeastF (n : Int) (l : List Wi) (k : Int) : Int × Int × Int := if (timesF n l [k]).1 ≠ 0 then (0, timesF n l [k]) else (leastF n l k.toNat, 0, 0)

set_option maxRecDepth 20000 in
set_option maxHeartbeats 4000000 in
theorem Least_any (w : World) (n k : Int) (l : List Wi) (v : Value) (hv : RowSl Wi.vals w l v) : Calls Tryd.prog 12 #[.int .i64 n, v, .int .i64 k] w fun r w' => r = .returned (.tuple #[.int .i64 (LeastF n l k).1, .agg #[.int .i64 (LeastF n l k).2.1, .int .i64 (LeastF n l k).2.2]]) ∧ Below w.heap.size w w' := by
  have H0 : Hid (FB w ((w.alloc (.cells #[.int .i64 0, .int .i64 0] 30)).alloc (.cells #[.int .i64 k] 3)) w.heap.size) := (FB.start w).grow (below_new _ _)
  have hrow : RowSl intV ((w.alloc (.cells #[.int .i64 0, .int .i64 0] 30)).alloc (.cells #[.int .i64 k] 3)) [k] (.slice (some ⟨w.heap.size + 1, 0, none⟩) 1 1) := by
    refine ⟨_, _, rfl, (fun e => by cases e), Nat.le_refl _, .inr ⟨w.heap.size + 1, 0, rfl, fun q u hq => ?_⟩⟩
    have hh := (cells_of (l := [.int .i64 k]) (heap_alloc_new (w.alloc (.cells #[.int .i64 0, .int .i64 0] 30)) (.cells #[.int .i64 k] 3))).1 q u hq
    rw [Nat.zero_add]
    simpa using hh
  have HC := checkTimes_any ((w.alloc (.cells #[.int .i64 0, .int .i64 0] 30)).alloc (.cells #[.int .i64 k] 3)) n l [k] v _ (hv.below H0.out.bel) hrow (by simp)
  obtain ⟨ad, c, rfl⟩ := hv.len
  have HV : Hid (RowSl Wi.vals w l (.slice ad l.length c)) := hv
  unfold LeastF
  rcases hz : timesF n l [k] with ⟨z, y⟩
  rw [hz] at HC
  dsimp only at HC ⊢
  clear hv hrow
  by_cases h0 : z = 0
  · rw [if_neg (by simpa using h0)]
    subst h0
    obtain ⟨hg, hok, rfl⟩ := timesF_good hz
    obtain ⟨hn, h20, hs, -⟩ := frmF_good (z := (frmF n l).2) (by rw [← hg])
    have hok : (0 ≤ k ∧ k ≤ 20000) := by simpa [outT, wthin] using hok
    obtain ⟨n', rfl⟩ : ∃ n' : Nat, n = (n' : Int) := ⟨n.toNat, by omega⟩
    obtain ⟨kn, rfl⟩ : ∃ m : Nat, k = (m : Int) := ⟨k.toNat, by omega⟩
    have HS : Hid (∀ W, Below w.heap.size w W → Calls Tryd.prog 22 #[.agg #[.int .i64 (n' : Int), .slice ad l.length c], .int .i64 (kn : Int)] W fun r w' => r = .returned (.int .i64 (leastF n' l kn)) ∧ Below W.heap.size W w') := fun W hW => least_any W n' kn l ad c (by omega) h20 hs (by omega) (HV.out.below hW)
    clear hz hg
    simp only [Int.toNat_natCast]
    generalize leastF n' l kn = q at *
    go_enter Tryd.func12, Tryd.ntmps12
    go_wp2_with (first
      | (go_at_call 22; refine (HS.out _ H1.out.bel).mono ?_; rintro r w2 ⟨rfl, hb2⟩; have H2 : Hid (FB w w2 w.heap.size) := H1.out.grow hb2; obtain ⟨r10, r11, f10, f11, rl⟩ := H2.out.res2; clear hb2)
      | (go_at_call 20; refine HC.mono ?_; rintro r w1 ⟨rfl, hb1⟩; have H1 : Hid (FB w (w1.alloc (.cells #[.int .i64 0, .int .i64 0] 30)) w.heap.size) := (H0.out.grow hb1).grow (below_new _ _); clear hb1))
    first
      | (refine bodyPost_ret (Least_ends (set_two H2.out.res) rfl rfl) rfl ?_; exact ⟨rfl, H2.out.set _ _⟩)
      | (go_region
         all_goals go_wp2_with fail
         all_goals
           refine bodyPost_ret (Least_ends (set_two H2.out.res) rfl rfl) rfl ?_
           first | exact ⟨rfl, H2.out.set _ _⟩ | exact ⟨rfl, (H2.out.set _ _).drew⟩)
  · rw [if_pos (by simpa using h0)]
    go_enter Tryd.func12, Tryd.ntmps12
    go_wp2_with (go_at_call 20; refine HC.mono ?_; rintro r w1 ⟨rfl, hb1⟩; have H1 : Hid (FB w w1 w.heap.size) := H0.out.grow hb1; obtain ⟨r10, r11, f10, f11, rl⟩ := H1.out.res2; clear hb1)
    go_region
    all_goals go_wp2_with fail
    all_goals
      refine bodyPost_ret (Least_ends (H1.out.setA (.int .i64 z) (.int .i64 y) _).1 rfl rfl) rfl ?_
      first | exact ⟨rfl, (H1.out.setA (.int .i64 z) (.int .i64 y) _).2.drew⟩ | exact ⟨rfl, (H1.out.setA (.int .i64 z) (.int .i64 y) _).2⟩

end Go.Proofs.YtnkgbkkakokciaiDoor
