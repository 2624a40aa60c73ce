import Derived.Test.YtekbkcgpjkecbalDoorXC
namespace Go.Proofs.YtekbkcgpjkecbalDoor
open Go.ChangeShapes Go.WideShapes Go.ChangeAt Go.RowKit

theorem heap_new3 (w : World) (o o' o'' : Obj) : (((w.alloc o).alloc o').alloc o'').heap[w.heap.size + 1 + 1]? = some o'' := by
  have := heap_alloc_new ((w.alloc o).alloc o') o''
  rw [show ((w.alloc o).alloc o').heap.size = w.heap.size + 1 + 1 by simp] at this
  exact this

theorem resp_ends {w : World} {g : Nat} {c k p : Value} {a : Act} (h : w.heap[g]? = some (.cells #[c, k] 30 (0, 0))) (h2 : a.tmps[6]?.getD undef = p) (h3 : a.tmps[7]?.getD undef = .pointer (some ⟨g, 0, none⟩)) :
    (results Tryd.f44 a.tmps).run Tryd.prog w = .ok (.tuple #[p, .agg #[c, k]]) w := by
  obtain ⟨c1, f1, l1⟩ := cells_of (l := [_, _]) h
  have c10 := c1 0 _ rfl
  have c11 := c1 1 _ rfl
  simp [results, Tryd.results44, go_sem, h2, h3, c10, c11]

theorem respF_bad {l : List Ta} {i block : Int} (h : i < 0 ∨ (l.length : Int) ≤ i ∨ block < 0 ∨ 10000 < block) : respF l i block = (0, (3, 0)) := by
  unfold respF; rw [if_pos h]

set_option maxRecDepth 20000 in
set_option maxHeartbeats 4000000 in
theorem resp_any (w : World) (l : List Ta) (v : Value) (i block : Int) (hl : l.length ≤ 8) (hs : ∀ x ∈ l, stands x = true) (hv : RowSl Ta.vals w l v) : Calls Tryd.prog 44 #[v, .int .i64 i, .int .i64 block] w fun r w' => r = .returned (.tuple #[.int .i64 (respF l i block).1, .agg #[.int .i64 (respF l i block).2.1, .int .i64 (respF l i block).2.2]]) ∧ Below w.heap.size w w' := by
  obtain ⟨ad, c, rfl⟩ := hv.len
  have HV : Hid (RowSl Ta.vals w l (.slice ad l.length c)) := hv
  have HE : Hid (∀ o o' o'' : Obj, Below w.heap.size w (((w.alloc o).alloc o').alloc o'')) := fun o o' o'' => below_seq (below_seq (below_new _ _) (below_new _ _)) (below_new _ _)
  have HS : Hid (∀ x ∈ l, stands x = true) := hs
  clear hv hs
  by_cases h1 : i < 0
  · rw [respF_bad (.inl h1)]
    go_enter Tryd.func44, Tryd.ntmps44
    go_wp2_with fail
    refine bodyPost_ret (resp_ends (heap_new3 _ _ _ _) rfl rfl) rfl ?_
    exact ⟨rfl, HE.out _ _ _⟩
  by_cases h2 : (l.length : Int) ≤ i
  · rw [respF_bad (.inr (.inl h2))]
    go_enter Tryd.func44, Tryd.ntmps44
    go_wp2_with fail
    refine bodyPost_ret (resp_ends (heap_new3 _ _ _ _) rfl rfl) rfl ?_
    exact ⟨rfl, HE.out _ _ _⟩
  rcases h3 : isTm block with _ | _
  · rw [respF_bad (.inr (.inr (by unfold isTm at h3; simp at h3; omega)))]
    go_enter Tryd.func44, Tryd.ntmps44
    go_wp2_with (go_at_call 62; refine (isTime_any _ _).mono ?_; rintro r w1 ⟨rfl, rfl⟩; rw [h3])
    refine bodyPost_ret (resp_ends (heap_new3 _ _ _ _) rfl rfl) rfl ?_
    exact ⟨rfl, HE.out _ _ _⟩
  · have hbl : 0 ≤ block ∧ block ≤ 10000 := by unfold isTm at h3; simp at h3; omega
    obtain ⟨n, rfl⟩ : ∃ n : Nat, i = (n : Int) := ⟨i.toNat, by omega⟩
    have er : respF l (n : Int) block = if respR l n block = 0 then (0, (13, (n : Int))) else (respR l n block, (0, 0)) := by
      unfold respF
      rw [if_neg (by omega), Int.toNat_natCast]
    rw [er]
    have HF : Hid (FB w (((w.alloc (.cells #[.slice ad l.length c] 22)).alloc (.cells #[.int .i64 (n : Int)] 3)).alloc (.cells #[.int .i64 0, .int .i64 0] 30)) (w.heap.size + 1 + 1)) := ⟨HE.out _ _ _, heap_new3 _ _ _ _, by omega⟩
    have HW := worst_any (((w.alloc (.cells #[.slice ad l.length c] 22)).alloc (.cells #[.int .i64 (n : Int)] 3)).alloc (.cells #[.int .i64 0, .int .i64 0] 30)) l (.slice ad l.length c) w.heap.size (w.heap.size + 1) n block hl HS.out (by omega) hbl.1 hbl.2 (HV.out.below (HE.out _ _ _)) (by go_simp) (by go_simp)
    have HN : Hid ((((w.alloc (.cells #[.slice ad l.length c] 22)).alloc (.cells #[.int .i64 (n : Int)] 3)).alloc (.cells #[.int .i64 0, .int .i64 0] 30)).cell? ⟨w.heap.size + 1, 0, none⟩ = some (.int .i64 (n : Int))) := by
      show _ = _
      go_simp
    clear er
    generalize respR l n block = z at *
    by_cases hz : z = 0
    · rw [if_pos hz]
      rw [show decide (z ≠ 0) = false by simp [hz]] at HW
      go_enter Tryd.func44, Tryd.ntmps44
      go_wp2_with (go_at_call 62; refine (isTime_any _ _).mono ?_; rintro r w1 ⟨rfl, rfl⟩; rw [h3])
      go_wp2_with (go_at_call 63; refine HW.mono ?_; rintro r w1 ⟨rfl, hb1⟩; have H1 : Hid (FB w w1 (w.heap.size + 1 + 1)) := HF.out.grow hb1; have hn := below_cell hb1 HN.out; obtain ⟨rs1, rf1, rl1⟩ := cells_of (l := [_, _]) H1.out.res; have r10 := rs1 0 _ rfl; have r11 := rs1 1 _ rfl; have f10 := rf1 0; have f11 := rf1 1; clear rs1 rf1 hb1 HW)
      go_region
      all_goals go_wp2_with fail
      all_goals
        refine bodyPost_ret (resp_ends (set_two H1.out.res) rfl rfl) rfl ?_
        first | exact ⟨rfl, H1.out.set _ _⟩ | exact ⟨rfl, (H1.out.set _ _).drew⟩
    · rw [if_neg hz]
      rw [show decide (z ≠ 0) = true by simp [hz]] at HW
      go_enter Tryd.func44, Tryd.ntmps44
      go_wp2_with (go_at_call 62; refine (isTime_any _ _).mono ?_; rintro r w1 ⟨rfl, rfl⟩; rw [h3])
      go_wp2_with (go_at_call 63; refine HW.mono ?_; rintro r w1 ⟨rfl, hb1⟩; have H1 : Hid (FB w w1 (w.heap.size + 1 + 1)) := HF.out.grow hb1; have hn := below_cell hb1 HN.out; obtain ⟨rs1, rf1, rl1⟩ := cells_of (l := [_, _]) H1.out.res; have r10 := rs1 0 _ rfl; have r11 := rs1 1 _ rfl; have f10 := rf1 0; have f11 := rf1 1; clear rs1 rf1 hb1 HW)
      refine bodyPost_ret (resp_ends (set_two H1.out.res) rfl rfl) rfl ?_
      exact ⟨rfl, H1.out.set _ _⟩

theorem Response_ends {w : World} {g : Nat} {c k p : Value} {a : Act} (h : w.heap[g]? = some (.cells #[c, k] 30 (0, 0))) (h2 : a.tmps[6]?.getD undef = p) (h3 : a.tmps[7]?.getD undef = .pointer (some ⟨g, 0, none⟩)) :
    (results Tryd.f22 a.tmps).run Tryd.prog w = .ok (.tuple #[p, .agg #[c, k]]) w := by
  obtain ⟨c1, f1, l1⟩ := cells_of (l := [_, _]) h
  have c10 := c1 0 _ rfl
  have c11 := c1 1 _ rfl
  simp [results, Tryd.results22, go_sem, h2, h3, c10, c11]

set_option maxRecDepth 20000 in
set_option maxHeartbeats 4000000 in
theorem Response_any (w : World) (l : List Ta) (v : Value) (i block : Int) (hl : l.length ≤ 1000000) (hv : RowSl Ta.vals w l v) : Calls Tryd.prog 22 #[v, .int .i64 i, .int .i64 block] w fun r w' => r = .returned (.tuple #[.int .i64 (responseF l i block).1, .agg #[.int .i64 (responseF l i block).2.1, .int .i64 (responseF l i block).2.2]]) ∧ Below w.heap.size w w' := by
  obtain ⟨ad, c, rfl⟩ := hv.len
  have HV : Hid (RowSl Ta.vals w l (.slice ad l.length c)) := hv
  clear hv
  have HF : Hid (FB w (w.alloc (.cells #[.int .i64 0, .int .i64 0] 30)) w.heap.size) := FB.start w
  have HC := check_any (w.alloc (.cells #[.int .i64 0, .int .i64 0] 30)) l (.slice ad l.length c) hl (HV.out.below (below_new _ _))
  unfold responseF
  by_cases h0 : (chkX l).1 ≠ 0
  · rw [if_pos h0]
    generalize (chkX l).1 = z at *
    generalize (chkX l).2 = z2 at *
    have hzb : (z != 0) = true := by simpa using h0
    go_enter Tryd.func22, Tryd.ntmps22
    go_wp2_with (go_at_call 42; refine HC.mono ?_; rintro r w1 ⟨rfl, hb1⟩; have H1 : Hid (FB w w1 w.heap.size) := HF.out.grow hb1; obtain ⟨rs1, rf1, rl1⟩ := cells_of (l := [_, _]) H1.out.res; have r10 := rs1 0 _ rfl; have r11 := rs1 1 _ rfl; have f10 := rf1 0; have f11 := rf1 1; clear rs1 rf1 hb1 HC)
    go_region
    all_goals go_wp2_with fail
    all_goals
      refine bodyPost_ret (Response_ends (H1.out.endA (.int .i64 z) (.int .i64 z2) _).1 rfl rfl) rfl ?_
      exact ⟨rfl, (H1.out.endA (.int .i64 z) (.int .i64 z2) _).2.drew⟩
  · rw [if_neg h0]
    have hz : (chkX l).1 = 0 := by omega
    obtain ⟨-, -, -, h8, hst, -⟩ := chkX_ok hz
    rw [hz] at HC
    have HR := fun W (hb : Below w.heap.size w W) => resp_any W l (.slice ad l.length c) i block h8 hst (HV.out.below hb)
    generalize (chkX l).2 = z2 at *
    generalize (respF l i block).1 = q0 at *
    generalize (respF l i block).2.1 = q1 at *
    generalize (respF l i block).2.2 = q2 at *
    clear hst
    go_enter Tryd.func22, Tryd.ntmps22
    go_wp2_with (go_at_call 42; refine HC.mono ?_; rintro r w1 ⟨rfl, hb1⟩; have H1 : Hid (FB w (w1.alloc (.cells #[.int .i64 0, .int .i64 z2] 30)) w.heap.size) := (HF.out.grow hb1).grow (below_new _ _); clear hb1 HC)
    go_wp2_with (go_at_call 44; refine (HR _ H1.out.bel).mono ?_; rintro r w2 ⟨rfl, hb2⟩; have H2 : Hid (FB w w2 w.heap.size) := H1.out.grow hb2; obtain ⟨rs1, rf1, rl1⟩ := cells_of (l := [_, _]) H2.out.res; have r10 := rs1 0 _ rfl; have r11 := rs1 1 _ rfl; have f10 := rf1 0; have f11 := rf1 1; clear rs1 rf1 hb2 HR)
    first
      | (refine bodyPost_ret (Response_ends (set_two H2.out.res) rfl rfl) rfl ?_; exact ⟨rfl, H2.out.set _ _⟩)
      | (go_region
         all_goals go_wp2_with fail
         all_goals
           refine bodyPost_ret (Response_ends (set_two H2.out.res) rfl rfl) rfl ?_
           first | exact ⟨rfl, H2.out.set _ _⟩ | exact ⟨rfl, (H2.out.set _ _).drew⟩)
      | fail
end Go.Proofs.YtekbkcgpjkecbalDoor
