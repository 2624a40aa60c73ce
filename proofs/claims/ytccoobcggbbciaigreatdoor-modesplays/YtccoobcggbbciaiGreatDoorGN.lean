import Derived.Test.YtccoobcggbbciaiGreatDoorSRJ
namespace Go.Proofs.YtccoobcggbbciaiGreatDoor.S8
open Go.ChangeShapes Go.WideShapes Go.ChangeAt Go.RowKit Go.Sort

/-- So many ranks are told. -/
def rnk (rk : List Nat) (N r : Nat) : List Value := (List.range N).map (fun j => if rk.idxOf j < r then .int .i64 ((rk.idxOf j : Nat) : Int) else .int .i64 0)

theorem rnk_len (rk : List Nat) (N r : Nat) : (rnk rk N r).length = N := by simp [rnk]

theorem rnk_start (rk : List Nat) (N : Nat) : runCells N [] = rnk rk N 0 := by
  apply List.ext_getElem?
  intro j
  by_cases h : j < N <;> simp [runCells, rnk, h]

theorem rnk_set {l : List Jb} {pol : Int} {rk : List Nat} {r : Nat} (hr : Ranked l pol rk) (h : r < l.length) : (rnk rk l.length r).set (RK rk r) (.int .i64 (r : Int)) = rnk rk l.length (r + 1) := by
  have hq := hr.lt h
  have hi := hr.idx h
  apply List.ext_getElem?
  intro j
  rw [List.getElem?_set]
  by_cases e : RK rk r = j
  · subst e
    simp [rnk, hq, hi]
  · rw [if_neg e]
    by_cases hj : j < l.length
    · have hne : rk.idxOf j ≠ r := fun e' => e (by rw [← e']; exact hr.back hj)
      have : rk.idxOf j < r ↔ rk.idxOf j < r + 1 := by omega
      simp [rnk, hj, this]
    · rw [List.getElem?_eq_none (by rw [rnk_len]; omega), List.getElem?_eq_none (by rw [rnk_len]; omega)]

theorem rnk_full {l : List Jb} {pol : Int} {rk : List Nat} (hr : Ranked l pol rk) : rnk rk l.length l.length = (zI (invOf rk)).map (Value.int .i64) := by
  unfold rnk invOf zI
  rw [List.map_map, List.map_map, hr.len]
  apply List.map_congr_left
  intro j hj
  obtain ⟨p, hp, e⟩ := hr.sur (show j < l.length by simpa using hj)
  have hi : rk.idxOf j = p := by rw [← e]; exact hr.idx hp
  simp [hi, hp]

set_option maxRecDepth 20000 in
set_option maxHeartbeats 4000000 in
theorem New_anyG (w : World) (l : List Jb) (v : Value) (pol : Int) (hp : pol = 1 ∨ pol = 2) (hv : RowSl Jb.vals w l v) (hl : l.length ≤ 4000) :
    Calls Tryz.prog 56 #[v, .func (.func (if pol = 2 then 87 else 88)) #[] #[]] w fun r W => ∃ B K Lf Rn Rd C rk cm cv, r = .returned (.pointer (some ⟨K, 0, none⟩)) ∧ LineW w B K Lf Rn Rd C W l rk cm 0 [] (l.map (·.c)) v (.slice none 0 0) cv ∧ Ranked l pol rk ∧ Coming l rk cm ∧ (w.heap.size ≤ C ∧ w.heap.size ≤ Rn ∧ w.heap.size ≤ Rd ∧ Rn ≠ C ∧ Rd ≠ C) := by
  obtain ⟨f, hf⟩ : ∃ f, f = if pol = 2 then 87 else 88 := ⟨_, rfl⟩
  rw [← hf]
  have HF : Hid (f = if pol = 2 then 87 else 88) := hf
  clear hf
  obtain ⟨ad, c, rfl⟩ := hv.len
  have HV : Hid (RowSl Jb.vals w l (.slice ad l.length c)) := hv
  clear hv
  go_enter Tryz.func56, Tryz.ntmps56
  go_upto_region 2 with fail
  go_cut [6] from 14 to 24 (fun v wc => ∃ K Lf Rn Rd C, v = .pointer (some ⟨K, 0, none⟩) ∧ NewL w wc l.length (.slice ad l.length c) (.func (.func f) #[] #[]) K Lf Rn Rd C (runCells l.length []) (runCells l.length []) (runCells l.length []) (runCells l.length []))
  case first =>
    have hS : ((w.alloc (.cells #[.slice ad l.length c] 54)).alloc (.cells #[.func (.func f) #[] #[]] 101)).drew.cell? ⟨w.heap.size, 0, none⟩ = some (.slice ad l.length c) := by go_simp
    have hX : Hid (Mk l.length ((w.alloc (.cells #[.slice ad l.length c] 54)).alloc (.cells #[.func (.func f) #[] #[]] 101)).drew ((w.alloc (.cells #[.slice ad l.length c] 54)).alloc (.cells #[.func (.func f) #[] #[]] 101)).drew []) := Mk.start _ _
    refine wp_region_noPanic ?_
    refine wp_region_held_drew (S := fun w' => w'.cell? ⟨w.heap.size, 0, none⟩ = some (.slice ad l.length c)) (by kernel_rfl) hS (fun hHeld => ?_)
    refine take_at (i := 0) (n := 14) (v := ?_) rfl rfl (by kernel_rfl) (by kernel_rfl) (by kernel_rfl) (fun _ _ _ h => h) (Or.inl ⟨by rfl, ?_⟩) (by assumption) ?_
    rotate_left 1
    · intro wz hSw
      first | (go_simp; done) | (go_simp; with_reducible rfl)
    simp only [List.set_cons_zero, List.set_cons_succ]
    refine take_at (i := 1) (n := 15) (v := ?_) rfl rfl (by kernel_rfl) (by kernel_rfl) (by kernel_rfl) (fun _ _ _ h => h) (Or.inl ⟨by rfl, ?_⟩) (by assumption) ?_
    rotate_left 1
    · intro wz hSw
      first | (go_simp; done) | (go_simp; with_reducible rfl)
    simp only [List.set_cons_zero, List.set_cons_succ]
    refine take_at (i := 3) (n := 17) (v := ?_) rfl rfl (by kernel_rfl) (by kernel_rfl) (by kernel_rfl) (fun _ _ _ h => h) (Or.inl ⟨by rfl, ?_⟩) (by assumption) ?_
    rotate_left 1
    · intro wz hSw
      first | (go_simp; done) | (go_simp; with_reducible rfl)
    simp only [List.set_cons_zero, List.set_cons_succ]
    refine take_at (i := 5) (n := 19) (v := ?_) rfl rfl (by kernel_rfl) (by kernel_rfl) (by kernel_rfl) (fun _ _ _ h => h) (Or.inl ⟨by rfl, ?_⟩) (by assumption) ?_
    rotate_left 1
    · intro wz hSw
      first | (go_simp; done) | (go_simp; with_reducible rfl)
    simp only [List.set_cons_zero, List.set_cons_succ]
    refine take_at (i := 7) (n := 21) (v := ?_) rfl rfl (by kernel_rfl) (by kernel_rfl) (by kernel_rfl) (fun _ _ _ h => h) (Or.inl ⟨by rfl, ?_⟩) (by assumption) ?_
    rotate_left 1
    · intro wz hSw
      first | (go_simp; done) | (go_simp; with_reducible rfl)
    simp only [List.set_cons_zero, List.set_cons_succ]
    generalize hW0 : ((w.alloc (.cells #[.slice ad l.length c] 54)).alloc (.cells #[.func (.func f) #[] #[]] 101)).drew = W0 at *
    have HW0 : Hid (((w.alloc (.cells #[.slice ad l.length c] 54)).alloc (.cells #[.func (.func f) #[] #[]] 101)).drew = W0) := hW0
    clear hW0
    refine wpAnyH_ready (rs := [2, 4, 6, 8]) (by kernel_rfl) (by simp) ?_
    refine AllReadyH.cons rfl (fun K' hK' => ?_) (AllReadyH.cons rfl (fun K' hK' => ?_) (AllReadyH.cons rfl (fun K' hK' => ?_) (AllReadyH.cons rfl (fun K' hK' => ?_) AllReadyH.nil)))
    · skip
      obtain ⟨wn1, hmk, hb9, hh9⟩ := make_ints W0 l.length (by omega)
      have hY := hX.out.add hb9 hh9
      have hSz : wn1.cell? ⟨w.heap.size, 0, none⟩ = some (.slice ad l.length c) := below_cell hb9 hS
      go_simp
      refine hK'.out _ _ hSz (fun hHeld => ?_)
      clear hK' K' hX hmk hb9 hh9 hS
      have hS := hSz
      have hX : Hid (Mk l.length W0 wn1 [W0.heap.size]) := hY
      clear hY hSz
      refine wpAnyH_ready (rs := [4, 6, 8]) (by kernel_rfl) (by simp) ?_
      refine AllReadyH.cons rfl (fun K' hK' => ?_) (AllReadyH.cons rfl (fun K' hK' => ?_) (AllReadyH.cons rfl (fun K' hK' => ?_) AllReadyH.nil))
      · skip
        obtain ⟨wn2, hmk, hb9, hh9⟩ := make_ints wn1 l.length (by omega)
        have hY := hX.out.add hb9 hh9
        have hSz : wn2.cell? ⟨w.heap.size, 0, none⟩ = some (.slice ad l.length c) := below_cell hb9 hS
        go_simp
        refine hK'.out _ _ hSz (fun hHeld => ?_)
        clear hK' K' hX hmk hb9 hh9 hS
        have hS := hSz
        have hX : Hid (Mk l.length W0 wn2 [wn1.heap.size, W0.heap.size]) := hY
        clear hY hSz
        refine wpAnyH_ready (rs := [6, 8]) (by kernel_rfl) (by simp) ?_
        refine AllReadyH.cons rfl (fun K' hK' => ?_) (AllReadyH.cons rfl (fun K' hK' => ?_) AllReadyH.nil)
        · skip
          obtain ⟨wn3, hmk, hb9, hh9⟩ := make_ints wn2 l.length (by omega)
          have hY := hX.out.add hb9 hh9
          have hSz : wn3.cell? ⟨w.heap.size, 0, none⟩ = some (.slice ad l.length c) := below_cell hb9 hS
          go_simp
          refine hK'.out _ _ hSz (fun hHeld => ?_)
          clear hK' K' hX hmk hb9 hh9 hS
          have hS := hSz
          have hX : Hid (Mk l.length W0 wn3 [wn2.heap.size, wn1.heap.size, W0.heap.size]) := hY
          clear hY hSz
          refine wpAnyH_ready (rs := [8]) (by kernel_rfl) (by simp) ?_
          refine AllReadyH.cons rfl (fun K' hK' => ?_) AllReadyH.nil
          · skip
            obtain ⟨wn4, hmk, hb9, hh9⟩ := make_ints wn3 l.length (by omega)
            have hY := hX.out.add hb9 hh9
            have hSz : wn4.cell? ⟨w.heap.size, 0, none⟩ = some (.slice ad l.length c) := below_cell hb9 hS
            go_simp
            refine hK'.out _ _ hSz (fun hHeld => ?_)
            clear hK' K' hX hmk hb9 hh9 hS
            have hS := hSz
            have hX : Hid (Mk l.length W0 wn4 [wn3.heap.size, wn2.heap.size, wn1.heap.size, W0.heap.size]) := hY
            clear hY hSz
            refine take_at (i := 9) (n := 23) (v := ?_) rfl rfl (by kernel_rfl) (by kernel_rfl) (by kernel_rfl) (fun _ _ _ h => h) (Or.inl ⟨by rfl, ?_⟩) (by assumption) ?_
            rotate_left 1
            · intro wz hSw
              first | (go_simp; done) | (go_simp; with_reducible rfl)
            simp only [List.set_cons_zero, List.set_cons_succ]
            have hY : Hid (NewL w (wn4.alloc (.cells #[.slice ad l.length c, .slice (some ⟨W0.heap.size, 0, none⟩) l.length l.length, .slice (some ⟨wn1.heap.size, 0, none⟩) l.length l.length, .slice (some ⟨wn2.heap.size, 0, none⟩) l.length l.length, .slice (some ⟨wn3.heap.size, 0, none⟩) l.length l.length, .slice none 0 0] 127)) l.length (.slice ad l.length c) (.func (.func f) #[] #[]) wn4.heap.size W0.heap.size wn1.heap.size wn2.heap.size wn3.heap.size (runCells l.length []) (runCells l.length []) (runCells l.length []) (runCells l.length [])) := by
              have hn := hX.out.nd
              simp only [List.nodup_cons, List.mem_cons, List.not_mem_nil, or_false, not_or, not_false_eq_true, List.nodup_nil, and_true] at hn
              exact hX.out.fin HW0.out (by simp) (by simp) (by simp) (by simp) ⟨by omega, by omega, by omega, by omega, by omega, by omega⟩
            have hSy : (wn4.alloc (.cells #[.slice ad l.length c, .slice (some ⟨W0.heap.size, 0, none⟩) l.length l.length, .slice (some ⟨wn1.heap.size, 0, none⟩) l.length l.length, .slice (some ⟨wn2.heap.size, 0, none⟩) l.length l.length, .slice (some ⟨wn3.heap.size, 0, none⟩) l.length l.length, .slice none 0 0] 127)).cell? ⟨w.heap.size, 0, none⟩ = some (.slice ad l.length c) := (cells_of (l := [_]) hY.out.jbox).1 0 _ rfl
            refine wpAnyH_ready (rs := [10]) (by kernel_rfl) (by simp) ?_
            refine AllReadyH.cons rfl (fun K' hK' => ?_) AllReadyH.nil
            go_simp
            refine hK'.out _ _ hSy (fun hHeld => ?_)
            clear hK' K'
            refine take_at (i := 11) (n := 6) (v := ?_) rfl rfl (by kernel_rfl) (by kernel_rfl) (by kernel_rfl) (fun _ _ _ h => h) (Or.inl ⟨by rfl, ?_⟩) (by assumption) ?_
            rotate_left 1
            · intro wz hSw
              first | (go_simp; done) | (go_simp; with_reducible rfl)
            simp only [List.set_cons_zero, List.set_cons_succ]
            refine wpAnyH_done (by kernel_rfl) ?_ _
            refine NoPanic.normal ?_
            go_wp2_with fail
            go_meet
            case rel =>
              exact ⟨_, _, _, _, _, rfl, hY.out⟩
        · skip
          obtain ⟨wn5, hmk, hb9, hh9⟩ := make_ints wn2 l.length (by omega)
          have hY := hX.out.add hb9 hh9
          have hSz : wn5.cell? ⟨w.heap.size, 0, none⟩ = some (.slice ad l.length c) := below_cell hb9 hS
          go_simp
          refine hK'.out _ _ hSz (fun hHeld => ?_)
          clear hK' K' hX hmk hb9 hh9 hS
          have hS := hSz
          have hX : Hid (Mk l.length W0 wn5 [wn2.heap.size, wn1.heap.size, W0.heap.size]) := hY
          clear hY hSz
          refine wpAnyH_ready (rs := [6]) (by kernel_rfl) (by simp) ?_
          refine AllReadyH.cons rfl (fun K' hK' => ?_) AllReadyH.nil
          · skip
            obtain ⟨wn6, hmk, hb9, hh9⟩ := make_ints wn5 l.length (by omega)
            have hY := hX.out.add hb9 hh9
            have hSz : wn6.cell? ⟨w.heap.size, 0, none⟩ = some (.slice ad l.length c) := below_cell hb9 hS
            go_simp
            refine hK'.out _ _ hSz (fun hHeld => ?_)
            clear hK' K' hX hmk hb9 hh9 hS
            have hS := hSz
            have hX : Hid (Mk l.length W0 wn6 [wn5.heap.size, wn2.heap.size, wn1.heap.size, W0.heap.size]) := hY
            clear hY hSz
            refine take_at (i := 9) (n := 23) (v := ?_) rfl rfl (by kernel_rfl) (by kernel_rfl) (by kernel_rfl) (fun _ _ _ h => h) (Or.inl ⟨by rfl, ?_⟩) (by assumption) ?_
            rotate_left 1
            · intro wz hSw
              first | (go_simp; done) | (go_simp; with_reducible rfl)
            simp only [List.set_cons_zero, List.set_cons_succ]
            have hY : Hid (NewL w (wn6.alloc (.cells #[.slice ad l.length c, .slice (some ⟨W0.heap.size, 0, none⟩) l.length l.length, .slice (some ⟨wn1.heap.size, 0, none⟩) l.length l.length, .slice (some ⟨wn5.heap.size, 0, none⟩) l.length l.length, .slice (some ⟨wn2.heap.size, 0, none⟩) l.length l.length, .slice none 0 0] 127)) l.length (.slice ad l.length c) (.func (.func f) #[] #[]) wn6.heap.size W0.heap.size wn1.heap.size wn5.heap.size wn2.heap.size (runCells l.length []) (runCells l.length []) (runCells l.length []) (runCells l.length [])) := by
              have hn := hX.out.nd
              simp only [List.nodup_cons, List.mem_cons, List.not_mem_nil, or_false, not_or, not_false_eq_true, List.nodup_nil, and_true] at hn
              exact hX.out.fin HW0.out (by simp) (by simp) (by simp) (by simp) ⟨by omega, by omega, by omega, by omega, by omega, by omega⟩
            have hSy : (wn6.alloc (.cells #[.slice ad l.length c, .slice (some ⟨W0.heap.size, 0, none⟩) l.length l.length, .slice (some ⟨wn1.heap.size, 0, none⟩) l.length l.length, .slice (some ⟨wn5.heap.size, 0, none⟩) l.length l.length, .slice (some ⟨wn2.heap.size, 0, none⟩) l.length l.length, .slice none 0 0] 127)).cell? ⟨w.heap.size, 0, none⟩ = some (.slice ad l.length c) := (cells_of (l := [_]) hY.out.jbox).1 0 _ rfl
            refine wpAnyH_ready (rs := [10]) (by kernel_rfl) (by simp) ?_
            refine AllReadyH.cons rfl (fun K' hK' => ?_) AllReadyH.nil
            go_simp
            refine hK'.out _ _ hSy (fun hHeld => ?_)
            clear hK' K'
            refine take_at (i := 11) (n := 6) (v := ?_) rfl rfl (by kernel_rfl) (by kernel_rfl) (by kernel_rfl) (fun _ _ _ h => h) (Or.inl ⟨by rfl, ?_⟩) (by assumption) ?_
            rotate_left 1
            · intro wz hSw
              first | (go_simp; done) | (go_simp; with_reducible rfl)
            simp only [List.set_cons_zero, List.set_cons_succ]
            refine wpAnyH_done (by kernel_rfl) ?_ _
            refine NoPanic.normal ?_
            go_wp2_with fail
            go_meet
            case rel =>
              exact ⟨_, _, _, _, _, rfl, hY.out⟩
      · skip
        obtain ⟨wn7, hmk, hb9, hh9⟩ := make_ints wn1 l.length (by omega)
        have hY := hX.out.add hb9 hh9
        have hSz : wn7.cell? ⟨w.heap.size, 0, none⟩ = some (.slice ad l.length c) := below_cell hb9 hS
        go_simp
        refine hK'.out _ _ hSz (fun hHeld => ?_)
        clear hK' K' hX hmk hb9 hh9 hS
        have hS := hSz
        have hX : Hid (Mk l.length W0 wn7 [wn1.heap.size, W0.heap.size]) := hY
        clear hY hSz
        refine wpAnyH_ready (rs := [4, 8]) (by kernel_rfl) (by simp) ?_
        refine AllReadyH.cons rfl (fun K' hK' => ?_) (AllReadyH.cons rfl (fun K' hK' => ?_) AllReadyH.nil)
        · skip
          obtain ⟨wn8, hmk, hb9, hh9⟩ := make_ints wn7 l.length (by omega)
          have hY := hX.out.add hb9 hh9
          have hSz : wn8.cell? ⟨w.heap.size, 0, none⟩ = some (.slice ad l.length c) := below_cell hb9 hS
          go_simp
          refine hK'.out _ _ hSz (fun hHeld => ?_)
          clear hK' K' hX hmk hb9 hh9 hS
          have hS := hSz
          have hX : Hid (Mk l.length W0 wn8 [wn7.heap.size, wn1.heap.size, W0.heap.size]) := hY
          clear hY hSz
          refine wpAnyH_ready (rs := [8]) (by kernel_rfl) (by simp) ?_
          refine AllReadyH.cons rfl (fun K' hK' => ?_) AllReadyH.nil
          · skip
            obtain ⟨wn9, hmk, hb9, hh9⟩ := make_ints wn8 l.length (by omega)
            have hY := hX.out.add hb9 hh9
            have hSz : wn9.cell? ⟨w.heap.size, 0, none⟩ = some (.slice ad l.length c) := below_cell hb9 hS
            go_simp
            refine hK'.out _ _ hSz (fun hHeld => ?_)
            clear hK' K' hX hmk hb9 hh9 hS
            have hS := hSz
            have hX : Hid (Mk l.length W0 wn9 [wn8.heap.size, wn7.heap.size, wn1.heap.size, W0.heap.size]) := hY
            clear hY hSz
            refine take_at (i := 9) (n := 23) (v := ?_) rfl rfl (by kernel_rfl) (by kernel_rfl) (by kernel_rfl) (fun _ _ _ h => h) (Or.inl ⟨by rfl, ?_⟩) (by assumption) ?_
            rotate_left 1
            · intro wz hSw
              first | (go_simp; done) | (go_simp; with_reducible rfl)
            simp only [List.set_cons_zero, List.set_cons_succ]
            have hY : Hid (NewL w (wn9.alloc (.cells #[.slice ad l.length c, .slice (some ⟨W0.heap.size, 0, none⟩) l.length l.length, .slice (some ⟨wn7.heap.size, 0, none⟩) l.length l.length, .slice (some ⟨wn1.heap.size, 0, none⟩) l.length l.length, .slice (some ⟨wn8.heap.size, 0, none⟩) l.length l.length, .slice none 0 0] 127)) l.length (.slice ad l.length c) (.func (.func f) #[] #[]) wn9.heap.size W0.heap.size wn7.heap.size wn1.heap.size wn8.heap.size (runCells l.length []) (runCells l.length []) (runCells l.length []) (runCells l.length [])) := by
              have hn := hX.out.nd
              simp only [List.nodup_cons, List.mem_cons, List.not_mem_nil, or_false, not_or, not_false_eq_true, List.nodup_nil, and_true] at hn
              exact hX.out.fin HW0.out (by simp) (by simp) (by simp) (by simp) ⟨by omega, by omega, by omega, by omega, by omega, by omega⟩
            have hSy : (wn9.alloc (.cells #[.slice ad l.length c, .slice (some ⟨W0.heap.size, 0, none⟩) l.length l.length, .slice (some ⟨wn7.heap.size, 0, none⟩) l.length l.length, .slice (some ⟨wn1.heap.size, 0, none⟩) l.length l.length, .slice (some ⟨wn8.heap.size, 0, none⟩) l.length l.length, .slice none 0 0] 127)).cell? ⟨w.heap.size, 0, none⟩ = some (.slice ad l.length c) := (cells_of (l := [_]) hY.out.jbox).1 0 _ rfl
            refine wpAnyH_ready (rs := [10]) (by kernel_rfl) (by simp) ?_
            refine AllReadyH.cons rfl (fun K' hK' => ?_) AllReadyH.nil
            go_simp
            refine hK'.out _ _ hSy (fun hHeld => ?_)
            clear hK' K'
            refine take_at (i := 11) (n := 6) (v := ?_) rfl rfl (by kernel_rfl) (by kernel_rfl) (by kernel_rfl) (fun _ _ _ h => h) (Or.inl ⟨by rfl, ?_⟩) (by assumption) ?_
            rotate_left 1
            · intro wz hSw
              first | (go_simp; done) | (go_simp; with_reducible rfl)
            simp only [List.set_cons_zero, List.set_cons_succ]
            refine wpAnyH_done (by kernel_rfl) ?_ _
            refine NoPanic.normal ?_
            go_wp2_with fail
            go_meet
            case rel =>
              exact ⟨_, _, _, _, _, rfl, hY.out⟩
        · skip
          obtain ⟨wn10, hmk, hb9, hh9⟩ := make_ints wn7 l.length (by omega)
          have hY := hX.out.add hb9 hh9
          have hSz : wn10.cell? ⟨w.heap.size, 0, none⟩ = some (.slice ad l.length c) := below_cell hb9 hS
          go_simp
          refine hK'.out _ _ hSz (fun hHeld => ?_)
          clear hK' K' hX hmk hb9 hh9 hS
          have hS := hSz
          have hX : Hid (Mk l.length W0 wn10 [wn7.heap.size, wn1.heap.size, W0.heap.size]) := hY
          clear hY hSz
          refine wpAnyH_ready (rs := [4]) (by kernel_rfl) (by simp) ?_
          refine AllReadyH.cons rfl (fun K' hK' => ?_) AllReadyH.nil
          · skip
            obtain ⟨wn11, hmk, hb9, hh9⟩ := make_ints wn10 l.length (by omega)
            have hY := hX.out.add hb9 hh9
            have hSz : wn11.cell? ⟨w.heap.size, 0, none⟩ = some (.slice ad l.length c) := below_cell hb9 hS
            go_simp
            refine hK'.out _ _ hSz (fun hHeld => ?_)
            clear hK' K' hX hmk hb9 hh9 hS
            have hS := hSz
            have hX : Hid (Mk l.length W0 wn11 [wn10.heap.size, wn7.heap.size, wn1.heap.size, W0.heap.size]) := hY
            clear hY hSz
            refine take_at (i := 9) (n := 23) (v := ?_) rfl rfl (by kernel_rfl) (by kernel_rfl) (by kernel_rfl) (fun _ _ _ h => h) (Or.inl ⟨by rfl, ?_⟩) (by assumption) ?_
            rotate_left 1
            · intro wz hSw
              first | (go_simp; done) | (go_simp; with_reducible rfl)
            simp only [List.set_cons_zero, List.set_cons_succ]
            have hY : Hid (NewL w (wn11.alloc (.cells #[.slice ad l.length c, .slice (some ⟨W0.heap.size, 0, none⟩) l.length l.length, .slice (some ⟨wn10.heap.size, 0, none⟩) l.length l.length, .slice (some ⟨wn1.heap.size, 0, none⟩) l.length l.length, .slice (some ⟨wn7.heap.size, 0, none⟩) l.length l.length, .slice none 0 0] 127)) l.length (.slice ad l.length c) (.func (.func f) #[] #[]) wn11.heap.size W0.heap.size wn10.heap.size wn1.heap.size wn7.heap.size (runCells l.length []) (runCells l.length []) (runCells l.length []) (runCells l.length [])) := by
              have hn := hX.out.nd
              simp only [List.nodup_cons, List.mem_cons, List.not_mem_nil, or_false, not_or, not_false_eq_true, List.nodup_nil, and_true] at hn
              exact hX.out.fin HW0.out (by simp) (by simp) (by simp) (by simp) ⟨by omega, by omega, by omega, by omega, by omega, by omega⟩
            have hSy : (wn11.alloc (.cells #[.slice ad l.length c, .slice (some ⟨W0.heap.size, 0, none⟩) l.length l.length, .slice (some ⟨wn10.heap.size, 0, none⟩) l.length l.length, .slice (some ⟨wn1.heap.size, 0, none⟩) l.length l.length, .slice (some ⟨wn7.heap.size, 0, none⟩) l.length l.length, .slice none 0 0] 127)).cell? ⟨w.heap.size, 0, none⟩ = some (.slice ad l.length c) := (cells_of (l := [_]) hY.out.jbox).1 0 _ rfl
            refine wpAnyH_ready (rs := [10]) (by kernel_rfl) (by simp) ?_
            refine AllReadyH.cons rfl (fun K' hK' => ?_) AllReadyH.nil
            go_simp
            refine hK'.out _ _ hSy (fun hHeld => ?_)
            clear hK' K'
            refine take_at (i := 11) (n := 6) (v := ?_) rfl rfl (by kernel_rfl) (by kernel_rfl) (by kernel_rfl) (fun _ _ _ h => h) (Or.inl ⟨by rfl, ?_⟩) (by assumption) ?_
            rotate_left 1
            · intro wz hSw
              first | (go_simp; done) | (go_simp; with_reducible rfl)
            simp only [List.set_cons_zero, List.set_cons_succ]
            refine wpAnyH_done (by kernel_rfl) ?_ _
            refine NoPanic.normal ?_
            go_wp2_with fail
            go_meet
            case rel =>
              exact ⟨_, _, _, _, _, rfl, hY.out⟩
      · skip
        obtain ⟨wn12, hmk, hb9, hh9⟩ := make_ints wn1 l.length (by omega)
        have hY := hX.out.add hb9 hh9
        have hSz : wn12.cell? ⟨w.heap.size, 0, none⟩ = some (.slice ad l.length c) := below_cell hb9 hS
        go_simp
        refine hK'.out _ _ hSz (fun hHeld => ?_)
        clear hK' K' hX hmk hb9 hh9 hS
        have hS := hSz
        have hX : Hid (Mk l.length W0 wn12 [wn1.heap.size, W0.heap.size]) := hY
        clear hY hSz
        refine wpAnyH_ready (rs := [4, 6]) (by kernel_rfl) (by simp) ?_
        refine AllReadyH.cons rfl (fun K' hK' => ?_) (AllReadyH.cons rfl (fun K' hK' => ?_) AllReadyH.nil)
        · skip
          obtain ⟨wn13, hmk, hb9, hh9⟩ := make_ints wn12 l.length (by omega)
          have hY := hX.out.add hb9 hh9
          have hSz : wn13.cell? ⟨w.heap.size, 0, none⟩ = some (.slice ad l.length c) := below_cell hb9 hS
          go_simp
          refine hK'.out _ _ hSz (fun hHeld => ?_)
          clear hK' K' hX hmk hb9 hh9 hS
          have hS := hSz
          have hX : Hid (Mk l.length W0 wn13 [wn12.heap.size, wn1.heap.size, W0.heap.size]) := hY
          clear hY hSz
          refine wpAnyH_ready (rs := [6]) (by kernel_rfl) (by simp) ?_
          refine AllReadyH.cons rfl (fun K' hK' => ?_) AllReadyH.nil
          · skip
            obtain ⟨wn14, hmk, hb9, hh9⟩ := make_ints wn13 l.length (by omega)
            have hY := hX.out.add hb9 hh9
            have hSz : wn14.cell? ⟨w.heap.size, 0, none⟩ = some (.slice ad l.length c) := below_cell hb9 hS
            go_simp
            refine hK'.out _ _ hSz (fun hHeld => ?_)
            clear hK' K' hX hmk hb9 hh9 hS
            have hS := hSz
            have hX : Hid (Mk l.length W0 wn14 [wn13.heap.size, wn12.heap.size, wn1.heap.size, W0.heap.size]) := hY
            clear hY hSz
            refine take_at (i := 9) (n := 23) (v := ?_) rfl rfl (by kernel_rfl) (by kernel_rfl) (by kernel_rfl) (fun _ _ _ h => h) (Or.inl ⟨by rfl, ?_⟩) (by assumption) ?_
            rotate_left 1
            · intro wz hSw
              first | (go_simp; done) | (go_simp; with_reducible rfl)
            simp only [List.set_cons_zero, List.set_cons_succ]
            have hY : Hid (NewL w (wn14.alloc (.cells #[.slice ad l.length c, .slice (some ⟨W0.heap.size, 0, none⟩) l.length l.length, .slice (some ⟨wn12.heap.size, 0, none⟩) l.length l.length, .slice (some ⟨wn13.heap.size, 0, none⟩) l.length l.length, .slice (some ⟨wn1.heap.size, 0, none⟩) l.length l.length, .slice none 0 0] 127)) l.length (.slice ad l.length c) (.func (.func f) #[] #[]) wn14.heap.size W0.heap.size wn12.heap.size wn13.heap.size wn1.heap.size (runCells l.length []) (runCells l.length []) (runCells l.length []) (runCells l.length [])) := by
              have hn := hX.out.nd
              simp only [List.nodup_cons, List.mem_cons, List.not_mem_nil, or_false, not_or, not_false_eq_true, List.nodup_nil, and_true] at hn
              exact hX.out.fin HW0.out (by simp) (by simp) (by simp) (by simp) ⟨by omega, by omega, by omega, by omega, by omega, by omega⟩
            have hSy : (wn14.alloc (.cells #[.slice ad l.length c, .slice (some ⟨W0.heap.size, 0, none⟩) l.length l.length, .slice (some ⟨wn12.heap.size, 0, none⟩) l.length l.length, .slice (some ⟨wn13.heap.size, 0, none⟩) l.length l.length, .slice (some ⟨wn1.heap.size, 0, none⟩) l.length l.length, .slice none 0 0] 127)).cell? ⟨w.heap.size, 0, none⟩ = some (.slice ad l.length c) := (cells_of (l := [_]) hY.out.jbox).1 0 _ rfl
            refine wpAnyH_ready (rs := [10]) (by kernel_rfl) (by simp) ?_
            refine AllReadyH.cons rfl (fun K' hK' => ?_) AllReadyH.nil
            go_simp
            refine hK'.out _ _ hSy (fun hHeld => ?_)
            clear hK' K'
            refine take_at (i := 11) (n := 6) (v := ?_) rfl rfl (by kernel_rfl) (by kernel_rfl) (by kernel_rfl) (fun _ _ _ h => h) (Or.inl ⟨by rfl, ?_⟩) (by assumption) ?_
            rotate_left 1
            · intro wz hSw
              first | (go_simp; done) | (go_simp; with_reducible rfl)
            simp only [List.set_cons_zero, List.set_cons_succ]
            refine wpAnyH_done (by kernel_rfl) ?_ _
            refine NoPanic.normal ?_
            go_wp2_with fail
            go_meet
            case rel =>
              exact ⟨_, _, _, _, _, rfl, hY.out⟩
        · skip
          obtain ⟨wn15, hmk, hb9, hh9⟩ := make_ints wn12 l.length (by omega)
          have hY := hX.out.add hb9 hh9
          have hSz : wn15.cell? ⟨w.heap.size, 0, none⟩ = some (.slice ad l.length c) := below_cell hb9 hS
          go_simp
          refine hK'.out _ _ hSz (fun hHeld => ?_)
          clear hK' K' hX hmk hb9 hh9 hS
          have hS := hSz
          have hX : Hid (Mk l.length W0 wn15 [wn12.heap.size, wn1.heap.size, W0.heap.size]) := hY
          clear hY hSz
          refine wpAnyH_ready (rs := [4]) (by kernel_rfl) (by simp) ?_
          refine AllReadyH.cons rfl (fun K' hK' => ?_) AllReadyH.nil
          · skip
            obtain ⟨wn16, hmk, hb9, hh9⟩ := make_ints wn15 l.length (by omega)
            have hY := hX.out.add hb9 hh9
            have hSz : wn16.cell? ⟨w.heap.size, 0, none⟩ = some (.slice ad l.length c) := below_cell hb9 hS
            go_simp
            refine hK'.out _ _ hSz (fun hHeld => ?_)
            clear hK' K' hX hmk hb9 hh9 hS
            have hS := hSz
            have hX : Hid (Mk l.length W0 wn16 [wn15.heap.size, wn12.heap.size, wn1.heap.size, W0.heap.size]) := hY
            clear hY hSz
            refine take_at (i := 9) (n := 23) (v := ?_) rfl rfl (by kernel_rfl) (by kernel_rfl) (by kernel_rfl) (fun _ _ _ h => h) (Or.inl ⟨by rfl, ?_⟩) (by assumption) ?_
            rotate_left 1
            · intro wz hSw
              first | (go_simp; done) | (go_simp; with_reducible rfl)
            simp only [List.set_cons_zero, List.set_cons_succ]
            have hY : Hid (NewL w (wn16.alloc (.cells #[.slice ad l.length c, .slice (some ⟨W0.heap.size, 0, none⟩) l.length l.length, .slice (some ⟨wn15.heap.size, 0, none⟩) l.length l.length, .slice (some ⟨wn12.heap.size, 0, none⟩) l.length l.length, .slice (some ⟨wn1.heap.size, 0, none⟩) l.length l.length, .slice none 0 0] 127)) l.length (.slice ad l.length c) (.func (.func f) #[] #[]) wn16.heap.size W0.heap.size wn15.heap.size wn12.heap.size wn1.heap.size (runCells l.length []) (runCells l.length []) (runCells l.length []) (runCells l.length [])) := by
              have hn := hX.out.nd
              simp only [List.nodup_cons, List.mem_cons, List.not_mem_nil, or_false, not_or, not_false_eq_true, List.nodup_nil, and_true] at hn
              exact hX.out.fin HW0.out (by simp) (by simp) (by simp) (by simp) ⟨by omega, by omega, by omega, by omega, by omega, by omega⟩
            have hSy : (wn16.alloc (.cells #[.slice ad l.length c, .slice (some ⟨W0.heap.size, 0, none⟩) l.length l.length, .slice (some ⟨wn15.heap.size, 0, none⟩) l.length l.length, .slice (some ⟨wn12.heap.size, 0, none⟩) l.length l.length, .slice (some ⟨wn1.heap.size, 0, none⟩) l.length l.length, .slice none 0 0] 127)).cell? ⟨w.heap.size, 0, none⟩ = some (.slice ad l.length c) := (cells_of (l := [_]) hY.out.jbox).1 0 _ rfl
            refine wpAnyH_ready (rs := [10]) (by kernel_rfl) (by simp) ?_
            refine AllReadyH.cons rfl (fun K' hK' => ?_) AllReadyH.nil
            go_simp
            refine hK'.out _ _ hSy (fun hHeld => ?_)
            clear hK' K'
            refine take_at (i := 11) (n := 6) (v := ?_) rfl rfl (by kernel_rfl) (by kernel_rfl) (by kernel_rfl) (fun _ _ _ h => h) (Or.inl ⟨by rfl, ?_⟩) (by assumption) ?_
            rotate_left 1
            · intro wz hSw
              first | (go_simp; done) | (go_simp; with_reducible rfl)
            simp only [List.set_cons_zero, List.set_cons_succ]
            refine wpAnyH_done (by kernel_rfl) ?_ _
            refine NoPanic.normal ?_
            go_wp2_with fail
            go_meet
            case rel =>
              exact ⟨_, _, _, _, _, rfl, hY.out⟩
    · skip
      obtain ⟨wn17, hmk, hb9, hh9⟩ := make_ints W0 l.length (by omega)
      have hY := hX.out.add hb9 hh9
      have hSz : wn17.cell? ⟨w.heap.size, 0, none⟩ = some (.slice ad l.length c) := below_cell hb9 hS
      go_simp
      refine hK'.out _ _ hSz (fun hHeld => ?_)
      clear hK' K' hX hmk hb9 hh9 hS
      have hS := hSz
      have hX : Hid (Mk l.length W0 wn17 [W0.heap.size]) := hY
      clear hY hSz
      refine wpAnyH_ready (rs := [2, 6, 8]) (by kernel_rfl) (by simp) ?_
      refine AllReadyH.cons rfl (fun K' hK' => ?_) (AllReadyH.cons rfl (fun K' hK' => ?_) (AllReadyH.cons rfl (fun K' hK' => ?_) AllReadyH.nil))
      · skip
        obtain ⟨wn18, hmk, hb9, hh9⟩ := make_ints wn17 l.length (by omega)
        have hY := hX.out.add hb9 hh9
        have hSz : wn18.cell? ⟨w.heap.size, 0, none⟩ = some (.slice ad l.length c) := below_cell hb9 hS
        go_simp
        refine hK'.out _ _ hSz (fun hHeld => ?_)
        clear hK' K' hX hmk hb9 hh9 hS
        have hS := hSz
        have hX : Hid (Mk l.length W0 wn18 [wn17.heap.size, W0.heap.size]) := hY
        clear hY hSz
        refine wpAnyH_ready (rs := [6, 8]) (by kernel_rfl) (by simp) ?_
        refine AllReadyH.cons rfl (fun K' hK' => ?_) (AllReadyH.cons rfl (fun K' hK' => ?_) AllReadyH.nil)
        · skip
          obtain ⟨wn19, hmk, hb9, hh9⟩ := make_ints wn18 l.length (by omega)
          have hY := hX.out.add hb9 hh9
          have hSz : wn19.cell? ⟨w.heap.size, 0, none⟩ = some (.slice ad l.length c) := below_cell hb9 hS
          go_simp
          refine hK'.out _ _ hSz (fun hHeld => ?_)
          clear hK' K' hX hmk hb9 hh9 hS
          have hS := hSz
          have hX : Hid (Mk l.length W0 wn19 [wn18.heap.size, wn17.heap.size, W0.heap.size]) := hY
          clear hY hSz
          refine wpAnyH_ready (rs := [8]) (by kernel_rfl) (by simp) ?_
          refine AllReadyH.cons rfl (fun K' hK' => ?_) AllReadyH.nil
          · skip
            obtain ⟨wn20, hmk, hb9, hh9⟩ := make_ints wn19 l.length (by omega)
            have hY := hX.out.add hb9 hh9
            have hSz : wn20.cell? ⟨w.heap.size, 0, none⟩ = some (.slice ad l.length c) := below_cell hb9 hS
            go_simp
            refine hK'.out _ _ hSz (fun hHeld => ?_)
            clear hK' K' hX hmk hb9 hh9 hS
            have hS := hSz
            have hX : Hid (Mk l.length W0 wn20 [wn19.heap.size, wn18.heap.size, wn17.heap.size, W0.heap.size]) := hY
            clear hY hSz
            refine take_at (i := 9) (n := 23) (v := ?_) rfl rfl (by kernel_rfl) (by kernel_rfl) (by kernel_rfl) (fun _ _ _ h => h) (Or.inl ⟨by rfl, ?_⟩) (by assumption) ?_
            rotate_left 1
            · intro wz hSw
              first | (go_simp; done) | (go_simp; with_reducible rfl)
            simp only [List.set_cons_zero, List.set_cons_succ]
            have hY : Hid (NewL w (wn20.alloc (.cells #[.slice ad l.length c, .slice (some ⟨wn17.heap.size, 0, none⟩) l.length l.length, .slice (some ⟨W0.heap.size, 0, none⟩) l.length l.length, .slice (some ⟨wn18.heap.size, 0, none⟩) l.length l.length, .slice (some ⟨wn19.heap.size, 0, none⟩) l.length l.length, .slice none 0 0] 127)) l.length (.slice ad l.length c) (.func (.func f) #[] #[]) wn20.heap.size wn17.heap.size W0.heap.size wn18.heap.size wn19.heap.size (runCells l.length []) (runCells l.length []) (runCells l.length []) (runCells l.length [])) := by
              have hn := hX.out.nd
              simp only [List.nodup_cons, List.mem_cons, List.not_mem_nil, or_false, not_or, not_false_eq_true, List.nodup_nil, and_true] at hn
              exact hX.out.fin HW0.out (by simp) (by simp) (by simp) (by simp) ⟨by omega, by omega, by omega, by omega, by omega, by omega⟩
            have hSy : (wn20.alloc (.cells #[.slice ad l.length c, .slice (some ⟨wn17.heap.size, 0, none⟩) l.length l.length, .slice (some ⟨W0.heap.size, 0, none⟩) l.length l.length, .slice (some ⟨wn18.heap.size, 0, none⟩) l.length l.length, .slice (some ⟨wn19.heap.size, 0, none⟩) l.length l.length, .slice none 0 0] 127)).cell? ⟨w.heap.size, 0, none⟩ = some (.slice ad l.length c) := (cells_of (l := [_]) hY.out.jbox).1 0 _ rfl
            refine wpAnyH_ready (rs := [10]) (by kernel_rfl) (by simp) ?_
            refine AllReadyH.cons rfl (fun K' hK' => ?_) AllReadyH.nil
            go_simp
            refine hK'.out _ _ hSy (fun hHeld => ?_)
            clear hK' K'
            refine take_at (i := 11) (n := 6) (v := ?_) rfl rfl (by kernel_rfl) (by kernel_rfl) (by kernel_rfl) (fun _ _ _ h => h) (Or.inl ⟨by rfl, ?_⟩) (by assumption) ?_
            rotate_left 1
            · intro wz hSw
              first | (go_simp; done) | (go_simp; with_reducible rfl)
            simp only [List.set_cons_zero, List.set_cons_succ]
            refine wpAnyH_done (by kernel_rfl) ?_ _
            refine NoPanic.normal ?_
            go_wp2_with fail
            go_meet
            case rel =>
              exact ⟨_, _, _, _, _, rfl, hY.out⟩
        · skip
          obtain ⟨wn21, hmk, hb9, hh9⟩ := make_ints wn18 l.length (by omega)
          have hY := hX.out.add hb9 hh9
          have hSz : wn21.cell? ⟨w.heap.size, 0, none⟩ = some (.slice ad l.length c) := below_cell hb9 hS
          go_simp
          refine hK'.out _ _ hSz (fun hHeld => ?_)
          clear hK' K' hX hmk hb9 hh9 hS
          have hS := hSz
          have hX : Hid (Mk l.length W0 wn21 [wn18.heap.size, wn17.heap.size, W0.heap.size]) := hY
          clear hY hSz
          refine wpAnyH_ready (rs := [6]) (by kernel_rfl) (by simp) ?_
          refine AllReadyH.cons rfl (fun K' hK' => ?_) AllReadyH.nil
          · skip
            obtain ⟨wn22, hmk, hb9, hh9⟩ := make_ints wn21 l.length (by omega)
            have hY := hX.out.add hb9 hh9
            have hSz : wn22.cell? ⟨w.heap.size, 0, none⟩ = some (.slice ad l.length c) := below_cell hb9 hS
            go_simp
            refine hK'.out _ _ hSz (fun hHeld => ?_)
            clear hK' K' hX hmk hb9 hh9 hS
            have hS := hSz
            have hX : Hid (Mk l.length W0 wn22 [wn21.heap.size, wn18.heap.size, wn17.heap.size, W0.heap.size]) := hY
            clear hY hSz
            refine take_at (i := 9) (n := 23) (v := ?_) rfl rfl (by kernel_rfl) (by kernel_rfl) (by kernel_rfl) (fun _ _ _ h => h) (Or.inl ⟨by rfl, ?_⟩) (by assumption) ?_
            rotate_left 1
            · intro wz hSw
              first | (go_simp; done) | (go_simp; with_reducible rfl)
            simp only [List.set_cons_zero, List.set_cons_succ]
            have hY : Hid (NewL w (wn22.alloc (.cells #[.slice ad l.length c, .slice (some ⟨wn17.heap.size, 0, none⟩) l.length l.length, .slice (some ⟨W0.heap.size, 0, none⟩) l.length l.length, .slice (some ⟨wn21.heap.size, 0, none⟩) l.length l.length, .slice (some ⟨wn18.heap.size, 0, none⟩) l.length l.length, .slice none 0 0] 127)) l.length (.slice ad l.length c) (.func (.func f) #[] #[]) wn22.heap.size wn17.heap.size W0.heap.size wn21.heap.size wn18.heap.size (runCells l.length []) (runCells l.length []) (runCells l.length []) (runCells l.length [])) := by
              have hn := hX.out.nd
              simp only [List.nodup_cons, List.mem_cons, List.not_mem_nil, or_false, not_or, not_false_eq_true, List.nodup_nil, and_true] at hn
              exact hX.out.fin HW0.out (by simp) (by simp) (by simp) (by simp) ⟨by omega, by omega, by omega, by omega, by omega, by omega⟩
            have hSy : (wn22.alloc (.cells #[.slice ad l.length c, .slice (some ⟨wn17.heap.size, 0, none⟩) l.length l.length, .slice (some ⟨W0.heap.size, 0, none⟩) l.length l.length, .slice (some ⟨wn21.heap.size, 0, none⟩) l.length l.length, .slice (some ⟨wn18.heap.size, 0, none⟩) l.length l.length, .slice none 0 0] 127)).cell? ⟨w.heap.size, 0, none⟩ = some (.slice ad l.length c) := (cells_of (l := [_]) hY.out.jbox).1 0 _ rfl
            refine wpAnyH_ready (rs := [10]) (by kernel_rfl) (by simp) ?_
            refine AllReadyH.cons rfl (fun K' hK' => ?_) AllReadyH.nil
            go_simp
            refine hK'.out _ _ hSy (fun hHeld => ?_)
            clear hK' K'
            refine take_at (i := 11) (n := 6) (v := ?_) rfl rfl (by kernel_rfl) (by kernel_rfl) (by kernel_rfl) (fun _ _ _ h => h) (Or.inl ⟨by rfl, ?_⟩) (by assumption) ?_
            rotate_left 1
            · intro wz hSw
              first | (go_simp; done) | (go_simp; with_reducible rfl)
            simp only [List.set_cons_zero, List.set_cons_succ]
            refine wpAnyH_done (by kernel_rfl) ?_ _
            refine NoPanic.normal ?_
            go_wp2_with fail
            go_meet
            case rel =>
              exact ⟨_, _, _, _, _, rfl, hY.out⟩
      · skip
        obtain ⟨wn23, hmk, hb9, hh9⟩ := make_ints wn17 l.length (by omega)
        have hY := hX.out.add hb9 hh9
        have hSz : wn23.cell? ⟨w.heap.size, 0, none⟩ = some (.slice ad l.length c) := below_cell hb9 hS
        go_simp
        refine hK'.out _ _ hSz (fun hHeld => ?_)
        clear hK' K' hX hmk hb9 hh9 hS
        have hS := hSz
        have hX : Hid (Mk l.length W0 wn23 [wn17.heap.size, W0.heap.size]) := hY
        clear hY hSz
        refine wpAnyH_ready (rs := [2, 8]) (by kernel_rfl) (by simp) ?_
        refine AllReadyH.cons rfl (fun K' hK' => ?_) (AllReadyH.cons rfl (fun K' hK' => ?_) AllReadyH.nil)
        · skip
          obtain ⟨wn24, hmk, hb9, hh9⟩ := make_ints wn23 l.length (by omega)
          have hY := hX.out.add hb9 hh9
          have hSz : wn24.cell? ⟨w.heap.size, 0, none⟩ = some (.slice ad l.length c) := below_cell hb9 hS
          go_simp
          refine hK'.out _ _ hSz (fun hHeld => ?_)
          clear hK' K' hX hmk hb9 hh9 hS
          have hS := hSz
          have hX : Hid (Mk l.length W0 wn24 [wn23.heap.size, wn17.heap.size, W0.heap.size]) := hY
          clear hY hSz
          refine wpAnyH_ready (rs := [8]) (by kernel_rfl) (by simp) ?_
          refine AllReadyH.cons rfl (fun K' hK' => ?_) AllReadyH.nil
          · skip
            obtain ⟨wn25, hmk, hb9, hh9⟩ := make_ints wn24 l.length (by omega)
            have hY := hX.out.add hb9 hh9
            have hSz : wn25.cell? ⟨w.heap.size, 0, none⟩ = some (.slice ad l.length c) := below_cell hb9 hS
            go_simp
            refine hK'.out _ _ hSz (fun hHeld => ?_)
            clear hK' K' hX hmk hb9 hh9 hS
            have hS := hSz
            have hX : Hid (Mk l.length W0 wn25 [wn24.heap.size, wn23.heap.size, wn17.heap.size, W0.heap.size]) := hY
            clear hY hSz
            refine take_at (i := 9) (n := 23) (v := ?_) rfl rfl (by kernel_rfl) (by kernel_rfl) (by kernel_rfl) (fun _ _ _ h => h) (Or.inl ⟨by rfl, ?_⟩) (by assumption) ?_
            rotate_left 1
            · intro wz hSw
              first | (go_simp; done) | (go_simp; with_reducible rfl)
            simp only [List.set_cons_zero, List.set_cons_succ]
            have hY : Hid (NewL w (wn25.alloc (.cells #[.slice ad l.length c, .slice (some ⟨wn23.heap.size, 0, none⟩) l.length l.length, .slice (some ⟨W0.heap.size, 0, none⟩) l.length l.length, .slice (some ⟨wn17.heap.size, 0, none⟩) l.length l.length, .slice (some ⟨wn24.heap.size, 0, none⟩) l.length l.length, .slice none 0 0] 127)) l.length (.slice ad l.length c) (.func (.func f) #[] #[]) wn25.heap.size wn23.heap.size W0.heap.size wn17.heap.size wn24.heap.size (runCells l.length []) (runCells l.length []) (runCells l.length []) (runCells l.length [])) := by
              have hn := hX.out.nd
              simp only [List.nodup_cons, List.mem_cons, List.not_mem_nil, or_false, not_or, not_false_eq_true, List.nodup_nil, and_true] at hn
              exact hX.out.fin HW0.out (by simp) (by simp) (by simp) (by simp) ⟨by omega, by omega, by omega, by omega, by omega, by omega⟩
            have hSy : (wn25.alloc (.cells #[.slice ad l.length c, .slice (some ⟨wn23.heap.size, 0, none⟩) l.length l.length, .slice (some ⟨W0.heap.size, 0, none⟩) l.length l.length, .slice (some ⟨wn17.heap.size, 0, none⟩) l.length l.length, .slice (some ⟨wn24.heap.size, 0, none⟩) l.length l.length, .slice none 0 0] 127)).cell? ⟨w.heap.size, 0, none⟩ = some (.slice ad l.length c) := (cells_of (l := [_]) hY.out.jbox).1 0 _ rfl
            refine wpAnyH_ready (rs := [10]) (by kernel_rfl) (by simp) ?_
            refine AllReadyH.cons rfl (fun K' hK' => ?_) AllReadyH.nil
            go_simp
            refine hK'.out _ _ hSy (fun hHeld => ?_)
            clear hK' K'
            refine take_at (i := 11) (n := 6) (v := ?_) rfl rfl (by kernel_rfl) (by kernel_rfl) (by kernel_rfl) (fun _ _ _ h => h) (Or.inl ⟨by rfl, ?_⟩) (by assumption) ?_
            rotate_left 1
            · intro wz hSw
              first | (go_simp; done) | (go_simp; with_reducible rfl)
            simp only [List.set_cons_zero, List.set_cons_succ]
            refine wpAnyH_done (by kernel_rfl) ?_ _
            refine NoPanic.normal ?_
            go_wp2_with fail
            go_meet
            case rel =>
              exact ⟨_, _, _, _, _, rfl, hY.out⟩
        · skip
          obtain ⟨wn26, hmk, hb9, hh9⟩ := make_ints wn23 l.length (by omega)
          have hY := hX.out.add hb9 hh9
          have hSz : wn26.cell? ⟨w.heap.size, 0, none⟩ = some (.slice ad l.length c) := below_cell hb9 hS
          go_simp
          refine hK'.out _ _ hSz (fun hHeld => ?_)
          clear hK' K' hX hmk hb9 hh9 hS
          have hS := hSz
          have hX : Hid (Mk l.length W0 wn26 [wn23.heap.size, wn17.heap.size, W0.heap.size]) := hY
          clear hY hSz
          refine wpAnyH_ready (rs := [2]) (by kernel_rfl) (by simp) ?_
          refine AllReadyH.cons rfl (fun K' hK' => ?_) AllReadyH.nil
          · skip
            obtain ⟨wn27, hmk, hb9, hh9⟩ := make_ints wn26 l.length (by omega)
            have hY := hX.out.add hb9 hh9
            have hSz : wn27.cell? ⟨w.heap.size, 0, none⟩ = some (.slice ad l.length c) := below_cell hb9 hS
            go_simp
            refine hK'.out _ _ hSz (fun hHeld => ?_)
            clear hK' K' hX hmk hb9 hh9 hS
            have hS := hSz
            have hX : Hid (Mk l.length W0 wn27 [wn26.heap.size, wn23.heap.size, wn17.heap.size, W0.heap.size]) := hY
            clear hY hSz
            refine take_at (i := 9) (n := 23) (v := ?_) rfl rfl (by kernel_rfl) (by kernel_rfl) (by kernel_rfl) (fun _ _ _ h => h) (Or.inl ⟨by rfl, ?_⟩) (by assumption) ?_
            rotate_left 1
            · intro wz hSw
              first | (go_simp; done) | (go_simp; with_reducible rfl)
            simp only [List.set_cons_zero, List.set_cons_succ]
            have hY : Hid (NewL w (wn27.alloc (.cells #[.slice ad l.length c, .slice (some ⟨wn26.heap.size, 0, none⟩) l.length l.length, .slice (some ⟨W0.heap.size, 0, none⟩) l.length l.length, .slice (some ⟨wn17.heap.size, 0, none⟩) l.length l.length, .slice (some ⟨wn23.heap.size, 0, none⟩) l.length l.length, .slice none 0 0] 127)) l.length (.slice ad l.length c) (.func (.func f) #[] #[]) wn27.heap.size wn26.heap.size W0.heap.size wn17.heap.size wn23.heap.size (runCells l.length []) (runCells l.length []) (runCells l.length []) (runCells l.length [])) := by
              have hn := hX.out.nd
              simp only [List.nodup_cons, List.mem_cons, List.not_mem_nil, or_false, not_or, not_false_eq_true, List.nodup_nil, and_true] at hn
              exact hX.out.fin HW0.out (by simp) (by simp) (by simp) (by simp) ⟨by omega, by omega, by omega, by omega, by omega, by omega⟩
            have hSy : (wn27.alloc (.cells #[.slice ad l.length c, .slice (some ⟨wn26.heap.size, 0, none⟩) l.length l.length, .slice (some ⟨W0.heap.size, 0, none⟩) l.length l.length, .slice (some ⟨wn17.heap.size, 0, none⟩) l.length l.length, .slice (some ⟨wn23.heap.size, 0, none⟩) l.length l.length, .slice none 0 0] 127)).cell? ⟨w.heap.size, 0, none⟩ = some (.slice ad l.length c) := (cells_of (l := [_]) hY.out.jbox).1 0 _ rfl
            refine wpAnyH_ready (rs := [10]) (by kernel_rfl) (by simp) ?_
            refine AllReadyH.cons rfl (fun K' hK' => ?_) AllReadyH.nil
            go_simp
            refine hK'.out _ _ hSy (fun hHeld => ?_)
            clear hK' K'
            refine take_at (i := 11) (n := 6) (v := ?_) rfl rfl (by kernel_rfl) (by kernel_rfl) (by kernel_rfl) (fun _ _ _ h => h) (Or.inl ⟨by rfl, ?_⟩) (by assumption) ?_
            rotate_left 1
            · intro wz hSw
              first | (go_simp; done) | (go_simp; with_reducible rfl)
            simp only [List.set_cons_zero, List.set_cons_succ]
            refine wpAnyH_done (by kernel_rfl) ?_ _
            refine NoPanic.normal ?_
            go_wp2_with fail
            go_meet
            case rel =>
              exact ⟨_, _, _, _, _, rfl, hY.out⟩
      · skip
        obtain ⟨wn28, hmk, hb9, hh9⟩ := make_ints wn17 l.length (by omega)
        have hY := hX.out.add hb9 hh9
        have hSz : wn28.cell? ⟨w.heap.size, 0, none⟩ = some (.slice ad l.length c) := below_cell hb9 hS
        go_simp
        refine hK'.out _ _ hSz (fun hHeld => ?_)
        clear hK' K' hX hmk hb9 hh9 hS
        have hS := hSz
        have hX : Hid (Mk l.length W0 wn28 [wn17.heap.size, W0.heap.size]) := hY
        clear hY hSz
        refine wpAnyH_ready (rs := [2, 6]) (by kernel_rfl) (by simp) ?_
        refine AllReadyH.cons rfl (fun K' hK' => ?_) (AllReadyH.cons rfl (fun K' hK' => ?_) AllReadyH.nil)
        · skip
          obtain ⟨wn29, hmk, hb9, hh9⟩ := make_ints wn28 l.length (by omega)
          have hY := hX.out.add hb9 hh9
          have hSz : wn29.cell? ⟨w.heap.size, 0, none⟩ = some (.slice ad l.length c) := below_cell hb9 hS
          go_simp
          refine hK'.out _ _ hSz (fun hHeld => ?_)
          clear hK' K' hX hmk hb9 hh9 hS
          have hS := hSz
          have hX : Hid (Mk l.length W0 wn29 [wn28.heap.size, wn17.heap.size, W0.heap.size]) := hY
          clear hY hSz
          refine wpAnyH_ready (rs := [6]) (by kernel_rfl) (by simp) ?_
          refine AllReadyH.cons rfl (fun K' hK' => ?_) AllReadyH.nil
          · skip
            obtain ⟨wn30, hmk, hb9, hh9⟩ := make_ints wn29 l.length (by omega)
            have hY := hX.out.add hb9 hh9
            have hSz : wn30.cell? ⟨w.heap.size, 0, none⟩ = some (.slice ad l.length c) := below_cell hb9 hS
            go_simp
            refine hK'.out _ _ hSz (fun hHeld => ?_)
            clear hK' K' hX hmk hb9 hh9 hS
            have hS := hSz
            have hX : Hid (Mk l.length W0 wn30 [wn29.heap.size, wn28.heap.size, wn17.heap.size, W0.heap.size]) := hY
            clear hY hSz
            refine take_at (i := 9) (n := 23) (v := ?_) rfl rfl (by kernel_rfl) (by kernel_rfl) (by kernel_rfl) (fun _ _ _ h => h) (Or.inl ⟨by rfl, ?_⟩) (by assumption) ?_
            rotate_left 1
            · intro wz hSw
              first | (go_simp; done) | (go_simp; with_reducible rfl)
            simp only [List.set_cons_zero, List.set_cons_succ]
            have hY : Hid (NewL w (wn30.alloc (.cells #[.slice ad l.length c, .slice (some ⟨wn28.heap.size, 0, none⟩) l.length l.length, .slice (some ⟨W0.heap.size, 0, none⟩) l.length l.length, .slice (some ⟨wn29.heap.size, 0, none⟩) l.length l.length, .slice (some ⟨wn17.heap.size, 0, none⟩) l.length l.length, .slice none 0 0] 127)) l.length (.slice ad l.length c) (.func (.func f) #[] #[]) wn30.heap.size wn28.heap.size W0.heap.size wn29.heap.size wn17.heap.size (runCells l.length []) (runCells l.length []) (runCells l.length []) (runCells l.length [])) := by
              have hn := hX.out.nd
              simp only [List.nodup_cons, List.mem_cons, List.not_mem_nil, or_false, not_or, not_false_eq_true, List.nodup_nil, and_true] at hn
              exact hX.out.fin HW0.out (by simp) (by simp) (by simp) (by simp) ⟨by omega, by omega, by omega, by omega, by omega, by omega⟩
            have hSy : (wn30.alloc (.cells #[.slice ad l.length c, .slice (some ⟨wn28.heap.size, 0, none⟩) l.length l.length, .slice (some ⟨W0.heap.size, 0, none⟩) l.length l.length, .slice (some ⟨wn29.heap.size, 0, none⟩) l.length l.length, .slice (some ⟨wn17.heap.size, 0, none⟩) l.length l.length, .slice none 0 0] 127)).cell? ⟨w.heap.size, 0, none⟩ = some (.slice ad l.length c) := (cells_of (l := [_]) hY.out.jbox).1 0 _ rfl
            refine wpAnyH_ready (rs := [10]) (by kernel_rfl) (by simp) ?_
            refine AllReadyH.cons rfl (fun K' hK' => ?_) AllReadyH.nil
            go_simp
            refine hK'.out _ _ hSy (fun hHeld => ?_)
            clear hK' K'
            refine take_at (i := 11) (n := 6) (v := ?_) rfl rfl (by kernel_rfl) (by kernel_rfl) (by kernel_rfl) (fun _ _ _ h => h) (Or.inl ⟨by rfl, ?_⟩) (by assumption) ?_
            rotate_left 1
            · intro wz hSw
              first | (go_simp; done) | (go_simp; with_reducible rfl)
            simp only [List.set_cons_zero, List.set_cons_succ]
            refine wpAnyH_done (by kernel_rfl) ?_ _
            refine NoPanic.normal ?_
            go_wp2_with fail
            go_meet
            case rel =>
              exact ⟨_, _, _, _, _, rfl, hY.out⟩
        · skip
          obtain ⟨wn31, hmk, hb9, hh9⟩ := make_ints wn28 l.length (by omega)
          have hY := hX.out.add hb9 hh9
          have hSz : wn31.cell? ⟨w.heap.size, 0, none⟩ = some (.slice ad l.length c) := below_cell hb9 hS
          go_simp
          refine hK'.out _ _ hSz (fun hHeld => ?_)
          clear hK' K' hX hmk hb9 hh9 hS
          have hS := hSz
          have hX : Hid (Mk l.length W0 wn31 [wn28.heap.size, wn17.heap.size, W0.heap.size]) := hY
          clear hY hSz
          refine wpAnyH_ready (rs := [2]) (by kernel_rfl) (by simp) ?_
          refine AllReadyH.cons rfl (fun K' hK' => ?_) AllReadyH.nil
          · skip
            obtain ⟨wn32, hmk, hb9, hh9⟩ := make_ints wn31 l.length (by omega)
            have hY := hX.out.add hb9 hh9
            have hSz : wn32.cell? ⟨w.heap.size, 0, none⟩ = some (.slice ad l.length c) := below_cell hb9 hS
            go_simp
            refine hK'.out _ _ hSz (fun hHeld => ?_)
            clear hK' K' hX hmk hb9 hh9 hS
            have hS := hSz
            have hX : Hid (Mk l.length W0 wn32 [wn31.heap.size, wn28.heap.size, wn17.heap.size, W0.heap.size]) := hY
            clear hY hSz
            refine take_at (i := 9) (n := 23) (v := ?_) rfl rfl (by kernel_rfl) (by kernel_rfl) (by kernel_rfl) (fun _ _ _ h => h) (Or.inl ⟨by rfl, ?_⟩) (by assumption) ?_
            rotate_left 1
            · intro wz hSw
              first | (go_simp; done) | (go_simp; with_reducible rfl)
            simp only [List.set_cons_zero, List.set_cons_succ]
            have hY : Hid (NewL w (wn32.alloc (.cells #[.slice ad l.length c, .slice (some ⟨wn31.heap.size, 0, none⟩) l.length l.length, .slice (some ⟨W0.heap.size, 0, none⟩) l.length l.length, .slice (some ⟨wn28.heap.size, 0, none⟩) l.length l.length, .slice (some ⟨wn17.heap.size, 0, none⟩) l.length l.length, .slice none 0 0] 127)) l.length (.slice ad l.length c) (.func (.func f) #[] #[]) wn32.heap.size wn31.heap.size W0.heap.size wn28.heap.size wn17.heap.size (runCells l.length []) (runCells l.length []) (runCells l.length []) (runCells l.length [])) := by
              have hn := hX.out.nd
              simp only [List.nodup_cons, List.mem_cons, List.not_mem_nil, or_false, not_or, not_false_eq_true, List.nodup_nil, and_true] at hn
              exact hX.out.fin HW0.out (by simp) (by simp) (by simp) (by simp) ⟨by omega, by omega, by omega, by omega, by omega, by omega⟩
            have hSy : (wn32.alloc (.cells #[.slice ad l.length c, .slice (some ⟨wn31.heap.size, 0, none⟩) l.length l.length, .slice (some ⟨W0.heap.size, 0, none⟩) l.length l.length, .slice (some ⟨wn28.heap.size, 0, none⟩) l.length l.length, .slice (some ⟨wn17.heap.size, 0, none⟩) l.length l.length, .slice none 0 0] 127)).cell? ⟨w.heap.size, 0, none⟩ = some (.slice ad l.length c) := (cells_of (l := [_]) hY.out.jbox).1 0 _ rfl
            refine wpAnyH_ready (rs := [10]) (by kernel_rfl) (by simp) ?_
            refine AllReadyH.cons rfl (fun K' hK' => ?_) AllReadyH.nil
            go_simp
            refine hK'.out _ _ hSy (fun hHeld => ?_)
            clear hK' K'
            refine take_at (i := 11) (n := 6) (v := ?_) rfl rfl (by kernel_rfl) (by kernel_rfl) (by kernel_rfl) (fun _ _ _ h => h) (Or.inl ⟨by rfl, ?_⟩) (by assumption) ?_
            rotate_left 1
            · intro wz hSw
              first | (go_simp; done) | (go_simp; with_reducible rfl)
            simp only [List.set_cons_zero, List.set_cons_succ]
            refine wpAnyH_done (by kernel_rfl) ?_ _
            refine NoPanic.normal ?_
            go_wp2_with fail
            go_meet
            case rel =>
              exact ⟨_, _, _, _, _, rfl, hY.out⟩
    · skip
      obtain ⟨wn33, hmk, hb9, hh9⟩ := make_ints W0 l.length (by omega)
      have hY := hX.out.add hb9 hh9
      have hSz : wn33.cell? ⟨w.heap.size, 0, none⟩ = some (.slice ad l.length c) := below_cell hb9 hS
      go_simp
      refine hK'.out _ _ hSz (fun hHeld => ?_)
      clear hK' K' hX hmk hb9 hh9 hS
      have hS := hSz
      have hX : Hid (Mk l.length W0 wn33 [W0.heap.size]) := hY
      clear hY hSz
      refine wpAnyH_ready (rs := [2, 4, 8]) (by kernel_rfl) (by simp) ?_
      refine AllReadyH.cons rfl (fun K' hK' => ?_) (AllReadyH.cons rfl (fun K' hK' => ?_) (AllReadyH.cons rfl (fun K' hK' => ?_) AllReadyH.nil))
      · skip
        obtain ⟨wn34, hmk, hb9, hh9⟩ := make_ints wn33 l.length (by omega)
        have hY := hX.out.add hb9 hh9
        have hSz : wn34.cell? ⟨w.heap.size, 0, none⟩ = some (.slice ad l.length c) := below_cell hb9 hS
        go_simp
        refine hK'.out _ _ hSz (fun hHeld => ?_)
        clear hK' K' hX hmk hb9 hh9 hS
        have hS := hSz
        have hX : Hid (Mk l.length W0 wn34 [wn33.heap.size, W0.heap.size]) := hY
        clear hY hSz
        refine wpAnyH_ready (rs := [4, 8]) (by kernel_rfl) (by simp) ?_
        refine AllReadyH.cons rfl (fun K' hK' => ?_) (AllReadyH.cons rfl (fun K' hK' => ?_) AllReadyH.nil)
        · skip
          obtain ⟨wn35, hmk, hb9, hh9⟩ := make_ints wn34 l.length (by omega)
          have hY := hX.out.add hb9 hh9
          have hSz : wn35.cell? ⟨w.heap.size, 0, none⟩ = some (.slice ad l.length c) := below_cell hb9 hS
          go_simp
          refine hK'.out _ _ hSz (fun hHeld => ?_)
          clear hK' K' hX hmk hb9 hh9 hS
          have hS := hSz
          have hX : Hid (Mk l.length W0 wn35 [wn34.heap.size, wn33.heap.size, W0.heap.size]) := hY
          clear hY hSz
          refine wpAnyH_ready (rs := [8]) (by kernel_rfl) (by simp) ?_
          refine AllReadyH.cons rfl (fun K' hK' => ?_) AllReadyH.nil
          · skip
            obtain ⟨wn36, hmk, hb9, hh9⟩ := make_ints wn35 l.length (by omega)
            have hY := hX.out.add hb9 hh9
            have hSz : wn36.cell? ⟨w.heap.size, 0, none⟩ = some (.slice ad l.length c) := below_cell hb9 hS
            go_simp
            refine hK'.out _ _ hSz (fun hHeld => ?_)
            clear hK' K' hX hmk hb9 hh9 hS
            have hS := hSz
            have hX : Hid (Mk l.length W0 wn36 [wn35.heap.size, wn34.heap.size, wn33.heap.size, W0.heap.size]) := hY
            clear hY hSz
            refine take_at (i := 9) (n := 23) (v := ?_) rfl rfl (by kernel_rfl) (by kernel_rfl) (by kernel_rfl) (fun _ _ _ h => h) (Or.inl ⟨by rfl, ?_⟩) (by assumption) ?_
            rotate_left 1
            · intro wz hSw
              first | (go_simp; done) | (go_simp; with_reducible rfl)
            simp only [List.set_cons_zero, List.set_cons_succ]
            have hY : Hid (NewL w (wn36.alloc (.cells #[.slice ad l.length c, .slice (some ⟨wn33.heap.size, 0, none⟩) l.length l.length, .slice (some ⟨wn34.heap.size, 0, none⟩) l.length l.length, .slice (some ⟨W0.heap.size, 0, none⟩) l.length l.length, .slice (some ⟨wn35.heap.size, 0, none⟩) l.length l.length, .slice none 0 0] 127)) l.length (.slice ad l.length c) (.func (.func f) #[] #[]) wn36.heap.size wn33.heap.size wn34.heap.size W0.heap.size wn35.heap.size (runCells l.length []) (runCells l.length []) (runCells l.length []) (runCells l.length [])) := by
              have hn := hX.out.nd
              simp only [List.nodup_cons, List.mem_cons, List.not_mem_nil, or_false, not_or, not_false_eq_true, List.nodup_nil, and_true] at hn
              exact hX.out.fin HW0.out (by simp) (by simp) (by simp) (by simp) ⟨by omega, by omega, by omega, by omega, by omega, by omega⟩
            have hSy : (wn36.alloc (.cells #[.slice ad l.length c, .slice (some ⟨wn33.heap.size, 0, none⟩) l.length l.length, .slice (some ⟨wn34.heap.size, 0, none⟩) l.length l.length, .slice (some ⟨W0.heap.size, 0, none⟩) l.length l.length, .slice (some ⟨wn35.heap.size, 0, none⟩) l.length l.length, .slice none 0 0] 127)).cell? ⟨w.heap.size, 0, none⟩ = some (.slice ad l.length c) := (cells_of (l := [_]) hY.out.jbox).1 0 _ rfl
            refine wpAnyH_ready (rs := [10]) (by kernel_rfl) (by simp) ?_
            refine AllReadyH.cons rfl (fun K' hK' => ?_) AllReadyH.nil
            go_simp
            refine hK'.out _ _ hSy (fun hHeld => ?_)
            clear hK' K'
            refine take_at (i := 11) (n := 6) (v := ?_) rfl rfl (by kernel_rfl) (by kernel_rfl) (by kernel_rfl) (fun _ _ _ h => h) (Or.inl ⟨by rfl, ?_⟩) (by assumption) ?_
            rotate_left 1
            · intro wz hSw
              first | (go_simp; done) | (go_simp; with_reducible rfl)
            simp only [List.set_cons_zero, List.set_cons_succ]
            refine wpAnyH_done (by kernel_rfl) ?_ _
            refine NoPanic.normal ?_
            go_wp2_with fail
            go_meet
            case rel =>
              exact ⟨_, _, _, _, _, rfl, hY.out⟩
        · skip
          obtain ⟨wn37, hmk, hb9, hh9⟩ := make_ints wn34 l.length (by omega)
          have hY := hX.out.add hb9 hh9
          have hSz : wn37.cell? ⟨w.heap.size, 0, none⟩ = some (.slice ad l.length c) := below_cell hb9 hS
          go_simp
          refine hK'.out _ _ hSz (fun hHeld => ?_)
          clear hK' K' hX hmk hb9 hh9 hS
          have hS := hSz
          have hX : Hid (Mk l.length W0 wn37 [wn34.heap.size, wn33.heap.size, W0.heap.size]) := hY
          clear hY hSz
          refine wpAnyH_ready (rs := [4]) (by kernel_rfl) (by simp) ?_
          refine AllReadyH.cons rfl (fun K' hK' => ?_) AllReadyH.nil
          · skip
            obtain ⟨wn38, hmk, hb9, hh9⟩ := make_ints wn37 l.length (by omega)
            have hY := hX.out.add hb9 hh9
            have hSz : wn38.cell? ⟨w.heap.size, 0, none⟩ = some (.slice ad l.length c) := below_cell hb9 hS
            go_simp
            refine hK'.out _ _ hSz (fun hHeld => ?_)
            clear hK' K' hX hmk hb9 hh9 hS
            have hS := hSz
            have hX : Hid (Mk l.length W0 wn38 [wn37.heap.size, wn34.heap.size, wn33.heap.size, W0.heap.size]) := hY
            clear hY hSz
            refine take_at (i := 9) (n := 23) (v := ?_) rfl rfl (by kernel_rfl) (by kernel_rfl) (by kernel_rfl) (fun _ _ _ h => h) (Or.inl ⟨by rfl, ?_⟩) (by assumption) ?_
            rotate_left 1
            · intro wz hSw
              first | (go_simp; done) | (go_simp; with_reducible rfl)
            simp only [List.set_cons_zero, List.set_cons_succ]
            have hY : Hid (NewL w (wn38.alloc (.cells #[.slice ad l.length c, .slice (some ⟨wn33.heap.size, 0, none⟩) l.length l.length, .slice (some ⟨wn37.heap.size, 0, none⟩) l.length l.length, .slice (some ⟨W0.heap.size, 0, none⟩) l.length l.length, .slice (some ⟨wn34.heap.size, 0, none⟩) l.length l.length, .slice none 0 0] 127)) l.length (.slice ad l.length c) (.func (.func f) #[] #[]) wn38.heap.size wn33.heap.size wn37.heap.size W0.heap.size wn34.heap.size (runCells l.length []) (runCells l.length []) (runCells l.length []) (runCells l.length [])) := by
              have hn := hX.out.nd
              simp only [List.nodup_cons, List.mem_cons, List.not_mem_nil, or_false, not_or, not_false_eq_true, List.nodup_nil, and_true] at hn
              exact hX.out.fin HW0.out (by simp) (by simp) (by simp) (by simp) ⟨by omega, by omega, by omega, by omega, by omega, by omega⟩
            have hSy : (wn38.alloc (.cells #[.slice ad l.length c, .slice (some ⟨wn33.heap.size, 0, none⟩) l.length l.length, .slice (some ⟨wn37.heap.size, 0, none⟩) l.length l.length, .slice (some ⟨W0.heap.size, 0, none⟩) l.length l.length, .slice (some ⟨wn34.heap.size, 0, none⟩) l.length l.length, .slice none 0 0] 127)).cell? ⟨w.heap.size, 0, none⟩ = some (.slice ad l.length c) := (cells_of (l := [_]) hY.out.jbox).1 0 _ rfl
            refine wpAnyH_ready (rs := [10]) (by kernel_rfl) (by simp) ?_
            refine AllReadyH.cons rfl (fun K' hK' => ?_) AllReadyH.nil
            go_simp
            refine hK'.out _ _ hSy (fun hHeld => ?_)
            clear hK' K'
            refine take_at (i := 11) (n := 6) (v := ?_) rfl rfl (by kernel_rfl) (by kernel_rfl) (by kernel_rfl) (fun _ _ _ h => h) (Or.inl ⟨by rfl, ?_⟩) (by assumption) ?_
            rotate_left 1
            · intro wz hSw
              first | (go_simp; done) | (go_simp; with_reducible rfl)
            simp only [List.set_cons_zero, List.set_cons_succ]
            refine wpAnyH_done (by kernel_rfl) ?_ _
            refine NoPanic.normal ?_
            go_wp2_with fail
            go_meet
            case rel =>
              exact ⟨_, _, _, _, _, rfl, hY.out⟩
      · skip
        obtain ⟨wn39, hmk, hb9, hh9⟩ := make_ints wn33 l.length (by omega)
        have hY := hX.out.add hb9 hh9
        have hSz : wn39.cell? ⟨w.heap.size, 0, none⟩ = some (.slice ad l.length c) := below_cell hb9 hS
        go_simp
        refine hK'.out _ _ hSz (fun hHeld => ?_)
        clear hK' K' hX hmk hb9 hh9 hS
        have hS := hSz
        have hX : Hid (Mk l.length W0 wn39 [wn33.heap.size, W0.heap.size]) := hY
        clear hY hSz
        refine wpAnyH_ready (rs := [2, 8]) (by kernel_rfl) (by simp) ?_
        refine AllReadyH.cons rfl (fun K' hK' => ?_) (AllReadyH.cons rfl (fun K' hK' => ?_) AllReadyH.nil)
        · skip
          obtain ⟨wn40, hmk, hb9, hh9⟩ := make_ints wn39 l.length (by omega)
          have hY := hX.out.add hb9 hh9
          have hSz : wn40.cell? ⟨w.heap.size, 0, none⟩ = some (.slice ad l.length c) := below_cell hb9 hS
          go_simp
          refine hK'.out _ _ hSz (fun hHeld => ?_)
          clear hK' K' hX hmk hb9 hh9 hS
          have hS := hSz
          have hX : Hid (Mk l.length W0 wn40 [wn39.heap.size, wn33.heap.size, W0.heap.size]) := hY
          clear hY hSz
          refine wpAnyH_ready (rs := [8]) (by kernel_rfl) (by simp) ?_
          refine AllReadyH.cons rfl (fun K' hK' => ?_) AllReadyH.nil
          · skip
            obtain ⟨wn41, hmk, hb9, hh9⟩ := make_ints wn40 l.length (by omega)
            have hY := hX.out.add hb9 hh9
            have hSz : wn41.cell? ⟨w.heap.size, 0, none⟩ = some (.slice ad l.length c) := below_cell hb9 hS
            go_simp
            refine hK'.out _ _ hSz (fun hHeld => ?_)
            clear hK' K' hX hmk hb9 hh9 hS
            have hS := hSz
            have hX : Hid (Mk l.length W0 wn41 [wn40.heap.size, wn39.heap.size, wn33.heap.size, W0.heap.size]) := hY
            clear hY hSz
            refine take_at (i := 9) (n := 23) (v := ?_) rfl rfl (by kernel_rfl) (by kernel_rfl) (by kernel_rfl) (fun _ _ _ h => h) (Or.inl ⟨by rfl, ?_⟩) (by assumption) ?_
            rotate_left 1
            · intro wz hSw
              first | (go_simp; done) | (go_simp; with_reducible rfl)
            simp only [List.set_cons_zero, List.set_cons_succ]
            have hY : Hid (NewL w (wn41.alloc (.cells #[.slice ad l.length c, .slice (some ⟨wn39.heap.size, 0, none⟩) l.length l.length, .slice (some ⟨wn33.heap.size, 0, none⟩) l.length l.length, .slice (some ⟨W0.heap.size, 0, none⟩) l.length l.length, .slice (some ⟨wn40.heap.size, 0, none⟩) l.length l.length, .slice none 0 0] 127)) l.length (.slice ad l.length c) (.func (.func f) #[] #[]) wn41.heap.size wn39.heap.size wn33.heap.size W0.heap.size wn40.heap.size (runCells l.length []) (runCells l.length []) (runCells l.length []) (runCells l.length [])) := by
              have hn := hX.out.nd
              simp only [List.nodup_cons, List.mem_cons, List.not_mem_nil, or_false, not_or, not_false_eq_true, List.nodup_nil, and_true] at hn
              exact hX.out.fin HW0.out (by simp) (by simp) (by simp) (by simp) ⟨by omega, by omega, by omega, by omega, by omega, by omega⟩
            have hSy : (wn41.alloc (.cells #[.slice ad l.length c, .slice (some ⟨wn39.heap.size, 0, none⟩) l.length l.length, .slice (some ⟨wn33.heap.size, 0, none⟩) l.length l.length, .slice (some ⟨W0.heap.size, 0, none⟩) l.length l.length, .slice (some ⟨wn40.heap.size, 0, none⟩) l.length l.length, .slice none 0 0] 127)).cell? ⟨w.heap.size, 0, none⟩ = some (.slice ad l.length c) := (cells_of (l := [_]) hY.out.jbox).1 0 _ rfl
            refine wpAnyH_ready (rs := [10]) (by kernel_rfl) (by simp) ?_
            refine AllReadyH.cons rfl (fun K' hK' => ?_) AllReadyH.nil
            go_simp
            refine hK'.out _ _ hSy (fun hHeld => ?_)
            clear hK' K'
            refine take_at (i := 11) (n := 6) (v := ?_) rfl rfl (by kernel_rfl) (by kernel_rfl) (by kernel_rfl) (fun _ _ _ h => h) (Or.inl ⟨by rfl, ?_⟩) (by assumption) ?_
            rotate_left 1
            · intro wz hSw
              first | (go_simp; done) | (go_simp; with_reducible rfl)
            simp only [List.set_cons_zero, List.set_cons_succ]
            refine wpAnyH_done (by kernel_rfl) ?_ _
            refine NoPanic.normal ?_
            go_wp2_with fail
            go_meet
            case rel =>
              exact ⟨_, _, _, _, _, rfl, hY.out⟩
        · skip
          obtain ⟨wn42, hmk, hb9, hh9⟩ := make_ints wn39 l.length (by omega)
          have hY := hX.out.add hb9 hh9
          have hSz : wn42.cell? ⟨w.heap.size, 0, none⟩ = some (.slice ad l.length c) := below_cell hb9 hS
          go_simp
          refine hK'.out _ _ hSz (fun hHeld => ?_)
          clear hK' K' hX hmk hb9 hh9 hS
          have hS := hSz
          have hX : Hid (Mk l.length W0 wn42 [wn39.heap.size, wn33.heap.size, W0.heap.size]) := hY
          clear hY hSz
          refine wpAnyH_ready (rs := [2]) (by kernel_rfl) (by simp) ?_
          refine AllReadyH.cons rfl (fun K' hK' => ?_) AllReadyH.nil
          · skip
            obtain ⟨wn43, hmk, hb9, hh9⟩ := make_ints wn42 l.length (by omega)
            have hY := hX.out.add hb9 hh9
            have hSz : wn43.cell? ⟨w.heap.size, 0, none⟩ = some (.slice ad l.length c) := below_cell hb9 hS
            go_simp
            refine hK'.out _ _ hSz (fun hHeld => ?_)
            clear hK' K' hX hmk hb9 hh9 hS
            have hS := hSz
            have hX : Hid (Mk l.length W0 wn43 [wn42.heap.size, wn39.heap.size, wn33.heap.size, W0.heap.size]) := hY
            clear hY hSz
            refine take_at (i := 9) (n := 23) (v := ?_) rfl rfl (by kernel_rfl) (by kernel_rfl) (by kernel_rfl) (fun _ _ _ h => h) (Or.inl ⟨by rfl, ?_⟩) (by assumption) ?_
            rotate_left 1
            · intro wz hSw
              first | (go_simp; done) | (go_simp; with_reducible rfl)
            simp only [List.set_cons_zero, List.set_cons_succ]
            have hY : Hid (NewL w (wn43.alloc (.cells #[.slice ad l.length c, .slice (some ⟨wn42.heap.size, 0, none⟩) l.length l.length, .slice (some ⟨wn33.heap.size, 0, none⟩) l.length l.length, .slice (some ⟨W0.heap.size, 0, none⟩) l.length l.length, .slice (some ⟨wn39.heap.size, 0, none⟩) l.length l.length, .slice none 0 0] 127)) l.length (.slice ad l.length c) (.func (.func f) #[] #[]) wn43.heap.size wn42.heap.size wn33.heap.size W0.heap.size wn39.heap.size (runCells l.length []) (runCells l.length []) (runCells l.length []) (runCells l.length [])) := by
              have hn := hX.out.nd
              simp only [List.nodup_cons, List.mem_cons, List.not_mem_nil, or_false, not_or, not_false_eq_true, List.nodup_nil, and_true] at hn
              exact hX.out.fin HW0.out (by simp) (by simp) (by simp) (by simp) ⟨by omega, by omega, by omega, by omega, by omega, by omega⟩
            have hSy : (wn43.alloc (.cells #[.slice ad l.length c, .slice (some ⟨wn42.heap.size, 0, none⟩) l.length l.length, .slice (some ⟨wn33.heap.size, 0, none⟩) l.length l.length, .slice (some ⟨W0.heap.size, 0, none⟩) l.length l.length, .slice (some ⟨wn39.heap.size, 0, none⟩) l.length l.length, .slice none 0 0] 127)).cell? ⟨w.heap.size, 0, none⟩ = some (.slice ad l.length c) := (cells_of (l := [_]) hY.out.jbox).1 0 _ rfl
            refine wpAnyH_ready (rs := [10]) (by kernel_rfl) (by simp) ?_
            refine AllReadyH.cons rfl (fun K' hK' => ?_) AllReadyH.nil
            go_simp
            refine hK'.out _ _ hSy (fun hHeld => ?_)
            clear hK' K'
            refine take_at (i := 11) (n := 6) (v := ?_) rfl rfl (by kernel_rfl) (by kernel_rfl) (by kernel_rfl) (fun _ _ _ h => h) (Or.inl ⟨by rfl, ?_⟩) (by assumption) ?_
            rotate_left 1
            · intro wz hSw
              first | (go_simp; done) | (go_simp; with_reducible rfl)
            simp only [List.set_cons_zero, List.set_cons_succ]
            refine wpAnyH_done (by kernel_rfl) ?_ _
            refine NoPanic.normal ?_
            go_wp2_with fail
            go_meet
            case rel =>
              exact ⟨_, _, _, _, _, rfl, hY.out⟩
      · skip
        obtain ⟨wn44, hmk, hb9, hh9⟩ := make_ints wn33 l.length (by omega)
        have hY := hX.out.add hb9 hh9
        have hSz : wn44.cell? ⟨w.heap.size, 0, none⟩ = some (.slice ad l.length c) := below_cell hb9 hS
        go_simp
        refine hK'.out _ _ hSz (fun hHeld => ?_)
        clear hK' K' hX hmk hb9 hh9 hS
        have hS := hSz
        have hX : Hid (Mk l.length W0 wn44 [wn33.heap.size, W0.heap.size]) := hY
        clear hY hSz
        refine wpAnyH_ready (rs := [2, 4]) (by kernel_rfl) (by simp) ?_
        refine AllReadyH.cons rfl (fun K' hK' => ?_) (AllReadyH.cons rfl (fun K' hK' => ?_) AllReadyH.nil)
        · skip
          obtain ⟨wn45, hmk, hb9, hh9⟩ := make_ints wn44 l.length (by omega)
          have hY := hX.out.add hb9 hh9
          have hSz : wn45.cell? ⟨w.heap.size, 0, none⟩ = some (.slice ad l.length c) := below_cell hb9 hS
          go_simp
          refine hK'.out _ _ hSz (fun hHeld => ?_)
          clear hK' K' hX hmk hb9 hh9 hS
          have hS := hSz
          have hX : Hid (Mk l.length W0 wn45 [wn44.heap.size, wn33.heap.size, W0.heap.size]) := hY
          clear hY hSz
          refine wpAnyH_ready (rs := [4]) (by kernel_rfl) (by simp) ?_
          refine AllReadyH.cons rfl (fun K' hK' => ?_) AllReadyH.nil
          · skip
            obtain ⟨wn46, hmk, hb9, hh9⟩ := make_ints wn45 l.length (by omega)
            have hY := hX.out.add hb9 hh9
            have hSz : wn46.cell? ⟨w.heap.size, 0, none⟩ = some (.slice ad l.length c) := below_cell hb9 hS
            go_simp
            refine hK'.out _ _ hSz (fun hHeld => ?_)
            clear hK' K' hX hmk hb9 hh9 hS
            have hS := hSz
            have hX : Hid (Mk l.length W0 wn46 [wn45.heap.size, wn44.heap.size, wn33.heap.size, W0.heap.size]) := hY
            clear hY hSz
            refine take_at (i := 9) (n := 23) (v := ?_) rfl rfl (by kernel_rfl) (by kernel_rfl) (by kernel_rfl) (fun _ _ _ h => h) (Or.inl ⟨by rfl, ?_⟩) (by assumption) ?_
            rotate_left 1
            · intro wz hSw
              first | (go_simp; done) | (go_simp; with_reducible rfl)
            simp only [List.set_cons_zero, List.set_cons_succ]
            have hY : Hid (NewL w (wn46.alloc (.cells #[.slice ad l.length c, .slice (some ⟨wn44.heap.size, 0, none⟩) l.length l.length, .slice (some ⟨wn45.heap.size, 0, none⟩) l.length l.length, .slice (some ⟨W0.heap.size, 0, none⟩) l.length l.length, .slice (some ⟨wn33.heap.size, 0, none⟩) l.length l.length, .slice none 0 0] 127)) l.length (.slice ad l.length c) (.func (.func f) #[] #[]) wn46.heap.size wn44.heap.size wn45.heap.size W0.heap.size wn33.heap.size (runCells l.length []) (runCells l.length []) (runCells l.length []) (runCells l.length [])) := by
              have hn := hX.out.nd
              simp only [List.nodup_cons, List.mem_cons, List.not_mem_nil, or_false, not_or, not_false_eq_true, List.nodup_nil, and_true] at hn
              exact hX.out.fin HW0.out (by simp) (by simp) (by simp) (by simp) ⟨by omega, by omega, by omega, by omega, by omega, by omega⟩
            have hSy : (wn46.alloc (.cells #[.slice ad l.length c, .slice (some ⟨wn44.heap.size, 0, none⟩) l.length l.length, .slice (some ⟨wn45.heap.size, 0, none⟩) l.length l.length, .slice (some ⟨W0.heap.size, 0, none⟩) l.length l.length, .slice (some ⟨wn33.heap.size, 0, none⟩) l.length l.length, .slice none 0 0] 127)).cell? ⟨w.heap.size, 0, none⟩ = some (.slice ad l.length c) := (cells_of (l := [_]) hY.out.jbox).1 0 _ rfl
            refine wpAnyH_ready (rs := [10]) (by kernel_rfl) (by simp) ?_
            refine AllReadyH.cons rfl (fun K' hK' => ?_) AllReadyH.nil
            go_simp
            refine hK'.out _ _ hSy (fun hHeld => ?_)
            clear hK' K'
            refine take_at (i := 11) (n := 6) (v := ?_) rfl rfl (by kernel_rfl) (by kernel_rfl) (by kernel_rfl) (fun _ _ _ h => h) (Or.inl ⟨by rfl, ?_⟩) (by assumption) ?_
            rotate_left 1
            · intro wz hSw
              first | (go_simp; done) | (go_simp; with_reducible rfl)
            simp only [List.set_cons_zero, List.set_cons_succ]
            refine wpAnyH_done (by kernel_rfl) ?_ _
            refine NoPanic.normal ?_
            go_wp2_with fail
            go_meet
            case rel =>
              exact ⟨_, _, _, _, _, rfl, hY.out⟩
        · skip
          obtain ⟨wn47, hmk, hb9, hh9⟩ := make_ints wn44 l.length (by omega)
          have hY := hX.out.add hb9 hh9
          have hSz : wn47.cell? ⟨w.heap.size, 0, none⟩ = some (.slice ad l.length c) := below_cell hb9 hS
          go_simp
          refine hK'.out _ _ hSz (fun hHeld => ?_)
          clear hK' K' hX hmk hb9 hh9 hS
          have hS := hSz
          have hX : Hid (Mk l.length W0 wn47 [wn44.heap.size, wn33.heap.size, W0.heap.size]) := hY
          clear hY hSz
          refine wpAnyH_ready (rs := [2]) (by kernel_rfl) (by simp) ?_
          refine AllReadyH.cons rfl (fun K' hK' => ?_) AllReadyH.nil
          · skip
            obtain ⟨wn48, hmk, hb9, hh9⟩ := make_ints wn47 l.length (by omega)
            have hY := hX.out.add hb9 hh9
            have hSz : wn48.cell? ⟨w.heap.size, 0, none⟩ = some (.slice ad l.length c) := below_cell hb9 hS
            go_simp
            refine hK'.out _ _ hSz (fun hHeld => ?_)
            clear hK' K' hX hmk hb9 hh9 hS
            have hS := hSz
            have hX : Hid (Mk l.length W0 wn48 [wn47.heap.size, wn44.heap.size, wn33.heap.size, W0.heap.size]) := hY
            clear hY hSz
            refine take_at (i := 9) (n := 23) (v := ?_) rfl rfl (by kernel_rfl) (by kernel_rfl) (by kernel_rfl) (fun _ _ _ h => h) (Or.inl ⟨by rfl, ?_⟩) (by assumption) ?_
            rotate_left 1
            · intro wz hSw
              first | (go_simp; done) | (go_simp; with_reducible rfl)
            simp only [List.set_cons_zero, List.set_cons_succ]
            have hY : Hid (NewL w (wn48.alloc (.cells #[.slice ad l.length c, .slice (some ⟨wn47.heap.size, 0, none⟩) l.length l.length, .slice (some ⟨wn44.heap.size, 0, none⟩) l.length l.length, .slice (some ⟨W0.heap.size, 0, none⟩) l.length l.length, .slice (some ⟨wn33.heap.size, 0, none⟩) l.length l.length, .slice none 0 0] 127)) l.length (.slice ad l.length c) (.func (.func f) #[] #[]) wn48.heap.size wn47.heap.size wn44.heap.size W0.heap.size wn33.heap.size (runCells l.length []) (runCells l.length []) (runCells l.length []) (runCells l.length [])) := by
              have hn := hX.out.nd
              simp only [List.nodup_cons, List.mem_cons, List.not_mem_nil, or_false, not_or, not_false_eq_true, List.nodup_nil, and_true] at hn
              exact hX.out.fin HW0.out (by simp) (by simp) (by simp) (by simp) ⟨by omega, by omega, by omega, by omega, by omega, by omega⟩
            have hSy : (wn48.alloc (.cells #[.slice ad l.length c, .slice (some ⟨wn47.heap.size, 0, none⟩) l.length l.length, .slice (some ⟨wn44.heap.size, 0, none⟩) l.length l.length, .slice (some ⟨W0.heap.size, 0, none⟩) l.length l.length, .slice (some ⟨wn33.heap.size, 0, none⟩) l.length l.length, .slice none 0 0] 127)).cell? ⟨w.heap.size, 0, none⟩ = some (.slice ad l.length c) := (cells_of (l := [_]) hY.out.jbox).1 0 _ rfl
            refine wpAnyH_ready (rs := [10]) (by kernel_rfl) (by simp) ?_
            refine AllReadyH.cons rfl (fun K' hK' => ?_) AllReadyH.nil
            go_simp
            refine hK'.out _ _ hSy (fun hHeld => ?_)
            clear hK' K'
            refine take_at (i := 11) (n := 6) (v := ?_) rfl rfl (by kernel_rfl) (by kernel_rfl) (by kernel_rfl) (fun _ _ _ h => h) (Or.inl ⟨by rfl, ?_⟩) (by assumption) ?_
            rotate_left 1
            · intro wz hSw
              first | (go_simp; done) | (go_simp; with_reducible rfl)
            simp only [List.set_cons_zero, List.set_cons_succ]
            refine wpAnyH_done (by kernel_rfl) ?_ _
            refine NoPanic.normal ?_
            go_wp2_with fail
            go_meet
            case rel =>
              exact ⟨_, _, _, _, _, rfl, hY.out⟩
    · skip
      obtain ⟨wn49, hmk, hb9, hh9⟩ := make_ints W0 l.length (by omega)
      have hY := hX.out.add hb9 hh9
      have hSz : wn49.cell? ⟨w.heap.size, 0, none⟩ = some (.slice ad l.length c) := below_cell hb9 hS
      go_simp
      refine hK'.out _ _ hSz (fun hHeld => ?_)
      clear hK' K' hX hmk hb9 hh9 hS
      have hS := hSz
      have hX : Hid (Mk l.length W0 wn49 [W0.heap.size]) := hY
      clear hY hSz
      refine wpAnyH_ready (rs := [2, 4, 6]) (by kernel_rfl) (by simp) ?_
      refine AllReadyH.cons rfl (fun K' hK' => ?_) (AllReadyH.cons rfl (fun K' hK' => ?_) (AllReadyH.cons rfl (fun K' hK' => ?_) AllReadyH.nil))
      · skip
        obtain ⟨wn50, hmk, hb9, hh9⟩ := make_ints wn49 l.length (by omega)
        have hY := hX.out.add hb9 hh9
        have hSz : wn50.cell? ⟨w.heap.size, 0, none⟩ = some (.slice ad l.length c) := below_cell hb9 hS
        go_simp
        refine hK'.out _ _ hSz (fun hHeld => ?_)
        clear hK' K' hX hmk hb9 hh9 hS
        have hS := hSz
        have hX : Hid (Mk l.length W0 wn50 [wn49.heap.size, W0.heap.size]) := hY
        clear hY hSz
        refine wpAnyH_ready (rs := [4, 6]) (by kernel_rfl) (by simp) ?_
        refine AllReadyH.cons rfl (fun K' hK' => ?_) (AllReadyH.cons rfl (fun K' hK' => ?_) AllReadyH.nil)
        · skip
          obtain ⟨wn51, hmk, hb9, hh9⟩ := make_ints wn50 l.length (by omega)
          have hY := hX.out.add hb9 hh9
          have hSz : wn51.cell? ⟨w.heap.size, 0, none⟩ = some (.slice ad l.length c) := below_cell hb9 hS
          go_simp
          refine hK'.out _ _ hSz (fun hHeld => ?_)
          clear hK' K' hX hmk hb9 hh9 hS
          have hS := hSz
          have hX : Hid (Mk l.length W0 wn51 [wn50.heap.size, wn49.heap.size, W0.heap.size]) := hY
          clear hY hSz
          refine wpAnyH_ready (rs := [6]) (by kernel_rfl) (by simp) ?_
          refine AllReadyH.cons rfl (fun K' hK' => ?_) AllReadyH.nil
          · skip
            obtain ⟨wn52, hmk, hb9, hh9⟩ := make_ints wn51 l.length (by omega)
            have hY := hX.out.add hb9 hh9
            have hSz : wn52.cell? ⟨w.heap.size, 0, none⟩ = some (.slice ad l.length c) := below_cell hb9 hS
            go_simp
            refine hK'.out _ _ hSz (fun hHeld => ?_)
            clear hK' K' hX hmk hb9 hh9 hS
            have hS := hSz
            have hX : Hid (Mk l.length W0 wn52 [wn51.heap.size, wn50.heap.size, wn49.heap.size, W0.heap.size]) := hY
            clear hY hSz
            refine take_at (i := 9) (n := 23) (v := ?_) rfl rfl (by kernel_rfl) (by kernel_rfl) (by kernel_rfl) (fun _ _ _ h => h) (Or.inl ⟨by rfl, ?_⟩) (by assumption) ?_
            rotate_left 1
            · intro wz hSw
              first | (go_simp; done) | (go_simp; with_reducible rfl)
            simp only [List.set_cons_zero, List.set_cons_succ]
            have hY : Hid (NewL w (wn52.alloc (.cells #[.slice ad l.length c, .slice (some ⟨wn49.heap.size, 0, none⟩) l.length l.length, .slice (some ⟨wn50.heap.size, 0, none⟩) l.length l.length, .slice (some ⟨wn51.heap.size, 0, none⟩) l.length l.length, .slice (some ⟨W0.heap.size, 0, none⟩) l.length l.length, .slice none 0 0] 127)) l.length (.slice ad l.length c) (.func (.func f) #[] #[]) wn52.heap.size wn49.heap.size wn50.heap.size wn51.heap.size W0.heap.size (runCells l.length []) (runCells l.length []) (runCells l.length []) (runCells l.length [])) := by
              have hn := hX.out.nd
              simp only [List.nodup_cons, List.mem_cons, List.not_mem_nil, or_false, not_or, not_false_eq_true, List.nodup_nil, and_true] at hn
              exact hX.out.fin HW0.out (by simp) (by simp) (by simp) (by simp) ⟨by omega, by omega, by omega, by omega, by omega, by omega⟩
            have hSy : (wn52.alloc (.cells #[.slice ad l.length c, .slice (some ⟨wn49.heap.size, 0, none⟩) l.length l.length, .slice (some ⟨wn50.heap.size, 0, none⟩) l.length l.length, .slice (some ⟨wn51.heap.size, 0, none⟩) l.length l.length, .slice (some ⟨W0.heap.size, 0, none⟩) l.length l.length, .slice none 0 0] 127)).cell? ⟨w.heap.size, 0, none⟩ = some (.slice ad l.length c) := (cells_of (l := [_]) hY.out.jbox).1 0 _ rfl
            refine wpAnyH_ready (rs := [10]) (by kernel_rfl) (by simp) ?_
            refine AllReadyH.cons rfl (fun K' hK' => ?_) AllReadyH.nil
            go_simp
            refine hK'.out _ _ hSy (fun hHeld => ?_)
            clear hK' K'
            refine take_at (i := 11) (n := 6) (v := ?_) rfl rfl (by kernel_rfl) (by kernel_rfl) (by kernel_rfl) (fun _ _ _ h => h) (Or.inl ⟨by rfl, ?_⟩) (by assumption) ?_
            rotate_left 1
            · intro wz hSw
              first | (go_simp; done) | (go_simp; with_reducible rfl)
            simp only [List.set_cons_zero, List.set_cons_succ]
            refine wpAnyH_done (by kernel_rfl) ?_ _
            refine NoPanic.normal ?_
            go_wp2_with fail
            go_meet
            case rel =>
              exact ⟨_, _, _, _, _, rfl, hY.out⟩
        · skip
          obtain ⟨wn53, hmk, hb9, hh9⟩ := make_ints wn50 l.length (by omega)
          have hY := hX.out.add hb9 hh9
          have hSz : wn53.cell? ⟨w.heap.size, 0, none⟩ = some (.slice ad l.length c) := below_cell hb9 hS
          go_simp
          refine hK'.out _ _ hSz (fun hHeld => ?_)
          clear hK' K' hX hmk hb9 hh9 hS
          have hS := hSz
          have hX : Hid (Mk l.length W0 wn53 [wn50.heap.size, wn49.heap.size, W0.heap.size]) := hY
          clear hY hSz
          refine wpAnyH_ready (rs := [4]) (by kernel_rfl) (by simp) ?_
          refine AllReadyH.cons rfl (fun K' hK' => ?_) AllReadyH.nil
          · skip
            obtain ⟨wn54, hmk, hb9, hh9⟩ := make_ints wn53 l.length (by omega)
            have hY := hX.out.add hb9 hh9
            have hSz : wn54.cell? ⟨w.heap.size, 0, none⟩ = some (.slice ad l.length c) := below_cell hb9 hS
            go_simp
            refine hK'.out _ _ hSz (fun hHeld => ?_)
            clear hK' K' hX hmk hb9 hh9 hS
            have hS := hSz
            have hX : Hid (Mk l.length W0 wn54 [wn53.heap.size, wn50.heap.size, wn49.heap.size, W0.heap.size]) := hY
            clear hY hSz
            refine take_at (i := 9) (n := 23) (v := ?_) rfl rfl (by kernel_rfl) (by kernel_rfl) (by kernel_rfl) (fun _ _ _ h => h) (Or.inl ⟨by rfl, ?_⟩) (by assumption) ?_
            rotate_left 1
            · intro wz hSw
              first | (go_simp; done) | (go_simp; with_reducible rfl)
            simp only [List.set_cons_zero, List.set_cons_succ]
            have hY : Hid (NewL w (wn54.alloc (.cells #[.slice ad l.length c, .slice (some ⟨wn49.heap.size, 0, none⟩) l.length l.length, .slice (some ⟨wn53.heap.size, 0, none⟩) l.length l.length, .slice (some ⟨wn50.heap.size, 0, none⟩) l.length l.length, .slice (some ⟨W0.heap.size, 0, none⟩) l.length l.length, .slice none 0 0] 127)) l.length (.slice ad l.length c) (.func (.func f) #[] #[]) wn54.heap.size wn49.heap.size wn53.heap.size wn50.heap.size W0.heap.size (runCells l.length []) (runCells l.length []) (runCells l.length []) (runCells l.length [])) := by
              have hn := hX.out.nd
              simp only [List.nodup_cons, List.mem_cons, List.not_mem_nil, or_false, not_or, not_false_eq_true, List.nodup_nil, and_true] at hn
              exact hX.out.fin HW0.out (by simp) (by simp) (by simp) (by simp) ⟨by omega, by omega, by omega, by omega, by omega, by omega⟩
            have hSy : (wn54.alloc (.cells #[.slice ad l.length c, .slice (some ⟨wn49.heap.size, 0, none⟩) l.length l.length, .slice (some ⟨wn53.heap.size, 0, none⟩) l.length l.length, .slice (some ⟨wn50.heap.size, 0, none⟩) l.length l.length, .slice (some ⟨W0.heap.size, 0, none⟩) l.length l.length, .slice none 0 0] 127)).cell? ⟨w.heap.size, 0, none⟩ = some (.slice ad l.length c) := (cells_of (l := [_]) hY.out.jbox).1 0 _ rfl
            refine wpAnyH_ready (rs := [10]) (by kernel_rfl) (by simp) ?_
            refine AllReadyH.cons rfl (fun K' hK' => ?_) AllReadyH.nil
            go_simp
            refine hK'.out _ _ hSy (fun hHeld => ?_)
            clear hK' K'
            refine take_at (i := 11) (n := 6) (v := ?_) rfl rfl (by kernel_rfl) (by kernel_rfl) (by kernel_rfl) (fun _ _ _ h => h) (Or.inl ⟨by rfl, ?_⟩) (by assumption) ?_
            rotate_left 1
            · intro wz hSw
              first | (go_simp; done) | (go_simp; with_reducible rfl)
            simp only [List.set_cons_zero, List.set_cons_succ]
            refine wpAnyH_done (by kernel_rfl) ?_ _
            refine NoPanic.normal ?_
            go_wp2_with fail
            go_meet
            case rel =>
              exact ⟨_, _, _, _, _, rfl, hY.out⟩
      · skip
        obtain ⟨wn55, hmk, hb9, hh9⟩ := make_ints wn49 l.length (by omega)
        have hY := hX.out.add hb9 hh9
        have hSz : wn55.cell? ⟨w.heap.size, 0, none⟩ = some (.slice ad l.length c) := below_cell hb9 hS
        go_simp
        refine hK'.out _ _ hSz (fun hHeld => ?_)
        clear hK' K' hX hmk hb9 hh9 hS
        have hS := hSz
        have hX : Hid (Mk l.length W0 wn55 [wn49.heap.size, W0.heap.size]) := hY
        clear hY hSz
        refine wpAnyH_ready (rs := [2, 6]) (by kernel_rfl) (by simp) ?_
        refine AllReadyH.cons rfl (fun K' hK' => ?_) (AllReadyH.cons rfl (fun K' hK' => ?_) AllReadyH.nil)
        · skip
          obtain ⟨wn56, hmk, hb9, hh9⟩ := make_ints wn55 l.length (by omega)
          have hY := hX.out.add hb9 hh9
          have hSz : wn56.cell? ⟨w.heap.size, 0, none⟩ = some (.slice ad l.length c) := below_cell hb9 hS
          go_simp
          refine hK'.out _ _ hSz (fun hHeld => ?_)
          clear hK' K' hX hmk hb9 hh9 hS
          have hS := hSz
          have hX : Hid (Mk l.length W0 wn56 [wn55.heap.size, wn49.heap.size, W0.heap.size]) := hY
          clear hY hSz
          refine wpAnyH_ready (rs := [6]) (by kernel_rfl) (by simp) ?_
          refine AllReadyH.cons rfl (fun K' hK' => ?_) AllReadyH.nil
          · skip
            obtain ⟨wn57, hmk, hb9, hh9⟩ := make_ints wn56 l.length (by omega)
            have hY := hX.out.add hb9 hh9
            have hSz : wn57.cell? ⟨w.heap.size, 0, none⟩ = some (.slice ad l.length c) := below_cell hb9 hS
            go_simp
            refine hK'.out _ _ hSz (fun hHeld => ?_)
            clear hK' K' hX hmk hb9 hh9 hS
            have hS := hSz
            have hX : Hid (Mk l.length W0 wn57 [wn56.heap.size, wn55.heap.size, wn49.heap.size, W0.heap.size]) := hY
            clear hY hSz
            refine take_at (i := 9) (n := 23) (v := ?_) rfl rfl (by kernel_rfl) (by kernel_rfl) (by kernel_rfl) (fun _ _ _ h => h) (Or.inl ⟨by rfl, ?_⟩) (by assumption) ?_
            rotate_left 1
            · intro wz hSw
              first | (go_simp; done) | (go_simp; with_reducible rfl)
            simp only [List.set_cons_zero, List.set_cons_succ]
            have hY : Hid (NewL w (wn57.alloc (.cells #[.slice ad l.length c, .slice (some ⟨wn55.heap.size, 0, none⟩) l.length l.length, .slice (some ⟨wn49.heap.size, 0, none⟩) l.length l.length, .slice (some ⟨wn56.heap.size, 0, none⟩) l.length l.length, .slice (some ⟨W0.heap.size, 0, none⟩) l.length l.length, .slice none 0 0] 127)) l.length (.slice ad l.length c) (.func (.func f) #[] #[]) wn57.heap.size wn55.heap.size wn49.heap.size wn56.heap.size W0.heap.size (runCells l.length []) (runCells l.length []) (runCells l.length []) (runCells l.length [])) := by
              have hn := hX.out.nd
              simp only [List.nodup_cons, List.mem_cons, List.not_mem_nil, or_false, not_or, not_false_eq_true, List.nodup_nil, and_true] at hn
              exact hX.out.fin HW0.out (by simp) (by simp) (by simp) (by simp) ⟨by omega, by omega, by omega, by omega, by omega, by omega⟩
            have hSy : (wn57.alloc (.cells #[.slice ad l.length c, .slice (some ⟨wn55.heap.size, 0, none⟩) l.length l.length, .slice (some ⟨wn49.heap.size, 0, none⟩) l.length l.length, .slice (some ⟨wn56.heap.size, 0, none⟩) l.length l.length, .slice (some ⟨W0.heap.size, 0, none⟩) l.length l.length, .slice none 0 0] 127)).cell? ⟨w.heap.size, 0, none⟩ = some (.slice ad l.length c) := (cells_of (l := [_]) hY.out.jbox).1 0 _ rfl
            refine wpAnyH_ready (rs := [10]) (by kernel_rfl) (by simp) ?_
            refine AllReadyH.cons rfl (fun K' hK' => ?_) AllReadyH.nil
            go_simp
            refine hK'.out _ _ hSy (fun hHeld => ?_)
            clear hK' K'
            refine take_at (i := 11) (n := 6) (v := ?_) rfl rfl (by kernel_rfl) (by kernel_rfl) (by kernel_rfl) (fun _ _ _ h => h) (Or.inl ⟨by rfl, ?_⟩) (by assumption) ?_
            rotate_left 1
            · intro wz hSw
              first | (go_simp; done) | (go_simp; with_reducible rfl)
            simp only [List.set_cons_zero, List.set_cons_succ]
            refine wpAnyH_done (by kernel_rfl) ?_ _
            refine NoPanic.normal ?_
            go_wp2_with fail
            go_meet
            case rel =>
              exact ⟨_, _, _, _, _, rfl, hY.out⟩
        · skip
          obtain ⟨wn58, hmk, hb9, hh9⟩ := make_ints wn55 l.length (by omega)
          have hY := hX.out.add hb9 hh9
          have hSz : wn58.cell? ⟨w.heap.size, 0, none⟩ = some (.slice ad l.length c) := below_cell hb9 hS
          go_simp
          refine hK'.out _ _ hSz (fun hHeld => ?_)
          clear hK' K' hX hmk hb9 hh9 hS
          have hS := hSz
          have hX : Hid (Mk l.length W0 wn58 [wn55.heap.size, wn49.heap.size, W0.heap.size]) := hY
          clear hY hSz
          refine wpAnyH_ready (rs := [2]) (by kernel_rfl) (by simp) ?_
          refine AllReadyH.cons rfl (fun K' hK' => ?_) AllReadyH.nil
          · skip
            obtain ⟨wn59, hmk, hb9, hh9⟩ := make_ints wn58 l.length (by omega)
            have hY := hX.out.add hb9 hh9
            have hSz : wn59.cell? ⟨w.heap.size, 0, none⟩ = some (.slice ad l.length c) := below_cell hb9 hS
            go_simp
            refine hK'.out _ _ hSz (fun hHeld => ?_)
            clear hK' K' hX hmk hb9 hh9 hS
            have hS := hSz
            have hX : Hid (Mk l.length W0 wn59 [wn58.heap.size, wn55.heap.size, wn49.heap.size, W0.heap.size]) := hY
            clear hY hSz
            refine take_at (i := 9) (n := 23) (v := ?_) rfl rfl (by kernel_rfl) (by kernel_rfl) (by kernel_rfl) (fun _ _ _ h => h) (Or.inl ⟨by rfl, ?_⟩) (by assumption) ?_
            rotate_left 1
            · intro wz hSw
              first | (go_simp; done) | (go_simp; with_reducible rfl)
            simp only [List.set_cons_zero, List.set_cons_succ]
            have hY : Hid (NewL w (wn59.alloc (.cells #[.slice ad l.length c, .slice (some ⟨wn58.heap.size, 0, none⟩) l.length l.length, .slice (some ⟨wn49.heap.size, 0, none⟩) l.length l.length, .slice (some ⟨wn55.heap.size, 0, none⟩) l.length l.length, .slice (some ⟨W0.heap.size, 0, none⟩) l.length l.length, .slice none 0 0] 127)) l.length (.slice ad l.length c) (.func (.func f) #[] #[]) wn59.heap.size wn58.heap.size wn49.heap.size wn55.heap.size W0.heap.size (runCells l.length []) (runCells l.length []) (runCells l.length []) (runCells l.length [])) := by
              have hn := hX.out.nd
              simp only [List.nodup_cons, List.mem_cons, List.not_mem_nil, or_false, not_or, not_false_eq_true, List.nodup_nil, and_true] at hn
              exact hX.out.fin HW0.out (by simp) (by simp) (by simp) (by simp) ⟨by omega, by omega, by omega, by omega, by omega, by omega⟩
            have hSy : (wn59.alloc (.cells #[.slice ad l.length c, .slice (some ⟨wn58.heap.size, 0, none⟩) l.length l.length, .slice (some ⟨wn49.heap.size, 0, none⟩) l.length l.length, .slice (some ⟨wn55.heap.size, 0, none⟩) l.length l.length, .slice (some ⟨W0.heap.size, 0, none⟩) l.length l.length, .slice none 0 0] 127)).cell? ⟨w.heap.size, 0, none⟩ = some (.slice ad l.length c) := (cells_of (l := [_]) hY.out.jbox).1 0 _ rfl
            refine wpAnyH_ready (rs := [10]) (by kernel_rfl) (by simp) ?_
            refine AllReadyH.cons rfl (fun K' hK' => ?_) AllReadyH.nil
            go_simp
            refine hK'.out _ _ hSy (fun hHeld => ?_)
            clear hK' K'
            refine take_at (i := 11) (n := 6) (v := ?_) rfl rfl (by kernel_rfl) (by kernel_rfl) (by kernel_rfl) (fun _ _ _ h => h) (Or.inl ⟨by rfl, ?_⟩) (by assumption) ?_
            rotate_left 1
            · intro wz hSw
              first | (go_simp; done) | (go_simp; with_reducible rfl)
            simp only [List.set_cons_zero, List.set_cons_succ]
            refine wpAnyH_done (by kernel_rfl) ?_ _
            refine NoPanic.normal ?_
            go_wp2_with fail
            go_meet
            case rel =>
              exact ⟨_, _, _, _, _, rfl, hY.out⟩
      · skip
        obtain ⟨wn60, hmk, hb9, hh9⟩ := make_ints wn49 l.length (by omega)
        have hY := hX.out.add hb9 hh9
        have hSz : wn60.cell? ⟨w.heap.size, 0, none⟩ = some (.slice ad l.length c) := below_cell hb9 hS
        go_simp
        refine hK'.out _ _ hSz (fun hHeld => ?_)
        clear hK' K' hX hmk hb9 hh9 hS
        have hS := hSz
        have hX : Hid (Mk l.length W0 wn60 [wn49.heap.size, W0.heap.size]) := hY
        clear hY hSz
        refine wpAnyH_ready (rs := [2, 4]) (by kernel_rfl) (by simp) ?_
        refine AllReadyH.cons rfl (fun K' hK' => ?_) (AllReadyH.cons rfl (fun K' hK' => ?_) AllReadyH.nil)
        · skip
          obtain ⟨wn61, hmk, hb9, hh9⟩ := make_ints wn60 l.length (by omega)
          have hY := hX.out.add hb9 hh9
          have hSz : wn61.cell? ⟨w.heap.size, 0, none⟩ = some (.slice ad l.length c) := below_cell hb9 hS
          go_simp
          refine hK'.out _ _ hSz (fun hHeld => ?_)
          clear hK' K' hX hmk hb9 hh9 hS
          have hS := hSz
          have hX : Hid (Mk l.length W0 wn61 [wn60.heap.size, wn49.heap.size, W0.heap.size]) := hY
          clear hY hSz
          refine wpAnyH_ready (rs := [4]) (by kernel_rfl) (by simp) ?_
          refine AllReadyH.cons rfl (fun K' hK' => ?_) AllReadyH.nil
          · skip
            obtain ⟨wn62, hmk, hb9, hh9⟩ := make_ints wn61 l.length (by omega)
            have hY := hX.out.add hb9 hh9
            have hSz : wn62.cell? ⟨w.heap.size, 0, none⟩ = some (.slice ad l.length c) := below_cell hb9 hS
            go_simp
            refine hK'.out _ _ hSz (fun hHeld => ?_)
            clear hK' K' hX hmk hb9 hh9 hS
            have hS := hSz
            have hX : Hid (Mk l.length W0 wn62 [wn61.heap.size, wn60.heap.size, wn49.heap.size, W0.heap.size]) := hY
            clear hY hSz
            refine take_at (i := 9) (n := 23) (v := ?_) rfl rfl (by kernel_rfl) (by kernel_rfl) (by kernel_rfl) (fun _ _ _ h => h) (Or.inl ⟨by rfl, ?_⟩) (by assumption) ?_
            rotate_left 1
            · intro wz hSw
              first | (go_simp; done) | (go_simp; with_reducible rfl)
            simp only [List.set_cons_zero, List.set_cons_succ]
            have hY : Hid (NewL w (wn62.alloc (.cells #[.slice ad l.length c, .slice (some ⟨wn60.heap.size, 0, none⟩) l.length l.length, .slice (some ⟨wn61.heap.size, 0, none⟩) l.length l.length, .slice (some ⟨wn49.heap.size, 0, none⟩) l.length l.length, .slice (some ⟨W0.heap.size, 0, none⟩) l.length l.length, .slice none 0 0] 127)) l.length (.slice ad l.length c) (.func (.func f) #[] #[]) wn62.heap.size wn60.heap.size wn61.heap.size wn49.heap.size W0.heap.size (runCells l.length []) (runCells l.length []) (runCells l.length []) (runCells l.length [])) := by
              have hn := hX.out.nd
              simp only [List.nodup_cons, List.mem_cons, List.not_mem_nil, or_false, not_or, not_false_eq_true, List.nodup_nil, and_true] at hn
              exact hX.out.fin HW0.out (by simp) (by simp) (by simp) (by simp) ⟨by omega, by omega, by omega, by omega, by omega, by omega⟩
            have hSy : (wn62.alloc (.cells #[.slice ad l.length c, .slice (some ⟨wn60.heap.size, 0, none⟩) l.length l.length, .slice (some ⟨wn61.heap.size, 0, none⟩) l.length l.length, .slice (some ⟨wn49.heap.size, 0, none⟩) l.length l.length, .slice (some ⟨W0.heap.size, 0, none⟩) l.length l.length, .slice none 0 0] 127)).cell? ⟨w.heap.size, 0, none⟩ = some (.slice ad l.length c) := (cells_of (l := [_]) hY.out.jbox).1 0 _ rfl
            refine wpAnyH_ready (rs := [10]) (by kernel_rfl) (by simp) ?_
            refine AllReadyH.cons rfl (fun K' hK' => ?_) AllReadyH.nil
            go_simp
            refine hK'.out _ _ hSy (fun hHeld => ?_)
            clear hK' K'
            refine take_at (i := 11) (n := 6) (v := ?_) rfl rfl (by kernel_rfl) (by kernel_rfl) (by kernel_rfl) (fun _ _ _ h => h) (Or.inl ⟨by rfl, ?_⟩) (by assumption) ?_
            rotate_left 1
            · intro wz hSw
              first | (go_simp; done) | (go_simp; with_reducible rfl)
            simp only [List.set_cons_zero, List.set_cons_succ]
            refine wpAnyH_done (by kernel_rfl) ?_ _
            refine NoPanic.normal ?_
            go_wp2_with fail
            go_meet
            case rel =>
              exact ⟨_, _, _, _, _, rfl, hY.out⟩
        · skip
          obtain ⟨wn63, hmk, hb9, hh9⟩ := make_ints wn60 l.length (by omega)
          have hY := hX.out.add hb9 hh9
          have hSz : wn63.cell? ⟨w.heap.size, 0, none⟩ = some (.slice ad l.length c) := below_cell hb9 hS
          go_simp
          refine hK'.out _ _ hSz (fun hHeld => ?_)
          clear hK' K' hX hmk hb9 hh9 hS
          have hS := hSz
          have hX : Hid (Mk l.length W0 wn63 [wn60.heap.size, wn49.heap.size, W0.heap.size]) := hY
          clear hY hSz
          refine wpAnyH_ready (rs := [2]) (by kernel_rfl) (by simp) ?_
          refine AllReadyH.cons rfl (fun K' hK' => ?_) AllReadyH.nil
          · skip
            obtain ⟨wn64, hmk, hb9, hh9⟩ := make_ints wn63 l.length (by omega)
            have hY := hX.out.add hb9 hh9
            have hSz : wn64.cell? ⟨w.heap.size, 0, none⟩ = some (.slice ad l.length c) := below_cell hb9 hS
            go_simp
            refine hK'.out _ _ hSz (fun hHeld => ?_)
            clear hK' K' hX hmk hb9 hh9 hS
            have hS := hSz
            have hX : Hid (Mk l.length W0 wn64 [wn63.heap.size, wn60.heap.size, wn49.heap.size, W0.heap.size]) := hY
            clear hY hSz
            refine take_at (i := 9) (n := 23) (v := ?_) rfl rfl (by kernel_rfl) (by kernel_rfl) (by kernel_rfl) (fun _ _ _ h => h) (Or.inl ⟨by rfl, ?_⟩) (by assumption) ?_
            rotate_left 1
            · intro wz hSw
              first | (go_simp; done) | (go_simp; with_reducible rfl)
            simp only [List.set_cons_zero, List.set_cons_succ]
            have hY : Hid (NewL w (wn64.alloc (.cells #[.slice ad l.length c, .slice (some ⟨wn63.heap.size, 0, none⟩) l.length l.length, .slice (some ⟨wn60.heap.size, 0, none⟩) l.length l.length, .slice (some ⟨wn49.heap.size, 0, none⟩) l.length l.length, .slice (some ⟨W0.heap.size, 0, none⟩) l.length l.length, .slice none 0 0] 127)) l.length (.slice ad l.length c) (.func (.func f) #[] #[]) wn64.heap.size wn63.heap.size wn60.heap.size wn49.heap.size W0.heap.size (runCells l.length []) (runCells l.length []) (runCells l.length []) (runCells l.length [])) := by
              have hn := hX.out.nd
              simp only [List.nodup_cons, List.mem_cons, List.not_mem_nil, or_false, not_or, not_false_eq_true, List.nodup_nil, and_true] at hn
              exact hX.out.fin HW0.out (by simp) (by simp) (by simp) (by simp) ⟨by omega, by omega, by omega, by omega, by omega, by omega⟩
            have hSy : (wn64.alloc (.cells #[.slice ad l.length c, .slice (some ⟨wn63.heap.size, 0, none⟩) l.length l.length, .slice (some ⟨wn60.heap.size, 0, none⟩) l.length l.length, .slice (some ⟨wn49.heap.size, 0, none⟩) l.length l.length, .slice (some ⟨W0.heap.size, 0, none⟩) l.length l.length, .slice none 0 0] 127)).cell? ⟨w.heap.size, 0, none⟩ = some (.slice ad l.length c) := (cells_of (l := [_]) hY.out.jbox).1 0 _ rfl
            refine wpAnyH_ready (rs := [10]) (by kernel_rfl) (by simp) ?_
            refine AllReadyH.cons rfl (fun K' hK' => ?_) AllReadyH.nil
            go_simp
            refine hK'.out _ _ hSy (fun hHeld => ?_)
            clear hK' K'
            refine take_at (i := 11) (n := 6) (v := ?_) rfl rfl (by kernel_rfl) (by kernel_rfl) (by kernel_rfl) (fun _ _ _ h => h) (Or.inl ⟨by rfl, ?_⟩) (by assumption) ?_
            rotate_left 1
            · intro wz hSw
              first | (go_simp; done) | (go_simp; with_reducible rfl)
            simp only [List.set_cons_zero, List.set_cons_succ]
            refine wpAnyH_done (by kernel_rfl) ?_ _
            refine NoPanic.normal ?_
            go_wp2_with fail
            go_meet
            case rel =>
              exact ⟨_, _, _, _, _, rfl, hY.out⟩
  case rest =>
    obtain ⟨K, Lf, Rn, Rd, C, rfl, hnw⟩ := hcut
    have H0 : Hid (NewL w wc l.length (.slice ad l.length c) (.func (.func f) #[] #[]) K Lf Rn Rd C (runCells l.length []) (runCells l.length []) (runCells l.length []) (runCells l.length [])) := hnw
    have jb0 := (cells_of (l := [_]) hnw.jbox).1 0 _ rfl
    clear hnw
    go_wp2_with fail
    go_loopw [27] (fun i wr => ∃ j : Nat, j ≤ l.length ∧ i = .int .i64 j ∧ NewL w wr l.length (.slice ad l.length c) (.func (.func f) #[] #[]) K Lf Rn Rd C (runCells l.length ((l.map (·.c)).take j)) (runCells l.length []) (runCells l.length (zI (List.range j))) (runCells l.length (zI (List.range j)))) (fun i _ => l.length - (intOf i).toNat)
    case atStart => exact ⟨0, Nat.zero_le _, rfl, H0.out⟩
    case round =>
      obtain ⟨j, hj, rfl, hn⟩ := hrel
      by_cases hjl : j < l.length
      · have hji : (j : Int) < (l.length : Int) := by omega
        have HN : Hid (NewL w wr l.length (.slice ad l.length c) (.func (.func f) #[] #[]) K Lf Rn Rd C (runCells l.length ((l.map (·.c)).take j)) (runCells l.length []) (runCells l.length (zI (List.range j))) (runCells l.length (zI (List.range j)))) := hn
        obtain ⟨ja, jc, e, -, hjc, hjr⟩ := HV.out.below hn.bel
        cases e
        rcases hjr with hjr | ⟨jg, jo, rfl, hjr⟩
        · rw [hjr] at hjl; simp at hjl
        obtain ⟨xk, xa, xc, xd, xp, hJ⟩ : ∃ k a' c' d p, J l j = ⟨k, a', c', d, p⟩ := ⟨_, _, _, _, _, rfl⟩
        have hJ0 : l[j]? = some (J l j) := by unfold J; rw [List.getD_eq_getElem?_getD, List.getElem?_eq_getElem hjl]; rfl
        rw [hJ] at hJ0
        have dA : ∀ i u, i < 5 → (Jb.vals ⟨xk, xa, xc, xd, xp⟩)[i]? = some u → wr.cell? ⟨jg, jo + (j * 5 + i), none⟩ = some u := fun i u hi hu => hjr _ _ ((flat_at Jb.vals 5 Jb.len l j i _ hJ0 hi).trans hu)
        simp only [← Nat.add_assoc] at dA
        have e0 := dA 0 _ (by omega) rfl
        have e1 := dA 1 _ (by omega) rfl
        have e2 := dA 2 _ (by omega) rfl
        have e3 := dA 3 _ (by omega) rfl
        have e4 := dA 4 _ (by omega) rfl
        rw [Nat.add_zero] at e0
        have HJ0 : Hid (l[j]? = some ⟨xk, xa, xc, xd, xp⟩) := hJ0
        clear dA hjr hn hJ0 hJ
        go_upto_region 6 with fail
        have H1 : Hid (NewL w (wr.alloc (.cells #[.int .i64 xk, .int .i64 xa, .int .i64 xc, .int .i64 xd, .int .i64 xp] 63)).drew l.length (.slice (some ⟨jg, jo, none⟩) l.length c) (.func (.func f) #[] #[]) K Lf Rn Rd C (runCells l.length ((l.map (·.c)).take j)) (runCells l.length []) (runCells l.length (zI (List.range j))) (runCells l.length (zI (List.range j))) ∧ (wr.alloc (.cells #[.int .i64 xk, .int .i64 xa, .int .i64 xc, .int .i64 xd, .int .i64 xp] 63)).drew.heap[wr.heap.size]? = some (.cells #[.int .i64 xk, .int .i64 xa, .int .i64 xc, .int .i64 xd, .int .i64 xp] 63 (0, 0))) := ⟨HN.out.grow (below_new _ _).drew, heap_alloc_new _ _⟩
        have HG : Hid (Lf < wr.heap.size ∧ Rd < wr.heap.size ∧ C < wr.heap.size) := ⟨lt_of_heapP HN.out.left, lt_of_heapP HN.out.ranked, lt_of_heapP HN.out.comes⟩
        generalize wr.heap.size = g at *
        have hSof : Hid (∀ W' a b d e, NewL w W' l.length (.slice (some ⟨jg, jo, none⟩) l.length c) (.func (.func f) #[] #[]) K Lf Rn Rd C a b d e ∧ W'.heap[g]? = some (.cells #[.int .i64 xk, .int .i64 xa, .int .i64 xc, .int .i64 xd, .int .i64 xp] 63 (0, 0)) → (fun w' : World => w'.cell? ⟨K, 1, none⟩ = some (.slice (some ⟨Lf, 0, none⟩) l.length l.length) ∧ w'.cell? ⟨K, 3, none⟩ = some (.slice (some ⟨Rd, 0, none⟩) l.length l.length) ∧ w'.cell? ⟨K, 4, none⟩ = some (.slice (some ⟨C, 0, none⟩) l.length l.length) ∧ w'.cell? ⟨g, 2, none⟩ = some (.int .i64 xc)) W') := fun W' a b d e hh => by
          obtain ⟨h1, -, -⟩ := cells_of (l := [_, _, _, _, _, _]) hh.1.line
          obtain ⟨h2, -, -⟩ := cells_of (l := [_, _, _, _, _]) hh.2
          exact ⟨h1 1 _ rfl, h1 3 _ rfl, h1 4 _ rfl, h2 2 _ rfl⟩
        have hS := hSof.out _ _ _ _ _ H1.out
        refine wp_region_noPanic ?_
        refine wp_region_held_drew (S := fun w' => w'.cell? ⟨K, 1, none⟩ = some (.slice (some ⟨Lf, 0, none⟩) l.length l.length) ∧ w'.cell? ⟨K, 3, none⟩ = some (.slice (some ⟨Rd, 0, none⟩) l.length l.length) ∧ w'.cell? ⟨K, 4, none⟩ = some (.slice (some ⟨C, 0, none⟩) l.length l.length) ∧ w'.cell? ⟨g, 2, none⟩ = some (.int .i64 xc)) (by kernel_rfl) hS (fun hHeld => ?_)
        refine take_at (i := 0) (n := 32) (v := ?_) rfl rfl (by kernel_rfl) (by kernel_rfl) (by kernel_rfl) (fun _ _ _ h => h) (Or.inl ⟨by rfl, ?_⟩) (by assumption) ?_
        rotate_left 1
        · intro wz hSw
          obtain ⟨s0, s1, s2, s3⟩ := hSw
          first | (go_simp; done) | (go_simp; with_reducible rfl)
        simp only [List.set_cons_zero, List.set_cons_succ]
        refine take_at (i := 1) (n := 33) (v := ?_) rfl rfl (by kernel_rfl) (by kernel_rfl) (by kernel_rfl) (fun _ _ _ h => h) (Or.inl ⟨by rfl, ?_⟩) (by assumption) ?_
        rotate_left 1
        · intro wz hSw
          obtain ⟨s0, s1, s2, s3⟩ := hSw
          first | (go_simp; done) | (go_simp; with_reducible rfl)
        simp only [List.set_cons_zero, List.set_cons_succ]
        refine take_at (i := 2) (n := 34) (v := ?_) rfl rfl (by kernel_rfl) (by kernel_rfl) (by kernel_rfl) (fun _ _ _ h => h) (Or.inl ⟨by rfl, ?_⟩) (by assumption) ?_
        rotate_left 1
        · intro wz hSw
          obtain ⟨s0, s1, s2, s3⟩ := hSw
          first | (go_simp; done) | (go_simp; with_reducible rfl)
        simp only [List.set_cons_zero, List.set_cons_succ]
        refine take_at (i := 3) (n := 35) (v := ?_) rfl rfl (by kernel_rfl) (by kernel_rfl) (by kernel_rfl) (fun _ _ _ h => h) (Or.inl ⟨by rfl, ?_⟩) (by assumption) ?_
        rotate_left 1
        · intro wz hSw
          obtain ⟨s0, s1, s2, s3⟩ := hSw
          first | (go_simp; done) | (go_simp; with_reducible rfl)
        simp only [List.set_cons_zero, List.set_cons_succ]
        refine take_at (i := 4) (n := 36) (v := ?_) rfl rfl (by kernel_rfl) (by kernel_rfl) (by kernel_rfl) (fun _ _ _ h => h) (Or.inl ⟨by rfl, ?_⟩) (by assumption) ?_
        rotate_left 1
        · intro wz hSw
          obtain ⟨s0, s1, s2, s3⟩ := hSw
          first | (go_simp; done) | (go_simp; with_reducible rfl)
        simp only [List.set_cons_zero, List.set_cons_succ]
        refine take_at (i := 5) (n := 37) (v := ?_) rfl rfl (by kernel_rfl) (by kernel_rfl) (by kernel_rfl) (fun _ _ _ h => h) (Or.inl ⟨by rfl, ?_⟩) (by assumption) ?_
        rotate_left 1
        · intro wz hSw
          obtain ⟨s0, s1, s2, s3⟩ := hSw
          first | (go_simp; done) | (go_simp; with_reducible rfl)
        simp only [List.set_cons_zero, List.set_cons_succ]
        refine take_at (i := 6) (n := 38) (v := ?_) rfl rfl (by kernel_rfl) (by kernel_rfl) (by kernel_rfl) (fun _ _ _ h => h) (Or.inl ⟨by rfl, ?_⟩) (by assumption) ?_
        rotate_left 1
        · intro wz hSw
          obtain ⟨s0, s1, s2, s3⟩ := hSw
          first | (go_simp; done) | (go_simp; with_reducible rfl)
        simp only [List.set_cons_zero, List.set_cons_succ]
        refine take_at (i := 7) (n := 39) (v := ?_) rfl rfl (by kernel_rfl) (by kernel_rfl) (by kernel_rfl) (fun _ _ _ h => h) (Or.inl ⟨by rfl, ?_⟩) (by assumption) ?_
        rotate_left 1
        · intro wz hSw
          obtain ⟨s0, s1, s2, s3⟩ := hSw
          first | (go_simp; done) | (go_simp; with_reducible rfl)
        simp only [List.set_cons_zero, List.set_cons_succ]
        refine take_at (i := 8) (n := 40) (v := ?_) rfl rfl (by kernel_rfl) (by kernel_rfl) (by kernel_rfl) (fun _ _ _ h => h) (Or.inl ⟨by rfl, ?_⟩) (by assumption) ?_
        rotate_left 1
        · intro wz hSw
          obtain ⟨s0, s1, s2, s3⟩ := hSw
          first | (go_simp; done) | (go_simp; with_reducible rfl)
        simp only [List.set_cons_zero, List.set_cons_succ]
        refine take_at (i := 9) (n := 41) (v := ?_) rfl rfl (by kernel_rfl) (by kernel_rfl) (by kernel_rfl) (fun _ _ _ h => h) (Or.inl ⟨by rfl, ?_⟩) (by assumption) ?_
        rotate_left 1
        · intro wz hSw
          obtain ⟨s0, s1, s2, s3⟩ := hSw
          first | (go_simp; done) | (go_simp; with_reducible rfl)
        simp only [List.set_cons_zero, List.set_cons_succ]
        refine take_at (i := 10) (n := 42) (v := ?_) rfl rfl (by kernel_rfl) (by kernel_rfl) (by kernel_rfl) (fun _ _ _ h => h) (Or.inl ⟨by rfl, ?_⟩) (by assumption) ?_
        rotate_left 1
        · intro wz hSw
          obtain ⟨s0, s1, s2, s3⟩ := hSw
          first | (go_simp; done) | (go_simp; with_reducible rfl)
        simp only [List.set_cons_zero, List.set_cons_succ]
        refine take_at (i := 11) (n := 43) (v := ?_) rfl rfl (by kernel_rfl) (by kernel_rfl) (by kernel_rfl) (fun _ _ _ h => h) (Or.inl ⟨by rfl, ?_⟩) (by assumption) ?_
        rotate_left 1
        · intro wz hSw
          obtain ⟨s0, s1, s2, s3⟩ := hSw
          first | (go_simp; done) | (go_simp; with_reducible rfl)
        simp only [List.set_cons_zero, List.set_cons_succ]
        refine take_at (i := 12) (n := 44) (v := ?_) rfl rfl (by kernel_rfl) (by kernel_rfl) (by kernel_rfl) (fun _ _ _ h => h) (Or.inl ⟨by rfl, ?_⟩) (by assumption) ?_
        rotate_left 1
        · intro wz hSw
          obtain ⟨s0, s1, s2, s3⟩ := hSw
          first | (go_simp; done) | (go_simp; with_reducible rfl)
        simp only [List.set_cons_zero, List.set_cons_succ]
        refine take_at (i := 13) (n := 45) (v := ?_) rfl rfl (by kernel_rfl) (by kernel_rfl) (by kernel_rfl) (fun _ _ _ h => h) (Or.inl ⟨by rfl, ?_⟩) (by assumption) ?_
        rotate_left 1
        · intro wz hSw
          obtain ⟨s0, s1, s2, s3⟩ := hSw
          first | (go_simp; done) | (go_simp; with_reducible rfl)
        simp only [List.set_cons_zero, List.set_cons_succ]
        refine take_at (i := 14) (n := 46) (v := ?_) rfl rfl (by kernel_rfl) (by kernel_rfl) (by kernel_rfl) (fun _ _ _ h => h) (Or.inl ⟨by rfl, ?_⟩) (by assumption) ?_
        rotate_left 1
        · intro wz hSw
          obtain ⟨s0, s1, s2, s3⟩ := hSw
          first | (go_simp; done) | (go_simp; with_reducible rfl)
        simp only [List.set_cons_zero, List.set_cons_succ]
        refine take_at (i := 15) (n := 47) (v := ?_) rfl rfl (by kernel_rfl) (by kernel_rfl) (by kernel_rfl) (fun _ _ _ h => h) (Or.inl ⟨by rfl, ?_⟩) (by assumption) ?_
        rotate_left 1
        · intro wz hSw
          obtain ⟨s0, s1, s2, s3⟩ := hSw
          first | (go_simp; done) | (go_simp; with_reducible rfl)
        simp only [List.set_cons_zero, List.set_cons_succ]
        refine take_at (i := 16) (n := 48) (v := ?_) rfl rfl (by kernel_rfl) (by kernel_rfl) (by kernel_rfl) (fun _ _ _ h => h) (Or.inl ⟨by rfl, ?_⟩) (by assumption) ?_
        rotate_left 1
        · intro wz hSw
          obtain ⟨s0, s1, s2, s3⟩ := hSw
          first | (go_simp; done) | (go_simp; with_reducible rfl)
        simp only [List.set_cons_zero, List.set_cons_succ]
        refine take_at (i := 17) (n := 49) (v := ?_) rfl rfl (by kernel_rfl) (by kernel_rfl) (by kernel_rfl) (fun _ _ _ h => h) (Or.inl ⟨by rfl, ?_⟩) (by assumption) ?_
        rotate_left 1
        · intro wz hSw
          obtain ⟨s0, s1, s2, s3⟩ := hSw
          first | (go_simp; done) | (go_simp; with_reducible rfl)
        simp only [List.set_cons_zero, List.set_cons_succ]
        refine take_at (i := 18) (n := 50) (v := ?_) rfl rfl (by kernel_rfl) (by kernel_rfl) (by kernel_rfl) (fun _ _ _ h => h) (Or.inl ⟨by rfl, ?_⟩) (by assumption) ?_
        rotate_left 1
        · intro wz hSw
          obtain ⟨s0, s1, s2, s3⟩ := hSw
          first | (go_simp; done) | (go_simp; with_reducible rfl)
        simp only [List.set_cons_zero, List.set_cons_succ]
        refine take_at (i := 19) (n := 51) (v := ?_) rfl rfl (by kernel_rfl) (by kernel_rfl) (by kernel_rfl) (fun _ _ _ h => h) (Or.inl ⟨by rfl, ?_⟩) (by assumption) ?_
        rotate_left 1
        · intro wz hSw
          obtain ⟨s0, s1, s2, s3⟩ := hSw
          first | (go_simp; done) | (go_simp; with_reducible rfl)
        simp only [List.set_cons_zero, List.set_cons_succ]
        generalize (wr.alloc (.cells #[.int .i64 xk, .int .i64 xa, .int .i64 xc, .int .i64 xd, .int .i64 xp] 63)).drew = W2 at *
        have hlen : j < ((runCells l.length ((l.map (·.c)).take j))).length := by rw [runCells_len (by simp; try omega)]; exact hjl
        obtain ⟨cs, cf, -⟩ := cells_of (l := (runCells l.length ((l.map (·.c)).take j))) H1.out.1.left
        have c0 := cs j _ (List.getElem?_eq_getElem hlen)
        have cf0 := cf j
        generalize ((runCells l.length ((l.map (·.c)).take j)))[j]'hlen = cold at c0
        clear cs cf hlen
        have H2 : Hid (NewL w (W2.setCell ⟨Lf, j, none⟩ (.int .i64 xc)) l.length (.slice (some ⟨jg, jo, none⟩) l.length c) (.func (.func f) #[] #[]) K Lf Rn Rd C ((runCells l.length ((l.map (·.c)).take j)).set j (.int .i64 xc)) (runCells l.length []) (runCells l.length (zI (List.range j))) (runCells l.length (zI (List.range j))) ∧ (W2.setCell ⟨Lf, j, none⟩ (.int .i64 xc)).heap[g]? = some (.cells #[.int .i64 xk, .int .i64 xa, .int .i64 xc, .int .i64 xd, .int .i64 xp] 63 (0, 0))) := ⟨H1.out.1.left_set j _, (Below.heap_setCell _ _ _ _ (show g ≠ Lf by have := HG.out; omega)).trans H1.out.2⟩
        have hSn := hSof.out _ _ _ _ _ H2.out
        refine wpAnyH_ready (rs := [20]) (by kernel_rfl) (by simp) ?_
        refine AllReadyH.cons rfl (fun K' hK' => ?_) AllReadyH.nil
        go_simp
        refine hK'.out _ _ hSn (fun hHeld => ?_)
        clear hK' K' c0 cf0 hS
        have hS := hSn
        clear hSn
        generalize W2.setCell ⟨Lf, j, none⟩ (.int .i64 xc) = W3 at *
        refine take_at (i := 21) (n := 52) (v := ?_) rfl rfl (by kernel_rfl) (by kernel_rfl) (by kernel_rfl) (fun _ _ _ h => h) (Or.inl ⟨by rfl, ?_⟩) (by assumption) ?_
        rotate_left 1
        · intro wz hSw
          obtain ⟨s0, s1, s2, s3⟩ := hSw
          first | (go_simp; done) | (go_simp; with_reducible rfl)
        simp only [List.set_cons_zero, List.set_cons_succ]
        have hlen : j < ((runCells l.length (zI (List.range j)))).length := by rw [runCells_len (by simp [zI]; try omega)]; exact hjl
        obtain ⟨cs, cf, -⟩ := cells_of (l := (runCells l.length (zI (List.range j)))) H2.out.1.ranked
        have c0 := cs j _ (List.getElem?_eq_getElem hlen)
        have cf0 := cf j
        generalize ((runCells l.length (zI (List.range j))))[j]'hlen = cold at c0
        clear cs cf hlen
        have H3 : Hid (NewL w (W3.setCell ⟨Rd, j, none⟩ (.int .i64 (j : Int))) l.length (.slice (some ⟨jg, jo, none⟩) l.length c) (.func (.func f) #[] #[]) K Lf Rn Rd C ((runCells l.length ((l.map (·.c)).take j)).set j (.int .i64 xc)) (runCells l.length []) ((runCells l.length (zI (List.range j))).set j (.int .i64 (j : Int))) (runCells l.length (zI (List.range j))) ∧ (W3.setCell ⟨Rd, j, none⟩ (.int .i64 (j : Int))).heap[g]? = some (.cells #[.int .i64 xk, .int .i64 xa, .int .i64 xc, .int .i64 xd, .int .i64 xp] 63 (0, 0))) := ⟨H2.out.1.ranked_set j _, (Below.heap_setCell _ _ _ _ (show g ≠ Rd by have := HG.out; omega)).trans H2.out.2⟩
        have hSn := hSof.out _ _ _ _ _ H3.out
        refine wpAnyH_ready (rs := [22]) (by kernel_rfl) (by simp) ?_
        refine AllReadyH.cons rfl (fun K' hK' => ?_) AllReadyH.nil
        go_simp
        refine hK'.out _ _ hSn (fun hHeld => ?_)
        clear hK' K' c0 cf0 hS
        have hS := hSn
        clear hSn
        generalize W3.setCell ⟨Rd, j, none⟩ (.int .i64 (j : Int)) = W4 at *
        refine take_at (i := 23) (n := 53) (v := ?_) rfl rfl (by kernel_rfl) (by kernel_rfl) (by kernel_rfl) (fun _ _ _ h => h) (Or.inl ⟨by rfl, ?_⟩) (by assumption) ?_
        rotate_left 1
        · intro wz hSw
          obtain ⟨s0, s1, s2, s3⟩ := hSw
          first | (go_simp; done) | (go_simp; with_reducible rfl)
        simp only [List.set_cons_zero, List.set_cons_succ]
        have hlen : j < ((runCells l.length (zI (List.range j)))).length := by rw [runCells_len (by simp [zI]; try omega)]; exact hjl
        obtain ⟨cs, cf, -⟩ := cells_of (l := (runCells l.length (zI (List.range j)))) H3.out.1.comes
        have c0 := cs j _ (List.getElem?_eq_getElem hlen)
        have cf0 := cf j
        generalize ((runCells l.length (zI (List.range j))))[j]'hlen = cold at c0
        clear cs cf hlen
        have H4 : Hid (NewL w (W4.setCell ⟨C, j, none⟩ (.int .i64 (j : Int))) l.length (.slice (some ⟨jg, jo, none⟩) l.length c) (.func (.func f) #[] #[]) K Lf Rn Rd C ((runCells l.length ((l.map (·.c)).take j)).set j (.int .i64 xc)) (runCells l.length []) ((runCells l.length (zI (List.range j))).set j (.int .i64 (j : Int))) ((runCells l.length (zI (List.range j))).set j (.int .i64 (j : Int))) ∧ (W4.setCell ⟨C, j, none⟩ (.int .i64 (j : Int))).heap[g]? = some (.cells #[.int .i64 xk, .int .i64 xa, .int .i64 xc, .int .i64 xd, .int .i64 xp] 63 (0, 0))) := ⟨H3.out.1.comes_set j _, (Below.heap_setCell _ _ _ _ (show g ≠ C by have := HG.out; omega)).trans H3.out.2⟩
        have hSn := hSof.out _ _ _ _ _ H4.out
        refine wpAnyH_ready (rs := [24]) (by kernel_rfl) (by simp) ?_
        refine AllReadyH.cons rfl (fun K' hK' => ?_) AllReadyH.nil
        go_simp
        refine hK'.out _ _ hSn (fun hHeld => ?_)
        clear hK' K' c0 cf0 hS
        have hS := hSn
        clear hSn
        generalize W4.setCell ⟨C, j, none⟩ (.int .i64 (j : Int)) = W5 at *
        refine wpAnyH_done (by kernel_rfl) ?_ _
        refine NoPanic.normal ?_
        have hT : ((runCells l.length ((l.map (·.c)).take j)).set j (.int .i64 xc)) = (runCells l.length ((l.map (·.c)).take (j + 1))) := by
          have e := runCells_snoc (n := l.length) (runs := (l.map (·.c)).take j) (v := xc) (by simp; omega)
          rw [show ((l.map (·.c)).take j).length = j by simp; omega] at e
          rw [e, List.take_add_one, List.getElem?_map, HJ0.out]
          rfl
        have hR : ((runCells l.length (zI (List.range j))).set j (.int .i64 (j : Int))) = (runCells l.length (zI (List.range (j + 1)))) := by
          have e := runCells_snoc (n := l.length) (runs := zI (List.range j)) (v := (j : Int)) (by rw [zI_len, List.length_range]; omega)
          rw [show (zI (List.range j)).length = j by rw [zI_len, List.length_range]] at e
          rw [e, show zI (List.range j) ++ [(j : Int)] = zI (List.range (j + 1)) by simp [zI, List.range_succ]]
        have H5 : Hid (NewL w W5 l.length (.slice (some ⟨jg, jo, none⟩) l.length c) (.func (.func f) #[] #[]) K Lf Rn Rd C (runCells l.length ((l.map (·.c)).take (j + 1))) (runCells l.length []) (runCells l.length (zI (List.range (j + 1)))) (runCells l.length (zI (List.range (j + 1))))) := by
          have := H4.out.1
          rw [hT, hR] at this
          exact this
        clear hT hR
        go_wp2_with fail
        exact ⟨⟨j + 1, by omega, by simp, H5.out⟩, by simp [intOf]; omega⟩
      · have hje : j = l.length := by omega
        subst hje
        have hT : (runCells l.length ((l.map (·.c)).take l.length)) = (l.map (·.c)).map (Value.int .i64) := by
          have e := runCells_full (runs := l.map (·.c))
          rw [List.length_map] at e
          rw [← List.length_map (f := fun x : Jb => x.c), List.take_length, List.length_map, e]
        have hR : (runCells l.length (zI (List.range l.length))) = (zI (List.range l.length)).map (Value.int .i64) := by
          have e := runCells_full (runs := zI (List.range l.length))
          rw [zI_len, List.length_range] at e
          exact e
        rw [hT, hR] at hn
        clear hT hR
        have HN : Hid (NewL w wr l.length (.slice ad l.length c) (.func (.func f) #[] #[]) K Lf Rn Rd C ((l.map (·.c)).map (Value.int .i64)) (runCells l.length []) ((zI (List.range l.length)).map (Value.int .i64)) ((zI (List.range l.length)).map (Value.int .i64))) := hn
        clear hn
        have hso := store_so wr w.heap.size
        go_upto_region 9 with fail
        have H6 : Hid (NewL w (wr.alloc (.cells #[.func (Fn.func 82) #[] #[.pointer (some ⟨w.heap.size, 0, none⟩)]] 91)).drew l.length (.slice ad l.length c) (.func (.func f) #[] #[]) K Lf Rn Rd C ((l.map (·.c)).map (Value.int .i64)) (runCells l.length []) ((zI (List.range l.length)).map (Value.int .i64)) ((zI (List.range l.length)).map (Value.int .i64)) ∧ (wr.alloc (.cells #[.func (Fn.func 82) #[] #[.pointer (some ⟨w.heap.size, 0, none⟩)]] 91)).drew.heap[wr.heap.size]? = some (.cells #[(.func (.func 82) #[] #[.pointer (some ⟨w.heap.size, 0, none⟩)])] 91 (0, 0))) := ⟨HN.out.grow (below_new _ _).drew, heap_alloc_new _ _⟩
        have HL6 : Hid (wr.heap.size ≠ C ∧ wr.heap.size ≠ Rd ∧ wr.heap.size ≠ Rn) := by
          have h1 := lt_of_heapP HN.out.comes
          have h2 := lt_of_heapP HN.out.ranked
          have h3 := lt_of_heapP HN.out.ranks
          exact ⟨by omega, by omega, by omega⟩
        clear hso
        generalize wr.heap.size = sb at *
        have hSof : Hid (∀ W' a b d e, NewL w W' l.length (.slice ad l.length c) (.func (.func f) #[] #[]) K Lf Rn Rd C a b d e ∧ W'.heap[sb]? = some (.cells #[(.func (.func 82) #[] #[.pointer (some ⟨w.heap.size, 0, none⟩)])] 91 (0, 0)) → (fun w' : World => w'.cell? ⟨K, 4, none⟩ = some (.slice (some ⟨C, 0, none⟩) l.length l.length) ∧ w'.cell? ⟨sb, 0, none⟩ = some (.func (.func 82) #[] #[.pointer (some ⟨w.heap.size, 0, none⟩)])) W') := fun W' a b d e hh => by
          obtain ⟨h1, -, -⟩ := cells_of (l := [_, _, _, _, _, _]) hh.1.line
          obtain ⟨h2, -, -⟩ := cells_of (l := [_]) hh.2
          exact ⟨h1 4 _ rfl, h2 0 _ rfl⟩
        have hS := hSof.out _ _ _ _ _ H6.out
        refine wp_region_noPanic ?_
        refine wp_region_held_drew (S := fun w' => w'.cell? ⟨K, 4, none⟩ = some (.slice (some ⟨C, 0, none⟩) l.length l.length) ∧ w'.cell? ⟨sb, 0, none⟩ = some (.func (.func 82) #[] #[.pointer (some ⟨w.heap.size, 0, none⟩)])) (by kernel_rfl) hS (fun hHeld => ?_)
        refine take_at (i := 0) (n := 56) (v := ?_) rfl rfl (by kernel_rfl) (by kernel_rfl) (by kernel_rfl) (fun _ _ _ h => h) (Or.inl ⟨by rfl, ?_⟩) (by assumption) ?_
        rotate_left 1
        · intro wz hSw
          obtain ⟨s0, s1⟩ := hSw
          first | (go_simp; done) | (go_simp; with_reducible rfl)
        simp only [List.set_cons_zero, List.set_cons_succ]
        refine take_at (i := 1) (n := 57) (v := ?_) rfl rfl (by kernel_rfl) (by kernel_rfl) (by kernel_rfl) (fun _ _ _ h => h) (Or.inl ⟨by rfl, ?_⟩) (by assumption) ?_
        rotate_left 1
        · intro wz hSw
          obtain ⟨s0, s1⟩ := hSw
          first | (go_simp; done) | (go_simp; with_reducible rfl)
        simp only [List.set_cons_zero, List.set_cons_succ]
        refine take_at (i := 2) (n := 58) (v := ?_) rfl rfl (by kernel_rfl) (by kernel_rfl) (by kernel_rfl) (fun _ _ _ h => h) (Or.inl ⟨by rfl, ?_⟩) (by assumption) ?_
        rotate_left 1
        · intro wz hSw
          obtain ⟨s0, s1⟩ := hSw
          first | (go_simp; done) | (go_simp; with_reducible rfl)
        simp only [List.set_cons_zero, List.set_cons_succ]
        refine take_at (i := 3) (n := 59) (v := ?_) rfl rfl (by kernel_rfl) (by kernel_rfl) (by kernel_rfl) (fun _ _ _ h => h) (Or.inl ⟨by rfl, ?_⟩) (by assumption) ?_
        rotate_left 1
        · intro wz hSw
          obtain ⟨s0, s1⟩ := hSw
          first | (go_simp; done) | (go_simp; with_reducible rfl)
        simp only [List.set_cons_zero, List.set_cons_succ]
        refine take_at (i := 4) (n := 60) (v := ?_) rfl rfl (by kernel_rfl) (by kernel_rfl) (by kernel_rfl) (fun _ _ _ h => h) (Or.inl ⟨by rfl, ?_⟩) (by assumption) ?_
        rotate_left 1
        · intro wz hSw
          obtain ⟨s0, s1⟩ := hSw
          first | (go_simp; done) | (go_simp; with_reducible rfl)
        simp only [List.set_cons_zero, List.set_cons_succ]
        generalize (wr.alloc (.cells #[.func (Fn.func 82) #[] #[.pointer (some ⟨w.heap.size, 0, none⟩)]] 91)).drew = W6 at *
        have HS1 := H6.out.1.soon HV.out hl
        refine wpAnyH_ready (rs := [5]) (by kernel_rfl) (by simp) ?_
        refine AllReadyH.cons rfl (fun K' hK' => ?_) AllReadyH.nil
        go_simp
        go_wp2_with (go_at_call 85; refine HS1.mono ?_; rintro r w7 ⟨rfl, d, hd, hn7, hg7⟩; have H7 : Hid (Srt (cfS l) d ∧ NewL w w7 l.length (.slice ad l.length c) (.func (.func f) #[] #[]) K Lf Rn Rd C ((l.map (·.c)).map (Value.int .i64)) (runCells l.length []) ((zI (List.range l.length)).map (Value.int .i64)) ((zI (d.map (fun p => p.val))).map (Value.int .i64)) ∧ w7.heap[sb]? = some (.cells #[(.func (.func 82) #[] #[.pointer (some ⟨w.heap.size, 0, none⟩)])] 91 (0, 0))) := ⟨hd, hn7, (hg7.block _ (lt_of_heapP H6.out.2) (fun e => HL6.out.1 (Option.some.inj e))).trans H6.out.2⟩; clear hd hn7 hg7 HS1)
        refine hK'.out _ w7 (hSof.out _ _ _ _ _ H7.out.2) (fun hHeld => ?_)
        clear hK' K'
        refine wpAnyH_done (by kernel_rfl) ?_ _
        refine NoPanic.normal ?_
        have k3 := (cells_of (l := [_, _, _, _, _, _]) H7.out.2.1.line).1 3 _ rfl
        have h7 := H7.out.2.1
        rw [HF.out] at h7
        have HS2 := NewL.ranking hp h7 HV.out hl H7.out.2.2 HL6.out.2.1
        rw [← HF.out] at HS2
        clear h7
        go_wp2_with (go_at_call 85; refine HS2.mono ?_; rintro r w8 ⟨rfl, rk, hrk, hn8, -⟩; have H8 : Hid (Ranked l pol rk ∧ NewL w w8 l.length (.slice ad l.length c) (.func (.func f) #[] #[]) K Lf Rn Rd C ((l.map (·.c)).map (Value.int .i64)) (runCells l.length []) ((zI rk).map (Value.int .i64)) ((zI (d.map (fun p => p.val))).map (Value.int .i64))) := ⟨hrk, hn8⟩; clear hrk hn8 HS2; have k38 := (cells_of (l := [_, _, _, _, _, _]) H8.out.2.line).1 3 _ rfl)
        go_loopw [73] (fun i wr => ∃ r : Nat, r ≤ l.length ∧ i = .int .i64 r ∧ NewL w wr l.length (.slice ad l.length c) (.func (.func f) #[] #[]) K Lf Rn Rd C ((l.map (·.c)).map (Value.int .i64)) (rnk rk l.length r) ((zI rk).map (Value.int .i64)) ((zI (d.map (fun p => p.val))).map (Value.int .i64))) (fun i _ => l.length - (intOf i).toNat)
        case atStart => exact ⟨0, Nat.zero_le _, rfl, by rw [← rnk_start]; exact H8.out.2⟩
        case round =>
          obtain ⟨r, hr, rfl, hn⟩ := hrel
          by_cases hrl : r < l.length
          · have hri : (r : Int) < (l.length : Int) := by omega
            have hq : RK rk r < l.length := H8.out.1.lt hrl
            have hqi : ((RK rk r : Nat) : Int) < (l.length : Int) := by omega
            have dR : wr.cell? ⟨Rd, r, none⟩ = some (.int .i64 ((RK rk r : Nat) : Int)) := (cells_of (l := ((zI rk).map (Value.int .i64))) hn.ranked).1 r _ (by simp [zI, RK_get (show r < rk.length by rw [H8.out.1.len]; exact hrl)])
            have k2 := (cells_of (l := [_, _, _, _, _, _]) hn.line).1 2 _ rfl
            have hlen : RK rk r < (rnk rk l.length r).length := by rw [rnk_len]; exact hq
            obtain ⟨cs, cf, -⟩ := cells_of (l := rnk rk l.length r) hn.ranks
            have c0 := cs _ _ (List.getElem?_eq_getElem hlen)
            have cf0 := cf (RK rk r)
            generalize (rnk rk l.length r)[RK rk r]'hlen = cold at c0
            have H9 : Hid (NewL w (wr.setCell ⟨Rn, RK rk r, none⟩ (.int .i64 (r : Int))) l.length (.slice ad l.length c) (.func (.func f) #[] #[]) K Lf Rn Rd C ((l.map (·.c)).map (Value.int .i64)) (rnk rk l.length (r + 1)) ((zI rk).map (Value.int .i64)) ((zI (d.map (fun p => p.val))).map (Value.int .i64))) := by
              have := hn.ranks_set (RK rk r) (.int .i64 (r : Int))
              rw [rnk_set H8.out.1 hrl] at this
              exact this
            clear cs cf hlen hn
            go_wp2_with fail
            exact ⟨⟨r + 1, by omega, by simp, H9.out⟩, by simp [intOf]; omega⟩
          · have hre : r = l.length := by omega
            subst hre
            rw [rnk_full H8.out.1] at hn
            obtain ⟨cm, hcm, ecm⟩ := coming_srt H8.out.1 H7.out.1
            rw [ecm] at hn
            have H9 : Hid (NewL w wr l.length (.slice ad l.length c) (.func (.func f) #[] #[]) K Lf Rn Rd C ((l.map (·.c)).map (Value.int .i64)) ((zI (invOf rk)).map (Value.int .i64)) ((zI rk).map (Value.int .i64)) ((zI (cm.map (RK rk))).map (Value.int .i64)) ∧ Coming l rk cm) := ⟨hn, hcm⟩
            clear hn hcm ecm
            go_wp2_with fail
            go_ret
            obtain ⟨l1, l2, l3, l4, l5⟩ := H9.out.1.low
            obtain ⟨d1, d2, d3, d4, d5, d6, d7, d8, d9, d10⟩ := H9.out.1.ds
            have hbs := H9.out.1.bel.size
            exact ⟨wr.heap.size, K, Lf, Rn, Rd, C, rk, cm, _, rfl, ⟨H9.out.1.line, H9.out.1.left, H9.out.1.ranks, H9.out.1.ranked, H9.out.1.comes, ⟨rfl, .inl ⟨rfl, rfl⟩⟩, HV.out, H9.out.1.bel, ⟨⟨by omega, by omega⟩, hbs⟩, ⟨lt_of_heapP H9.out.1.line, lt_of_heapP H9.out.1.left, lt_of_heapP H9.out.1.ranks, lt_of_heapP H9.out.1.ranked, lt_of_heapP H9.out.1.comes⟩, ⟨Ne.symm d1, Ne.symm d2, Ne.symm d3, Ne.symm d4⟩, ⟨Ne.symm d5, Ne.symm d6, Ne.symm d7⟩, Nat.le_refl _, ⟨_, by rw [Nat.sub_zero], fun _ => rfl⟩⟩, H8.out.1, H9.out.2, ⟨by omega, by omega, by omega, d9, d10⟩⟩
end Go.Proofs.YtccoobcggbbciaiGreatDoor.S8
