import Derived.Test.YtccoobcggbbciaiGreatDoorSRE
namespace Go.Proofs.YtccoobcggbbciaiGreatDoor.S8
open Go.ChangeShapes Go.WideShapes Go.ChangeAt Go.RowKit

theorem Grown.below {w w' : World} (h : Grown w w') : Below w.heap.size w w' := by
  obtain ⟨q, os, rfl⟩ := h
  exact ⟨rfl, rfl, rfl, by simp [Go.Sort.grow, World.drewN], fun i hi => Go.Sort.heap_grow_old (w.drewN q) os hi⟩

theorem By_any (w : World) (pol : Int) :
    Calls Tryz.prog 57 #[.int .i64 pol] w fun r w' => r = .returned (.func (.func (if pol = 2 then 87 else 88)) #[] #[]) ∧ w' = w := by
  by_cases h : pol = 2
  · rw [if_pos h]
    have h' : (pol == 2) = true := by simpa using h
    have Hh : Hid (pol = 2) := h
    clear h
    go_enter Tryz.func57, Tryz.ntmps57
    go_wp2_with fail
    go_ret
    exact ⟨rfl, rfl⟩
  · rw [if_neg h]
    have h' : (pol == 2) = false := by simpa using h
    have Hh : Hid (¬ pol = 2) := h
    clear h
    go_enter Tryz.func57, Tryz.ntmps57
    go_wp2_with fail
    go_ret
    exact ⟨rfl, rfl⟩

set_option maxRecDepth 20000 in
set_option maxHeartbeats 2000000 in
/-- The closure that ranks. -/
theorem rankDue_any (w : World) (l : List Jb) (jv : Value) (jb ob sb a b : Nat) (hj : w.cell? ⟨jb, 0, none⟩ = some jv) (ho : w.cell? ⟨ob, 0, none⟩ = some (.func (.func 87) #[] #[])) (hs : w.cell? ⟨sb, 0, none⟩ = some (.func (.func 82) #[] #[.pointer (some ⟨jb, 0, none⟩)])) (hr : RowSl Jb.vals w l jv) (ha : a < l.length) (hb : b < l.length) :
    Calls Tryz.prog 86 #[.int .i64 (a : Int), .int .i64 (b : Int), .pointer (some ⟨ob, 0, none⟩), .pointer (some ⟨jb, 0, none⟩), .pointer (some ⟨sb, 0, none⟩)] w fun r w' => r = .returned (.int .i64 (or2 (cmpI (J l a).d (J l b).d) (or2 (cmpI (J l a).a (J l b).a) (cmpI (a : Int) (b : Int))))) ∧ Grown w w' := by
  have HR : Hid (RowSl Jb.vals w l jv) := hr
  obtain ⟨ja, jc, rfl, -, hjc, hjr⟩ := hr
  rcases hjr with hjr | ⟨jg, jo, rfl, hjr⟩
  · rw [hjr] at ha; simp at ha
  have hJ : ∀ i, i < l.length → l[i]? = some (J l i) := fun i hi => by unfold J; rw [List.getD_eq_getElem?_getD, List.getElem?_eq_getElem hi]; rfl
  have dA : ∀ i, i < l.length → ∀ f u, f < 5 → (J l i).vals[f]? = some u → w.cell? ⟨jg, jo + (i * 5 + f), none⟩ = some u := fun i hi f u hf hu => hjr _ _ ((flat_at Jb.vals 5 Jb.len l i f _ (hJ i hi) hf).trans hu)
  obtain ⟨xk, xa, xc, xd, xp, hJa⟩ : ∃ k a' c d p, J l a = ⟨k, a', c, d, p⟩ := ⟨_, _, _, _, _, rfl⟩
  obtain ⟨yk, ya, yc, yd, yp, hJb⟩ : ∃ k a' c d p, J l b = ⟨k, a', c, d, p⟩ := ⟨_, _, _, _, _, rfl⟩
  have ea := dA a ha
  have eb := dA b hb
  rw [hJa] at ea
  rw [hJb] at eb
  simp only [← Nat.add_assoc] at ea eb
  have hS0 : (fun w' : World => w'.cell? ⟨jb, 0, none⟩ = some (.slice (some ⟨jg, jo, none⟩) l.length jc) ∧ w'.cell? ⟨ob, 0, none⟩ = some (.func (.func 87) #[] #[]) ∧ w'.cell? ⟨sb, 0, none⟩ = some (.func (.func 82) #[] #[.pointer (some ⟨jb, 0, none⟩)]) ∧ w'.cell? ⟨jg, jo + a * 5, none⟩ = some (.int .i64 xk) ∧ w'.cell? ⟨jg, jo + a * 5 + 1, none⟩ = some (.int .i64 xa) ∧ w'.cell? ⟨jg, jo + a * 5 + 2, none⟩ = some (.int .i64 xc) ∧ w'.cell? ⟨jg, jo + a * 5 + 3, none⟩ = some (.int .i64 xd) ∧ w'.cell? ⟨jg, jo + a * 5 + 4, none⟩ = some (.int .i64 xp) ∧ w'.cell? ⟨jg, jo + b * 5, none⟩ = some (.int .i64 yk) ∧ w'.cell? ⟨jg, jo + b * 5 + 1, none⟩ = some (.int .i64 ya) ∧ w'.cell? ⟨jg, jo + b * 5 + 2, none⟩ = some (.int .i64 yc) ∧ w'.cell? ⟨jg, jo + b * 5 + 3, none⟩ = some (.int .i64 yd) ∧ w'.cell? ⟨jg, jo + b * 5 + 4, none⟩ = some (.int .i64 yp)) w := ⟨hj, ho, hs, ea 0 _ (by omega) rfl, ea 1 _ (by omega) rfl, ea 2 _ (by omega) rfl, ea 3 _ (by omega) rfl, ea 4 _ (by omega) rfl, eb 0 _ (by omega) rfl, eb 1 _ (by omega) rfl, eb 2 _ (by omega) rfl, eb 3 _ (by omega) rfl, eb 4 _ (by omega) rfl⟩
  have hSg : Hid (∀ w'', Grown w w'' → (fun w' : World => w'.cell? ⟨jb, 0, none⟩ = some (.slice (some ⟨jg, jo, none⟩) l.length jc) ∧ w'.cell? ⟨ob, 0, none⟩ = some (.func (.func 87) #[] #[]) ∧ w'.cell? ⟨sb, 0, none⟩ = some (.func (.func 82) #[] #[.pointer (some ⟨jb, 0, none⟩)]) ∧ w'.cell? ⟨jg, jo + a * 5, none⟩ = some (.int .i64 xk) ∧ w'.cell? ⟨jg, jo + a * 5 + 1, none⟩ = some (.int .i64 xa) ∧ w'.cell? ⟨jg, jo + a * 5 + 2, none⟩ = some (.int .i64 xc) ∧ w'.cell? ⟨jg, jo + a * 5 + 3, none⟩ = some (.int .i64 xd) ∧ w'.cell? ⟨jg, jo + a * 5 + 4, none⟩ = some (.int .i64 xp) ∧ w'.cell? ⟨jg, jo + b * 5, none⟩ = some (.int .i64 yk) ∧ w'.cell? ⟨jg, jo + b * 5 + 1, none⟩ = some (.int .i64 ya) ∧ w'.cell? ⟨jg, jo + b * 5 + 2, none⟩ = some (.int .i64 yc) ∧ w'.cell? ⟨jg, jo + b * 5 + 3, none⟩ = some (.int .i64 yd) ∧ w'.cell? ⟨jg, jo + b * 5 + 4, none⟩ = some (.int .i64 yp)) w'') := fun w'' hg => by
    obtain ⟨s0, s1, s2, s3, s4, s5, s6, s7, s8, s9, s10, s11, s12⟩ := hS0
    have hb := hg.below
    exact ⟨below_cell hb s0, below_cell hb s1, below_cell hb s2, below_cell hb s3, below_cell hb s4, below_cell hb s5, below_cell hb s6, below_cell hb s7, below_cell hb s8, below_cell hb s9, below_cell hb s10, below_cell hb s11, below_cell hb s12⟩
  have hai : (a : Int) < (l.length : Int) := by omega
  have hbi : (b : Int) < (l.length : Int) := by omega
  rw [hJa, hJb]
  dsimp only
  clear dA hJ hjr ea eb hS0
  go_enter Tryz.func86, Tryz.ntmps86
  go_wp2_with fail
  refine wp_region_noPanic ?_
  refine wp_region_held_drew (S := fun w' => w'.cell? ⟨jb, 0, none⟩ = some (.slice (some ⟨jg, jo, none⟩) l.length jc) ∧ w'.cell? ⟨ob, 0, none⟩ = some (.func (.func 87) #[] #[]) ∧ w'.cell? ⟨sb, 0, none⟩ = some (.func (.func 82) #[] #[.pointer (some ⟨jb, 0, none⟩)]) ∧ w'.cell? ⟨jg, jo + a * 5, none⟩ = some (.int .i64 xk) ∧ w'.cell? ⟨jg, jo + a * 5 + 1, none⟩ = some (.int .i64 xa) ∧ w'.cell? ⟨jg, jo + a * 5 + 2, none⟩ = some (.int .i64 xc) ∧ w'.cell? ⟨jg, jo + a * 5 + 3, none⟩ = some (.int .i64 xd) ∧ w'.cell? ⟨jg, jo + a * 5 + 4, none⟩ = some (.int .i64 xp) ∧ w'.cell? ⟨jg, jo + b * 5, none⟩ = some (.int .i64 yk) ∧ w'.cell? ⟨jg, jo + b * 5 + 1, none⟩ = some (.int .i64 ya) ∧ w'.cell? ⟨jg, jo + b * 5 + 2, none⟩ = some (.int .i64 yc) ∧ w'.cell? ⟨jg, jo + b * 5 + 3, none⟩ = some (.int .i64 yd) ∧ w'.cell? ⟨jg, jo + b * 5 + 4, none⟩ = some (.int .i64 yp)) (by kernel_rfl) (hSg.out w.drew (Grown.refl w).drew) (fun hHeld => ?_)
  refine take_at (i := 0) (n := 8) (v := ?_) rfl rfl (by kernel_rfl) (by kernel_rfl) (by kernel_rfl) (fun _ _ _ h => h) (Or.inl ⟨by rfl, ?_⟩) (by assumption) ?_
  rotate_left 1
  · intro wz hSw
    obtain ⟨s0, s1, s2, s3, s4, s5, s6, s7, s8, s9, s10, s11, s12⟩ := hSw
    first | (go_simp; done) | (go_simp; with_reducible rfl)
  simp only [List.set_cons_zero, List.set_cons_succ]
  refine take_at (i := 1) (n := 9) (v := ?_) rfl rfl (by kernel_rfl) (by kernel_rfl) (by kernel_rfl) (fun _ _ _ h => h) (Or.inl ⟨by rfl, ?_⟩) (by assumption) ?_
  rotate_left 1
  · intro wz hSw
    obtain ⟨s0, s1, s2, s3, s4, s5, s6, s7, s8, s9, s10, s11, s12⟩ := hSw
    first | (go_simp; done) | (go_simp; with_reducible rfl)
  simp only [List.set_cons_zero, List.set_cons_succ]
  refine take_at (i := 2) (n := 10) (v := ?_) rfl rfl (by kernel_rfl) (by kernel_rfl) (by kernel_rfl) (fun _ _ _ h => h) (Or.inl ⟨by rfl, ?_⟩) (by assumption) ?_
  rotate_left 1
  · intro wz hSw
    obtain ⟨s0, s1, s2, s3, s4, s5, s6, s7, s8, s9, s10, s11, s12⟩ := hSw
    first | (go_simp; done) | (go_simp; with_reducible rfl)
  simp only [List.set_cons_zero, List.set_cons_succ]
  refine take_at (i := 3) (n := 11) (v := ?_) rfl rfl (by kernel_rfl) (by kernel_rfl) (by kernel_rfl) (fun _ _ _ h => h) (Or.inl ⟨by rfl, ?_⟩) (by assumption) ?_
  rotate_left 1
  · intro wz hSw
    obtain ⟨s0, s1, s2, s3, s4, s5, s6, s7, s8, s9, s10, s11, s12⟩ := hSw
    first | (go_simp; done) | (go_simp; with_reducible rfl)
  simp only [List.set_cons_zero, List.set_cons_succ]
  refine take_at (i := 4) (n := 12) (v := ?_) rfl rfl (by kernel_rfl) (by kernel_rfl) (by kernel_rfl) (fun _ _ _ h => h) (Or.inl ⟨by rfl, ?_⟩) (by assumption) ?_
  rotate_left 1
  · intro wz hSw
    obtain ⟨s0, s1, s2, s3, s4, s5, s6, s7, s8, s9, s10, s11, s12⟩ := hSw
    first | (go_simp; done) | (go_simp; with_reducible rfl)
  simp only [List.set_cons_zero, List.set_cons_succ]
  refine take_at (i := 5) (n := 13) (v := ?_) rfl rfl (by kernel_rfl) (by kernel_rfl) (by kernel_rfl) (fun _ _ _ h => h) (Or.inl ⟨by rfl, ?_⟩) (by assumption) ?_
  rotate_left 1
  · intro wz hSw
    obtain ⟨s0, s1, s2, s3, s4, s5, s6, s7, s8, s9, s10, s11, s12⟩ := hSw
    first | (go_simp; done) | (go_simp; with_reducible rfl)
  simp only [List.set_cons_zero, List.set_cons_succ]
  refine take_at (i := 6) (n := 14) (v := ?_) rfl rfl (by kernel_rfl) (by kernel_rfl) (by kernel_rfl) (fun _ _ _ h => h) (Or.inl ⟨by rfl, ?_⟩) (by assumption) ?_
  rotate_left 1
  · intro wz hSw
    obtain ⟨s0, s1, s2, s3, s4, s5, s6, s7, s8, s9, s10, s11, s12⟩ := hSw
    first | (go_simp; done) | (go_simp; with_reducible rfl)
  simp only [List.set_cons_zero, List.set_cons_succ]
  refine take_at (i := 7) (n := 15) (v := ?_) rfl rfl (by kernel_rfl) (by kernel_rfl) (by kernel_rfl) (fun _ _ _ h => h) (Or.inl ⟨by rfl, ?_⟩) (by assumption) ?_
  rotate_left 1
  · intro wz hSw
    obtain ⟨s0, s1, s2, s3, s4, s5, s6, s7, s8, s9, s10, s11, s12⟩ := hSw
    first | (go_simp; done) | (go_simp; with_reducible rfl)
  simp only [List.set_cons_zero, List.set_cons_succ]
  refine take_at (i := 8) (n := 16) (v := ?_) rfl rfl (by kernel_rfl) (by kernel_rfl) (by kernel_rfl) (fun _ _ _ h => h) (Or.inl ⟨by rfl, ?_⟩) (by assumption) ?_
  rotate_left 1
  · intro wz hSw
    obtain ⟨s0, s1, s2, s3, s4, s5, s6, s7, s8, s9, s10, s11, s12⟩ := hSw
    first | (go_simp; done) | (go_simp; with_reducible rfl)
  simp only [List.set_cons_zero, List.set_cons_succ]
  refine take_at (i := 10) (n := 18) (v := ?_) rfl rfl (by kernel_rfl) (by kernel_rfl) (by kernel_rfl) (fun _ _ _ h => h) (Or.inl ⟨by rfl, ?_⟩) (by assumption) ?_
  rotate_left 1
  · intro wz hSw
    obtain ⟨s0, s1, s2, s3, s4, s5, s6, s7, s8, s9, s10, s11, s12⟩ := hSw
    first | (go_simp; done) | (go_simp; with_reducible rfl)
  simp only [List.set_cons_zero, List.set_cons_succ]
  refine take_at (i := 11) (n := 19) (v := ?_) rfl rfl (by kernel_rfl) (by kernel_rfl) (by kernel_rfl) (fun _ _ _ h => h) (Or.inl ⟨by rfl, ?_⟩) (by assumption) ?_
  rotate_left 1
  · intro wz hSw
    obtain ⟨s0, s1, s2, s3, s4, s5, s6, s7, s8, s9, s10, s11, s12⟩ := hSw
    first | (go_simp; done) | (go_simp; with_reducible rfl)
  simp only [List.set_cons_zero, List.set_cons_succ]
  refine take_at (i := 12) (n := 20) (v := ?_) rfl rfl (by kernel_rfl) (by kernel_rfl) (by kernel_rfl) (fun _ _ _ h => h) (Or.inl ⟨by rfl, ?_⟩) (by assumption) ?_
  rotate_left 1
  · intro wz hSw
    obtain ⟨s0, s1, s2, s3, s4, s5, s6, s7, s8, s9, s10, s11, s12⟩ := hSw
    first | (go_simp; done) | (go_simp; with_reducible rfl)
  simp only [List.set_cons_zero, List.set_cons_succ]
  refine wpAnyH_ready (rs := [9]) (by kernel_rfl) (by simp) ?_
  refine AllReadyH.cons rfl (fun K hK => ?_) AllReadyH.nil
  go_simp
  go_wp2_with (go_at_call 87; refine (due_any _ ⟨xk, xa, xc, xd, xp⟩ ⟨yk, ya, yc, yd, yp⟩).mono ?_; rintro r w1 ⟨rfl, hg1⟩; have HG1 : Hid (Grown w w1) := ((Grown.refl w).drew).trans hg1; clear hg1)
  refine hK.out _ w1 (hSg.out w1 HG1.out) (fun hHeld => ?_)
  clear hK K
  refine wpAnyH_ready (rs := [13]) (by kernel_rfl) (by simp) ?_
  refine AllReadyH.cons rfl (fun K hK => ?_) AllReadyH.nil
  go_simp
  have hso := sooner_any w1 l _ jb a b (hSg.out w1 HG1.out).1 (HR.out.below (Grown.below HG1.out)) ha hb
  rw [hJa, hJb] at hso
  go_wp2_with (go_at_call 82; refine hso.mono ?_; rintro r w2 ⟨rfl, hg2⟩; have HG2 : Hid (Grown w w2) := HG1.out.trans hg2; clear hg2 hso)
  refine hK.out _ w2 (hSg.out w2 HG2.out) (fun hHeld => ?_)
  clear hK K
  obtain ⟨hcs, -, -⟩ := cells_of (l := [_, _]) (heap_alloc_new w2 (.cells #[.int .i64 (cmpI xd yd), .int .i64 (or2 (cmpI xa ya) (cmpI (a : Int) (b : Int)))] 3))
  have hc0 := hcs 0 _ rfl
  have hc1 := hcs 1 _ rfl
  clear hcs
  refine wpAnyH_ready (rs := [14]) (by kernel_rfl) (by simp) ?_
  refine AllReadyH.cons rfl (fun K hK => ?_) AllReadyH.nil
  go_simp
  refine hK.out _ _ (hSg.out _ (HG2.out.alloc _)) (fun hHeld => ?_)
  clear hK K
  refine wpAnyH_ready (rs := [15]) (by kernel_rfl) (by simp) ?_
  refine AllReadyH.cons rfl (fun K hK => ?_) AllReadyH.nil
  go_simp
  go_wp2_with (go_at_call 83; refine (Or2_any _ (cmpI xd yd) (or2 (cmpI xa ya) (cmpI (a : Int) (b : Int))) w2.heap.size hc0 hc1).mono ?_; rintro r w3 ⟨rfl, rfl⟩)
  refine hK.out _ _ (hSg.out _ (HG2.out.alloc _)) (fun hHeld => ?_)
  clear hK K
  refine take_at (i := 16) (n := 7) (v := ?_) rfl rfl (by kernel_rfl) (by kernel_rfl) (by kernel_rfl) (fun _ _ _ h => h) (Or.inl ⟨by rfl, ?_⟩) (by assumption) ?_
  rotate_left 1
  · intro wz hSw
    obtain ⟨s0, s1, s2, s3, s4, s5, s6, s7, s8, s9, s10, s11, s12⟩ := hSw
    first | (go_simp; done) | (go_simp; with_reducible rfl)
  simp only [List.set_cons_zero, List.set_cons_succ]
  refine wpAnyH_done (by kernel_rfl) ?_ _
  refine NoPanic.normal ?_
  go_wp2_with fail
  go_ret
  exact ⟨rfl, HG2.out.alloc _⟩

set_option maxRecDepth 20000 in
set_option maxHeartbeats 2000000 in
/-- The closure that ranks. -/
theorem rankGreat_any (w : World) (l : List Jb) (jv : Value) (jb ob sb a b : Nat) (hj : w.cell? ⟨jb, 0, none⟩ = some jv) (ho : w.cell? ⟨ob, 0, none⟩ = some (.func (.func 88) #[] #[])) (hs : w.cell? ⟨sb, 0, none⟩ = some (.func (.func 82) #[] #[.pointer (some ⟨jb, 0, none⟩)])) (hr : RowSl Jb.vals w l jv) (ha : a < l.length) (hb : b < l.length) :
    Calls Tryz.prog 86 #[.int .i64 (a : Int), .int .i64 (b : Int), .pointer (some ⟨ob, 0, none⟩), .pointer (some ⟨jb, 0, none⟩), .pointer (some ⟨sb, 0, none⟩)] w fun r w' => r = .returned (.int .i64 (or2 (cmpI (J l b).p (J l a).p) (or2 (cmpI (J l a).a (J l b).a) (cmpI (a : Int) (b : Int))))) ∧ Grown w w' := by
  have HR : Hid (RowSl Jb.vals w l jv) := hr
  obtain ⟨ja, jc, rfl, -, hjc, hjr⟩ := hr
  rcases hjr with hjr | ⟨jg, jo, rfl, hjr⟩
  · rw [hjr] at ha; simp at ha
  have hJ : ∀ i, i < l.length → l[i]? = some (J l i) := fun i hi => by unfold J; rw [List.getD_eq_getElem?_getD, List.getElem?_eq_getElem hi]; rfl
  have dA : ∀ i, i < l.length → ∀ f u, f < 5 → (J l i).vals[f]? = some u → w.cell? ⟨jg, jo + (i * 5 + f), none⟩ = some u := fun i hi f u hf hu => hjr _ _ ((flat_at Jb.vals 5 Jb.len l i f _ (hJ i hi) hf).trans hu)
  obtain ⟨xk, xa, xc, xd, xp, hJa⟩ : ∃ k a' c d p, J l a = ⟨k, a', c, d, p⟩ := ⟨_, _, _, _, _, rfl⟩
  obtain ⟨yk, ya, yc, yd, yp, hJb⟩ : ∃ k a' c d p, J l b = ⟨k, a', c, d, p⟩ := ⟨_, _, _, _, _, rfl⟩
  have ea := dA a ha
  have eb := dA b hb
  rw [hJa] at ea
  rw [hJb] at eb
  simp only [← Nat.add_assoc] at ea eb
  have hS0 : (fun w' : World => w'.cell? ⟨jb, 0, none⟩ = some (.slice (some ⟨jg, jo, none⟩) l.length jc) ∧ w'.cell? ⟨ob, 0, none⟩ = some (.func (.func 88) #[] #[]) ∧ w'.cell? ⟨sb, 0, none⟩ = some (.func (.func 82) #[] #[.pointer (some ⟨jb, 0, none⟩)]) ∧ w'.cell? ⟨jg, jo + a * 5, none⟩ = some (.int .i64 xk) ∧ w'.cell? ⟨jg, jo + a * 5 + 1, none⟩ = some (.int .i64 xa) ∧ w'.cell? ⟨jg, jo + a * 5 + 2, none⟩ = some (.int .i64 xc) ∧ w'.cell? ⟨jg, jo + a * 5 + 3, none⟩ = some (.int .i64 xd) ∧ w'.cell? ⟨jg, jo + a * 5 + 4, none⟩ = some (.int .i64 xp) ∧ w'.cell? ⟨jg, jo + b * 5, none⟩ = some (.int .i64 yk) ∧ w'.cell? ⟨jg, jo + b * 5 + 1, none⟩ = some (.int .i64 ya) ∧ w'.cell? ⟨jg, jo + b * 5 + 2, none⟩ = some (.int .i64 yc) ∧ w'.cell? ⟨jg, jo + b * 5 + 3, none⟩ = some (.int .i64 yd) ∧ w'.cell? ⟨jg, jo + b * 5 + 4, none⟩ = some (.int .i64 yp)) w := ⟨hj, ho, hs, ea 0 _ (by omega) rfl, ea 1 _ (by omega) rfl, ea 2 _ (by omega) rfl, ea 3 _ (by omega) rfl, ea 4 _ (by omega) rfl, eb 0 _ (by omega) rfl, eb 1 _ (by omega) rfl, eb 2 _ (by omega) rfl, eb 3 _ (by omega) rfl, eb 4 _ (by omega) rfl⟩
  have hSg : Hid (∀ w'', Grown w w'' → (fun w' : World => w'.cell? ⟨jb, 0, none⟩ = some (.slice (some ⟨jg, jo, none⟩) l.length jc) ∧ w'.cell? ⟨ob, 0, none⟩ = some (.func (.func 88) #[] #[]) ∧ w'.cell? ⟨sb, 0, none⟩ = some (.func (.func 82) #[] #[.pointer (some ⟨jb, 0, none⟩)]) ∧ w'.cell? ⟨jg, jo + a * 5, none⟩ = some (.int .i64 xk) ∧ w'.cell? ⟨jg, jo + a * 5 + 1, none⟩ = some (.int .i64 xa) ∧ w'.cell? ⟨jg, jo + a * 5 + 2, none⟩ = some (.int .i64 xc) ∧ w'.cell? ⟨jg, jo + a * 5 + 3, none⟩ = some (.int .i64 xd) ∧ w'.cell? ⟨jg, jo + a * 5 + 4, none⟩ = some (.int .i64 xp) ∧ w'.cell? ⟨jg, jo + b * 5, none⟩ = some (.int .i64 yk) ∧ w'.cell? ⟨jg, jo + b * 5 + 1, none⟩ = some (.int .i64 ya) ∧ w'.cell? ⟨jg, jo + b * 5 + 2, none⟩ = some (.int .i64 yc) ∧ w'.cell? ⟨jg, jo + b * 5 + 3, none⟩ = some (.int .i64 yd) ∧ w'.cell? ⟨jg, jo + b * 5 + 4, none⟩ = some (.int .i64 yp)) w'') := fun w'' hg => by
    obtain ⟨s0, s1, s2, s3, s4, s5, s6, s7, s8, s9, s10, s11, s12⟩ := hS0
    have hb := hg.below
    exact ⟨below_cell hb s0, below_cell hb s1, below_cell hb s2, below_cell hb s3, below_cell hb s4, below_cell hb s5, below_cell hb s6, below_cell hb s7, below_cell hb s8, below_cell hb s9, below_cell hb s10, below_cell hb s11, below_cell hb s12⟩
  have hai : (a : Int) < (l.length : Int) := by omega
  have hbi : (b : Int) < (l.length : Int) := by omega
  rw [hJa, hJb]
  dsimp only
  clear dA hJ hjr ea eb hS0
  go_enter Tryz.func86, Tryz.ntmps86
  go_wp2_with fail
  refine wp_region_noPanic ?_
  refine wp_region_held_drew (S := fun w' => w'.cell? ⟨jb, 0, none⟩ = some (.slice (some ⟨jg, jo, none⟩) l.length jc) ∧ w'.cell? ⟨ob, 0, none⟩ = some (.func (.func 88) #[] #[]) ∧ w'.cell? ⟨sb, 0, none⟩ = some (.func (.func 82) #[] #[.pointer (some ⟨jb, 0, none⟩)]) ∧ w'.cell? ⟨jg, jo + a * 5, none⟩ = some (.int .i64 xk) ∧ w'.cell? ⟨jg, jo + a * 5 + 1, none⟩ = some (.int .i64 xa) ∧ w'.cell? ⟨jg, jo + a * 5 + 2, none⟩ = some (.int .i64 xc) ∧ w'.cell? ⟨jg, jo + a * 5 + 3, none⟩ = some (.int .i64 xd) ∧ w'.cell? ⟨jg, jo + a * 5 + 4, none⟩ = some (.int .i64 xp) ∧ w'.cell? ⟨jg, jo + b * 5, none⟩ = some (.int .i64 yk) ∧ w'.cell? ⟨jg, jo + b * 5 + 1, none⟩ = some (.int .i64 ya) ∧ w'.cell? ⟨jg, jo + b * 5 + 2, none⟩ = some (.int .i64 yc) ∧ w'.cell? ⟨jg, jo + b * 5 + 3, none⟩ = some (.int .i64 yd) ∧ w'.cell? ⟨jg, jo + b * 5 + 4, none⟩ = some (.int .i64 yp)) (by kernel_rfl) (hSg.out w.drew (Grown.refl w).drew) (fun hHeld => ?_)
  refine take_at (i := 0) (n := 8) (v := ?_) rfl rfl (by kernel_rfl) (by kernel_rfl) (by kernel_rfl) (fun _ _ _ h => h) (Or.inl ⟨by rfl, ?_⟩) (by assumption) ?_
  rotate_left 1
  · intro wz hSw
    obtain ⟨s0, s1, s2, s3, s4, s5, s6, s7, s8, s9, s10, s11, s12⟩ := hSw
    first | (go_simp; done) | (go_simp; with_reducible rfl)
  simp only [List.set_cons_zero, List.set_cons_succ]
  refine take_at (i := 1) (n := 9) (v := ?_) rfl rfl (by kernel_rfl) (by kernel_rfl) (by kernel_rfl) (fun _ _ _ h => h) (Or.inl ⟨by rfl, ?_⟩) (by assumption) ?_
  rotate_left 1
  · intro wz hSw
    obtain ⟨s0, s1, s2, s3, s4, s5, s6, s7, s8, s9, s10, s11, s12⟩ := hSw
    first | (go_simp; done) | (go_simp; with_reducible rfl)
  simp only [List.set_cons_zero, List.set_cons_succ]
  refine take_at (i := 2) (n := 10) (v := ?_) rfl rfl (by kernel_rfl) (by kernel_rfl) (by kernel_rfl) (fun _ _ _ h => h) (Or.inl ⟨by rfl, ?_⟩) (by assumption) ?_
  rotate_left 1
  · intro wz hSw
    obtain ⟨s0, s1, s2, s3, s4, s5, s6, s7, s8, s9, s10, s11, s12⟩ := hSw
    first | (go_simp; done) | (go_simp; with_reducible rfl)
  simp only [List.set_cons_zero, List.set_cons_succ]
  refine take_at (i := 3) (n := 11) (v := ?_) rfl rfl (by kernel_rfl) (by kernel_rfl) (by kernel_rfl) (fun _ _ _ h => h) (Or.inl ⟨by rfl, ?_⟩) (by assumption) ?_
  rotate_left 1
  · intro wz hSw
    obtain ⟨s0, s1, s2, s3, s4, s5, s6, s7, s8, s9, s10, s11, s12⟩ := hSw
    first | (go_simp; done) | (go_simp; with_reducible rfl)
  simp only [List.set_cons_zero, List.set_cons_succ]
  refine take_at (i := 4) (n := 12) (v := ?_) rfl rfl (by kernel_rfl) (by kernel_rfl) (by kernel_rfl) (fun _ _ _ h => h) (Or.inl ⟨by rfl, ?_⟩) (by assumption) ?_
  rotate_left 1
  · intro wz hSw
    obtain ⟨s0, s1, s2, s3, s4, s5, s6, s7, s8, s9, s10, s11, s12⟩ := hSw
    first | (go_simp; done) | (go_simp; with_reducible rfl)
  simp only [List.set_cons_zero, List.set_cons_succ]
  refine take_at (i := 5) (n := 13) (v := ?_) rfl rfl (by kernel_rfl) (by kernel_rfl) (by kernel_rfl) (fun _ _ _ h => h) (Or.inl ⟨by rfl, ?_⟩) (by assumption) ?_
  rotate_left 1
  · intro wz hSw
    obtain ⟨s0, s1, s2, s3, s4, s5, s6, s7, s8, s9, s10, s11, s12⟩ := hSw
    first | (go_simp; done) | (go_simp; with_reducible rfl)
  simp only [List.set_cons_zero, List.set_cons_succ]
  refine take_at (i := 6) (n := 14) (v := ?_) rfl rfl (by kernel_rfl) (by kernel_rfl) (by kernel_rfl) (fun _ _ _ h => h) (Or.inl ⟨by rfl, ?_⟩) (by assumption) ?_
  rotate_left 1
  · intro wz hSw
    obtain ⟨s0, s1, s2, s3, s4, s5, s6, s7, s8, s9, s10, s11, s12⟩ := hSw
    first | (go_simp; done) | (go_simp; with_reducible rfl)
  simp only [List.set_cons_zero, List.set_cons_succ]
  refine take_at (i := 7) (n := 15) (v := ?_) rfl rfl (by kernel_rfl) (by kernel_rfl) (by kernel_rfl) (fun _ _ _ h => h) (Or.inl ⟨by rfl, ?_⟩) (by assumption) ?_
  rotate_left 1
  · intro wz hSw
    obtain ⟨s0, s1, s2, s3, s4, s5, s6, s7, s8, s9, s10, s11, s12⟩ := hSw
    first | (go_simp; done) | (go_simp; with_reducible rfl)
  simp only [List.set_cons_zero, List.set_cons_succ]
  refine take_at (i := 8) (n := 16) (v := ?_) rfl rfl (by kernel_rfl) (by kernel_rfl) (by kernel_rfl) (fun _ _ _ h => h) (Or.inl ⟨by rfl, ?_⟩) (by assumption) ?_
  rotate_left 1
  · intro wz hSw
    obtain ⟨s0, s1, s2, s3, s4, s5, s6, s7, s8, s9, s10, s11, s12⟩ := hSw
    first | (go_simp; done) | (go_simp; with_reducible rfl)
  simp only [List.set_cons_zero, List.set_cons_succ]
  refine take_at (i := 10) (n := 18) (v := ?_) rfl rfl (by kernel_rfl) (by kernel_rfl) (by kernel_rfl) (fun _ _ _ h => h) (Or.inl ⟨by rfl, ?_⟩) (by assumption) ?_
  rotate_left 1
  · intro wz hSw
    obtain ⟨s0, s1, s2, s3, s4, s5, s6, s7, s8, s9, s10, s11, s12⟩ := hSw
    first | (go_simp; done) | (go_simp; with_reducible rfl)
  simp only [List.set_cons_zero, List.set_cons_succ]
  refine take_at (i := 11) (n := 19) (v := ?_) rfl rfl (by kernel_rfl) (by kernel_rfl) (by kernel_rfl) (fun _ _ _ h => h) (Or.inl ⟨by rfl, ?_⟩) (by assumption) ?_
  rotate_left 1
  · intro wz hSw
    obtain ⟨s0, s1, s2, s3, s4, s5, s6, s7, s8, s9, s10, s11, s12⟩ := hSw
    first | (go_simp; done) | (go_simp; with_reducible rfl)
  simp only [List.set_cons_zero, List.set_cons_succ]
  refine take_at (i := 12) (n := 20) (v := ?_) rfl rfl (by kernel_rfl) (by kernel_rfl) (by kernel_rfl) (fun _ _ _ h => h) (Or.inl ⟨by rfl, ?_⟩) (by assumption) ?_
  rotate_left 1
  · intro wz hSw
    obtain ⟨s0, s1, s2, s3, s4, s5, s6, s7, s8, s9, s10, s11, s12⟩ := hSw
    first | (go_simp; done) | (go_simp; with_reducible rfl)
  simp only [List.set_cons_zero, List.set_cons_succ]
  refine wpAnyH_ready (rs := [9]) (by kernel_rfl) (by simp) ?_
  refine AllReadyH.cons rfl (fun K hK => ?_) AllReadyH.nil
  go_simp
  go_wp2_with (go_at_call 88; refine (great_any _ ⟨xk, xa, xc, xd, xp⟩ ⟨yk, ya, yc, yd, yp⟩).mono ?_; rintro r w1 ⟨rfl, hg1⟩; have HG1 : Hid (Grown w w1) := ((Grown.refl w).drew).trans hg1; clear hg1)
  refine hK.out _ w1 (hSg.out w1 HG1.out) (fun hHeld => ?_)
  clear hK K
  refine wpAnyH_ready (rs := [13]) (by kernel_rfl) (by simp) ?_
  refine AllReadyH.cons rfl (fun K hK => ?_) AllReadyH.nil
  go_simp
  have hso := sooner_any w1 l _ jb a b (hSg.out w1 HG1.out).1 (HR.out.below (Grown.below HG1.out)) ha hb
  rw [hJa, hJb] at hso
  go_wp2_with (go_at_call 82; refine hso.mono ?_; rintro r w2 ⟨rfl, hg2⟩; have HG2 : Hid (Grown w w2) := HG1.out.trans hg2; clear hg2 hso)
  refine hK.out _ w2 (hSg.out w2 HG2.out) (fun hHeld => ?_)
  clear hK K
  obtain ⟨hcs, -, -⟩ := cells_of (l := [_, _]) (heap_alloc_new w2 (.cells #[.int .i64 (cmpI yp xp), .int .i64 (or2 (cmpI xa ya) (cmpI (a : Int) (b : Int)))] 3))
  have hc0 := hcs 0 _ rfl
  have hc1 := hcs 1 _ rfl
  clear hcs
  refine wpAnyH_ready (rs := [14]) (by kernel_rfl) (by simp) ?_
  refine AllReadyH.cons rfl (fun K hK => ?_) AllReadyH.nil
  go_simp
  refine hK.out _ _ (hSg.out _ (HG2.out.alloc _)) (fun hHeld => ?_)
  clear hK K
  refine wpAnyH_ready (rs := [15]) (by kernel_rfl) (by simp) ?_
  refine AllReadyH.cons rfl (fun K hK => ?_) AllReadyH.nil
  go_simp
  go_wp2_with (go_at_call 83; refine (Or2_any _ (cmpI yp xp) (or2 (cmpI xa ya) (cmpI (a : Int) (b : Int))) w2.heap.size hc0 hc1).mono ?_; rintro r w3 ⟨rfl, rfl⟩)
  refine hK.out _ _ (hSg.out _ (HG2.out.alloc _)) (fun hHeld => ?_)
  clear hK K
  refine take_at (i := 16) (n := 7) (v := ?_) rfl rfl (by kernel_rfl) (by kernel_rfl) (by kernel_rfl) (fun _ _ _ h => h) (Or.inl ⟨by rfl, ?_⟩) (by assumption) ?_
  rotate_left 1
  · intro wz hSw
    obtain ⟨s0, s1, s2, s3, s4, s5, s6, s7, s8, s9, s10, s11, s12⟩ := hSw
    first | (go_simp; done) | (go_simp; with_reducible rfl)
  simp only [List.set_cons_zero, List.set_cons_succ]
  refine wpAnyH_done (by kernel_rfl) ?_ _
  refine NoPanic.normal ?_
  go_wp2_with fail
  go_ret
  exact ⟨rfl, HG2.out.alloc _⟩
end Go.Proofs.YtccoobcggbbciaiGreatDoor.S8
