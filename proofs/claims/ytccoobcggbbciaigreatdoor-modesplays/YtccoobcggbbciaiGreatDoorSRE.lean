import Derived.Test.YtccoobcggbbciaiGreatDoorSRC
namespace Go.Proofs.YtccoobcggbbciaiGreatDoor.S8
open Go.ChangeShapes Go.WideShapes Go.ChangeAt Go.RowKit

def or2 (x y : Int) : Int := if x ≠ 0 then x else y

set_option maxRecDepth 20000 in
theorem Or2_any (w : World) (x y : Int) (b : Nat) (h0 : w.cell? ⟨b, 0, none⟩ = some (.int .i64 x)) (h1 : w.cell? ⟨b, 1, none⟩ = some (.int .i64 y)) :
    Calls Tryz.prog 83 #[.slice (some ⟨b, 0, none⟩) 2 2] w fun r w' => r = .returned (.int .i64 (or2 x y)) ∧ w' = w := by
  go_enter Tryz.func83, Tryz.ntmps83
  go_wp2_with fail
  go_loopw [8] (fun i wr => ∃ k : Nat, k ≤ 2 ∧ i = .int .i64 k ∧ wr = w ∧ (1 ≤ k → x = 0) ∧ (2 ≤ k → y = 0)) (fun i _ => 2 - (intOf i).toNat)
  case atStart => exact ⟨0, by omega, rfl, rfl, by omega, by omega⟩
  case round =>
    obtain ⟨k, hk, rfl, rfl, hx, hy⟩ := hrel
    have : k = 0 ∨ k = 1 ∨ k = 2 := by omega
    rcases this with rfl | rfl | rfl
    · clear hx hy
      by_cases e : x = 0
      · have e' : (x != 0) = false := by simp [e]
        have He : Hid (x = 0) := e
        clear e
        go_wp2_with fail
        exact ⟨⟨1, by omega, by simp, trivial, fun _ => He.out, by omega⟩, by simp [intOf]⟩
      · have e' : (x != 0) = true := by simp [e]
        go_wp2_with fail
        go_ret
        exact ⟨by simp [or2, e], rfl⟩
    · have Hx : Hid (x = 0) := hx (by omega)
      clear hx hy
      by_cases e : y = 0
      · have e' : (y != 0) = false := by simp [e]
        have He : Hid (y = 0) := e
        clear e
        go_wp2_with fail
        exact ⟨⟨2, by omega, by simp, trivial, fun _ => Hx.out, fun _ => He.out⟩, by simp [intOf]⟩
      · have e' : (y != 0) = true := by simp [e]
        go_wp2_with fail
        go_ret
        exact ⟨by simp [or2, Hx.out], rfl⟩
    · have Hx : Hid (x = 0 ∧ y = 0) := ⟨hx (by omega), hy (by omega)⟩
      clear hx hy
      go_wp2_with fail
      go_ret
      exact ⟨by simp [or2, Hx.out.1, Hx.out.2], rfl⟩

def jagg (x : Jb) : Value := .agg #[.int .i64 x.k, .int .i64 x.a, .int .i64 x.c, .int .i64 x.d, .int .i64 x.p]

set_option maxRecDepth 20000 in
theorem due_any (w : World) (x y : Jb) : Calls Tryz.prog 87 #[jagg x, jagg y] w fun r w' => r = .returned (.int .i64 (cmpI x.d y.d)) ∧ Grown w w' := by
  unfold jagg
  go_enter Tryz.func87, Tryz.ntmps87
  go_wp2_with (go_at_call 84; refine (Compare_any _ x.d y.d).mono ?_; rintro r w1 ⟨rfl, rfl⟩)
  go_ret
  exact ⟨rfl, ((Grown.refl w).alloc _).alloc _⟩

set_option maxRecDepth 20000 in
theorem great_any (w : World) (x y : Jb) : Calls Tryz.prog 88 #[jagg x, jagg y] w fun r w' => r = .returned (.int .i64 (cmpI y.p x.p)) ∧ Grown w w' := by
  unfold jagg
  go_enter Tryz.func88, Tryz.ntmps88
  go_wp2_with (go_at_call 84; refine (Compare_any _ y.p x.p).mono ?_; rintro r w1 ⟨rfl, rfl⟩)
  go_ret
  exact ⟨rfl, ((Grown.refl w).alloc _).alloc _⟩
end Go.Proofs.YtccoobcggbbciaiGreatDoor.S8
namespace Go.Proofs.YtccoobcggbbciaiGreatDoor.S8
open Go.ChangeShapes Go.WideShapes Go.ChangeAt Go.RowKit

set_option maxRecDepth 20000 in
set_option maxHeartbeats 1000000 in
/-- The closure that says who comes sooner: the jobs lie in a box. -/
theorem sooner_any (w : World) (l : List Jb) (jv : Value) (jb a b : Nat) (hj : w.cell? ⟨jb, 0, none⟩ = some jv) (hr : RowSl Jb.vals w l jv) (ha : a < l.length) (hb : b < l.length) :
    Calls Tryz.prog 82 #[.int .i64 (a : Int), .int .i64 (b : Int), .pointer (some ⟨jb, 0, none⟩)] w fun r w' => r = .returned (.int .i64 (or2 (cmpI (J l a).a (J l b).a) (cmpI (a : Int) (b : Int)))) ∧ Grown w w' := by
  obtain ⟨ja, jc, rfl, -, hjc, hjr⟩ := hr
  rcases hjr with hjr | ⟨jg, jo, rfl, hjr⟩
  · rw [hjr] at ha; simp at ha
  have hJ : ∀ i, i < l.length → l[i]? = some (J l i) := fun i hi => by unfold J; rw [List.getD_eq_getElem?_getD, List.getElem?_eq_getElem hi]; rfl
  have dA : ∀ i, i < l.length → w.cell? ⟨jg, jo + i * 5 + 1, none⟩ = some (.int .i64 (J l i).a) := fun i hi => by
    rw [Nat.add_assoc]
    exact hjr _ _ ((flat_at Jb.vals 5 Jb.len l i 1 _ (hJ i hi) (by omega)).trans rfl)
  have d1 := dA a ha
  have d2 := dA b hb
  have hai : (a : Int) < (l.length : Int) := by omega
  have hbi : (b : Int) < (l.length : Int) := by omega
  clear dA hJ hjr
  generalize (J l a).a = A1 at *
  generalize (J l b).a = A2 at *
  go_enter Tryz.func82, Tryz.ntmps82
  go_wp2_with fail
  have hS0 : (fun w' : World => w'.cell? ⟨jb, 0, none⟩ = some (.slice (some ⟨jg, jo, none⟩) l.length jc) ∧ w'.cell? ⟨jg, jo + a * 5 + 1, none⟩ = some (.int .i64 A1) ∧ w'.cell? ⟨jg, jo + b * 5 + 1, none⟩ = some (.int .i64 A2)) w.drew := ⟨hj, d1, d2⟩
  refine wp_region_noPanic ?_
  refine wp_region_held_drew (S := fun w' => w'.cell? ⟨jb, 0, none⟩ = some (.slice (some ⟨jg, jo, none⟩) l.length jc) ∧ w'.cell? ⟨jg, jo + a * 5 + 1, none⟩ = some (.int .i64 A1) ∧ w'.cell? ⟨jg, jo + b * 5 + 1, none⟩ = some (.int .i64 A2)) (by kernel_rfl) hS0 (fun hHeld => ?_)
  refine take_at (i := 0) (n := 6) (v := ?_) rfl rfl (by kernel_rfl) (by kernel_rfl) (by kernel_rfl) (fun _ _ _ h => h) (Or.inl ⟨by rfl, ?_⟩) (by assumption) ?_
  rotate_left 1
  · intro wz hSw
    obtain ⟨s0, s1, s2⟩ := hSw
    first | (go_simp; done) | (go_simp; with_reducible rfl)
  simp only [List.set_cons_zero, List.set_cons_succ]
  refine take_at (i := 1) (n := 7) (v := ?_) rfl rfl (by kernel_rfl) (by kernel_rfl) (by kernel_rfl) (fun _ _ _ h => h) (Or.inl ⟨by rfl, ?_⟩) (by assumption) ?_
  rotate_left 1
  · intro wz hSw
    obtain ⟨s0, s1, s2⟩ := hSw
    first | (go_simp; done) | (go_simp; with_reducible rfl)
  simp only [List.set_cons_zero, List.set_cons_succ]
  refine take_at (i := 2) (n := 8) (v := ?_) rfl rfl (by kernel_rfl) (by kernel_rfl) (by kernel_rfl) (fun _ _ _ h => h) (Or.inl ⟨by rfl, ?_⟩) (by assumption) ?_
  rotate_left 1
  · intro wz hSw
    obtain ⟨s0, s1, s2⟩ := hSw
    first | (go_simp; done) | (go_simp; with_reducible rfl)
  simp only [List.set_cons_zero, List.set_cons_succ]
  refine take_at (i := 3) (n := 9) (v := ?_) rfl rfl (by kernel_rfl) (by kernel_rfl) (by kernel_rfl) (fun _ _ _ h => h) (Or.inl ⟨by rfl, ?_⟩) (by assumption) ?_
  rotate_left 1
  · intro wz hSw
    obtain ⟨s0, s1, s2⟩ := hSw
    first | (go_simp; done) | (go_simp; with_reducible rfl)
  simp only [List.set_cons_zero, List.set_cons_succ]
  refine take_at (i := 4) (n := 10) (v := ?_) rfl rfl (by kernel_rfl) (by kernel_rfl) (by kernel_rfl) (fun _ _ _ h => h) (Or.inl ⟨by rfl, ?_⟩) (by assumption) ?_
  rotate_left 1
  · intro wz hSw
    obtain ⟨s0, s1, s2⟩ := hSw
    first | (go_simp; done) | (go_simp; with_reducible rfl)
  simp only [List.set_cons_zero, List.set_cons_succ]
  refine take_at (i := 5) (n := 11) (v := ?_) rfl rfl (by kernel_rfl) (by kernel_rfl) (by kernel_rfl) (fun _ _ _ h => h) (Or.inl ⟨by rfl, ?_⟩) (by assumption) ?_
  rotate_left 1
  · intro wz hSw
    obtain ⟨s0, s1, s2⟩ := hSw
    first | (go_simp; done) | (go_simp; with_reducible rfl)
  simp only [List.set_cons_zero, List.set_cons_succ]
  refine take_at (i := 6) (n := 12) (v := ?_) rfl rfl (by kernel_rfl) (by kernel_rfl) (by kernel_rfl) (fun _ _ _ h => h) (Or.inl ⟨by rfl, ?_⟩) (by assumption) ?_
  rotate_left 1
  · intro wz hSw
    obtain ⟨s0, s1, s2⟩ := hSw
    first | (go_simp; done) | (go_simp; with_reducible rfl)
  simp only [List.set_cons_zero, List.set_cons_succ]
  refine take_at (i := 7) (n := 13) (v := ?_) rfl rfl (by kernel_rfl) (by kernel_rfl) (by kernel_rfl) (fun _ _ _ h => h) (Or.inl ⟨by rfl, ?_⟩) (by assumption) ?_
  rotate_left 1
  · intro wz hSw
    obtain ⟨s0, s1, s2⟩ := hSw
    first | (go_simp; done) | (go_simp; with_reducible rfl)
  simp only [List.set_cons_zero, List.set_cons_succ]
  refine take_at (i := 8) (n := 14) (v := ?_) rfl rfl (by kernel_rfl) (by kernel_rfl) (by kernel_rfl) (fun _ _ _ h => h) (Or.inl ⟨by rfl, ?_⟩) (by assumption) ?_
  rotate_left 1
  · intro wz hSw
    obtain ⟨s0, s1, s2⟩ := hSw
    first | (go_simp; done) | (go_simp; with_reducible rfl)
  simp only [List.set_cons_zero, List.set_cons_succ]
  refine take_at (i := 9) (n := 15) (v := ?_) rfl rfl (by kernel_rfl) (by kernel_rfl) (by kernel_rfl) (fun _ _ _ h => h) (Or.inl ⟨by rfl, ?_⟩) (by assumption) ?_
  rotate_left 1
  · intro wz hSw
    obtain ⟨s0, s1, s2⟩ := hSw
    first | (go_simp; done) | (go_simp; with_reducible rfl)
  simp only [List.set_cons_zero, List.set_cons_succ]
  refine take_at (i := 11) (n := 17) (v := ?_) rfl rfl (by kernel_rfl) (by kernel_rfl) (by kernel_rfl) (fun _ _ _ h => h) (Or.inl ⟨by rfl, ?_⟩) (by assumption) ?_
  rotate_left 1
  · intro wz hSw
    obtain ⟨s0, s1, s2⟩ := hSw
    first | (go_simp; done) | (go_simp; with_reducible rfl)
  simp only [List.set_cons_zero, List.set_cons_succ]
  refine take_at (i := 12) (n := 18) (v := ?_) rfl rfl (by kernel_rfl) (by kernel_rfl) (by kernel_rfl) (fun _ _ _ h => h) (Or.inl ⟨by rfl, ?_⟩) (by assumption) ?_
  rotate_left 1
  · intro wz hSw
    obtain ⟨s0, s1, s2⟩ := hSw
    first | (go_simp; done) | (go_simp; with_reducible rfl)
  simp only [List.set_cons_zero, List.set_cons_succ]
  have hS1 : (fun w' : World => w'.cell? ⟨jb, 0, none⟩ = some (.slice (some ⟨jg, jo, none⟩) l.length jc) ∧ w'.cell? ⟨jg, jo + a * 5 + 1, none⟩ = some (.int .i64 A1) ∧ w'.cell? ⟨jg, jo + b * 5 + 1, none⟩ = some (.int .i64 A2)) (w.drew.alloc (.cells #[.int .i64 (cmpI A1 A2), .int .i64 (cmpI (a : Int) (b : Int))] 3)) := by
    obtain ⟨s0, s1, s2⟩ := hS0
    exact ⟨below_cell (below_new _ _) s0, below_cell (below_new _ _) s1, below_cell (below_new _ _) s2⟩
  obtain ⟨hcs, -, -⟩ := cells_of (l := [_, _]) (heap_alloc_new w.drew (.cells #[.int .i64 (cmpI A1 A2), .int .i64 (cmpI (a : Int) (b : Int))] 3))
  have hc0 := hcs 0 _ rfl
  have hc1 := hcs 1 _ rfl
  clear hcs
  rw [show w.drew.heap.size = w.heap.size from rfl] at hc0 hc1
  refine wpAnyH_ready (rs := [10]) (by kernel_rfl) (by simp) ?_
  refine AllReadyH.cons rfl (fun K hK => ?_) AllReadyH.nil
  go_simp
  go_wp2_with (go_at_call 84; refine (Compare_any _ A1 A2).mono ?_; rintro r w1 ⟨rfl, rfl⟩)
  refine hK.out _ _ hS0 (fun hHeld => ?_)
  clear hK K
  refine wpAnyH_ready (rs := [13]) (by kernel_rfl) (by simp) ?_
  refine AllReadyH.cons rfl (fun K hK => ?_) AllReadyH.nil
  go_simp
  go_wp2_with (go_at_call 84; refine (Compare_any _ (a : Int) (b : Int)).mono ?_; rintro r w1 ⟨rfl, rfl⟩)
  refine hK.out _ _ hS0 (fun hHeld => ?_)
  clear hK K
  refine wpAnyH_ready (rs := [14]) (by kernel_rfl) (by simp) ?_
  refine AllReadyH.cons rfl (fun K hK => ?_) AllReadyH.nil
  go_simp
  refine hK.out _ _ hS1 (fun hHeld => ?_)
  clear hK K
  refine wpAnyH_ready (rs := [15]) (by kernel_rfl) (by simp) ?_
  refine AllReadyH.cons rfl (fun K hK => ?_) AllReadyH.nil
  go_simp
  go_wp2_with (go_at_call 83; refine (Or2_any _ (cmpI A1 A2) (cmpI (a : Int) (b : Int)) w.heap.size hc0 hc1).mono ?_; rintro r w1 ⟨rfl, rfl⟩)
  refine hK.out _ _ hS1 (fun hHeld => ?_)
  clear hK K
  refine take_at (i := 16) (n := 5) (v := ?_) rfl rfl (by kernel_rfl) (by kernel_rfl) (by kernel_rfl) (fun _ _ _ h => h) (Or.inl ⟨by rfl, ?_⟩) (by assumption) ?_
  rotate_left 1
  · intro wz hSw
    obtain ⟨s0, s1, s2⟩ := hSw
    first | (go_simp; done) | (go_simp; with_reducible rfl)
  simp only [List.set_cons_zero, List.set_cons_succ]
  refine wpAnyH_done (by kernel_rfl) ?_ _
  refine NoPanic.normal ?_
  go_wp2_with fail
  go_ret
  exact ⟨rfl, (Grown.refl w).drew.alloc _⟩
end Go.Proofs.YtccoobcggbbciaiGreatDoor.S8
