import Derived.Test.YtkafihaajpifoafAD
import Derived.Test.YtkafihaajpifoafTN
namespace Go.Proofs.Ytkafihaajpifoaf
open Go.ChangeShapes Go.WideShapes Go.ChangeAt Go.RowKit

set_option maxRecDepth 20000 in
set_option maxHeartbeats 4000000 in
/-- May it be the last one? -/
theorem last_any (w : World) (l : List Ta) (bs : List Int) (left : List Nat) (v vb vL : Value) (b1 b2 b3 bL i : Nat) (hl : l.length ≤ 8) (hs : ∀ x ∈ l, stands x = true) (hbl : bs.length = l.length) (hi : i < l.length) (hb : ∀ b ∈ bs, 0 ≤ b ∧ b ≤ 10000) (hle : left.length ≤ 1000)
    (hv : RowSl Ta.vals w l v) (hvb : RowSl nuV w bs vb) (hL : RowSl nuV w (zI left) vL) (c1 : w.cell? ⟨b1, 0, none⟩ = some v) (c2 : w.cell? ⟨b2, 0, none⟩ = some vb) (c3 : w.cell? ⟨b3, 0, none⟩ = some (.func (Fn.func 40) #[] #[.pointer (some ⟨bL, 0, none⟩)])) (cL : w.cell? ⟨bL, 0, none⟩ = some vL) :
    Calls Try.prog 42 #[.int .i64 (i : Int), .pointer (some ⟨b1, 0, none⟩), .pointer (some ⟨b2, 0, none⟩), .pointer (some ⟨b3, 0, none⟩)] w fun r w' => r = .returned (.bool (lastIn l bs left i)) ∧ Below w.heap.size w w' := by
  have hib : i < bs.length := by omega
  obtain ⟨z, hz, hzd⟩ : ∃ z, bs[i]? = some z ∧ bs.getD i 0 = z := ⟨bs[i], List.getElem?_eq_getElem hib, by rw [List.getD_eq_getElem?_getD, List.getElem?_eq_getElem hib]; rfl⟩
  have hzb := hb z (List.mem_of_getElem? hz)
  have HW : Hid (∀ W, Below w.heap.size w W → Calls Try.prog 43 #[v, .int .i64 (i : Int), .int .i64 z, .func (Fn.func 40) #[] #[.pointer (some ⟨bL, 0, none⟩)]] W fun r w' => r = .returned (.tuple #[.int .i64 (worstF (inL left) l i z), .bool (decide (worstF (inL left) l i z ≠ 0))]) ∧ Below W.heap.size W w') := fun W h9 => worst2_any W l v bL i left vL z hl hs hi hzb.1 hzb.2 (hv.below h9) (below_cell h9 cL) (hL.below h9) hle
  have el : lastIn l bs left i = decide (worstF (inL left) l i z ≠ 0) := by unfold lastIn; rw [hzd]
  rw [el]
  obtain ⟨ad, c, rfl⟩ := hv.len
  obtain ⟨adb, cb, rfl, -, hcap, hrow⟩ := hvb
  rcases hrow with h | ⟨gb, ob, rfl, hrow⟩
  · rw [h] at hib; simp at hib
  have y0 := nu_at hrow hz
  have hib' : (i : Int) < (bs.length : Int) := by omega
  generalize worstF (inL left) l i z = ww at *
  clear hrow hv hL hz hzd hzb el cL hs hb
  go_enter Try.func42, Try.ntmps42
  go_wp2_with fail
  refine wp_region_noPanic ?_
  refine wp_region_held_drew (S := fun w' => Below w.heap.size w w' ∧ w'.cell? ⟨b1, 0, none⟩ = some (.slice ad l.length c) ∧ w'.cell? ⟨b2, 0, none⟩ = some (.slice (some ⟨gb, ob, none⟩) bs.length cb) ∧ w'.cell? ⟨gb, ob + i, none⟩ = some (.int .i64 z) ∧ w'.cell? ⟨b3, 0, none⟩ = some (.func (Fn.func 40) #[] #[.pointer (some ⟨bL, 0, none⟩)])) (by kernel_rfl) ⟨(Below.refl _ _).drew, c1, c2, y0, c3⟩ (fun hHeld => ?_)
  refine take_at (i := 0) (n := 9) (v := ?_) rfl rfl (by kernel_rfl) (by kernel_rfl) (by kernel_rfl) (fun _ _ _ h => h) (Or.inl ⟨by rfl, ?_⟩) (by assumption) ?_
  rotate_left 1
  · intro wz hSw
    obtain ⟨k0, k1, k2, k3, k4⟩ := hSw
    first | (go_simp; done) | (go_simp; with_reducible rfl)
  simp only [List.set_cons_zero, List.set_cons_succ]
  refine take_at (i := 1) (n := 10) (v := ?_) rfl rfl (by kernel_rfl) (by kernel_rfl) (by kernel_rfl) (fun _ _ _ h => h) (Or.inl ⟨by rfl, ?_⟩) (by assumption) ?_
  rotate_left 1
  · intro wz hSw
    obtain ⟨k0, k1, k2, k3, k4⟩ := hSw
    first | (go_simp; done) | (go_simp; with_reducible rfl)
  simp only [List.set_cons_zero, List.set_cons_succ]
  refine take_at (i := 2) (n := 11) (v := ?_) rfl rfl (by kernel_rfl) (by kernel_rfl) (by kernel_rfl) (fun _ _ _ h => h) (Or.inl ⟨by rfl, ?_⟩) (by assumption) ?_
  rotate_left 1
  · intro wz hSw
    obtain ⟨k0, k1, k2, k3, k4⟩ := hSw
    first | (go_simp; done) | (go_simp; with_reducible rfl)
  simp only [List.set_cons_zero, List.set_cons_succ]
  refine take_at (i := 3) (n := 12) (v := ?_) rfl rfl (by kernel_rfl) (by kernel_rfl) (by kernel_rfl) (fun _ _ _ h => h) (Or.inl ⟨by rfl, ?_⟩) (by assumption) ?_
  rotate_left 1
  · intro wz hSw
    obtain ⟨k0, k1, k2, k3, k4⟩ := hSw
    first | (go_simp; done) | (go_simp; with_reducible rfl)
  simp only [List.set_cons_zero, List.set_cons_succ]
  refine take_at (i := 4) (n := 13) (v := ?_) rfl rfl (by kernel_rfl) (by kernel_rfl) (by kernel_rfl) (fun _ _ _ h => h) (Or.inl ⟨by rfl, ?_⟩) (by assumption) ?_
  rotate_left 1
  · intro wz hSw
    obtain ⟨k0, k1, k2, k3, k4⟩ := hSw
    first | (go_simp; done) | (go_simp; with_reducible rfl)
  simp only [List.set_cons_zero, List.set_cons_succ]
  refine take_at (i := 5) (n := 14) (v := ?_) rfl rfl (by kernel_rfl) (by kernel_rfl) (by kernel_rfl) (fun _ _ _ h => h) (Or.inl ⟨by rfl, ?_⟩) (by assumption) ?_
  rotate_left 1
  · intro wz hSw
    obtain ⟨k0, k1, k2, k3, k4⟩ := hSw
    first | (go_simp; done) | (go_simp; with_reducible rfl)
  simp only [List.set_cons_zero, List.set_cons_succ]
  refine take_at (i := 6) (n := 15) (v := ?_) rfl rfl (by kernel_rfl) (by kernel_rfl) (by kernel_rfl) (fun _ _ _ h => h) (Or.inl ⟨by rfl, ?_⟩) (by assumption) ?_
  rotate_left 1
  · intro wz hSw
    obtain ⟨k0, k1, k2, k3, k4⟩ := hSw
    first | (go_simp; done) | (go_simp; with_reducible rfl)
  simp only [List.set_cons_zero, List.set_cons_succ]
  refine wpAnyH_ready (rs := [7]) (by kernel_rfl) (by simp) ?_
  refine AllReadyH.cons rfl (fun K hK => ?_) AllReadyH.nil
  go_simp
  go_wp2_with (go_at_call 43; refine (HW.out _ (Below.refl _ w).drew).mono ?_; rintro r w1 ⟨rfl, hb1⟩; have H1 : Hid (Below w.heap.size w w1) := below_seq (Below.refl _ w).drew hb1; clear hb1)
  refine hK.out _ _ ⟨H1.out, below_cell H1.out c1, below_cell H1.out c2, below_cell H1.out y0, below_cell H1.out c3⟩ (fun hHeld => ?_)
  clear hK K
  refine take_at (i := 8) (n := 8) (v := ?_) rfl rfl (by kernel_rfl) (by kernel_rfl) (by kernel_rfl) (fun _ _ _ h => h) (Or.inl ⟨by rfl, ?_⟩) (by assumption) ?_
  rotate_left 1
  · intro wz hSw
    obtain ⟨k0, k1, k2, k3, k4⟩ := hSw
    first | (go_simp; done) | (go_simp; with_reducible rfl)
  simp only [List.set_cons_zero, List.set_cons_succ]
  refine take_at (i := 9) (n := 17) (v := ?_) rfl rfl (by kernel_rfl) (by kernel_rfl) (by kernel_rfl) (fun _ _ _ h => h) (Or.inl ⟨by rfl, ?_⟩) (by assumption) ?_
  rotate_left 1
  · intro wz hSw
    obtain ⟨k0, k1, k2, k3, k4⟩ := hSw
    first | (go_simp; done) | (go_simp; with_reducible rfl)
  simp only [List.set_cons_zero, List.set_cons_succ]
  refine take_at (i := 10) (n := 18) (v := ?_) rfl rfl (by kernel_rfl) (by kernel_rfl) (by kernel_rfl) (fun _ _ _ h => h) (Or.inl ⟨by rfl, ?_⟩) (by assumption) ?_
  rotate_left 1
  · intro wz hSw
    obtain ⟨k0, k1, k2, k3, k4⟩ := hSw
    first | (go_simp; done) | (go_simp; with_reducible rfl)
  simp only [List.set_cons_zero, List.set_cons_succ]
  refine take_at (i := 11) (n := 6) (v := ?_) rfl rfl (by kernel_rfl) (by kernel_rfl) (by kernel_rfl) (fun _ _ _ h => h) (Or.inl ⟨by rfl, ?_⟩) (by assumption) ?_
  rotate_left 1
  · intro wz hSw
    obtain ⟨k0, k1, k2, k3, k4⟩ := hSw
    first | (go_simp; done) | (go_simp; with_reducible rfl)
  simp only [List.set_cons_zero, List.set_cons_succ]
  refine take_at (i := 12) (n := 7) (v := ?_) rfl rfl (by kernel_rfl) (by kernel_rfl) (by kernel_rfl) (fun _ _ _ h => h) (Or.inl ⟨by rfl, ?_⟩) (by assumption) ?_
  rotate_left 1
  · intro wz hSw
    obtain ⟨k0, k1, k2, k3, k4⟩ := hSw
    first | (go_simp; done) | (go_simp; with_reducible rfl)
  simp only [List.set_cons_zero, List.set_cons_succ]
  refine wpAnyH_done (by kernel_rfl) ?_ _
  refine NoPanic.normal ?_
  go_wp2_with fail
  go_ret
  refine ⟨?_, H1.out⟩
  simp

/- A copy of tasks. -/
theorem ta_one' {l : List Ta} {u : Value} (h : u ∈ l.flatMap Ta.vals) : u.oneCell' = true := by
  obtain ⟨x, -, h⟩ := List.mem_flatMap.1 h
  simp [Ta.vals] at h
  rcases h with h | h | h | h | h | h | h <;> subst h <;> rfl

theorem cloneT_any (w : World) (l : List Ta) (v : Value) (hv : RowSl Ta.vals w l v) (h0 : 0 < l.length) (hl : l.length ≤ 100000) : Calls Try.prog 38 #[v] w fun r w' => ∃ gO cap, r = .returned (.slice (some ⟨gO, 0, none⟩) l.length cap) ∧ w'.ownsRow w.heap.size 45 7 (.slice (some ⟨gO, 0, none⟩) l.length cap) l.length (l.flatMap Ta.vals) ∧ Below w.heap.size w w' := by
  obtain ⟨ad, c, rfl, h1, h2, h3⟩ := hv
  rcases h3 with h | ⟨b, o, rfl, hc⟩
  · rw [h] at h0; simp at h0
  obtain ⟨i0, hi0, hz0, hz1, hz2⟩ := info_parts infoTa
  have h := AnyE.slices_Clone lay_cloneTa i0 _ 7 _ hi0 hz0 hz1 hz2 rfl (by omega) Try.sizeOf45 b o l.length c (l.flatMap Ta.vals) w (flat_length Ta.vals 7 Ta.len l) (by unfold maxLen; omega) (by omega) hc (fun u hu => ta_one' hu)
  change Calls Try.prog 38 _ _ _ at h
  refine h.mono ?_
  rintro r w' ⟨v', rfl, ho, -, hb⟩
  have ho' := ho
  obtain ⟨-, ⟨-, e⟩ | ⟨g, cap, cur, rfl, -⟩⟩ := ho
  · omega
  · exact ⟨g, cap, rfl, ho', hb⟩

end Go.Proofs.Ytkafihaajpifoaf
