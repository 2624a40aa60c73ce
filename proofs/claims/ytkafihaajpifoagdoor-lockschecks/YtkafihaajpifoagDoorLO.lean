import Derived.Test.YtkafihaajpifoagDoorLN
import Derived.Test.YtkafihaajpifoagDoorLK
namespace Go.Proofs.YtkafihaajpifoagDoor
open Go.ChangeShapes Go.WideShapes Go.ChangeAt Go.RowKit

/-- Four numbers of one's own. -/
structure Four (w W : World) (g : Nat) (a b c d : Int) : Prop where
  bel : Below w.heap.size w W
  low : w.heap.size ≤ g
  row : W.heap[g]? = some (.cells #[.int .i64 a, .int .i64 b, .int .i64 c, .int .i64 d] 3 (0, 0))

theorem Four.grow {w W W' : World} {g : Nat} {a b c d : Int} (h : Four w W g a b c d) (hb : Below W.heap.size W W') : Four w W' g a b c d :=
  ⟨below_seq h.bel hb, h.low, (hb.block g (Array.getElem?_eq_some_iff.1 h.row).1).trans h.row⟩

theorem Four.set {w W : World} {g : Nat} {a b c d : Int} (h : Four w W g a b c d) (m : Nat) (hm : m < 4) (z : Int) : Four w (W.setCell ⟨g, m, none⟩ (.int .i64 z)) g (if m = 0 then z else a) (if m = 1 then z else b) (if m = 2 then z else c) (if m = 3 then z else d) := by
  refine ⟨h.bel.setCell h.low _, h.low, ?_⟩
  rw [setCell_at h.row]
  have : m = 0 ∨ m = 1 ∨ m = 2 ∨ m = 3 := by omega
  rcases this with rfl | rfl | rfl | rfl <;> rfl

theorem Four.sl {w W : World} {g : Nat} {a b c d : Int} (h : Four w W g a b c d) : RowSl nuV W [a, b, c, d] (.slice (some ⟨g, 0, none⟩) 4 4) := by
  refine ⟨_, _, rfl, (fun e => by cases e), Nat.le_refl _, .inr ⟨g, 0, rfl, fun q u hq => ?_⟩⟩
  rw [Nat.zero_add]
  exact (cells_of (l := [.int .i64 a, .int .i64 b, .int .i64 c, .int .i64 d]) h.row).1 q u hq

theorem Four.at {w W : World} {g : Nat} {a b c d : Int} (h : Four w W g a b c d) (m : Nat) (hm : m < 4) : W.cell? ⟨g, m, none⟩ = some (.int .i64 (if m = 0 then a else if m = 1 then b else if m = 2 then c else d)) ∧ W.frozen? ⟨g, m, none⟩ = false ∧ g < W.heap.size := by
  obtain ⟨k1, k2, k3⟩ := cells_of (l := [.int .i64 a, .int .i64 b, .int .i64 c, .int .i64 d]) h.row
  have : m = 0 ∨ m = 1 ∨ m = 2 ∨ m = 3 := by omega
  rcases this with rfl | rfl | rfl | rfl <;> exact ⟨k1 _ _ rfl, k2 _, k3⟩

theorem top_set {p a0 a1 a2 a3 zm : Int} {m : Nat} {r l : List Ac} {q0 q1 q2 q3 : Int} (hm : m < 4) (hz : (if m = 0 then a0 else if m = 1 then a1 else if m = 2 then a2 else a3) = zm)
    (h : topA p 0 r (if (2 : Int) = 2 ∧ (m : Int) = 0 then max a0 p else a0) = topA p 0 l q0 ∧ topA p 1 r (if (2 : Int) = 2 ∧ (m : Int) = 1 then max a1 p else a1) = topA p 1 l q1 ∧ topA p 2 r (if (2 : Int) = 2 ∧ (m : Int) = 2 then max a2 p else a2) = topA p 2 l q2 ∧ topA p 3 r (if (2 : Int) = 2 ∧ (m : Int) = 3 then max a3 p else a3) = topA p 3 l q3) :
    topA p 0 r (if m = 0 then max zm p else a0) = topA p 0 l q0 ∧ topA p 1 r (if m = 1 then max zm p else a1) = topA p 1 l q1 ∧ topA p 2 r (if m = 2 then max zm p else a2) = topA p 2 l q2 ∧ topA p 3 r (if m = 3 then max zm p else a3) = topA p 3 l q3 := by
  have : m = 0 ∨ m = 1 ∨ m = 2 ∨ m = 3 := by omega
  subst hz
  rcases this with rfl | rfl | rfl | rfl <;> simpa using h

/-- Of a right job each Take is of one of the four. -/
theorem take_range : ∀ (l : List Ac) (st : List Int) (k : Nat), chkA l st k = (0, 0) → ∀ x ∈ l, x.d = 2 → 0 ≤ x.n ∧ x.n ≤ 3
  | [], _, _, _, x, hx, _ => by simp at hx
  | y :: r, st, k, h, x, hx, hd => by
    obtain ⟨hf, hk⟩ := chkA_fine h
    rcases List.mem_cons.1 hx with rfl | hx
    · generalize doS st x = s' at hf
      rcases hf with ⟨e, _, _⟩ | ⟨_, e1, e2, _⟩ | ⟨e, _, _⟩
      · omega
      · exact ⟨e1, e2⟩
      · omega
    · exact take_range r _ _ hk x hx hd

theorem chkL_right : ∀ (l : List Lj) (k : Nat), (chkL l k).1 = 0 → ∀ x ∈ l, chkActs x.acts = (0, 0) ∧ within x.a 0 20000 = true ∧ within x.p 0 1000 = true
  | [], _, _, x, hx => by simp at hx
  | y :: r, k, h, x, hx => by
    rw [chkL] at h
    by_cases h0 : lkOne y = 0
    · rw [if_pos h0] at h
      rcases List.mem_cons.1 hx with rfl | hx
      · unfold lkOne at h0
        by_cases hw : (within x.a 0 20000 && within x.p 0 1000) = true
        · rw [if_pos hw] at h0
          exact ⟨chkActs_zero h0, by simpa using hw⟩
        · rw [if_neg hw] at h0; cases h0
      · exact chkL_right r (k + 1) h x hx
    · rw [if_neg h0] at h
      exact absurd h h0

theorem chkLk_right {l : List Lj} (h : (chkLk l).1 = 0) : l.length ≤ 100 ∧ ∀ x ∈ l, chkActs x.acts = (0, 0) ∧ within x.a 0 20000 = true ∧ within x.p 0 1000 = true := by
  unfold chkLk at h
  by_cases h0 : 100 < l.length
  · rw [if_pos h0] at h; cases h
  · rw [if_neg h0] at h
    exact ⟨by omega, chkL_right l 0 h⟩

theorem chkL_zero : ∀ (l : List Lj) (k : Nat), (chkL l k).1 = 0 → chkL l k = (0, 0)
  | [], _, _ => rfl
  | y :: r, k, h => by
    rw [chkL] at h ⊢
    by_cases h0 : lkOne y = 0
    · rw [if_pos h0] at h ⊢
      exact chkL_zero r _ h
    · rw [if_neg h0] at h
      exact absurd h h0

theorem chkLk_zero {l : List Lj} (h : (chkLk l).1 = 0) : chkLk l = (0, 0) := by
  unfold chkLk at h ⊢
  by_cases h0 : 100 < l.length
  · rw [if_pos h0] at h; cases h
  · rw [if_neg h0] at h ⊢
    exact chkL_zero _ _ h

set_option maxRecDepth 20000 in
set_option maxHeartbeats 4000000 in
theorem ceilings_any (w : World) (l : List Lj) (v : Value) (hv : LkSl w l v) (hl : l.length ≤ 100) (hok : ∀ x ∈ l, chkActs x.acts = (0, 0)) : Calls Tryd.prog 33 #[v] w fun r w' => ∃ g a b c d, r = .returned (.slice (some ⟨g, 0, none⟩) 4 4) ∧ topsF l = [a, b, c, d] ∧ Four w w' g a b c d := by
  obtain ⟨⟨ad, c, rfl, -, hcap, hrow⟩, hacts⟩ := hv
  have HR : Hid ((l = [] ∨ ∃ b o, ad = some ⟨b, o, none⟩ ∧ ∀ q u, (l.flatMap Lj.vals)[q]? = some u → w.cell? ⟨b, o + q, none⟩ = some u) ∧ (∀ x ∈ l, RowSl Ac.vals w x.acts x.v) ∧ ∀ x ∈ l, chkActs x.acts = (0, 0)) := ⟨hrow, hacts, hok⟩
  clear hrow hacts hok
  have HRep := Repeat_any (w.alloc (.cells #[.int .i64 (-1)] 3)) w.heap.size 4 (heap_alloc_new _ _) (by omega)
  go_enter Tryd.func33, Tryd.ntmps33
  go_wp2_with (go_at_call 43; refine HRep.mono ?_; rintro r w1 ⟨g, rfl, hg1, hg2, hb1⟩; have H1 : Hid (Four w w1 g (-1) (-1) (-1) (-1)) := ⟨below_seq (below_new _ _) hb1, by simp at hg1; omega, hg2⟩; clear hg1 hg2 hb1 HRep)
  go_loopw [12] (fun i wr => ∃ (j : Nat) (a b c d : Int), j ≤ l.length ∧ i = .int .i64 j ∧ Four w wr g a b c d ∧ topL 0 (l.drop j) a = topL 0 l (-1) ∧ topL 1 (l.drop j) b = topL 1 l (-1) ∧ topL 2 (l.drop j) c = topL 2 l (-1) ∧ topL 3 (l.drop j) d = topL 3 l (-1)) (fun i _ => l.length - (intOf i).toNat)
  case atStart => exact ⟨0, -1, -1, -1, -1, Nat.zero_le _, rfl, H1.out, rfl, rfl, rfl, rfl⟩
  case round =>
    obtain ⟨j, q0, q1, q2, q3, hj, rfl, hf, hq⟩ := hrel
    by_cases hlt : j < l.length
    · obtain ⟨x, hx, hd⟩ := drop_at hlt
      rw [hd] at hq
      rcases HR.out.1 with h | ⟨b, o, rfl, hrow⟩
      · rw [h] at hlt; simp at hlt
      have ha := lj_at (fun q u hq => below_cell hf.bel (hrow q u hq)) hx
      have hmem := List.mem_of_getElem? hx
      have hac := (HR.out.2.1 x hmem).below hf.bel
      have hck := HR.out.2.2 x hmem
      obtain ⟨xa, xp, xacts, xv⟩ := x
      dsimp only at hac hck
      obtain ⟨hal, hao⟩ := chkActs_fine hck
      obtain ⟨aad, ac, rfl, -, hacap, harow⟩ := hac
      obtain ⟨c0, c1, c2⟩ := ha
      dsimp only at c0 c1 c2
      have lb : b < wr.heap.size := World.block_lt_of_cell? _ _ c0
      have hji : (j : Int) < (l.length : Int) := by omega
      simp only [topL] at hq
      have HQ : Hid (topL 0 (l.drop (j + 1)) (topA xp 0 xacts q0) = topL 0 l (-1) ∧ topL 1 (l.drop (j + 1)) (topA xp 1 xacts q1) = topL 1 l (-1) ∧ topL 2 (l.drop (j + 1)) (topA xp 2 xacts q2) = topL 2 l (-1) ∧ topL 3 (l.drop (j + 1)) (topA xp 3 xacts q3) = topL 3 l (-1)) := hq
      have HB : Hid (Four w (wr.alloc (.cells #[.int .i64 xa, .int .i64 xp, .slice aad xacts.length ac] 44)) g q0 q1 q2 q3) := hf.grow (below_new _ _)
      have hacW := HR.out.2.1 _ hmem
      have H8 : (∀ W, Below w.heap.size w W → (xacts = [] ∨ ∃ b o, aad = some ⟨b, o, none⟩ ∧ ∀ q u, (xacts.flatMap Ac.vals)[q]? = some u → W.cell? ⟨b, o + q, none⟩ = some u)) ∧ (∀ y ∈ xacts, y.d = 2 → 0 ≤ y.n ∧ y.n ≤ 3) ∧ g < wr.heap.size := ⟨fun W hb => by
        obtain ⟨_, _, e9, -, -, h9⟩ := hacW.below hb
        cases e9
        exact h9, take_range _ _ _ hao, (Array.getElem?_eq_some_iff.1 hf.row).1⟩
      obtain ⟨wo, hwo⟩ : ∃ wo, wo = wr := ⟨_, rfl⟩
      subst hwo
      clear hf hq hrow hx hd hck harow hao hmem hacW
      have H9 : Hid ((∀ W, Below w.heap.size w W → (xacts = [] ∨ ∃ b o, aad = some ⟨b, o, none⟩ ∧ ∀ q u, (xacts.flatMap Ac.vals)[q]? = some u → W.cell? ⟨b, o + q, none⟩ = some u)) ∧ (∀ y ∈ xacts, y.d = 2 → 0 ≤ y.n ∧ y.n ≤ 3) ∧ g < wo.heap.size) := H8
      clear H8
      go_wp2_with fail
      go_loopw [19] (fun i wl => ∃ (k : Nat) (a b c d : Int), k ≤ xacts.length ∧ i = .int .i64 k ∧ Four w wl g a b c d ∧ wl.heap[wo.heap.size]? = some (.cells #[.int .i64 xa, .int .i64 xp, .slice aad xacts.length ac] 44 (0, 0)) ∧ topA xp 0 (xacts.drop k) a = topA xp 0 xacts q0 ∧ topA xp 1 (xacts.drop k) b = topA xp 1 xacts q1 ∧ topA xp 2 (xacts.drop k) c = topA xp 2 xacts q2 ∧ topA xp 3 (xacts.drop k) d = topA xp 3 xacts q3) (fun i _ => xacts.length - (intOf i).toNat)
      case atStart => exact ⟨0, q0, q1, q2, q3, Nat.zero_le _, rfl, HB.out, heap_alloc_new _ _, rfl, rfl, rfl, rfl⟩
      case round =>
        obtain ⟨k, a0, a1, a2, a3, hk, rfl, hf, hjb, hq⟩ := hrel
        obtain ⟨jc, jf, jl⟩ := cells_of (l := [_, _, _]) hjb
        have jc1 := jc 1 _ rfl
        by_cases hkl : k < xacts.length
        · obtain ⟨y, hy, hyd⟩ := drop_at hkl
          rw [hyd] at hq
          simp only [topA] at hq
          have hrange := H9.out.2.1 y (List.mem_of_getElem? hy)
          rcases H9.out.1 wr hf.bel with h | ⟨rb, ro, rfl, hrow⟩
          · rw [h] at hkl; simp at hkl
          obtain ⟨e0, e1⟩ := ac_at hrow hy
          have rlb : rb < wr.heap.size := World.block_lt_of_cell? _ _ e0
          have hki : (k : Int) < (xacts.length : Int) := by omega
          obtain ⟨yd, yn⟩ := y
          dsimp only at e0 e1 hq hrange
          have HF : Hid (Four w (wr.alloc (.cells #[.int .i64 yd, .int .i64 yn] 48)) g a0 a1 a2 a3 ∧ (wr.alloc (.cells #[.int .i64 yd, .int .i64 yn] 48)).heap[wo.heap.size]? = some (.cells #[.int .i64 xa, .int .i64 xp, .slice (some ⟨rb, ro, none⟩) xacts.length ac] 44 (0, 0))) := ⟨hf.grow (below_new _ _), ((below_new _ _).block _ jl).trans hjb⟩
          by_cases hy2 : yd = 2
          · subst hy2
            obtain ⟨m, rfl⟩ : ∃ m : Nat, yn = (m : Int) := ⟨yn.toNat, by have := hrange rfl; omega⟩
            have hm : m < 4 := by have := hrange rfl; omega
            have hmi : (m : Int) < 4 := by omega
            obtain ⟨f1, f2, f3⟩ := (hf.grow (below_new wr (.cells #[.int .i64 2, .int .i64 (m : Int)] 48))).at m hm
            have hgl : g < wo.heap.size := H9.out.2.2
            have HM : Hid (m < 4) := hm
            have HQ2 : Hid (topA xp 0 (xacts.drop (k + 1)) (if (2 : Int) = 2 ∧ (m : Int) = 0 then max a0 xp else a0) = topA xp 0 xacts q0 ∧ topA xp 1 (xacts.drop (k + 1)) (if (2 : Int) = 2 ∧ (m : Int) = 1 then max a1 xp else a1) = topA xp 1 xacts q1 ∧ topA xp 2 (xacts.drop (k + 1)) (if (2 : Int) = 2 ∧ (m : Int) = 2 then max a2 xp else a2) = topA xp 2 xacts q2 ∧ topA xp 3 (xacts.drop (k + 1)) (if (2 : Int) = 2 ∧ (m : Int) = 3 then max a3 xp else a3) = topA xp 3 xacts q3) := hq
            generalize hz : (if m = 0 then a0 else if m = 1 then a1 else if m = 2 then a2 else a3) = zm at f1
            have HZ : Hid ((if m = 0 then a0 else if m = 1 then a1 else if m = 2 then a2 else a3) = zm) := hz
            clear hf hq hjb jc jf hrow hy hyd hrange hz hm
            go_wp2_with fail
            refine wp_region_noPanic ?_
            refine wp_region_held_drew (S := fun w' => w'.cell? ⟨wr.heap.size, 1, none⟩ = some (.int .i64 (m : Int)) ∧ w'.cell? ⟨wo.heap.size, 1, none⟩ = some (.int .i64 xp)) (by kernel_rfl) (by refine ⟨?_, ?_⟩ <;> go_simp) (fun hHeld => ?_)
            refine take_at (i := 0) (n := 26) (v := ?_) rfl rfl (by kernel_rfl) (by kernel_rfl) (by kernel_rfl) (fun _ _ _ h => h) (Or.inl ⟨by rfl, ?_⟩) (by assumption) ?_
            rotate_left 1
            · intro wz hSw
              obtain ⟨s0, s1⟩ := hSw
              first | (go_simp; done) | (go_simp; with_reducible rfl)
            simp only [List.set_cons_zero, List.set_cons_succ]
            refine take_at (i := 1) (n := 27) (v := ?_) rfl rfl (by kernel_rfl) (by kernel_rfl) (by kernel_rfl) (fun _ _ _ h => h) (Or.inl ⟨by rfl, ?_⟩) (by assumption) ?_
            rotate_left 1
            · intro wz hSw
              obtain ⟨s0, s1⟩ := hSw
              first | (go_simp; done) | (go_simp; with_reducible rfl)
            simp only [List.set_cons_zero, List.set_cons_succ]
            refine take_at (i := 2) (n := 28) (v := ?_) rfl rfl (by kernel_rfl) (by kernel_rfl) (by kernel_rfl) (fun _ _ _ h => h) (Or.inl ⟨by rfl, ?_⟩) (by assumption) ?_
            rotate_left 1
            · intro wz hSw
              obtain ⟨s0, s1⟩ := hSw
              first | (go_simp; done) | (go_simp; with_reducible rfl)
            simp only [List.set_cons_zero, List.set_cons_succ]
            refine take_at (i := 3) (n := 29) (v := ?_) rfl rfl (by kernel_rfl) (by kernel_rfl) (by kernel_rfl) (fun _ _ _ h => h) (Or.inl ⟨by rfl, ?_⟩) (by assumption) ?_
            rotate_left 1
            · intro wz hSw
              obtain ⟨s0, s1⟩ := hSw
              first | (go_simp; done) | (go_simp; with_reducible rfl)
            simp only [List.set_cons_zero, List.set_cons_succ]
            refine take_at (i := 4) (n := 30) (v := ?_) rfl rfl (by kernel_rfl) (by kernel_rfl) (by kernel_rfl) (fun _ _ _ h => h) (Or.inl ⟨by rfl, ?_⟩) (by assumption) ?_
            rotate_left 1
            · intro wz hSw
              obtain ⟨s0, s1⟩ := hSw
              first | (go_simp; done) | (go_simp; with_reducible rfl)
            simp only [List.set_cons_zero, List.set_cons_succ]
            refine take_at (i := 5) (n := 31) (v := ?_) rfl rfl (by kernel_rfl) (by kernel_rfl) (by kernel_rfl) (fun _ _ _ h => h) (Or.inl ⟨by rfl, ?_⟩) (by assumption) ?_
            rotate_left 1
            · intro wz hSw
              obtain ⟨s0, s1⟩ := hSw
              first | (go_simp; done) | (go_simp; with_reducible rfl)
            simp only [List.set_cons_zero, List.set_cons_succ]
            refine take_at (i := 6) (n := 32) (v := ?_) rfl rfl (by kernel_rfl) (by kernel_rfl) (by kernel_rfl) (fun _ _ _ h => h) (Or.inl ⟨by rfl, ?_⟩) (by assumption) ?_
            rotate_left 1
            · intro wz hSw
              obtain ⟨s0, s1⟩ := hSw
              first | (go_simp; done) | (go_simp; with_reducible rfl)
            simp only [List.set_cons_zero, List.set_cons_succ]
            refine take_at (i := 8) (n := 34) (v := ?_) rfl rfl (by kernel_rfl) (by kernel_rfl) (by kernel_rfl) (fun _ _ _ h => h) (Or.inl ⟨by rfl, ?_⟩) (by assumption) ?_
            rotate_left 1
            · intro wz hSw
              obtain ⟨s0, s1⟩ := hSw
              first | (go_simp; done) | (go_simp; with_reducible rfl)
            simp only [List.set_cons_zero, List.set_cons_succ]
            refine take_at (i := 9) (n := 35) (v := ?_) rfl rfl (by kernel_rfl) (by kernel_rfl) (by kernel_rfl) (fun _ _ _ h => h) (Or.inl ⟨by rfl, ?_⟩) (by assumption) ?_
            rotate_left 1
            · intro wz hSw
              obtain ⟨s0, s1⟩ := hSw
              first | (go_simp; done) | (go_simp; with_reducible rfl)
            simp only [List.set_cons_zero, List.set_cons_succ]
            refine wpAnyH_ready (rs := [7]) (by kernel_rfl) (by simp) ?_
            refine AllReadyH.cons rfl (fun K hK => ?_) AllReadyH.nil
            go_simp
            refine hK.out _ _ (by assumption) (fun hHeld => ?_)
            clear hK K
            refine take_at (i := 10) (n := 36) (v := ?_) rfl rfl (by kernel_rfl) (by kernel_rfl) (by kernel_rfl) (fun _ _ _ h => h) (Or.inl ⟨by rfl, ?_⟩) (by assumption) ?_
            rotate_left 1
            · intro wz hSw
              obtain ⟨s0, s1⟩ := hSw
              first | (go_simp; done) | (go_simp; with_reducible rfl)
            simp only [List.set_cons_zero, List.set_cons_succ]
            refine take_at (i := 11) (n := 37) (v := ?_) rfl rfl (by kernel_rfl) (by kernel_rfl) (by kernel_rfl) (fun _ _ _ h => h) (Or.inl ⟨by rfl, ?_⟩) (by assumption) ?_
            rotate_left 1
            · intro wz hSw
              obtain ⟨s0, s1⟩ := hSw
              first | (go_simp; done) | (go_simp; with_reducible rfl)
            simp only [List.set_cons_zero, List.set_cons_succ]
            refine wpAnyH_ready (rs := [12]) (by kernel_rfl) (by simp) ?_
            refine AllReadyH.cons rfl (fun K hK => ?_) AllReadyH.nil
            go_simp
            refine hK.out _ _ ?_ (fun hHeld => ?_)
            · refine ⟨?_, ?_⟩ <;> go_simp
            clear hK K
            refine wpAnyH_done (by kernel_rfl) ?_ _
            refine NoPanic.normal ?_
            go_wp2_with fail
            obtain ⟨p0, p1, p2, p3⟩ := top_set (p := xp) (r := xacts.drop (k + 1)) (l := xacts) (q0 := q0) (q1 := q1) (q2 := q2) (q3 := q3) HM.out HZ.out (by simpa using HQ2.out)
            refine ⟨⟨k + 1, _, _, _, _, by omega, by simp, (HF.out.1.set m HM.out (max zm xp)).grow ((Below.refl _ _).drew), ?_, p0, p1, p2, p3⟩, by simp [intOf]; omega⟩
            show ((wr.alloc (.cells #[.int .i64 2, .int .i64 (m : Int)] 48)).heap.modify g _)[wo.heap.size]? = _
            rw [Array.getElem?_modify, if_neg (by omega)]
            exact HF.out.2
          · have hy2' : (yd == 2) = false := by simpa using hy2
            have HQ2 : Hid (topA xp 0 (xacts.drop (k + 1)) a0 = topA xp 0 xacts q0 ∧ topA xp 1 (xacts.drop (k + 1)) a1 = topA xp 1 xacts q1 ∧ topA xp 2 (xacts.drop (k + 1)) a2 = topA xp 2 xacts q2 ∧ topA xp 3 (xacts.drop (k + 1)) a3 = topA xp 3 xacts q3) := by
              simp only [hy2, false_and, if_false] at hq
              exact hq
            clear hf hq hjb jc jf hrow hy hyd hrange
            go_wp2_with fail
            exact ⟨⟨k + 1, a0, a1, a2, a3, by omega, by simp, HF.out.1, HF.out.2, HQ2.out⟩, by simp [intOf]; omega⟩
        · have hke : k = xacts.length := by omega
          subst hke
          rw [List.drop_length] at hq
          simp only [topA] at hq
          have HF : Hid (Four w wr g a0 a1 a2 a3) := hf
          have HQ2 : Hid (a0 = topA xp 0 xacts q0 ∧ a1 = topA xp 1 xacts q1 ∧ a2 = topA xp 2 xacts q2 ∧ a3 = topA xp 3 xacts q3) := hq
          clear hf hq hjb jc jf
          go_wp2_with fail
          obtain ⟨rfl, rfl, rfl, rfl⟩ := HQ2.out
          exact ⟨⟨j + 1, _, _, _, _, by omega, by simp, HF.out, HQ.out⟩, by simp [intOf]; omega⟩
    · have hje : j = l.length := by omega
      subst hje
      rw [List.drop_length] at hq
      simp only [topL] at hq
      have HE : Hid (topsF l = [q0, q1, q2, q3]) := by
        show _ = _
        unfold topsF
        rw [← hq.1, ← hq.2.1, ← hq.2.2.1, ← hq.2.2.2]
      have HF : Hid (Four w wr g q0 q1 q2 q3) := hf
      clear hq hf
      go_wp2_with fail
      go_ret
      exact ⟨g, q0, q1, q2, q3, rfl, HE.out, HF.out⟩

theorem Ceilings_ends {w : World} {g : Nat} {c k p : Value} {a : Act} (h : w.heap[g]? = some (.cells #[c, k] 25 (0, 0))) (h2 : a.tmps[2]?.getD undef = p) (h3 : a.tmps[3]?.getD undef = .pointer (some ⟨g, 0, none⟩)) :
    (results Tryd.f11 a.tmps).run Tryd.prog w = .ok (.tuple #[p, .agg #[c, k]]) w := by
  obtain ⟨c1, f1, l1⟩ := cells_of (l := [_, _]) h
  have c10 := c1 0 _ rfl
  have c11 := c1 1 _ rfl
  simp [results, Tryd.results11, go_sem, h2, h3, c10, c11]

set_option maxRecDepth 20000 in
set_option maxHeartbeats 4000000 in
/-- locks.Ceilings, of jobs that something is wrong with. -/
theorem Ceilings_bad (w : World) (l : List Lj) (v : Value) (hv : LkSl w l v) (h0 : (chkLk l).1 ≠ 0) : Calls Tryd.prog 11 #[v] w fun r w' => r = .returned (.tuple #[.slice none 0 0, .agg #[.int .i64 (chkLk l).1, .int .i64 (chkLk l).2]]) ∧ Below w.heap.size w w' := by
  have HF : Hid (FB w (w.alloc (.cells #[.int .i64 0, .int .i64 0] 25)) w.heap.size) := FB.start w
  have HC := checkJobs_any (w.alloc (.cells #[.int .i64 0, .int .i64 0] 25)) l v (hv.below (below_new _ _))
  obtain ⟨ad, c, rfl⟩ := hv.1.len
  clear hv
  generalize chkLk l = z at *
  obtain ⟨z1, z2⟩ := z
  dsimp only at h0 HC ⊢
  have hzb : (z1 != 0) = true := by simpa using h0
  go_enter Tryd.func11, Tryd.ntmps11
  go_wp2_with (go_at_call 32; refine HC.mono ?_; rintro r w1 ⟨rfl, hb1⟩; have H1 : Hid (FB w w1 w.heap.size) := HF.out.grow hb1; obtain ⟨r10, r11, f10, f11, rl⟩ := H1.out.res2; clear hb1 HC)
  go_region
  all_goals go_wp2_with fail
  all_goals
    refine bodyPost_ret (Ceilings_ends (set_two_new _ H1.out.res) rfl rfl) rfl ?_
    exact ⟨rfl, (H1.out.set_new _ _ _).drew⟩

set_option maxRecDepth 20000 in
set_option maxHeartbeats 4000000 in
/-- locks.Ceilings, of right jobs. -/
theorem Ceilings_good (w : World) (l : List Lj) (v : Value) (hv : LkSl w l v) (h0 : chkLk l = (0, 0)) : Calls Tryd.prog 11 #[v] w fun r w' => ∃ u, r = .returned (.tuple #[u, .agg #[.int .i64 0, .int .i64 0]]) ∧ RowSl nuV w' (topsF l) u ∧ Below w.heap.size w w' ∧ ∀ k, u.ownBlock = some k → w.heap.size ≤ k := by
  have HF : Hid (FB w (w.alloc (.cells #[.int .i64 0, .int .i64 0] 25)) w.heap.size) := FB.start w
  have HV : Hid (LkSl w l v) := hv
  have HC := checkJobs_any (w.alloc (.cells #[.int .i64 0, .int .i64 0] 25)) l v (hv.below (below_new _ _))
  rw [h0] at HC
  obtain ⟨hl, hok⟩ := chkLk_right (l := l) (by rw [h0])
  have HO : Hid (∀ x ∈ l, chkActs x.acts = (0, 0)) := fun x hx => (hok x hx).1
  obtain ⟨ad, c, rfl⟩ := hv.1.len
  clear hv hok h0
  go_enter Tryd.func11, Tryd.ntmps11
  go_wp2_with (go_at_call 32; refine HC.mono ?_; rintro r w1 ⟨rfl, hb1⟩; have H1 : Hid (FB w w1 w.heap.size ∧ LkSl (w1.alloc (.cells #[.int .i64 0, .int .i64 0] 25)) l (.slice ad l.length c)) := ⟨HF.out.grow hb1, HV.out.below (below_seq (below_seq (below_new _ _) hb1) (below_new _ _))⟩; clear hb1 HC)
  go_wp2_with (go_at_call 33; refine (ceilings_any _ l _ H1.out.2 hl HO.out).mono ?_; rintro r w2 ⟨g, t0, t1, t2, t3, rfl, ht, hfo⟩; have H2 : Hid (FB w w2 w.heap.size ∧ topsF l = [t0, t1, t2, t3] ∧ w2.heap[g]? = some (.cells #[.int .i64 t0, .int .i64 t1, .int .i64 t2, .int .i64 t3] 3 (0, 0)) ∧ w.heap.size < g) := ⟨(H1.out.1.grow (below_new _ _)).grow hfo.bel, ht, hfo.row, by have h7 := hfo.low; have h8 := H1.out.1.lt; simp at h7; omega⟩; obtain ⟨r10, r11, f10, f11, rl⟩ := H2.out.1.res2; clear hfo ht)
  obtain ⟨h1, h2, h3, h4⟩ := H2.out
  refine bodyPost_ret (Ceilings_ends (set_two h1.res) rfl rfl) rfl ?_
  refine ⟨_, rfl, ?_, h1.set _ _, fun k hk => by have e9 : g = k := Option.some.inj hk; omega⟩
  rw [h2]
  refine ⟨_, _, rfl, (fun e => by cases e), Nat.le_refl _, .inr ⟨g, 0, rfl, fun q u hq => ?_⟩⟩
  rw [Nat.zero_add]
  refine (cells_of (l := [.int .i64 t0, .int .i64 t1, .int .i64 t2, .int .i64 t3]) (T := 3) ?_).1 q u hq
  rw [Below.heap_setCell _ _ _ _ (by show ¬ (g = w.heap.size); omega), Below.heap_setCell _ _ _ _ (by show ¬ (g = w.heap.size); omega)]
  exact h3
end Go.Proofs.YtkafihaajpifoagDoor
