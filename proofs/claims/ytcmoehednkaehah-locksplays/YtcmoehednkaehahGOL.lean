import Derived.Test.YtcmoehednkaehahGLN
import Derived.Test.YtcmoehednkaehahGLX
import Derived.Test.YtcmoehednkaehahGOI
import Derived.Test.YtcmoehednkaehahGOJ
import Derived.Test.YtcmoehednkaehahGOK
namespace Go.Proofs.Ytcmoehednkaehah
open Go.ChangeShapes Go.WideShapes Go.ChangeAt Go.RowKit

/-- Four numbers of one's own. -/
structure Four (w W : World) (g : Nat) (a b c d : Int) : Prop where
  bel : Below w.heap.size w W
  low : w.heap.size ≤ g
  row : W.heap[g]? = some (.cells #[.int .i64 a, .int .i64 b, .int .i64 c, .int .i64 d] 3 (0, 0))

theorem Four.grow {w W W' : World} {g : Nat} {a b c d : Int} (h : Four w W g a b c d) (hb : Below W.heap.size W W') : Four w W' g a b c d :=
  ⟨below_seq h.bel hb, h.low, (hb.block g (Array.getElem?_eq_some_iff.1 h.row).1).trans h.row⟩

theorem Four.set {w W : World} {g : Nat} {a b c d : Int} (h : Four w W g a b c d) (m : Nat) (hm : m < 4) (z : Int) : Four w (W.setCell ⟨g, m, none⟩ (.int .i64 z)) g (if m = 0 then z else a) (if m = 1 then z else b) (if m = 2 then z else c) (if m = 3 then z else d) := by
  refine ⟨h.bel.setCell h.low _, h.low, ?_⟩
  rw [setCell_at h.row]
  have : m = 0 ∨ m = 1 ∨ m = 2 ∨ m = 3 := by omega
  rcases this with rfl | rfl | rfl | rfl <;> rfl

theorem Four.sl {w W : World} {g : Nat} {a b c d : Int} (h : Four w W g a b c d) : RowSl nuV W [a, b, c, d] (.slice (some ⟨g, 0, none⟩) 4 4) := by
  refine ⟨_, _, rfl, (fun e => by cases e), Nat.le_refl _, .inr ⟨g, 0, rfl, fun q u hq => ?_⟩⟩
  rw [Nat.zero_add]
  exact (cells_of (l := [.int .i64 a, .int .i64 b, .int .i64 c, .int .i64 d]) h.row).1 q u hq

theorem Four.at {w W : World} {g : Nat} {a b c d : Int} (h : Four w W g a b c d) (m : Nat) (hm : m < 4) : W.cell? ⟨g, m, none⟩ = some (.int .i64 (if m = 0 then a else if m = 1 then b else if m = 2 then c else d)) ∧ W.frozen? ⟨g, m, none⟩ = false ∧ g < W.heap.size := by
  obtain ⟨k1, k2, k3⟩ := cells_of (l := [.int .i64 a, .int .i64 b, .int .i64 c, .int .i64 d]) h.row
  have : m = 0 ∨ m = 1 ∨ m = 2 ∨ m = 3 := by omega
  rcases this with rfl | rfl | rfl | rfl <;> exact ⟨k1 _ _ rfl, k2 _, k3⟩

theorem top_set {p a0 a1 a2 a3 zm : Int} {m : Nat} {r l : List Ac} {q0 q1 q2 q3 : Int} (hm : m < 4) (hz : (if m = 0 then a0 else if m = 1 then a1 else if m = 2 then a2 else a3) = zm)
    (h : topA p 0 r (if (2 : Int) = 2 ∧ (m : Int) = 0 then max a0 p else a0) = topA p 0 l q0 ∧ topA p 1 r (if (2 : Int) = 2 ∧ (m : Int) = 1 then max a1 p else a1) = topA p 1 l q1 ∧ topA p 2 r (if (2 : Int) = 2 ∧ (m : Int) = 2 then max a2 p else a2) = topA p 2 l q2 ∧ topA p 3 r (if (2 : Int) = 2 ∧ (m : Int) = 3 then max a3 p else a3) = topA p 3 l q3) :
    topA p 0 r (if m = 0 then max zm p else a0) = topA p 0 l q0 ∧ topA p 1 r (if m = 1 then max zm p else a1) = topA p 1 l q1 ∧ topA p 2 r (if m = 2 then max zm p else a2) = topA p 2 l q2 ∧ topA p 3 r (if m = 3 then max zm p else a3) = topA p 3 l q3 := by
  have : m = 0 ∨ m = 1 ∨ m = 2 ∨ m = 3 := by omega
  subst hz
  rcases this with rfl | rfl | rfl | rfl <;> simpa using h

/-- Of a right job each Take is of one of the four. -/
theorem take_range : ∀ (l : List Ac) (st : List Int) (k : Nat), chkA l st k = (0, 0) → ∀ x ∈ l, x.d = 2 → 0 ≤ x.n ∧ x.n ≤ 3
  | [], _, _, _, x, hx, _ => by simp at hx
  | y :: r, st, k, h, x, hx, hd => by
    obtain ⟨hf, hk⟩ := chkA_fine h
    rcases List.mem_cons.1 hx with rfl | hx
    · generalize doS st x = s' at hf
      rcases hf with ⟨e, _, _⟩ | ⟨_, e1, e2, _⟩ | ⟨e, _, _⟩
      · omega
      · exact ⟨e1, e2⟩
      · omega
    · exact take_range r _ _ hk x hx hd

theorem chkL_right : ∀ (l : List Lj) (k : Nat), (chkL l k).1 = 0 → ∀ x ∈ l, chkActs x.acts = (0, 0) ∧ within x.a 0 20000 = true ∧ within x.p 0 1000 = true
  | [], _, _, x, hx => by simp at hx
  | y :: r, k, h, x, hx => by
    rw [chkL] at h
    by_cases h0 : lkOne y = 0
    · rw [if_pos h0] at h
      rcases List.mem_cons.1 hx with rfl | hx
      · unfold lkOne at h0
        by_cases hw : (within x.a 0 20000 && within x.p 0 1000) = true
        · rw [if_pos hw] at h0
          exact ⟨chkActs_zero h0, by simpa using hw⟩
        · rw [if_neg hw] at h0; cases h0
      · exact chkL_right r (k + 1) h x hx
    · rw [if_neg h0] at h
      exact absurd h h0

theorem chkLk_right {l : List Lj} (h : (chkLk l).1 = 0) : l.length ≤ 100 ∧ ∀ x ∈ l, chkActs x.acts = (0, 0) ∧ within x.a 0 20000 = true ∧ within x.p 0 1000 = true := by
  unfold chkLk at h
  by_cases h0 : 100 < l.length
  · rw [if_pos h0] at h; cases h
  · rw [if_neg h0] at h
    exact ⟨by omega, chkL_right l 0 h⟩

theorem chkL_zero : ∀ (l : List Lj) (k : Nat), (chkL l k).1 = 0 → chkL l k = (0, 0)
  | [], _, _ => rfl
  | y :: r, k, h => by
    rw [chkL] at h ⊢
    by_cases h0 : lkOne y = 0
    · rw [if_pos h0] at h ⊢
      exact chkL_zero r _ h
    · rw [if_neg h0] at h
      exact absurd h h0

theorem chkLk_zero {l : List Lj} (h : (chkLk l).1 = 0) : chkLk l = (0, 0) := by
  unfold chkLk at h ⊢
  by_cases h0 : 100 < l.length
  · rw [if_pos h0] at h; cases h
  · rw [if_neg h0] at h ⊢
    exact chkL_zero _ _ h

set_option maxRecDepth 20000 in
set_option maxHeartbeats 4000000 in
theorem ceilings_any (w : World) (l : List Lj) (v : Value) (hv : LkSl w l v) (hl : l.length ≤ 100) (hok : ∀ x ∈ l, chkActs x.acts = (0, 0)) : Calls Try.prog 28 #[v] w fun r w' => ∃ g a b c d, r = .returned (.slice (some ⟨g, 0, none⟩) 4 4) ∧ topsF l = [a, b, c, d] ∧ Four w w' g a b c d := by
  obtain ⟨⟨ad, c, rfl, -, hcap, hrow⟩, hacts⟩ := hv
  have HR : Hid ((l = [] ∨ ∃ b o, ad = some ⟨b, o, none⟩ ∧ ∀ q u, (l.flatMap Lj.vals)[q]? = some u → w.cell? ⟨b, o + q, none⟩ = some u) ∧ (∀ x ∈ l, RowSl Ac.vals w x.acts x.v) ∧ ∀ x ∈ l, chkActs x.acts = (0, 0)) := ⟨hrow, hacts, hok⟩
  clear hrow hacts hok
  have HRep := Repeat_any (w.alloc (.cells #[.int .i64 (-1)] 3)) w.heap.size 4 (heap_alloc_new _ _) (by omega)
  go_enter Try.func28, Try.ntmps28
  go_wp2_with (go_at_call 29; refine HRep.mono ?_; rintro r w1 ⟨g, rfl, hg1, hg2, hb1⟩; have H1 : Hid (Four w w1 g (-1) (-1) (-1) (-1)) := ⟨below_seq (below_new _ _) hb1, by simp at hg1; omega, hg2⟩; clear hg1 hg2 hb1 HRep)
  go_loopw [12] (fun i wr => ∃ (j : Nat) (a b c d : Int), j ≤ l.length ∧ i = .int .i64 j ∧ Four w wr g a b c d ∧ topL 0 (l.drop j) a = topL 0 l (-1) ∧ topL 1 (l.drop j) b = topL 1 l (-1) ∧ topL 2 (l.drop j) c = topL 2 l (-1) ∧ topL 3 (l.drop j) d = topL 3 l (-1)) (fun i _ => l.length - (intOf i).toNat)
  case atStart => exact ⟨0, -1, -1, -1, -1, Nat.zero_le _, rfl, H1.out, rfl, rfl, rfl, rfl⟩
  case round =>
    obtain ⟨j, q0, q1, q2, q3, hj, rfl, hf, hq⟩ := hrel
    by_cases hlt : j < l.length
    · obtain ⟨x, hx, hd⟩ := drop_at hlt
      rw [hd] at hq
      rcases HR.out.1 with h | ⟨b, o, rfl, hrow⟩
      · rw [h] at hlt; simp at hlt
      have ha := lj_at (fun q u hq => below_cell hf.bel (hrow q u hq)) hx
      have hmem := List.mem_of_getElem? hx
      have hac := (HR.out.2.1 x hmem).below hf.bel
      have hck := HR.out.2.2 x hmem
      obtain ⟨xa, xp, xacts, xv⟩ := x
      dsimp only at hac hck
      obtain ⟨hal, hao⟩ := chkActs_fine hck
      obtain ⟨aad, ac, rfl, -, hacap, harow⟩ := hac
      obtain ⟨c0, c1, c2⟩ := ha
      dsimp only at c0 c1 c2
      have lb : b < wr.heap.size := World.block_lt_of_cell? _ _ c0
      have hji : (j : Int) < (l.length : Int) := by omega
      simp only [topL] at hq
      have HQ : Hid (topL 0 (l.drop (j + 1)) (topA xp 0 xacts q0) = topL 0 l (-1) ∧ topL 1 (l.drop (j + 1)) (topA xp 1 xacts q1) = topL 1 l (-1) ∧ topL 2 (l.drop (j + 1)) (topA xp 2 xacts q2) = topL 2 l (-1) ∧ topL 3 (l.drop (j + 1)) (topA xp 3 xacts q3) = topL 3 l (-1)) := hq
      have HB : Hid (Four w (wr.alloc (.cells #[.int .i64 xa, .int .i64 xp, .slice aad xacts.length ac] 47)) g q0 q1 q2 q3) := hf.grow (below_new _ _)
      have hacW := HR.out.2.1 _ hmem
      have H8 : (∀ W, Below w.heap.size w W → (xacts = [] ∨ ∃ b o, aad = some ⟨b, o, none⟩ ∧ ∀ q u, (xacts.flatMap Ac.vals)[q]? = some u → W.cell? ⟨b, o + q, none⟩ = some u)) ∧ (∀ y ∈ xacts, y.d = 2 → 0 ≤ y.n ∧ y.n ≤ 3) ∧ g < wr.heap.size := ⟨fun W hb => by
        obtain ⟨_, _, e9, -, -, h9⟩ := hacW.below hb
        cases e9
        exact h9, take_range _ _ _ hao, (Array.getElem?_eq_some_iff.1 hf.row).1⟩
      obtain ⟨wo, hwo⟩ : ∃ wo, wo = wr := ⟨_, rfl⟩
      subst hwo
      clear hf hq hrow hx hd hck harow hao hmem hacW
      have H9 : Hid ((∀ W, Below w.heap.size w W → (xacts = [] ∨ ∃ b o, aad = some ⟨b, o, none⟩ ∧ ∀ q u, (xacts.flatMap Ac.vals)[q]? = some u → W.cell? ⟨b, o + q, none⟩ = some u)) ∧ (∀ y ∈ xacts, y.d = 2 → 0 ≤ y.n ∧ y.n ≤ 3) ∧ g < wo.heap.size) := H8
      clear H8
      go_wp2_with fail
      go_loopw [19] (fun i wl => ∃ (k : Nat) (a b c d : Int), k ≤ xacts.length ∧ i = .int .i64 k ∧ Four w wl g a b c d ∧ wl.heap[wo.heap.size]? = some (.cells #[.int .i64 xa, .int .i64 xp, .slice aad xacts.length ac] 47 (0, 0)) ∧ topA xp 0 (xacts.drop k) a = topA xp 0 xacts q0 ∧ topA xp 1 (xacts.drop k) b = topA xp 1 xacts q1 ∧ topA xp 2 (xacts.drop k) c = topA xp 2 xacts q2 ∧ topA xp 3 (xacts.drop k) d = topA xp 3 xacts q3) (fun i _ => xacts.length - (intOf i).toNat)
      case atStart => exact ⟨0, q0, q1, q2, q3, Nat.zero_le _, rfl, HB.out, heap_alloc_new _ _, rfl, rfl, rfl, rfl⟩
      case round =>
        obtain ⟨k, a0, a1, a2, a3, hk, rfl, hf, hjb, hq⟩ := hrel
        obtain ⟨jc, jf, jl⟩ := cells_of (l := [_, _, _]) hjb
        have jc1 := jc 1 _ rfl
        by_cases hkl : k < xacts.length
        · obtain ⟨y, hy, hyd⟩ := drop_at hkl
          rw [hyd] at hq
          simp only [topA] at hq
          have hrange := H9.out.2.1 y (List.mem_of_getElem? hy)
          rcases H9.out.1 wr hf.bel with h | ⟨rb, ro, rfl, hrow⟩
          · rw [h] at hkl; simp at hkl
          obtain ⟨e0, e1⟩ := ac_at hrow hy
          have rlb : rb < wr.heap.size := World.block_lt_of_cell? _ _ e0
          have hki : (k : Int) < (xacts.length : Int) := by omega
          obtain ⟨yd, yn⟩ := y
          dsimp only at e0 e1 hq hrange
          have HF : Hid (Four w (wr.alloc (.cells #[.int .i64 yd, .int .i64 yn] 61)) g a0 a1 a2 a3 ∧ (wr.alloc (.cells #[.int .i64 yd, .int .i64 yn] 61)).heap[wo.heap.size]? = some (.cells #[.int .i64 xa, .int .i64 xp, .slice (some ⟨rb, ro, none⟩) xacts.length ac] 47 (0, 0))) := ⟨hf.grow (below_new _ _), ((below_new _ _).block _ jl).trans hjb⟩
          by_cases hy2 : yd = 2
          · subst hy2
            obtain ⟨m, rfl⟩ : ∃ m : Nat, yn = (m : Int) := ⟨yn.toNat, by have := hrange rfl; omega⟩
            have hm : m < 4 := by have := hrange rfl; omega
            have hmi : (m : Int) < 4 := by omega
            obtain ⟨f1, f2, f3⟩ := (hf.grow (below_new wr (.cells #[.int .i64 2, .int .i64 (m : Int)] 61))).at m hm
            have hgl : g < wo.heap.size := H9.out.2.2
            have HM : Hid (m < 4) := hm
            have HQ2 : Hid (topA xp 0 (xacts.drop (k + 1)) (if (2 : Int) = 2 ∧ (m : Int) = 0 then max a0 xp else a0) = topA xp 0 xacts q0 ∧ topA xp 1 (xacts.drop (k + 1)) (if (2 : Int) = 2 ∧ (m : Int) = 1 then max a1 xp else a1) = topA xp 1 xacts q1 ∧ topA xp 2 (xacts.drop (k + 1)) (if (2 : Int) = 2 ∧ (m : Int) = 2 then max a2 xp else a2) = topA xp 2 xacts q2 ∧ topA xp 3 (xacts.drop (k + 1)) (if (2 : Int) = 2 ∧ (m : Int) = 3 then max a3 xp else a3) = topA xp 3 xacts q3) := hq
            generalize hz : (if m = 0 then a0 else if m = 1 then a1 else if m = 2 then a2 else a3) = zm at f1
            have HZ : Hid ((if m = 0 then a0 else if m = 1 then a1 else if m = 2 then a2 else a3) = zm) := hz
            clear hf hq hjb jc jf hrow hy hyd hrange hz hm
            go_wp2_with fail
            refine wp_region_noPanic ?_
            refine wp_region_held_drew (S := fun w' => w'.cell? ⟨wr.heap.size, 1, none⟩ = some (.int .i64 (m : Int)) ∧ w'.cell? ⟨wo.heap.size, 1, none⟩ = some (.int .i64 xp)) (by kernel_rfl) (by refine ⟨?_, ?_⟩ <;> go_simp) (fun hHeld => ?_)
            refine take_at (i := 0) (n := 26) (v := ?_) rfl rfl (by kernel_rfl) (by kernel_rfl) (by kernel_rfl) (fun _ _ _ h => h) (Or.inl ⟨by rfl, ?_⟩) (by assumption) ?_
            rotate_left 1
            · intro wz hSw
              obtain ⟨s0, s1⟩ := hSw
              first | (go_simp; done) | (go_simp; with_reducible rfl)
            simp only [List.set_cons_zero, List.set_cons_succ]
            refine take_at (i := 1) (n := 27) (v := ?_) rfl rfl (by kernel_rfl) (by kernel_rfl) (by kernel_rfl) (fun _ _ _ h => h) (Or.inl ⟨by rfl, ?_⟩) (by assumption) ?_
            rotate_left 1
            · intro wz hSw
              obtain ⟨s0, s1⟩ := hSw
              first | (go_simp; done) | (go_simp; with_reducible rfl)
            simp only [List.set_cons_zero, List.set_cons_succ]
            refine take_at (i := 2) (n := 28) (v := ?_) rfl rfl (by kernel_rfl) (by kernel_rfl) (by kernel_rfl) (fun _ _ _ h => h) (Or.inl ⟨by rfl, ?_⟩) (by assumption) ?_
            rotate_left 1
            · intro wz hSw
              obtain ⟨s0, s1⟩ := hSw
              first | (go_simp; done) | (go_simp; with_reducible rfl)
            simp only [List.set_cons_zero, List.set_cons_succ]
            refine take_at (i := 3) (n := 29) (v := ?_) rfl rfl (by kernel_rfl) (by kernel_rfl) (by kernel_rfl) (fun _ _ _ h => h) (Or.inl ⟨by rfl, ?_⟩) (by assumption) ?_
            rotate_left 1
            · intro wz hSw
              obtain ⟨s0, s1⟩ := hSw
              first | (go_simp; done) | (go_simp; with_reducible rfl)
            simp only [List.set_cons_zero, List.set_cons_succ]
            refine take_at (i := 4) (n := 30) (v := ?_) rfl rfl (by kernel_rfl) (by kernel_rfl) (by kernel_rfl) (fun _ _ _ h => h) (Or.inl ⟨by rfl, ?_⟩) (by assumption) ?_
            rotate_left 1
            · intro wz hSw
              obtain ⟨s0, s1⟩ := hSw
              first | (go_simp; done) | (go_simp; with_reducible rfl)
            simp only [List.set_cons_zero, List.set_cons_succ]
            refine take_at (i := 5) (n := 31) (v := ?_) rfl rfl (by kernel_rfl) (by kernel_rfl) (by kernel_rfl) (fun _ _ _ h => h) (Or.inl ⟨by rfl, ?_⟩) (by assumption) ?_
            rotate_left 1
            · intro wz hSw
              obtain ⟨s0, s1⟩ := hSw
              first | (go_simp; done) | (go_simp; with_reducible rfl)
            simp only [List.set_cons_zero, List.set_cons_succ]
            refine take_at (i := 6) (n := 32) (v := ?_) rfl rfl (by kernel_rfl) (by kernel_rfl) (by kernel_rfl) (fun _ _ _ h => h) (Or.inl ⟨by rfl, ?_⟩) (by assumption) ?_
            rotate_left 1
            · intro wz hSw
              obtain ⟨s0, s1⟩ := hSw
              first | (go_simp; done) | (go_simp; with_reducible rfl)
            simp only [List.set_cons_zero, List.set_cons_succ]
            refine take_at (i := 8) (n := 34) (v := ?_) rfl rfl (by kernel_rfl) (by kernel_rfl) (by kernel_rfl) (fun _ _ _ h => h) (Or.inl ⟨by rfl, ?_⟩) (by assumption) ?_
            rotate_left 1
            · intro wz hSw
              obtain ⟨s0, s1⟩ := hSw
              first | (go_simp; done) | (go_simp; with_reducible rfl)
            simp only [List.set_cons_zero, List.set_cons_succ]
            refine take_at (i := 9) (n := 35) (v := ?_) rfl rfl (by kernel_rfl) (by kernel_rfl) (by kernel_rfl) (fun _ _ _ h => h) (Or.inl ⟨by rfl, ?_⟩) (by assumption) ?_
            rotate_left 1
            · intro wz hSw
              obtain ⟨s0, s1⟩ := hSw
              first | (go_simp; done) | (go_simp; with_reducible rfl)
            simp only [List.set_cons_zero, List.set_cons_succ]
            refine wpAnyH_ready (rs := [7]) (by kernel_rfl) (by simp) ?_
            refine AllReadyH.cons rfl (fun K hK => ?_) AllReadyH.nil
            go_simp
            refine hK.out _ _ (by assumption) (fun hHeld => ?_)
            clear hK K
            refine take_at (i := 10) (n := 36) (v := ?_) rfl rfl (by kernel_rfl) (by kernel_rfl) (by kernel_rfl) (fun _ _ _ h => h) (Or.inl ⟨by rfl, ?_⟩) (by assumption) ?_
            rotate_left 1
            · intro wz hSw
              obtain ⟨s0, s1⟩ := hSw
              first | (go_simp; done) | (go_simp; with_reducible rfl)
            simp only [List.set_cons_zero, List.set_cons_succ]
            refine take_at (i := 11) (n := 37) (v := ?_) rfl rfl (by kernel_rfl) (by kernel_rfl) (by kernel_rfl) (fun _ _ _ h => h) (Or.inl ⟨by rfl, ?_⟩) (by assumption) ?_
            rotate_left 1
            · intro wz hSw
              obtain ⟨s0, s1⟩ := hSw
              first | (go_simp; done) | (go_simp; with_reducible rfl)
            simp only [List.set_cons_zero, List.set_cons_succ]
            refine wpAnyH_ready (rs := [12]) (by kernel_rfl) (by simp) ?_
            refine AllReadyH.cons rfl (fun K hK => ?_) AllReadyH.nil
            go_simp
            refine hK.out _ _ ?_ (fun hHeld => ?_)
            · refine ⟨?_, ?_⟩ <;> go_simp
            clear hK K
            refine wpAnyH_done (by kernel_rfl) ?_ _
            refine NoPanic.normal ?_
            go_wp2_with fail
            obtain ⟨p0, p1, p2, p3⟩ := top_set (p := xp) (r := xacts.drop (k + 1)) (l := xacts) (q0 := q0) (q1 := q1) (q2 := q2) (q3 := q3) HM.out HZ.out (by simpa using HQ2.out)
            refine ⟨⟨k + 1, _, _, _, _, by omega, by simp, (HF.out.1.set m HM.out (max zm xp)).grow ((Below.refl _ _).drew), ?_, p0, p1, p2, p3⟩, by simp [intOf]; omega⟩
            show ((wr.alloc (.cells #[.int .i64 2, .int .i64 (m : Int)] 61)).heap.modify g _)[wo.heap.size]? = _
            rw [Array.getElem?_modify, if_neg (by omega)]
            exact HF.out.2
          · have hy2' : (yd == 2) = false := by simpa using hy2
            have HQ2 : Hid (topA xp 0 (xacts.drop (k + 1)) a0 = topA xp 0 xacts q0 ∧ topA xp 1 (xacts.drop (k + 1)) a1 = topA xp 1 xacts q1 ∧ topA xp 2 (xacts.drop (k + 1)) a2 = topA xp 2 xacts q2 ∧ topA xp 3 (xacts.drop (k + 1)) a3 = topA xp 3 xacts q3) := by
              simp only [hy2, false_and, if_false] at hq
              exact hq
            clear hf hq hjb jc jf hrow hy hyd hrange
            go_wp2_with fail
            exact ⟨⟨k + 1, a0, a1, a2, a3, by omega, by simp, HF.out.1, HF.out.2, HQ2.out⟩, by simp [intOf]; omega⟩
        · have hke : k = xacts.length := by omega
          subst hke
          rw [List.drop_length] at hq
          simp only [topA] at hq
          have HF : Hid (Four w wr g a0 a1 a2 a3) := hf
          have HQ2 : Hid (a0 = topA xp 0 xacts q0 ∧ a1 = topA xp 1 xacts q1 ∧ a2 = topA xp 2 xacts q2 ∧ a3 = topA xp 3 xacts q3) := hq
          clear hf hq hjb jc jf
          go_wp2_with fail
          obtain ⟨rfl, rfl, rfl, rfl⟩ := HQ2.out
          exact ⟨⟨j + 1, _, _, _, _, by omega, by simp, HF.out, HQ.out⟩, by simp [intOf]; omega⟩
    · have hje : j = l.length := by omega
      subst hje
      rw [List.drop_length] at hq
      simp only [topL] at hq
      have HE : Hid (topsF l = [q0, q1, q2, q3]) := by
        show _ = _
        unfold topsF
        rw [← hq.1, ← hq.2.1, ← hq.2.2.1, ← hq.2.2.2]
      have HF : Hid (Four w wr g q0 q1 q2 q3) := hf
      clear hq hf
      go_wp2_with fail
      go_ret
      exact ⟨g, q0, q1, q2, q3, rfl, HE.out, HF.out⟩
end Go.Proofs.Ytcmoehednkaehah
namespace Go.Proofs.Ytcmoehednkaehah
open Once

/- The locks that are held behind some acts. -/
def stkF (l : List Ac) : List Int := l.foldl doS []

theorem stkF_take {l : List Ac} {k : Nat} {a : Ac} (h : l[k]? = some a) : stkF (l.take (k + 1)) = doS (stkF (l.take k)) a := by
  obtain ⟨h1, h2⟩ := List.getElem?_eq_some_iff.1 h
  unfold stkF
  rw [List.take_add_one, h]
  simp

theorem chkA_at : ∀ (l : List Ac) (st : List Int) (j : Nat), chkA l st j = (0, 0) → ∀ (k : Nat) (a : Ac), l[k]? = some a → Fine ((l.take k).foldl doS st) a (doS ((l.take k).foldl doS st) a)
  | [], _, _, _, _, _, h => by simp at h
  | b :: r, st, j, hc, 0, a, h => by
    simp at h
    subst h
    exact (chkA_fine hc).1
  | b :: r, st, j, hc, k + 1, a, h => by
    have := chkA_at r (doS st b) (j + 1) (chkA_fine hc).2 k a (by simpa using h)
    simpa using this

theorem chkA_end : ∀ (l : List Ac) (st : List Int) (j : Nat), chkA l st j = (0, 0) → l.foldl doS st = []
  | [], st, j, h => by
    rw [chkA] at h
    by_cases e : st = []
    · exact e
    · rw [if_neg e] at h; simp at h
  | b :: r, st, j, h => chkA_end r (doS st b) (j + 1) (chkA_fine h).2

theorem chkA_locks : ∀ (l : List Ac) (st : List Int) (j : Nat), chkA l st j = (0, 0) → Locks4 st → ∀ k, Locks4 ((l.take k).foldl doS st)
  | [], _, _, _, hs, k => by simpa using hs
  | b :: r, st, j, h, hs, 0 => by simpa using hs
  | b :: r, st, j, h, hs, k + 1 => by
    have := chkA_locks r (doS st b) (j + 1) (chkA_fine h).2 ((chkA_fine h).1.locks hs) k
    simpa using this

theorem chkA_pos {l : List Ac} (h : chkA l [] 0 = (0, 0)) : Pos l := by
  intro a ha h2 h3
  obtain ⟨k, hk⟩ := List.getElem?_of_mem ha
  have hf := chkA_at l [] 0 h k a hk
  generalize doS _ a = s' at hf
  rcases hf with ⟨_, h1, _⟩ | ⟨e, _, _, _⟩ | ⟨e, _, _⟩
  · exact h1
  · exact absurd e h2
  · exact absurd e h3

theorem dep_len : ∀ (l : List Ac) (st : List Int), depF l st.length = (l.foldl doS st).length
  | [], _ => rfl
  | a :: r, st => by
    have ih := dep_len r (doS st a)
    rw [depF, List.foldl_cons, ← ih]
    congr 1
    unfold doS
    split
    · simp
    · split <;> simp

def lfE (e : En) : Int := leftF (e.x.acts.drop e.nx) (stkF (e.x.acts.take e.nx)).length - e.rn

theorem lfE_le {e : En} (h : chkA e.x.acts [] 0 = (0, 0)) (hr : 0 ≤ e.rn) : lfE e ≤ longF e.x.acts := by
  have := left_le (e.x.acts.take e.nx) (e.x.acts.drop e.nx) (fun a ha => chkA_pos h a (List.mem_of_mem_take ha))
  rw [List.take_append_drop, show (0 : Nat) = ([] : List Int).length from rfl, dep_len] at this
  unfold lfE stkF
  omega

/- How long one is held up. -/
def hc (l : List Lj) (p r : Int) : Int := if 0 ≤ r then (match l[r.toNat]? with
  | some x => if x.p < p then 1 else 0
  | none => 0) else 0
def heldF (l : List Lj) (runs : List Int) (p : Int) (a e : Nat) : Int := (((runs.take e).drop a).map (hc l p)).sum
def mostF (p : Int) : List Lj → Int
  | [] => 0
  | x :: r => max (if x.p < p then longF x.acts else 0) (mostF p r)

theorem mostF_nonneg (p : Int) : ∀ l : List Lj, 0 ≤ mostF p l
  | [] => Int.le_refl _
  | x :: r => by have := mostF_nonneg p r; rw [mostF]; omega
theorem mostF_ge (p : Int) : ∀ (l : List Lj) (x : Lj), x ∈ l → x.p < p → longF x.acts ≤ mostF p l
  | [], _, h, _ => by simp at h
  | y :: r, x, h, hp => by
    rw [mostF]
    rcases List.mem_cons.1 h with rfl | h
    · rw [if_pos hp]; omega
    · have := mostF_ge p r x h hp; omega

theorem heldF_more {l : List Lj} {runs : List Int} {p f : Int} {a now : Nat} (hr : runs.length = now) (ha : a ≤ now) : heldF l (runs ++ [f]) p a (now + 1) = heldF l runs p a now + hc l p f := by
  unfold heldF
  rw [List.take_of_length_le (by simp; omega), List.take_of_length_le (by omega), List.drop_append_of_le_length (by omega)]
  simp
theorem heldF_same {l : List Lj} {runs : List Int} {p f : Int} {a e now : Nat} (hr : runs.length = now) (he : e ≤ now) : heldF l (runs ++ [f]) p a e = heldF l runs p a e := by
  unfold heldF
  rw [List.take_append_of_le_length (by omega)]
theorem heldF_none (l : List Lj) (runs : List Int) (p : Int) (a e : Nat) (h : e ≤ a) : heldF l runs p a e = 0 := by
  unfold heldF
  rw [List.drop_eq_nil_of_le (by simp; omega)]
  rfl

/- What is told of a run's numbers. -/
def yS (l : List Lj) : Sy := ⟨l.length, fun i => ((l[i]?).map Lj.a).getD 0, fun i => ((l[i]?).map Lj.p).getD 0, fun L => topL L l (-1)⟩
def hdE (e : En) : List Int := (stkF (e.x.acts.take e.nx)).reverse
def sx (x : Rs) : Sx := ⟨fun i => ∃ e, x.es[i]? = some e ∧ e.bg = true, fun i => ∃ z, x.en[i]? = some z ∧ z ≠ -1, fun i => match x.es[i]? with
  | some e => hdE e
  | none => []⟩
def lfS (x : Rs) (i : Nat) : Int := match x.es[i]? with
  | some e => lfE e
  | none => 0

theorem sx_hd {x : Rs} {i : Nat} {e : En} (h : x.es[i]? = some e) : (sx x).hd i = hdE e := by unfold sx; simp [h]
theorem sx_bg {x : Rs} {i : Nat} {e : En} (h : x.es[i]? = some e) : (sx x).bg i ↔ e.bg = true := by unfold sx; simp [h]
theorem sx_dn {x : Rs} {i : Nat} {z : Int} (h : x.en[i]? = some z) : (sx x).dn i ↔ z ≠ -1 := by unfold sx; simp [h]
theorem sx_lf {x : Rs} {i : Nat} {e : En} (h : x.es[i]? = some e) : lfS x i = lfE e := by unfold lfS; simp [h]
theorem yS_a {l : List Lj} {i : Nat} {x : Lj} (h : l[i]? = some x) : (yS l).a i = x.a := by unfold yS; simp [h]
theorem yS_p {l : List Lj} {i : Nat} {x : Lj} (h : l[i]? = some x) : (yS l).p i = x.p := by unfold yS; simp [h]

/-- Jobs that nothing is wrong with. -/
structure Ok (l : List Lj) : Prop where
  few : l.length ≤ 100
  acts : ∀ x ∈ l, x.acts.length ≤ 200 ∧ chkA x.acts [] 0 = (0, 0)
  at_ : ∀ x ∈ l, 0 ≤ x.a ∧ x.a ≤ 20000

theorem ok_of {l : List Lj} (h : (chkLk l).1 = 0) : Ok l := by
  obtain ⟨h1, h2⟩ := chkLk_right h
  refine ⟨h1, fun x hx => chkActs_fine (h2 x hx).1, fun x hx => ?_⟩
  have := (h2 x hx).2.1
  simp [within] at this
  exact this

/-- What is true of a run by ceilings, at the beginning of a tick and in it. -/
structure G (l : List Lj) (now : Nat) (runs : List Int) (x : Rs) : Prop where
  le : x.es.map En.x = l
  ne : x.en.length = l.length
  ws : x.ws = List.replicate l.length 0
  nh : x.hs.length = 4
  wt : ∀ e ∈ x.es, e.wt = -1
  st : ∀ (i : Nat) (e : En) (z : Int), x.es[i]? = some e → x.en[i]? = some z → (z = -1 ∧ (e.nx < e.x.acts.length ∨ (e.x.acts = [] ∧ e.nx = 0))) ∨ (0 ≤ z ∧ z ≤ now ∧ e.nx = e.x.acts.length)
  rn : ∀ e ∈ x.es, 0 ≤ e.rn ∧ ∀ a, e.x.acts[e.nx]? = some a → (a.d = 1 → e.rn < a.n) ∧ (a.d ≠ 1 → e.rn = 0)
  hs : ∀ m : Nat, m < 4 → ∃ z, x.hs[m]? = some z ∧ ((z = -1 ∧ ∀ i, (m : Int) ∉ (sx x).hd i) ∨ ∃ i : Nat, z = (i : Int) ∧ i < l.length ∧ ∀ k, (m : Int) ∈ (sx x).hd k ↔ k = i)
  inv : Inv (yS l) (sx x) now
  up : ∀ (j : Nat) (xj : Lj), l[j]? = some xj → x.en[j]? = some (-1) → xj.a ≤ now → Up (yS l) (sx x) (lfS x) j (heldF l runs xj.p xj.a.toNat now) (mostF xj.p l)
  dn : ∀ (j : Nat) (xj : Lj) (z : Int), l[j]? = some xj → x.en[j]? = some z → z ≠ -1 → heldF l runs xj.p xj.a.toNat z.toNat ≤ mostF xj.p l
  rl : runs.length = now

theorem G.len {l : List Lj} {now : Nat} {runs : List Int} {x : Rs} (g : G l now runs x) : x.es.length = l.length := by rw [← g.le, List.length_map]
theorem G.job {l : List Lj} {now : Nat} {runs : List Int} {x : Rs} (g : G l now runs x) {i : Nat} {e : En} (h : x.es[i]? = some e) : l[i]? = some e.x := by rw [← g.le, List.getElem?_map, h]; rfl
theorem G.mem {l : List Lj} {now : Nat} {runs : List Int} {x : Rs} (g : G l now runs x) {i : Nat} {e : En} (h : x.es[i]? = some e) : e.x ∈ l := List.mem_of_getElem? (g.job h)

/- The active priorities are those that the argument knows. -/
theorem upF_at {es : List En} {i : Nat} {e : En} (z t : Int) (hz0 : z = -1 ∨ 0 ≤ z) (h : es[i]? = some e) : (upF es z t)[i]? = some { e with ac := if z = (i : Int) then (if e.ac < t then t else e.ac) else e.ac } := by
  unfold upF
  by_cases hz : z = -1
  · rw [if_pos hz, if_neg (by omega), h]
  · rw [if_neg hz]
    by_cases hi : z = (i : Int)
    · have e1 : z.toNat = i := by omega
      rw [e1, h, if_pos hi]
      dsimp only
      rw [List.getElem?_set_self (by have := (List.getElem?_eq_some_iff.1 h).1; omega)]
    · rw [if_neg hi]
      split
      · rw [List.getElem?_set_ne (by omega), h]
      · exact h

theorem upAll_nil (tp : List Int) (es : List En) : upAll [] tp es = es := by
  rw [upAll]
  intro z r t q e
  cases e
theorem upAll_nil2 (hs : List Int) (es : List En) : upAll hs [] es = es := by
  rw [upAll]
  intro z r t q _ e
  cases e

theorem upAll_at : ∀ (hs tp : List Int) (es : List En) (i : Nat) (e : En), (∀ z ∈ hs, z = -1 ∨ 0 ≤ z) → es[i]? = some e → ∃ c, (upAll hs tp es)[i]? = some { e with ac := c } ∧ e.ac ≤ c ∧ (∀ (m : Nat) (t : Int), hs[m]? = some (i : Int) → tp[m]? = some t → t ≤ c) ∧ (c = e.ac ∨ ∃ (m : Nat) (t : Int), hs[m]? = some (i : Int) ∧ tp[m]? = some t ∧ c = t)
  | [], tp, es, i, e, _, h => ⟨e.ac, by rw [upAll_nil]; exact h, Int.le_refl _, fun _ _ h => by simp at h, .inl rfl⟩
  | z :: r, [], es, i, e, _, h => ⟨e.ac, by rw [upAll_nil2]; exact h, Int.le_refl _, fun _ _ _ h => by simp at h, .inl rfl⟩
  | z :: r, t :: q, es, i, e, hz, h => by
    obtain ⟨c, h1, h2, h3, h4⟩ := upAll_at r q (upF es z t) i _ (fun y hy => hz y (List.mem_cons_of_mem _ hy)) (upF_at z t (hz z List.mem_cons_self) h)
    dsimp only at h1 h2 h4
    refine ⟨c, by rw [upAll]; exact h1, ?_, fun m t' hm ht => ?_, ?_⟩
    · split at h2
      · split at h2 <;> omega
      · exact h2
    · cases m with
      | zero =>
        simp at hm ht
        subst ht
        rw [if_pos hm] at h2
        split at h2 <;> omega
      | succ m => exact h3 m t' (by simpa using hm) (by simpa using ht)
    · rcases h4 with h4 | ⟨m, t', hm, ht, rfl⟩
      · by_cases hi : z = (i : Int)
        · rw [if_pos hi] at h4
          by_cases hlt : e.ac < t
          · rw [if_pos hlt] at h4
            exact .inr ⟨0, t, by simp [hi], by simp, h4⟩
          · rw [if_neg hlt] at h4
            exact .inl h4
        · rw [if_neg hi] at h4
          exact .inl h4
      · exact .inr ⟨m + 1, _, by simpa using hm, by simpa using ht, rfl⟩

theorem top_at (l : List Lj) (m : Nat) (h : m < 4) : (topsF l)[m]? = some (topL m l (-1)) := by
  have : m = 0 ∨ m = 1 ∨ m = 2 ∨ m = 3 := by omega
  rcases this with rfl | rfl | rfl | rfl <;> rfl

def nac (e : En) : En := { e with ac := 0 }
/-- A run without the active priorities. -/
def nrm (x : Rs) : Rs := { x with es := x.es.map nac }

theorem nrm_at {x : Rs} {i : Nat} {e : En} (h : x.es[i]? = some e) : (nrm x).es[i]? = some (nac e) := by unfold nrm; simp [h]

theorem nac_up : ∀ (hs tp : List Int) (es : List En), (upAll hs tp es).map nac = es.map nac
  | [], _, _ => by rw [upAll_nil]
  | z :: r, [], _ => by rw [upAll_nil2]
  | z :: r, t :: q, es => by
    rw [upAll, nac_up r q]
    unfold upF
    split
    · rfl
    · split
      · rename_i e he
        rw [List.map_set]
        obtain ⟨h1, h2⟩ := List.getElem?_eq_some_iff.1 he
        have : nac { e with ac := if e.ac < t then t else e.ac } = (es.map nac)[z.toNat]'(by simpa using h1) := by simp [h2, nac]
        rw [this, List.set_getElem_self]
      · rfl

theorem nac_lo (es : List En) : (es.map loF).map nac = es.map nac := by rw [List.map_map]; rfl

/-- The one that goes first by the program goes first. -/
theorem G.first {l : List Lj} (ok : Ok l) {now : Nat} {runs : List Int} {x : Rs} (g : G l now runs (nrm x)) {i : Nat} (hb : Best { x with es := upAll x.hs (topsF l) (x.es.map loF) } now l.length i) : Fm (yS l) (sx (nrm x)) now i ∧ i < l.length ∧ x.en[i]? = some (-1) := by
  have hz : ∀ z ∈ x.hs, z = -1 ∨ 0 ≤ z := by
    intro z hz
    obtain ⟨m, hm⟩ := List.getElem?_of_mem hz
    have hm4 : m < 4 := by have := (List.getElem?_eq_some_iff.1 hm).1; have := g.nh; change x.hs.length = 4 at this; omega
    obtain ⟨z', h1, h2⟩ := g.hs m hm4
    change x.hs[m]? = some z' at h1
    rw [hm] at h1
    cases h1
    rcases h2 with ⟨h2, -⟩ | ⟨i, h2, -⟩
    · exact .inl h2
    · exact .inr (by omega)
  have key : ∀ (k : Nat) (e' : En), (upAll x.hs (topsF l) (x.es.map loF))[k]? = some e' → ∃ e, x.es[k]? = some e ∧ e'.bg = e.bg ∧ e'.x = e.x ∧ e'.wt = e.wt ∧ e'.ac = act (yS l) (sx (nrm x)) k := by
    intro k e' hk
    have hlk : k < x.es.length := by
      have h1 := (List.getElem?_eq_some_iff.1 hk).1
      have h2 := congrArg List.length (nac_up x.hs (topsF l) (x.es.map loF))
      simp at h2
      omega
    obtain ⟨e, he⟩ : ∃ e, x.es[k]? = some e := ⟨_, List.getElem?_eq_getElem hlk⟩
    obtain ⟨c, h1, h2, h3, h4⟩ := upAll_at x.hs (topsF l) (x.es.map loF) k (loF e) hz (by rw [List.getElem?_map, he]; rfl)
    rw [hk] at h1
    cases h1
    refine ⟨e, he, rfl, rfl, rfl, ?_⟩
    have hn := nrm_at he
    have hhd := sx_hd hn
    have hjob := g.job hn
    have hp := yS_p hjob
    have hlock := chkA_locks e.x.acts [] 0 (ok.acts _ (g.mem hn)).2 (fun _ h => by simp at h) e.nx
    show c = act (yS l) (sx (nrm x)) k
    have hp' : (loF e).ac = (yS l).p k := hp.symm
    rw [hp'] at h2 h4
    have hge := act_ge (yS l) (sx (nrm x)) k
    have hle : c ≤ act (yS l) (sx (nrm x)) k := by
      rcases h4 with h4 | ⟨m, t, hm, ht, rfl⟩
      · omega
      · have hm4 : m < 4 := by have := (List.getElem?_eq_some_iff.1 hm).1; have := g.nh; change x.hs.length = 4 at this; omega
        rw [top_at l m hm4] at ht
        cases ht
        obtain ⟨z', q1, q2⟩ := g.hs m hm4
        change x.hs[m]? = some z' at q1
        rw [hm] at q1
        cases q1
        rcases q2 with ⟨q2, -⟩ | ⟨i', q2, -, q3⟩
        · omega
        · exact act_top (yS l) (sx (nrm x)) ((q3 k).2 (by omega))
    rcases act_is (yS l) (sx (nrm x)) k with e1 | ⟨L, hL, e1⟩
    · omega
    · have hL' : L ∈ stkF (e.x.acts.take e.nx) := by rw [hhd] at hL; exact List.mem_reverse.1 hL
      obtain ⟨b1, b2⟩ := hlock L hL'
      obtain ⟨m, rfl⟩ : ∃ m : Nat, L = (m : Int) := ⟨L.toNat, by omega⟩
      have hm4 : m < 4 := by omega
      obtain ⟨z', q1, q2⟩ := g.hs m hm4
      rcases q2 with ⟨-, q2⟩ | ⟨i', q2, -, q3⟩
      · exact absurd hL (q2 k)
      · have hki := (q3 k).1 hL
        subst hki
        subst q2
        have := h3 m _ q1 (top_at l m hm4)
        have e2 : (yS l).top (m : Int) = topL m l (-1) := rfl
        omega
  rcases hb with ⟨h, -⟩ | ⟨i', h1, h2, ⟨e', h3, h4, h5, h6⟩, h7⟩
  · omega
  · obtain rfl : i = i' := by omega
    dsimp only at h3 h4
    obtain ⟨e, he, k1, k2, k3, k4⟩ := key i e' h3
    have hjob := g.job (nrm_at he)
    refine ⟨⟨⟨h1, by rw [yS_a hjob]; rw [k2] at h5; exact h5, by rw [sx_dn (x := nrm x) h4]; simp⟩, fun k hk hne => ?_⟩, h1, h4⟩
    obtain ⟨hk1, hk2, hk3⟩ := hk
    change k < l.length at hk1
    have hlk : k < x.es.length := by have := g.len; unfold nrm at this; simp at this; omega
    obtain ⟨ek, hek⟩ : ∃ e, x.es[k]? = some e := ⟨_, List.getElem?_eq_getElem hlk⟩
    obtain ⟨z, hz'⟩ : ∃ z, x.en[k]? = some z := ⟨_, List.getElem?_eq_getElem (by have := g.ne; change x.en.length = _ at this; omega)⟩
    have hz1 : z = -1 := Classical.byContradiction fun e => hk3 ((sx_dn (x := nrm x) hz').2 e)
    subst hz1
    obtain ⟨c, c1, -⟩ := upAll_at x.hs (topsF l) (x.es.map loF) k (loF ek) hz (by rw [List.getElem?_map, hek]; rfl)
    obtain ⟨ek2, j0, j1, j2, j3, j4⟩ := key k _ c1
    rw [hek] at j0
    cases j0
    have hjobk := g.job (nrm_at hek)
    rw [yS_a hjobk] at hk2
    have hwt : ek.wt = -1 := g.wt (nac ek) (List.mem_of_getElem? (nrm_at hek))
    have hbf := h7 k hk1 hne ⟨_, c1, hz', hk2, hwt⟩ _ _ h3 c1
    unfold bf at hbf
    rw [j4, k4] at hbf
    have b1 := sx_bg (nrm_at he)
    have b2 := sx_bg (nrm_at hek)
    change _ ↔ e.bg = true at b1
    change _ ↔ ek.bg = true at b2
    unfold ah lx
    rw [yS_a hjob, yS_a hjobk, b1, b2]
    rw [k1, k2] at hbf
    dsimp only [loF] at hbf
    show _ ∨ (_ ∧ (_ ∨ (_ ∧ (e.x.a < ek.x.a ∨ (e.x.a = ek.x.a ∧ i < k)))))
    rcases hbf with hbf | ⟨q1, hbf⟩
    · exact .inl hbf
    · refine .inr ⟨q1, ?_⟩
      cases hb1 : e.bg <;> cases hb2 : ek.bg <;> simp [hb1, hb2, ltr] at hbf ⊢ <;> omega
end Go.Proofs.Ytcmoehednkaehah
