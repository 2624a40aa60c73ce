import Derived.Test.YtccoobcggbbciamHZ1
namespace Go.Proofs.Ytccoobcggbbciam
open Go.ChangeShapes Go.WideShapes Go.ChangeAt Go.RowKit Go.Sort

/-- A row of a table: its numbers, and where they lie. -/
structure Ro where
  xs : List Int
  v : Value
def Ro.vals (x : Ro) : List Value := [x.v]
theorem Ro.len (x : Ro) : x.vals.length = 1 := rfl
def TabSl (w : World) (l : List Ro) (v : Value) : Prop := RowSl Ro.vals w l v ∧ ∀ x ∈ l, RowSl nuV w x.xs x.v
theorem TabSl.below {w w' : World} {l : List Ro} {v : Value} (h : TabSl w l v) (hb : Below w.heap.size w w') : TabSl w' l v := ⟨h.1.below hb, fun x hx => (h.2 x hx).below hb⟩
theorem ro_at {w : World} {l : List Ro} {b o j : Nat} {x : Ro} (h : ∀ q u, (l.flatMap Ro.vals)[q]? = some u → w.cell? ⟨b, o + q, none⟩ = some u) (hj : l[j]? = some x) : w.cell? ⟨b, o + j, none⟩ = some x.v := by
  have := h _ _ ((flat_at Ro.vals 1 Ro.len l j 0 x hj (by omega)).trans (rfl : x.vals[0]? = some x.v))
  simpa using this
theorem TabSl.nil (w : World) : TabSl w [] (.slice none 0 0) := ⟨RowSl.nil _ _, fun x hx => by simp at hx⟩

theorem zip_tab : ∀ (a : List (List Int)) (b : List Value), a.length = b.length → (List.zipWith Ro.mk a b).flatMap Ro.vals = b ∧ (List.zipWith Ro.mk a b).map Ro.xs = a ∧ (List.zipWith Ro.mk a b).length = b.length
  | [], [], _ => ⟨rfl, rfl, rfl⟩
  | x :: a, y :: b, h => by
    obtain ⟨h1, h2, h3⟩ := zip_tab a b (by simpa using h)
    refine ⟨?_, ?_, ?_⟩
    · rw [List.zipWith_cons_cons, List.flatMap_cons, h1]
      rfl
    · show x :: _ = _
      rw [h2]
    · show _ + 1 = _ + 1
      rw [h3]
  | [], y :: b, h => by simp at h
  | x :: a, [], h => by simp at h

theorem EnR.row {W : World} {v : Value} {r : List Int} (h : EnR W v r) : RowSl nuV W r v := by
  obtain ⟨g, c, ex, rfl, hc, hh⟩ := h
  refine ⟨_, c, rfl, (fun e => by cases e), hc, .inr ⟨g, 0, rfl, fun q u hq => ?_⟩⟩
  rw [flat_nuN] at hq
  rw [Nat.zero_add]
  exact (cells_of hh).1 q u (by rw [List.getElem?_append_left (List.getElem?_eq_some_iff.1 hq).1]; exact hq)

/-- Ends, as a table. -/
theorem tab_of {W : World} {gE : Nat} {ev : List Value} {ends : List (List Int)} (h : W.heap[gE]? = some (.cells ev.toArray 24 (0, 0))) (hl : ends.length = ev.length) (he : ∀ (i : Nat) (v : Value), ev[i]? = some v → EnR W v (ends.getD i [])) : TabSl W (List.zipWith Ro.mk ends ev) (.slice (some ⟨gE, 0, none⟩) ev.length ev.length) := by
  obtain ⟨h1, h2, h3⟩ := zip_tab ends ev hl
  refine ⟨⟨_, _, by rw [h3], (fun e => by cases e), Nat.le_of_eq h3, .inr ⟨gE, 0, rfl, fun q u hq => ?_⟩⟩, fun x hx => ?_⟩
  · rw [h1] at hq
    rw [Nat.zero_add]
    exact (cells_of h).1 q u hq
  · obtain ⟨i, hi⟩ := List.mem_iff_getElem?.1 hx
    rw [List.getElem?_zipWith] at hi
    cases ha : ends[i]? with
    | none => rw [ha] at hi; simp at hi
    | some a =>
      cases hb : ev[i]? with
      | none => rw [ha, hb] at hi; simp at hi
      | some b =>
        rw [ha, hb] at hi
        cases hi
        have := he i b hb
        rw [List.getD_eq_getElem?_getD, ha] at this
        exact this.row

set_option maxRecDepth 20000 in
set_option maxHeartbeats 4000000 in
/-- Tables, of the same. -/
theorem Tables_any (w : World) (l l' : List Ro) (v v' : Value) (he : l.map Ro.xs = l'.map Ro.xs) (hl : l.length ≤ 5000) (hs : ∀ x ∈ l, x.xs.length ≤ 4194304) (hv : TabSl w l v) (hv' : TabSl w l' v') :
    Calls Try.prog 10 #[v, v'] w fun r w' => r = .returned (.bool true) ∧ Below w.heap.size w w' := by
  obtain ⟨⟨ad, c, rfl, -, hcap, hrow⟩, hacts⟩ := hv
  obtain ⟨⟨ad', c', rfl, -, hcap', hrow'⟩, hacts'⟩ := hv'
  have hle : l'.length = l.length := by have := congrArg List.length he; simpa using this.symm
  rw [hle] at hcap' ⊢
  have HR : Hid ((∀ W, Below w.heap.size w W → (l = [] ∨ ∃ b o, ad = some ⟨b, o, none⟩ ∧ ∀ q u, (l.flatMap Ro.vals)[q]? = some u → W.cell? ⟨b, o + q, none⟩ = some u)) ∧ (∀ x ∈ l, RowSl nuV w x.xs x.v) ∧ (∀ x ∈ l, x.xs.length ≤ 4194304) ∧ (∀ W, Below w.heap.size w W → (l' = [] ∨ ∃ b o, ad' = some ⟨b, o, none⟩ ∧ ∀ q u, (l'.flatMap Ro.vals)[q]? = some u → W.cell? ⟨b, o + q, none⟩ = some u)) ∧ (∀ x ∈ l', RowSl nuV w x.xs x.v) ∧ l.map Ro.xs = l'.map Ro.xs ∧ l'.length = l.length) := ⟨fun W hb => hrow.imp id (fun ⟨b, o, e, h⟩ => ⟨b, o, e, fun q u hq => below_cell hb (h q u hq)⟩), hacts, hs, fun W hb => hrow'.imp id (fun ⟨b, o, e, h⟩ => ⟨b, o, e, fun q u hq => below_cell hb (h q u hq)⟩), hacts', he, hle⟩
  clear hrow hacts hs hrow' hacts' he hle
  go_enter Try.func10, Try.ntmps10
  go_wp2_with fail
  go_loopw [13] (fun i wr => ∃ (j : Nat), j ≤ l.length ∧ i = .int .i64 j ∧ Below w.heap.size w wr) (fun i _ => l.length - (intOf i).toNat)
  case atStart => exact ⟨0, Nat.zero_le _, rfl, Below.refl _ _⟩
  case round =>
    obtain ⟨j, hj, rfl, hb⟩ := hrel
    have HB : Hid (Below w.heap.size w wr) := hb
    by_cases hlt : j < l.length
    · obtain ⟨x, hx, -⟩ := drop_at hlt
      obtain ⟨y, hy, -⟩ := drop_at (show j < l'.length by have := HR.out.2.2.2.2.2.2; omega)
      rcases HR.out.1 wr hb with h | ⟨b, o, rfl, hrow⟩
      · rw [h] at hlt; simp at hlt
      rcases HR.out.2.2.2.1 wr hb with h | ⟨b', o', rfl, hrow'⟩
      · have := HR.out.2.2.2.2.2.2; rw [h] at this; simp at this; omega
      have c0 := ro_at hrow hx
      have c1 := ro_at hrow' hy
      have hxy : y.xs = x.xs := by
        have h7 := congrArg (·[j]?) HR.out.2.2.2.2.2.1
        simp only [List.getElem?_map, hx, hy, Option.map_some, Option.some.injEq] at h7
        exact h7.symm
      have r0 := (HR.out.2.1 x (List.mem_of_getElem? hx)).below hb
      have r1 := (HR.out.2.2.2.2.1 y (List.mem_of_getElem? hy)).below hb
      rw [hxy] at r1
      have hsz := HR.out.2.2.1 x (List.mem_of_getElem? hx)
      have HS : Hid (∀ W, Below wr.heap.size wr W → Calls Try.prog 9 #[x.v, y.v] W fun r w' => r = .returned (.bool true) ∧ Below W.heap.size W w') := fun W hW => (SmN_any W x.xs x.xs x.v y.v hsz rfl (r0.below hW) (r1.below hW)).mono (by
        rintro r w' ⟨h1, h2⟩
        exact ⟨by simpa using h1, h2⟩)
      obtain ⟨xa, xc, hxe⟩ := r0.len
      obtain ⟨ya, yc, hye⟩ := r1.len
      rw [hxe] at c0
      rw [hye] at c1
      rw [hxe, hye] at HS
      have lb : b < wr.heap.size := World.block_lt_of_cell? _ _ c0
      have lb' : b' < wr.heap.size := World.block_lt_of_cell? _ _ c1
      have hji : (j : Int) < (l.length : Int) := by omega
      clear hrow hrow' hb hx hy hxy r0 r1 hsz hxe hye
      generalize x.xs.length = xn at *
      go_wp2_with fail
      refine wp_region_noPanic ?_
      refine wp_region_held_drew (S := fun w' => w'.cell? ⟨b, o + j, none⟩ = some (.slice xa xn xc) ∧ w'.cell? ⟨b', o' + j, none⟩ = some (.slice ya xn yc)) (by kernel_rfl) ⟨by go_simp, by go_simp⟩ (fun hHeld => ?_)
      refine take_at (i := 0) (n := 16) (v := ?_) rfl rfl (by kernel_rfl) (by kernel_rfl) (by kernel_rfl) (fun _ _ _ h => h) (Or.inl ⟨by rfl, ?_⟩) (by assumption) ?_
      rotate_left 1
      · intro wz hSw
        obtain ⟨k0, k1⟩ := hSw
        first | (go_simp; done) | (go_simp; with_reducible rfl)
      simp only [List.set_cons_zero, List.set_cons_succ]
      refine take_at (i := 1) (n := 17) (v := ?_) rfl rfl (by kernel_rfl) (by kernel_rfl) (by kernel_rfl) (fun _ _ _ h => h) (Or.inl ⟨by rfl, ?_⟩) (by assumption) ?_
      rotate_left 1
      · intro wz hSw
        obtain ⟨k0, k1⟩ := hSw
        first | (go_simp; done) | (go_simp; with_reducible rfl)
      simp only [List.set_cons_zero, List.set_cons_succ]
      refine take_at (i := 2) (n := 18) (v := ?_) rfl rfl (by kernel_rfl) (by kernel_rfl) (by kernel_rfl) (fun _ _ _ h => h) (Or.inl ⟨by rfl, ?_⟩) (by assumption) ?_
      rotate_left 1
      · intro wz hSw
        obtain ⟨k0, k1⟩ := hSw
        first | (go_simp; done) | (go_simp; with_reducible rfl)
      simp only [List.set_cons_zero, List.set_cons_succ]
      refine take_at (i := 3) (n := 19) (v := ?_) rfl rfl (by kernel_rfl) (by kernel_rfl) (by kernel_rfl) (fun _ _ _ h => h) (Or.inl ⟨by rfl, ?_⟩) (by assumption) ?_
      rotate_left 1
      · intro wz hSw
        obtain ⟨k0, k1⟩ := hSw
        first | (go_simp; done) | (go_simp; with_reducible rfl)
      simp only [List.set_cons_zero, List.set_cons_succ]
      refine take_at (i := 4) (n := 20) (v := ?_) rfl rfl (by kernel_rfl) (by kernel_rfl) (by kernel_rfl) (fun _ _ _ h => h) (Or.inl ⟨by rfl, ?_⟩) (by assumption) ?_
      rotate_left 1
      · intro wz hSw
        obtain ⟨k0, k1⟩ := hSw
        first | (go_simp; done) | (go_simp; with_reducible rfl)
      simp only [List.set_cons_zero, List.set_cons_succ]
      refine take_at (i := 5) (n := 21) (v := ?_) rfl rfl (by kernel_rfl) (by kernel_rfl) (by kernel_rfl) (fun _ _ _ h => h) (Or.inl ⟨by rfl, ?_⟩) (by assumption) ?_
      rotate_left 1
      · intro wz hSw
        obtain ⟨k0, k1⟩ := hSw
        first | (go_simp; done) | (go_simp; with_reducible rfl)
      simp only [List.set_cons_zero, List.set_cons_succ]
      refine take_at (i := 6) (n := 22) (v := ?_) rfl rfl (by kernel_rfl) (by kernel_rfl) (by kernel_rfl) (fun _ _ _ h => h) (Or.inl ⟨by rfl, ?_⟩) (by assumption) ?_
      rotate_left 1
      · intro wz hSw
        obtain ⟨k0, k1⟩ := hSw
        first | (go_simp; done) | (go_simp; with_reducible rfl)
      simp only [List.set_cons_zero, List.set_cons_succ]
      refine take_at (i := 7) (n := 23) (v := ?_) rfl rfl (by kernel_rfl) (by kernel_rfl) (by kernel_rfl) (fun _ _ _ h => h) (Or.inl ⟨by rfl, ?_⟩) (by assumption) ?_
      rotate_left 1
      · intro wz hSw
        obtain ⟨k0, k1⟩ := hSw
        first | (go_simp; done) | (go_simp; with_reducible rfl)
      simp only [List.set_cons_zero, List.set_cons_succ]
      refine wpAnyH_ready (rs := [8]) (by kernel_rfl) (by simp) ?_
      refine AllReadyH.cons rfl (fun K hK => ?_) AllReadyH.nil
      go_simp
      go_wp2_with (go_at_call 9; refine (HS.out _ (Below.refl _ _).drew).mono ?_; rintro r w5 ⟨rfl, hb5⟩)
      have H5 : Hid (Below wr.heap.size wr w5) := below_seq (Below.refl _ _).drew hb5
      refine hK.out _ _ ⟨below_cell H5.out c0, below_cell H5.out c1⟩ (fun hHeld => ?_)
      clear hb5
      clear hK K
      try simp only [List.set_cons_zero, List.set_cons_succ]
      refine take_at (i := 9) (n := 25) (v := ?_) rfl rfl (by kernel_rfl) (by kernel_rfl) (by kernel_rfl) (fun _ _ _ h => h) (Or.inl ⟨by rfl, ?_⟩) (by assumption) ?_
      rotate_left 1
      · intro wz hSw
        obtain ⟨k0, k1⟩ := hSw
        first | (go_simp; done) | (go_simp; with_reducible rfl)
      simp only [List.set_cons_zero, List.set_cons_succ]
      refine wpAnyH_done (by kernel_rfl) ?_ _
      refine NoPanic.normal ?_
      clear hHeld
      go_wp2_with fail
      exact ⟨⟨j + 1, by omega, by simp, below_seq HB.out H5.out⟩, by simp [intOf]; omega⟩
    · have hje : j = l.length := by omega
      subst hje
      go_wp2_with fail
      go_ret
      exact ⟨rfl, hb⟩

/-- The closed run. -/
theorem play_closed (w : World) (pv cv : Value) (hp : RowSl Pa.vals w ptsF pv) (hc : RowSl Co.vals w csF cv) : Calls Try.prog 7 #[pv, cv, .slice none 0 0, .int .i64 30] w (PlayPost w ptsF csF [] 30 [0, 1]) := by
  refine Play_any w ptsF csF [] 30 pv cv (.slice none 0 0) [0, 1] hp hc (RowSl.nil _ _) (by decide) (by decide) rfl (by decide) (fun W hb => ?_)
  have hc' := hc.below hb
  refine inTime_any W csF cv [0, 1] hc' (by decide) rfl (fun W' g bS hb' h2 hlt hle hN => ?_)
  have h := insC_any W' csF cv bS g (by decide) (hc'.below hb') h2 (by omega) (fun ad c e b o ead => by
    obtain ⟨ad', c', e', -, -, h⟩ := hc'
    rw [e'] at e
    injection e with e1
    subst e1 ead
    rcases h with h | ⟨b', o', e2, h⟩
    · cases h
    · injection e2 with e2
      injection e2 with e2
      subst e2
      have h8 : b < W.heap.size := World.block_lt_of_cell? _ _ (h 0 _ rfl)
      omega) hN
  rw [insO_closed] at h
  refine h.mono ?_
  rintro r W2 ⟨rfl, h1, h3⟩
  exact ⟨rfl, h1, grownBy_below h3 hb'.size (by intro q hq; cases hq; omega)⟩

/-- A row that has just been made. -/
theorem row_newC {α : Type} {f : α → List Value} (W : World) (l : List α) (n : Nat) (cs : Array Value) (e : TypeId) (hn : n = l.length) (hc : cs = (l.flatMap f).toArray) : RowSl f (W.alloc (.cells cs e)) l (.slice (some ⟨W.heap.size, 0, none⟩) n n) := by
  subst hn hc
  refine ⟨_, _, rfl, (fun e => by cases e), Nat.le_refl _, .inr ⟨_, 0, rfl, fun q u hq => ?_⟩⟩
  rw [Nat.zero_add]
  exact (cells_of (heap_alloc_new _ _)).1 q u hq

set_option maxRecDepth 20000 in
theorem parts_any (w : World) : Calls Try.prog 8 #[] w fun r w' => ∃ v, r = .returned v ∧ RowSl Pa.vals w' ptsF v ∧ Below w.heap.size w w' := by
  go_enter Try.func8, Try.ntmps8
  go_wp2_with fail
  go_ret
  exact ⟨_, rfl, row_newC (f := Pa.vals) w ptsF 4 _ _ rfl rfl, below_new _ _⟩
end Go.Proofs.Ytccoobcggbbciam
namespace Go.Proofs.Ytccoobcggbbciam
open Go.ChangeShapes Go.WideShapes Go.ChangeAt Go.RowKit Go.Sort

/-- A fault's block that stays. -/
def FL (W : World) (G : Nat) (z1 z2 : Int) : Prop := W.heap[G]? = some (.cells #[.int .i64 z1, .int .i64 z2] 29 (0, 0))
theorem FL.grow {W W' : World} {G : Nat} {z1 z2 : Int} (h : FL W G z1 z2) (hb : Below W.heap.size W W') : FL W' G z1 z2 := (hb.block G (Array.getElem?_eq_some_iff.1 h).1).trans h
theorem FL.new (W : World) (z1 z2 : Int) : FL (W.alloc (.cells #[.int .i64 z1, .int .i64 z2] 29)) W.heap.size z1 z2 := heap_alloc_new _ _
theorem FL.cells {W : World} {G : Nat} {z1 z2 : Int} (h : FL W G z1 z2) : W.cell? ⟨G, 0, none⟩ = some (.int .i64 z1) ∧ W.cell? ⟨G, 1, none⟩ = some (.int .i64 z2) ∧ G < W.heap.size := by
  obtain ⟨c1, f1, l1⟩ := cells_of (l := [_, _]) h
  exact ⟨c1 0 _ rfl, c1 1 _ rfl, l1⟩

def endsF : List (List Int) := [[2, 9, -1, -1], [-1, -1, 5, 6]]

theorem play_tab (w : World) (pv cv : Value) (hp : RowSl Pa.vals w ptsF pv) (hc : RowSl Co.vals w csF cv) : Calls Try.prog 7 #[pv, cv, .slice none 0 0, .int .i64 30] w fun r w' => ∃ gE l, r = .returned (.tuple #[.slice (some ⟨gE, 0, none⟩) 2 2, .agg #[.int .i64 0, .int .i64 0]]) ∧ TabSl w' l (.slice (some ⟨gE, 0, none⟩) 2 2) ∧ l.map Ro.xs = endsF ∧ Below w.heap.size w w' := by
  refine (play_closed w pv cv hp hc).mono ?_
  rintro r w' (⟨h, -⟩ | ⟨-, gE, ev, rfl, hg, hl, he, -, -, hb⟩)
  · exact absurd (by rw [chk_closed]) h
  · rw [show (playTo ptsF [] csF [0, 1] (30 : Int).toNat).2.ends = endsF from ends_closed] at he
    have hl2 : endsF.length = ev.length := hl.symm
    have h2 : ev.length = 2 := hl
    have h9 := tab_of hg hl2 he
    rw [h2] at h9
    exact ⟨gE, _, rfl, h9, (zip_tab _ _ hl2).2.1, hb⟩

/-- Two rows, written out. -/
def litL (W : World) : List Ro := [⟨[2, 9, -1, -1], .slice (some ⟨W.heap.size, 0, none⟩) 4 4⟩, ⟨[-1, -1, 5, 6], .slice (some ⟨W.heap.size + 1, 0, none⟩) 4 4⟩]
theorem lit_xs (W : World) : (litL W).map Ro.xs = endsF := rfl
theorem lit_tab (W : World) : TabSl (((W.alloc (.cells #[.int .i64 2, .int .i64 9, .int .i64 (-1), .int .i64 (-1)] 3)).alloc (.cells #[.int .i64 (-1), .int .i64 (-1), .int .i64 5, .int .i64 6] 3)).alloc (.cells #[.slice (some ⟨W.heap.size, 0, none⟩) 4 4, .slice (some ⟨W.heap.size + 1, 0, none⟩) 4 4] 24)) [⟨[2, 9, -1, -1], .slice (some ⟨W.heap.size, 0, none⟩) 4 4⟩, ⟨[-1, -1, 5, 6], .slice (some ⟨W.heap.size + 1, 0, none⟩) 4 4⟩] (.slice (some ⟨W.heap.size + 1 + 1, 0, none⟩) 2 2) := by
  have r1 := row_newC (f := nuV) W [2, 9, -1, -1] 4 #[.int .i64 2, .int .i64 9, .int .i64 (-1), .int .i64 (-1)] 3 rfl rfl
  have r2 := row_newC (f := nuV) (W.alloc (.cells #[.int .i64 2, .int .i64 9, .int .i64 (-1), .int .i64 (-1)] 3)) [-1, -1, 5, 6] 4 #[.int .i64 (-1), .int .i64 (-1), .int .i64 5, .int .i64 6] 3 rfl rfl
  have r3 := row_newC (f := Ro.vals) ((W.alloc (.cells #[.int .i64 2, .int .i64 9, .int .i64 (-1), .int .i64 (-1)] 3)).alloc (.cells #[.int .i64 (-1), .int .i64 (-1), .int .i64 5, .int .i64 6] 3)) [⟨[2, 9, -1, -1], .slice (some ⟨W.heap.size, 0, none⟩) 4 4⟩, ⟨[-1, -1, 5, 6], .slice (some ⟨W.heap.size + 1, 0, none⟩) 4 4⟩] 2 #[.slice (some ⟨W.heap.size, 0, none⟩) 4 4, .slice (some ⟨W.heap.size + 1, 0, none⟩) 4 4] 24 rfl rfl
  rw [World.size_alloc, World.size_alloc] at r3
  rw [World.size_alloc] at r2
  refine ⟨r3, fun x hx => ?_⟩
  simp only [List.mem_cons, List.not_mem_nil, or_false] at hx
  rcases hx with rfl | rfl
  · exact (r1.below (below_new _ _)).below (below_new _ _)
  · exact r2.below (below_new _ _)

/-- What the responses and the run left. -/
structure CA (w W : World) (gf : Nat) (tv : Value) : Prop where
  bel : Below w.heap.size w W
  f : FL W gf 0 0
  r : RowSl nuV W [2, 10, 1, 4] tv
theorem CA.grow {w W W' : World} {gf : Nat} {tv : Value} (h : CA w W gf tv) (hb : Below W.heap.size W W') : CA w W' gf tv := ⟨below_seq h.bel hb, h.f.grow hb, h.r.below hb⟩

set_option maxRecDepth 20000 in
set_option maxHeartbeats 4000000 in
theorem chained_any (w : World) : Calls Try.prog 4 #[] w fun r w' => r = .returned (.bool true) ∧ Below w.heap.size w w' := by
  have R1 := parts_any w
  go_enter Try.func4, Try.ntmps4
  go_upto_region 2 with (first
    | (go_at_call 6; refine R2.mono ?_; rintro r w2 ⟨ts, e, tv, hR, rfl, ht, hb2, -⟩; obtain ⟨hts, he⟩ := RespsR.one resps_closed hR; subst hts; subst he; have A1 : Hid (CA w (w2.alloc (.cells #[.int .i64 0, .int .i64 0] 29)) w2.heap.size tv) := ⟨below_seq (below_seq hb1 hb2) (below_new _ _), FL.new _ _ _, ht.below (below_new _ _)⟩; clear hb1 hb2 ht hR R2)
    | (go_at_call 8; refine R1.mono ?_; rintro r w1 ⟨v1, rfl, hr1, hb1⟩; have R2 := RespsC_any w1 ptsF v1 hr1; obtain ⟨a1, c1, rfl⟩ := hr1.len; clear hr1 R1))
  generalize (w2.alloc (.cells #[.int .i64 0, .int .i64 0] 29)) = w3 at *
  generalize w2.heap.size = g2 at *
  have R3 := parts_any w3
  go_upto_region 3 with (first
    | (go_at_call 7; refine R5.mono ?_; rintro r w5 ⟨gE, tl, rfl, htab, htl, hb5⟩; have A2 : Hid (CA w (w5.alloc (.cells #[.int .i64 0, .int .i64 0] 29)) g2 tv ∧ FL (w5.alloc (.cells #[.int .i64 0, .int .i64 0] 29)) w5.heap.size 0 0 ∧ TabSl (w5.alloc (.cells #[.int .i64 0, .int .i64 0] 29)) tl (.slice (some ⟨gE, 0, none⟩) 2 2) ∧ tl.map Ro.xs = endsF) := ⟨A1.out.grow (below_seq (below_seq (below_seq hb4 (below_new _ _)) hb5) (below_new _ _)), FL.new _ _ _, htab.below (below_new _ _), htl⟩; clear hb4 hb5 htab htl R5 A1)
    | (go_at_call 8; refine R3.mono ?_; rintro r w4 ⟨v4, rfl, hr4, hb4⟩; have R5 := play_tab (w4.alloc (.cells #[.int .i64 0, .int .i64 0, .int .i64 2, .int .i64 4] 33)) v4 (.slice (some ⟨w4.heap.size, 0, none⟩) 2 2) (hr4.below (below_new _ _)) (row_newC (f := Co.vals) w4 csF 2 _ _ rfl rfl); obtain ⟨a4, c4, rfl⟩ := hr4.len; clear hr4 R3))
  generalize (w5.alloc (.cells #[.int .i64 0, .int .i64 0] 29)) = w6 at *
  generalize w5.heap.size = g5 at *
  obtain ⟨x0, -, x2⟩ := A2.out.1.f.cells
  obtain ⟨y0, -, y2⟩ := A2.out.2.1.cells
  have S1 := SmN_any (w6.alloc (.cells #[.int .i64 2, .int .i64 10, .int .i64 1, .int .i64 4] 3)) [2, 10, 1, 4] [2, 10, 1, 4] tv (.slice (some ⟨w6.heap.size, 0, none⟩) 4 4) (by decide) rfl (A2.out.1.r.below (below_new _ _)) (row_newC (f := nuV) w6 [2, 10, 1, 4] 4 _ _ rfl rfl)
  rw [show decide (([2, 10, 1, 4] : List Int) = [2, 10, 1, 4]) = true from by decide] at S1
  go_wp2_with (first
    | (go_at_call 10; refine S2.mono ?_; rintro r w8 ⟨rfl, hb8⟩; have H8 : Hid (Below w.heap.size w w8) := below_seq (below_seq (below_seq A2.out.1.bel hb7) (below_seq (below_seq (below_new _ _) (below_new _ _)) (below_new _ _))) hb8; clear hb7 hb8 S2)
    | (go_at_call 9; refine S1.mono ?_; rintro r w7 ⟨rfl, hb7'⟩; have hb7 := below_seq (below_new w6 (.cells #[.int .i64 2, .int .i64 10, .int .i64 1, .int .i64 4] 3)) hb7'; have S2 := Tables_any _ tl (litL w7) _ _ (A2.out.2.2.2.trans (lit_xs w7).symm) (by have := congrArg List.length A2.out.2.2.2; simp [endsF] at this; omega) (fun x hx => by have := List.mem_map_of_mem (f := Ro.xs) hx; rw [A2.out.2.2.2] at this; simp [endsF] at this; rcases this with h | h <;> rw [h] <;> decide) (A2.out.2.2.1.below (below_seq hb7 (below_seq (below_seq (below_new _ _) (below_new _ _)) (below_new _ _)))) (lit_tab w7); clear hb7' S1))
  go_ret
  exact ⟨rfl, H8.out⟩
end Go.Proofs.Ytccoobcggbbciam
