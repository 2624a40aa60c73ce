import Derived.Test.YtikdidfgdiafoabDoorGMeanAll
import Derived.Test.YtikdidfgdiafoabDoorGInnerQ
import Derived.Deep.RegionHeldLaw
namespace Go.Proofs.YtikdidfgdiafoabDoor
open Go.ChangeShapes Go.WideShapes Go.ChangeAt Go.RowKit

theorem keep5 {X Y : World} {p q : Nat} {y x1 x2 x3 x4 : Value} (hp : Y.heap[p]? = X.heap[p]?) (hq : Y.heap[q]? = X.heap[q]?) (h : X.cell? ⟨p, 0, none⟩ = some y ∧ X.cell? ⟨q, 1, none⟩ = some x1 ∧ X.cell? ⟨q, 2, none⟩ = some x2 ∧ X.cell? ⟨q, 3, none⟩ = some x3 ∧ X.cell? ⟨q, 4, none⟩ = some x4) :
    Y.cell? ⟨p, 0, none⟩ = some y ∧ Y.cell? ⟨q, 1, none⟩ = some x1 ∧ Y.cell? ⟨q, 2, none⟩ = some x2 ∧ Y.cell? ⟨q, 3, none⟩ = some x3 ∧ Y.cell? ⟨q, 4, none⟩ = some x4 :=
  ⟨(World.cell?_of_block hp).trans h.1, (World.cell?_of_block hq).trans h.2.1, (World.cell?_of_block hq).trans h.2.2.1, (World.cell?_of_block hq).trans h.2.2.2.1, (World.cell?_of_block hq).trans h.2.2.2.2⟩

set_option maxRecDepth 20000 in
set_option maxHeartbeats 4000000 in
theorem one_1 (w0 w : World) (rb vb B vc : Nat) (iv pv : Value) (s : Ms) (at_ : Nat) (hst : s.steps < 20000) (h : Rn w rb vb B vc 53 iv (.int .i64 (-1)) pv s) (hrb : w0.heap.size ≤ rb) (hvb : w0.heap.size ≤ vb) (hB0 : Below w0.heap.size w0 w)
    (n ek en ck ak an bk bn : Int) (ead aad bad yad lad : Option Addr) (em ec am ac bm bc yc lc : Nat) (b l : List St) (hy : St.Sl w0 b (.slice yad b.length yc)) (hN : St.bulkAll b ≤ 1048576) (hat : at_ + 1 + St.bulkAll b + St.bulkAll l ≤ 2097152) (is : List Int) (m : Nat) (hm : m < 8) (hnm : n = m) (e : Ex) (hne : e.nodes ≤ 1048576) (hoke : e.Ok) (hi : InsIs w0 iv is) (hein : e.In w0 (.agg #[.int .i64 ek, .int .i64 en, .slice ead em ec])) :
    Calls Tryd.prog 33 #[.pointer (some ⟨rb, 0, none⟩), .agg #[.int .i64 1, .int .i64 n, .int .i64 ek, .int .i64 en, .slice ead em ec, .int .i64 ck, .int .i64 ak, .int .i64 an, .slice aad am ac, .int .i64 bk, .int .i64 bn, .slice bad bm bc, .slice yad b.length yc, .slice lad l.length lc], .int .i64 at_] w
      fun r w' => r = .returned (.tuple #[]) ∧ ∃ pv', Rn w' rb vb B vc 53 iv (.int .i64 (-1)) pv' { s with steps := s.steps + 1, vars := s.vars.set m (e.val s.vars is) } ∧ RR rb vb w w' pv pv' := by
  subst hnm
  obtain ⟨c0, c1, c2, c3, c4, cf, cl⟩ := h.cells
  have hd : decide ((20000 : Int) ≤ (s.steps : Int)) = false := decide_eq_false (by omega)
  have HE : Hid (_ ∧ _) := h.entered (s.steps + 1) (.cells #[.int .i64 1, .int .i64 m, .int .i64 ek, .int .i64 en, .slice ead em ec, .int .i64 ck, .int .i64 ak, .int .i64 an, .slice aad am ac, .int .i64 bk, .int .i64 bn, .slice bad bm bc, .slice yad b.length yc, .slice lad l.length lc] 61)
  have HL : Hid (Below w0.heap.size w0 _) := HE.out.2.low h hrb hvb hB0
  have HQ : Hid (copyIs ((w.setCell ⟨rb, 2, none⟩ (.int .i64 (s.steps + 1 : Nat))).alloc (.cells #[.int .i64 1, .int .i64 m, .int .i64 ek, .int .i64 en, .slice ead em ec, .int .i64 ck, .int .i64 ak, .int .i64 an, .slice aad am ac, .int .i64 bk, .int .i64 bn, .slice bad bm bc, .slice yad b.length yc, .slice lad l.length lc] 61)) w.heap.size (.int .i64 1) (.int .i64 m) (.int .i64 ek) (.int .i64 en) (.slice ead em ec) (.int .i64 ck) (.int .i64 ak) (.int .i64 an) (.slice aad am ac) (.int .i64 bk) (.int .i64 bn) (.slice bad bm bc) (.slice yad b.length yc) (.slice lad l.length lc)) := by
    have := heap_alloc_new (w.setCell ⟨rb, 2, none⟩ (.int .i64 (s.steps + 1 : Nat))) (.cells #[.int .i64 1, .int .i64 m, .int .i64 ek, .int .i64 en, .slice ead em ec, .int .i64 ck, .int .i64 ak, .int .i64 an, .slice aad am ac, .int .i64 bk, .int .i64 bn, .slice bad bm bc, .slice yad b.length yc, .slice lad l.length lc] 61)
    rw [set_size] at this
    exact this
  have hcnt := St.countAll_le b
  have HY : Hid (St.Sl w0 b (.slice yad b.length yc) ∧ e.Ok ∧ InsIs w0 iv is ∧ e.In w0 (.agg #[.int .i64 ek, .int .i64 en, .slice ead em ec])) := ⟨hy, hoke, hi, hein⟩
  have hnq : rb ≠ w.heap.size := by omega
  have hnv : vb ≠ w.heap.size := by have := h.vcells.2.2; omega
  have hrv : rb ≠ vb := h.ne
  clear h hB0 hy hoke hi hein
  go_enter Tryd.func33, Tryd.ntmps33
  go_wp2_with (go_at_call 16; refine (Size_any 1048577 b _ _ (by omega) (by omega) (HY.out.1.below (HL.out))).mono ?_; rintro r w4 ⟨rfl, hb4⟩; have HB4 : Hid _ := hb4; obtain ⟨d0, d1, d2, d3, d4, d5, d6, d7, d8, d9, d10, d11, d12, d13, -⟩ := copyIs.cell ((hb4.block _ HQ.out.lt).trans HQ.out); have hql := World.block_lt_of_cell? _ _ d0; have HC4 : Hid (_ ∧ Below w0.heap.size w0 w4) := ⟨HE.out.1.below hb4, HL.out.trans (hb4.mono HL.out.size)⟩; clear hb4)
  obtain ⟨k0, -, -, -, -, -, -⟩ := HC4.out.1.cells
  have m0 : (0 : Int) ≤ (m : Int) := by omega
  have m8 : (m : Int) < 8 := by omega
  have m9 : ¬ (8 : Int) ≤ (m : Int) := by omega
  go_region_held3 (fun w' => w'.cell? ⟨rb, 0, none⟩ = some (.slice (some ⟨vb, 0, none⟩) 8 vc) ∧ w'.cell? ⟨w.heap.size, 1, none⟩ = some (.int .i64 m) ∧ w'.cell? ⟨w.heap.size, 2, none⟩ = some (.int .i64 ek) ∧ w'.cell? ⟨w.heap.size, 3, none⟩ = some (.int .i64 en) ∧ w'.cell? ⟨w.heap.size, 4, none⟩ = some (.slice ead em ec))
    (first | assumption | exact ⟨k0, d1, d2, d3, d4⟩ | exact keep5 (Below.heap_setCell _ _ _ _ (by simpa using hrv)) (Below.heap_setCell _ _ _ _ (by simpa using hnv.symm)) (by assumption))
    (first
      | (go_at_call 40; refine (worth_any rb s.vars is 1048577 e _ _ (by omega) (by omega) HY.out.2.1 ((HC4.out.1.below (Below.refl _ _).drew).val HY.out.2.2.1 HC4.out.2.drew) (HY.out.2.2.2.below HC4.out.2.drew)).mono ?_; rintro r w6 ⟨rfl, hb6⟩; have hS6 := keep5 (hb6.block rb (World.block_lt_of_cell? _ _ k0)) (hb6.block w.heap.size (World.block_lt_of_cell? _ _ d1)) ‹_ ∧ _ ∧ _ ∧ _ ∧ _›; have HC6 : Hid (Rn w6 rb vb B vc 53 iv (.int .i64 (-1)) pv { s with steps := s.steps + 1 } ∧ Below w4.heap.size w4 w6) := ⟨HC4.out.1.below (below_seq (Below.refl _ _).drew hb6), below_seq (Below.refl _ _).drew hb6⟩; have v6 := HC6.out.1.vcells.1 m hm; have v6f := HC6.out.1.vcells.2.1; clear hb6))
  have R := HC6.out.1.varSet m hm (e.val s.vars is)
  go_wp2_with fail
  go_end0
  exact ⟨rfl, pv, R.1, HE.out.2.trans ((RR.of_below HB4.out).trans ((RR.of_below HC6.out.2).trans R.2))⟩
end Go.Proofs.YtikdidfgdiafoabDoor
namespace Go.Proofs.YtikdidfgdiafoabDoor
open Go.ChangeShapes Go.WideShapes Go.ChangeAt Go.RowKit

theorem info42 : (Tryd.prog.info? 42).map (fun i => (i.zero, i.size, i.bytes)) = some (some (.agg #[.int .i64 0, .int .i64 0]), 2, 16) := by kernel_rfl

theorem keep4 {X Y : World} {q : Nat} {x1 x2 x3 x4 : Value} (hq : Y.heap[q]? = X.heap[q]?) (h : X.cell? ⟨q, 1, none⟩ = some x1 ∧ X.cell? ⟨q, 2, none⟩ = some x2 ∧ X.cell? ⟨q, 3, none⟩ = some x3 ∧ X.cell? ⟨q, 4, none⟩ = some x4) :
    Y.cell? ⟨q, 1, none⟩ = some x1 ∧ Y.cell? ⟨q, 2, none⟩ = some x2 ∧ Y.cell? ⟨q, 3, none⟩ = some x3 ∧ Y.cell? ⟨q, 4, none⟩ = some x4 :=
  ⟨(World.cell?_of_block hq).trans h.1, (World.cell?_of_block hq).trans h.2.1, (World.cell?_of_block hq).trans h.2.2.1, (World.cell?_of_block hq).trans h.2.2.2⟩

/-- Something went out. -/
theorem Rn.putted {w w7 : World} {rb vb B vc : Nat} {T : TypeId} {iv x4 pv v3 : Value} {s : Ms} {o : Obj} {n z : Int} (h : Rn w rb vb B vc T iv x4 pv s) (hown : w7.ownsRow B 42 2 v3 (s.puts.length + 1) (putVs s.puts ++ [.int .i64 n, .int .i64 z])) (hg : (w.alloc o).grownBy w7 pv.ownBlock)
    (hv : v3.ownBlock = pv.ownBlock ∨ ∀ k, v3.ownBlock = some k → (w.alloc o).heap.size ≤ k) :
    (Rn (w7.setCell ⟨rb, 1, none⟩ v3) rb vb B vc T iv x4 v3 { s with puts := s.puts ++ [(n, z)] } ∧ RR rb vb w (w7.setCell ⟨rb, 1, none⟩ v3) pv v3) ∧ w7.cell? ⟨rb, 1, none⟩ = some pv ∧ (∀ j, w7.frozen? ⟨rb, j, none⟩ = false) ∧ ∀ k, k < w.heap.size → some k ≠ pv.ownBlock → w7.heap[k]? = w.heap[k]? := by
  have hr : some rb ≠ pv.ownBlock := fun e => by have := (h.own_lt rb e.symm).1; have := h.ltr; omega
  have hvb : some vb ≠ pv.ownBlock := fun e => by have := (h.own_lt vb e.symm).1; have := h.ltv; omega
  have old : ∀ k, k < w.heap.size → some k ≠ pv.ownBlock → w7.heap[k]? = w.heap[k]? := fun k hk hq => (World.grownBy.block hg k (by simp; omega) hq).trans (Below.heap_alloc _ _ _ hk)
  have b7 := (old rb (Array.getElem?_eq_some_iff.1 h.blk).1 hr).trans h.blk
  obtain ⟨hl, cs, h1, h2, h3⟩ := h.vars
  have c7 := (old vb (Array.getElem?_eq_some_iff.1 h1).1 hvb).trans h1
  have hs : w.heap.size ≤ w7.heap.size := by have := hg.size; simp at this; omega
  refine ⟨⟨⟨by simpa using setCell_at (i := 1) (u := v3) b7, ⟨hl, cs, (Below.heap_setCell _ _ _ _ (by simpa using h.ne.symm)).trans c7, h2, h3⟩, ?_, h.ltr, h.ltv, h.ne, by rw [set_size]; have := h.le; omega⟩, ?_⟩, ?_, ?_, old⟩
  · have := ownsRow_setCell_below hown (a := ⟨rb, 1, none⟩) (by show rb < B; exact h.ltr) v3
    simpa [putVs_snoc] using this
  · refine ⟨hg.os, hg.tape, hg.output, by rw [set_size]; exact hs, fun k hk h1 _ h3 => (Below.heap_setCell _ _ _ _ (by simpa using h1)).trans (old k hk h3), ?_⟩
    rcases hv with hv | hv
    · exact .inl hv
    · right; intro k hk; have := hv k hk; simp at this; omega
  · unfold World.cell?; rw [b7]; rfl
  · intro j; unfold World.frozen?; rw [b7]; simp

set_option maxRecDepth 20000 in
set_option maxHeartbeats 4000000 in
theorem one_2 (w0 w : World) (rb vb B vc : Nat) (iv pv : Value) (s : Ms) (at_ : Nat) (hst : s.steps < 20000) (h : Rn w rb vb B vc 53 iv (.int .i64 (-1)) pv s) (hrb : w0.heap.size ≤ rb) (hvb : w0.heap.size ≤ vb) (hB0 : Below w0.heap.size w0 w)
    (n ek en ck ak an bk bn : Int) (ead aad bad yad lad : Option Addr) (em ec am ac bm bc yc lc : Nat) (b l : List St) (hy : St.Sl w0 b (.slice yad b.length yc)) (hN : St.bulkAll b ≤ 1048576) (hat : at_ + 1 + St.bulkAll b + St.bulkAll l ≤ 2097152) (is : List Int) (hp : s.puts.length ≤ s.steps) (e : Ex) (hne : e.nodes ≤ 1048576) (hoke : e.Ok) (hi : InsIs w0 iv is) (hein : e.In w0 (.agg #[.int .i64 ek, .int .i64 en, .slice ead em ec])) :
    Calls Tryd.prog 33 #[.pointer (some ⟨rb, 0, none⟩), .agg #[.int .i64 2, .int .i64 n, .int .i64 ek, .int .i64 en, .slice ead em ec, .int .i64 ck, .int .i64 ak, .int .i64 an, .slice aad am ac, .int .i64 bk, .int .i64 bn, .slice bad bm bc, .slice yad b.length yc, .slice lad l.length lc], .int .i64 at_] w
      fun r w' => r = .returned (.tuple #[]) ∧ ∃ pv', Rn w' rb vb B vc 53 iv (.int .i64 (-1)) pv' { s with steps := s.steps + 1, puts := s.puts ++ [(n, e.val s.vars is)] } ∧ RR rb vb w w' pv pv' := by
  obtain ⟨c0, c1, c2, c3, c4, cf, cl⟩ := h.cells
  have hd : decide ((20000 : Int) ≤ (s.steps : Int)) = false := decide_eq_false (by omega)
  have HE : Hid (_ ∧ _) := h.entered (s.steps + 1) (.cells #[.int .i64 2, .int .i64 n, .int .i64 ek, .int .i64 en, .slice ead em ec, .int .i64 ck, .int .i64 ak, .int .i64 an, .slice aad am ac, .int .i64 bk, .int .i64 bn, .slice bad bm bc, .slice yad b.length yc, .slice lad l.length lc] 61)
  have HL : Hid (Below w0.heap.size w0 _) := HE.out.2.low h hrb hvb hB0
  have HQ : Hid (copyIs ((w.setCell ⟨rb, 2, none⟩ (.int .i64 (s.steps + 1 : Nat))).alloc (.cells #[.int .i64 2, .int .i64 n, .int .i64 ek, .int .i64 en, .slice ead em ec, .int .i64 ck, .int .i64 ak, .int .i64 an, .slice aad am ac, .int .i64 bk, .int .i64 bn, .slice bad bm bc, .slice yad b.length yc, .slice lad l.length lc] 61)) w.heap.size (.int .i64 2) (.int .i64 n) (.int .i64 ek) (.int .i64 en) (.slice ead em ec) (.int .i64 ck) (.int .i64 ak) (.int .i64 an) (.slice aad am ac) (.int .i64 bk) (.int .i64 bn) (.slice bad bm bc) (.slice yad b.length yc) (.slice lad l.length lc)) := by
    have := heap_alloc_new (w.setCell ⟨rb, 2, none⟩ (.int .i64 (s.steps + 1 : Nat))) (.cells #[.int .i64 2, .int .i64 n, .int .i64 ek, .int .i64 en, .slice ead em ec, .int .i64 ck, .int .i64 ak, .int .i64 an, .slice aad am ac, .int .i64 bk, .int .i64 bn, .slice bad bm bc, .slice yad b.length yc, .slice lad l.length lc] 61)
    rw [set_size] at this
    exact this
  have hcnt := St.countAll_le b
  have HY : Hid (St.Sl w0 b (.slice yad b.length yc) ∧ e.Ok ∧ InsIs w0 iv is ∧ e.In w0 (.agg #[.int .i64 ek, .int .i64 en, .slice ead em ec])) := ⟨hy, hoke, hi, hein⟩
  have hnq : rb ≠ w.heap.size := by omega
  have HNQ : Hid (some w.heap.size ≠ pv.ownBlock) := fun e => by have := (h.own_lt _ e.symm).2; omega
  obtain ⟨pad, pcap, rfl⟩ : ∃ pad pcap, pv = .slice pad s.puts.length pcap := owns_value h.puts
  obtain ⟨i0, hi0, hz0, hz1, hz2⟩ := info_parts info42
  clear h hB0 hy hoke hi hein
  go_enter Tryd.func33, Tryd.ntmps33
  go_wp2_with (go_at_call 16; refine (Size_any 1048577 b _ _ (by omega) (by omega) (HY.out.1.below (HL.out))).mono ?_; rintro r w4 ⟨rfl, hb4⟩; have HB4 : Hid _ := hb4; obtain ⟨d0, d1, d2, d3, d4, d5, d6, d7, d8, d9, d10, d11, d12, d13, -⟩ := copyIs.cell ((hb4.block _ HQ.out.lt).trans HQ.out); have hql := World.block_lt_of_cell? _ _ d0; have HC4 : Hid (_ ∧ Below w0.heap.size w0 w4) := ⟨HE.out.1.below hb4, HL.out.trans (hb4.mono HL.out.size)⟩; clear hb4)
  have k4 := HC4.out.1.cells.2.1
  refine wp_region_held_drew (S := (fun w' => w'.cell? ⟨w.heap.size, 1, none⟩ = some (.int .i64 n) ∧ w'.cell? ⟨w.heap.size, 2, none⟩ = some (.int .i64 ek) ∧ w'.cell? ⟨w.heap.size, 3, none⟩ = some (.int .i64 en) ∧ w'.cell? ⟨w.heap.size, 4, none⟩ = some (.slice ead em ec))) (by kernel_rfl) ⟨d1, d2, d3, d4⟩ (fun hHeld => ?_)
  refine take_at (i := 0) (n := 51) (v := ?_) rfl rfl (by kernel_rfl) (by kernel_rfl) (by kernel_rfl) (fun _ _ _ h => h) (Or.inl ⟨by rfl, ?_⟩) (by assumption) ?_
  rotate_left 1
  · intro wz hSw
    first | (go_simp; done) | (go_simp; with_reducible rfl)
  simp only [List.set_cons_zero, List.set_cons_succ]
  refine take_at (i := 1) (n := 52) (v := ?_) rfl rfl (by kernel_rfl) (by kernel_rfl) (by kernel_rfl) (fun _ _ _ h => h) (Or.inl ⟨by rfl, ?_⟩) (by assumption) ?_
  rotate_left 1
  · intro wz hSw
    first | (go_simp; done) | (go_simp; with_reducible rfl)
  simp only [List.set_cons_zero, List.set_cons_succ]
  refine take_at (i := 2) (n := 53) (v := ?_) rfl rfl (by kernel_rfl) (by kernel_rfl) (by kernel_rfl) (fun _ _ _ h => h) (Or.inl ⟨by rfl, ?_⟩) (by assumption) ?_
  rotate_left 1
  · intro wz hSw
    first | (go_simp; done) | (go_simp; with_reducible rfl)
  simp only [List.set_cons_zero, List.set_cons_succ]
  refine take_at (i := 3) (n := 54) (v := ?_) rfl rfl (by kernel_rfl) (by kernel_rfl) (by kernel_rfl) (fun _ _ _ h => h) (Or.inl ⟨by rfl, ?_⟩) (by assumption) ?_
  rotate_left 1
  · intro wz hSw
    first | (go_simp; done) | (go_simp; with_reducible rfl)
  simp only [List.set_cons_zero, List.set_cons_succ]
  refine take_at (i := 4) (n := 55) (v := ?_) rfl rfl (by kernel_rfl) (by kernel_rfl) (by kernel_rfl) (fun _ _ _ h => h) (Or.inl ⟨by rfl, ?_⟩) (by assumption) ?_
  rotate_left 1
  · intro wz hSw
    first | (go_simp; done) | (go_simp; with_reducible rfl)
  simp only [List.set_cons_zero, List.set_cons_succ]
  refine take_at (i := 6) (n := 57) (v := ?_) rfl rfl (by kernel_rfl) (by kernel_rfl) (by kernel_rfl) (fun _ _ _ h => h) (Or.inl ⟨by rfl, ?_⟩) (by assumption) ?_
  rotate_left 1
  · intro wz hSw
    first | (go_simp; done) | (go_simp; with_reducible rfl)
  simp only [List.set_cons_zero, List.set_cons_succ]
  refine take_at (i := 7) (n := 58) (v := ?_) rfl rfl (by kernel_rfl) (by kernel_rfl) (by kernel_rfl) (fun _ _ _ h => h) (Or.inl ⟨by rfl, ?_⟩) (by assumption) ?_
  rotate_left 1
  · intro wz hSw
    first | (go_simp; done) | (go_simp; with_reducible rfl)
  simp only [List.set_cons_zero, List.set_cons_succ]
  refine take_at (i := 8) (n := 59) (v := ?_) rfl rfl (by kernel_rfl) (by kernel_rfl) (by kernel_rfl) (fun _ _ _ h => h) (Or.inl ⟨by rfl, ?_⟩) (by assumption) ?_
  rotate_left 1
  · intro wz hSw
    first | (go_simp; done) | (go_simp; with_reducible rfl)
  simp only [List.set_cons_zero, List.set_cons_succ]
  refine take_at (i := 9) (n := 60) (v := ?_) rfl rfl (by kernel_rfl) (by kernel_rfl) (by kernel_rfl) (fun _ _ _ h => h) (Or.inl ⟨by rfl, ?_⟩) (by assumption) ?_
  rotate_left 1
  · intro wz hSw
    first | (go_simp; done) | (go_simp; with_reducible rfl)
  simp only [List.set_cons_zero, List.set_cons_succ]
  refine take_at (i := 10) (n := 61) (v := ?_) rfl rfl (by kernel_rfl) (by kernel_rfl) (by kernel_rfl) (fun _ _ _ h => h) (Or.inl ⟨by rfl, ?_⟩) (by assumption) ?_
  rotate_left 1
  · intro wz hSw
    first | (go_simp; done) | (go_simp; with_reducible rfl)
  simp only [List.set_cons_zero, List.set_cons_succ]
  refine wpAnyH_ready (rs := [5, 11]) (by kernel_rfl) (by simp) ?_
  refine AllReadyH.cons rfl (fun K hK => ?_) (AllReadyH.cons rfl (fun K hK => ?_) AllReadyH.nil)
  · go_simp
    refine hK.out _ _ hHeld (fun hHeld => ?_)
    clear hK K
    refine wpAnyH_ready (rs := [11]) (by kernel_rfl) (by simp) ?_
    refine AllReadyH.cons rfl (fun K hK => ?_) AllReadyH.nil
    go_simp
    go_wp2_with (go_at_call 40; refine (worth_any rb s.vars is 1048577 e _ _ (by omega) (by omega) HY.out.2.1 ((HC4.out.1.below (Below.refl _ _).drew).val HY.out.2.2.1 HC4.out.2.drew) (HY.out.2.2.2.below HC4.out.2.drew)).mono ?_; rintro r w6 ⟨rfl, hb6⟩; have hS6 := keep4 (hb6.block w.heap.size (World.block_lt_of_cell? _ _ d1)) hHeld; have HC6 : Hid (Rn w6 rb vb B vc 53 iv (.int .i64 (-1)) (.slice pad s.puts.length pcap) { s with steps := s.steps + 1 } ∧ Below w4.heap.size w4 w6) := ⟨HC4.out.1.below (below_seq (Below.refl _ _).drew hb6), below_seq (Below.refl _ _).drew hb6⟩; clear hb6 hHeld)
    refine hK.out _ _ hS6 (fun hHeld => ?_)
    clear hK K hS6
    have k6 := HC6.out.1.cells.2.1
    have k6l := World.block_lt_of_cell? _ _ k6
    refine take_at (i := 12) (n := 63) (v := ?_) rfl rfl (by kernel_rfl) (by kernel_rfl) (by kernel_rfl) (fun _ _ _ h => h) (Or.inl ⟨by rfl, ?_⟩) (by assumption) ?_
    rotate_left 1
    · intro wz hSw
      first | (go_simp; done) | (go_simp; with_reducible rfl)
    simp only [List.set_cons_zero, List.set_cons_succ]
    refine wpAnyH_ready (rs := [13]) (by kernel_rfl) (by simp) ?_
    refine AllReadyH.cons rfl (fun K hK => ?_) AllReadyH.nil
    go_simp
    refine hK.out _ _ (keep4 (Below.heap_alloc _ _ _ (World.block_lt_of_cell? _ _ hHeld.1)) hHeld) (fun hHeld => ?_)
    clear hK K
    refine wpAnyH_ready (rs := [14]) (by kernel_rfl) (by simp) ?_
    refine AllReadyH.cons rfl (fun K hK => ?_) AllReadyH.nil
    refine step_append_mine rfl (.tmp 56) (.tmp 64) 26 rfl B 42 i0 _ 2 16 Tryd.underlying26 hi0 hz0 hz1 hz2 rfl (by decide) (.slice pad s.puts.length pcap) s.puts.length (putVs s.puts) (by simp [Act.eval]) (ownsRow_below HC6.out.1.puts ((Below.refl _ _).alloc (Nat.le_refl _) _)) ⟨w6.heap.size, 0, none⟩ 1 1 [.int .i64 n, .int .i64 (e.val s.vars is)] (by simp [Act.eval]) rfl (fresh_cells w6 _ 42) (by intro u hu; simp at hu; rcases hu with rfl | rfl <;> rfl) (by unfold maxLen; omega) (by omega) (by have := HC6.out.1.le; simp; omega) ?_
    intro v3 w7 hown3 hg3 hv3
    obtain ⟨ad3, cap3, rfl⟩ := owns_value hown3
    have R := HC6.out.1.putted hown3 hg3 hv3
    have r1 := R.2.1
    have r2 := R.2.2.1
    have HR7 : Hid (_ ∧ _) := R.1
    have hS7 := keep4 (q := w.heap.size) (Y := w7) (R.2.2.2 _ (Nat.lt_of_lt_of_le (World.block_lt_of_cell? _ _ d1) HC6.out.2.size) HNQ.out) (keep4 (Below.heap_alloc _ _ _ (Nat.lt_of_lt_of_le (World.block_lt_of_cell? _ _ d1) HC6.out.2.size)).symm hHeld)
    clear hown3 hg3 hv3 R hHeld
    refine hK.out _ _ hS7 (fun hHeld => ?_)
    clear hK K hS7
    refine take_at (i := 15) (n := 66) (v := ?_) rfl rfl (by kernel_rfl) (by kernel_rfl) (by kernel_rfl) (fun _ _ _ h => h) (Or.inl ⟨by rfl, ?_⟩) (by assumption) ?_
    rotate_left 1
    · intro wz hSw
      first | (go_simp; done) | (go_simp; with_reducible rfl)
    simp only [List.set_cons_zero, List.set_cons_succ]
    refine take_at (i := 16) (n := 67) (v := ?_) rfl rfl (by kernel_rfl) (by kernel_rfl) (by kernel_rfl) (fun _ _ _ h => h) (Or.inl ⟨by rfl, ?_⟩) (by assumption) ?_
    rotate_left 1
    · intro wz hSw
      first | (go_simp; done) | (go_simp; with_reducible rfl)
    simp only [List.set_cons_zero, List.set_cons_succ]
    refine take_at (i := 17) (n := 68) (v := ?_) rfl rfl (by kernel_rfl) (by kernel_rfl) (by kernel_rfl) (fun _ _ _ h => h) (Or.inl ⟨by rfl, ?_⟩) (by assumption) ?_
    rotate_left 1
    · intro wz hSw
      first | (go_simp; done) | (go_simp; with_reducible rfl)
    simp only [List.set_cons_zero, List.set_cons_succ]
    refine wpAnyH_ready (rs := [18]) (by kernel_rfl) (by simp) ?_
    refine AllReadyH.cons rfl (fun K hK => ?_) AllReadyH.nil
    go_simp
    refine hK.out _ _ (keep4 (Below.heap_setCell w7 ⟨rb, 1, none⟩ (.slice ad3 (s.puts.length + 1) cap3) w.heap.size (Ne.symm hnq)) hHeld) (fun hHeld => ?_)
    clear hK K
    refine wpAnyH_done (by kernel_rfl) ?_ _
    go_wp2_with fail
    go_end0
    exact ⟨rfl, _, HR7.out.1, HE.out.2.trans ((RR.of_below HB4.out).trans ((RR.of_below HC6.out.2).trans HR7.out.2))⟩
  · go_simp
    go_wp2_with (go_at_call 40; refine (worth_any rb s.vars is 1048577 e _ _ (by omega) (by omega) HY.out.2.1 ((HC4.out.1.below (Below.refl _ _).drew).val HY.out.2.2.1 HC4.out.2.drew) (HY.out.2.2.2.below HC4.out.2.drew)).mono ?_; rintro r w6 ⟨rfl, hb6⟩; have hS6 := keep4 (hb6.block w.heap.size (World.block_lt_of_cell? _ _ d1)) hHeld; have HC6 : Hid (Rn w6 rb vb B vc 53 iv (.int .i64 (-1)) (.slice pad s.puts.length pcap) { s with steps := s.steps + 1 } ∧ Below w4.heap.size w4 w6) := ⟨HC4.out.1.below (below_seq (Below.refl _ _).drew hb6), below_seq (Below.refl _ _).drew hb6⟩; clear hb6 hHeld)
    refine hK.out _ _ hS6 (fun hHeld => ?_)
    clear hK K hS6
    have k6 := HC6.out.1.cells.2.1
    have k6l := World.block_lt_of_cell? _ _ k6
    refine take_at (i := 12) (n := 63) (v := ?_) rfl rfl (by kernel_rfl) (by kernel_rfl) (by kernel_rfl) (fun _ _ _ h => h) (Or.inl ⟨by rfl, ?_⟩) (by assumption) ?_
    rotate_left 1
    · intro wz hSw
      first | (go_simp; done) | (go_simp; with_reducible rfl)
    simp only [List.set_cons_zero, List.set_cons_succ]
    refine wpAnyH_ready (rs := [5, 13]) (by kernel_rfl) (by simp) ?_
    refine AllReadyH.cons rfl (fun K hK => ?_) (AllReadyH.cons rfl (fun K hK => ?_) AllReadyH.nil)
    · go_simp
      refine hK.out _ _ hHeld (fun hHeld => ?_)
      clear hK K
      refine wpAnyH_ready (rs := [13]) (by kernel_rfl) (by simp) ?_
      refine AllReadyH.cons rfl (fun K hK => ?_) AllReadyH.nil
      go_simp
      refine hK.out _ _ (keep4 (Below.heap_alloc _ _ _ (World.block_lt_of_cell? _ _ hHeld.1)) hHeld) (fun hHeld => ?_)
      clear hK K
      refine wpAnyH_ready (rs := [14]) (by kernel_rfl) (by simp) ?_
      refine AllReadyH.cons rfl (fun K hK => ?_) AllReadyH.nil
      refine step_append_mine rfl (.tmp 56) (.tmp 64) 26 rfl B 42 i0 _ 2 16 Tryd.underlying26 hi0 hz0 hz1 hz2 rfl (by decide) (.slice pad s.puts.length pcap) s.puts.length (putVs s.puts) (by simp [Act.eval]) (ownsRow_below HC6.out.1.puts ((Below.refl _ _).alloc (Nat.le_refl _) _)) ⟨w6.heap.size, 0, none⟩ 1 1 [.int .i64 n, .int .i64 (e.val s.vars is)] (by simp [Act.eval]) rfl (fresh_cells w6 _ 42) (by intro u hu; simp at hu; rcases hu with rfl | rfl <;> rfl) (by unfold maxLen; omega) (by omega) (by have := HC6.out.1.le; simp; omega) ?_
      intro v3 w7 hown3 hg3 hv3
      obtain ⟨ad3, cap3, rfl⟩ := owns_value hown3
      have R := HC6.out.1.putted hown3 hg3 hv3
      have r1 := R.2.1
      have r2 := R.2.2.1
      have HR7 : Hid (_ ∧ _) := R.1
      have hS7 := keep4 (q := w.heap.size) (Y := w7) (R.2.2.2 _ (Nat.lt_of_lt_of_le (World.block_lt_of_cell? _ _ d1) HC6.out.2.size) HNQ.out) (keep4 (Below.heap_alloc _ _ _ (Nat.lt_of_lt_of_le (World.block_lt_of_cell? _ _ d1) HC6.out.2.size)).symm hHeld)
      clear hown3 hg3 hv3 R hHeld
      refine hK.out _ _ hS7 (fun hHeld => ?_)
      clear hK K hS7
      refine take_at (i := 15) (n := 66) (v := ?_) rfl rfl (by kernel_rfl) (by kernel_rfl) (by kernel_rfl) (fun _ _ _ h => h) (Or.inl ⟨by rfl, ?_⟩) (by assumption) ?_
      rotate_left 1
      · intro wz hSw
        first | (go_simp; done) | (go_simp; with_reducible rfl)
      simp only [List.set_cons_zero, List.set_cons_succ]
      refine take_at (i := 16) (n := 67) (v := ?_) rfl rfl (by kernel_rfl) (by kernel_rfl) (by kernel_rfl) (fun _ _ _ h => h) (Or.inl ⟨by rfl, ?_⟩) (by assumption) ?_
      rotate_left 1
      · intro wz hSw
        first | (go_simp; done) | (go_simp; with_reducible rfl)
      simp only [List.set_cons_zero, List.set_cons_succ]
      refine take_at (i := 17) (n := 68) (v := ?_) rfl rfl (by kernel_rfl) (by kernel_rfl) (by kernel_rfl) (fun _ _ _ h => h) (Or.inl ⟨by rfl, ?_⟩) (by assumption) ?_
      rotate_left 1
      · intro wz hSw
        first | (go_simp; done) | (go_simp; with_reducible rfl)
      simp only [List.set_cons_zero, List.set_cons_succ]
      refine wpAnyH_ready (rs := [18]) (by kernel_rfl) (by simp) ?_
      refine AllReadyH.cons rfl (fun K hK => ?_) AllReadyH.nil
      go_simp
      refine hK.out _ _ (keep4 (Below.heap_setCell w7 ⟨rb, 1, none⟩ (.slice ad3 (s.puts.length + 1) cap3) w.heap.size (Ne.symm hnq)) hHeld) (fun hHeld => ?_)
      clear hK K
      refine wpAnyH_done (by kernel_rfl) ?_ _
      go_wp2_with fail
      go_end0
      exact ⟨rfl, _, HR7.out.1, HE.out.2.trans ((RR.of_below HB4.out).trans ((RR.of_below HC6.out.2).trans HR7.out.2))⟩
    · go_simp
      refine hK.out _ _ (keep4 (Below.heap_alloc _ _ _ (World.block_lt_of_cell? _ _ hHeld.1)) hHeld) (fun hHeld => ?_)
      clear hK K
      refine wpAnyH_ready (rs := [5]) (by kernel_rfl) (by simp) ?_
      refine AllReadyH.cons rfl (fun K hK => ?_) AllReadyH.nil
      go_simp
      refine hK.out _ _ hHeld (fun hHeld => ?_)
      clear hK K
      refine wpAnyH_ready (rs := [14]) (by kernel_rfl) (by simp) ?_
      refine AllReadyH.cons rfl (fun K hK => ?_) AllReadyH.nil
      refine step_append_mine rfl (.tmp 56) (.tmp 64) 26 rfl B 42 i0 _ 2 16 Tryd.underlying26 hi0 hz0 hz1 hz2 rfl (by decide) (.slice pad s.puts.length pcap) s.puts.length (putVs s.puts) (by simp [Act.eval]) (ownsRow_below HC6.out.1.puts ((Below.refl _ _).alloc (Nat.le_refl _) _)) ⟨w6.heap.size, 0, none⟩ 1 1 [.int .i64 n, .int .i64 (e.val s.vars is)] (by simp [Act.eval]) rfl (fresh_cells w6 _ 42) (by intro u hu; simp at hu; rcases hu with rfl | rfl <;> rfl) (by unfold maxLen; omega) (by omega) (by have := HC6.out.1.le; simp; omega) ?_
      intro v3 w7 hown3 hg3 hv3
      obtain ⟨ad3, cap3, rfl⟩ := owns_value hown3
      have R := HC6.out.1.putted hown3 hg3 hv3
      have r1 := R.2.1
      have r2 := R.2.2.1
      have HR7 : Hid (_ ∧ _) := R.1
      have hS7 := keep4 (q := w.heap.size) (Y := w7) (R.2.2.2 _ (Nat.lt_of_lt_of_le (World.block_lt_of_cell? _ _ d1) HC6.out.2.size) HNQ.out) (keep4 (Below.heap_alloc _ _ _ (Nat.lt_of_lt_of_le (World.block_lt_of_cell? _ _ d1) HC6.out.2.size)).symm hHeld)
      clear hown3 hg3 hv3 R hHeld
      refine hK.out _ _ hS7 (fun hHeld => ?_)
      clear hK K hS7
      refine take_at (i := 15) (n := 66) (v := ?_) rfl rfl (by kernel_rfl) (by kernel_rfl) (by kernel_rfl) (fun _ _ _ h => h) (Or.inl ⟨by rfl, ?_⟩) (by assumption) ?_
      rotate_left 1
      · intro wz hSw
        first | (go_simp; done) | (go_simp; with_reducible rfl)
      simp only [List.set_cons_zero, List.set_cons_succ]
      refine take_at (i := 16) (n := 67) (v := ?_) rfl rfl (by kernel_rfl) (by kernel_rfl) (by kernel_rfl) (fun _ _ _ h => h) (Or.inl ⟨by rfl, ?_⟩) (by assumption) ?_
      rotate_left 1
      · intro wz hSw
        first | (go_simp; done) | (go_simp; with_reducible rfl)
      simp only [List.set_cons_zero, List.set_cons_succ]
      refine take_at (i := 17) (n := 68) (v := ?_) rfl rfl (by kernel_rfl) (by kernel_rfl) (by kernel_rfl) (fun _ _ _ h => h) (Or.inl ⟨by rfl, ?_⟩) (by assumption) ?_
      rotate_left 1
      · intro wz hSw
        first | (go_simp; done) | (go_simp; with_reducible rfl)
      simp only [List.set_cons_zero, List.set_cons_succ]
      refine wpAnyH_ready (rs := [18]) (by kernel_rfl) (by simp) ?_
      refine AllReadyH.cons rfl (fun K hK => ?_) AllReadyH.nil
      go_simp
      refine hK.out _ _ (keep4 (Below.heap_setCell w7 ⟨rb, 1, none⟩ (.slice ad3 (s.puts.length + 1) cap3) w.heap.size (Ne.symm hnq)) hHeld) (fun hHeld => ?_)
      clear hK K
      refine wpAnyH_done (by kernel_rfl) ?_ _
      go_wp2_with fail
      go_end0
      exact ⟨rfl, _, HR7.out.1, HE.out.2.trans ((RR.of_below HB4.out).trans ((RR.of_below HC6.out.2).trans HR7.out.2))⟩
end Go.Proofs.YtikdidfgdiafoabDoor
