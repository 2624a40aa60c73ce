import Derived.Test.YtibcbdihphbfeacDoorGRes
import Derived.Test.YtibcbdihphbfeacDoorGSSy
namespace Go.Proofs.YtibcbdihphbfeacDoor
open Go.ChangeShapes Go.WideShapes Go.ChangeAt Go.RowKit

/-- How far a walk is. -/
def Phase (_ : Nat) : Prop := True

theorem Exec_ends {w : World} {g : Nat} {a0 a1 a2 c k : Value} {a : Act} (h6 : w.heap[g]? = some (.cells #[a0, a1, a2] 27 (0, 0))) (h7 : w.heap[g + 1]? = some (.cells #[c, k] 30 (0, 0))) (h2 : a.tmps[6]?.getD undef = .pointer (some ⟨g, 0, none⟩)) (h3 : a.tmps[7]?.getD undef = .pointer (some ⟨g + 1, 0, none⟩)) :
    (results Tryd.f9 a.tmps).run Tryd.prog w = .ok (.tuple #[.agg #[a0, a1, a2], .agg #[c, k]]) w := by
  obtain ⟨c1, f1, l1⟩ := cells_of (l := [_, _, _]) h6
  obtain ⟨d1, e1, m1⟩ := cells_of (l := [_, _]) h7
  have c10 := c1 0 _ rfl
  have c11 := c1 1 _ rfl
  have c12 := c1 2 _ rfl
  have d10 := d1 0 _ rfl
  have d11 := d1 1 _ rfl
  simp [results, Tryd.results9, go_sem, h2, h3, c10, c11, c12, d10, d11]

set_option maxRecDepth 20000 in
set_option maxHeartbeats 4000000 in
theorem Exec_bad (w : World) (l : List In) (iad : Option Addr) (ic : Nat) (vv iv2 : Value) (h : InSl w l (.slice iad l.length ic)) (c k : Int) (hc : docI l = (c, k)) (h0 : c ≠ 0) :
    Calls Tryd.prog 9 #[.slice iad l.length ic, vv, iv2] w fun r w' => r = .returned (failV c k) ∧ Below w.heap.size w w' := by
  have hcb : (c != 0) = true := by simpa using h0
  have HK : Hid (InSl w l (.slice iad l.length ic) ∧ docI l = (c, k)) := ⟨h, hc⟩
  clear h hc
  go_enter Tryd.func9, Tryd.ntmps9
  go_wp2_with (go_at_call 23; refine (ReadImage_any _ l _ _ (HK.out.1.below (RB.start w).bel) c k HK.out.2).mono ?_; rintro r w9 ⟨⟨p, rfl⟩, hb9⟩; have H9 : Hid (RB w w9) := (RB.start w).grow hb9; obtain ⟨rs9, rf9, rl9⟩ := cells_of (l := [_, _]) H9.out.r7; obtain ⟨rt9, rg9, rm9⟩ := cells_of (l := [_, _, _]) H9.out.r6; have r90 := rs9 0 _ rfl; have r91 := rs9 1 _ rfl; have r60 := rt9 0 _ rfl; have r61 := rt9 1 _ rfl; have r62 := rt9 2 _ rfl; clear hb9 rs9 rt9)
  go_region
  all_goals go_wp2_with fail
  all_goals
    obtain ⟨t1, t2, t3⟩ := H9.out.told (.slice none 0 0) (.slice none 0 0) (.int .i64 0) (.int .i64 c) (.int .i64 k) (.cells #[.int .i64 c, .int .i64 k] 30)
    exact bodyPost_ret (v := failV c k) (Exec_ends t1 t2 rfl rfl) rfl ⟨rfl, t3.drew⟩

set_option maxRecDepth 20000 in
set_option maxHeartbeats 4000000 in
theorem Exec_range (w : World) (l : List In) (iad : Option Addr) (ic : Nat) (vad nad : Option Addr) (n m vc nc : Nat) (h : InSl w l (.slice iad l.length ic)) (hc : docI l = (0, 0)) (hnm : n ≠ 8 ∨ m ≠ 4) :
    Calls Tryd.prog 9 #[.slice iad l.length ic, .slice vad n vc, .slice nad m nc] w fun r w' => r = .returned (failV 3 0) ∧ Below w.heap.size w w' := by
  have HK : Hid (InSl w l (.slice iad l.length ic) ∧ docI l = (0, 0)) := ⟨h, hc⟩
  clear h hc
  by_cases h8 : n = 8
  · have h4 : m ≠ 4 := by omega
    subst h8
    have e4 : ((m : Int) != 4) = true := by simp; omega
    clear hnm h4
    go_enter Tryd.func9, Tryd.ntmps9
    go_wp2_with (first | (go_at_call 23; refine (ReadImage_any _ l _ _ (HK.out.1.below (RB.start w).bel) 0 0 HK.out.2).mono ?_; rintro r w9 ⟨⟨p, rfl⟩, hb9⟩; have H9 : Hid (RB w (w9.alloc (.cells #[.int .i64 0, .int .i64 0] 30))) := ((RB.start w).grow hb9).grow (below_new _ _); clear hb9) | (go_at_call 24; refine (F_any 3 0 _).mono ?_; rintro r w10 ⟨rfl, hb10⟩; have H10 : Hid (RB w w10) := H9.out.grow hb10; obtain ⟨rs9, rf9, rl9⟩ := cells_of (l := [_, _]) H10.out.r7; obtain ⟨rt9, rg9, rm9⟩ := cells_of (l := [_, _, _]) H10.out.r6; have r90 := rs9 0 _ rfl; have r91 := rs9 1 _ rfl; have r60 := rt9 0 _ rfl; have r61 := rt9 1 _ rfl; have r62 := rt9 2 _ rfl; clear hb10 rs9 rt9))
    obtain ⟨t1, t2, t3⟩ := H10.out.tell (.slice none 0 0) (.slice none 0 0) (.int .i64 0) (.int .i64 3) (.int .i64 0)
    exact bodyPost_ret (v := failV 3 0) (Exec_ends t1 t2 rfl rfl) rfl ⟨rfl, t3⟩
  · have e8 : ((n : Int) != 8) = true := by simp; omega
    clear hnm h8
    go_enter Tryd.func9, Tryd.ntmps9
    go_wp2_with (first | (go_at_call 23; refine (ReadImage_any _ l _ _ (HK.out.1.below (RB.start w).bel) 0 0 HK.out.2).mono ?_; rintro r w9 ⟨⟨p, rfl⟩, hb9⟩; have H9 : Hid (RB w (w9.alloc (.cells #[.int .i64 0, .int .i64 0] 30))) := ((RB.start w).grow hb9).grow (below_new _ _); clear hb9) | (go_at_call 24; refine (F_any 3 0 _).mono ?_; rintro r w10 ⟨rfl, hb10⟩; have H10 : Hid (RB w w10) := H9.out.grow hb10; obtain ⟨rs9, rf9, rl9⟩ := cells_of (l := [_, _]) H10.out.r7; obtain ⟨rt9, rg9, rm9⟩ := cells_of (l := [_, _, _]) H10.out.r6; have r90 := rs9 0 _ rfl; have r91 := rs9 1 _ rfl; have r60 := rt9 0 _ rfl; have r61 := rt9 1 _ rfl; have r62 := rt9 2 _ rfl; clear hb10 rs9 rt9))
    obtain ⟨t1, t2, t3⟩ := H10.out.tell (.slice none 0 0) (.slice none 0 0) (.int .i64 0) (.int .i64 3) (.int .i64 0)
    exact bodyPost_ret (v := failV 3 0) (Exec_ends t1 t2 rfl rfl) rfl ⟨rfl, t3⟩

theorem cell_reset {W : World} {p q : Addr} {v : Value} (h : W.cell? p = some v) : (W.setCell p v).cell? q = W.cell? q := by
  by_cases e : p = q
  · subst e
    rw [h]
    exact World.cell?_setCell_same' W p v (by rw [h]; rfl)
  · exact World.cell?_setCell_other W p q v e

/-- What is stored into the answers' blocks leaves alone what was left by a run. -/
theorem RB.cells {w W : World} (h : RB w W) (a0 a1 a2 : Value) (o : Obj) {p : Addr} {v : Value} (hp : W.cell? p = some v) (hne : p.block ≠ w.heap.size) :
    ((((((W.setCell ⟨w.heap.size, 0, none⟩ a0).setCell ⟨w.heap.size, 1, none⟩ a1).setCell ⟨w.heap.size, 2, none⟩ a2).setCell ⟨w.heap.size + 1, 0, none⟩ (.int .i64 0)).setCell ⟨w.heap.size + 1, 1, none⟩ (.int .i64 0)).alloc o).cell? p = some v := by
  obtain ⟨d1, -, -⟩ := cells_of (l := [_, _]) h.r7
  have d10 := d1 0 _ rfl
  have d11 := d1 1 _ rfl
  have far : ∀ (j : Nat) (W' : World) (u : Value) (x : Addr), x.block ≠ w.heap.size → (W'.setCell ⟨w.heap.size, j, none⟩ u).cell? x = W'.cell? x := fun j W' u x hx => World.cell?_setCell_far W' _ x u (Ne.symm hx)
  refine below_cell (below_new _ _) ?_
  have n1 : (⟨w.heap.size + 1, 0, none⟩ : Addr).block ≠ w.heap.size := by show w.heap.size + 1 ≠ w.heap.size; omega
  have n2 : (⟨w.heap.size + 1, 1, none⟩ : Addr).block ≠ w.heap.size := by show w.heap.size + 1 ≠ w.heap.size; omega
  have e1 : (((W.setCell ⟨w.heap.size, 0, none⟩ a0).setCell ⟨w.heap.size, 1, none⟩ a1).setCell ⟨w.heap.size, 2, none⟩ a2).cell? ⟨w.heap.size + 1, 0, none⟩ = some (.int .i64 0) := by
    rw [far _ _ _ _ n1, far _ _ _ _ n1, far _ _ _ _ n1]; exact d10
  have e2 : (((W.setCell ⟨w.heap.size, 0, none⟩ a0).setCell ⟨w.heap.size, 1, none⟩ a1).setCell ⟨w.heap.size, 2, none⟩ a2).cell? ⟨w.heap.size + 1, 1, none⟩ = some (.int .i64 0) := by
    rw [far _ _ _ _ n2, far _ _ _ _ n2, far _ _ _ _ n2]; exact d11
  rw [cell_reset (by rw [cell_reset e1]; exact e2), cell_reset e1, far _ _ _ _ hne, far _ _ _ _ hne, far _ _ _ _ hne]
  exact hp

theorem RB.cellAt {w W : World} (h : RB w W) {i : Nat} {z : Int} (hc : W.cell? ⟨w.heap.size, i, none⟩ = some (.int .i64 z)) : i = 2 := by
  obtain ⟨d1, -, -⟩ := cells_of (l := [_, _, _]) h.r6
  have d0 := d1 0 _ rfl
  have d2 := d1 1 _ rfl
  by_cases e0 : i = 0
  · subst e0; rw [d0] at hc; cases hc
  by_cases e1 : i = 1
  · subst e1; rw [d2] at hc; cases hc
  by_cases e2 : i = 2
  · exact e2
  · have : W.cell? ⟨w.heap.size, i, none⟩ = none := by
      unfold World.cell?
      rw [h.r6]
      simp
      omega
    rw [this] at hc; cases hc
end Go.Proofs.YtibcbdihphbfeacDoor
