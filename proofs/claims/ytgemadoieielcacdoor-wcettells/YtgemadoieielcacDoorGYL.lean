import Derived.Test.YtgemadoieielcacDoorGYB
import Derived.Test.YtgemadoieielcacDoorGYH
namespace Go.Proofs.YtgemadoieielcacDoor
open Go.ChangeShapes Go.WideShapes Go.ChangeAt Go.RowKit

theorem Lt_ends {w : World} {g : Nat} {v c k : Value} {a : Act} (h7 : w.heap[g]? = some (.cells #[c, k] 30 (0, 0))) (h2 : a.tmps[2]?.getD undef = v) (h3 : a.tmps[3]?.getD undef = .pointer (some ⟨g, 0, none⟩)) :
    (results Tryd.f44 a.tmps).run Tryd.prog w = .ok (.tuple #[v, .agg #[c, k]]) w := by
  obtain ⟨d1, e1, m1⟩ := cells_of (l := [_, _]) h7
  have d10 := d1 0 _ rfl
  have d11 := d1 1 _ rfl
  simp [results, Tryd.results44, go_sem, h2, h3, d10, d11]

set_option maxRecDepth 20000 in
set_option maxHeartbeats 400000 in
theorem Locks_bad (w : World) (l : List In) (iad : Option Addr) (ic : Nat) (hI : InSl w l (.slice iad l.length ic)) (h0 : ¬ (anF l).1 = 0) : Calls Tryd.prog 44 #[.slice iad l.length ic] w (HdP l w) := by
  have hB := below_new w (.cells #[.int .i64 0, .int .i64 0] 30)
  have HA := Worst_any _ l iad ic (hI.below hB)
  have HB : Hid (Below w.heap.size w (w.alloc (.cells #[.int .i64 0, .int .i64 0] 30)) ∧ (w.alloc (.cells #[.int .i64 0, .int .i64 0] 30)).heap[w.heap.size]? = some (.cells #[.int .i64 0, .int .i64 0] 30 (0, 0))) := ⟨hB, heap_new _ _⟩
  have hcb : ((anF l).1 != 0) = true := by simpa using h0
  clear hB hI
  unfold HdP
  generalize hac : (anF l).1 = c at *
  generalize hak : (anF l).2 = k at *
  go_enter Tryd.func44, Tryd.ntmps44
  go_wp2_with (go_at_call 43; refine HA.mono ?_; rintro r w1 ⟨hb1, hr, -⟩; rw [hac, hak] at hr; obtain rfl := hr h0; have H1 : Hid (Below w.heap.size w w1 ∧ w1.heap[w.heap.size]? = some (.cells #[.int .i64 0, .int .i64 0] 30 (0, 0))) := ⟨below_seq HB.out.1 hb1, (hb1.block w.heap.size (by simp)).trans HB.out.2⟩; obtain ⟨d1, e1, m1⟩ := cells_of (l := [_, _]) H1.out.2; have d10 := d1 0 _ rfl; have d11 := d1 1 _ rfl; have e10 := e1 0; have e11 := e1 1; clear hb1 HA hr d1 e1)
  go_region
  all_goals go_wp2_with fail
  all_goals
    refine bodyPost_ret (Lt_ends (g := w.heap.size) (v := .slice none 0 0) (c := .int .i64 c) (k := .int .i64 k) (((below_new _ _).block w.heap.size (by have := H1.out.1.size; simp; omega)).trans (((below_new _ _).block w.heap.size (by simp; omega)).trans (set_two H1.out.2))) rfl rfl) rfl ?_
    exact ⟨((((H1.out.1.setCell (Nat.le_refl _) _).setCell (Nat.le_refl _) _).alloc (by have := H1.out.1.size; simp; omega) _).alloc (by have := H1.out.1.size; simp; omega) _).drew, fun _ => rfl, fun h => absurd h h0⟩

set_option maxRecDepth 20000 in
set_option maxHeartbeats 400000 in
theorem Locks_good (w : World) (l : List In) (iad : Option Addr) (ic : Nat) (hI : InSl w l (.slice iad l.length ic)) (h0 : (anF l).1 = 0) : Calls Tryd.prog 44 #[.slice iad l.length ic] w (HdP l w) := by
  have hB := below_new w (.cells #[.int .i64 0, .int .i64 0] 30)
  have HA := Worst_any _ l iad ic (hI.below hB)
  have HB : Hid (Below w.heap.size w (w.alloc (.cells #[.int .i64 0, .int .i64 0] 30)) ∧ (w.alloc (.cells #[.int .i64 0, .int .i64 0] 30)).heap[w.heap.size]? = some (.cells #[.int .i64 0, .int .i64 0] 30 (0, 0))) := ⟨hB, heap_new _ _⟩
  have hg := gl_of (anF_zero h0).1
  have hlen := hg.len
  have HG : Hid (GL l ∧ InSl w l (.slice iad l.length ic)) := ⟨hg, hI⟩
  clear hB hI hg
  go_enter Tryd.func44, Tryd.ntmps44
  go_wp2_with (go_at_call 43; refine HA.mono ?_; rintro r w1 ⟨hb1, -, hr⟩; obtain ⟨hall, rad, rc, hrc, rfl, hrow⟩ := hr h0; have H1 : Hid (Below w.heap.size w w1 ∧ w1.heap[w.heap.size]? = some (.cells #[.int .i64 0, .int .i64 0] 30 (0, 0))) := ⟨below_seq HB.out.1 hb1, (hb1.block w.heap.size (by simp)).trans HB.out.2⟩; have HR : Hid ((∀ j, restF l j ≤ 1099511627776) ∧ RowI w1 rad l.length (restF l)) := ⟨hall, hrow⟩; clear hb1 HA hr hall hrow)
  have hb2 : Below w1.heap.size w1 ((w1.alloc (.cells #[.int .i64 (restF l 0), .slice rad l.length rc] 77)).alloc (.cells #[.int .i64 0, .int .i64 0] 30)) := ((Below.refl _ _).alloc (Nat.le_refl _) _).alloc (by simp) _
  have y1 : ((w1.alloc (.cells #[.int .i64 (restF l 0), .slice rad l.length rc] 77)).alloc (.cells #[.int .i64 0, .int .i64 0] 30)).cell? ⟨w1.heap.size, 1, none⟩ = some (.slice rad l.length rc) := by go_simp
  have HS : Hid (HL ((w1.alloc (.cells #[.int .i64 (restF l 0), .slice rad l.length rc] 77)).alloc (.cells #[.int .i64 0, .int .i64 0] 30)) (w1.heap.size + 1 + 1) l 0 (((w1.alloc (.cells #[.int .i64 (restF l 0), .slice rad l.length rc] 77)).alloc (.cells #[.int .i64 0, .int .i64 0] 30)).alloc (.cells #[.int .i64 0, .int .i64 0, .int .i64 0, .int .i64 0] 3))) := ⟨by simp, below_new _ _, by simp, by have := heap_new ((w1.alloc (.cells #[.int .i64 (restF l 0), .slice rad l.length rc] 77)).alloc (.cells #[.int .i64 0, .int .i64 0] 30)) (.cells #[.int .i64 0, .int .i64 0, .int .i64 0, .int .i64 0] 3); simp only [World.size_alloc] at this; exact this⟩
  generalize ((w1.alloc (.cells #[.int .i64 (restF l 0), .slice rad l.length rc] 77)).alloc (.cells #[.int .i64 0, .int .i64 0] 30)) = w2 at *
  have HB2 : Hid (Below w1.heap.size w1 w2) := hb2
  generalize (w2.alloc (.cells #[.int .i64 0, .int .i64 0, .int .i64 0, .int .i64 0] 3)) = w3 at *
  clear hb2 HB
  go_loopw [21] (fun i wr => ∃ j : Nat, j ≤ l.length ∧ i = .int .i64 j ∧ HL w2 (w1.heap.size + 1 + 1) l j wr) (fun i _ => l.length - (intOf i).toNat)
  case atStart => exact ⟨0, Nat.zero_le _, rfl, HS.out⟩
  case round =>
    clear HS
    obtain ⟨j, hj, rfl, hl⟩ := hrel
    have HLr : Hid (HL w2 (w1.heap.size + 1 + 1) l j wr) := hl
    by_cases hjl : j < l.length
    · have hji : (j : Int) < (l.length : Int) := by omega
      have hbel : Below w.heap.size w wr := below_seq H1.out.1 (below_seq HB2.out hl.bel)
      obtain ⟨ad', c', e', hrow⟩ := HG.out.2.below hbel
      cases e'
      rcases hrow with hrow | ⟨ib, io, rfl, hrow⟩
      · rw [hrow] at hjl; simp at hjl
      rcases HR.out.2 with hrr | ⟨rb, ro, rfl, hrr⟩
      · omega
      obtain ⟨c0, c1, c2⟩ := hrow j hjl
      have hf := HG.out.1.fwd.form j hjl
      have hs := HG.out.1.fwd.shut j hjl
      rcases hx : l.getD j in0 with ⟨op, a, b⟩
      rw [hx] at c0 c1 c2 hf hs
      dsimp only at c0 c1 c2 hf hs
      have hop : (l.getD j in0).op = op := by rw [hx]
      have hla : (l.getD j in0).a = a := by rw [hx]
      have lib : ib < wr.heap.size := World.block_lt_of_cell? _ _ c0
      by_cases h16 : op = 16
      · subst h16
        obtain ⟨a0, a3⟩ := form16 hf
        obtain ⟨m, rfl⟩ : ∃ m : Nat, a = m := ⟨a.toNat, by omega⟩
        have hm4 : m < 4 := by omega
        have hs := hs (.inr rfl)
        have hj1 : j + 1 < l.length := by omega
        have hji1 : (j : Int) + 1 < (l.length : Int) := by omega
        have y2 := below_cell hl.bel y1
        have y3 := below_cell (below_seq HB2.out hl.bel) (hrr (j + 1) hj1)
        have y4 := hl.cell m hm4
        have y5 : wr.frozen? ⟨w1.heap.size + 1 + 1, m, none⟩ = false := (cells_of hl.blk).2.1 m
        have hmi : (m : Int) < 4 := by omega
        have lb2 : w1.heap.size < wr.heap.size := World.block_lt_of_cell? _ _ y2
        have lb3 : rb < wr.heap.size := World.block_lt_of_cell? _ _ y3
        have lb4 : w1.heap.size + 1 + 1 < wr.heap.size := World.block_lt_of_cell? _ _ y4
        have HN1 : Hid (∀ x y, heldA l m j = x → restF l (j + 1) = y → x < y → HL w2 (w1.heap.size + 1 + 1) l (j + 1) ((wr.setCell ⟨w1.heap.size + 1 + 1, m, none⟩ (.int .i64 y)).alloc (.cells #[.int .i64 16, .int .i64 (m : Int), .int .i64 b] 35)).drew.drew) := fun x y hx hy h => by
          have e : y = max x y := by omega
          rw [e, ← hx, ← hy]
          exact ((HLr.out.lock hop m hla hm4).grow (below_new _ _)).drew.drew
        have HN2 : Hid (∀ x y, heldA l m j = x → restF l (j + 1) = y → ¬ x < y → HL w2 (w1.heap.size + 1 + 1) l (j + 1) (wr.alloc (.cells #[.int .i64 16, .int .i64 (m : Int), .int .i64 b] 35)).drew) := fun x y hx hy h => by
          have hh := HLr.out.lock hop m hla hm4
          have e : max (heldA l m j) (restF l (j + 1)) = heldA l m j := by rw [hx, hy]; omega
          have ev : heldV l (j + 1) = heldV l j := by
            rw [← heldV_lock hop m hla hm4, e]
            have q := heldV_at l j m hm4
            have hm := (List.getElem?_eq_some_iff.1 q).1
            rw [← (List.getElem?_eq_some_iff.1 q).2]
            exact List.set_getElem_self hm
          exact (HL.grow ⟨HLr.out.ge, HLr.out.bel, HLr.out.siz, by rw [ev]; exact HLr.out.blk⟩ (below_new _ _)).drew
        clear hrow hx hf hs hl hop hla a0 a3 hrr
        obtain ⟨x, hx⟩ : ∃ x, heldA l m j = x := ⟨_, rfl⟩
        obtain ⟨y, hy⟩ : ∃ y, restF l (j + 1) = y := ⟨_, rfl⟩
        rw [hx] at y4
        rw [hy] at y3
        have HXY : Hid (heldA l m j = x ∧ restF l (j + 1) = y) := ⟨hx, hy⟩
        clear hx hy
        by_cases hxy : x < y
        · go_wp2_with fail
          go_region
          all_goals go_wp2_with fail
          all_goals go_region
          all_goals
            go_wp2_with fail
            exact ⟨⟨j + 1, by omega, by simp, HN1.out x y HXY.out.1 HXY.out.2 hxy⟩, by simp [intOf]; omega⟩
        · go_wp2_with fail
          go_region
          all_goals
            go_wp2_with fail
            exact ⟨⟨j + 1, by omega, by simp, HN2.out x y HXY.out.1 HXY.out.2 hxy⟩, by simp [intOf]; omega⟩
      · have hob : (op == 16) = false := by simpa using h16
        have HN := (HLr.out.grow (below_new wr (.cells #[.int .i64 op, .int .i64 a, .int .i64 b] 35))).other (by rw [hop]; exact h16)
        have HN2 : Hid (HL w2 (w1.heap.size + 1 + 1) l (j + 1) (wr.alloc (.cells #[.int .i64 op, .int .i64 a, .int .i64 b] 35)).drew) := HN.drew
        clear HN hrow hx hf hs hl hop hla hrr
        go_wp2_with fail
        go_region
        all_goals
          go_wp2_with fail
          exact ⟨⟨j + 1, by omega, by simp, HN2.out⟩, by simp [intOf]; omega⟩
    · have hje : j = l.length := by omega
      subst hje
      have k3 := ((below_seq HB2.out hl.bel).block w.heap.size (Array.getElem?_eq_some_iff.1 H1.out.2).1).trans H1.out.2
      obtain ⟨d2, e2, m2⟩ := cells_of (l := [_, _]) k3
      have d20 := d2 0 _ rfl
      have d21 := d2 1 _ rfl
      have e20 := e2 0
      have e21 := e2 1
      have HKK : Hid (_ ∧ w.heap.size + 1 ≤ w1.heap.size) := ⟨k3, (Array.getElem?_eq_some_iff.1 H1.out.2).1⟩
      clear hl d2 e2 k3
      go_wp2_with fail
      refine bodyPost_ret (Lt_ends (g := w.heap.size) (v := .slice (some ⟨w1.heap.size + 1 + 1, 0, none⟩) 4 4) (c := .int .i64 0) (k := .int .i64 0) (set_two HKK.out.1) rfl rfl) rfl ?_
      have hbel : Below w.heap.size w wr := below_seq H1.out.1 (below_seq HB2.out HLr.out.bel)
      exact ⟨(hbel.setCell (Nat.le_refl _) _).setCell (Nat.le_refl _) _, fun h => absurd h0 h, fun _ => ⟨_, by have := HKK.out.2; omega, rfl, (other_two (by have := HKK.out.2; omega) _ _).trans HLr.out.blk⟩⟩

theorem Locks_any (w : World) (l : List In) (iad : Option Addr) (ic : Nat) (hI : InSl w l (.slice iad l.length ic)) : Calls Tryd.prog 44 #[.slice iad l.length ic] w (HdP l w) := by
  by_cases h : (anF l).1 = 0
  · exact Locks_good w l iad ic hI h
  · exact Locks_bad w l iad ic hI h

theorem Held_any (w : World) (l : List In) (iad : Option Addr) (ic : Nat) (hkk : KindsIn w) (hI : InSl w l (.slice iad l.length ic)) : Calls Tryd.prog 46 #[.slice iad l.length ic] w (HdP l w) := by
  by_cases h : (anF l).1 = 0
  · exact Held_good w l iad ic hkk hI h
  · exact Held_bad w l iad ic hkk hI h

end Go.Proofs.YtgemadoieielcacDoor
