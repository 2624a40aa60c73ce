import Derived.Test.YtfffpemgfddehaaDoorStmtB
import Derived.Test.YtfffpemgfddehaaDoorCount
namespace Go.Proofs.YtfffpemgfddehaaDoor
open Go.ChangeShapes Go.WideShapes Go.ChangeAt Go.RowKit

/-- The cell of the answer. -/
theorem ans_cells {w : World} {g : Nat} {x y : Value} (h : w.heap[g]? = some (.cells #[x, y] 25 (0, 0))) : w.cell? ⟨g, 0, none⟩ = some x ∧ w.cell? ⟨g, 1, none⟩ = some y ∧ (∀ j, w.frozen? ⟨g, j, none⟩ = false) ∧ g < w.heap.size := by
  refine ⟨?_, ?_, ?_, (Array.getElem?_eq_some_iff.1 h).1⟩
  · unfold World.cell?; rw [h]; rfl
  · unfold World.cell?; rw [h]; rfl
  · intro j; unfold World.frozen?; rw [h]; simp

theorem three_below {w w1 : World} {o1 o2 o3 : Obj} (h : Below w.heap.size w w1) : Below w.heap.size w (((w1.alloc o1).alloc o2).alloc o3) := by
  have hs := h.size
  exact ((h.alloc hs o1).alloc (by simp; omega) o2).alloc (by simp; omega) o3

theorem three_old {w1 : World} {o1 o2 o3 : Obj} {g : Nat} {o : Option Obj} (hg : g < w1.heap.size) (h : w1.heap[g]? = o) : (((w1.alloc o1).alloc o2).alloc o3).heap[g]? = o := by
  rw [Below.heap_alloc _ _ _ (by simp; omega), Below.heap_alloc _ _ _ (by simp; omega), Below.heap_alloc _ _ _ hg, h]

/-- The walk at its start. -/
theorem three_wk {w1 : World} {o2 o3 : Obj} : Wk (((w1.alloc (.cells #[.int .i64 (-1), .slice none 0 0] 41)).alloc o2).alloc o3) w1.heap.size (w1.heap.size + 1) (-1) (.slice none 0 0) [] := by
  refine ⟨?_, ⟨[], World.ownsRow_nil _ _ _ _, rfl⟩, by omega, by simp⟩
  rw [Below.heap_alloc _ _ _ (by simp; omega), Below.heap_alloc _ _ _ (by simp)]
  exact heap_alloc_new w1 _

set_option maxRecDepth 20000 in
set_option maxHeartbeats 2000000 in
theorem Check_of_list (a : List St) (w : World) (v : Value) (p : Nat → Prop) (bl : List Nat) (hsl : St.SlQ p w a v bl) (hnd : bl.Nodup) (hN : St.bulkAll a ≤ 1048576) (hL : ListOk w 1048576) :
    Calls Tryd.prog 4 #[v] w fun r w' => r = .returned (if 200 < St.countAll a then .agg #[.int .i64 2, .int .i64 0] else .agg #[.int .i64 (firstErr (St.flatAll a 0 []) 0).1, .int .i64 (firstErr (St.flatAll a 0 []) 0).2]) ∧ Below w.heap.size w w' := by
  obtain ⟨ts, hts, hct, hnd'⟩ := hsl.seen hnd
  have hp := hsl.plain
  obtain ⟨ad, c, rfl, -⟩ := id hp
  have hcl := St.countAll_le a
  have hB1 : Below w.heap.size w (w.alloc (.cells #[.int .i64 0, .int .i64 0] 25)) := (Below.refl _ _).alloc (Nat.le_refl _) _
  have HH : Hid (AT.Sl w ts (.slice ad a.length c) ∧ (AT.addrsAll ts).Nodup ∧ St.Sl w a (.slice ad a.length c) ∧ ListOk w 1048576 ∧ Below w.heap.size w (w.alloc (.cells #[.int .i64 0, .int .i64 0] 25)) ∧ AT.countAll ts = St.countAll a) := ⟨hts, hnd', hp, hL, hB1, hct⟩
  clear hts hnd' hp hL hB1 hsl hnd hct
  by_cases h200 : 200 < St.countAll a
  · have hd : decide (200 < (St.countAll a : Int)) = true := decide_eq_true (by omega)
    rw [if_pos h200]
    go_enter Tryd.func4, Tryd.ntmps4
    go_wp2_with (first
      | (go_at_call 7; refine (Count_any ts _ _ (HH.out.1.below HH.out.2.2.2.2.1) HH.out.2.1 (by have := HH.out.2.2.2.2.2; omega)).mono ?_; rintro r w1 ⟨rfl, hb1⟩; rw [HH.out.2.2.2.2.2]; obtain ⟨k0, k1, kf, kl⟩ := ans_cells ((hb1.block w.heap.size (by simp)).trans (heap_alloc_new w _)); have HB : Hid _ := hb1; clear hb1))
    exact bodyPost_ret (v := .agg #[.int .i64 2, .int .i64 0]) (by simp [results, Tryd.results4, go_sem, k0, k1]) rfl ⟨rfl, ((below_seq HH.out.2.2.2.2.1 HB.out).setCell (by simp) _).setCell (by simp) _⟩
  · have hd : decide (200 < (St.countAll a : Int)) = false := decide_eq_false (by omega)
    rw [if_neg h200, chk_body]
    have hen := ent22
    by_cases hz : (St.chkAll a [] (-1)).1 = 0
    · rw [if_neg (by simpa using hz)]
      go_enter Tryd.func4, Tryd.ntmps4
      go_wp2_with (first
        | (go_at_call 7; refine (Count_any ts _ _ (HH.out.1.below HH.out.2.2.2.2.1) HH.out.2.1 (by have := HH.out.2.2.2.2.2; omega)).mono ?_; rintro r w1 ⟨rfl, hb1⟩; rw [HH.out.2.2.2.2.2]; have HK : Hid (w1.heap[w.heap.size]? = some (.cells #[.int .i64 0, .int .i64 0] 25 (0, 0))) := (hb1.block w.heap.size (by simp)).trans (heap_alloc_new w _); obtain ⟨k0, k1, kf, kl⟩ := ans_cells HK.out; have HB : Hid _ := hb1; clear hb1)
        | (go_at_call 13; refine (list_any _ _ _ _ _).mono ?_; rintro r w2 ⟨rfl, rfl⟩))
      have hs1 : w.heap.size < w1.heap.size := kl
      have hwb : Below w.heap.size w (((w1.alloc (.cells #[.int .i64 (-1), .slice none 0 0] 41)).alloc (.cells #[.pointer (some ⟨w1.heap.size, 0, none⟩)] 60)).alloc (.cells #[.slice ad a.length c] 22)) := three_below (below_seq HH.out.2.2.2.2.1 HB.out)
      refine (HH.out.2.2.2.1 a _ w1.heap.size (w1.heap.size + 1) (w1.heap.size + 1 + 1) (w1.heap.size + 1) (-1) (.slice none 0 0) (.slice ad a.length c) [] hN (by omega) hwb HH.out.2.2.1 three_wk (by omega) (by omega) (by simp; omega) (by simp [go_sem]) (by simp [go_sem]) (by omega) (by simp [Value.ownBlock])).mono ?_
      rintro r w3 ⟨rfl, v3, hk3, hr3⟩
      have hk0 : (((w1.alloc (.cells #[.int .i64 (-1), .slice none 0 0] 41)).alloc (.cells #[.pointer (some ⟨w1.heap.size, 0, none⟩)] 60)).alloc (.cells #[.slice ad a.length c] 22)).heap[w.heap.size]? = some (.cells #[.int .i64 0, .int .i64 0] 25 (0, 0)) := three_old hs1 HK.out
      obtain ⟨m0, m1, mf, ml⟩ := ans_cells ((hr3.block w.heap.size (by simp; omega) (by omega) (by simp [Value.ownBlock])).trans hk0)
      have mb : w3.cell? ⟨w1.heap.size, 0, none⟩ = some (.int .i64 (St.chkAll a [] (-1)).2) := by unfold World.cell?; rw [hk3.blk]; rfl
      have hlow := hr3.low three_wk (by omega) hwb
      have HL : Hid (Below w.heap.size w w3) := hlow
      clear hk3 hr3 hk0 hwb hlow k0 k1 kf
      go_wp2_with fail
      exact bodyPost_ret (v := .agg #[.int .i64 0, .int .i64 0]) (by simp [results, Tryd.results4, go_sem, m0, m1]) rfl ⟨rfl, (HL.out.setCell (by simp) _).setCell (by simp) _⟩
    · have hz' : ((St.chkAll a [] (-1)).1 != 0) = true := by simpa using hz
      rw [if_pos hz]
      go_enter Tryd.func4, Tryd.ntmps4
      go_wp2_with (first
        | (go_at_call 7; refine (Count_any ts _ _ (HH.out.1.below HH.out.2.2.2.2.1) HH.out.2.1 (by have := HH.out.2.2.2.2.2; omega)).mono ?_; rintro r w1 ⟨rfl, hb1⟩; rw [HH.out.2.2.2.2.2]; have HK : Hid (w1.heap[w.heap.size]? = some (.cells #[.int .i64 0, .int .i64 0] 25 (0, 0))) := (hb1.block w.heap.size (by simp)).trans (heap_alloc_new w _); obtain ⟨k0, k1, kf, kl⟩ := ans_cells HK.out; have HB : Hid _ := hb1; clear hb1)
        | (go_at_call 13; refine (list_any _ _ _ _ _).mono ?_; rintro r w2 ⟨rfl, rfl⟩))
      have hs1 : w.heap.size < w1.heap.size := kl
      have hwb : Below w.heap.size w (((w1.alloc (.cells #[.int .i64 (-1), .slice none 0 0] 41)).alloc (.cells #[.pointer (some ⟨w1.heap.size, 0, none⟩)] 60)).alloc (.cells #[.slice ad a.length c] 22)) := three_below (below_seq HH.out.2.2.2.2.1 HB.out)
      refine (HH.out.2.2.2.1 a _ w1.heap.size (w1.heap.size + 1) (w1.heap.size + 1 + 1) (w1.heap.size + 1) (-1) (.slice none 0 0) (.slice ad a.length c) [] hN (by omega) hwb HH.out.2.2.1 three_wk (by omega) (by omega) (by simp; omega) (by simp [go_sem]) (by simp [go_sem]) (by omega) (by simp [Value.ownBlock])).mono ?_
      rintro r w3 ⟨rfl, v3, hk3, hr3⟩
      have hk0 : (((w1.alloc (.cells #[.int .i64 (-1), .slice none 0 0] 41)).alloc (.cells #[.pointer (some ⟨w1.heap.size, 0, none⟩)] 60)).alloc (.cells #[.slice ad a.length c] 22)).heap[w.heap.size]? = some (.cells #[.int .i64 0, .int .i64 0] 25 (0, 0)) := three_old hs1 HK.out
      obtain ⟨m0, m1, mf, ml⟩ := ans_cells ((hr3.block w.heap.size (by simp; omega) (by omega) (by simp [Value.ownBlock])).trans hk0)
      have mb : w3.cell? ⟨w1.heap.size, 0, none⟩ = some (.int .i64 (St.chkAll a [] (-1)).2) := by unfold World.cell?; rw [hk3.blk]; rfl
      have hlow := hr3.low three_wk (by omega) hwb
      have HL : Hid (Below w.heap.size w w3) := hlow
      clear hk3 hr3 hk0 hwb hlow k0 k1 kf
      go_wp2_with fail
      exact bodyPost_ret (v := .agg #[.int .i64 (St.chkAll a [] (-1)).1, .int .i64 (St.chkAll a [] (-1)).2]) (by simp [results, Tryd.results4, go_sem, m0, m1]) rfl ⟨rfl, (HL.out.setCell (by simp) _).setCell (by simp) _⟩
end Go.Proofs.YtfffpemgfddehaaDoor
