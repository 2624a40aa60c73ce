import Derived.Test.YtcejfmmcdagnoabDoorAmong
namespace Go.Proofs.YtcejfmmcdagnoabDoor
open Go.ChangeShapes Go.WideShapes Go.ChangeAt Go.RowKit

/-- A slice of regions. -/
def RegSl (w : World) (rs : List (Nat × Nat)) (v : Value) : Prop := ∃ ad c, v = .slice ad rs.length c ∧ (rs = [] ∨ ∃ b o, ad = some ⟨b, o, none⟩ ∧ ∀ j, j < rs.length → w.cell? ⟨b, o + j * 2, none⟩ = some (.int .i64 ((rs.getD j (0, 0)).1 : Int)) ∧ w.cell? ⟨b, o + j * 2 + 1, none⟩ = some (.int .i64 ((rs.getD j (0, 0)).2 : Int)))

theorem RegSl.below {w w' : World} {rs : List (Nat × Nat)} {v : Value} (h : RegSl w rs v) (hb : Below w.heap.size w w') : RegSl w' rs v := by
  obtain ⟨ad, c, h1, h2⟩ := h
  refine ⟨ad, c, h1, ?_⟩
  rcases h2 with h2 | ⟨b, o, h2, h3⟩
  · exact .inl h2
  · exact .inr ⟨b, o, h2, fun j hj => ⟨below_cell hb (h3 j hj).1, below_cell hb (h3 j hj).2⟩⟩

def regVal (q : Option (Nat × Nat)) : Value := .agg #[.int .i64 ((q.getD (0, 0)).1 : Int), .int .i64 ((q.getD (0, 0)).2 : Int)]

/-- What inner holds. -/
structure InnW (w wr : World) (best : Option (Nat × Nat)) : Prop where
  bel : Below w.heap.size w wr
  res : wr.heap[w.heap.size]? = some (.cells #[.int .i64 0, .int .i64 0] 96 (0, 0))
  bst : wr.heap[w.heap.size + 1]? = some (.cells #[.int .i64 ((best.getD (0, 0)).1 : Int), .int .i64 ((best.getD (0, 0)).2 : Int)] 96 (0, 0))

theorem InnW.start (w : World) : InnW w ((w.alloc (.cells #[.int .i64 0, .int .i64 0] 96)).alloc (.cells #[.int .i64 0, .int .i64 0] 96)) none := by
  refine ⟨(below_new _ _).alloc (by simp) _, ?_, ?_⟩
  · rw [Below.heap_alloc _ _ _ (by simp)]; exact heap_alloc_new _ _
  · have := heap_alloc_new (w.alloc (.cells #[.int .i64 0, .int .i64 0] 96)) (.cells #[.int .i64 0, .int .i64 0] 96)
    simpa using this

theorem InnW.grow {w wr w' : World} {best : Option (Nat × Nat)} (h : InnW w wr best) (hb : Below wr.heap.size wr w') : InnW w w' best :=
  ⟨below_seq h.bel hb, (hb.block _ (Array.getElem?_eq_some_iff.1 h.res).1).trans h.res, (hb.block _ (Array.getElem?_eq_some_iff.1 h.bst).1).trans h.bst⟩

theorem InnW.take {w wr : World} {best : Option (Nat × Nat)} (h : InnW w wr best) (z1 z2 : Nat) (o : Obj) : InnW w (((wr.setCell ⟨w.heap.size + 1, 0, none⟩ (.int .i64 (z1 : Int))).setCell ⟨w.heap.size + 1, 1, none⟩ (.int .i64 (z2 : Int))).alloc o) (some (z1, z2)) := by
  refine InnW.grow ⟨(h.bel.setCell (by show w.heap.size ≤ w.heap.size + 1; omega) _).setCell (by show w.heap.size ≤ w.heap.size + 1; omega) _, ?_, ?_⟩ (below_new _ _)
  · rw [Below.heap_setCell _ _ _ _ (by show w.heap.size ≠ w.heap.size + 1; omega), Below.heap_setCell _ _ _ _ (by show w.heap.size ≠ w.heap.size + 1; omega)]
    exact h.res
  · have := setCell_at (i := 1) (u := .int .i64 (z2 : Int)) (setCell_at (i := 0) (u := .int .i64 (z1 : Int)) h.bst)
    simpa using this

theorem Inner_ends {w : World} {g : Nat} {c k f : Value} {a : Act} (h : w.heap[g]? = some (.cells #[c, k] 96 (0, 0))) (h4 : a.tmps[4]?.getD undef = .pointer (some ⟨g, 0, none⟩)) (h5 : a.tmps[5]?.getD undef = f) :
    (results Tryd.f43 a.tmps).run Tryd.prog w = .ok (.tuple #[.agg #[c, k], f]) w := by
  obtain ⟨c1, f1, l1⟩ := cells_of (l := [_, _]) h
  have c10 := c1 0 _ rfl
  have c11 := c1 1 _ rfl
  simp [results, Tryd.results43, go_sem, h4, h5, c10, c11]

set_option maxRecDepth 20000 in
set_option maxHeartbeats 4000000 in
/-- inner. -/
theorem inner_any (w : World) (mb : Nat) (rs : List (Nat × Nat)) (lv rv : Value) (i : Nat) (_hm0 : w.cell? ⟨mb, 0, none⟩ = some lv) (hm1 : w.cell? ⟨mb, 1, none⟩ = some rv) (hr : RegSl w rs rv) (hrl : rs.length ≤ 4194304) (_hi : i ≤ 4194304) :
    Calls Tryd.prog 43 #[.pointer (some ⟨mb, 0, none⟩), .int .i64 i] w fun r w' => r = .returned (.tuple #[regVal (innerOf rs i), .bool (innerOf rs i).isSome]) ∧ Below w.heap.size w w' := by
  obtain ⟨ad, c, rfl, hrow⟩ := hr
  have HI : Hid _ := hrow
  have lm : mb < w.heap.size := World.block_lt_of_cell? w _ hm1
  clear hrow
  go_enter Tryd.func43, Tryd.ntmps43
  go_wp2_with fail
  go_loopw [7, 16] (fun f n wr => ∃ (j : Nat) (best : Option (Nat × Nat)), j ≤ rs.length ∧ f = .bool best.isSome ∧ n = .int .i64 j ∧ (rs.drop j).foldl (better i) best = innerOf rs i ∧ InnW w wr best) (fun _ n _ => rs.length - (intOf n).toNat)
  case atStart => exact ⟨0, none, Nat.zero_le _, rfl, rfl, rfl, InnW.start w⟩
  case round =>
    obtain ⟨j, best, hj, rfl, rfl, hfo, hw⟩ := hrel
    obtain ⟨bs, bf, bl⟩ := cells_of (l := [_, _]) hw.bst
    have b0 := bs 0 _ rfl
    have b1 := bs 1 _ rfl
    have bf0 := bf 0
    have bf1 := bf 1
    clear bs bf
    by_cases hlt : j < rs.length
    · rcases HI.out with h | ⟨b, o, had, hrow⟩
      · rw [h] at hlt; simp at hlt
      subst had
      have q0 := below_cell hw.bel (hrow j hlt).1
      have q1 := below_cell hw.bel (hrow j hlt).2
      have hdrop : rs.drop j = rs.getD j (0, 0) :: rs.drop (j + 1) := by
        rw [List.getD_eq_getElem?_getD, List.getElem?_eq_getElem hlt]
        exact List.drop_eq_getElem_cons hlt
      rw [hdrop, List.foldl_cons] at hfo
      have HW : Hid (_ ∧ _) := ⟨hfo, hw⟩
      clear hfo hw hrow hdrop
      generalize rs.getD j (0, 0) = z at *
      obtain ⟨z1, z2⟩ := z
      dsimp only at q0 q1
      by_cases e1 : z1 < i
      · have f1 : decide ((z1 : Int) < (i : Int)) = true := by simp; omega
        have f1' : decide (z1 < i) = true := by simp; omega
        by_cases e2 : i ≤ z2
        · have f2 : decide ((i : Int) ≤ (z2 : Int)) = true := by simp; omega
          have f2' : decide (i ≤ z2) = true := by simp; omega
          by_cases e3 : best = none ∨ (best.getD (0, 0)).1 < z1
          · have hbt : better i best (z1, z2) = some (z1, z2) := by unfold better; rw [if_pos ⟨e1, e2, e3⟩]
            rw [hbt] at HW
            have hres := HW.out.2.take z1 z2 (.cells #[.int .i64 (z1 : Int), .int .i64 (z2 : Int)] 96)
            rcases best with _ | ⟨p1, p2⟩
            · simp only [Option.isSome_none, Option.getD_none] at b0 b1 ⊢
              go_wp2_with fail
              go_roundw
              case rel => exact ⟨j + 1, some (z1, z2), by omega, rfl, by go_num, HW.out.1, hres⟩
              case measure => simp [intOf]; omega
            · have e3' : p1 < z1 := by simpa using e3
              have f3 : decide ((p1 : Int) < (z1 : Int)) = true := by simp; omega
              have f3' : decide (p1 < z1) = true := by simp; omega
              simp only [Option.isSome_some, Option.getD_some] at b0 b1 ⊢
              go_wp2_with fail
              go_roundw
              case rel => exact ⟨j + 1, some (z1, z2), by omega, rfl, by go_num, HW.out.1, hres⟩
              case measure => simp [intOf]; omega
          · have hbt : better i best (z1, z2) = best := by unfold better; rw [if_neg (fun h => e3 h.2.2)]
            rw [hbt] at HW
            rcases best with _ | ⟨p1, p2⟩
            · exact absurd (.inl rfl) e3
            · have e3' : ¬ p1 < z1 := by simpa using e3
              have f3 : decide ((p1 : Int) < (z1 : Int)) = false := by simp; omega
              have f3' : decide (p1 < z1) = false := by simp; omega
              simp only [Option.isSome_some, Option.getD_some] at b0 b1 ⊢
              go_wp2_with fail
              go_roundw
              case rel => exact ⟨j + 1, some (p1, p2), by omega, rfl, by go_num, HW.out.1, HW.out.2.grow (below_new _ _)⟩
              case measure => simp [intOf]; omega
        · have f2 : decide ((i : Int) ≤ (z2 : Int)) = false := by simp; omega
          have f2' : decide (i ≤ z2) = false := by simp; omega
          have hbt : better i best (z1, z2) = best := by unfold better; rw [if_neg (fun h => e2 h.2.1)]
          rw [hbt] at HW
          go_wp2_with fail
          go_roundw
          case rel => exact ⟨j + 1, best, by omega, rfl, by go_num, HW.out.1, HW.out.2.grow (below_new _ _)⟩
          case measure => simp [intOf]; omega
      · have f1 : decide ((z1 : Int) < (i : Int)) = false := by simp; omega
        have f1' : decide (z1 < i) = false := by simp; omega
        have hbt : better i best (z1, z2) = best := by unfold better; rw [if_neg (fun h => e1 h.1)]
        rw [hbt] at HW
        go_wp2_with fail
        go_roundw
        case rel => exact ⟨j + 1, best, by omega, rfl, by go_num, HW.out.1, HW.out.2.grow (below_new _ _)⟩
        case measure => simp [intOf]; omega
    · have hje : j = rs.length := by omega
      subst hje
      rw [List.drop_length, List.foldl_nil] at hfo
      obtain ⟨rs', rf, rl⟩ := cells_of (l := [_, _]) hw.res
      have r0 := rs' 0 _ rfl
      have r1 := rs' 1 _ rfl
      have rf0 := rf 0
      have rf1 := rf 1
      clear rs' rf
      have HF : Hid (best = innerOf rs i) := hfo
      have HW : Hid _ := hw
      clear hw hfo
      go_wp2_with fail
      exact bodyPost_ret (v := .tuple #[regVal best, .bool best.isSome]) (Inner_ends (by simpa using setCell_at (i := 1) (u := .int .i64 ((best.getD (0, 0)).2 : Int)) (setCell_at (i := 0) (u := .int .i64 ((best.getD (0, 0)).1 : Int)) HW.out.res)) rfl rfl) rfl ⟨by rw [HF.out], (HW.out.bel.setCell (Nat.le_refl _) _).setCell (Nat.le_refl _) _⟩
end Go.Proofs.YtcejfmmcdagnoabDoor
