import Derived.Test.YtccoobcggbbciadDoorTL
namespace Go.Proofs.YtccoobcggbbciadDoor
open Go.ChangeShapes Go.WideShapes Go.ChangeAt Go.RowKit

theorem lent_at {α : Type} {f : α → List Value} {sz : Nat} (hf : ∀ x, (f x).length = sz) {w : World} {l : List α} {m : α} {b o j k : Nat} {u : Value} (h : ∀ q u, ((l ++ [m, m, m]).flatMap f)[q]? = some u → w.cell? ⟨b, o + q, none⟩ = some u) (h1 : l.length ≤ j) (h2 : j < l.length + 3) (hk : k < sz) (hu : (f m)[k]? = some u) : w.cell? ⟨b, o + (j * sz + k), none⟩ = some u := by
  refine h _ _ ((flat_at f sz hf (l ++ [m, m, m]) j k m ?_ hk).trans hu)
  rw [List.getElem?_append_right h1]
  have : j - l.length = 0 ∨ j - l.length = 1 ∨ j - l.length = 2 := by omega
  rcases this with e | e | e <;> rw [e] <;> rfl

set_option maxRecDepth 20000 in
set_option maxHeartbeats 4000000 in
/-- Still, of a list that was lent and stands as it did. -/
theorem StillT_any (w : World) (l : List Ta) (m : Ta) (v v' : Value) (hl : l.length ≤ 100000) (h : Lent Ta.vals w l m v) (h' : RowSl Ta.vals w l v') :
    Calls Tryd.prog 25 #[v, v', m.val] w fun r w' => r = .returned (.bool true) ∧ Below w.heap.size w w' := by
  obtain ⟨b, o, cap, rfl, hcap, hrow⟩ := h
  obtain ⟨ad', c', rfl, -, -, hc'⟩ := h'
  have HR : Hid (_ ∧ _) := ⟨hrow, hc'⟩
  clear hrow hc'
  have HM : Hid (∀ w2 : World, (∀ q u, ((l ++ [m, m, m]).flatMap Ta.vals)[q]? = some u → w2.cell? ⟨b, o + q, none⟩ = some u) → ∀ j, l.length ≤ j → j < l.length + 3 → TaAt w2 b (o + j * 7) m) := fun w2 h j h1 h2 => by
    have key : ∀ k u, k < 7 → m.vals[k]? = some u → w2.cell? ⟨b, o + j * 7 + k, none⟩ = some u := fun k u hk hu => by
      rw [Nat.add_assoc]
      exact lent_at Ta.len h h1 h2 hk hu
    exact ⟨key 0 _ (by omega) rfl, key 1 _ (by omega) rfl, key 2 _ (by omega) rfl, key 3 _ (by omega) rfl, key 4 _ (by omega) rfl, key 5 _ (by omega) rfl, key 6 _ (by omega) rfl⟩
  obtain ⟨mnm, mc, mt, md, mj, mo, mp⟩ := m
  unfold Ta.val
  dsimp only
  go_enter Tryd.func25, Tryd.ntmps25
  go_wp2_with fail
  go_loopw [17] (fun x wr => ∃ j : Nat, j ≤ l.length + 3 ∧ x = .int .i64 j ∧ Below (w.heap.size + 1) (w.alloc (.cells #[.string mnm, .int .i64 mc, .int .i64 mt, .int .i64 md, .int .i64 mj, .int .i64 mo, .int .i64 mp] 55)) wr) (fun x _ => l.length + 3 - (intOf x).toNat)
  case atStart => exact ⟨0, Nat.zero_le _, rfl, Below.refl _ _⟩
  case round =>
    obtain ⟨j, hj, rfl, hb⟩ := hrel
    have hbw : Below w.heap.size w wr := (below_new w (.cells #[.string mnm, .int .i64 mc, .int .i64 mt, .int .i64 md, .int .i64 mj, .int .i64 mo, .int .i64 mp] 55)).trans (hb.mono (by omega))
    have m_0 : wr.cell? ⟨w.heap.size, 0, none⟩ = some (.string mnm) := (hb.cell (by show w.heap.size < w.heap.size + 1; omega)).trans (by go_simp)
    have m_1 : wr.cell? ⟨w.heap.size, 1, none⟩ = some (.int .i64 mc) := (hb.cell (by show w.heap.size < w.heap.size + 1; omega)).trans (by go_simp)
    have m_2 : wr.cell? ⟨w.heap.size, 2, none⟩ = some (.int .i64 mt) := (hb.cell (by show w.heap.size < w.heap.size + 1; omega)).trans (by go_simp)
    have m_3 : wr.cell? ⟨w.heap.size, 3, none⟩ = some (.int .i64 md) := (hb.cell (by show w.heap.size < w.heap.size + 1; omega)).trans (by go_simp)
    have m_4 : wr.cell? ⟨w.heap.size, 4, none⟩ = some (.int .i64 mj) := (hb.cell (by show w.heap.size < w.heap.size + 1; omega)).trans (by go_simp)
    have m_5 : wr.cell? ⟨w.heap.size, 5, none⟩ = some (.int .i64 mo) := (hb.cell (by show w.heap.size < w.heap.size + 1; omega)).trans (by go_simp)
    have m_6 : wr.cell? ⟨w.heap.size, 6, none⟩ = some (.int .i64 mp) := (hb.cell (by show w.heap.size < w.heap.size + 1; omega)).trans (by go_simp)
    have lw : w.heap.size < wr.heap.size := World.block_lt_of_cell? _ _ m_0
    have HB : Hid (Below (w.heap.size + 1) (w.alloc (.cells #[.string mnm, .int .i64 mc, .int .i64 mt, .int .i64 md, .int .i64 mj, .int .i64 mo, .int .i64 mp] 55)) wr) := hb
    by_cases hlt : j < l.length
    · obtain ⟨x, hx, -⟩ := drop_at hlt
      have c := ta_at (fun q u hq => below_cell hbw (HR.out.1 q u hq)) (show (l ++ _)[j]? = some x by rw [List.getElem?_append_left hlt]; exact hx)
      rcases HR.out.2 with h | ⟨b', o', had', hrow'⟩
      · rw [h] at hlt; simp at hlt
      subst had'
      have d := ta_at (fun q u hq => below_cell hbw (hrow' q u hq)) hx
      obtain ⟨c0, c1, c2, c3, c4, c5, c6⟩ := c
      obtain ⟨d0, d1, d2, d3, d4, d5, d6⟩ := d
      have lb' : b' < wr.heap.size := World.block_lt_of_cell? _ _ d0
      have f1 : decide ((j : Int) < (l.length : Int)) = true := by simp; omega
      have f1' : decide (j < l.length) = true := by simp; omega
      have f2 : decide ((l.length : Int) ≤ (j : Int)) = false := by simp; omega
      have f2' : decide (l.length ≤ j) = false := by simp; omega
      clear hrow' hb hbw hx
      obtain ⟨xnm, xc, xt, xd, xj, xo, xp⟩ := x
      dsimp only at c0 c1 c2 c3 c4 c5 c6 d0 d1 d2 d3 d4 d5 d6
      go_wp2_with fail
      go_quiet (fail)
      go_wp2_with fail
      go_roundw
      case rel => exact ⟨j + 1, by omega, by go_num, (HB.out.alloc (by omega) _).trans ((below_drewN').mono (by simp; omega))⟩
      case measure => simp [intOf]; omega
    · by_cases hlt2 : j < l.length + 3
      · have c := HM.out wr (fun q u hq => below_cell hbw (HR.out.1 q u hq)) j (by omega) hlt2
        obtain ⟨c0, c1, c2, c3, c4, c5, c6⟩ := c
        have f1 : decide ((j : Int) < (l.length : Int)) = false := by simp; omega
        have f1' : decide (j < l.length) = false := by simp; omega
        have f2 : decide ((l.length : Int) ≤ (j : Int)) = true := by simp; omega
        have f2' : decide (l.length ≤ j) = true := by simp; omega
        clear hb hbw
        dsimp only at c0 c1 c2 c3 c4 c5 c6
        go_wp2_with fail
        go_quiet (fail)
        go_wp2_with fail
        go_roundw
        case rel => exact ⟨j + 1, by omega, by go_num, (HB.out.alloc (by omega) _).trans ((below_drewN').mono (by simp; omega))⟩
        case measure => simp [intOf]; omega
      · have hje : j = l.length + 3 := by omega
        subst hje
        go_wp2_with fail
        go_ret
        exact ⟨rfl, hbw⟩
end Go.Proofs.YtccoobcggbbciadDoor
