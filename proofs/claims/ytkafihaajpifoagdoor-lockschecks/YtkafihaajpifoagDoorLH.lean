import Derived.Test.YtkafihaajpifoagDoorLG
namespace Go.Proofs.YtkafihaajpifoagDoor
open Go.ChangeShapes Go.WideShapes Go.ChangeAt Go.RowKit

set_option maxRecDepth 20000 in
set_option maxHeartbeats 4000000 in
/-- punctualref.Stretch, of right acts. -/
theorem Stretch_any (w : World) (l : List Ac) (v : Value) (hv : RowSl Ac.vals w l v) (h0 : chkActs l = (0, 0)) : Calls Tryd.prog 17 #[v] w fun r w' => r = .returned (.int .i64 (longF l)) ∧ Below w.heap.size w w' := by
  obtain ⟨hl, hok⟩ := chkActs_fine h0
  obtain ⟨ad, c, rfl, -, hcap, hrow⟩ := hv
  have HR : Hid ((l = [] ∨ ∃ b o, ad = some ⟨b, o, none⟩ ∧ ∀ q u, (l.flatMap Ac.vals)[q]? = some u → w.cell? ⟨b, o + q, none⟩ = some u) ∧ chkA l [] 0 = (0, 0)) := ⟨hrow, hok⟩
  clear hrow hok h0
  go_enter Tryd.func17, Tryd.ntmps17
  go_wp2_with fail
  go_loopw [3, 4, 5, 10] (fun vb vt vh vi wr => ∃ (j : Nat) (st : List Int) (t b : Int), vb = .int .i64 b ∧ vt = .int .i64 t ∧ vh = .int .i64 (st.length : Int) ∧ vi = .int .i64 j ∧ Below w.heap.size w wr ∧ Lon l j st t b) (fun _ _ _ i _ => l.length - (intOf i).toNat)
  case atStart => exact ⟨0, [], 0, 0, rfl, rfl, rfl, rfl, Below.refl _ _, Lon.start HR.out.2⟩
  case round =>
    obtain ⟨j, st, t, b, rfl, rfl, rfl, rfl, hb, hn⟩ := hrel
    have HB : Hid (Below w.heap.size w wr ∧ Lon l j st t b) := ⟨hb, hn⟩
    have hj := hn.jl
    by_cases hlt : j < l.length
    · obtain ⟨x, hx, hstep⟩ := hn.step hlt
      rcases HR.out.1 with h | ⟨g, o, rfl, hrow⟩
      · rw [h] at hlt; simp at hlt
      have ha := ac_at (fun q u hq => below_cell hb (hrow q u hq)) hx
      obtain ⟨d, n⟩ := x
      obtain ⟨c0, c1⟩ := ha
      dsimp only at c0 c1 hstep
      have lb : g < wr.heap.size := World.block_lt_of_cell? _ _ c0
      have hji : (j : Int) < (l.length : Int) := by omega
      have q1 := hn.t0
      have q2 := hn.t1
      have q3 := hn.b0
      have q4 := hn.b1
      have q5 := hn.sl
      have q8 := hn.tb
      have q9 : ¬ (b < t) := by omega
      have HI := hn.nil
      clear hb hn hrow hx
      rcases hstep with ⟨rfl, hN⟩ | ⟨rfl, st', rfl, ⟨rfl, hN⟩ | ⟨hne, hN⟩⟩ | ⟨rfl, n1, n2, ⟨rfl, hN⟩ | ⟨hne, hN⟩⟩
      · rw [show max b t = b by omega] at hN
        have HN : Hid (Lon l (j + 1) (st ++ [n]) t b) := hN
        have z1 : ((st.length : Int) + 1 == 0) = false := by simp; omega
        clear hN HI
        go_wp2_with fail
        exact ⟨⟨j + 1, st ++ [n], t, b, rfl, rfl, by simp, by simp, below_seq HB.out.1 (below_new _ _), HN.out⟩, by simp [intOf]; omega⟩
      · rw [show max b 0 = b by omega] at hN
        have HN : Hid (Lon l (j + 1) [] 0 b) := hN
        clear hN HI
        go_wp2_with fail
        exact ⟨⟨j + 1, [], 0, b, rfl, rfl, by simp, by simp, below_seq HB.out.1 (below_new _ _), HN.out⟩, by simp [intOf]; omega⟩
      · rw [show max b t = b by omega] at hN
        have HN : Hid (Lon l (j + 1) st' t b) := hN
        have hp := List.length_pos_iff.2 hne
        have z1 : ((st'.length : Int) == 0) = false := by simp; omega
        have q6 : st'.length + 1 ≤ j := by simpa using q5
        have q7 : j ≤ 200 := by omega
        clear hN q5 HI
        rw [show ((st' ++ [n]).length : Int) = (st'.length : Int) + 1 by simp]
        go_wp2_with fail
        exact ⟨⟨j + 1, st', t, b, rfl, rfl, by simp, by simp, below_seq HB.out.1 (below_new _ _), HN.out⟩, by simp [intOf]; omega⟩
      · obtain rfl : t = 0 := HI rfl
        rw [show max b 0 = b by omega] at hN
        have HN : Hid (Lon l (j + 1) [] 0 b) := hN
        clear hN HI
        go_wp2_with fail
        exact ⟨⟨j + 1, [], 0, b, rfl, rfl, by simp, by simp, below_seq HB.out.1 (below_new _ _), HN.out⟩, by simp [intOf]; omega⟩
      · have HN : Hid (Lon l (j + 1) st (t + n) (max b (t + n))) := hN
        have hp := List.length_pos_iff.2 hne
        have z1 : ((st.length : Int) == 0) = false := by simp; omega
        have z2 : (0 : Int) < (st.length : Int) := by omega
        clear hN HI
        go_wp2_with fail
        all_goals first
          | exact ⟨⟨j + 1, st, t + n, max b (t + n), by congr 1; omega, rfl, by simp, by simp, below_seq HB.out.1 (below_new _ _), HN.out⟩, by simp [intOf]; omega⟩
          | fail
    · have hje : j = l.length := by omega
      subst hje
      have HE : Hid (b = longF l) := hn.stop
      clear hb hn
      go_wp2_with fail
      go_ret
      exact ⟨by rw [← HE.out]; rfl, HB.out.1⟩
end Go.Proofs.YtkafihaajpifoagDoor
