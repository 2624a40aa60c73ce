import Derived.Test.YtkafihaajpifoajNA
namespace Go.Proofs.Ytkafihaajpifoaj
open Go.ChangeShapes Go.WideShapes Go.ChangeAt Go.RowKit

set_option maxRecDepth 20000 in
set_option maxHeartbeats 1000000 in
theorem holds_any (w : World) (l : List Fr) (v : Value) (hl : l.length ≤ 8) (hok : ∀ x ∈ l, okFr x) (hv : RowSl Fr.vals w l v) : Calls Try.prog 34 #[v] w fun r w' => r = .returned (.int .i64 (heldF l)) ∧ Below w.heap.size w w' := by
  obtain ⟨ad, c, rfl, -, hcap, hrow⟩ := hv
  have HR : Hid ((l = [] ∨ ∃ b o, ad = some ⟨b, o, none⟩ ∧ ∀ q u, (l.flatMap Fr.vals)[q]? = some u → w.cell? ⟨b, o + q, none⟩ = some u) ∧ ∀ x ∈ l, okFr x) := ⟨hrow, hok⟩
  clear hrow hok
  go_enter Try.func34, Try.ntmps34
  go_wp2_with fail
  go_loopw [3, 8] (fun mv i wr => ∃ (j : Nat) (mm : Int), j ≤ l.length ∧ i = .int .i64 j ∧ mv = .int .i64 mm ∧ Below w.heap.size w wr ∧ 1 ≤ mm ∧ mm ≤ 10000 ∧ Hid (max (mm - 1) (heldF (l.drop j)) = heldF l)) (fun _ i _ => l.length - (intOf i).toNat)
  case atStart => exact ⟨0, 1, Nat.zero_le _, rfl, rfl, Below.refl _ _, by omega, by omega, by have := heldF_nonneg l; show max (1 - 1) (heldF l) = heldF l; omega⟩
  case round =>
    obtain ⟨j, mm, hj, rfl, rfl, hb, h1, h2, HM⟩ := hrel
    by_cases hjl : j < l.length
    · obtain ⟨x, hx, hd⟩ := drop_at hjl
      rcases HR.out.1 with h | ⟨gb, go, rfl, hr1⟩
      · rw [h] at hjl; simp at hjl
      obtain ⟨y0, y1, y2, y3⟩ := fr_at (fun q u hq => below_cell hb (hr1 q u hq)) hx
      have hxo := HR.out.2 x (List.mem_of_getElem? hx)
      obtain ⟨xc, xt, xd, xj⟩ := x
      dsimp only at y0 y1 y2 y3
      have hc1 : 1 ≤ xc := hxo.1
      have hc2 : xc ≤ 10000 := hxo.2.1
      have HB : Hid (Below w.heap.size w wr) := hb
      have HD : Hid (heldF (l.drop j) = max (xc - 1) (heldF (l.drop (j + 1)))) := by rw [hd]; rfl
      clear hxo hd hx hr1 hb
      go_wp2_with fail
      refine ⟨⟨j + 1, max mm xc, by omega, by simp, ?_, below_seq HB.out (below_new _ _), by omega, by omega, ?_⟩, by simp [intOf]; omega⟩
      · first | rfl | (simp; done) | (congr 1; omega)
      · have e : max (max mm xc - 1) (heldF (l.drop (j + 1))) = heldF l := by
          rw [← HM.out, HD.out]; omega
        exact e
    · have hje : j = l.length := by omega
      subst hje
      go_wp2_with fail
      go_ret
      refine ⟨?_, hb⟩
      have := HM.out
      rw [List.drop_length] at this
      have e : mm - 1 = heldF l := by rw [← this]; simp only [heldF]; omega
      rw [e]
      rfl

theorem roundUp_any (w : World) (a b : Int) (h0 : 0 ≤ a) (h1 : a ≤ 1000000) (h2 : 1 ≤ b) (h3 : b ≤ 10000) : Calls Try.prog 39 #[.int .i64 a, .int .i64 b] w fun r w' => r = .returned (.int .i64 ((a + b - 1) / b)) ∧ w' = w := by
  have e5 : (a + b - 1).tdiv b = (a + b - 1) / b := Int.tdiv_eq_ediv_of_nonneg (by omega)
  have q0 : 0 ≤ (a + b - 1) / b := Int.ediv_nonneg (by omega) (by omega)
  have q1 : (a + b - 1) / b ≤ a + b - 1 := Int.ediv_le_self b (by omega)
  have e6 : IntKind.i64.wrap ((a + b - 1) / b) = (a + b - 1) / b := by rw [IntKind.wrap_i64]; omega
  have e7 : IntKind.i64.wrap (a + b) = a + b := by rw [IntKind.wrap_i64]; omega
  have e8 : IntKind.i64.wrap (a + b - 1) = a + b - 1 := by rw [IntKind.wrap_i64]; omega
  have hb : (b == 0) = false := by simp; omega
  have hb' : ¬ b = 0 := by omega
  go_enter Try.func39, Try.ntmps39
  go_wp2_with fail
  go_ret
  exact ⟨rfl, rfl⟩

theorem up_eq' {a b : Int} (hb : 1 ≤ b) : (if a / b * b < a then a / b + 1 else a / b) = (a + b - 1) / b := by
  have e := Int.mul_ediv_add_emod a b
  have e1 := Int.emod_nonneg a (show b ≠ 0 by omega)
  have e2 := Int.emod_lt_of_pos a (show 0 < b by omega)
  rw [Int.mul_comm] at e
  by_cases h : a / b * b < a
  · rw [if_pos h]
    symm
    rw [Int.ediv_eq_iff_of_pos (by omega)]
    rw [Int.add_mul, Int.one_mul]
    omega
  · rw [if_neg h]
    symm
    rw [Int.ediv_eq_iff_of_pos (by omega)]
    omega
end Go.Proofs.Ytkafihaajpifoaj
