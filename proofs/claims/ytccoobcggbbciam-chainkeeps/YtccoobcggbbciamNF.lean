import Derived.Test.YtccoobcggbbciamNC
namespace Go.Proofs.Ytccoobcggbbciam
open Go.ChangeShapes Go.WideShapes Go.ChangeAt Go.RowKit

set_option maxRecDepth 20000 in
set_option maxHeartbeats 1000000 in
theorem holds_any (w : World) (l : List Fr) (v : Value) (hl : l.length ≤ 8) (hok : ∀ x ∈ l, okFr x) (hv : RowSl Fr.vals w l v) : Calls Try.prog 56 #[v] w fun r w' => r = .returned (.int .i64 (heldF l)) ∧ Below w.heap.size w w' := by
  obtain ⟨ad, c, rfl, -, hcap, hrow⟩ := hv
  have HR : Hid ((l = [] ∨ ∃ b o, ad = some ⟨b, o, none⟩ ∧ ∀ q u, (l.flatMap Fr.vals)[q]? = some u → w.cell? ⟨b, o + q, none⟩ = some u) ∧ ∀ x ∈ l, okFr x) := ⟨hrow, hok⟩
  clear hrow hok
  go_enter Try.func56, Try.ntmps56
  go_wp2_with fail
  go_loopw [3, 8] (fun mv i wr => ∃ (j : Nat) (mm : Int), j ≤ l.length ∧ i = .int .i64 j ∧ mv = .int .i64 mm ∧ Below w.heap.size w wr ∧ 1 ≤ mm ∧ mm ≤ 10000 ∧ Hid (max (mm - 1) (heldF (l.drop j)) = heldF l)) (fun _ i _ => l.length - (intOf i).toNat)
  case atStart => exact ⟨0, 1, Nat.zero_le _, rfl, rfl, Below.refl _ _, by omega, by omega, by have := heldF_nonneg l; show max (1 - 1) (heldF l) = heldF l; omega⟩
  case round =>
    obtain ⟨j, mm, hj, rfl, rfl, hb, h1, h2, HM⟩ := hrel
    by_cases hjl : j < l.length
    · obtain ⟨x, hx, hd⟩ := drop_at hjl
      rcases HR.out.1 with h | ⟨gb, go, rfl, hr1⟩
      · rw [h] at hjl; simp at hjl
      obtain ⟨y0, y1, y2, y3⟩ := fr_at (fun q u hq => below_cell hb (hr1 q u hq)) hx
      have hxo := HR.out.2 x (List.mem_of_getElem? hx)
      obtain ⟨xc, xt, xd, xj⟩ := x
      dsimp only at y0 y1 y2 y3
      have hc1 : 1 ≤ xc := hxo.1
      have hc2 : xc ≤ 10000 := hxo.2.1
      have HB : Hid (Below w.heap.size w wr) := hb
      have HD : Hid (heldF (l.drop j) = max (xc - 1) (heldF (l.drop (j + 1)))) := by rw [hd]; rfl
      clear hxo hd hx hr1 hb
      go_wp2_with fail
      refine ⟨⟨j + 1, max mm xc, by omega, by simp, ?_, below_seq HB.out (below_new _ _), by omega, by omega, ?_⟩, by simp [intOf]; omega⟩
      · first | rfl | (simp; done) | (congr 1; omega)
      · have e : max (max mm xc - 1) (heldF (l.drop (j + 1))) = heldF l := by
          rw [← HM.out, HD.out]; omega
        exact e
    · have hje : j = l.length := by omega
      subst hje
      go_wp2_with fail
      go_ret
      refine ⟨?_, hb⟩
      have := HM.out
      rw [List.drop_length] at this
      have e : mm - 1 = heldF l := by rw [← this]; simp only [heldF]; omega
      rw [e]
      rfl

theorem roundUp_any (w : World) (a b : Int) (h0 : 0 ≤ a) (h1 : a ≤ 1000000) (h2 : 1 ≤ b) (h3 : b ≤ 10000) : Calls Try.prog 61 #[.int .i64 a, .int .i64 b] w fun r w' => r = .returned (.int .i64 ((a + b - 1) / b)) ∧ w' = w := by
  have e5 : (a + b - 1).tdiv b = (a + b - 1) / b := Int.tdiv_eq_ediv_of_nonneg (by omega)
  have q0 : 0 ≤ (a + b - 1) / b := Int.ediv_nonneg (by omega) (by omega)
  have q1 : (a + b - 1) / b ≤ a + b - 1 := Int.ediv_le_self b (by omega)
  have e6 : IntKind.i64.wrap ((a + b - 1) / b) = (a + b - 1) / b := by rw [IntKind.wrap_i64]; omega
  have e7 : IntKind.i64.wrap (a + b) = a + b := by rw [IntKind.wrap_i64]; omega
  have e8 : IntKind.i64.wrap (a + b - 1) = a + b - 1 := by rw [IntKind.wrap_i64]; omega
  have hb : (b == 0) = false := by simp; omega
  have hb' : ¬ b = 0 := by omega
  go_enter Try.func61, Try.ntmps61
  go_wp2_with fail
  go_ret
  exact ⟨rfl, rfl⟩

theorem up_eq' {a b : Int} (hb : 1 ≤ b) : (if a / b * b < a then a / b + 1 else a / b) = (a + b - 1) / b := by
  have e := Int.mul_ediv_add_emod a b
  have e1 := Int.emod_nonneg a (show b ≠ 0 by omega)
  have e2 := Int.emod_lt_of_pos a (show 0 < b by omega)
  rw [Int.mul_comm] at e
  by_cases h : a / b * b < a
  · rw [if_pos h]
    symm
    rw [Int.ediv_eq_iff_of_pos (by omega)]
    rw [Int.add_mul, Int.one_mul]
    omega
  · rw [if_neg h]
    symm
    rw [Int.ediv_eq_iff_of_pos (by omega)]
    omega
end Go.Proofs.Ytccoobcggbbciam
namespace Go.Proofs.Ytccoobcggbbciam
open Go.ChangeShapes Go.WideShapes Go.ChangeAt Go.RowKit

theorem upF_range {m : Fr} (h : okFr m) {w : Int} (h0 : 0 ≤ w) (h1 : w ≤ 100000) : 0 ≤ upF w m ∧ upF w m ≤ 3000000000 := by
  obtain ⟨g1, g2, g3, g4, g5, g6, g7, g8⟩ := h
  unfold upF
  have q0 : 0 ≤ (w + m.j + m.t - 1) / m.t := Int.ediv_nonneg (by omega) (by omega)
  have q1 : (w + m.j + m.t - 1) / m.t ≤ w + m.j + m.t - 1 := Int.ediv_le_self m.t (by omega)
  refine ⟨Int.mul_nonneg q0 (by omega), ?_⟩
  have := Int.mul_le_mul (show (w + m.j + m.t - 1) / m.t ≤ 130000 by omega) g2 (by omega) (by omega)
  omega

theorem dnF_range {m : Fr} (h : okFr m) {w : Int} (h0 : 0 ≤ w) (h1 : w ≤ 100000) : 0 ≤ dnF w m ∧ dnF w m ≤ 3000000000 := by
  obtain ⟨g1, g2, g3, g4, g5, g6, g7, g8⟩ := h
  unfold dnF
  have q0 : 0 ≤ (w + m.j) / m.t := Int.ediv_nonneg (by omega) (by omega)
  have q1 : (w + m.j) / m.t ≤ w + m.j := Int.ediv_le_self m.t (by omega)
  refine ⟨Int.mul_nonneg (by omega) (by omega), ?_⟩
  have := Int.mul_le_mul (show (w + m.j) / m.t + 1 ≤ 130000 by omega) g2 (by omega) (by omega)
  omega

theorem roundUp_q (w : World) (a b : Int) (h0 : 0 ≤ a) (h1 : a ≤ 1000000) (h2 : 1 ≤ b) (h3 : b ≤ 10000) : Calls Try.prog 61 #[.int .i64 a, .int .i64 b] w fun r w' => r = .returned (.int .i64 ((a + b - 1) / b)) ∧ ∃ n, w' = w.drewN n :=
  (roundUp_any w a b h0 h1 h2 h3).mono (by rintro r w' ⟨rfl, rfl⟩; exact ⟨rfl, 0, rfl⟩)

set_option maxRecDepth 20000 in
set_option maxHeartbeats 1000000 in
theorem wup_any (w : World) (x : Fr) (gw : Nat) (y : Int) (hx : okFr x) (hy : 0 ≤ y ∧ y ≤ 100000) (hw : w.cell? ⟨gw, 0, none⟩ = some (.int .i64 y)) : Calls Try.prog 60 #[x.val, .pointer (some ⟨gw, 0, none⟩)] w fun r w' => r = .returned (.int .i64 (upF y x)) ∧ Below w.heap.size w w' := by
  have hr := upF_range hx hy.1 hy.2
  obtain ⟨c, t, d, j⟩ := x
  show Calls Try.prog 60 #[.agg #[.int .i64 c, .int .i64 t, .int .i64 d, .int .i64 j], _] w _
  obtain ⟨g1, g2, g3, g4, g5, g6, g7, g8⟩ := hx
  dsimp only at g1 g2 g3 g4 g5 g6 g7 g8
  unfold upF at hr ⊢
  dsimp only at hr ⊢
  have l1 : gw < w.heap.size := World.block_lt_of_cell? _ _ hw
  have e1 : IntKind.i64.wrap (y + j) = y + j := by rw [IntKind.wrap_i64]; omega
  have e2 : IntKind.i64.wrap ((y + j + t - 1) / t * c) = (y + j + t - 1) / t * c := by rw [IntKind.wrap_i64]; omega
  have HQ := fun W => roundUp_q W (y + j) t (by omega) (by omega) (by omega) (by omega)
  clear hr
  go_enter Try.func60, Try.ntmps60
  go_wp2_with fail
  go_quiet (first | (go_at_call 61; exact Calls.quiet_of (HQ _)))
  go_wp2_with fail
  go_ret
  exact ⟨rfl, below_seq (below_new _ _) below_drewN'⟩

set_option maxRecDepth 20000 in
set_option maxHeartbeats 1000000 in
theorem wdn_any (w : World) (x : Fr) (gw : Nat) (y : Int) (hx : okFr x) (hy : 0 ≤ y ∧ y ≤ 100000) (hw : w.cell? ⟨gw, 0, none⟩ = some (.int .i64 y)) : Calls Try.prog 63 #[x.val, .pointer (some ⟨gw, 0, none⟩)] w fun r w' => r = .returned (.int .i64 (dnF y x)) ∧ Below w.heap.size w w' := by
  have hr := dnF_range hx hy.1 hy.2
  obtain ⟨c, t, d, j⟩ := x
  show Calls Try.prog 63 #[.agg #[.int .i64 c, .int .i64 t, .int .i64 d, .int .i64 j], _] w _
  obtain ⟨g1, g2, g3, g4, g5, g6, g7, g8⟩ := hx
  dsimp only at g1 g2 g3 g4 g5 g6 g7 g8
  unfold dnF at hr ⊢
  dsimp only at hr ⊢
  have l1 : gw < w.heap.size := World.block_lt_of_cell? _ _ hw
  have e1 : IntKind.i64.wrap (y + j) = y + j := by rw [IntKind.wrap_i64]; omega
  have q0 : 0 ≤ (y + j) / t := Int.ediv_nonneg (by omega) (by omega)
  have q1 : (y + j) / t ≤ y + j := Int.ediv_le_self t (by omega)
  have e5 : (y + j).tdiv t = (y + j) / t := Int.tdiv_eq_ediv_of_nonneg (by omega)
  have e3 : IntKind.i64.wrap ((y + j) / t) = (y + j) / t := by rw [IntKind.wrap_i64]; omega
  have e4 : IntKind.i64.wrap ((y + j) / t + 1) = (y + j) / t + 1 := by rw [IntKind.wrap_i64]; omega
  have e2 : IntKind.i64.wrap (((y + j) / t + 1) * c) = ((y + j) / t + 1) * c := by rw [IntKind.wrap_i64]; omega
  have hb : (t == 0) = false := by simp; omega
  have hb' : ¬ t = 0 := by omega
  clear hr
  go_enter Try.func63, Try.ntmps63
  go_wp2_with fail
  go_quiet (fail)
  go_wp2_with fail
  go_ret
  exact ⟨rfl, below_seq (below_new _ _) below_drewN'⟩

set_option maxRecDepth 20000 in
set_option maxHeartbeats 1000000 in
theorem sum_up_any (w : World) (l : List Fr) (v : Value) (gw : Nat) (y : Int) (hl : l.length ≤ 8) (hok : ∀ x ∈ l, okFr x) (hy : 0 ≤ y ∧ y ≤ 100000) (hv : RowSl Fr.vals w l v) (hw : w.cell? ⟨gw, 0, none⟩ = some (.int .i64 y)) : Calls Try.prog 59 #[v, .func (Fn.func 60) #[] #[.pointer (some ⟨gw, 0, none⟩)]] w fun r w' => r = .returned (.int .i64 (sumF upF y l)) ∧ Below w.heap.size w w' := by
  obtain ⟨ad, c, rfl, -, hcap, hrow⟩ := hv
  have HR : Hid ((l = [] ∨ ∃ b o, ad = some ⟨b, o, none⟩ ∧ ∀ q u, (l.flatMap Fr.vals)[q]? = some u → w.cell? ⟨b, o + q, none⟩ = some u) ∧ ∀ x ∈ l, okFr x) := ⟨hrow, hok⟩
  have HW : Hid (w.cell? ⟨gw, 0, none⟩ = some (.int .i64 y)) := hw
  clear hrow hok hw
  go_enter Try.func59, Try.ntmps59
  go_wp2_with fail
  go_loopw [5, 10] (fun mv i wr => ∃ (j : Nat) (mm : Int), j ≤ l.length ∧ i = .int .i64 j ∧ mv = .int .i64 mm ∧ Below w.heap.size w wr ∧ 0 ≤ mm ∧ mm ≤ (j : Int) * 3000000000 ∧ Hid (mm + sumF upF y (l.drop j) = sumF upF y l)) (fun _ i _ => l.length - (intOf i).toNat)
  case atStart => exact ⟨0, 0, Nat.zero_le _, rfl, rfl, Below.refl _ _, by omega, by omega, by show 0 + sumF upF y l = _; omega⟩
  case round =>
    obtain ⟨j, mm, hj, rfl, rfl, hb, h1, h2, HM⟩ := hrel
    by_cases hjl : j < l.length
    · obtain ⟨x, hx, hd⟩ := drop_at hjl
      rcases HR.out.1 with h | ⟨gb, go, rfl, hr1⟩
      · rw [h] at hjl; simp at hjl
      obtain ⟨y0, y1, y2, y3⟩ := fr_at (fun q u hq => below_cell hb (hr1 q u hq)) hx
      have hxo := HR.out.2 x (List.mem_of_getElem? hx)
      have hf := upF_range hxo hy.1 hy.2
      have HF := fun W (h : Below w.heap.size w W) => wup_any W x gw y hxo hy (below_cell h HW.out)
      have HD : Hid (sumF upF y (l.drop j) = upF y x + sumF upF y (l.drop (j + 1))) := by rw [hd]; rfl
      obtain ⟨xc, xt, xd, xj⟩ := x
      dsimp only at y0 y1 y2 y3
      simp only [Fr.val] at HF
      have HB : Hid (Below w.heap.size w wr) := hb
      have HFH : Hid (∀ W, Below w.heap.size w W → Calls Try.prog 60 #[.agg #[.int .i64 xc, .int .i64 xt, .int .i64 xd, .int .i64 xj], .pointer (some ⟨gw, 0, none⟩)] W fun r w' => r = .returned (.int .i64 (upF y ⟨xc, xt, xd, xj⟩)) ∧ Below W.heap.size W w') := HF
      clear hxo hd hx hr1 hb HF
      generalize upF y ⟨xc, xt, xd, xj⟩ = z at *
      have e1 : IntKind.i64.wrap (mm + z) = mm + z := by rw [IntKind.wrap_i64]; omega
      go_wp2_with (go_at_call 60; refine (HFH.out _ (below_seq HB.out (below_new _ _))).mono ?_; rintro r w2 ⟨rfl, hb2⟩; have H2 : Hid (Below w.heap.size w w2) := below_seq (below_seq HB.out (below_new _ _)) hb2; clear hb2)
      refine ⟨⟨j + 1, mm + z, by omega, by simp, rfl, H2.out, by omega, by omega, ?_⟩, by simp [intOf]; omega⟩
      have e : mm + z + sumF upF y (l.drop (j + 1)) = sumF upF y l := by
        rw [← HM.out, HD.out]; omega
      exact e
    · have hje : j = l.length := by omega
      subst hje
      go_wp2_with fail
      go_ret
      refine ⟨?_, hb⟩
      have := HM.out
      rw [List.drop_length] at this
      have e : mm = sumF upF y l := by rw [← this]; simp only [sumF]; omega
      rw [e]
      rfl

set_option maxRecDepth 20000 in
set_option maxHeartbeats 1000000 in
theorem sum_dn_any (w : World) (l : List Fr) (v : Value) (gw : Nat) (y : Int) (hl : l.length ≤ 8) (hok : ∀ x ∈ l, okFr x) (hy : 0 ≤ y ∧ y ≤ 100000) (hv : RowSl Fr.vals w l v) (hw : w.cell? ⟨gw, 0, none⟩ = some (.int .i64 y)) : Calls Try.prog 59 #[v, .func (Fn.func 63) #[] #[.pointer (some ⟨gw, 0, none⟩)]] w fun r w' => r = .returned (.int .i64 (sumF dnF y l)) ∧ Below w.heap.size w w' := by
  obtain ⟨ad, c, rfl, -, hcap, hrow⟩ := hv
  have HR : Hid ((l = [] ∨ ∃ b o, ad = some ⟨b, o, none⟩ ∧ ∀ q u, (l.flatMap Fr.vals)[q]? = some u → w.cell? ⟨b, o + q, none⟩ = some u) ∧ ∀ x ∈ l, okFr x) := ⟨hrow, hok⟩
  have HW : Hid (w.cell? ⟨gw, 0, none⟩ = some (.int .i64 y)) := hw
  clear hrow hok hw
  go_enter Try.func59, Try.ntmps59
  go_wp2_with fail
  go_loopw [5, 10] (fun mv i wr => ∃ (j : Nat) (mm : Int), j ≤ l.length ∧ i = .int .i64 j ∧ mv = .int .i64 mm ∧ Below w.heap.size w wr ∧ 0 ≤ mm ∧ mm ≤ (j : Int) * 3000000000 ∧ Hid (mm + sumF dnF y (l.drop j) = sumF dnF y l)) (fun _ i _ => l.length - (intOf i).toNat)
  case atStart => exact ⟨0, 0, Nat.zero_le _, rfl, rfl, Below.refl _ _, by omega, by omega, by show 0 + sumF dnF y l = _; omega⟩
  case round =>
    obtain ⟨j, mm, hj, rfl, rfl, hb, h1, h2, HM⟩ := hrel
    by_cases hjl : j < l.length
    · obtain ⟨x, hx, hd⟩ := drop_at hjl
      rcases HR.out.1 with h | ⟨gb, go, rfl, hr1⟩
      · rw [h] at hjl; simp at hjl
      obtain ⟨y0, y1, y2, y3⟩ := fr_at (fun q u hq => below_cell hb (hr1 q u hq)) hx
      have hxo := HR.out.2 x (List.mem_of_getElem? hx)
      have hf := dnF_range hxo hy.1 hy.2
      have HF := fun W (h : Below w.heap.size w W) => wdn_any W x gw y hxo hy (below_cell h HW.out)
      have HD : Hid (sumF dnF y (l.drop j) = dnF y x + sumF dnF y (l.drop (j + 1))) := by rw [hd]; rfl
      obtain ⟨xc, xt, xd, xj⟩ := x
      dsimp only at y0 y1 y2 y3
      simp only [Fr.val] at HF
      have HB : Hid (Below w.heap.size w wr) := hb
      have HFH : Hid (∀ W, Below w.heap.size w W → Calls Try.prog 63 #[.agg #[.int .i64 xc, .int .i64 xt, .int .i64 xd, .int .i64 xj], .pointer (some ⟨gw, 0, none⟩)] W fun r w' => r = .returned (.int .i64 (dnF y ⟨xc, xt, xd, xj⟩)) ∧ Below W.heap.size W w') := HF
      clear hxo hd hx hr1 hb HF
      generalize dnF y ⟨xc, xt, xd, xj⟩ = z at *
      have e1 : IntKind.i64.wrap (mm + z) = mm + z := by rw [IntKind.wrap_i64]; omega
      go_wp2_with (go_at_call 63; refine (HFH.out _ (below_seq HB.out (below_new _ _))).mono ?_; rintro r w2 ⟨rfl, hb2⟩; have H2 : Hid (Below w.heap.size w w2) := below_seq (below_seq HB.out (below_new _ _)) hb2; clear hb2)
      refine ⟨⟨j + 1, mm + z, by omega, by simp, rfl, H2.out, by omega, by omega, ?_⟩, by simp [intOf]; omega⟩
      have e : mm + z + sumF dnF y (l.drop (j + 1)) = sumF dnF y l := by
        rw [← HM.out, HD.out]; omega
      exact e
    · have hje : j = l.length := by omega
      subst hje
      go_wp2_with fail
      go_ret
      refine ⟨?_, hb⟩
      have := HM.out
      rw [List.drop_length] at this
      have e : mm = sumF dnF y l := by rw [← this]; simp only [sumF]; omega
      rw [e]
      rfl
end Go.Proofs.Ytccoobcggbbciam
