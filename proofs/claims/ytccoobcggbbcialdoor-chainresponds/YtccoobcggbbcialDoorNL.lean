import Derived.Test.YtccoobcggbbcialDoorNH
namespace Go.Proofs.YtccoobcggbbcialDoor
open Go.ChangeShapes Go.WideShapes Go.ChangeAt Go.RowKit

theorem upN_any (w : World) (a b : Int) (h0 : 0 ≤ a) (h1 : a ≤ 1000000) (h2 : 1 ≤ b) (h3 : b ≤ 10000) : Calls Tryd.prog 44 #[.int .i64 a, .int .i64 b] w fun r w' => r = .returned (.int .i64 ((a + b - 1) / b)) ∧ w' = w := by
  rw [← up_eq' (a := a) (b := b) (by omega)]
  have e := Int.mul_ediv_add_emod a b
  have e1 := Int.emod_nonneg a (show b ≠ 0 by omega)
  have q0 : 0 ≤ a / b := Int.ediv_nonneg h0 (by omega)
  have q1 : a / b ≤ a := Int.ediv_le_self b h0
  have e5 : a.tdiv b = a / b := Int.tdiv_eq_ediv_of_nonneg h0
  rw [Int.mul_comm] at e
  have e6 : IntKind.i64.wrap (a / b) = a / b := by rw [IntKind.wrap_i64]; omega
  have e7 : IntKind.i64.wrap (a / b * b) = a / b * b := by rw [IntKind.wrap_i64]; have : 0 ≤ a / b * b := Int.mul_nonneg q0 (by omega); omega
  have e8 : IntKind.i64.wrap (a / b + 1) = a / b + 1 := by rw [IntKind.wrap_i64]; omega
  have hb : (b == 0) = false := by simp; omega
  have hb' : ¬ b = 0 := by omega
  by_cases hlt : a / b * b < a
  · rw [if_pos hlt]
    clear e
    go_enter Tryd.func44, Tryd.ntmps44
    go_wp2_with fail
    go_ret
    exact ⟨rfl, rfl⟩
  · rw [if_neg hlt]
    clear e
    go_enter Tryd.func44, Tryd.ntmps44
    go_wp2_with fail
    go_ret
    exact ⟨rfl, rfl⟩
set_option maxRecDepth 20000 in
set_option maxHeartbeats 1000000 in
theorem growU_any (w : World) (g0 g1 g2 : Nat) (ask : Int → Int) (a : Int) (HA : ∀ W, Below w.heap.size w W → ∀ y, 0 ≤ y → y ≤ 100000 → Calls Tryd.prog 96 #[.int .i64 y, .pointer (some ⟨g0, 0, none⟩), .pointer (some ⟨g1, 0, none⟩), .pointer (some ⟨g2, 0, none⟩)] W fun r w' => r = .returned (.int .i64 (ask y)) ∧ Below W.heap.size W w') (hm : Mo ask a) (ha : 0 ≤ a) (ha2 : a ≤ 1000000000000) (hst : a ≤ ask a) (hbig : ∀ y, a ≤ y → y ≤ 100000 → ask y ≤ 1000000000000) :
    Calls Tryd.prog 95 #[.int .i64 a, .func (Fn.func 96) #[] #[.pointer (some ⟨g0, 0, none⟩), .pointer (some ⟨g1, 0, none⟩), .pointer (some ⟨g2, 0, none⟩)]] w fun r w' => ∃ x, Fx ask a x ∧ r = .returned (.int .i64 (x.getD (-1))) ∧ Below w.heap.size w w' := by
  have HAH : Hid (∀ W, Below w.heap.size w W → ∀ y, 0 ≤ y → y ≤ 100000 → Calls Tryd.prog 96 #[.int .i64 y, .pointer (some ⟨g0, 0, none⟩), .pointer (some ⟨g1, 0, none⟩), .pointer (some ⟨g2, 0, none⟩)] W fun r w' => r = .returned (.int .i64 (ask y)) ∧ Below W.heap.size W w') := HA
  have HM : Hid (Mo ask a ∧ a ≤ ask a ∧ ∀ y, a ≤ y → y ≤ 100000 → ask y ≤ 1000000000000) := ⟨hm, hst, hbig⟩
  clear HA hm hst hbig
  go_enter Tryd.func95, Tryd.ntmps95
  go_wp2_with fail
  go_loopw [5] (fun wv wr => ∃ y : Int, wv = .int .i64 y ∧ Below w.heap.size w wr ∧ a ≤ y ∧ y ≤ 1000000000000 ∧ Hid (y ≤ ask y ∧ ∀ v, a ≤ v → v < y → ask v ≠ v)) (fun wv _ => (100001 - intOf wv).toNat)
  case atStart => exact ⟨a, rfl, Below.refl _ _, by omega, ha2, ⟨HM.out.2.1, fun v h1 h2 => by omega⟩⟩
  case round =>
    obtain ⟨y, rfl, hb, h1, h2, HX⟩ := hrel
    by_cases hle : y ≤ 100000
    · have HB : Hid (Below w.heap.size w wr) := hb
      clear hb
      have hby := HM.out.2.2 y h1 hle
      have hyn := HX.out.1
      have HZ : Hid (∀ z, ask y = z → z ≠ y → a ≤ z ∧ z ≤ ask z ∧ ∀ v, a ≤ v → v < z → ask v ≠ v) := fun z hz _ => hz ▸ HM.out.1.step h1 hyn HX.out.2
      have hCall := fun W hW => HAH.out W hW y (by omega) hle
      obtain ⟨z, hz⟩ : ∃ z, ask y = z := ⟨_, rfl⟩
      rw [hz] at hby hyn hCall
      have H3 : Hid (ask y = z) := hz
      clear hz
      have HC : Hid (∀ W, Below w.heap.size w W → Calls Tryd.prog 96 #[.int .i64 y, .pointer (some ⟨g0, 0, none⟩), .pointer (some ⟨g1, 0, none⟩), .pointer (some ⟨g2, 0, none⟩)] W fun r w' => r = .returned (.int .i64 z) ∧ Below W.heap.size W w') := hCall
      clear hCall
      by_cases he : z = y
      · subst he
        go_wp2_with (go_at_call 96; refine (HC.out _ HB.out).mono ?_; rintro r w2 ⟨rfl, hb2⟩; have H2 : Hid (Below w.heap.size w w2) := below_seq HB.out hb2; clear hb2)
        go_ret
        exact ⟨some z, ⟨h1, hle, H3.out, HX.out.2⟩, rfl, H2.out⟩
      · have he' : (z == y) = false := beq_eq_false_iff_ne.2 he
        go_wp2_with (go_at_call 96; refine (HC.out _ HB.out).mono ?_; rintro r w2 ⟨rfl, hb2⟩; have H2 : Hid (Below w.heap.size w w2) := below_seq HB.out hb2; clear hb2)
        have hs := HZ.out z H3.out he
        exact ⟨⟨z, rfl, H2.out, hs.1, hby, hs.2⟩, by simp [intOf]; omega⟩
    · go_wp2_with fail
      go_ret
      exact ⟨none, fun v hv1 hv2 => HX.out.2 v hv1 (by omega), rfl, hb⟩

set_option maxRecDepth 20000 in
set_option maxHeartbeats 1000000 in
theorem growQ_any (w : World) (g0 g1 g2 g3 g4 : Nat) (ask : Int → Int) (a : Int) (HA : ∀ W, Below w.heap.size w W → ∀ y, 0 ≤ y → y ≤ 100000 → Calls Tryd.prog 97 #[.int .i64 y, .pointer (some ⟨g0, 0, none⟩), .pointer (some ⟨g1, 0, none⟩), .pointer (some ⟨g2, 0, none⟩), .pointer (some ⟨g3, 0, none⟩), .pointer (some ⟨g4, 0, none⟩)] W fun r w' => r = .returned (.int .i64 (ask y)) ∧ Below W.heap.size W w') (hm : Mo ask a) (ha : 0 ≤ a) (ha2 : a ≤ 1000000000000) (hst : a ≤ ask a) (hbig : ∀ y, a ≤ y → y ≤ 100000 → ask y ≤ 1000000000000) :
    Calls Tryd.prog 95 #[.int .i64 a, .func (Fn.func 97) #[] #[.pointer (some ⟨g0, 0, none⟩), .pointer (some ⟨g1, 0, none⟩), .pointer (some ⟨g2, 0, none⟩), .pointer (some ⟨g3, 0, none⟩), .pointer (some ⟨g4, 0, none⟩)]] w fun r w' => ∃ x, Fx ask a x ∧ r = .returned (.int .i64 (x.getD (-1))) ∧ Below w.heap.size w w' := by
  have HAH : Hid (∀ W, Below w.heap.size w W → ∀ y, 0 ≤ y → y ≤ 100000 → Calls Tryd.prog 97 #[.int .i64 y, .pointer (some ⟨g0, 0, none⟩), .pointer (some ⟨g1, 0, none⟩), .pointer (some ⟨g2, 0, none⟩), .pointer (some ⟨g3, 0, none⟩), .pointer (some ⟨g4, 0, none⟩)] W fun r w' => r = .returned (.int .i64 (ask y)) ∧ Below W.heap.size W w') := HA
  have HM : Hid (Mo ask a ∧ a ≤ ask a ∧ ∀ y, a ≤ y → y ≤ 100000 → ask y ≤ 1000000000000) := ⟨hm, hst, hbig⟩
  clear HA hm hst hbig
  go_enter Tryd.func95, Tryd.ntmps95
  go_wp2_with fail
  go_loopw [5] (fun wv wr => ∃ y : Int, wv = .int .i64 y ∧ Below w.heap.size w wr ∧ a ≤ y ∧ y ≤ 1000000000000 ∧ Hid (y ≤ ask y ∧ ∀ v, a ≤ v → v < y → ask v ≠ v)) (fun wv _ => (100001 - intOf wv).toNat)
  case atStart => exact ⟨a, rfl, Below.refl _ _, by omega, ha2, ⟨HM.out.2.1, fun v h1 h2 => by omega⟩⟩
  case round =>
    obtain ⟨y, rfl, hb, h1, h2, HX⟩ := hrel
    by_cases hle : y ≤ 100000
    · have HB : Hid (Below w.heap.size w wr) := hb
      clear hb
      have hby := HM.out.2.2 y h1 hle
      have hyn := HX.out.1
      have HZ : Hid (∀ z, ask y = z → z ≠ y → a ≤ z ∧ z ≤ ask z ∧ ∀ v, a ≤ v → v < z → ask v ≠ v) := fun z hz _ => hz ▸ HM.out.1.step h1 hyn HX.out.2
      have hCall := fun W hW => HAH.out W hW y (by omega) hle
      obtain ⟨z, hz⟩ : ∃ z, ask y = z := ⟨_, rfl⟩
      rw [hz] at hby hyn hCall
      have H3 : Hid (ask y = z) := hz
      clear hz
      have HC : Hid (∀ W, Below w.heap.size w W → Calls Tryd.prog 97 #[.int .i64 y, .pointer (some ⟨g0, 0, none⟩), .pointer (some ⟨g1, 0, none⟩), .pointer (some ⟨g2, 0, none⟩), .pointer (some ⟨g3, 0, none⟩), .pointer (some ⟨g4, 0, none⟩)] W fun r w' => r = .returned (.int .i64 z) ∧ Below W.heap.size W w') := hCall
      clear hCall
      by_cases he : z = y
      · subst he
        go_wp2_with (go_at_call 97; refine (HC.out _ HB.out).mono ?_; rintro r w2 ⟨rfl, hb2⟩; have H2 : Hid (Below w.heap.size w w2) := below_seq HB.out hb2; clear hb2)
        go_ret
        exact ⟨some z, ⟨h1, hle, H3.out, HX.out.2⟩, rfl, H2.out⟩
      · have he' : (z == y) = false := beq_eq_false_iff_ne.2 he
        go_wp2_with (go_at_call 97; refine (HC.out _ HB.out).mono ?_; rintro r w2 ⟨rfl, hb2⟩; have H2 : Hid (Below w.heap.size w w2) := below_seq HB.out hb2; clear hb2)
        have hs := HZ.out z H3.out he
        exact ⟨⟨z, rfl, H2.out, hs.1, hby, hs.2⟩, by simp [intOf]; omega⟩
    · go_wp2_with fail
      go_ret
      exact ⟨none, fun v hv1 hv2 => HX.out.2 v hv1 (by omega), rfl, hb⟩

end Go.Proofs.YtccoobcggbbcialDoor
namespace Go.Proofs.YtccoobcggbbcialDoor
open Go.ChangeShapes Go.WideShapes Go.ChangeAt Go.RowKit

theorem upN_q (w : World) (a b : Int) (h0 : 0 ≤ a) (h1 : a ≤ 1000000) (h2 : 1 ≤ b) (h3 : b ≤ 10000) : Calls Tryd.prog 44 #[.int .i64 a, .int .i64 b] w fun r w' => r = .returned (.int .i64 ((a + b - 1) / b)) ∧ ∃ n, w' = w.drewN n :=
  (upN_any w a b h0 h1 h2 h3).mono (by rintro r w' ⟨rfl, rfl⟩; exact ⟨rfl, 0, rfl⟩)

set_option maxRecDepth 20000 in
set_option maxHeartbeats 1000000 in
theorem d1_any (w : World) (l : List Fr) (ab ao c : Nat) (m : Fr) (gb gi gl i : Nat) (b y : Int) (hl8 : l.length ≤ 8) (hok : ∀ x ∈ l, okFr x) (hm : l[i]? = some m) (hb : 0 ≤ b ∧ b ≤ 9999) (hy : 0 ≤ y ∧ y ≤ 100000) (hv : ∀ q u, (l.flatMap Fr.vals)[q]? = some u → w.cell? ⟨ab, ao + q, none⟩ = some u) (c1 : w.cell? ⟨gb, 0, none⟩ = some (.int .i64 b)) (c2 : w.cell? ⟨gi, 0, none⟩ = some (.int .i64 (i : Int))) (c3 : w.cell? ⟨gl, 0, none⟩ = some (.slice (some ⟨ab, ao, none⟩) l.length c)) :
    Calls Tryd.prog 96 #[.int .i64 y, .pointer (some ⟨gb, 0, none⟩), .pointer (some ⟨gi, 0, none⟩), .pointer (some ⟨gl, 0, none⟩)] w fun r w' => r = .returned (.int .i64 (busyAsk b (l.take i) m y)) ∧ Below w.heap.size w w' := by
  have hi : i < l.length := (List.getElem?_eq_some_iff.1 hm).1
  have HV : Hid ((∀ q u, (l.flatMap Fr.vals)[q]? = some u → w.cell? ⟨ab, ao + q, none⟩ = some u) ∧ (∀ x ∈ l, okFr x) ∧ l[i]? = some m) := ⟨hv, hok, hm⟩
  unfold busyAsk
  have HC : Hid (_ ∧ _ ∧ _) := ⟨c1, c2, c3⟩
  clear hv hok hm
  go_enter Tryd.func96, Tryd.ntmps96
  go_wp2_with fail
  go_loopw [6, 7] (fun sv i4 wr => ∃ (k : Nat) (s : Int), k ≤ i + 1 ∧ i4 = .int .i64 k ∧ sv = .int .i64 s ∧ Below w.heap.size w wr ∧ 0 ≤ s ∧ s ≤ 3000000000 + (k : Int) * 3000000000 ∧ Hid (s = b + sumF upF y (l.take k))) (fun _ i4 _ => i + 1 - (intOf i4).toNat)
  case atStart => exact ⟨0, b, Nat.zero_le _, rfl, rfl, Below.refl _ _, by omega, by omega, by show b = b + sumF upF y []; simp only [sumF]; omega⟩
  case round =>
    obtain ⟨k, s, hk, rfl, rfl, hbw, hs0, hs1, HS⟩ := hrel
    have d2 := below_cell hbw c2
    have d3 := below_cell hbw c3
    by_cases hlt : k < i + 1
    · have hkl : k < l.length := by omega
      obtain ⟨x, hx, -⟩ := drop_at hkl
      obtain ⟨y0, y1, y2, y3⟩ := fr_at (fun q u hq => below_cell hbw (HV.out.1 q u hq)) hx
      have hxo := HV.out.2.1 x (List.mem_of_getElem? hx)
      have hf := upF_range hxo hy.1 hy.2
      have HT : Hid (sumF upF y (l.take (k + 1)) = sumF upF y (l.take k) + upF y x) := by
        have e : sumF upF y (l.take (k + 1)) = sumF upF y (l.take k) + upF y x := by rw [take_snoc hx, sumF_append]; simp only [sumF]; omega
        exact e
      obtain ⟨xc, xt, xd, xj⟩ := x
      obtain ⟨g1, g2, g3, g4, g5, g6, g7, g8⟩ := hxo
      dsimp only at y0 y1 y2 y3 g1 g2 g3 g4 g5 g6 g7 g8
      have hki : (k : Int) < (l.length : Int) := by omega
      have hkt : (k : Int) ≤ (i : Int) := by omega
      have hk8 : (k : Int) < 9 := by omega
      have e1 : IntKind.i64.wrap (y + xj) = y + xj := by rw [IntKind.wrap_i64]; omega
      have q0 : 0 ≤ (y + xj + xt - 1) / xt := Int.ediv_nonneg (by omega) (by omega)
      have e2 : IntKind.i64.wrap ((y + xj + xt - 1) / xt * xc) = (y + xj + xt - 1) / xt * xc := by rw [IntKind.wrap_i64]; have h1 := hf.1; have h2 := hf.2; unfold upF at h1 h2; dsimp only at h1 h2; omega
      have e3 : IntKind.i64.wrap (s + (y + xj + xt - 1) / xt * xc) = s + (y + xj + xt - 1) / xt * xc := by rw [IntKind.wrap_i64]; have h1 := hf.1; have h2 := hf.2; unfold upF at h1 h2; dsimp only at h1 h2; omega
      have HQ := fun W => upN_q W (y + xj) xt (by omega) (by omega) (by omega) (by omega)
      have HB : Hid (Below w.heap.size w wr) := hbw
      clear hx hbw
      go_wp2_with fail
      go_quiet (first | (go_at_call 44; exact Calls.quiet_of (HQ _)))
      go_wp2_with fail
      refine ⟨⟨k + 1, s + (y + xj + xt - 1) / xt * xc, by omega, by simp, rfl, below_seq HB.out below_drewN', ?_, ?_, ?_⟩, by simp [intOf]; omega⟩
      · have h1 := hf.1; unfold upF at h1; dsimp only at h1; omega
      · have h2 := hf.2; unfold upF at h2; dsimp only at h2; omega
      · have e : s + (y + xj + xt - 1) / xt * xc = b + sumF upF y (l.take (k + 1)) := by
          rw [HT.out, HS.out]; unfold upF; dsimp only; omega
        exact e
    · have hke : k = i + 1 := by omega
      subst hke
      have hkt : ¬ ((i + 1 : Nat) : Int) ≤ (i : Int) := by omega
      go_wp2_with fail
      go_ret
      refine ⟨?_, hbw⟩
      rw [HS.out, take_snoc HV.out.2.2]
      rfl

set_option maxRecDepth 20000 in
set_option maxHeartbeats 1000000 in
theorem d2_any (w : World) (l : List Fr) (ab ao c : Nat) (m : Fr) (gb gq gm gi gl i q : Nat) (b y : Int) (hl8 : l.length ≤ 8) (hok : ∀ x ∈ l, okFr x) (hm : l[i]? = some m) (hb : 0 ≤ b ∧ b ≤ 9999) (hy : 0 ≤ y ∧ y ≤ 100000) (hv : ∀ q u, (l.flatMap Fr.vals)[q]? = some u → w.cell? ⟨ab, ao + q, none⟩ = some u) (hq : q ≤ 200000) (c1 : w.cell? ⟨gb, 0, none⟩ = some (.int .i64 b)) (c4 : w.cell? ⟨gq, 0, none⟩ = some (.int .i64 (q : Int))) (c5 : w.cell? ⟨gm, 0, none⟩ = some (.int .i64 m.c)) (c2 : w.cell? ⟨gi, 0, none⟩ = some (.int .i64 (i : Int))) (c3 : w.cell? ⟨gl, 0, none⟩ = some (.slice (some ⟨ab, ao, none⟩) l.length c)) :
    Calls Tryd.prog 97 #[.int .i64 y, .pointer (some ⟨gb, 0, none⟩), .pointer (some ⟨gq, 0, none⟩), .pointer (some ⟨gm, 0, none⟩), .pointer (some ⟨gi, 0, none⟩), .pointer (some ⟨gl, 0, none⟩)] w fun r w' => r = .returned (.int .i64 (qAsk b (l.take i) m (q : Int) y)) ∧ Below w.heap.size w w' := by
  have hi : i < l.length := (List.getElem?_eq_some_iff.1 hm).1
  have HV : Hid ((∀ q u, (l.flatMap Fr.vals)[q]? = some u → w.cell? ⟨ab, ao + q, none⟩ = some u) ∧ (∀ x ∈ l, okFr x) ∧ l[i]? = some m) := ⟨hv, hok, hm⟩
  unfold qAsk
  have hmc : 1 ≤ m.c ∧ m.c ≤ 10000 := ⟨(hok m (List.mem_of_getElem? hm)).1, (hok m (List.mem_of_getElem? hm)).2.1⟩
  generalize m.c = mc at *
  have hqc0 : 0 ≤ (q : Int) * mc := Int.mul_nonneg (by omega) (by omega)
  have hqc1 : (q : Int) * mc ≤ 2000000000 := by
    have := Int.mul_le_mul (show (q : Int) ≤ 200000 by omega) hmc.2 (by omega) (by omega)
    omega
  have i2 : IntKind.i64.wrap ((q : Int) * mc) = (q : Int) * mc := by rw [IntKind.wrap_i64]; omega
  have i3 : IntKind.i64.wrap (b + (q : Int) * mc) = b + (q : Int) * mc := by rw [IntKind.wrap_i64]; omega
  have HC : Hid (_ ∧ _ ∧ _ ∧ _ ∧ _) := ⟨c1, c4, c5, c2, c3⟩
  clear hv hok hm
  go_enter Tryd.func97, Tryd.ntmps97
  go_wp2_with fail
  go_loopw [8, 9] (fun sv i4 wr => ∃ (k : Nat) (s : Int), k ≤ i ∧ i4 = .int .i64 k ∧ sv = .int .i64 s ∧ Below w.heap.size w wr ∧ 0 ≤ s ∧ s ≤ 3000000000 + (k : Int) * 3000000000 ∧ Hid (s = b + (q : Int) * mc + sumF dnF y (l.take k))) (fun _ i4 _ => i - (intOf i4).toNat)
  case atStart => exact ⟨0, b + (q : Int) * mc, Nat.zero_le _, rfl, rfl, Below.refl _ _, by omega, by omega, by show b + (q : Int) * mc = b + (q : Int) * mc + sumF dnF y []; simp only [sumF]; omega⟩
  case round =>
    obtain ⟨k, s, hk, rfl, rfl, hbw, hs0, hs1, HS⟩ := hrel
    have d2 := below_cell hbw c2
    have d3 := below_cell hbw c3
    by_cases hlt : k < i
    · have hkl : k < l.length := by omega
      obtain ⟨x, hx, -⟩ := drop_at hkl
      obtain ⟨y0, y1, y2, y3⟩ := fr_at (fun q u hq => below_cell hbw (HV.out.1 q u hq)) hx
      have hxo := HV.out.2.1 x (List.mem_of_getElem? hx)
      have hf := dnF_range hxo hy.1 hy.2
      have HT : Hid (sumF dnF y (l.take (k + 1)) = sumF dnF y (l.take k) + dnF y x) := by
        have e : sumF dnF y (l.take (k + 1)) = sumF dnF y (l.take k) + dnF y x := by rw [take_snoc hx, sumF_append]; simp only [sumF]; omega
        exact e
      obtain ⟨xc, xt, xd, xj⟩ := x
      obtain ⟨g1, g2, g3, g4, g5, g6, g7, g8⟩ := hxo
      dsimp only at y0 y1 y2 y3 g1 g2 g3 g4 g5 g6 g7 g8
      have hki : (k : Int) < (l.length : Int) := by omega
      have hkt : (k : Int) < (i : Int) := by omega
      have hk8 : (k : Int) < 9 := by omega
      have e1 : IntKind.i64.wrap (y + xj) = y + xj := by rw [IntKind.wrap_i64]; omega
      have q0 : 0 ≤ (y + xj) / xt := Int.ediv_nonneg (by omega) (by omega)
      have q1 : (y + xj) / xt ≤ y + xj := Int.ediv_le_self xt (by omega)
      have e5 : (y + xj).tdiv xt = (y + xj) / xt := Int.tdiv_eq_ediv_of_nonneg (by omega)
      have e6 : IntKind.i64.wrap ((y + xj) / xt) = (y + xj) / xt := by rw [IntKind.wrap_i64]; omega
      have e4 : IntKind.i64.wrap ((y + xj) / xt + 1) = (y + xj) / xt + 1 := by rw [IntKind.wrap_i64]; omega
      have hb1 : (xt == 0) = false := by simp; omega
      have hb2 : ¬ xt = 0 := by omega
      have e2 : IntKind.i64.wrap (((y + xj) / xt + 1) * xc) = ((y + xj) / xt + 1) * xc := by rw [IntKind.wrap_i64]; have h1 := hf.1; have h2 := hf.2; unfold dnF at h1 h2; dsimp only at h1 h2; omega
      have e3 : IntKind.i64.wrap (s + ((y + xj) / xt + 1) * xc) = s + ((y + xj) / xt + 1) * xc := by rw [IntKind.wrap_i64]; have h1 := hf.1; have h2 := hf.2; unfold dnF at h1 h2; dsimp only at h1 h2; omega
      have HB : Hid (Below w.heap.size w wr) := hbw
      clear hx hbw
      go_wp2_with fail
      go_quiet (fail)
      go_wp2_with fail
      refine ⟨⟨k + 1, s + ((y + xj) / xt + 1) * xc, by omega, by simp, rfl, below_seq HB.out below_drewN', ?_, ?_, ?_⟩, by simp [intOf]; omega⟩
      · have h1 := hf.1; unfold dnF at h1; dsimp only at h1; omega
      · have h2 := hf.2; unfold dnF at h2; dsimp only at h2; omega
      · have e : s + ((y + xj) / xt + 1) * xc = b + (q : Int) * mc + sumF dnF y (l.take (k + 1)) := by
          rw [HT.out, HS.out]; unfold dnF; dsimp only; omega
        exact e
    · have hke : k = i := by omega
      subst hke
      have hkt : ¬ (k : Int) < (k : Int) := by omega
      go_wp2_with fail
      go_ret
      refine ⟨?_, hbw⟩
      rw [HS.out]
      rfl

end Go.Proofs.YtccoobcggbbcialDoor
