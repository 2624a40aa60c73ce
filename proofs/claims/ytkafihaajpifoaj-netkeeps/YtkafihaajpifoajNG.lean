import Derived.Test.YtkafihaajpifoajNF
namespace Go.Proofs.Ytkafihaajpifoaj
open Go.ChangeShapes Go.WideShapes Go.ChangeAt Go.RowKit

theorem settle_ends {w : World} {a : Act} {x y : Value} (h1 : a.tmps[4]?.getD undef = x) (h2 : a.tmps[5]?.getD undef = y) : (results Try.f35 a.tmps).run Try.prog w = .ok (.tuple #[x, y]) w := by
  simp [results, Try.results35, go_sem, h1, h2]

set_option maxRecDepth 20000 in
set_option maxHeartbeats 1000000 in
theorem settleU_any (w : World) (g0 g1 g2 : Nat) (ask : Int → Int) (a : Int) (HA : ∀ W, Below w.heap.size w W → ∀ y, 0 ≤ y → y ≤ 100000 → Calls Try.prog 36 #[.int .i64 y, .pointer (some ⟨g0, 0, none⟩), .pointer (some ⟨g1, 0, none⟩), .pointer (some ⟨g2, 0, none⟩)] W fun r w' => r = .returned (.int .i64 (ask y)) ∧ Below W.heap.size W w') (hm : Mo ask a) (ha : 0 ≤ a) (ha2 : a ≤ 1000000000000) (hst : a ≤ ask a) (hbig : ∀ y, a ≤ y → y ≤ 100000 → ask y ≤ 1000000000000) :
    Calls Try.prog 35 #[.int .i64 a, .func (Fn.func 36) #[] #[.pointer (some ⟨g0, 0, none⟩), .pointer (some ⟨g1, 0, none⟩), .pointer (some ⟨g2, 0, none⟩)]] w fun r w' => ∃ x, Fx ask a x ∧ r = .returned (.tuple #[.int .i64 (x.getD 0), .bool x.isSome]) ∧ Below w.heap.size w w' := by
  have HAH : Hid (∀ W, Below w.heap.size w W → ∀ y, 0 ≤ y → y ≤ 100000 → Calls Try.prog 36 #[.int .i64 y, .pointer (some ⟨g0, 0, none⟩), .pointer (some ⟨g1, 0, none⟩), .pointer (some ⟨g2, 0, none⟩)] W fun r w' => r = .returned (.int .i64 (ask y)) ∧ Below W.heap.size W w') := HA
  have HM : Hid (Mo ask a ∧ a ≤ ask a ∧ ∀ y, a ≤ y → y ≤ 100000 → ask y ≤ 1000000000000) := ⟨hm, hst, hbig⟩
  clear HA hm hst hbig
  go_enter Try.func35, Try.ntmps35
  go_wp2_with fail
  go_loopw [6] (fun wv wr => ∃ y : Int, wv = .int .i64 y ∧ Below w.heap.size w wr ∧ a ≤ y ∧ y ≤ 1000000000000 ∧ Hid (y ≤ ask y ∧ ∀ v, a ≤ v → v < y → ask v ≠ v)) (fun wv _ => (100001 - intOf wv).toNat)
  case atStart => exact ⟨a, rfl, Below.refl _ _, by omega, ha2, ⟨HM.out.2.1, fun v h1 h2 => by omega⟩⟩
  case round =>
    obtain ⟨y, rfl, hb, h1, h2, HX⟩ := hrel
    by_cases hle : y ≤ 100000
    · have HB : Hid (Below w.heap.size w wr) := hb
      clear hb
      have hby := HM.out.2.2 y h1 hle
      have hyn := HX.out.1
      have HZ : Hid (∀ z, ask y = z → z ≠ y → a ≤ z ∧ z ≤ ask z ∧ ∀ v, a ≤ v → v < z → ask v ≠ v) := fun z hz _ => hz ▸ HM.out.1.step h1 hyn HX.out.2
      have hCall := fun W hW => HAH.out W hW y (by omega) hle
      obtain ⟨z, hz⟩ : ∃ z, ask y = z := ⟨_, rfl⟩
      rw [hz] at hby hyn hCall
      have H3 : Hid (ask y = z) := hz
      clear hz
      have HC : Hid (∀ W, Below w.heap.size w W → Calls Try.prog 36 #[.int .i64 y, .pointer (some ⟨g0, 0, none⟩), .pointer (some ⟨g1, 0, none⟩), .pointer (some ⟨g2, 0, none⟩)] W fun r w' => r = .returned (.int .i64 z) ∧ Below W.heap.size W w') := hCall
      clear hCall
      by_cases he : z = y
      · subst he
        go_wp2_with (go_at_call 36; refine (HC.out _ HB.out).mono ?_; rintro r w2 ⟨rfl, hb2⟩; have H2 : Hid (Below w.heap.size w w2) := below_seq HB.out hb2; clear hb2)
        refine bodyPost_ret (settle_ends rfl rfl) rfl ?_
        exact ⟨some z, ⟨h1, hle, H3.out, HX.out.2⟩, rfl, H2.out⟩
      · have he' : (z == y) = false := beq_eq_false_iff_ne.2 he
        go_wp2_with (go_at_call 36; refine (HC.out _ HB.out).mono ?_; rintro r w2 ⟨rfl, hb2⟩; have H2 : Hid (Below w.heap.size w w2) := below_seq HB.out hb2; clear hb2)
        have hs := HZ.out z H3.out he
        exact ⟨⟨z, rfl, H2.out, hs.1, hby, hs.2⟩, by simp [intOf]; omega⟩
    · go_wp2_with fail
      refine bodyPost_ret (settle_ends rfl rfl) rfl ?_
      exact ⟨none, fun v hv1 hv2 => HX.out.2 v hv1 (by omega), rfl, hb⟩

set_option maxRecDepth 20000 in
set_option maxHeartbeats 1000000 in
theorem settleQ_any (w : World) (g0 g1 g2 g3 : Nat) (ask : Int → Int) (a : Int) (HA : ∀ W, Below w.heap.size w W → ∀ y, 0 ≤ y → y ≤ 100000 → Calls Try.prog 40 #[.int .i64 y, .pointer (some ⟨g0, 0, none⟩), .pointer (some ⟨g1, 0, none⟩), .pointer (some ⟨g2, 0, none⟩), .pointer (some ⟨g3, 0, none⟩)] W fun r w' => r = .returned (.int .i64 (ask y)) ∧ Below W.heap.size W w') (hm : Mo ask a) (ha : 0 ≤ a) (ha2 : a ≤ 1000000000000) (hst : a ≤ ask a) (hbig : ∀ y, a ≤ y → y ≤ 100000 → ask y ≤ 1000000000000) :
    Calls Try.prog 35 #[.int .i64 a, .func (Fn.func 40) #[] #[.pointer (some ⟨g0, 0, none⟩), .pointer (some ⟨g1, 0, none⟩), .pointer (some ⟨g2, 0, none⟩), .pointer (some ⟨g3, 0, none⟩)]] w fun r w' => ∃ x, Fx ask a x ∧ r = .returned (.tuple #[.int .i64 (x.getD 0), .bool x.isSome]) ∧ Below w.heap.size w w' := by
  have HAH : Hid (∀ W, Below w.heap.size w W → ∀ y, 0 ≤ y → y ≤ 100000 → Calls Try.prog 40 #[.int .i64 y, .pointer (some ⟨g0, 0, none⟩), .pointer (some ⟨g1, 0, none⟩), .pointer (some ⟨g2, 0, none⟩), .pointer (some ⟨g3, 0, none⟩)] W fun r w' => r = .returned (.int .i64 (ask y)) ∧ Below W.heap.size W w') := HA
  have HM : Hid (Mo ask a ∧ a ≤ ask a ∧ ∀ y, a ≤ y → y ≤ 100000 → ask y ≤ 1000000000000) := ⟨hm, hst, hbig⟩
  clear HA hm hst hbig
  go_enter Try.func35, Try.ntmps35
  go_wp2_with fail
  go_loopw [6] (fun wv wr => ∃ y : Int, wv = .int .i64 y ∧ Below w.heap.size w wr ∧ a ≤ y ∧ y ≤ 1000000000000 ∧ Hid (y ≤ ask y ∧ ∀ v, a ≤ v → v < y → ask v ≠ v)) (fun wv _ => (100001 - intOf wv).toNat)
  case atStart => exact ⟨a, rfl, Below.refl _ _, by omega, ha2, ⟨HM.out.2.1, fun v h1 h2 => by omega⟩⟩
  case round =>
    obtain ⟨y, rfl, hb, h1, h2, HX⟩ := hrel
    by_cases hle : y ≤ 100000
    · have HB : Hid (Below w.heap.size w wr) := hb
      clear hb
      have hby := HM.out.2.2 y h1 hle
      have hyn := HX.out.1
      have HZ : Hid (∀ z, ask y = z → z ≠ y → a ≤ z ∧ z ≤ ask z ∧ ∀ v, a ≤ v → v < z → ask v ≠ v) := fun z hz _ => hz ▸ HM.out.1.step h1 hyn HX.out.2
      have hCall := fun W hW => HAH.out W hW y (by omega) hle
      obtain ⟨z, hz⟩ : ∃ z, ask y = z := ⟨_, rfl⟩
      rw [hz] at hby hyn hCall
      have H3 : Hid (ask y = z) := hz
      clear hz
      have HC : Hid (∀ W, Below w.heap.size w W → Calls Try.prog 40 #[.int .i64 y, .pointer (some ⟨g0, 0, none⟩), .pointer (some ⟨g1, 0, none⟩), .pointer (some ⟨g2, 0, none⟩), .pointer (some ⟨g3, 0, none⟩)] W fun r w' => r = .returned (.int .i64 z) ∧ Below W.heap.size W w') := hCall
      clear hCall
      by_cases he : z = y
      · subst he
        go_wp2_with (go_at_call 40; refine (HC.out _ HB.out).mono ?_; rintro r w2 ⟨rfl, hb2⟩; have H2 : Hid (Below w.heap.size w w2) := below_seq HB.out hb2; clear hb2)
        refine bodyPost_ret (settle_ends rfl rfl) rfl ?_
        exact ⟨some z, ⟨h1, hle, H3.out, HX.out.2⟩, rfl, H2.out⟩
      · have he' : (z == y) = false := beq_eq_false_iff_ne.2 he
        go_wp2_with (go_at_call 40; refine (HC.out _ HB.out).mono ?_; rintro r w2 ⟨rfl, hb2⟩; have H2 : Hid (Below w.heap.size w w2) := below_seq HB.out hb2; clear hb2)
        have hs := HZ.out z H3.out he
        exact ⟨⟨z, rfl, H2.out, hs.1, hby, hs.2⟩, by simp [intOf]; omega⟩
    · go_wp2_with fail
      refine bodyPost_ret (settle_ends rfl rfl) rfl ?_
      exact ⟨none, fun v hv1 hv2 => HX.out.2 v hv1 (by omega), rfl, hb⟩
end Go.Proofs.Ytkafihaajpifoaj
