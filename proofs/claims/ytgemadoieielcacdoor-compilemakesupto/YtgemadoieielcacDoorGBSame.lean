import Derived.Test.YtgemadoieielcacDoorGBSize
namespace Go.Proofs.YtgemadoieielcacDoor.B
open Go.ChangeShapes Go.WideShapes Go.ChangeAt Go.RowKit

set_option maxHeartbeats 1000000 in
theorem Exprs_any (N : Nat) : ∀ (e : Ex) (w : World) (v v' : Value), e.nodes < N → N ≤ 1048577 → e.In w v → e.In w v' →
    Calls Tryd.prog 66 #[v, v'] w fun r w' => r = .returned (.bool true) ∧ Below w.heap.size w w' := by
  induction N with
  | zero => intro e w v v' h; omega
  | succ N ih =>
    intro e w v v' hN hle hin hin'
    obtain ⟨k, n, a⟩ := e
    unfold Ex.nodes at hN
    have hlen := length_le_nodesAll a
    unfold Ex.In at hin hin'
    obtain ⟨ad, c, rfl, hrow⟩ := hin
    obtain ⟨ad', c', rfl, hrow'⟩ := hin'
    have HR : Hid (a = [] ∨ ∃ b o, ad = some ⟨b, o, none⟩ ∧ Ex.Row w a b o) := hrow
    have HR' : Hid (a = [] ∨ ∃ b o, ad' = some ⟨b, o, none⟩ ∧ Ex.Row w a b o) := hrow'
    clear hrow hrow'
    have IH : Hid _ := ih
    clear ih
    go_enter Tryd.func66, Tryd.ntmps66
    go_wp2_with fail
    go_loopw [5, 30] (fun _ i wr => ∃ (j : Nat), j ≤ a.length ∧ i = .int .i64 j ∧ wr.cell? ⟨w.heap.size, 2, none⟩ = some (.slice ad a.length c) ∧ wr.cell? ⟨w.heap.size + 1, 2, none⟩ = some (.slice ad' a.length c') ∧ Below w.heap.size w wr) (fun _ i _ => a.length - (intOf i).toNat)
    case atStart => 
      refine ⟨0, Nat.zero_le _, rfl, ?_, ?_, ((Below.refl _ _).alloc (Nat.le_refl _) _).alloc (by simp) _⟩
      · rw [World.cell?_alloc_past _ _ _ (by simp), World.cell?_alloc_at _ _ _ _ rfl]; rfl
      · rw [World.cell?_alloc_at _ _ _ _ (by simp)]; rfl
    case round =>
      obtain ⟨j, hj, rfl, hc1, hc2, hb⟩ := hrel
      by_cases hlt : j < a.length
      · rcases HR.out with h | ⟨b, o, had, hrow⟩
        · subst h; simp at hlt
        rcases HR'.out with h | ⟨b', o', had', hrow'⟩
        · subst h; simp at hlt
        subst had had'
        obtain ⟨xk, xn, xad, xm, xc, c0, c1, c2, i1⟩ := (Ex.Row.below hb a hrow).shape hlt
        obtain ⟨yk, yn, yad, ym, yc, d0, d1, d2, i2⟩ := (Ex.Row.below hb a hrow').shape hlt
        have hnd := nodesAll_at a j a[j] (by simp [hlt])
        generalize a[j] = x at *
        have HI : Hid (_ ∧ _) := ⟨i1, i2⟩
        clear i1 i2 hrow hrow'
        have HB : Hid (Below w.heap.size w wr) := hb
        clear hb
        go_wp2_with fail
        go_region_held3 (fun w' => Below wr.heap.size wr w' ∧ w'.cell? ⟨w.heap.size, 2, none⟩ = some (.slice (some ⟨b, o, none⟩) a.length c) ∧ w'.cell? ⟨w.heap.size + 1, 2, none⟩ = some (.slice (some ⟨b', o', none⟩) a.length c') ∧
            w'.cell? ⟨b, o + j * 3, none⟩ = some (.int .i64 xk) ∧ w'.cell? ⟨b, o + j * 3 + 1, none⟩ = some (.int .i64 xn) ∧ w'.cell? ⟨b, o + j * 3 + 2, none⟩ = some (.slice xad xm xc) ∧
            w'.cell? ⟨b', o' + j * 3, none⟩ = some (.int .i64 yk) ∧ w'.cell? ⟨b', o' + j * 3 + 1, none⟩ = some (.int .i64 yn) ∧ w'.cell? ⟨b', o' + j * 3 + 2, none⟩ = some (.slice yad ym yc))
          (first | assumption | exact ⟨(Below.refl _ _).drew, hc1, hc2, c0, c1, c2, d0, d1, d2⟩)
          (first
            | (go_at_call 66; refine (IH.out x _ _ _ (by omega) (by omega) (Ex_keep HI.out.1 (Below.refl _ _) ‹Below wr.heap.size wr _ ∧ _›) (Ex_keep HI.out.2 (Below.refl _ _) ‹Below wr.heap.size wr _ ∧ _›)).mono ?_; rintro e w' ⟨rfl, hb'⟩; obtain ⟨q0, q1, q2, q3, q4, q5, q6, q7, q8⟩ := ‹Below wr.heap.size wr _ ∧ _›; have hS' := And.intro (below_seq q0 hb') (And.intro (below_cell hb' q1) (And.intro (below_cell hb' q2) (And.intro (below_cell hb' q3) (And.intro (below_cell hb' q4) (And.intro (below_cell hb' q5) (And.intro (below_cell hb' q6) (And.intro (below_cell hb' q7) (below_cell hb' q8)))))))); clear hb' q0 q1 q2 q3 q4 q5 q6 q7 q8))
        all_goals
          go_wp2_with fail
          go_roundw
          case rel => 
            obtain ⟨q0, q1, q2, -⟩ := ‹Below wr.heap.size wr _ ∧ _›
            exact ⟨j + 1, by omega, by go_num, q1, q2, below_seq HB.out q0⟩
          case measure => simp [intOf]; omega
      · go_wp2_with fail
        go_ret
        exact ⟨rfl, hb⟩

theorem next_world {W w1 w2 : World} (h : Hid (Below W.heap.size W w1)) (hb : Below w1.heap.size w1 w2) : Hid (Below W.heap.size W w2) ∧ ∀ b o, b < W.heap.size → w2.cell? ⟨b, o, none⟩ = W.cell? ⟨b, o, none⟩ :=
  ⟨below_seq h.out hb, fun b o h' => (below_seq h.out hb).cell (p := ⟨b, o, none⟩) h'⟩

set_option maxRecDepth 20000 in
set_option maxHeartbeats 2000000 in
theorem Bodies_any (N : Nat) : ∀ (a : List St) (w : World) (v v' : Value), St.bulkAll a < N → N ≤ 1048577 → St.Sl w a v → St.Sl w a v' →
    Calls Tryd.prog 36 #[v, v'] w fun r w' => r = .returned (.bool true) ∧ Below w.heap.size w w' := by
  induction N with
  | zero => intro a w v v' h; omega
  | succ N ih =>
    intro a w v v' hN hle hin hin'
    have hlen := length_le_bulkAll a
    obtain ⟨ad, c, rfl, hrow⟩ := hin
    obtain ⟨ad', c', rfl, hrow'⟩ := hin'
    have HR : Hid (a = [] ∨ ∃ b o, ad = some ⟨b, o, none⟩ ∧ St.Row w a b o) := hrow
    have HR' : Hid (a = [] ∨ ∃ b o, ad' = some ⟨b, o, none⟩ ∧ St.Row w a b o) := hrow'
    clear hrow hrow'
    have IH : Hid _ := ih
    clear ih
    go_enter Tryd.func36, Tryd.ntmps36
    go_wp2_with fail
    go_loopw [5, 6, 7, 15] (fun _ _ _ i wr => ∃ (j : Nat), j ≤ a.length ∧ i = .int .i64 j ∧ Below w.heap.size w wr) (fun _ _ _ i _ => a.length - (intOf i).toNat)
    case atStart => exact ⟨0, Nat.zero_le _, rfl, Below.refl _ _⟩
    case round =>
      obtain ⟨j, hj, rfl, hb⟩ := hrel
      by_cases hlt : j < a.length
      · rcases HR.out with h | ⟨b, o, had, hrow⟩
        · subst h; simp at hlt
        rcases HR'.out with h | ⟨b', o', had', hrow'⟩
        · subst h; simp at hlt
        subst had had'
        have hbk := bulkAll_at a j a[j] (by simp [hlt])
        obtain ⟨sk, sn, se, sck, sca, scb, sy, sl, hs, ek, en, ead, em, ec, ak, an, aad, am, ac, bk, bn, bad, bm, bc, yad, yc, lad, lc, c0, c1, c2, c3, c4, c5, c6, c7, c8, c9, c10, c11, c12, c13, i1, i2, i3, i4, i5⟩ := (St.Row.below hb a hrow).shape hlt
        obtain ⟨sk', sn', se', sck', sca', scb', sy', sl', hs', ek', en', ead', em', ec', ak', an', aad', am', ac', bk', bn', bad', bm', bc', yad', yc', lad', lc', d0, d1, d2, d3, d4, d5, d6, d7, d8, d9, d10, d11, d12, d13, j1, j2, j3, j4, j5⟩ := (St.Row.below hb a hrow').shape hlt
        rw [hs] at hbk hs'
        injection hs' with hs1 hs2 hs3 hs4 hs5 hs6 hs7 hs8
        subst hs1 hs2 hs3 hs4 hs5 hs6 hs7 hs8
        unfold St.bulk at hbk
        clear hs hrow hrow'
        have HI : Hid ((_ ∧ _ ∧ _ ∧ _ ∧ _) ∧ (_ ∧ _ ∧ _ ∧ _ ∧ _)) := ⟨⟨i1, i2, i3, i4, i5⟩, ⟨j1, j2, j3, j4, j5⟩⟩
        clear i1 i2 i3 i4 i5 j1 j2 j3 j4 j5
        have HB : Hid (Below w.heap.size w wr) := hb
        clear hb
        have lt' : b' < wr.heap.size := World.block_lt_of_cell? _ _ d0
        go_wp2_with fail
        clear c0 c1 c2 c3 c4 c5 c6 c7 c8 c9 c10 c11 c12 c13 d0 d1 d2 d3 d4 d5 d6 d7 d8 d9 d10 d11 d12 d13
        obtain ⟨hB1, c0, c1, c2, c3, c4, c5, c6, c7, c8, c9, c10, c11, c12, c13⟩ := copy14 wr (.int .i64 sk) (.int .i64 sn) (.int .i64 ek) (.int .i64 en) (.slice ead em ec) (.int .i64 sck) (.int .i64 ak) (.int .i64 an) (.slice aad am ac) (.int .i64 bk) (.int .i64 bn) (.slice bad bm bc) (.slice yad sy.length yc) (.slice lad sl.length lc)
        obtain ⟨hB2, d0, d1, d2, d3, d4, d5, d6, d7, d8, d9, d10, d11, d12, d13⟩ := copy14 (wr.alloc (.cells #[.int .i64 sk, .int .i64 sn, .int .i64 ek, .int .i64 en, .slice ead em ec, .int .i64 sck, .int .i64 ak, .int .i64 an, .slice aad am ac, .int .i64 bk, .int .i64 bn, .slice bad bm bc, .slice yad sy.length yc, .slice lad sl.length lc] 123)) (.int .i64 sk) (.int .i64 sn) (.int .i64 ek') (.int .i64 en') (.slice ead' em' ec') (.int .i64 sck) (.int .i64 ak') (.int .i64 an') (.slice aad' am' ac') (.int .i64 bk') (.int .i64 bn') (.slice bad' bm' bc') (.slice yad' sy.length yc') (.slice lad' sl.length lc')
        replace c6 := below_cell hB2 c6
        replace c7 := below_cell hB2 c7
        replace c8 := below_cell hB2 c8
        replace c9 := below_cell hB2 c9
        replace c10 := below_cell hB2 c10
        replace c11 := below_cell hB2 c11
        replace c12 := below_cell hB2 c12
        replace c13 := below_cell hB2 c13
        have hB := below_seq hB1 hB2
        have e1 : (wr.alloc (.cells #[.int .i64 sk, .int .i64 sn, .int .i64 ek, .int .i64 en, .slice ead em ec, .int .i64 sck, .int .i64 ak, .int .i64 an, .slice aad am ac, .int .i64 bk, .int .i64 bn, .slice bad bm bc, .slice yad sy.length yc, .slice lad sl.length lc] 123)).heap.size = wr.heap.size + 1 := by simp
        rw [e1] at d6 d7 d8 d9 d10 d11 d12 d13
        have e2 : wr.heap.size + 1 < ((wr.alloc (.cells #[.int .i64 sk, .int .i64 sn, .int .i64 ek, .int .i64 en, .slice ead em ec, .int .i64 sck, .int .i64 ak, .int .i64 an, .slice aad am ac, .int .i64 bk, .int .i64 bn, .slice bad bm bc, .slice yad sy.length yc, .slice lad sl.length lc] 123)).alloc (.cells #[.int .i64 sk, .int .i64 sn, .int .i64 ek', .int .i64 en', .slice ead' em' ec', .int .i64 sck, .int .i64 ak', .int .i64 an', .slice aad' am' ac', .int .i64 bk', .int .i64 bn', .slice bad' bm' bc', .slice yad' sy.length yc', .slice lad' sl.length lc'] 123)).heap.size := by simp
        clear e1 hB1 hB2 c0 c1 c2 c3 c4 c5 d0 d1 d2 d3 d4 d5 lt'
        generalize (wr.alloc (.cells #[.int .i64 sk, .int .i64 sn, .int .i64 ek, .int .i64 en, .slice ead em ec, .int .i64 sck, .int .i64 ak, .int .i64 an, .slice aad am ac, .int .i64 bk, .int .i64 bn, .slice bad bm bc, .slice yad sy.length yc, .slice lad sl.length lc] 123)).alloc (.cells #[.int .i64 sk, .int .i64 sn, .int .i64 ek', .int .i64 en', .slice ead' em' ec', .int .i64 sck, .int .i64 ak', .int .i64 an', .slice aad' am' ac', .int .i64 bk', .int .i64 bn', .slice bad' bm' bc', .slice yad' sy.length yc', .slice lad' sl.length lc'] 123) = W2 at *
        have HB2 : Hid (Below wr.heap.size wr W2) := hB
        have HW : Hid (Below W2.heap.size W2 W2) := Below.refl _ _
        clear hB
        have e3 : wr.heap.size < W2.heap.size := by omega
        go_wp2_with (first
          | (go_at_call_of 66 ek; refine (Exprs_any _ se _ _ _ (Nat.lt_succ_self _) (by omega) (Ex.In.below (below_seq HB2.out HW.out) _ HI.out.1.1) (Ex.In.below (below_seq HB2.out HW.out) _ HI.out.2.1)).mono ?_; rintro e w' ⟨rfl, hb'⟩; obtain ⟨HW, hc⟩ := next_world HW hb'; clear hb')
          | (go_at_call_of 66 ak; refine (Exprs_any _ sca _ _ _ (Nat.lt_succ_self _) (by omega) (Ex.In.below (below_seq HB2.out HW.out) _ HI.out.1.2.1) (Ex.In.below (below_seq HB2.out HW.out) _ HI.out.2.2.1)).mono ?_; rintro e w' ⟨rfl, hb'⟩; obtain ⟨HW, hc⟩ := next_world HW hb'; clear hb')
          | (go_at_call_of 66 bk; refine (Exprs_any _ scb _ _ _ (Nat.lt_succ_self _) (by omega) (Ex.In.below (below_seq HB2.out HW.out) _ HI.out.1.2.2.1) (Ex.In.below (below_seq HB2.out HW.out) _ HI.out.2.2.2.1)).mono ?_; rintro e w' ⟨rfl, hb'⟩; obtain ⟨HW, hc⟩ := next_world HW hb'; clear hb')
          | (go_at_call_of 36 yad; refine (IH.out sy _ _ _ (by omega) (by omega) (St.Sl.below (below_seq HB2.out HW.out) HI.out.1.2.2.2.1) (St.Sl.below (below_seq HB2.out HW.out) HI.out.2.2.2.2.1)).mono ?_; rintro e w' ⟨rfl, hb'⟩; obtain ⟨HW, hc⟩ := next_world HW hb'; clear hb')
          | (go_at_call_of 36 lad; refine (IH.out sl _ _ _ (by omega) (by omega) (St.Sl.below (below_seq HB2.out HW.out) HI.out.1.2.2.2.2) (St.Sl.below (below_seq HB2.out HW.out) HI.out.2.2.2.2.2)).mono ?_; rintro e w' ⟨rfl, hb'⟩; obtain ⟨HW, hc⟩ := next_world HW hb'; clear hb'))
        go_roundw
        case rel => exact ⟨j + 1, by omega, by go_num, below_seq HB.out (below_seq HB2.out HW.out)⟩
        case measure => simp [intOf]; omega
      · go_wp2_with fail
        go_ret
        exact ⟨rfl, hb⟩
end Go.Proofs.YtgemadoieielcacDoor.B
