import Derived.Test.YtgemadoieielcacDoorGRA
namespace Go.Proofs.YtgemadoieielcacDoor
open Go.ChangeShapes Go.WideShapes Go.ChangeAt Go.RowKit

set_option maxRecDepth 20000 in
set_option maxHeartbeats 8000000 in
theorem stackFault_any (w : World) (l : List In) (iad : Option Addr) (ic : Nat) (h : InSl w l (.slice iad l.length ic)) (hl : l.length ≤ 2000) (hform : ∀ j, j < l.length → formErr (l.getD j in0) = 0) (c k : Int) (hc : stackEnd l = (c, k)) :
    Calls Tryd.prog 57 #[.slice iad l.length ic] w fun r w' => r = .returned (.agg #[.int .i64 c, .int .i64 k]) ∧ Below w.heap.size w w' := by
  have hmm := @run_makeMap Tryd.prog
  obtain ⟨w1, hrun, hs1, HN⟩ := sf_start w
  have HK : Hid (InSl w l (.slice iad l.length ic) ∧ (∀ j, j < l.length → formErr (l.getD j in0) = 0) ∧ stackEnd l = (c, k)) := ⟨h, hform, hc⟩
  clear h hform hc
  go_enter Tryd.func57, Tryd.ntmps57
  go_wp2_with fail
  generalize ((w1.alloc (.cells #[.int .i64 0, .int .i64 0, .int .i64 0, .int .i64 1, .int .i64 2, .int .i64 2, .int .i64 2, .int .i64 2, .int .i64 2, .int .i64 0, .int .i64 1, .int .i64 0, .int .i64 1, .int .i64 0, .int .i64 0, .int .i64 0, .int .i64 0, .int .i64 0, .int .i64 0] 3)).alloc (.cells #[.int .i64 0, .int .i64 1, .int .i64 1, .int .i64 0, .int .i64 1, .int .i64 1, .int .i64 1, .int .i64 1, .int .i64 1, .int .i64 1, .int .i64 0, .int .i64 0, .int .i64 0, .int .i64 0, .int .i64 0, .int .i64 0, .int .i64 0, .int .i64 0, .int .i64 0] 3)) = w2 at *
  generalize w1.heap.size = tb at *
  go_loopw [22] (fun i wr => ∃ (j N : Nat) (M : Int → Option Int), j ≤ l.length ∧ i = .int .i64 j ∧ N ≤ 1 + 2 * j ∧ (∀ z h, M z = some h → 0 ≤ h ∧ h ≤ 20) ∧ stackScan (l.drop j) j M = stackScan l 0 M0 ∧ HtAt wr (w.heap.size + 1) N M ∧ SF w wr (w.heap.size + 1) tb) (fun i _ => l.length - (intOf i).toNat)
  case atStart => exact ⟨0, 1, M0, Nat.zero_le _, rfl, by omega, M0_low, rfl, HN.out.2, HN.out.1⟩
  case round =>
    obtain ⟨j, N, M, hj, rfl, hN, hr, hsc, hM, hsf⟩ := hrel
    by_cases hlt : j < l.length
    · obtain ⟨iad', ic', e, himg⟩ := HK.out.1.below hsf.bel
      cases e
      rcases himg with h0 | ⟨b, o, rfl, himg⟩
      · rw [h0] at hlt; simp at hlt
      obtain ⟨x0, x1, x2⟩ := himg j hlt
      have hE := stackEnd_at hlt hsc
      have hfo := HK.out.2.1 j hlt
      clear himg hsc
      generalize l.getD j in0 = x at *
      obtain ⟨hlow, hlen⟩ := ways_low (k := j) (by omega) hfo
      obtain ⟨xo, xa, xb⟩ := x
      dsimp only at x0 x1 x2
      have hop : 1 ≤ xo ∧ xo ≤ 18 := by
        unfold formErr at hfo
        dsimp only at hfo
        split at hfo
        · simp at hfo
        · omega
      obtain ⟨m, rfl⟩ : ∃ m : Nat, xo = m := ⟨xo.toNat, by omega⟩
      have hm19 : m < 19 := by omega
      have hm19' : (m : Int) < 19 := by omega
      obtain ⟨t1, t2, t3, t4⟩ := takes_le (m := m) (by omega)
      have ht := hsf.takes (m := m) (by omega)
      have hp := hsf.gives (m := m) (by omega)
      have lb : tb + 1 < wr.heap.size := (Array.getElem?_eq_some_iff.1 hsf.giv).1
      have lb0 : tb < wr.heap.size := by omega
      have hlook := (hM.below (below_new wr (.cells #[.int .i64 m, .int .i64 xa, .int .i64 xb] 35))).look (z := j) (by omega)
      have HS : Hid ((_ ∧ _) ∧ (HtAt wr (w.heap.size + 1) N M ∧ SF w wr (w.heap.size + 1) tb) ∧ (∀ t ∈ waysOf j ⟨m, xa, xb⟩, 0 ≤ t ∧ t ≤ 1000000) ∧ (∀ z h, M z = some h → 0 ≤ h ∧ h ≤ 20)) := ⟨⟨hE, hfo⟩, ⟨hM, hsf⟩, hlow, hr⟩
      have hr1 := hr (j : Int)
      clear hE hfo hM hsf hlow hr
      cases hh : M (j : Int) with
      | none =>
        rw [hh] at hlook
        simp only [Option.getD_none, Option.isSome_none] at hlook
        have hst : stackStep M j ⟨m, xa, xb⟩ = (7, M) := by unfold stackStep; rw [hh]
        have hcc := HK.out.2.2.symm.trans ((HS.out.1.1 _ _ hst).1 (by decide))
        simp only [Prod.mk.injEq] at hcc
        obtain ⟨rfl, rfl⟩ := hcc
        clear hr1
        go_wp2_with (go_at_call 25; refine (F_any 7 (j : Int) _).mono ?_; rintro r w9 ⟨rfl, hb9⟩; have H9 : Hid (SF w w9 (w.heap.size + 1) tb) := HS.out.2.1.2.grow (below_seq (below_new _ _) hb9); obtain ⟨rs, rf, rl⟩ := cells_of (l := [_, _]) H9.out.res; have r0 := rs 0 _ rfl; have r1 := rs 1 _ rfl; clear hb9 rs)
        exact bodyPost_ret (v := .agg #[.int .i64 7, .int .i64 (j : Int)]) (StF_ends (by simpa using setCell_at (i := 1) (u := .int .i64 (j : Int)) (setCell_at (i := 0) (u := .int .i64 7) H9.out.res)) rfl) rfl ⟨rfl, (H9.out.bel.setCell (Nat.le_refl _) _).setCell (Nat.le_refl _) _⟩
      | some h =>
        rw [hh] at hlook
        simp only [Option.getD_some, Option.isSome_some] at hlook
        replace hr1 := hr1 h hh
        by_cases hbad : h < takesOf m ∨ 20 < h - takesOf m + putsOf m
        · have hst : stackStep M j ⟨m, xa, xb⟩ = (8, M) := by
            unfold stackStep; rw [hh]; dsimp only; rw [Int.toNat_natCast, if_pos hbad]
          have hcc := HK.out.2.2.symm.trans ((HS.out.1.1 _ _ hst).1 (by decide))
          simp only [Prod.mk.injEq] at hcc
          obtain ⟨rfl, rfl⟩ := hcc
          generalize takesOf m = tk at *
          generalize putsOf m = pt at *
          clear hh hst
          by_cases hb1 : h < tk
          · have f1 : decide (h < tk) = true := by simpa using hb1
            go_wp2_with fail
            go_quiet (fail)
            go_wp2_with (go_at_call 25; refine (F_any 8 (j : Int) _).mono ?_; rintro r w9 ⟨rfl, hb9⟩; have H9 : Hid (SF w w9 (w.heap.size + 1) tb) := HS.out.2.1.2.grow (below_seq (below_seq (below_new _ _) below_drewN') hb9); obtain ⟨rs, rf, rl⟩ := cells_of (l := [_, _]) H9.out.res; have r0 := rs 0 _ rfl; have r1 := rs 1 _ rfl; clear hb9 rs)
            exact bodyPost_ret (v := .agg #[.int .i64 8, .int .i64 (j : Int)]) (StF_ends (by simpa using setCell_at (i := 1) (u := .int .i64 (j : Int)) (setCell_at (i := 0) (u := .int .i64 8) H9.out.res)) rfl) rfl ⟨rfl, (H9.out.bel.setCell (Nat.le_refl _) _).setCell (Nat.le_refl _) _⟩
          · have hb2 : 20 < h - tk + pt := by omega
            have f1 : decide (h < tk) = false := by simpa using hb1
            have f2 : decide (20 < h - tk + pt) = true := by simpa using hb2
            go_wp2_with fail
            go_quiet (fail)
            go_wp2_with (go_at_call 25; refine (F_any 8 (j : Int) _).mono ?_; rintro r w9 ⟨rfl, hb9⟩; have H9 : Hid (SF w w9 (w.heap.size + 1) tb) := HS.out.2.1.2.grow (below_seq (below_seq (below_new _ _) below_drewN') hb9); obtain ⟨rs, rf, rl⟩ := cells_of (l := [_, _]) H9.out.res; have r0 := rs 0 _ rfl; have r1 := rs 1 _ rfl; clear hb9 rs)
            exact bodyPost_ret (v := .agg #[.int .i64 8, .int .i64 (j : Int)]) (StF_ends (by simpa using setCell_at (i := 1) (u := .int .i64 (j : Int)) (setCell_at (i := 0) (u := .int .i64 8) H9.out.res)) rfl) rfl ⟨rfl, (H9.out.bel.setCell (Nat.le_refl _) _).setCell (Nat.le_refl _) _⟩
        · have hst : stackStep M j ⟨m, xa, xb⟩ = putWays (h - takesOf m + putsOf m) (waysOf j ⟨m, xa, xb⟩) M := by
            unfold stackStep; rw [hh]; dsimp only; rw [Int.toNat_natCast, if_neg hbad]
          generalize takesOf m = tk at *
          generalize putsOf m = pt at *
          have hb1 : ¬ h < tk := by omega
          have hb2 : ¬ 20 < h - tk + pt := by omega
          have f1 : decide (h < tk) = false := by simpa using hb1
          have f2 : decide (20 < h - tk + pt) = false := by simpa using hb2
          have hr2 : 0 ≤ h - tk + pt ∧ h - tk + pt ≤ 20 := by omega
          obtain ⟨bh, hbh⟩ : ∃ bh, h - tk + pt = bh := ⟨_, rfl⟩
          rw [hbh] at hr2
          have hnn : N ≤ 100000 := by omega
          clear hbad hh
          by_cases e11 : m = 11
          · have g11 : ((m : Int) == 11) = true := by simp; omega
            have g11'' : (m : Int) = 11 := by omega
            have g12 : ((m : Int) == 12) = false := by simp; omega
            have g12'' : ¬ (m : Int) = 12 := by omega
            have g14 : ((m : Int) == 14) = false := by simp; omega
            have g14'' : ¬ (m : Int) = 14 := by omega
            have g11' : ((m : Int) != 11) = false := by simp; omega
            have hw : waysOf j ⟨(m : Int), xa, xb⟩ = [xa] := by unfold waysOf; dsimp only; rw [if_pos g11'']
            have HE : Hid ((∀ z M', putWays bh [xa] M = (z, M') → (z ≠ 0 → stackEnd l = (z, (j : Int))) ∧ (z = 0 → stackScan (l.drop (j + 1)) (j + 1) M' = stackScan l 0 M0)) ∧ (∀ t ∈ [xa], 0 ≤ t ∧ t ≤ 1000000)) := ⟨fun z M' e => HS.out.1.1 z M' (by rw [hst, hw, hbh]; exact e), by have := HS.out.2.2.1; rw [hw] at this; exact this⟩
            clear hst hw
            clear e11 g11''
            go_wp2_with fail
            go_quiet (fail)
            go_wp2_with fail
            go_quiet (fail)
            try simp only [hbh]
            go_wp2_with (at_builtin; refine wp_push rfl (.tmp 95) (.tmp 97) rfl _ (.slice none 0 0) [] (xa) (wr.heap.size + 1) (by simp) rfl rfl (World.ownsRow_nil _ _ _ _) (Nat.le_refl _) (by simp) ?_; intro ad1 c1 w3 ho3 hb3; simp only [List.length_nil, Nat.zero_add, List.nil_append] at ho3 ⊢; have hq3 : Below wr.heap.size wr w3 := below_seq (by first | exact below_seq' (below_new _ _) | exact below_seq' (below_seq' (below_new _ _))) hb3; have c0 : w3.cell? ⟨wr.heap.size, 0, none⟩ = some (.int .i64 m) := below_cell hb3 (by go_simp); have H3 : Hid ((w3.ownsRow _ 3 1 (.slice ad1 1 c1) 1 (intVs [xa]) ∧ Below _ _ w3) ∧ Below wr.heap.size wr w3) := ⟨⟨ho3, hb3⟩, hq3⟩; clear ho3 hb3 hq3)
            have H4 : Hid (w3.ownsRow _ 3 1 (.slice ad1 1 c1) 1 (intVs [xa]) ∧ Below wr.heap.size wr w3) := ⟨H3.out.1.1, H3.out.2⟩
            obtain ⟨rb, ro, had, hrow⟩ := row_of_own H4.out.1 rfl (by decide)
            subst had
            have HW : Hid ((∀ p, p < 1 → w3.cell? ⟨rb, ro + p, none⟩ = some (.int .i64 (([xa] : List Int).getD p 0))) ∧ HtAt w3 (w.heap.size + 1) N M ∧ SF w w3 (w.heap.size + 1) tb) := ⟨hrow, HS.out.2.1.1.below H4.out.2, HS.out.2.1.2.grow H4.out.2⟩
            clear hrow
            rcases hpw : putWays bh [xa] M with ⟨z, M'⟩
            have HP : Hid (putWays bh [xa] M = (z, M')) := hpw
            clear hpw
            go_loopw [109] (fun i wq => ∃ (p : Nat) (M1 : Int → Option Int), p ≤ 1 ∧ i = .int .i64 p ∧ putWays bh (([xa] : List Int).drop p) M1 = (z, M') ∧ HtAt wq (w.heap.size + 1) (N + p) M1 ∧ (∀ z h, M1 z = some h → 0 ≤ h ∧ h ≤ 20) ∧ w3.grownBy wq (some (w.heap.size + 1))) (fun i _ => 1 - (intOf i).toNat)
            case atStart => exact ⟨0, M, Nat.zero_le _, rfl, HP.out, HW.out.2.1, HS.out.2.2.2, ⟨rfl, rfl, rfl, Nat.le_refl _, fun _ _ _ => rfl⟩⟩
            case round =>
              obtain ⟨p, M1, hp1, rfl, hput, hht, hm1r, hgr⟩ := hrel
              by_cases hlt2 : p < 1
              · have q := hgr.cell (HW.out.1 p hlt2) (by simpa using not_map (HW.out.1 p hlt2) HW.out.2.1)
                have hget : ([xa] : List Int).getD p 0 = ([xa] : List Int)[p] := by rw [List.getD_eq_getElem?_getD, List.getElem?_eq_getElem (show p < ([xa] : List Int).length from hlt2)]; rfl
                have hmem := HE.out.2 (([xa] : List Int).getD p 0) (by rw [hget]; exact List.getElem_mem _)
                have hdrop : ([xa] : List Int).drop p = ([xa] : List Int).getD p 0 :: ([xa] : List Int).drop (p + 1) := by rw [hget]; exact List.drop_eq_getElem_cons _
                rw [hdrop] at hput
                generalize ([xa] : List Int).getD p 0 = t at *
                have hl2 := hht.look (z := t) (by omega)
                have HQ : Hid (_ ∧ _ ∧ _ ∧ _) := ⟨hput, hht, hgr, hm1r⟩
                clear hput hht hgr hget hdrop hm1r
                cases hm1 : M1 t with
                | none =>
                  rw [hm1] at hl2
                  simp only [Option.getD_none, Option.isSome_none] at hl2
                  have hp2 : putWays bh (([xa] : List Int).drop (p + 1)) (setH M1 t bh) = (z, M') := by
                    have := HQ.out.1
                    unfold putWays at this
                    rw [if_neg (by simp [hm1])] at this
                    exact this
                  obtain ⟨w5, hrun5, hset5, hg5⟩ := HQ.out.2.1.set (by omega) (z := t) (v := bh) (by omega) (by omega)
                  have HR : Hid (_ ∧ _ ∧ _) := ⟨hp2, hset5, hg5⟩
                  clear hp2 hset5 hg5 hm1
                  go_wp2_with fail
                  go_roundw
                  case rel =>
                    have hrr : ∀ y g, setH M1 t bh y = some g → 0 ≤ g ∧ g ≤ 20 := by
                      intro y g hy
                      unfold setH at hy
                      split at hy
                      · cases hy; exact hr2
                      · exact HQ.out.2.2.2 y g hy
                    exact ⟨p + 1, setH M1 t bh, by omega, by go_num, HR.out.1, HR.out.2.1, hrr, grown_trans HQ.out.2.2.1 HR.out.2.2⟩
                  case measure => simp [intOf]; omega
                | some q1 =>
                  rw [hm1] at hl2
                  simp only [Option.getD_some, Option.isSome_some] at hl2
                  by_cases ho : q1 = bh
                  · subst ho
                    have hp2 : putWays q1 (([xa] : List Int).drop (p + 1)) (setH M1 t q1) = (z, M') := by
                      have := HQ.out.1
                      unfold putWays at this
                      rw [if_neg (by simp [hm1])] at this
                      exact this
                    obtain ⟨w5, hrun5, hset5, hg5⟩ := HQ.out.2.1.set (by omega) (z := t) (v := q1) (by omega) (by omega)
                    have HR : Hid (_ ∧ _ ∧ _) := ⟨hp2, hset5, hg5⟩
                    clear hp2 hset5 hg5 hm1
                    go_wp2_with fail
                    go_roundw
                    case rel =>
                      have hrr : ∀ y g, setH M1 t q1 y = some g → 0 ≤ g ∧ g ≤ 20 := by
                        intro y g hy
                        unfold setH at hy
                        split at hy
                        · cases hy; exact hr2
                        · exact HQ.out.2.2.2 y g hy
                      exact ⟨p + 1, setH M1 t q1, by omega, by go_num, HR.out.1, HR.out.2.1, hrr, grown_trans HQ.out.2.2.1 HR.out.2.2⟩
                    case measure => simp [intOf]; omega
                  · have hob : (q1 != bh) = true := by simpa using ho
                    have e : z = 8 := by
                      have := HQ.out.1
                      unfold putWays at this
                      rw [if_pos (by simp [hm1, ho])] at this
                      simp only [Prod.mk.injEq] at this
                      exact this.1.symm
                    subst e
                    have hcc := HK.out.2.2.symm.trans ((HE.out.1 _ _ HP.out).1 (by decide))
                    simp only [Prod.mk.injEq] at hcc
                    obtain ⟨rfl, rfl⟩ := hcc
                    clear hm1
                    go_wp2_with (go_at_call 25; refine (F_any 8 (j : Int) _).mono ?_; rintro r w9 ⟨rfl, hb9⟩; have H9 : Hid (SF w w9 (w.heap.size + 1) tb) := (HW.out.2.2.grown HQ.out.2.2.1).grow hb9; obtain ⟨rs, rf, rl⟩ := cells_of (l := [_, _]) H9.out.res; have r0 := rs 0 _ rfl; have r1 := rs 1 _ rfl; clear hb9 rs)
                    exact bodyPost_ret (v := .agg #[.int .i64 8, .int .i64 (j : Int)]) (StF_ends (by simpa using setCell_at (i := 1) (u := .int .i64 (j : Int)) (setCell_at (i := 0) (u := .int .i64 8) H9.out.res)) rfl) rfl ⟨rfl, (H9.out.bel.setCell (Nat.le_refl _) _).setCell (Nat.le_refl _) _⟩
              · have hpe : p = 1 := by omega
                subst hpe
                have e : z = 0 ∧ M' = M1 := by simpa [putWays, eq_comm] using hput
                obtain ⟨rfl, rfl⟩ := e
                have HQ : Hid (_ ∧ _ ∧ _) := ⟨hht, hgr, hm1r⟩
                clear hht hgr hput hm1r
                go_wp2_with fail
                go_roundw
                case rel => exact ⟨j + 1, N + 1, _, by omega, by go_num, by omega, HQ.out.2.2, (HE.out.1 _ _ HP.out).2 rfl, HQ.out.1, HW.out.2.2.grown HQ.out.2.1⟩
                case measure => simp [intOf]; omega
          by_cases e12 : m = 12
          · have g11 : ((m : Int) == 11) = false := by simp; omega
            have g11'' : ¬ (m : Int) = 11 := by omega
            have g12 : ((m : Int) == 12) = true := by simp; omega
            have g12'' : (m : Int) = 12 := by omega
            have g14 : ((m : Int) == 14) = false := by simp; omega
            have g14'' : ¬ (m : Int) = 14 := by omega
            have g11' : ((m : Int) != 11) = true := by simp; omega
            have hw : waysOf j ⟨(m : Int), xa, xb⟩ = [xa, (j : Int) + 1] := by unfold waysOf; dsimp only; rw [if_neg g11'', if_pos g12'']
            have HE : Hid ((∀ z M', putWays bh [xa, (j : Int) + 1] M = (z, M') → (z ≠ 0 → stackEnd l = (z, (j : Int))) ∧ (z = 0 → stackScan (l.drop (j + 1)) (j + 1) M' = stackScan l 0 M0)) ∧ (∀ t ∈ [xa, (j : Int) + 1], 0 ≤ t ∧ t ≤ 1000000)) := ⟨fun z M' e => HS.out.1.1 z M' (by rw [hst, hw, hbh]; exact e), by have := HS.out.2.2.1; rw [hw] at this; exact this⟩
            clear hst hw
            clear e12 g12''
            go_wp2_with fail
            go_quiet (fail)
            go_wp2_with fail
            go_quiet (fail)
            try simp only [hbh]
            go_wp2_with (first | (at_builtin; refine wp_push rfl (.tmp 95) (.tmp 97) rfl _ (.slice none 0 0) [] (xa) (wr.heap.size + 1) (by simp) rfl rfl (World.ownsRow_nil _ _ _ _) (Nat.le_refl _) (by simp) ?_; intro ad1 c1 w3 ho3 hb3; simp only [List.length_nil, Nat.zero_add, List.nil_append] at ho3 ⊢; have hq3 : Below wr.heap.size wr w3 := below_seq (by first | exact below_seq' (below_new _ _) | exact below_seq' (below_seq' (below_new _ _))) hb3; have c0 : w3.cell? ⟨wr.heap.size, 0, none⟩ = some (.int .i64 m) := below_cell hb3 (by go_simp); have H3 : Hid ((w3.ownsRow _ 3 1 (.slice ad1 1 c1) 1 (intVs [xa]) ∧ Below _ _ w3) ∧ Below wr.heap.size wr w3) := ⟨⟨ho3, hb3⟩, hq3⟩; clear ho3 hb3 hq3) | (at_builtin; refine wp_push rfl (.tmp 102) (.tmp 105) rfl _ (.slice ad1 1 c1) [xa] ((j : Int) + 1) w3.heap.size rfl rfl rfl H3.out.1.1 H3.out.1.2.size (by simp) ?_; intro ad2 c2 w4 ho4 hb4; simp only [List.length_cons, List.length_nil, Nat.zero_add, List.cons_append, List.nil_append, Nat.reduceAdd] at ho4 ⊢; have hq4 : Below wr.heap.size wr w4 := H3.out.2.trans (hb4.mono (by simp)); have H4 : Hid (w4.ownsRow _ 3 1 (.slice ad2 2 c2) 2 (intVs [xa, (j : Int) + 1]) ∧ Below wr.heap.size wr w4) := ⟨ho4, hq4⟩; clear ho4 hb4 hq4))
            obtain ⟨rb, ro, had, hrow⟩ := row_of_own H4.out.1 rfl (by decide)
            subst had
            have HW : Hid ((∀ p, p < 2 → w4.cell? ⟨rb, ro + p, none⟩ = some (.int .i64 (([xa, (j : Int) + 1] : List Int).getD p 0))) ∧ HtAt w4 (w.heap.size + 1) N M ∧ SF w w4 (w.heap.size + 1) tb) := ⟨hrow, HS.out.2.1.1.below H4.out.2, HS.out.2.1.2.grow H4.out.2⟩
            clear hrow
            rcases hpw : putWays bh [xa, (j : Int) + 1] M with ⟨z, M'⟩
            have HP : Hid (putWays bh [xa, (j : Int) + 1] M = (z, M')) := hpw
            clear hpw
            go_loopw [109] (fun i wq => ∃ (p : Nat) (M1 : Int → Option Int), p ≤ 2 ∧ i = .int .i64 p ∧ putWays bh (([xa, (j : Int) + 1] : List Int).drop p) M1 = (z, M') ∧ HtAt wq (w.heap.size + 1) (N + p) M1 ∧ (∀ z h, M1 z = some h → 0 ≤ h ∧ h ≤ 20) ∧ w4.grownBy wq (some (w.heap.size + 1))) (fun i _ => 2 - (intOf i).toNat)
            case atStart => exact ⟨0, M, Nat.zero_le _, rfl, HP.out, HW.out.2.1, HS.out.2.2.2, ⟨rfl, rfl, rfl, Nat.le_refl _, fun _ _ _ => rfl⟩⟩
            case round =>
              obtain ⟨p, M1, hp1, rfl, hput, hht, hm1r, hgr⟩ := hrel
              by_cases hlt2 : p < 2
              · have q := hgr.cell (HW.out.1 p hlt2) (by simpa using not_map (HW.out.1 p hlt2) HW.out.2.1)
                have hget : ([xa, (j : Int) + 1] : List Int).getD p 0 = ([xa, (j : Int) + 1] : List Int)[p] := by rw [List.getD_eq_getElem?_getD, List.getElem?_eq_getElem (show p < ([xa, (j : Int) + 1] : List Int).length from hlt2)]; rfl
                have hmem := HE.out.2 (([xa, (j : Int) + 1] : List Int).getD p 0) (by rw [hget]; exact List.getElem_mem _)
                have hdrop : ([xa, (j : Int) + 1] : List Int).drop p = ([xa, (j : Int) + 1] : List Int).getD p 0 :: ([xa, (j : Int) + 1] : List Int).drop (p + 1) := by rw [hget]; exact List.drop_eq_getElem_cons _
                rw [hdrop] at hput
                generalize ([xa, (j : Int) + 1] : List Int).getD p 0 = t at *
                have hl2 := hht.look (z := t) (by omega)
                have HQ : Hid (_ ∧ _ ∧ _ ∧ _) := ⟨hput, hht, hgr, hm1r⟩
                clear hput hht hgr hget hdrop hm1r
                cases hm1 : M1 t with
                | none =>
                  rw [hm1] at hl2
                  simp only [Option.getD_none, Option.isSome_none] at hl2
                  have hp2 : putWays bh (([xa, (j : Int) + 1] : List Int).drop (p + 1)) (setH M1 t bh) = (z, M') := by
                    have := HQ.out.1
                    unfold putWays at this
                    rw [if_neg (by simp [hm1])] at this
                    exact this
                  obtain ⟨w5, hrun5, hset5, hg5⟩ := HQ.out.2.1.set (by omega) (z := t) (v := bh) (by omega) (by omega)
                  have HR : Hid (_ ∧ _ ∧ _) := ⟨hp2, hset5, hg5⟩
                  clear hp2 hset5 hg5 hm1
                  go_wp2_with fail
                  go_roundw
                  case rel =>
                    have hrr : ∀ y g, setH M1 t bh y = some g → 0 ≤ g ∧ g ≤ 20 := by
                      intro y g hy
                      unfold setH at hy
                      split at hy
                      · cases hy; exact hr2
                      · exact HQ.out.2.2.2 y g hy
                    exact ⟨p + 1, setH M1 t bh, by omega, by go_num, HR.out.1, HR.out.2.1, hrr, grown_trans HQ.out.2.2.1 HR.out.2.2⟩
                  case measure => simp [intOf]; omega
                | some q1 =>
                  rw [hm1] at hl2
                  simp only [Option.getD_some, Option.isSome_some] at hl2
                  by_cases ho : q1 = bh
                  · subst ho
                    have hp2 : putWays q1 (([xa, (j : Int) + 1] : List Int).drop (p + 1)) (setH M1 t q1) = (z, M') := by
                      have := HQ.out.1
                      unfold putWays at this
                      rw [if_neg (by simp [hm1])] at this
                      exact this
                    obtain ⟨w5, hrun5, hset5, hg5⟩ := HQ.out.2.1.set (by omega) (z := t) (v := q1) (by omega) (by omega)
                    have HR : Hid (_ ∧ _ ∧ _) := ⟨hp2, hset5, hg5⟩
                    clear hp2 hset5 hg5 hm1
                    go_wp2_with fail
                    go_roundw
                    case rel =>
                      have hrr : ∀ y g, setH M1 t q1 y = some g → 0 ≤ g ∧ g ≤ 20 := by
                        intro y g hy
                        unfold setH at hy
                        split at hy
                        · cases hy; exact hr2
                        · exact HQ.out.2.2.2 y g hy
                      exact ⟨p + 1, setH M1 t q1, by omega, by go_num, HR.out.1, HR.out.2.1, hrr, grown_trans HQ.out.2.2.1 HR.out.2.2⟩
                    case measure => simp [intOf]; omega
                  · have hob : (q1 != bh) = true := by simpa using ho
                    have e : z = 8 := by
                      have := HQ.out.1
                      unfold putWays at this
                      rw [if_pos (by simp [hm1, ho])] at this
                      simp only [Prod.mk.injEq] at this
                      exact this.1.symm
                    subst e
                    have hcc := HK.out.2.2.symm.trans ((HE.out.1 _ _ HP.out).1 (by decide))
                    simp only [Prod.mk.injEq] at hcc
                    obtain ⟨rfl, rfl⟩ := hcc
                    clear hm1
                    go_wp2_with (go_at_call 25; refine (F_any 8 (j : Int) _).mono ?_; rintro r w9 ⟨rfl, hb9⟩; have H9 : Hid (SF w w9 (w.heap.size + 1) tb) := (HW.out.2.2.grown HQ.out.2.2.1).grow hb9; obtain ⟨rs, rf, rl⟩ := cells_of (l := [_, _]) H9.out.res; have r0 := rs 0 _ rfl; have r1 := rs 1 _ rfl; clear hb9 rs)
                    exact bodyPost_ret (v := .agg #[.int .i64 8, .int .i64 (j : Int)]) (StF_ends (by simpa using setCell_at (i := 1) (u := .int .i64 (j : Int)) (setCell_at (i := 0) (u := .int .i64 8) H9.out.res)) rfl) rfl ⟨rfl, (H9.out.bel.setCell (Nat.le_refl _) _).setCell (Nat.le_refl _) _⟩
              · have hpe : p = 2 := by omega
                subst hpe
                have e : z = 0 ∧ M' = M1 := by simpa [putWays, eq_comm] using hput
                obtain ⟨rfl, rfl⟩ := e
                have HQ : Hid (_ ∧ _ ∧ _) := ⟨hht, hgr, hm1r⟩
                clear hht hgr hput hm1r
                go_wp2_with fail
                go_roundw
                case rel => exact ⟨j + 1, N + 2, _, by omega, by go_num, by omega, HQ.out.2.2, (HE.out.1 _ _ HP.out).2 rfl, HQ.out.1, HW.out.2.2.grown HQ.out.2.1⟩
                case measure => simp [intOf]; omega
          by_cases e14 : m = 14
          · have g11 : ((m : Int) == 11) = false := by simp; omega
            have g11'' : ¬ (m : Int) = 11 := by omega
            have g12 : ((m : Int) == 12) = false := by simp; omega
            have g12'' : ¬ (m : Int) = 12 := by omega
            have g14 : ((m : Int) == 14) = true := by simp; omega
            have g14'' : (m : Int) = 14 := by omega
            have g11' : ((m : Int) != 11) = true := by simp; omega
            have hw : waysOf j ⟨(m : Int), xa, xb⟩ = [xb, (j : Int) + 1] := by unfold waysOf; dsimp only; rw [if_neg g11'', if_neg g12'', if_pos g14'']
            have HE : Hid ((∀ z M', putWays bh [xb, (j : Int) + 1] M = (z, M') → (z ≠ 0 → stackEnd l = (z, (j : Int))) ∧ (z = 0 → stackScan (l.drop (j + 1)) (j + 1) M' = stackScan l 0 M0)) ∧ (∀ t ∈ [xb, (j : Int) + 1], 0 ≤ t ∧ t ≤ 1000000)) := ⟨fun z M' e => HS.out.1.1 z M' (by rw [hst, hw, hbh]; exact e), by have := HS.out.2.2.1; rw [hw] at this; exact this⟩
            clear hst hw
            clear e14 g14''
            go_wp2_with fail
            go_quiet (fail)
            go_wp2_with fail
            go_quiet (fail)
            try simp only [hbh]
            go_wp2_with (first | (at_builtin; refine wp_push rfl (.tmp 95) (.tmp 97) rfl _ (.slice none 0 0) [] (xb) (wr.heap.size + 1) (by simp) rfl rfl (World.ownsRow_nil _ _ _ _) (Nat.le_refl _) (by simp) ?_; intro ad1 c1 w3 ho3 hb3; simp only [List.length_nil, Nat.zero_add, List.nil_append] at ho3 ⊢; have hq3 : Below wr.heap.size wr w3 := below_seq (by first | exact below_seq' (below_new _ _) | exact below_seq' (below_seq' (below_new _ _))) hb3; have c0 : w3.cell? ⟨wr.heap.size, 0, none⟩ = some (.int .i64 m) := below_cell hb3 (by go_simp); have H3 : Hid ((w3.ownsRow _ 3 1 (.slice ad1 1 c1) 1 (intVs [xb]) ∧ Below _ _ w3) ∧ Below wr.heap.size wr w3) := ⟨⟨ho3, hb3⟩, hq3⟩; clear ho3 hb3 hq3) | (at_builtin; refine wp_push rfl (.tmp 102) (.tmp 105) rfl _ (.slice ad1 1 c1) [xb] ((j : Int) + 1) w3.heap.size rfl rfl rfl H3.out.1.1 H3.out.1.2.size (by simp) ?_; intro ad2 c2 w4 ho4 hb4; simp only [List.length_cons, List.length_nil, Nat.zero_add, List.cons_append, List.nil_append, Nat.reduceAdd] at ho4 ⊢; have hq4 : Below wr.heap.size wr w4 := H3.out.2.trans (hb4.mono (by simp)); have H4 : Hid (w4.ownsRow _ 3 1 (.slice ad2 2 c2) 2 (intVs [xb, (j : Int) + 1]) ∧ Below wr.heap.size wr w4) := ⟨ho4, hq4⟩; clear ho4 hb4 hq4))
            obtain ⟨rb, ro, had, hrow⟩ := row_of_own H4.out.1 rfl (by decide)
            subst had
            have HW : Hid ((∀ p, p < 2 → w4.cell? ⟨rb, ro + p, none⟩ = some (.int .i64 (([xb, (j : Int) + 1] : List Int).getD p 0))) ∧ HtAt w4 (w.heap.size + 1) N M ∧ SF w w4 (w.heap.size + 1) tb) := ⟨hrow, HS.out.2.1.1.below H4.out.2, HS.out.2.1.2.grow H4.out.2⟩
            clear hrow
            rcases hpw : putWays bh [xb, (j : Int) + 1] M with ⟨z, M'⟩
            have HP : Hid (putWays bh [xb, (j : Int) + 1] M = (z, M')) := hpw
            clear hpw
            go_loopw [109] (fun i wq => ∃ (p : Nat) (M1 : Int → Option Int), p ≤ 2 ∧ i = .int .i64 p ∧ putWays bh (([xb, (j : Int) + 1] : List Int).drop p) M1 = (z, M') ∧ HtAt wq (w.heap.size + 1) (N + p) M1 ∧ (∀ z h, M1 z = some h → 0 ≤ h ∧ h ≤ 20) ∧ w4.grownBy wq (some (w.heap.size + 1))) (fun i _ => 2 - (intOf i).toNat)
            case atStart => exact ⟨0, M, Nat.zero_le _, rfl, HP.out, HW.out.2.1, HS.out.2.2.2, ⟨rfl, rfl, rfl, Nat.le_refl _, fun _ _ _ => rfl⟩⟩
            case round =>
              obtain ⟨p, M1, hp1, rfl, hput, hht, hm1r, hgr⟩ := hrel
              by_cases hlt2 : p < 2
              · have q := hgr.cell (HW.out.1 p hlt2) (by simpa using not_map (HW.out.1 p hlt2) HW.out.2.1)
                have hget : ([xb, (j : Int) + 1] : List Int).getD p 0 = ([xb, (j : Int) + 1] : List Int)[p] := by rw [List.getD_eq_getElem?_getD, List.getElem?_eq_getElem (show p < ([xb, (j : Int) + 1] : List Int).length from hlt2)]; rfl
                have hmem := HE.out.2 (([xb, (j : Int) + 1] : List Int).getD p 0) (by rw [hget]; exact List.getElem_mem _)
                have hdrop : ([xb, (j : Int) + 1] : List Int).drop p = ([xb, (j : Int) + 1] : List Int).getD p 0 :: ([xb, (j : Int) + 1] : List Int).drop (p + 1) := by rw [hget]; exact List.drop_eq_getElem_cons _
                rw [hdrop] at hput
                generalize ([xb, (j : Int) + 1] : List Int).getD p 0 = t at *
                have hl2 := hht.look (z := t) (by omega)
                have HQ : Hid (_ ∧ _ ∧ _ ∧ _) := ⟨hput, hht, hgr, hm1r⟩
                clear hput hht hgr hget hdrop hm1r
                cases hm1 : M1 t with
                | none =>
                  rw [hm1] at hl2
                  simp only [Option.getD_none, Option.isSome_none] at hl2
                  have hp2 : putWays bh (([xb, (j : Int) + 1] : List Int).drop (p + 1)) (setH M1 t bh) = (z, M') := by
                    have := HQ.out.1
                    unfold putWays at this
                    rw [if_neg (by simp [hm1])] at this
                    exact this
                  obtain ⟨w5, hrun5, hset5, hg5⟩ := HQ.out.2.1.set (by omega) (z := t) (v := bh) (by omega) (by omega)
                  have HR : Hid (_ ∧ _ ∧ _) := ⟨hp2, hset5, hg5⟩
                  clear hp2 hset5 hg5 hm1
                  go_wp2_with fail
                  go_roundw
                  case rel =>
                    have hrr : ∀ y g, setH M1 t bh y = some g → 0 ≤ g ∧ g ≤ 20 := by
                      intro y g hy
                      unfold setH at hy
                      split at hy
                      · cases hy; exact hr2
                      · exact HQ.out.2.2.2 y g hy
                    exact ⟨p + 1, setH M1 t bh, by omega, by go_num, HR.out.1, HR.out.2.1, hrr, grown_trans HQ.out.2.2.1 HR.out.2.2⟩
                  case measure => simp [intOf]; omega
                | some q1 =>
                  rw [hm1] at hl2
                  simp only [Option.getD_some, Option.isSome_some] at hl2
                  by_cases ho : q1 = bh
                  · subst ho
                    have hp2 : putWays q1 (([xb, (j : Int) + 1] : List Int).drop (p + 1)) (setH M1 t q1) = (z, M') := by
                      have := HQ.out.1
                      unfold putWays at this
                      rw [if_neg (by simp [hm1])] at this
                      exact this
                    obtain ⟨w5, hrun5, hset5, hg5⟩ := HQ.out.2.1.set (by omega) (z := t) (v := q1) (by omega) (by omega)
                    have HR : Hid (_ ∧ _ ∧ _) := ⟨hp2, hset5, hg5⟩
                    clear hp2 hset5 hg5 hm1
                    go_wp2_with fail
                    go_roundw
                    case rel =>
                      have hrr : ∀ y g, setH M1 t q1 y = some g → 0 ≤ g ∧ g ≤ 20 := by
                        intro y g hy
                        unfold setH at hy
                        split at hy
                        · cases hy; exact hr2
                        · exact HQ.out.2.2.2 y g hy
                      exact ⟨p + 1, setH M1 t q1, by omega, by go_num, HR.out.1, HR.out.2.1, hrr, grown_trans HQ.out.2.2.1 HR.out.2.2⟩
                    case measure => simp [intOf]; omega
                  · have hob : (q1 != bh) = true := by simpa using ho
                    have e : z = 8 := by
                      have := HQ.out.1
                      unfold putWays at this
                      rw [if_pos (by simp [hm1, ho])] at this
                      simp only [Prod.mk.injEq] at this
                      exact this.1.symm
                    subst e
                    have hcc := HK.out.2.2.symm.trans ((HE.out.1 _ _ HP.out).1 (by decide))
                    simp only [Prod.mk.injEq] at hcc
                    obtain ⟨rfl, rfl⟩ := hcc
                    clear hm1
                    go_wp2_with (go_at_call 25; refine (F_any 8 (j : Int) _).mono ?_; rintro r w9 ⟨rfl, hb9⟩; have H9 : Hid (SF w w9 (w.heap.size + 1) tb) := (HW.out.2.2.grown HQ.out.2.2.1).grow hb9; obtain ⟨rs, rf, rl⟩ := cells_of (l := [_, _]) H9.out.res; have r0 := rs 0 _ rfl; have r1 := rs 1 _ rfl; clear hb9 rs)
                    exact bodyPost_ret (v := .agg #[.int .i64 8, .int .i64 (j : Int)]) (StF_ends (by simpa using setCell_at (i := 1) (u := .int .i64 (j : Int)) (setCell_at (i := 0) (u := .int .i64 8) H9.out.res)) rfl) rfl ⟨rfl, (H9.out.bel.setCell (Nat.le_refl _) _).setCell (Nat.le_refl _) _⟩
              · have hpe : p = 2 := by omega
                subst hpe
                have e : z = 0 ∧ M' = M1 := by simpa [putWays, eq_comm] using hput
                obtain ⟨rfl, rfl⟩ := e
                have HQ : Hid (_ ∧ _ ∧ _) := ⟨hht, hgr, hm1r⟩
                clear hht hgr hput hm1r
                go_wp2_with fail
                go_roundw
                case rel => exact ⟨j + 1, N + 2, _, by omega, by go_num, by omega, HQ.out.2.2, (HE.out.1 _ _ HP.out).2 rfl, HQ.out.1, HW.out.2.2.grown HQ.out.2.1⟩
                case measure => simp [intOf]; omega
          · have g11 : ((m : Int) == 11) = false := by simp; omega
            have g11'' : ¬ (m : Int) = 11 := by omega
            have g12 : ((m : Int) == 12) = false := by simp; omega
            have g12'' : ¬ (m : Int) = 12 := by omega
            have g14 : ((m : Int) == 14) = false := by simp; omega
            have g14'' : ¬ (m : Int) = 14 := by omega
            have g11' : ((m : Int) != 11) = true := by simp; omega
            have hw : waysOf j ⟨(m : Int), xa, xb⟩ = [(j : Int) + 1] := by unfold waysOf; dsimp only; rw [if_neg g11'', if_neg g12'', if_neg g14'']
            have HE : Hid ((∀ z M', putWays bh [(j : Int) + 1] M = (z, M') → (z ≠ 0 → stackEnd l = (z, (j : Int))) ∧ (z = 0 → stackScan (l.drop (j + 1)) (j + 1) M' = stackScan l 0 M0)) ∧ (∀ t ∈ [(j : Int) + 1], 0 ≤ t ∧ t ≤ 1000000)) := ⟨fun z M' e => HS.out.1.1 z M' (by rw [hst, hw, hbh]; exact e), by have := HS.out.2.2.1; rw [hw] at this; exact this⟩
            clear hst hw
            go_wp2_with fail
            go_quiet (fail)
            go_wp2_with fail
            go_quiet (fail)
            try simp only [hbh]
            go_wp2_with (at_builtin; refine wp_push rfl (.tmp 102) (.tmp 105) rfl _ (.slice none 0 0) [] ((j : Int) + 1) (wr.heap.size + 1) (by simp) rfl rfl (World.ownsRow_nil _ _ _ _) (Nat.le_refl _) (by simp) ?_; intro ad1 c1 w3 ho3 hb3; simp only [List.length_nil, Nat.zero_add, List.nil_append] at ho3 ⊢; have hq3 : Below wr.heap.size wr w3 := below_seq (by first | exact below_seq' (below_new _ _) | exact below_seq' (below_seq' (below_new _ _))) hb3; have c0 : w3.cell? ⟨wr.heap.size, 0, none⟩ = some (.int .i64 m) := below_cell hb3 (by go_simp); have H3 : Hid ((w3.ownsRow _ 3 1 (.slice ad1 1 c1) 1 (intVs [(j : Int) + 1]) ∧ Below _ _ w3) ∧ Below wr.heap.size wr w3) := ⟨⟨ho3, hb3⟩, hq3⟩; clear ho3 hb3 hq3)
            have H4 : Hid (w3.ownsRow _ 3 1 (.slice ad1 1 c1) 1 (intVs [(j : Int) + 1]) ∧ Below wr.heap.size wr w3) := ⟨H3.out.1.1, H3.out.2⟩
            obtain ⟨rb, ro, had, hrow⟩ := row_of_own H4.out.1 rfl (by decide)
            subst had
            have HW : Hid ((∀ p, p < 1 → w3.cell? ⟨rb, ro + p, none⟩ = some (.int .i64 (([(j : Int) + 1] : List Int).getD p 0))) ∧ HtAt w3 (w.heap.size + 1) N M ∧ SF w w3 (w.heap.size + 1) tb) := ⟨hrow, HS.out.2.1.1.below H4.out.2, HS.out.2.1.2.grow H4.out.2⟩
            clear hrow
            rcases hpw : putWays bh [(j : Int) + 1] M with ⟨z, M'⟩
            have HP : Hid (putWays bh [(j : Int) + 1] M = (z, M')) := hpw
            clear hpw
            go_loopw [109] (fun i wq => ∃ (p : Nat) (M1 : Int → Option Int), p ≤ 1 ∧ i = .int .i64 p ∧ putWays bh (([(j : Int) + 1] : List Int).drop p) M1 = (z, M') ∧ HtAt wq (w.heap.size + 1) (N + p) M1 ∧ (∀ z h, M1 z = some h → 0 ≤ h ∧ h ≤ 20) ∧ w3.grownBy wq (some (w.heap.size + 1))) (fun i _ => 1 - (intOf i).toNat)
            case atStart => exact ⟨0, M, Nat.zero_le _, rfl, HP.out, HW.out.2.1, HS.out.2.2.2, ⟨rfl, rfl, rfl, Nat.le_refl _, fun _ _ _ => rfl⟩⟩
            case round =>
              obtain ⟨p, M1, hp1, rfl, hput, hht, hm1r, hgr⟩ := hrel
              by_cases hlt2 : p < 1
              · have q := hgr.cell (HW.out.1 p hlt2) (by simpa using not_map (HW.out.1 p hlt2) HW.out.2.1)
                have hget : ([(j : Int) + 1] : List Int).getD p 0 = ([(j : Int) + 1] : List Int)[p] := by rw [List.getD_eq_getElem?_getD, List.getElem?_eq_getElem (show p < ([(j : Int) + 1] : List Int).length from hlt2)]; rfl
                have hmem := HE.out.2 (([(j : Int) + 1] : List Int).getD p 0) (by rw [hget]; exact List.getElem_mem _)
                have hdrop : ([(j : Int) + 1] : List Int).drop p = ([(j : Int) + 1] : List Int).getD p 0 :: ([(j : Int) + 1] : List Int).drop (p + 1) := by rw [hget]; exact List.drop_eq_getElem_cons _
                rw [hdrop] at hput
                generalize ([(j : Int) + 1] : List Int).getD p 0 = t at *
                have hl2 := hht.look (z := t) (by omega)
                have HQ : Hid (_ ∧ _ ∧ _ ∧ _) := ⟨hput, hht, hgr, hm1r⟩
                clear hput hht hgr hget hdrop hm1r
                cases hm1 : M1 t with
                | none =>
                  rw [hm1] at hl2
                  simp only [Option.getD_none, Option.isSome_none] at hl2
                  have hp2 : putWays bh (([(j : Int) + 1] : List Int).drop (p + 1)) (setH M1 t bh) = (z, M') := by
                    have := HQ.out.1
                    unfold putWays at this
                    rw [if_neg (by simp [hm1])] at this
                    exact this
                  obtain ⟨w5, hrun5, hset5, hg5⟩ := HQ.out.2.1.set (by omega) (z := t) (v := bh) (by omega) (by omega)
                  have HR : Hid (_ ∧ _ ∧ _) := ⟨hp2, hset5, hg5⟩
                  clear hp2 hset5 hg5 hm1
                  go_wp2_with fail
                  go_roundw
                  case rel =>
                    have hrr : ∀ y g, setH M1 t bh y = some g → 0 ≤ g ∧ g ≤ 20 := by
                      intro y g hy
                      unfold setH at hy
                      split at hy
                      · cases hy; exact hr2
                      · exact HQ.out.2.2.2 y g hy
                    exact ⟨p + 1, setH M1 t bh, by omega, by go_num, HR.out.1, HR.out.2.1, hrr, grown_trans HQ.out.2.2.1 HR.out.2.2⟩
                  case measure => simp [intOf]; omega
                | some q1 =>
                  rw [hm1] at hl2
                  simp only [Option.getD_some, Option.isSome_some] at hl2
                  by_cases ho : q1 = bh
                  · subst ho
                    have hp2 : putWays q1 (([(j : Int) + 1] : List Int).drop (p + 1)) (setH M1 t q1) = (z, M') := by
                      have := HQ.out.1
                      unfold putWays at this
                      rw [if_neg (by simp [hm1])] at this
                      exact this
                    obtain ⟨w5, hrun5, hset5, hg5⟩ := HQ.out.2.1.set (by omega) (z := t) (v := q1) (by omega) (by omega)
                    have HR : Hid (_ ∧ _ ∧ _) := ⟨hp2, hset5, hg5⟩
                    clear hp2 hset5 hg5 hm1
                    go_wp2_with fail
                    go_roundw
                    case rel =>
                      have hrr : ∀ y g, setH M1 t q1 y = some g → 0 ≤ g ∧ g ≤ 20 := by
                        intro y g hy
                        unfold setH at hy
                        split at hy
                        · cases hy; exact hr2
                        · exact HQ.out.2.2.2 y g hy
                      exact ⟨p + 1, setH M1 t q1, by omega, by go_num, HR.out.1, HR.out.2.1, hrr, grown_trans HQ.out.2.2.1 HR.out.2.2⟩
                    case measure => simp [intOf]; omega
                  · have hob : (q1 != bh) = true := by simpa using ho
                    have e : z = 8 := by
                      have := HQ.out.1
                      unfold putWays at this
                      rw [if_pos (by simp [hm1, ho])] at this
                      simp only [Prod.mk.injEq] at this
                      exact this.1.symm
                    subst e
                    have hcc := HK.out.2.2.symm.trans ((HE.out.1 _ _ HP.out).1 (by decide))
                    simp only [Prod.mk.injEq] at hcc
                    obtain ⟨rfl, rfl⟩ := hcc
                    clear hm1
                    go_wp2_with (go_at_call 25; refine (F_any 8 (j : Int) _).mono ?_; rintro r w9 ⟨rfl, hb9⟩; have H9 : Hid (SF w w9 (w.heap.size + 1) tb) := (HW.out.2.2.grown HQ.out.2.2.1).grow hb9; obtain ⟨rs, rf, rl⟩ := cells_of (l := [_, _]) H9.out.res; have r0 := rs 0 _ rfl; have r1 := rs 1 _ rfl; clear hb9 rs)
                    exact bodyPost_ret (v := .agg #[.int .i64 8, .int .i64 (j : Int)]) (StF_ends (by simpa using setCell_at (i := 1) (u := .int .i64 (j : Int)) (setCell_at (i := 0) (u := .int .i64 8) H9.out.res)) rfl) rfl ⟨rfl, (H9.out.bel.setCell (Nat.le_refl _) _).setCell (Nat.le_refl _) _⟩
              · have hpe : p = 1 := by omega
                subst hpe
                have e : z = 0 ∧ M' = M1 := by simpa [putWays, eq_comm] using hput
                obtain ⟨rfl, rfl⟩ := e
                have HQ : Hid (_ ∧ _ ∧ _) := ⟨hht, hgr, hm1r⟩
                clear hht hgr hput hm1r
                go_wp2_with fail
                go_roundw
                case rel => exact ⟨j + 1, N + 1, _, by omega, by go_num, by omega, HQ.out.2.2, (HE.out.1 _ _ HP.out).2 rfl, HQ.out.1, HW.out.2.2.grown HQ.out.2.1⟩
                case measure => simp [intOf]; omega
    · have hje : j = l.length := by omega
      subst hje
      rw [List.drop_length, stackScan] at hsc
      have hck : stackEnd l = (if (M l.length).getD 0 ≠ 0 then (8, (l.length : Int)) else (0, 0)) := by
        unfold stackEnd; rw [← hsc]
      have hlook := hM.look1 (z := (l.length : Int)) (by omega)
      obtain ⟨rs, rf, rl⟩ := cells_of (l := [_, _]) hsf.res
      have r0 := rs 0 _ rfl
      have r1 := rs 1 _ rfl
      have HS : Hid ((c, k) = (if (M l.length).getD 0 ≠ 0 then (8, (l.length : Int)) else (0, 0)) ∧ SF w wr (w.heap.size + 1) tb) := ⟨HK.out.2.2.symm.trans hck, hsf⟩
      clear hck hM hsf rs hsc hr
      obtain ⟨z, hze⟩ : ∃ z, (M (l.length : Int)).getD 0 = z := ⟨_, rfl⟩
      rw [hze] at hlook HS
      by_cases hz : z = 0
      · subst hz
        go_wp2_with fail
        have hcc := HS.out.1
        rw [if_neg (by simp)] at hcc
        simp only [Prod.mk.injEq] at hcc
        obtain ⟨rfl, rfl⟩ := hcc
        exact bodyPost_ret (v := .agg #[.int .i64 0, .int .i64 0]) (StF_ends (by simpa using setCell_at (i := 1) (u := .int .i64 0) (setCell_at (i := 0) (u := .int .i64 0) HS.out.2.res)) rfl) rfl ⟨rfl, (HS.out.2.bel.setCell (Nat.le_refl _) _).setCell (Nat.le_refl _) _⟩
      · have hzb : (z != 0) = true := by simpa using hz
        have hcc := HS.out.1
        rw [if_pos (by simpa using hz)] at hcc
        simp only [Prod.mk.injEq] at hcc
        obtain ⟨rfl, rfl⟩ := hcc
        clear r0 r1 rf rl
        go_wp2_with (go_at_call 25; refine (F_any 8 (l.length : Int) _).mono ?_; rintro r w9 ⟨rfl, hb9⟩; have H9 : Hid (SF w w9 (w.heap.size + 1) tb) := HS.out.2.grow hb9; obtain ⟨rs, rf, rl⟩ := cells_of (l := [_, _]) H9.out.res; have r0 := rs 0 _ rfl; have r1 := rs 1 _ rfl; clear hb9 rs)
        exact bodyPost_ret (v := .agg #[.int .i64 8, .int .i64 (l.length : Int)]) (StF_ends (by simpa using setCell_at (i := 1) (u := .int .i64 (l.length : Int)) (setCell_at (i := 0) (u := .int .i64 8) H9.out.res)) rfl) rfl ⟨rfl, (H9.out.bel.setCell (Nat.le_refl _) _).setCell (Nat.le_refl _) _⟩
end Go.Proofs.YtgemadoieielcacDoor
