import Derived.Test.YtcmoehednkaehahGSH
namespace Go.Proofs.Ytcmoehednkaehah
open Go.ChangeShapes Go.WideShapes Go.ChangeAt Go.RowKit

theorem el_wAc {x : Rs} {a : Nat → Int} {now : Int} {i : Nat} {e : En} {z : Int} (he : x.es[i]? = some e) (hz : x.en[i]? = some z) : Elig { x with es := wAc x.es a } now i ↔ (z = -1 ∧ e.x.a ≤ now ∧ e.wt = -1) := by
  constructor
  · rintro ⟨e', h1, h2, h3, h4⟩
    rw [wAc_at he] at h1
    cases h1
    rw [show ({ x with es := wAc x.es a } : Rs).en = x.en from rfl, hz] at h2
    cases h2
    exact ⟨rfl, h3, h4⟩
  · rintro ⟨rfl, h2, h3⟩
    exact ⟨_, wAc_at he, hz, h2, h3⟩

theorem bf_wAc {x : Rs} {a : Nat → Int} {i j : Nat} {e g : En} (he : x.es[i]? = some e) (hg : x.es[j]? = some g) (h : bf { e with ac := a i } i { g with ac := a j } j) : bfR { x with es := wAc x.es a } i j := by
  intro e' g' h1 h2
  rw [wAc_at he] at h1
  rw [wAc_at hg] at h2
  cases h1
  cases h2
  exact h

set_option maxRecDepth 20000 in
set_option maxHeartbeats 8000000 in
/-- punctualref.next. -/
theorem next_any (W : World) (d : Dd) (pr : Int) (hpr : pr = 1 ∨ pr = 2 ∨ pr = 3) (lv : Value) (l : List Lj) (x : Rs) (cnt : Nat) (D : DataW Unit) (hv : DV W d pr lv l x cnt D) (hn : l.length ≤ 100) {now : Nat} (g : GI l now x) :
    Calls Try.prog 18 #[.pointer (some ⟨d.S, 0, none⟩), .int .i64 (now : Int)] W fun r W' => ∃ f, r = .returned (.int .i64 f) ∧ Fst pr (topsF l) l.length x now f ∧ Below W.heap.size W W' := by
  obtain ⟨a, ha⟩ := ac_some g (topsF l) pr hpr
  obtain ⟨ad, cp, rfl⟩ := hv.job.1.len
  obtain ⟨c0, -⟩ := hv.own
  have HStr := strength_any W d pr hpr (.slice ad l.length cp) l x cnt D hv hn g a ha
  have HV : Hid ((∀ wr, Below W.heap.size W wr → DV wr d pr (.slice ad l.length cp) l x cnt D) ∧ GI l now x ∧ IsAc pr (topsF l) x a) := ⟨fun wr hb => hv.grow hb, g, ha⟩
  have hxl := g.len
  have hel := g.ne
  clear hv g ha hpr
  unfold sl0 at *
  go_enter Try.func18, Try.ntmps18
  go_wp2_with (go_at_call 27; refine HStr.mono ?_; rintro r w1 ⟨rfl, hr1⟩; have H1 : Hid (RowW W w1 l.length a) := hr1; obtain ⟨q0, -⟩ := (HV.out.1 w1 hr1.bel).own; clear hr1 HStr)
  go_loopw [6, 17] (fun f i wr => ∃ (k : Nat) (z : Int), k ≤ l.length ∧ f = .int .i64 z ∧ i = .int .i64 k ∧ RowW W wr l.length a ∧ Best { x with es := wAc x.es a } now k z) (fun _ i _ => l.length - (intOf i).toNat)
  case atStart => exact ⟨0, -1, Nat.zero_le _, rfl, rfl, H1.out, Best.zero _ _⟩
  case round =>
    obtain ⟨k, f, hk, rfl, rfl, hr, hbe⟩ := hrel
    by_cases hlt : k < l.length
    · obtain ⟨e, he⟩ := at_lt hxl hlt
      obtain ⟨z, hz⟩ := at_lt hel hlt
      have hvw := HV.out.1 wr hr.bel
      obtain ⟨p0, p1, -, -, -, p5, p6, p7, -⟩ := hvw.own
      obtain ⟨lS, -, -, -, lB, lW, lD, -⟩ := hvw.lts
      obtain ⟨-, -, k2, k3⟩ := hvw.ent he
      have k4 := hvw.dn hz
      have hy := HV.out.2.1.job he
      obtain ⟨⟨ad', cp', e', -, -, hrw⟩, hra⟩ := hvw.job
      cases e'
      rcases hrw with h | ⟨jb, jo, rfl, hrow⟩
      · rw [h] at hy; simp at hy
      have hja := lj_at hrow hy
      have hac := hra _ (List.mem_of_getElem? hy)
      obtain ⟨⟨ya, yp, yacts, yv⟩, enx, ern, ebg, ewt, eac⟩ := e
      dsimp only at hac hja k2 k3
      obtain ⟨aad, ac, rfl⟩ := hac.len
      obtain ⟨j0, j1, j2⟩ := hja
      dsimp only at j0 j1 j2
      have jl : jb < wr.heap.size := World.block_lt_of_cell? _ _ j0
      have hki : (k : Int) < (l.length : Int) := by omega
      obtain ⟨r0, -, r2⟩ := hr.at_ hlt
      have hne : ¬ (wr.heap.size = W.heap.size) := by omega
      have hEl := el_wAc (a := a) (now := (now : Int)) he hz
      dsimp only at hEl
      have HR : Hid (RowW W (wr.alloc (.cells #[.int .i64 ya, .int .i64 yp, .slice aad yacts.length ac] 47)) l.length a ∧ Best { x with es := wAc x.es a } now k f) := ⟨hr.grow (below_new _ _), hbe⟩
      have HW : Hid (ewt = -1 ∨ 0 ≤ ewt) := by
        rcases HV.out.2.1.wt k _ he with h | ⟨m, h, h1, h2, h3⟩
        · exact .inl h
        · exact .inr (by dsimp only at h2; omega)
      unfold sl0 at *
      by_cases hat : (now : Int) < ya
      · have HN : Hid (Best { x with es := wAc x.es a } now (k + 1) f) := hbe.skip (by rw [hEl]; omega)
        clear hr hbe hvw hrow hra hac hy he hz hEl
        go_wp2_with fail
        exact ⟨⟨k + 1, f, by omega, rfl, by simp, HR.out.1, HN.out⟩, by simp [intOf]; omega⟩
      · by_cases hz1 : z = -1
        · subst hz1
          by_cases hw : ewt = -1
          · subst hw
            have hel1 : Elig { x with es := wAc x.es a } now k := by rw [hEl]; exact ⟨rfl, by omega, rfl⟩
            rcases hbe with ⟨rfl, hno⟩ | ⟨i, hik, rfl, heli, hbest⟩
            · have HN : Hid (Best { x with es := wAc x.es a } now (k + 1) k) := Best.first (.inl ⟨rfl, hno⟩) hel1
              clear hr hno hvw hrow hra hac hy he hz hEl hel1
              go_wp2_with fail
              exact ⟨⟨k + 1, k, by omega, rfl, by simp, HR.out.1, HN.out⟩, by simp [intOf]; omega⟩
            · have hb0 : Best { x with es := wAc x.es a } now k (i : Int) := .inr ⟨i, hik, rfl, heli, hbest⟩
              have hil : i < l.length := by omega
              obtain ⟨gi, hgi⟩ := at_lt hxl hil
              obtain ⟨-, -, n2, -⟩ := hvw.ent hgi
              have hyi := HV.out.2.1.job hgi
              have hji := lj_at hrow hyi
              have haci := hra _ (List.mem_of_getElem? hyi)
              have hwin := fun hq => Best.win hb0 hel1 (bf_wAc (a := a) he hgi hq)
              have hkeep := fun hq => Best.keep hb0 (bf_wAc (a := a) hgi he hq)
              obtain ⟨⟨xa, xp, xacts, xv⟩, gnx, grn, gbg, gwt, gac⟩ := gi
              dsimp only at haci hji n2 hwin hkeep
              obtain ⟨gad, gc, rfl⟩ := haci.len
              obtain ⟨i0, i1, i2⟩ := hji
              dsimp only at i0 i1 i2
              obtain ⟨ri, -, -⟩ := hr.at_ hil
              have hii : (i : Int) < (l.length : Int) := by omega
              have hi0 : ¬ ((i : Int) < 0) := by omega
              have HR2 : Hid (RowW W ((wr.alloc (.cells #[.int .i64 ya, .int .i64 yp, .slice aad yacts.length ac] 47)).alloc (.cells #[.int .i64 xa, .int .i64 xp, .slice gad xacts.length gc] 47)) l.length a) := HR.out.1.grow (below_new _ _)
              have hs2 : W.heap.size < wr.heap.size := r2
              clear hbest heli hb0 hvw hyi haci
              by_cases hq1 : a k = a i
              · have hq1' : (a k != a i) = false := by simpa using hq1
                by_cases hq2 : ebg = gbg
                · have hq2' : (ebg != gbg) = false := by simpa using hq2
                  by_cases hq3 : ya < xa
                  · have HN : Hid (Best { x with es := wAc x.es a } now (k + 1) k) := hwin (by unfold bf; dsimp only; rw [hq2]; omega)
                    clear hr hrow hra hac hy he hz hEl hel1 hgi hwin hkeep
                    go_wp2_with fail
                    go_quiet (fail)
                    go_wp2_with fail
                    go_quiet (fail)
                    go_wp2_with fail
                    exact ⟨⟨k + 1, k, by omega, rfl, by simp, by first | exact HR2.out | exact HR2.out.grow below_drewN' | exact (HR2.out.grow below_drewN').grow below_drewN' | exact ((HR2.out.grow below_drewN').grow below_drewN').grow below_drewN', HN.out⟩, by simp [intOf]; omega⟩
                  · have HN : Hid (Best { x with es := wAc x.es a } now (k + 1) i) := hkeep (by unfold bf; dsimp only; rw [hq2]; omega)
                    clear hr hrow hra hac hy he hz hEl hel1 hgi hwin hkeep
                    go_wp2_with fail
                    go_quiet (fail)
                    go_wp2_with fail
                    go_quiet (fail)
                    go_wp2_with fail
                    exact ⟨⟨k + 1, i, by omega, rfl, by simp, by first | exact HR2.out | exact HR2.out.grow below_drewN' | exact (HR2.out.grow below_drewN').grow below_drewN' | exact ((HR2.out.grow below_drewN').grow below_drewN').grow below_drewN', HN.out⟩, by simp [intOf]; omega⟩
                · have hq2' : (ebg != gbg) = true := by simpa using hq2
                  cases ebg
                  · cases gbg
                    · exact absurd rfl hq2
                    · have HN : Hid (Best { x with es := wAc x.es a } now (k + 1) i) := hkeep (by unfold bf ltr; dsimp only; simp; omega)
                      clear hr hrow hra hac hy he hz hEl hel1 hgi hwin hkeep hq2 hq2'
                      go_wp2_with fail
                      go_quiet (fail)
                      go_wp2_with fail
                      go_quiet (fail)
                      go_wp2_with fail
                      exact ⟨⟨k + 1, i, by omega, rfl, by simp, by first | exact HR2.out | exact HR2.out.grow below_drewN' | exact (HR2.out.grow below_drewN').grow below_drewN' | exact ((HR2.out.grow below_drewN').grow below_drewN').grow below_drewN', HN.out⟩, by simp [intOf]; omega⟩
                  · cases gbg
                    · have HN : Hid (Best { x with es := wAc x.es a } now (k + 1) k) := hwin (by unfold bf ltr; dsimp only; simp; omega)
                      clear hr hrow hra hac hy he hz hEl hel1 hgi hwin hkeep hq2 hq2'
                      go_wp2_with fail
                      go_quiet (fail)
                      go_wp2_with fail
                      go_quiet (fail)
                      go_wp2_with fail
                      exact ⟨⟨k + 1, k, by omega, rfl, by simp, by first | exact HR2.out | exact HR2.out.grow below_drewN' | exact (HR2.out.grow below_drewN').grow below_drewN' | exact ((HR2.out.grow below_drewN').grow below_drewN').grow below_drewN', HN.out⟩, by simp [intOf]; omega⟩
                    · exact absurd rfl hq2
              · have hq1' : (a k != a i) = true := by simpa using hq1
                by_cases hq2 : a i < a k
                · have HN : Hid (Best { x with es := wAc x.es a } now (k + 1) k) := hwin (by unfold bf; dsimp only; omega)
                  clear hr hrow hra hac hy he hz hEl hel1 hgi hwin hkeep
                  go_wp2_with fail
                  go_quiet (fail)
                  go_wp2_with fail
                  go_quiet (fail)
                  go_wp2_with fail
                  exact ⟨⟨k + 1, k, by omega, rfl, by simp, by first | exact HR2.out | exact HR2.out.grow below_drewN' | exact (HR2.out.grow below_drewN').grow below_drewN' | exact ((HR2.out.grow below_drewN').grow below_drewN').grow below_drewN', HN.out⟩, by simp [intOf]; omega⟩
                · have hq2' : decide (a i < a k) = false := by simpa using hq2
                  have HN : Hid (Best { x with es := wAc x.es a } now (k + 1) i) := hkeep (by unfold bf; dsimp only; omega)
                  clear hr hrow hra hac hy he hz hEl hel1 hgi hwin hkeep
                  go_wp2_with fail
                  go_quiet (fail)
                  go_wp2_with fail
                  go_quiet (fail)
                  go_wp2_with fail
                  exact ⟨⟨k + 1, i, by omega, rfl, by simp, by first | exact HR2.out | exact HR2.out.grow below_drewN' | exact (HR2.out.grow below_drewN').grow below_drewN' | exact ((HR2.out.grow below_drewN').grow below_drewN').grow below_drewN', HN.out⟩, by simp [intOf]; omega⟩
          · have hw0 : 0 ≤ ewt := by rcases HW.out with h | h; exact absurd h hw; exact h
            have HN : Hid (Best { x with es := wAc x.es a } now (k + 1) f) := hbe.skip (by rw [hEl]; omega)
            clear hr hbe hvw hrow hra hac hy he hz hEl
            go_wp2_with fail
            exact ⟨⟨k + 1, f, by omega, rfl, by simp, HR.out.1, HN.out⟩, by simp [intOf]; omega⟩
        · have hz2 : (z != -1) = true := by simpa using hz1
          rw [hz2] at k4
          have HN : Hid (Best { x with es := wAc x.es a } now (k + 1) f) := hbe.skip (by rw [hEl]; omega)
          clear hr hbe hvw hrow hra hac hy he hz hEl
          go_wp2_with fail
          exact ⟨⟨k + 1, f, by omega, rfl, by simp, HR.out.1, HN.out⟩, by simp [intOf]; omega⟩
    · have hke : k = l.length := by omega
      subst hke
      have HE : Hid (Fst pr (topsF l) l.length x now f ∧ Below W.heap.size W wr) := ⟨⟨a, HV.out.2.2, hbe⟩, hr.bel⟩
      clear hr hbe
      go_wp2_with fail
      go_ret
      exact ⟨f, rfl, HE.out⟩
end Go.Proofs.Ytcmoehednkaehah
