import Derived.Test.YtkafihaajpifoafAK
import Derived.Deep.CutRange
import Derived.Deep.CutBlock
namespace Go.Proofs.Ytkafihaajpifoaf
open Go.ChangeShapes Go.WideShapes Go.ChangeAt Go.RowKit

theorem few_anyB (w : World) (n : Int) : Calls Try.prog 8 #[.int .i64 n] w fun r w' => r = .returned (.bool (decide (n ≤ 5000))) ∧ w' = w := by
  go_enter Try.func8, Try.ntmps8
  go_wp2_with fail
  go_ret
  exact ⟨rfl, rfl⟩

theorem RowHi.mono {B B' : Nat} {W : World} {m : List Ta} {u : Value} (h : RowHi B W m u) (hB : B' < B) : RowHi (B' + 1) W m u := by
  obtain ⟨g, cap, e, h1, h2⟩ := h
  exact ⟨g, cap, e, by omega, h2⟩

/-- What the law holds. -/
structure BW (w W : World) (G : Nat) (m : List Ta) (u : Value) : Prop where
  bel : Below w.heap.size w W
  flt : W.heap[G]? = some (.cells #[.int .i64 0, .int .i64 0] 29 (0, 0))
  low : w.heap.size ≤ G
  row : RowHi (G + 1) W m u

theorem BW.grow {w W W' : World} {G : Nat} {m : List Ta} {u : Value} (h : BW w W G m u) (hb : Below W.heap.size W W') : BW w W' G m u := ⟨below_seq h.bel hb, (hb.block _ (lt_heap h.flt)).trans h.flt, h.low, h.row.grow hb⟩

set_option maxRecDepth 20000 in
set_option maxHeartbeats 16000000 in
theorem best_walk (w : World) (l : List Ta) (bs : List Int) (v v2 : Value) (hv : RowSl Ta.vals w l v) (hv2 : RowSl nuV w bs v2) :
    Calls Try.prog 5 #[v, v2] w fun r w' => r = .returned (.bool true) ∧ Below w.heap.size w w' := by
  have hv' := hv
  have hv2' := hv2
  obtain ⟨ad, c, rfl, -, hcap, hrow⟩ := hv
  obtain ⟨ad2, c2, rfl, -, hcap2, hrow2⟩ := hv2
  have HR : Hid (l = [] ∨ ∃ b o, ad = some ⟨b, o, none⟩ ∧ ∀ q u, (l.flatMap Ta.vals)[q]? = some u → w.cell? ⟨b, o + q, none⟩ = some u) := hrow
  have HR2 : Hid (bs = [] ∨ ∃ b o, ad2 = some ⟨b, o, none⟩ ∧ ∀ q u, (bs.flatMap nuV)[q]? = some u → w.cell? ⟨b, o + q, none⟩ = some u) := hrow2
  have HV : Hid (RowSl Ta.vals w l (.slice ad l.length c) ∧ RowSl nuV w bs (.slice ad2 bs.length c2)) := ⟨hv', hv2'⟩
  clear hrow hrow2 hv' hv2'
  go_enter Try.func5, Try.ntmps5
  go_upto_region 3 with (go_at_call 6; refine (responds_any _).mono ?_; rintro r w1 ⟨rfl, hb1⟩; have H1 : Hid (Below w.heap.size w w1) := hb1; clear hb1)
  by_cases hl : l.length ≤ 5000
  rotate_left 1
  · have hl' : decide ((l.length : Int) ≤ 5000) = false := by simp; omega
    go_wp2_with (go_at_call 8; refine (few_anyB _ _).mono ?_; rintro r w2 ⟨rfl, hw2⟩; subst hw2; rw [hl'])
    go_ret
    exact ⟨rfl, H1.out⟩
  have hl' : decide ((l.length : Int) ≤ 5000) = true := by simp; omega
  by_cases hb : bs.length ≤ 5000
  rotate_left 1
  · have hb' : decide ((bs.length : Int) ≤ 5000) = false := by simp; omega
    go_wp2_with (go_at_call 8; refine (few_anyB _ _).mono ?_; rintro r w2 ⟨rfl, hw2⟩; have hw2 := hw2.symm; subst hw2; first | rw [hl'] | rw [hb'])
    go_ret
    exact ⟨rfl, H1.out⟩
  have hb' : decide ((bs.length : Int) ≤ 5000) = true := by simp; omega
  have A9 := Responses_any w1 l bs _ _ (by omega) (HV.out.1.below H1.out) (HV.out.2.below H1.out)
  obtain ⟨rs, f1, f2, ER⟩ : ∃ rs f1 f2, responsesF l bs = (rs, (f1, f2)) := ⟨_, _, _, rfl⟩
  have EE : Hid (responsesF l bs = (rs, (f1, f2))) := ER
  rw [ER] at A9
  dsimp only at A9
  clear ER
  go_upto_region 5 with (go_at_call 8; refine (few_anyB _ _).mono ?_; rintro r w2 ⟨rfl, hw2⟩; have hw2 := hw2.symm; subst hw2; first | rw [hl'] | rw [hb'])
  go_upto_region 6 with (go_at_call 9; refine A9.mono ?_; rintro r w3 ⟨u3, rfl, hr3, hb3⟩; obtain ⟨a3, c3, rfl⟩ := hr3.len; have H3 : Hid (Below w.heap.size w (w3.alloc (.cells #[.int .i64 f1, .int .i64 f2] 29)) ∧ (w3.alloc (.cells #[.int .i64 f1, .int .i64 f2] 29)).heap[w3.heap.size]? = some (.cells #[.int .i64 f1, .int .i64 f2] 29 (0, 0)) ∧ w.heap.size ≤ w3.heap.size) := ⟨below_seq (below_seq H1.out hb3) (below_new _ _), heap_alloc_new _ _, (below_seq H1.out hb3).size⟩; clear hb3 hr3 A9 H1)
  generalize w3.alloc (.cells #[.int .i64 f1, .int .i64 f2] 29) = wA at *
  generalize w3.heap.size = G at *
  by_cases hf : f1 = 0
  rotate_left 1
  · have hnil : rs = [] := by
      have := responsesF_nil (l := l) (bs := bs) (by rw [EE.out]; exact hf)
      rw [EE.out] at this
      exact this
    have hz : (f1 != 0) = true := by simpa using hf
    subst hnil
    have g0 := (cells_of (l := [_, _]) H3.out.2.1).1 0 _ rfl
    clear hf
    go_wp2_with fail
    go_ret
    exact ⟨rfl, H3.out.1⟩
  have e2 : f2 = 0 := by
    have := responsesF_zero (l := l) (bs := bs) (by rw [EE.out]; exact hf)
    rw [EE.out] at this
    simpa using (congrArg Prod.snd this)
  subst hf e2
  obtain ⟨hX, hbl, -⟩ := responsesF_split EE.out
  obtain ⟨h0, -, hl0, h8, -, -⟩ := chkX_ok hX
  have hbb : ∀ b ∈ bs, 0 ≤ b ∧ b ≤ 10000 := fun b hb' => by
    obtain ⟨i, hi, e⟩ := List.getElem_of_mem hb'
    have := responses_each EE.out i (by omega)
    rw [List.getD_eq_getElem?_getD, List.getElem?_eq_getElem hi, e] at this
    exact this.2
  obtain ⟨m, ha, hml, hsame, hrm⟩ := best_ok EE.out
  have HM : Hid (∀ k, k < l.length → SameT (Tk m k) (Tk l k)) := hsame
  have HX : Hid ((chkF l).1 = 0 ∧ bs.length = l.length) := ⟨h0, hbl⟩
  have AA : Calls Try.prog 18 #[.slice ad l.length c, .slice ad2 bs.length c2] wA fun r w' => ∃ gB cB, r = .returned (.tuple #[.slice (some ⟨gB, 0, none⟩) m.length cB, .agg #[.int .i64 0, .int .i64 0]]) ∧ RowHi wA.heap.size w' m (.slice (some ⟨gB, 0, none⟩) m.length cB) ∧ Below wA.heap.size wA w' := by
    refine (Assign_good wA l bs _ _ hX hbl hbb (HV.out.1.below H3.out.1) (HV.out.2.below H3.out.1)).mono ?_
    rintro r w4 ⟨u4, z4, rfl, hres, hb4⟩
    rcases hres with ⟨hn, -, -⟩ | ⟨m', hm', rfl, hru⟩
    · rw [ha] at hn; cases hn
    · rw [ha] at hm'
      have em := Option.some.inj hm'
      subst em
      have hru' := hru
      obtain ⟨gB, cB, rfl, -, -⟩ := hru
      exact ⟨gB, cB, rfl, hru', hb4⟩
  have HV2 : Hid (RowSl nuV w bs (.slice ad2 l.length c2)) := by rw [← hbl]; exact HV.out.2
  have g0 := (cells_of (l := [_, _]) H3.out.2.1).1 0 _ rfl
  have HL : Hid (m.length = l.length) := hml
  rw [hbl] at AA ⊢
  rw [hml] at AA
  clear hsame hX hbb h0 hl0 hbl hml hcap2 hb hb' ha
  go_upto_region 8 with fail
  clear g0
  go_upto_region 9 with (go_at_call 18; refine AA.mono ?_; rintro r w4 ⟨gB, cB, rfl, hru4, hb4⟩; have H4 : Hid (BW w ((w4.setCell ⟨G, 0, none⟩ (.int .i64 0)).setCell ⟨G, 1, none⟩ (.int .i64 0)) G m (.slice (some ⟨gB, 0, none⟩) l.length cB)) := ⟨((below_seq H3.out.1 hb4).setCell H3.out.2.2 _).setCell H3.out.2.2 _, set_two ((hb4.block _ (lt_heap H3.out.2.1)).trans H3.out.2.1), H3.out.2.2, RowHi.set (RowHi.set (RowHi.mono hru4 (lt_heap H3.out.2.1)) (by omega)) (by omega)⟩; obtain ⟨rs1, rf1, rl1⟩ := cells_of (l := [_, _]) ((hb4.block _ (lt_heap H3.out.2.1)).trans H3.out.2.1); have r10 := rs1 0 _ rfl; have r11 := rs1 1 _ rfl; have f10 := rf1 0; have f11 := rf1 1; clear rs1 rf1 hb4 hru4 AA H3)
  clear r10 r11 f10 f11 rl1
  generalize (w4.setCell ⟨G, 0, none⟩ (.int .i64 0)).setCell ⟨G, 1, none⟩ (.int .i64 0) = wB at *
  have g0 := (cells_of (l := [_, _]) H4.out.flt).1 0 _ rfl
  obtain ⟨-, -, -, -, hrow4⟩ := H4.out.row
  have A9 := Responses_any wB m bs _ _ (by have := HL.out; omega) hrow4 (HV2.out.below H4.out.bel)
  rw [hrm] at A9
  dsimp only at A9
  clear hrow4 hrm
  go_upto_region 11 with fail
  clear g0
  go_upto_region 14 with (go_at_call 9; refine A9.mono ?_; rintro r w5 ⟨u5, rfl, -, hb5⟩; have H5 : Hid (BW w (w5.alloc (.cells #[.int .i64 0, .int .i64 0] 29)) G m (.slice (some ⟨gB, 0, none⟩) l.length cB)) := (H4.out.grow hb5).grow (below_new _ _); clear hb5 A9 H4)
  go_wp2_with fail
  generalize w5.alloc (.cells #[.int .i64 0, .int .i64 0] 29) = wC at *
  go_loopw [67] (fun vi wr => ∃ j : Nat, j ≤ l.length ∧ vi = .int .i64 j ∧ BW w wr G m (.slice (some ⟨gB, 0, none⟩) l.length cB) ∧ ∀ q, q < j → (Tk l q).j = 0 ∧ bs.getD q 0 = 0) (fun vi _ => l.length - (intOf vi).toNat)
  case atStart => exact ⟨0, Nat.zero_le _, rfl, H5.out, fun q hq => by omega⟩
  case round =>
    obtain ⟨j, hj, rfl, hA, hz⟩ := hrel
    have HA : Hid (BW w wr G m (.slice (some ⟨gB, 0, none⟩) l.length cB)) := hA
    by_cases hjl : j < l.length
    · rcases HR.out with h | ⟨gb, go, rfl, hr1⟩
      · rw [h] at hjl; simp at hjl
      obtain ⟨y0, y1, y2, y3, y4, y5, y6⟩ := ta_at (fun q u hq => below_cell hA.bel (hr1 q u hq)) (Tk_get hjl)
      obtain ⟨z, hzj, hzd⟩ : ∃ z, bs[j]? = some z ∧ bs.getD j 0 = z := ⟨bs[j]'(by rw [HX.out.2]; exact hjl), List.getElem?_eq_getElem _, by rw [List.getD_eq_getElem?_getD, List.getElem?_eq_getElem (by rw [HX.out.2]; exact hjl)]; rfl⟩
      rcases HR2.out with h | ⟨gb2, go2, rfl, hr2⟩
      · have := HX.out.2; rw [h] at this; simp at this; omega
      have yz := nu_at (fun q u hq => below_cell hA.bel (hr2 q u hq)) hzj
      have hmj : j < m.length := by have := HL.out; omega
      obtain ⟨-, -, -, -, ad9, c9, e9, -, -, h9⟩ := hA.row
      injection e9 with i1 i2 i3
      subst i1 i3
      rcases h9 with h9 | ⟨b9, o9, e9, h9⟩
      · rw [h9] at hmj; simp at hmj
      cases e9
      obtain ⟨x0, x1, x2, x3, x4, x5, x6⟩ := ta_at h9 (Tk_get hmj)
      obtain ⟨s1, s2, s3, s4, s5, s6⟩ := HM.out j hjl
      rw [s1] at x0
      rw [s2] at x1
      rw [s3] at x2
      rw [s4] at x3
      rw [s5] at x4
      rw [s6] at x5
      rw [Nat.zero_add] at x0 x1 x2 x3 x4 x5 x6
      have HZ : Hid ((Tk l j).j = 0 → z = 0 → ∀ q, q < j + 1 → (Tk l q).j = 0 ∧ bs.getD q 0 = 0) := fun q1 q2 q hq => by
        by_cases e : q = j
        · subst e; exact ⟨q1, hzd.trans q2⟩
        · exact hz q (by omega)
      have hji : (j : Int) < (l.length : Int) := by omega
      have lgB : gB < wr.heap.size := World.block_lt_of_cell? _ _ x0
      have lgb : gb2 < wr.heap.size := World.block_lt_of_cell? _ _ yz
      generalize Tk l j = tt at *
      generalize (Tk m j).p = bp at *
      obtain ⟨t0, t1, t2, t3, t4, t5, t6⟩ := tt
      dsimp only at y0 y1 y2 y3 y4 y5 y6 x0 x1 x2 x3 x4 x5 x6 HZ
      clear i2 hA hz hr1 hr2 hzj hzd h9 s1 s2 s3 s4 s5 s6
      by_cases p1 : t4 = 0
      · by_cases p2 : z = 0
        · go_wp2_with fail
          exact ⟨⟨j + 1, by omega, by simp, (HA.out.grow (below_new _ _)).grow (below_new _ _), HZ.out p1 p2⟩, by simp [intOf]; omega⟩
        · go_wp2_with fail
          go_ret
          exact ⟨rfl, ((HA.out.grow (below_new _ _)).grow (below_new _ _)).bel⟩
      · go_wp2_with fail
        go_ret
        exact ⟨rfl, ((HA.out.grow (below_new _ _)).grow (below_new _ _)).bel⟩
    · have hje : j = l.length := by omega
      subst hje
      have HZ : Hid (∀ q, q < l.length → (Tk l q).j = 0 ∧ bs.getD q 0 = 0) := hz
      have AD := Deadlines_good wr l _ HX.out.1 (HV.out.1.below hA.bel)
      clear hz hA
      go_upto_region 25 with (go_at_call 19; refine AD.mono ?_; rintro r w6 ⟨u6, od, rfl, hin, hru, hb6⟩; have hru' := hru; obtain ⟨gD, cD, e6, -, -⟩ := hru; rw [(ranks_of hin).1] at e6; subst e6; have H6 : Hid (BW w ((w6.setCell ⟨G, 0, none⟩ (.int .i64 0)).setCell ⟨G, 1, none⟩ (.int .i64 0)) G (rkF l od 0 l) (.slice (some ⟨gD, 0, none⟩) l.length cD) ∧ InOrd (fun k => (Tk l k).d) l.length od) := ⟨⟨((below_seq HA.out.bel hb6).setCell HA.out.low _).setCell HA.out.low _, set_two ((hb6.block _ (lt_heap HA.out.flt)).trans HA.out.flt), HA.out.low, RowHi.set (RowHi.set (RowHi.mono hru' (lt_heap HA.out.flt)) (by omega)) (by omega)⟩, hin⟩; obtain ⟨rs1, rf1, rl1⟩ := cells_of (l := [_, _]) ((hb6.block _ (lt_heap HA.out.flt)).trans HA.out.flt); have r10 := rs1 0 _ rfl; have r11 := rs1 1 _ rfl; have f10 := rf1 0; have f11 := rf1 1; clear rs1 rf1 hb6 hru' hin AD)
      clear r10 r11 f10 f11 rl1
      generalize (w6.setCell ⟨G, 0, none⟩ (.int .i64 0)).setCell ⟨G, 1, none⟩ (.int .i64 0) = wD at *
      have hsoon := soon_ok EE.out (fun k hk => (HZ.out k hk).1) (fun k hk => (HZ.out k hk).2) H6.out.2
      obtain ⟨-, -, -, -, hrow6⟩ := H6.out.1.row
      have A9 := Responses_any wD (rkF l od 0 l) bs _ _ (by rw [(ranks_of H6.out.2).1]; omega) hrow6 (HV2.out.below H6.out.1.bel)
      rw [hsoon] at A9
      dsimp only at A9
      clear hrow6 hsoon
      go_upto_region 26 with (go_at_call 9; refine A9.mono ?_; rintro r w7 ⟨u7, rfl, -, hb7⟩; have H7 : Hid (Below w.heap.size w (w7.alloc (.cells #[.int .i64 0, .int .i64 0] 29))) := below_seq (below_seq H6.out.1.bel hb7) (below_new _ _); have g0 := (cells_of (l := [_, _]) ((hb7.block _ (lt_heap H6.out.1.flt)).trans H6.out.1.flt)).1 0 _ rfl; have lG : G < w7.heap.size := World.block_lt_of_cell? _ _ g0; clear hb7 A9)
      go_wp2_with fail
      go_ret
      exact ⟨rfl, H7.out⟩

end Go.Proofs.Ytkafihaajpifoaf
