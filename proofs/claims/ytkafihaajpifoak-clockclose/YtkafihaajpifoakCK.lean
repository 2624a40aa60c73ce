import Derived.Test.YtkafihaajpifoakCJ
namespace Go.Proofs.Ytkafihaajpifoak
open Go.ChangeShapes Go.WideShapes Go.ChangeAt Go.RowKit Go.Sort

/-- The clocks as they are laid at first. -/
structure N0 (w W : World) (n Wb Nb : Nat) (runs : List Int) : Prop where
  bel : Below w.heap.size w W
  row : W.heap[Wb]? = some (.cells (runCells n runs).toArray 3 (0, 0))
  box : W.heap[Nb]? = some (.cells #[.slice (some ⟨Wb, 0, none⟩) n n] 22 (0, 0))
  low : w.heap.size ≤ Wb
  nb : Nb ≠ Wb

theorem N0.put {w W : World} {n Wb Nb : Nat} {runs : List Int} (h : N0 w W n Wb Nb runs) {v : Int} (hn : runs.length < n) : N0 w (W.setCell ⟨Wb, runs.length, none⟩ (.int .i64 v)) n Wb Nb (runs ++ [v]) := by
  refine ⟨h.bel.setCell h.low _, ?_, ?_, h.low, h.nb⟩
  · rw [setCell_list h.row, runCells_snoc hn]
  · rw [Below.heap_setCell _ _ _ _ (show Nb ≠ Wb from h.nb)]; exact h.box

theorem N0.good {w W : World} {n Wb Nb g : Nat} {runs : List Int} (h : N0 w W n Wb Nb runs) (hn : runs.length = n) : NW w (W.alloc (.cells #[.int .i64 (g : Int)] 3)) n Wb Nb W.heap.size g runs := by
  have hb := below_new W (.cells #[.int .i64 (g : Int)] 3)
  refine ⟨below_seq h.bel hb, ?_, (hb.block _ (ltH h.box)).trans h.box, heap_alloc_new _ _, h.low, h.nb, fun e => by have := ltH h.row; omega⟩
  rw [hb.block _ (ltH h.row), h.row, ← hn, runCells_full]

theorem clock_in (v : Int) : -1000000 ≤ v.tmod 1000000 ∧ v.tmod 1000000 ≤ 1000000 := by
  have h := tmod_in v 999999 (by omega)
  rw [show (999999 : Int) + 1 = 1000000 from rfl] at h
  omega

set_option maxRecDepth 20000 in
set_option maxHeartbeats 8000000 in
theorem close_walk (w : World) (cl : List Int) (lf : Int) (nl : List Ro) (mo : Int) (dr : List Int) (wo rd : Int) (v vn vd : Value) (hv : RowSl nuV w cl v) (hvn : TabSl w nl vn) (hvd : RowSl nuV w dr vd) :
    Calls Try.prog 3 #[v, .int .i64 lf, vn, .int .i64 mo, vd, .int .i64 wo, .int .i64 rd] w fun r w' => r = .returned (.bool true) ∧ Below w.heap.size w w' := by
  obtain ⟨ad, c, rfl⟩ := hv.len
  obtain ⟨ad1, c1, rfl⟩ := hvn.1.len
  obtain ⟨ad2, c2, rfl⟩ := hvd.len
  have HV : Hid (RowSl nuV w cl (.slice ad cl.length c) ∧ TabSl w nl (.slice ad1 nl.length c1) ∧ RowSl nuV w dr (.slice ad2 dr.length c2)) := ⟨hv, hvn, hvd⟩
  clear hv hvn hvd
  obtain ⟨n, hcn⟩ : ∃ n, cl.length = n := ⟨_, rfl⟩
  have HN : Hid (cl.length = n) := hcn
  rw [hcn]
  clear hcn
  by_cases c1' : n = 0
  · subst c1'
    go_enter Try.func3, Try.ntmps3
    go_wp2_with (go_at_call 4; refine (middle_any _).mono ?_; rintro r w1 ⟨rfl, hb1⟩; have H1 : Hid (Below w.heap.size w w1) := hb1; clear hb1)
    go_ret
    exact ⟨rfl, H1.out⟩
  have e1 : decide ((n : Int) < 1) = false := decide_eq_false (by omega)
  have e2 : decide (n < 1) = false := decide_eq_false (by omega)
  have e3 : decide (n = 0) = false := decide_eq_false c1'
  by_cases c2 : (10 : Int) < (n : Int)
  · have dd : decide ((10 : Int) < (n : Int)) = true := decide_eq_true c2
    go_enter Try.func3, Try.ntmps3
    go_wp2_with (go_at_call 4; refine (middle_any _).mono ?_; rintro r w1 ⟨rfl, hb1⟩; have H1 : Hid (Below w.heap.size w w1) := hb1; clear hb1)
    go_ret
    exact ⟨rfl, H1.out⟩
  have dc2 : decide ((10 : Int) < (n : Int)) = false := decide_eq_false c2
  by_cases c3 : lf < 0
  · have dd : decide (lf < 0) = true := decide_eq_true c3
    go_enter Try.func3, Try.ntmps3
    go_wp2_with (go_at_call 4; refine (middle_any _).mono ?_; rintro r w1 ⟨rfl, hb1⟩; have H1 : Hid (Below w.heap.size w w1) := hb1; clear hb1)
    go_ret
    exact ⟨rfl, H1.out⟩
  have dc3 : decide (lf < 0) = false := decide_eq_false c3
  by_cases c4 : (n : Int) < lf
  · have dd : decide ((n : Int) < lf) = true := decide_eq_true c4
    go_enter Try.func3, Try.ntmps3
    go_wp2_with (go_at_call 4; refine (middle_any _).mono ?_; rintro r w1 ⟨rfl, hb1⟩; have H1 : Hid (Below w.heap.size w w1) := hb1; clear hb1)
    go_ret
    exact ⟨rfl, H1.out⟩
  have dc4 : decide ((n : Int) < lf) = false := decide_eq_false c4
  have w1a : IntKind.i64.wrap (3 * lf) = 3 * lf := by rw [IntKind.wrap_i64]; omega
  have w1b : IntKind.i64.wrap (3 * lf + 1) = 3 * lf + 1 := by rw [IntKind.wrap_i64]; omega
  by_cases c5 : (n : Int) < 3 * lf + 1
  · have dd : decide ((n : Int) < 3 * lf + 1) = true := decide_eq_true c5
    go_enter Try.func3, Try.ntmps3
    go_wp2_with (go_at_call 4; refine (middle_any _).mono ?_; rintro r w1 ⟨rfl, hb1⟩; have H1 : Hid (Below w.heap.size w w1) := hb1; clear hb1)
    go_ret
    exact ⟨rfl, H1.out⟩
  have dc5 : decide ((n : Int) < 3 * lf + 1) = false := decide_eq_false c5
  by_cases c6 : mo < 0
  · have dd : decide (mo < 0) = true := decide_eq_true c6
    go_enter Try.func3, Try.ntmps3
    go_wp2_with (go_at_call 4; refine (middle_any _).mono ?_; rintro r w1 ⟨rfl, hb1⟩; have H1 : Hid (Below w.heap.size w w1) := hb1; clear hb1)
    go_ret
    exact ⟨rfl, H1.out⟩
  have dc6 : decide (mo < 0) = false := decide_eq_false c6
  by_cases c7 : 1000 < mo
  · have dd : decide (1000 < mo) = true := decide_eq_true c7
    go_enter Try.func3, Try.ntmps3
    go_wp2_with (go_at_call 4; refine (middle_any _).mono ?_; rintro r w1 ⟨rfl, hb1⟩; have H1 : Hid (Below w.heap.size w w1) := hb1; clear hb1)
    go_ret
    exact ⟨rfl, H1.out⟩
  have dc7 : decide (1000 < mo) = false := decide_eq_false c7
  by_cases c8 : wo < 0
  · have dd : decide (wo < 0) = true := decide_eq_true c8
    go_enter Try.func3, Try.ntmps3
    go_wp2_with (go_at_call 4; refine (middle_any _).mono ?_; rintro r w1 ⟨rfl, hb1⟩; have H1 : Hid (Below w.heap.size w w1) := hb1; clear hb1)
    go_ret
    exact ⟨rfl, H1.out⟩
  have dc8 : decide (wo < 0) = false := decide_eq_false c8
  by_cases c9 : 1000 < wo
  · have dd : decide (1000 < wo) = true := decide_eq_true c9
    go_enter Try.func3, Try.ntmps3
    go_wp2_with (go_at_call 4; refine (middle_any _).mono ?_; rintro r w1 ⟨rfl, hb1⟩; have H1 : Hid (Below w.heap.size w w1) := hb1; clear hb1)
    go_ret
    exact ⟨rfl, H1.out⟩
  have dc9 : decide (1000 < wo) = false := decide_eq_false c9
  by_cases c10 : rd < 0
  · have dd : decide (rd < 0) = true := decide_eq_true c10
    go_enter Try.func3, Try.ntmps3
    go_wp2_with (go_at_call 4; refine (middle_any _).mono ?_; rintro r w1 ⟨rfl, hb1⟩; have H1 : Hid (Below w.heap.size w w1) := hb1; clear hb1)
    go_ret
    exact ⟨rfl, H1.out⟩
  have dc10 : decide (rd < 0) = false := decide_eq_false c10
  by_cases c11 : 20 < rd
  · have dd : decide (20 < rd) = true := decide_eq_true c11
    go_enter Try.func3, Try.ntmps3
    go_wp2_with (go_at_call 4; refine (middle_any _).mono ?_; rintro r w1 ⟨rfl, hb1⟩; have H1 : Hid (Below w.heap.size w w1) := hb1; clear hb1)
    go_ret
    exact ⟨rfl, H1.out⟩
  have dc11 : decide (20 < rd) = false := decide_eq_false c11
  go_enter Try.func3, Try.ntmps3
  go_upto_region 8 with (go_at_call 4; refine (middle_any _).mono ?_; rintro r w1 ⟨rfl, hb1⟩; have H1 : Hid (Below w.heap.size w w1) := hb1; clear hb1)
  obtain ⟨fn, rfl⟩ : ∃ fn : Nat, lf = (fn : Int) := ⟨lf.toNat, by omega⟩
  obtain ⟨rn, rfl⟩ : ∃ rn : Nat, rd = (rn : Int) := ⟨rd.toNat, by omega⟩
  obtain ⟨g, hg⟩ : ∃ g : Nat, n - fn = g := ⟨_, rfl⟩
  have hn10 : n ≤ 10 := by omega
  have h3f : 3 * fn + 1 ≤ n := by omega
  have hgn : g ≤ n := by omega
  have hg0 : 0 < g := by omega
  have hfg : g + fn = n := by omega
  have qg : IntKind.i64.wrap ((n : Int) - (fn : Int)) = (g : Int) := by rw [IntKind.wrap_i64]; omega
  have hmo : 0 ≤ mo ∧ mo ≤ 1000 := by omega
  have hwo : 0 ≤ wo ∧ wo ≤ 1000 := by omega
  have hrn : rn ≤ 20 := by omega
  have HK : Hid (n - fn = g ∧ n ≤ 10 ∧ 3 * fn + 1 ≤ n ∧ g ≤ n ∧ 0 < g ∧ g + fn = n ∧ (0 ≤ mo ∧ mo ≤ 1000) ∧ (0 ≤ wo ∧ wo ≤ 1000) ∧ rn ≤ 20) := ⟨hg, hn10, h3f, hgn, hg0, hfg, hmo, hwo, hrn⟩
  clear hg h3f hfg hmo hwo c2 c3 c4 c5 c6 c7 c8 c9 c10 c11
  clear dc2 dc3 dc4 dc5 dc6 dc7 dc8 dc9 dc10 dc11 w1a w1b
  obtain ⟨w2, hmk, hb2, hh2⟩ := make_ints w1 n (by omega)
  have H2 : Hid (N0 w (w2.alloc (.cells #[.slice (some ⟨w1.heap.size, 0, none⟩) n n] 22)) n w1.heap.size w2.heap.size []) := ⟨below_seq (below_seq H1.out hb2) (below_new _ _), ((below_new _ _).block _ (ltH hh2)).trans hh2, heap_alloc_new _ _, H1.out.size, fun e => by have := ltH hh2; omega⟩
  have lw : w1.heap.size < w2.heap.size := ltH hh2
  clear hb2 hh2 H1
  generalize w1.heap.size = Wb at *
  go_upto_region 9 with fail
  generalize (w2.alloc (.cells #[.slice (some ⟨Wb, 0, none⟩) n n] 22)) = w3 at *
  generalize w2.heap.size = Nb at *
  clear hmk lw
  go_wp2_with fail
  go_loopw [89] (fun iv wr => ∃ (j : Nat) (runs : List Int), j ≤ n ∧ runs.length = j ∧ iv = .int .i64 (j : Int) ∧ N0 w wr n Wb Nb runs ∧ Hid (∀ x ∈ runs, -1000000 ≤ x ∧ x ≤ 1000000)) (fun iv _ => n - (intOf iv).toNat)
  case atStart => exact ⟨0, [], Nat.zero_le _, rfl, rfl, H2.out, fun x hx => by simp at hx⟩
  case round =>
    obtain ⟨j, runs, hj, hrj, rfl, h0, HQ⟩ := hrel
    have HW : Hid (N0 w wr n Wb Nb runs ∧ runs.length = j) := ⟨h0, hrj⟩
    have b0 := (cells_of (l := [_]) h0.box).1 0 _ rfl
    have lb0 := ltH h0.box
    have lb1 := ltH h0.row
    by_cases hjl : j < n
    · have hjc : j < cl.length := by rw [HN.out]; exact hjl
      obtain ⟨x, hx, -⟩ := drop_at hjc
      have hvr := HV.out.1.below h0.bel
      rw [HN.out] at hvr
      obtain ⟨ad', c', he, -, hcap, hrow⟩ := hvr
      rw [HN.out] at he
      cases he
      rcases hrow with h | ⟨b, o, rfl, hrow⟩
      · rw [h] at hjc; simp at hjc
      have y0 := nu_at hrow hx
      have lb : b < wr.heap.size := World.block_lt_of_cell? _ _ y0
      have hji : (j : Int) < (n : Int) := by omega
      have hcx := clock_in x
      have q1 : IntKind.i64.wrap (x.tmod 1000000) = x.tmod 1000000 := by rw [IntKind.wrap_i64]; omega
      have hlj : j < (runCells n runs).length := by rw [runCells_len (by omega)]; exact hjl
      obtain ⟨rc, rf, -⟩ := cells_of (l := runCells n runs) h0.row
      have r0 := rc j _ (List.getElem?_eq_getElem hlj)
      have rf0 := rf j
      generalize (runCells n runs)[j] = rold at r0
      have HX : Hid (-1000000 ≤ x.tmod 1000000 ∧ x.tmod 1000000 ≤ 1000000) := hcx
      clear hrow hx h0 hcx rc rf hrj
      go_wp2_with fail
      have hp := HW.out.1.put (v := x.tmod 1000000) (by rw [HW.out.2]; exact hjl)
      rw [HW.out.2] at hp
      refine ⟨⟨j + 1, runs ++ [x.tmod 1000000], by omega, by rw [List.length_append, HW.out.2]; rfl, by simp, hp, fun z hz => ?_⟩, by simp [intOf]; omega⟩
      rcases List.mem_append.1 hz with hz | hz
      · exact HQ.out z hz
      · simp at hz; subst hz; exact HX.out
    · have hje : j = n := by omega
      subst hje
      have HM := h0.good (g := g) hrj
      have HR : Hid (runs.length = j ∧ ∀ x ∈ runs, -1000000 ≤ x ∧ x ≤ 1000000) := ⟨hrj, HQ.out⟩
      clear HW h0 HQ b0
      go_upto_region 15 with fail
      generalize (wr.alloc (.cells #[.int .i64 (g : Int)] 3)) = w4 at *
      generalize wr.heap.size = Gb at *
      have HM' : Hid (NW w w4 j Wb Nb Gb g runs) := HM
      obtain ⟨n1, n2, n3⟩ := HM.cells
      have hbd : ∀ q, q < g → -1000000 ≤ runs.getD q 0 ∧ runs.getD q 0 ≤ 1000000 := fun q hq => by
        have hql : q < runs.length := by rw [HR.out.1]; omega
        rw [List.getD_eq_getElem?_getD, List.getElem?_eq_getElem hql]
        exact HR.out.2 _ (List.getElem_mem hql)
      have HA := apart_any w4 Nb Gb Wb j g (fun q => runs.getD q 0) n1 n2 (fun q hq => n3 q (by rw [HR.out.1]; exact hq)) hg0 hgn hn10 (fun q hq => by have := hbd q hq; omega)
      have HB : Hid (∀ q, q < g → -1000000 ≤ runs.getD q 0 ∧ runs.getD q 0 ≤ 1000000) := hbd
      have qb1 : IntKind.i64.wrap (4 * mo) = 4 * mo := by have := HK.out; rw [IntKind.wrap_i64]; omega
      have qb2 : IntKind.i64.wrap (4 * wo) = 4 * wo := by have := HK.out; rw [IntKind.wrap_i64]; omega
      have qb3 : IntKind.i64.wrap (4 * mo + 4 * wo) = 4 * mo + 4 * wo := by have := HK.out; rw [IntKind.wrap_i64]; omega
      have qb4 : IntKind.i64.wrap (4 * mo + 4 * wo + 1) = 4 * mo + 4 * wo + 1 := by have := HK.out; rw [IntKind.wrap_i64]; omega
      clear hbd n1 n2 n3 HM lb0 lb1
      go_upto_region 17 with (go_at_call 7; refine HA.mono ?_; rintro r w5 ⟨D0, rfl, hD0, hb5⟩; have H5 : Hid (NW w w5 j Wb Nb Gb g runs ∧ IsAp (fun q => runs.getD q 0) g D0) := ⟨HM'.out.grow hb5, hD0⟩; clear hb5 hD0 HA HM')
      have hbE : ∃ B, max D0 (4 * mo + 4 * wo + 1) = B := ⟨_, rfl⟩
      obtain ⟨B, hbE⟩ := hbE
      rw [hbE]
      have HBd : Hid (D0 ≤ B ∧ 4 * mo + 4 * wo + 1 ≤ B) := ⟨by omega, by omega⟩
      clear hbE qb1 qb2 qb3 qb4
      go_wp2_with fail
      go_loopw [114] (fun kv wr => ∃ (k : Nat) (now : List Int) (D : Int), k ≤ rn ∧ kv = .int .i64 (k : Int) ∧ NW w wr j Wb Nb Gb g now ∧ now.length = j ∧ Hid ((∀ q, q < g → -(1000000 + 2000 * (k : Int)) ≤ now.getD q 0 ∧ now.getD q 0 ≤ 1000000 + 2000 * (k : Int)) ∧ IsAp (fun q => now.getD q 0) g D ∧ D ≤ B)) (fun kv _ => rn - (intOf kv).toNat)
      case atStart => exact ⟨0, runs, D0, Nat.zero_le _, rfl, H5.out.1, HR.out.1, ⟨fun q hq => by have := HB.out q hq; omega, H5.out.2, HBd.out.1⟩⟩
      case round =>
        obtain ⟨k, now, D, hk, rfl, hnw, hnl, HQ⟩ := hrel
        have HW : Hid (NW w wr j Wb Nb Gb g now ∧ now.length = j) := ⟨hnw, hnl⟩
        clear hnw hnl H5 HR HB
        by_cases hkl : k < rn
        · have hki : (k : Int) < (rn : Int) := by omega
          obtain ⟨kn, hkn⟩ : ∃ kn : Nat, kn = k * j := ⟨_, rfl⟩
          have hkb : kn ≤ 200 := by
            have h7 := HK.out
            have h8 : k * j ≤ 20 * 10 := Nat.mul_le_mul (by omega) (by omega)
            omega
          have qa : IntKind.i64.wrap ((k : Int) * (j : Int)) = (kn : Int) := by
            rw [show (k : Int) * (j : Int) = (kn : Int) by rw [hkn, Int.natCast_mul], IntKind.wrap_i64]
            omega
          clear hkn
          obtain ⟨W0, rfl⟩ : ∃ W0, W0 = wr := ⟨_, rfl⟩
          go_wp2_with fail
          go_loopw [25, 26, 118] (fun hv ov iv wr => ∃ (i : Nat) (js : List Ro) (off : List Int), i ≤ j ∧ iv = .int .i64 (i : Int) ∧ js.length = i ∧ off.length = i ∧ MD W0 wr js hv off ov ∧ Hid ((∀ x ∈ js, x.xs.length = j ∧ OkX now g mo x.xs) ∧ ∀ d ∈ off, -wo ≤ d ∧ d ≤ wo)) (fun _ _ iv _ => j - (intOf iv).toNat)
          case atStart => exact ⟨0, [], [], Nat.zero_le _, rfl, rfl, rfl, MD.start _, ⟨fun x hx => by simp at hx, fun x hx => by simp at hx⟩⟩
          case round =>
            obtain ⟨i, js, off, hi, rfl, hjs, hoff, hmd, HO⟩ := hrel
            obtain ⟨ha, hc, rfl⟩ := owns_value hmd.cop.own
            obtain ⟨oa, oc, rfl⟩ := owns_value hmd.off
            by_cases hil : i < j
            · have hii : (i : Int) < (j : Int) := by omega
              obtain ⟨ki, hkie⟩ : ∃ ki : Nat, ki = kn + i := ⟨_, rfl⟩
              have hkib : ki ≤ 300 := by omega
              have qb : IntKind.i64.wrap ((kn : Int) + (i : Int)) = (ki : Int) := by rw [IntKind.wrap_i64]; omega
              clear hkie
              obtain ⟨W1, rfl⟩ : ∃ W1, W1 = wr := ⟨_, rfl⟩
              have HMD : Hid (MD W0 W1 js (.slice ha js.length hc) off (.slice oa off.length oc) ∧ js.length = i ∧ off.length = i) := ⟨hmd, hjs, hoff⟩
              clear hmd hjs hoff
              go_wp2_with fail
              go_loopw [28, 122] (fun lv jv wr => ∃ (p : Nat) (acc : List Int), p ≤ j ∧ jv = .int .i64 (p : Int) ∧ acc.length = p ∧ Below W1.heap.size W1 wr ∧ wr.ownsRow W1.heap.size 3 1 lv acc.length (acc.flatMap nuV) ∧ Hid (OkX now g mo acc)) (fun _ jv _ => j - (intOf jv).toNat)
              case atStart => exact ⟨0, [], Nat.zero_le _, rfl, rfl, Below.refl _ _, ⟨rfl, .inl ⟨rfl, rfl⟩⟩, fun q y hq => by simp at hq⟩
              case round =>
                obtain ⟨p, acc, hp, rfl, hacc, hb, hown, HX⟩ := hrel
                obtain ⟨la, lc, rfl⟩ := owns_value hown
                have HP : Hid (Below W1.heap.size W1 wr ∧ wr.ownsRow W1.heap.size 3 1 (.slice la acc.length lc) acc.length (acc.flatMap nuV) ∧ OkX now g mo acc ∧ acc.length = p) := ⟨hb, hown, HX.out, hacc⟩
                by_cases hpl : p < j
                · have hpi : (p : Int) < (j : Int) := by omega
                  have hnw := (HW.out.1.grow HMD.out.1.cop.bel).grow hb
                  obtain ⟨b0, b1, b2'⟩ := hnw.cells
                  have b2 := b2' p (by rw [HW.out.2]; exact hpl)
                  have HLo : Hid (Nb < W1.heap.size ∧ Wb < W1.heap.size) := ⟨ltH (HW.out.1.grow HMD.out.1.cop.bel).box, ltH (HW.out.1.grow HMD.out.1.cop.bel).row⟩
                  have l0 : Nb < wr.heap.size := World.block_lt_of_cell? _ _ b0
                  have l1 : Gb < wr.heap.size := World.block_lt_of_cell? _ _ b1
                  have l2 : Wb < wr.heap.size := World.block_lt_of_cell? _ _ b2
                  have HNP' : Hid (p < g → -1100000 ≤ now.getD p 0 ∧ now.getD p 0 ≤ 1100000) := fun h => by have h7 := HQ.out.1 p h; have h8 := HK.out; omega
                  have HVN := HV.out.2.1.below hnw.bel
                  obtain ⟨np, hnp⟩ : ∃ np, now.getD p 0 = np := ⟨_, rfl⟩
                  rw [hnp] at b2 HNP'
                  have HNp : Hid (now.getD p 0 = np) := hnp
                  clear hnp b2' hnw hb hown HX hacc
                  by_cases hn0 : nl.length = 0
                  · clear HVN
                    have e0 : nl = [] := List.eq_nil_of_length_eq_zero hn0
                    have ez : decide ((0 : Int) < (nl.length : Int)) = false := decide_eq_false (by omega)
                    have ez' : decide (0 < nl.length) = false := decide_eq_false (by omega)
                    clear e0 hn0
                    by_cases hpg : p < g
                    · have hpgi : (p : Int) < (g : Int) := by omega
                      go_wp2_with fail
                      refine wp_region_noPanic ?_
                      refine wp_region_held_drew (S := fun w' => w'.cell? ⟨Nb, 0, none⟩ = some (.slice (some ⟨Wb, 0, none⟩) j j) ∧ w'.cell? ⟨Wb, p, none⟩ = some (.int .i64 np)) (by kernel_rfl) ⟨by go_simp, by go_simp⟩ (fun hHeld => ?_)
                      refine take_at (i := 0) (n := 145) (v := ?_) rfl rfl (by kernel_rfl) (by kernel_rfl) (by kernel_rfl) (fun _ _ _ h => h) (Or.inl ⟨by rfl, ?_⟩) (by assumption) ?_
                      rotate_left 1
                      · intro wz hSw
                        obtain ⟨k0, k1⟩ := hSw
                        first | (go_simp; done) | (go_simp; with_reducible rfl)
                      simp only [List.set_cons_zero, List.set_cons_succ]
                      refine take_at (i := 1) (n := 146) (v := ?_) rfl rfl (by kernel_rfl) (by kernel_rfl) (by kernel_rfl) (fun _ _ _ h => h) (Or.inl ⟨by rfl, ?_⟩) (by assumption) ?_
                      rotate_left 1
                      · intro wz hSw
                        obtain ⟨k0, k1⟩ := hSw
                        first | (go_simp; done) | (go_simp; with_reducible rfl)
                      simp only [List.set_cons_zero, List.set_cons_succ]
                      refine take_at (i := 2) (n := 147) (v := ?_) rfl rfl (by kernel_rfl) (by kernel_rfl) (by kernel_rfl) (fun _ _ _ h => h) (Or.inl ⟨by rfl, ?_⟩) (by assumption) ?_
                      rotate_left 1
                      · intro wz hSw
                        obtain ⟨k0, k1⟩ := hSw
                        first | (go_simp; done) | (go_simp; with_reducible rfl)
                      simp only [List.set_cons_zero, List.set_cons_succ]
                      refine take_at (i := 3) (n := 148) (v := ?_) rfl rfl (by kernel_rfl) (by kernel_rfl) (by kernel_rfl) (fun _ _ _ h => h) (Or.inl ⟨by rfl, ?_⟩) (by assumption) ?_
                      rotate_left 1
                      · intro wz hSw
                        obtain ⟨k0, k1⟩ := hSw
                        first | (go_simp; done) | (go_simp; with_reducible rfl)
                      simp only [List.set_cons_zero, List.set_cons_succ]
                      refine take_at (i := 4) (n := 149) (v := ?_) rfl rfl (by kernel_rfl) (by kernel_rfl) (by kernel_rfl) (fun _ _ _ h => h) (Or.inl ⟨by rfl, ?_⟩) (by assumption) ?_
                      rotate_left 1
                      · intro wz hSw
                        obtain ⟨k0, k1⟩ := hSw
                        first | (go_simp; done) | (go_simp; with_reducible rfl)
                      simp only [List.set_cons_zero, List.set_cons_succ]
                      refine take_at (i := 5) (n := 150) (v := ?_) rfl rfl (by kernel_rfl) (by kernel_rfl) (by kernel_rfl) (fun _ _ _ h => h) (Or.inl ⟨by rfl, ?_⟩) (by assumption) ?_
                      rotate_left 1
                      · intro wz hSw
                        obtain ⟨k0, k1⟩ := hSw
                        first | (go_simp; done) | (go_simp; with_reducible rfl)
                      simp only [List.set_cons_zero, List.set_cons_succ]
                      refine take_at (i := 6) (n := 151) (v := ?_) rfl rfl (by kernel_rfl) (by kernel_rfl) (by kernel_rfl) (fun _ _ _ h => h) (Or.inl ⟨by rfl, ?_⟩) (by assumption) ?_
                      rotate_left 1
                      · intro wz hSw
                        obtain ⟨k0, k1⟩ := hSw
                        first | (go_simp; done) | (go_simp; with_reducible rfl)
                      simp only [List.set_cons_zero, List.set_cons_succ]
                      refine take_at (i := 7) (n := 152) (v := ?_) rfl rfl (by kernel_rfl) (by kernel_rfl) (by kernel_rfl) (fun _ _ _ h => h) (Or.inl ⟨by rfl, ?_⟩) (by assumption) ?_
                      rotate_left 1
                      · intro wz hSw
                        obtain ⟨k0, k1⟩ := hSw
                        first | (go_simp; done) | (go_simp; with_reducible rfl)
                      simp only [List.set_cons_zero, List.set_cons_succ]
                      refine wpAnyH_ready (rs := [8]) (by kernel_rfl) (by simp) ?_
                      refine AllReadyH.cons rfl (fun K hK => ?_) AllReadyH.nil
                      go_simp
                      go_wp2_with (go_at_call 5; refine (near_any _ _ _ HK.out.2.2.2.2.2.2.1.1 HK.out.2.2.2.2.2.2.1.2).mono ?_; rintro r w9 ⟨y, rfl, hy1, hy2, hw9⟩; have hw8 := hw9.symm; subst hw8; clear hw9)
                      have qy : IntKind.i64.wrap (np + y) = np + y := by have h7 := HNP'.out hpg; have h8 := HK.out.2.2.2.2.2.2.1; rw [IntKind.wrap_i64]; omega
                      obtain ⟨la', lc', w10, hrun, hown', hb10, -, -, -⟩ := num_push (W := wr.drew) (B := W1.heap.size) (acc := acc) (av := .slice la acc.length lc) (ownsRow_below HP.out.2.1 (Below.refl _ _).drew) (HP.out.1.size) (np + y) (by have := HP.out.2.2.2; omega)
                      have HY : Hid (-mo ≤ y ∧ y ≤ mo ∧ w10.ownsRow W1.heap.size 3 1 (.slice la' (acc.length + 1) lc') (acc ++ [np + y]).length ((acc ++ [np + y]).flatMap nuV) ∧ Below W1.heap.size wr.drew w10) := ⟨hy1, hy2, hown', hb10⟩
                      have HRn : Hid (_ = _) := hrun
                      clear hrun hown' hb10 hy1 hy2
                      refine hK.out _ _ ⟨by go_simp, by go_simp⟩ (fun hHeld => ?_)
                      clear hK K
                      try simp only [List.set_cons_zero, List.set_cons_succ]
                      refine take_at (i := 9) (n := 154) (v := ?_) rfl rfl (by kernel_rfl) (by kernel_rfl) (by kernel_rfl) (fun _ _ _ h => h) (Or.inl ⟨by rfl, ?_⟩) (by assumption) ?_
                      rotate_left 1
                      · intro wz hSw
                        obtain ⟨k0, k1⟩ := hSw
                        first | (go_simp; done) | (go_simp; with_reducible rfl)
                      simp only [List.set_cons_zero, List.set_cons_succ]
                      refine wpAnyH_ready (rs := [10]) (by kernel_rfl) (by simp) ?_
                      refine AllReadyH.cons rfl (fun K hK => ?_) AllReadyH.nil
                      go_simp
                      refine hK.out _ _ ⟨by go_simp, by go_simp⟩ (fun hHeld => ?_)
                      clear hK K
                      try simp only [List.set_cons_zero, List.set_cons_succ]
                      refine wpAnyH_ready (rs := [11]) (by kernel_rfl) (by simp) ?_
                      refine AllReadyH.cons rfl (fun K hK => ?_) AllReadyH.nil
                      refine region_append rfl (.tmp 145) (.tmp 155) 22 rfl rfl rfl HRn.out ?_
                      refine hK.out _ _ ⟨(HY.out.2.2.2.cell HLo.out.1).trans b0, (HY.out.2.2.2.cell HLo.out.2).trans b2⟩ (fun hHeld => ?_)
                      clear hK K
                      try simp only [List.set_cons_zero, List.set_cons_succ]
                      refine take_at (i := 12) (n := 28) (v := ?_) rfl rfl (by kernel_rfl) (by kernel_rfl) (by kernel_rfl) (fun _ _ _ h => h) (Or.inl ⟨by rfl, ?_⟩) (by assumption) ?_
                      rotate_left 1
                      · intro wz hSw
                        obtain ⟨k0, k1⟩ := hSw
                        first | (go_simp; done) | (go_simp; with_reducible rfl)
                      simp only [List.set_cons_zero, List.set_cons_succ]
                      refine wpAnyH_done (by kernel_rfl) ?_ _
                      refine NoPanic.normal ?_
                      clear hHeld
                      go_wp2_with fail
                      exact ⟨⟨p + 1, acc ++ [np + y], by omega, by simp, by rw [List.length_append, HP.out.2.2.2]; rfl, HP.out.1.trans ((Below.refl _ _).drew.trans HY.out.2.2.2), by rw [HP.out.2.2.2]; have h9 := HY.out.2.2.1; rw [HP.out.2.2.2] at h9; exact h9, HP.out.2.2.1.push (by have h7 := HNP'.out hpg; have h8 := HK.out.2.2.2.2.2.2.1; have h9 := HY.out; omega) (by have h7 := HNP'.out hpg; have h8 := HK.out.2.2.2.2.2.2.1; have h9 := HY.out; omega) (fun _ => by rw [HP.out.2.2.2, HNp.out]; have h9 := HY.out; omega)⟩, by simp [intOf]; omega⟩
                    · have hpgi : ¬ (p : Int) < (g : Int) := by omega
                      have hpgd : decide ((p : Int) < (g : Int)) = false := decide_eq_false hpgi
                      have hsz := tmod_in 0 549755813887 (by omega)
                      rw [show (549755813887 : Int) + 1 = 549755813888 from rfl] at hsz
                      obtain ⟨sz, hsze⟩ : ∃ sz, (0 : Int).tmod 549755813888 = sz := ⟨_, rfl⟩
                      rw [hsze] at hsz
                      have qz : IntKind.i64.wrap sz = sz := by rw [IntKind.wrap_i64]; omega
                      obtain ⟨la', lc', w10, hrun, hown', hb10, -, -, -⟩ := num_push (W := wr) (B := W1.heap.size) (acc := acc) (av := .slice la acc.length lc) HP.out.2.1 (HP.out.1.size) sz (by have := HP.out.2.2.2; omega)
                      have HY : Hid (-549755813887 ≤ sz ∧ sz ≤ 549755813887 ∧ w10.ownsRow W1.heap.size 3 1 (.slice la' (acc.length + 1) lc') (acc ++ [sz]).length ((acc ++ [sz]).flatMap nuV) ∧ Below W1.heap.size wr w10) := ⟨hsz.1, hsz.2, hown', hb10⟩
                      have HRn : Hid (_ = _) := hrun
                      clear hrun hown' hb10 hsz
                      go_wp2_with (first | fail | (at_builtin; refine append_known rfl (.tmp 157) (.tmp 160) 22 rfl rfl rfl HRn.out ?_))
                      exact ⟨⟨p + 1, acc ++ [sz], by omega, by simp, by rw [List.length_append, HP.out.2.2.2]; rfl, HP.out.1.trans HY.out.2.2.2, by rw [HP.out.2.2.2]; have h9 := HY.out.2.2.1; rw [HP.out.2.2.2] at h9; exact h9, HP.out.2.2.1.push (by have h9 := HY.out; omega) (by have h9 := HY.out; omega) (fun h => absurd h (by rw [HP.out.2.2.2]; exact hpg))⟩, by simp [intOf]; omega⟩
                  · obtain ⟨ri, hri⟩ : ∃ ri, ki % nl.length = ri := ⟨_, rfl⟩
                    have hrl : ri < nl.length := by rw [← hri]; exact Nat.mod_lt _ (by omega)
                    have hrk : ri ≤ 300 := by have := Nat.mod_le ki nl.length; omega
                    have qr : ((ki : Int)).tmod (nl.length : Int) = (ri : Int) := by rw [Int.tmod_eq_emod_of_nonneg (by omega), ← hri]; rfl
                    obtain ⟨x, hx, -⟩ := drop_at hrl
                    obtain ⟨adn, cn, hen, -, hcapn, hrown⟩ := HVN.1
                    cases hen
                    rcases hrown with h | ⟨bn, on, rfl, hrown⟩
                    · rw [h] at hrl; simp at hrl
                    have x0 := ro_at hrown hx
                    have HXr : Hid (RowSl nuV wr x.xs x.v) := HVN.2 x (List.mem_of_getElem? hx)
                    obtain ⟨xa, xc, hxe⟩ := HXr.out.len
                    rw [hxe] at x0 HXr
                    have lbn : bn < wr.heap.size := World.block_lt_of_cell? _ _ x0
                    have ez : decide ((0 : Int) < (nl.length : Int)) = true := decide_eq_true (by omega)
                    have ez' : decide (0 < nl.length) = true := decide_eq_true (by omega)
                    have q2 : ((nl.length : Int) == 0) = false := beq_eq_false_iff_ne.2 (by omega)
                    have q3 : decide ((nl.length : Int) = 0) = false := decide_eq_false (by omega)
                    have q4 : ¬ (nl.length : Int) = 0 := by omega
                    have q5 : (ri : Int) < (nl.length : Int) := by omega
                    have q6 : IntKind.i64.wrap (ri : Int) = (ri : Int) := by rw [IntKind.wrap_i64]; omega
                    have q7 : ¬ nl = [] := fun e => hn0 (by rw [e]; rfl)
                    clear HVN hrown hx hri hxe
                    by_cases hpg : p < g
                    · have hpgi : (p : Int) < (g : Int) := by omega
                      go_wp2_with (go_at_call 6; refine (at_any wr x.xs _ p (by omega) HXr.out).mono ?_; rintro r w8 ⟨z, rfl, hw8⟩; have hw7 := hw8.symm; subst hw7; clear hw8)
                      refine wp_region_noPanic ?_
                      refine wp_region_held_drew (S := fun w' => w'.cell? ⟨Nb, 0, none⟩ = some (.slice (some ⟨Wb, 0, none⟩) j j) ∧ w'.cell? ⟨Wb, p, none⟩ = some (.int .i64 np)) (by kernel_rfl) ⟨by go_simp, by go_simp⟩ (fun hHeld => ?_)
                      refine take_at (i := 0) (n := 145) (v := ?_) rfl rfl (by kernel_rfl) (by kernel_rfl) (by kernel_rfl) (fun _ _ _ h => h) (Or.inl ⟨by rfl, ?_⟩) (by assumption) ?_
                      rotate_left 1
                      · intro wz hSw
                        obtain ⟨k0, k1⟩ := hSw
                        first | (go_simp; done) | (go_simp; with_reducible rfl)
                      simp only [List.set_cons_zero, List.set_cons_succ]
                      refine take_at (i := 1) (n := 146) (v := ?_) rfl rfl (by kernel_rfl) (by kernel_rfl) (by kernel_rfl) (fun _ _ _ h => h) (Or.inl ⟨by rfl, ?_⟩) (by assumption) ?_
                      rotate_left 1
                      · intro wz hSw
                        obtain ⟨k0, k1⟩ := hSw
                        first | (go_simp; done) | (go_simp; with_reducible rfl)
                      simp only [List.set_cons_zero, List.set_cons_succ]
                      refine take_at (i := 2) (n := 147) (v := ?_) rfl rfl (by kernel_rfl) (by kernel_rfl) (by kernel_rfl) (fun _ _ _ h => h) (Or.inl ⟨by rfl, ?_⟩) (by assumption) ?_
                      rotate_left 1
                      · intro wz hSw
                        obtain ⟨k0, k1⟩ := hSw
                        first | (go_simp; done) | (go_simp; with_reducible rfl)
                      simp only [List.set_cons_zero, List.set_cons_succ]
                      refine take_at (i := 3) (n := 148) (v := ?_) rfl rfl (by kernel_rfl) (by kernel_rfl) (by kernel_rfl) (fun _ _ _ h => h) (Or.inl ⟨by rfl, ?_⟩) (by assumption) ?_
                      rotate_left 1
                      · intro wz hSw
                        obtain ⟨k0, k1⟩ := hSw
                        first | (go_simp; done) | (go_simp; with_reducible rfl)
                      simp only [List.set_cons_zero, List.set_cons_succ]
                      refine take_at (i := 4) (n := 149) (v := ?_) rfl rfl (by kernel_rfl) (by kernel_rfl) (by kernel_rfl) (fun _ _ _ h => h) (Or.inl ⟨by rfl, ?_⟩) (by assumption) ?_
                      rotate_left 1
                      · intro wz hSw
                        obtain ⟨k0, k1⟩ := hSw
                        first | (go_simp; done) | (go_simp; with_reducible rfl)
                      simp only [List.set_cons_zero, List.set_cons_succ]
                      refine take_at (i := 5) (n := 150) (v := ?_) rfl rfl (by kernel_rfl) (by kernel_rfl) (by kernel_rfl) (fun _ _ _ h => h) (Or.inl ⟨by rfl, ?_⟩) (by assumption) ?_
                      rotate_left 1
                      · intro wz hSw
                        obtain ⟨k0, k1⟩ := hSw
                        first | (go_simp; done) | (go_simp; with_reducible rfl)
                      simp only [List.set_cons_zero, List.set_cons_succ]
                      refine take_at (i := 6) (n := 151) (v := ?_) rfl rfl (by kernel_rfl) (by kernel_rfl) (by kernel_rfl) (fun _ _ _ h => h) (Or.inl ⟨by rfl, ?_⟩) (by assumption) ?_
                      rotate_left 1
                      · intro wz hSw
                        obtain ⟨k0, k1⟩ := hSw
                        first | (go_simp; done) | (go_simp; with_reducible rfl)
                      simp only [List.set_cons_zero, List.set_cons_succ]
                      refine take_at (i := 7) (n := 152) (v := ?_) rfl rfl (by kernel_rfl) (by kernel_rfl) (by kernel_rfl) (fun _ _ _ h => h) (Or.inl ⟨by rfl, ?_⟩) (by assumption) ?_
                      rotate_left 1
                      · intro wz hSw
                        obtain ⟨k0, k1⟩ := hSw
                        first | (go_simp; done) | (go_simp; with_reducible rfl)
                      simp only [List.set_cons_zero, List.set_cons_succ]
                      refine wpAnyH_ready (rs := [8]) (by kernel_rfl) (by simp) ?_
                      refine AllReadyH.cons rfl (fun K hK => ?_) AllReadyH.nil
                      go_simp
                      go_wp2_with (go_at_call 5; refine (near_any _ _ _ HK.out.2.2.2.2.2.2.1.1 HK.out.2.2.2.2.2.2.1.2).mono ?_; rintro r w9 ⟨y, rfl, hy1, hy2, hw9⟩; have hw8 := hw9.symm; subst hw8; clear hw9)
                      have qy : IntKind.i64.wrap (np + y) = np + y := by have h7 := HNP'.out hpg; have h8 := HK.out.2.2.2.2.2.2.1; rw [IntKind.wrap_i64]; omega
                      obtain ⟨la', lc', w10, hrun, hown', hb10, -, -, -⟩ := num_push (W := wr.drew) (B := W1.heap.size) (acc := acc) (av := .slice la acc.length lc) (ownsRow_below HP.out.2.1 (Below.refl _ _).drew) (HP.out.1.size) (np + y) (by have := HP.out.2.2.2; omega)
                      have HY : Hid (-mo ≤ y ∧ y ≤ mo ∧ w10.ownsRow W1.heap.size 3 1 (.slice la' (acc.length + 1) lc') (acc ++ [np + y]).length ((acc ++ [np + y]).flatMap nuV) ∧ Below W1.heap.size wr.drew w10) := ⟨hy1, hy2, hown', hb10⟩
                      have HRn : Hid (_ = _) := hrun
                      clear hrun hown' hb10 hy1 hy2
                      refine hK.out _ _ ⟨by go_simp, by go_simp⟩ (fun hHeld => ?_)
                      clear hK K
                      try simp only [List.set_cons_zero, List.set_cons_succ]
                      refine take_at (i := 9) (n := 154) (v := ?_) rfl rfl (by kernel_rfl) (by kernel_rfl) (by kernel_rfl) (fun _ _ _ h => h) (Or.inl ⟨by rfl, ?_⟩) (by assumption) ?_
                      rotate_left 1
                      · intro wz hSw
                        obtain ⟨k0, k1⟩ := hSw
                        first | (go_simp; done) | (go_simp; with_reducible rfl)
                      simp only [List.set_cons_zero, List.set_cons_succ]
                      refine wpAnyH_ready (rs := [10]) (by kernel_rfl) (by simp) ?_
                      refine AllReadyH.cons rfl (fun K hK => ?_) AllReadyH.nil
                      go_simp
                      refine hK.out _ _ ⟨by go_simp, by go_simp⟩ (fun hHeld => ?_)
                      clear hK K
                      try simp only [List.set_cons_zero, List.set_cons_succ]
                      refine wpAnyH_ready (rs := [11]) (by kernel_rfl) (by simp) ?_
                      refine AllReadyH.cons rfl (fun K hK => ?_) AllReadyH.nil
                      refine region_append rfl (.tmp 145) (.tmp 155) 22 rfl rfl rfl HRn.out ?_
                      refine hK.out _ _ ⟨(HY.out.2.2.2.cell HLo.out.1).trans b0, (HY.out.2.2.2.cell HLo.out.2).trans b2⟩ (fun hHeld => ?_)
                      clear hK K
                      try simp only [List.set_cons_zero, List.set_cons_succ]
                      refine take_at (i := 12) (n := 28) (v := ?_) rfl rfl (by kernel_rfl) (by kernel_rfl) (by kernel_rfl) (fun _ _ _ h => h) (Or.inl ⟨by rfl, ?_⟩) (by assumption) ?_
                      rotate_left 1
                      · intro wz hSw
                        obtain ⟨k0, k1⟩ := hSw
                        first | (go_simp; done) | (go_simp; with_reducible rfl)
                      simp only [List.set_cons_zero, List.set_cons_succ]
                      refine wpAnyH_done (by kernel_rfl) ?_ _
                      refine NoPanic.normal ?_
                      clear hHeld
                      go_wp2_with fail
                      exact ⟨⟨p + 1, acc ++ [np + y], by omega, by simp, by rw [List.length_append, HP.out.2.2.2]; rfl, HP.out.1.trans ((Below.refl _ _).drew.trans HY.out.2.2.2), by rw [HP.out.2.2.2]; have h9 := HY.out.2.2.1; rw [HP.out.2.2.2] at h9; exact h9, HP.out.2.2.1.push (by have h7 := HNP'.out hpg; have h8 := HK.out.2.2.2.2.2.2.1; have h9 := HY.out; omega) (by have h7 := HNP'.out hpg; have h8 := HK.out.2.2.2.2.2.2.1; have h9 := HY.out; omega) (fun _ => by rw [HP.out.2.2.2, HNp.out]; have h9 := HY.out; omega)⟩, by simp [intOf]; omega⟩
                    · have hpgi : ¬ (p : Int) < (g : Int) := by omega
                      have hpgd : decide ((p : Int) < (g : Int)) = false := decide_eq_false hpgi
                      go_upto_region 32 with (go_at_call 6; refine (at_any wr x.xs _ p (by omega) HXr.out).mono ?_; rintro r w8 ⟨z, rfl, hw8⟩; have hw7 := hw8.symm; subst hw7; clear hw8)
                      have hsz := tmod_in z 549755813887 (by omega)
                      rw [show (549755813887 : Int) + 1 = 549755813888 from rfl] at hsz
                      obtain ⟨sz, hsze⟩ : ∃ sz, (z : Int).tmod 549755813888 = sz := ⟨_, rfl⟩
                      rw [hsze] at hsz
                      have qz : IntKind.i64.wrap sz = sz := by rw [IntKind.wrap_i64]; omega
                      obtain ⟨la', lc', w10, hrun, hown', hb10, -, -, -⟩ := num_push (W := wr) (B := W1.heap.size) (acc := acc) (av := .slice la acc.length lc) HP.out.2.1 (HP.out.1.size) sz (by have := HP.out.2.2.2; omega)
                      have HY : Hid (-549755813887 ≤ sz ∧ sz ≤ 549755813887 ∧ w10.ownsRow W1.heap.size 3 1 (.slice la' (acc.length + 1) lc') (acc ++ [sz]).length ((acc ++ [sz]).flatMap nuV) ∧ Below W1.heap.size wr w10) := ⟨hsz.1, hsz.2, hown', hb10⟩
                      have HRn : Hid (_ = _) := hrun
                      clear hrun hown' hb10 hsz
                      go_wp2_with (first | fail | (at_builtin; refine append_known rfl (.tmp 157) (.tmp 160) 22 rfl rfl rfl HRn.out ?_))
                      exact ⟨⟨p + 1, acc ++ [sz], by omega, by simp, by rw [List.length_append, HP.out.2.2.2]; rfl, HP.out.1.trans HY.out.2.2.2, by rw [HP.out.2.2.2]; have h9 := HY.out.2.2.1; rw [HP.out.2.2.2] at h9; exact h9, HP.out.2.2.1.push (by have h9 := HY.out; omega) (by have h9 := HY.out; omega) (fun h => absurd h (by rw [HP.out.2.2.2]; exact hpg))⟩, by simp [intOf]; omega⟩
                · have hpe : j = p := by omega
                  subst hpe
                  have hnw6 := HW.out.1
                  obtain ⟨hA, hC, w6, hrun6, hmd6, -, -⟩ := HMD.out.1.row HP.out.1 ⟨acc, .slice la acc.length lc⟩ (by have := HMD.out.2.1; omega) (rowOfN_own HP.out.2.1) rfl (fun q hq => ⟨(HP.out.2.1.lt q hq).1, (HP.out.2.1.lt q hq).2⟩)
                  have H6 : Hid (MD W0 w6 (js ++ [⟨acc, .slice la acc.length lc⟩]) (.slice hA (js.length + 1) hC) off (.slice oa off.length oc)) := hmd6
                  have HR6 : Hid (_ = _) := hrun6
                  have HDr : Hid (RowSl nuV w6 dr (.slice ad2 dr.length c2)) := HV.out.2.2.below (below_seq HW.out.1.bel hmd6.cop.bel)
                  clear hrun6 hmd6 hnw6 hb hown HX hacc
                  go_wp2_with (first | (at_builtin; refine append_known rfl (.tmp 163) (.tmp 165) 23 rfl rfl rfl HR6.out ?_) | (go_at_call 6; refine (at_any w6 dr _ ki (by omega) HDr.out).mono ?_; rintro r w8 ⟨z, rfl, hw8⟩; have hw7 := hw8.symm; subst hw7; clear hw8) | (go_at_call 5; refine (near_any _ _ _ HK.out.2.2.2.2.2.2.2.1.1 HK.out.2.2.2.2.2.2.2.1.2).mono ?_; rintro r w9 ⟨y, rfl, hy1, hy2, hw9⟩; have hw8 := hw9.symm; subst hw8; clear hw9; obtain ⟨oA, oC, w7, hrun7, hmd7, -, -⟩ := H6.out.num y (by have := HMD.out.2.2; omega); have HR7 : Hid (_ = _) := hrun7; have H7 : Hid (MD W0 w7 (js ++ [⟨acc, .slice la acc.length lc⟩]) (.slice hA (js.length + 1) hC) (off ++ [y]) (.slice oA (off.length + 1) oC) ∧ -wo ≤ y ∧ y ≤ wo) := ⟨hmd7, hy1, hy2⟩; clear hrun7 hmd7 hy1 hy2) | (at_builtin; refine append_known rfl (.tmp 167) (.tmp 179) 22 rfl rfl rfl HR7.out ?_))
                  refine ⟨⟨i + 1, js ++ [⟨acc, .slice la acc.length lc⟩], off ++ [y], by omega, by simp, by rw [List.length_append, HMD.out.2.1]; rfl, by rw [List.length_append, HMD.out.2.2]; rfl, H7.out.1, ⟨fun x hx => ?_, fun d hd => ?_⟩⟩, by simp [intOf]; omega⟩
                  · rcases List.mem_append.1 hx with hx | hx
                    · exact HO.out.1 x hx
                    · simp at hx; subst hx; exact ⟨HP.out.2.2.2, HP.out.2.2.1⟩
                  · rcases List.mem_append.1 hd with hd | hd
                    · exact HO.out.2 d hd
                    · simp at hd; subst hd; exact H7.out.2
            · have hie : j = i := by omega
              subst hie
              have hgE : j - fn = g := HK.out.1
              have HO' : ∀ x ∈ js.map Ro.xs, x.length = j ∧ OkX now (j - fn) mo x := by
                intro x hx
                obtain ⟨y, hy, rfl⟩ := List.mem_map.1 hx
                rw [hgE]
                exact HO.out.1 y hy
              have hjl : (js.map Ro.xs).length = j := by rw [List.length_map, hjs]
              obtain ⟨hE, hLl⟩ := round_rnd HK.out.2.2.1 HK.out.2.1 hjl hoff HO' (fun d hd => by have := HO.out.2 d hd; have := HK.out; omega)
              obtain ⟨hC1, hC2⟩ := round_close (e := mo) (r := wo) (M := 1000000 + 2000 * (k : Int)) (D := D) HK.out.2.2.1 HK.out.2.1 hjl hoff HO' HO.out.2 HK.out.2.2.2.2.2.2.1 HK.out.2.2.2.2.2.2.2.1 (by have := HK.out; omega) (by rw [hgE]; exact HQ.out.1) (by rw [hgE]; exact HQ.out.2.1)
              rw [hgE] at hC1 hC2
              obtain ⟨L, hLe⟩ : ∃ L, rndL (fn : Int) (js.map Ro.xs) off = L := ⟨_, rfl⟩
              rw [hLe] at hE hLl hC1 hC2
              have HL : Hid ((∀ i q, i < g → q < g → L.getD i 0 - L.getD q 0 ≤ (D + 4 * mo + 1) / 2 + 2 * wo) ∧ (∀ q, q < g → -(1000000 + 2000 * (k : Int) + mo + wo) ≤ L.getD q 0 ∧ L.getD q 0 ≤ 1000000 + 2000 * (k : Int) + mo + wo) ∧ L.length = j) := ⟨hC1, hC2, hLl⟩
              have hDb : 0 ≤ D ∧ D ≤ 3000000 := by
                refine ⟨HQ.out.2.1.nonneg, ?_⟩
                obtain ⟨-, i1, j1, hi1, hj1, e⟩ := HQ.out.2.1
                dsimp only at e
                have h1 := HQ.out.1 i1 hi1
                have h2 := HQ.out.1 j1 hj1
                have h3 := HK.out
                omega
              have hnw := HW.out.1.grow hmd.cop.bel
              obtain ⟨m1, m2, m3⟩ := hnw.cells
              have HA := apart_any wr Nb Gb Wb j g (fun q => now.getD q 0) m1 m2 (fun q hq => m3 q (by rw [HW.out.2]; exact hq)) HK.out.2.2.2.2.1 HK.out.2.2.2.1 HK.out.2.1 (fun q hq => by have h1 := HQ.out.1 q hq; have h3 := HK.out; omega)
              have HNW : Hid (NW w wr j Wb Nb Gb g now) := hnw
              have HTab : Hid (TabSl wr js (.slice ha js.length hc) ∧ RowSl nuV wr off (.slice oa off.length oc)) := ⟨⟨row_own Ro.len hmd.cop.own, hmd.cop.xss⟩, rowOfN_own hmd.off⟩
              have HEE : Hid (rndF (js.map Ro.xs) (fn : Int) off = (L, 0, 0)) := hE
              clear hE hC1 hC2 hLl hLe HO' hjl m1 m2 m3 hnw hmd hjs hoff
              go_upto_region 41 with (first | (go_at_call 7; refine HA.mono ?_; rintro r w5 ⟨D1, rfl, hD1, hb5⟩; have hDD : D1 = D := hD1.one HQ.out.2.1; subst hDD; have H5 : Hid (NW w w5 j Wb Nb Gb g now ∧ TabSl w5 js (.slice ha js.length hc) ∧ RowSl nuV w5 off (.slice oa off.length oc)) := ⟨HNW.out.grow hb5, HTab.out.1.below hb5, HTab.out.2.below hb5⟩; clear hb5 hD1 HA) | (go_at_call 8; refine (Round_any w5 js (fn : Int) off _ _ H5.out.2.1 H5.out.2.2).mono ?_; rintro r w6 ⟨t6, rfl, hr6, hb6⟩; rw [HEE.out] at hr6 ⊢; dsimp only at hr6 ⊢; obtain ⟨ta, tc, rfl⟩ := hr6.len; have H6 : Hid (NW w (w6.alloc (.cells #[.int .i64 0, .int .i64 0] 30)) j Wb Nb Gb g now ∧ RowSl nuV (w6.alloc (.cells #[.int .i64 0, .int .i64 0] 30)) L (.slice ta L.length tc)) := ⟨(H5.out.1.grow hb6).grow (below_new _ _), hr6.below (below_new _ _)⟩; clear hb6 hr6 H5))
              have f0 : (w6.alloc (.cells #[.int .i64 0, .int .i64 0] 30)).cell? ⟨w6.heap.size, 0, none⟩ = some (.int .i64 0) := by go_simp
              have lf0 : w6.heap.size < (w6.alloc (.cells #[.int .i64 0, .int .i64 0] 30)).heap.size := World.block_lt_of_cell? _ _ f0
              obtain ⟨w7, hcp, hnw7, -⟩ := H6.out.1.copy HW.out.2 L HL.out.2.2 (by have := HK.out; omega) ta tc H6.out.2
              have H7 : Hid (NW w w7 j Wb Nb Gb g L) := hnw7
              obtain ⟨m1, -, -⟩ := H6.out.1.cells
              have lm1 : Nb < (w6.alloc (.cells #[.int .i64 0, .int .i64 0] 30)).heap.size := World.block_lt_of_cell? _ _ m1
              have hLj : L.length = j := HL.out.2.2
              rw [hLj]
              clear hnw7 H6
              generalize (w6.alloc (.cells #[.int .i64 0, .int .i64 0] 30)) = W6 at *
              generalize w6.heap.size = G6 at *
              obtain ⟨g1, g2, -⟩ := H7.out.cells
              have lg1 : Nb < w7.heap.size := World.block_lt_of_cell? _ _ g1
              have lg2 : Gb < w7.heap.size := World.block_lt_of_cell? _ _ g2
              clear hLj
              go_wp2_with fail
              clear hcp
              go_loopw [34] (fun iv wr => ∃ (p : Nat) (nw : List Int), g ≤ p ∧ p ≤ j ∧ iv = .int .i64 (p : Int) ∧ NW w wr j Wb Nb Gb g nw ∧ nw.length = j ∧ Hid (∀ q, q < g → nw.getD q 0 = L.getD q 0)) (fun iv _ => j - (intOf iv).toNat)
              case atStart => exact ⟨g, L, Nat.le_refl _, HK.out.2.2.2.1, rfl, H7.out, HL.out.2.2, fun q hq => rfl⟩
              case round =>
                obtain ⟨p, nw, hgp, hpj, rfl, hnw, hnl, HS⟩ := hrel
                obtain ⟨m1, m2, m3⟩ := hnw.cells
                have l1 : Nb < wr.heap.size := World.block_lt_of_cell? _ _ m1
                have HNn : Hid (NW w wr j Wb Nb Gb g nw ∧ nw.length = j) := ⟨hnw, hnl⟩
                by_cases hpl : p < j
                · have hpi : (p : Int) < (j : Int) := by omega
                  have m4 := m3 p (by rw [hnl]; exact hpl)
                  have fz := (cells_of hnw.row).2.1 p
                  have l2 : Wb < wr.heap.size := World.block_lt_of_cell? _ _ m4
                  have hset := hnw.set p 0
                  have HS2 : Hid (NW w (wr.setCell ⟨Wb, p, none⟩ (.int .i64 0)) j Wb Nb Gb g (nw.set p 0)) := hset
                  clear hset hnw m3 hnl
                  go_wp2_with fail
                  refine ⟨⟨p + 1, nw.set p 0, by omega, by omega, by simp, HS2.out, by rw [List.length_set]; exact HNn.out.2, fun q hq => ?_⟩, by simp [intOf]; omega⟩
                  rw [← HS.out q hq, List.getD_eq_getElem?_getD, List.getD_eq_getElem?_getD, List.getElem?_set_ne (by omega)]
                · have hpe : j = p := by omega
                  subst hpe
                  have hbd : ∀ q, q < g → -(1000000 + 2000 * (k : Int) + mo + wo) ≤ nw.getD q 0 ∧ nw.getD q 0 ≤ 1000000 + 2000 * (k : Int) + mo + wo := fun q hq => by rw [HS.out q hq]; exact HL.out.2.1 q hq
                  have HAp : Hid (∀ W, Below wr.heap.size wr W → Calls Try.prog 7 #[.pointer (some ⟨Nb, 0, none⟩), .pointer (some ⟨Gb, 0, none⟩)] W fun r w' => ∃ D, r = .returned (.int .i64 D) ∧ IsAp (fun q => nw.getD q 0) g D ∧ Below W.heap.size W w') := fun W hW => by
                    obtain ⟨x1, x2, x3⟩ := (HNn.out.1.grow hW).cells
                    exact apart_any W Nb Gb Wb j g (fun q => nw.getD q 0) x1 x2 (fun q hq => x3 q (by rw [HNn.out.2]; exact hq)) HK.out.2.2.2.2.1 HK.out.2.2.2.1 HK.out.2.1 (fun q hq => by have h1 := hbd q hq; have h3 := HK.out; omega)
                  have HBn : Hid (∀ q, q < g → -(1000000 + 2000 * ((k + 1 : Nat) : Int)) ≤ nw.getD q 0 ∧ nw.getD q 0 ≤ 1000000 + 2000 * ((k + 1 : Nat) : Int)) := fun q hq => by have h1 := hbd q hq; have h3 := HK.out; omega
                  have HCl : Hid (∀ E, IsAp (fun q => nw.getD q 0) g E → E ≤ (D1 + 4 * mo + 1) / 2 + 2 * wo ∧ E ≤ B) := fun E hEa => by
                    obtain ⟨-, i1, j1, hi1, hj1, e⟩ := hEa
                    dsimp only at e
                    rw [HS.out i1 hi1, HS.out j1 hj1] at e
                    have h1 := HL.out.1 i1 j1 hi1 hj1
                    have h2 := stays_within HQ.out.2.2 HBd.out.2
                    omega
                  have h3 := HK.out
                  have r1 : IntKind.i64.wrap (4 * mo) = 4 * mo := by rw [IntKind.wrap_i64]; omega
                  have r2 : IntKind.i64.wrap (D1 + 4 * mo) = D1 + 4 * mo := by rw [IntKind.wrap_i64]; omega
                  have r3 : IntKind.i64.wrap (D1 + 4 * mo + 1) = D1 + 4 * mo + 1 := by rw [IntKind.wrap_i64]; omega
                  have r4 : (D1 + 4 * mo + 1).tdiv 2 = (D1 + 4 * mo + 1) / 2 := Int.tdiv_eq_ediv_of_nonneg (by omega)
                  have r5 : IntKind.i64.wrap ((D1 + 4 * mo + 1) / 2) = (D1 + 4 * mo + 1) / 2 := by rw [IntKind.wrap_i64]; omega
                  have r6 : IntKind.i64.wrap (2 * wo) = 2 * wo := by rw [IntKind.wrap_i64]; omega
                  have r7 : IntKind.i64.wrap ((D1 + 4 * mo + 1) / 2 + 2 * wo) = (D1 + 4 * mo + 1) / 2 + 2 * wo := by rw [IntKind.wrap_i64]; omega
                  obtain ⟨lim, hlim⟩ : ∃ lim, (D1 + 4 * mo + 1) / 2 + 2 * wo = lim := ⟨_, rfl⟩
                  rw [hlim] at HCl
                  have r8 : IntKind.i64.wrap ((D1 + 4 * mo + 1) / 2 + 2 * wo) = lim := r7.trans hlim
                  clear h3 hbd hnw hnl m1 m2 m3 hlim r7
                  go_wp2_with (first | (go_at_call 7; refine (HAp.out wr (Below.refl _ _)).mono ?_; rintro r w8 ⟨E1, rfl, hE1, hb8⟩; have H8 : Hid (Below wr.heap.size wr w8 ∧ IsAp (fun q => nw.getD q 0) g E1) := ⟨hb8, hE1⟩; have v1 : decide (lim < E1) = false := decide_eq_false (by have := HCl.out E1 hE1; omega); clear hb8 hE1) | (go_at_call 7; refine (HAp.out w8 H8.out.1).mono ?_; rintro r w9 ⟨E2, rfl, hE2, hb9⟩; have hEE : E2 = E1 := hE2.one H8.out.2; subst hEE; have H9 : Hid (NW w w9 j Wb Nb Gb g nw ∧ IsAp (fun q => nw.getD q 0) g E2) := ⟨HNn.out.1.grow (below_seq H8.out.1 hb9), hE2⟩; have v2 : decide (B < E2) = false := decide_eq_false (by have := HCl.out E2 hE2; omega); clear hb9 hE2))
                  exact ⟨⟨k + 1, nw, E2, by omega, by simp, H9.out.1, HNn.out.2, ⟨HBn.out, H9.out.2, (HCl.out E2 H9.out.2).2⟩⟩, by simp [intOf]; omega⟩
        · have hke : k = rn := by omega
          have hki : ¬ (k : Int) < (rn : Int) := by omega
          have hkd : decide ((k : Int) < (rn : Int)) = false := decide_eq_false hki
          clear hke
          go_wp2_with fail
          go_ret
          exact ⟨rfl, HW.out.1.bel⟩

end Go.Proofs.Ytkafihaajpifoak
