import Derived.Test.YtccoobcggbbcialDoorND
import Derived.Test.YtccoobcggbbcialDoorNL
import Derived.Test.YtccoobcggbbcialDoorNJ
namespace Go.Proofs.YtccoobcggbbcialDoor
open Go.ChangeShapes Go.WideShapes Go.ChangeAt Go.RowKit

theorem BusT_ends {w : World} {g : Nat} {c k v : Value} {a : Act} (h : w.heap[g]? = some (.cells #[c, k] 30 (0, 0))) (h2 : a.tmps[2]?.getD undef = v) (h3 : a.tmps[3]?.getD undef = .pointer (some ⟨g, 0, none⟩)) :
    (results Tryd.f61 a.tmps).run Tryd.prog w = .ok (.tuple #[v, .agg #[c, k]]) w := by
  obtain ⟨c1, f1, l1⟩ := cells_of (l := [_, _]) h
  have c10 := c1 0 _ rfl
  have c11 := c1 1 _ rfl
  simp [results, Tryd.results61, go_sem, h2, h3, c10, c11]

/-- The box of the messages, the fault's block, and a row of one's own behind them. -/
theorem own_new {W : World} {B n size : Nat} {e : TypeId} {v : Value} {xs : List Value} (h : W.ownsRow B e size v n xs) : NewSl B v := fun a m c e => by
  obtain ⟨-, ⟨h, -⟩ | ⟨g, cap, cur, h, hB, -⟩⟩ := h
  · rw [h] at e; cases e
  · rw [h] at e; cases e; exact hB

structure BO (w W : World) (lv : Value) (acc : List Int) (av : Value) : Prop where
  bel : Below w.heap.size w W
  lb : W.heap[w.heap.size]? = some (.cells #[lv] 91 (0, 0))
  fb : W.heap[w.heap.size + 1]? = some (.cells #[.int .i64 0, .int .i64 0] 30 (0, 0))
  row : W.ownsRow (w.heap.size + 2) 3 1 av acc.length (acc.flatMap nuV)
section
variable {w W W' : World} {lv av : Value} {acc : List Int}
theorem BO.grow (h : BO w W lv acc av) (hb : Below W.heap.size W W') : BO w W' lv acc av :=
  ⟨below_seq h.bel hb, (hb.block _ (ltH h.lb)).trans h.lb, (hb.block _ (ltH h.fb)).trans h.fb, ownsRow_below h.row hb⟩
theorem BO.push (h : BO w W lv acc av) (x : Int) (hl : acc.length ≤ 100000) :
    ∃ ad c w4, (Builtin.append_ #[36, 36] 36 #[av, .slice (some ⟨W.heap.size, 0, none⟩) 1 1]).run Tryd.prog (W.alloc (.cells #[.int .i64 x] 3)) = .ok (.slice ad (acc.length + 1) c) w4 ∧ BO w w4 lv (acc ++ [x]) (.slice ad (acc.length + 1) c) := by
  obtain ⟨i0, hi0, hz0, hz1, hz2⟩ := info_parts info3
  have h1 := h.grow (below_new W (.cells #[.int .i64 x] 3))
  have hlt := ltH h.fb
  obtain ⟨v4, w4, hrun, ho4, hg4, -, hv4⟩ := run_append_own_at (P := Tryd.prog) (w := W.alloc (.cells #[.int .i64 x] 3)) (w.heap.size + 2) 36 36 3 i0 _ 1 8 Tryd.underlying36 hi0 hz0 hz1 hz2 rfl (by decide) av acc.length (acc.flatMap nuV) h1.row ⟨W.heap.size, 0, none⟩ 1 1 (nuV x) rfl (fun j u hj => by rw [Addr.add_lit]; have := (cells_of (l := nuV x) (heap_alloc_new W (.cells #[.int .i64 x] 3))).1 j u hj; simpa using this) (fun u hu => by simp [nuV] at hu; subst hu; rfl) (by unfold maxLen; omega) (by omega) (by simp; omega)
  obtain ⟨ad, c, rfl⟩ := owns_value ho4
  have hne : ∀ k, k < w.heap.size + 2 → some k ≠ av.ownBlock := fun k hk e => by have := (h.row.lt k e.symm).1; omega
  have hold : ∀ k, k < W.heap.size → some k ≠ av.ownBlock → w4.heap[k]? = W.heap[k]? := fun k hk hn => (hg4.block k (by simp; omega) hn).trans (Below.heap_alloc _ _ _ hk)
  have hbel : Below (w.heap.size + 2) W w4 := ((below_new W _).mono (by omega)).grown hg4 (by simp; omega) (fun k hk => (h.row.lt k hk).1)
  refine ⟨ad, c, w4, hrun, ⟨h.bel.trans (hbel.mono (by omega)), (hold _ (by omega) (hne _ (by omega))).trans h.lb, (hold _ hlt (hne _ (by omega))).trans h.fb, ?_⟩⟩
  rw [List.length_append, show (acc ++ [x]).flatMap nuV = acc.flatMap nuV ++ nuV x by simp]
  exact ho4
theorem BO.val (h : BO w W lv acc av) : ∃ ad c, av = .slice ad acc.length c := owns_value h.row
theorem BO.set (h : BO w W lv acc av) (a b : Value) : RowSl nuV ((W.setCell ⟨w.heap.size + 1, 0, none⟩ a).setCell ⟨w.heap.size + 1, 1, none⟩ b) acc av := by
  have h' : ((W.setCell ⟨w.heap.size + 1, 0, none⟩ a).setCell ⟨w.heap.size + 1, 1, none⟩ b).ownsRow (w.heap.size + 2) 3 1 av acc.length (acc.flatMap nuV) := ownsRow_same h.row (fun k hk _ => by rw [Below.heap_setCell _ _ _ _ (by show k ≠ w.heap.size + 1; omega), Below.heap_setCell _ _ _ _ (by show k ≠ w.heap.size + 1; omega)])
  obtain ⟨hl, ⟨h1, h2⟩ | ⟨g, cap, cur, he, hb, hg, hr⟩⟩ := h.row
  · subst h1
    have : acc = [] := by
      cases acc with
      | nil => rfl
      | cons x r => simp_all
    subst this
    exact RowSl.nil _ _
  · subst he
    refine ⟨_, cap, rfl, (fun e => by cases e), by omega, .inr ⟨g, 0, rfl, fun q u hq => ?_⟩⟩
    have hql := (List.getElem?_eq_some_iff.1 hq).1
    rw [flat_length nuV 1 nuV_len] at hql
    rw [Nat.zero_add]
    exact (h'.cellAt q (by omega)).trans hq
theorem BO.low (h : BO w W lv acc av) (a b : Value) : Below w.heap.size w ((W.setCell ⟨w.heap.size + 1, 0, none⟩ a).setCell ⟨w.heap.size + 1, 1, none⟩ b) := (h.bel.setCell (show w.heap.size ≤ w.heap.size + 1 by omega) _).setCell (show w.heap.size ≤ w.heap.size + 1 by omega) _
end

/-- Of one message: its number, itself, and how long it is held up, as they lie. -/
structure BI (wr W : World) (i : Nat) (m : Fr) (bv : Int) : Prop where
  bel : Below wr.heap.size wr W
  hi : W.heap[wr.heap.size]? = some (.cells #[.int .i64 (i : Int)] 3 (0, 0))
  hm : W.heap[wr.heap.size + 1]? = some (.cells #[.int .i64 m.c, .int .i64 m.t, .int .i64 m.d, .int .i64 m.j] 93 (0, 0))
  hb : W.heap[wr.heap.size + 2]? = some (.cells #[.int .i64 bv] 3 (0, 0))
theorem BI.grow {wr W W' : World} {i : Nat} {m : Fr} {bv : Int} (h : BI wr W i m bv) (hb : Below W.heap.size W W') : BI wr W' i m bv :=
  ⟨below_seq h.bel hb, (hb.block _ (ltH h.hi)).trans h.hi, (hb.block _ (ltH h.hm)).trans h.hm, (hb.block _ (ltH h.hb)).trans h.hb⟩
theorem BI.start (wr : World) (i : Nat) (m : Fr) : BI wr (((wr.alloc (.cells #[.int .i64 (i : Int)] 3)).alloc (.cells #[.int .i64 m.c, .int .i64 m.t, .int .i64 m.d, .int .i64 m.j] 93)).alloc (.cells #[.int .i64 0] 3)) i m 0 := by
  refine ⟨below_seq (below_seq (below_new _ _) (below_new _ _)) (below_new _ _), ?_, ?_, ?_⟩
  · rw [Below.heap_alloc _ _ _ (by simp; omega), Below.heap_alloc _ _ _ (by simp)]; exact heap_alloc_new _ _
  · rw [Below.heap_alloc _ _ _ (by simp)]
    have := heap_alloc_new (wr.alloc (.cells #[.int .i64 (i : Int)] 3)) (.cells #[.int .i64 m.c, .int .i64 m.t, .int .i64 m.d, .int .i64 m.j] 93)
    simpa using this
  · have := heap_alloc_new ((wr.alloc (.cells #[.int .i64 (i : Int)] 3)).alloc (.cells #[.int .i64 m.c, .int .i64 m.t, .int .i64 m.d, .int .i64 m.j] 93)) (.cells #[.int .i64 0] 3)
    simpa using this
theorem BI.put {wr W : World} {i : Nat} {m : Fr} {bv : Int} (h : BI wr W i m bv) (u : Int) : BI wr (W.setCell ⟨wr.heap.size + 2, 0, none⟩ (.int .i64 u)) i m u := by
  refine ⟨h.bel.setCell (show wr.heap.size ≤ wr.heap.size + 2 by omega) _, ?_, ?_, ?_⟩
  · rw [Below.heap_setCell _ _ _ _ (show wr.heap.size ≠ wr.heap.size + 2 by omega)]; exact h.hi
  · rw [Below.heap_setCell _ _ _ _ (show wr.heap.size + 1 ≠ wr.heap.size + 2 by omega)]; exact h.hm
  · rw [setCell_at h.hb]; rfl
/-- A store behind all of it. -/
theorem BI.other {wr W : World} {i : Nat} {m : Fr} {bv : Int} (h : BI wr W i m bv) {g k : Nat} (u : Value) (hg : wr.heap.size + 3 ≤ g) : BI wr (W.setCell ⟨g, k, none⟩ u) i m bv := by
  refine ⟨h.bel.setCell (show wr.heap.size ≤ g by omega) _, ?_, ?_, ?_⟩
  · rw [Below.heap_setCell _ _ _ _ (show wr.heap.size ≠ g by omega)]; exact h.hi
  · rw [Below.heap_setCell _ _ _ _ (show wr.heap.size + 1 ≠ g by omega)]; exact h.hm
  · rw [Below.heap_setCell _ _ _ _ (show wr.heap.size + 2 ≠ g by omega)]; exact h.hb

/-- The number in a box. -/
def qAt (v : Value) (W : World) : Nat := match v with
  | .pointer (some a) => (intOf ((W.cell? a).getD undef)).toNat
  | _ => 0

theorem lt_kinds {m : Fr} {busy : Int} {q : Nat} (hm : okFr m) : (q : Int) * m.t < busy + m.j ↔ (q : Int) < kinds m busy := by
  unfold kinds
  have ht := hm.2.2.1
  constructor
  · intro h
    have : (q : Int) + 1 ≤ (busy + m.j + m.t - 1) / m.t := by
      rw [Int.le_ediv_iff_mul_le (by omega), Int.add_mul, Int.one_mul]
      omega
    omega
  · intro h
    have : ((q : Int) + 1) * m.t ≤ busy + m.j + m.t - 1 := by
      rw [← Int.le_ediv_iff_mul_le (by omega)]
      omega
    rw [Int.add_mul, Int.one_mul] at this
    omega
set_option maxRecDepth 20000 in
set_option maxHeartbeats 2500000 in
theorem BusTimes_any (w : World) (l : List Fr) (v : Value) (hv : RowSl Fr.vals w l v) : Calls Tryd.prog 61 #[v] w (TimesPost w l) := by
  have HC := fun W (hb : Below w.heap.size w W) => CheckB_any W l v (hv.below hb)
  by_cases h0 : (chkN l).1 = 0
  rotate_left 1
  · obtain ⟨z1, z2, hz⟩ : ∃ z1 z2, chkN l = (z1, z2) := ⟨_, _, rfl⟩
    have HZ : Hid (chkN l = (z1, z2) ∧ (chkN l).1 ≠ 0) := ⟨hz, h0⟩
    rw [hz] at HC h0
    dsimp only at HC h0
    have hz1 : (z1 != 0) = true := by simpa using h0
    obtain ⟨ad, c, rfl⟩ := hv.len
    have HF : Hid (FB w ((w.alloc (.cells #[.slice ad l.length c] 91)).alloc (.cells #[.int .i64 0, .int .i64 0] 30)) (w.heap.size + 1)) := ⟨below_seq (below_new _ _) (below_new _ _), by have := heap_alloc_new (w.alloc (.cells #[.slice ad l.length c] 91)) (.cells #[.int .i64 0, .int .i64 0] 30); simpa using this, by omega⟩
    clear hv hz h0
    go_enter Tryd.func61, Tryd.ntmps61
    go_upto_region 3 with (go_at_call 94; refine (HC _ (below_seq (below_new _ _) (below_new _ _))).mono ?_; rintro r w1 ⟨rfl, hb1⟩; have H1 : Hid (FB w (w1.alloc (.cells #[.int .i64 z1, .int .i64 z2] 30)) (w.heap.size + 1)) := (HF.out.grow hb1).grow (below_new _ _); have hl1 : w.heap.size + 1 < w1.heap.size := (HF.out.grow hb1).lt; clear hb1 HC)
    obtain ⟨fs, -, fl⟩ := cells_of (l := [_, _]) (heap_alloc_new w1 (.cells #[.int .i64 z1, .int .i64 z2] 30))
    have g0 := fs 0 _ rfl
    have g1 := fs 1 _ rfl
    clear fs
    generalize w1.alloc (.cells #[.int .i64 z1, .int .i64 z2] 30) = w2 at *
    obtain ⟨qs, qf, ql⟩ := cells_of (l := [_, _]) H1.out.res
    have q0 := qs 0 _ rfl
    have q1 := qs 1 _ rfl
    have qf0 := qf 0
    have qf1 := qf 1
    clear qs qf
    go_region
    all_goals go_wp2_with fail
    all_goals
      refine bodyPost_ret (BusT_ends (g := w.heap.size + 1) (c := .int .i64 z1) (k := .int .i64 z2) (v := .slice none 0 0) (set_two H1.out.res) rfl rfl) rfl ?_
      exact ⟨[], (z1, z2), _, .inl ⟨HZ.out.2, rfl, HZ.out.1.symm⟩, rfl, RowSl.nil _ _, (H1.out.set _ _).drew, NewSl.none _ _ _⟩
  · obtain ⟨hl1, hl8, hok, hce⟩ := chkN_ok h0
    rw [hce] at HC
    dsimp only at HC
    have hv' := hv
    obtain ⟨ad, c, rfl, -, hcap, hrw⟩ := hv'
    rcases hrw with hnil | ⟨ab, ao, rfl, hrow⟩
    · rw [hnil] at hl1; simp at hl1
    have HV : Hid (RowSl Fr.vals w l (.slice (some ⟨ab, ao, none⟩) l.length c) ∧ (∀ x ∈ l, okFr x) ∧ (∀ q u, (l.flatMap Fr.vals)[q]? = some u → w.cell? ⟨ab, ao + q, none⟩ = some u) ∧ (chkN l).1 = 0) := ⟨hv, hok, hrow, h0⟩
    have HF : Hid (BO w ((w.alloc (.cells #[(.slice (some ⟨ab, ao, none⟩) l.length c)] 91)).alloc (.cells #[.int .i64 0, .int .i64 0] 30)) (.slice (some ⟨ab, ao, none⟩) l.length c) [] (.slice none 0 0)) := ⟨below_seq (below_new _ _) (below_new _ _), by rw [Below.heap_alloc _ _ _ (by simp)]; exact heap_alloc_new _ _, by have := heap_alloc_new (w.alloc (.cells #[(.slice (some ⟨ab, ao, none⟩) l.length c)] 91)) (.cells #[.int .i64 0, .int .i64 0] 30); simpa using this, ⟨rfl, .inl ⟨rfl, rfl⟩⟩⟩
    clear hv hok hrow h0 hce
    go_enter Tryd.func61, Tryd.ntmps61
    go_upto_region 2 with (go_at_call 94; refine (HC _ (below_seq (below_new _ _) (below_new _ _))).mono ?_; rintro r w1 ⟨rfl, hb1⟩; have H1 : Hid (BO w (w1.alloc (.cells #[.int .i64 0, .int .i64 0] 30)) (.slice (some ⟨ab, ao, none⟩) l.length c) [] (.slice none 0 0)) := (HF.out.grow hb1).grow (below_new _ _); clear hb1 HC)
    obtain ⟨fs, -, fl⟩ := cells_of (l := [_, _]) (heap_alloc_new w1 (.cells #[.int .i64 0, .int .i64 0] 30))
    have g0 := fs 0 _ rfl
    clear fs
    generalize w1.alloc (.cells #[.int .i64 0, .int .i64 0] 30) = w2 at *
    have lb := (cells_of (l := [_]) H1.out.lb).1 0 _ rfl
    go_wp2_with fail
    clear lb g0 fl
    go_loopw [5, 24] (fun av i4 wr => ∃ ts : List Int, ts.length ≤ l.length ∧ i4 = .int .i64 (ts.length : Nat) ∧ BO w wr (.slice (some ⟨ab, ao, none⟩) l.length c) ts av ∧ TmsTo l ts) (fun _ i4 _ => l.length - (intOf i4).toNat)
    case atStart => exact ⟨[], Nat.zero_le _, rfl, H1.out, TmsTo.start l⟩
    case round =>
      obtain ⟨ts, hts, rfl, htw, htm⟩ := hrel
      generalize wr = wR at *
      obtain ⟨ad5, c5, rfl⟩ := htw.val
      have HT : Hid (BO w wR (.slice (some ⟨ab, ao, none⟩) l.length c) ts (.slice ad5 ts.length c5) ∧ TmsTo l ts) := ⟨htw, htm⟩
      by_cases hjl : ts.length < l.length
      · obtain ⟨m, hm, -⟩ := drop_at hjl
        have hmk := HV.out.2.1 m (List.mem_of_getElem? hm)
        obtain ⟨y0, y1, y2, y3⟩ := fr_at (fun q u hq => below_cell htw.bel (HV.out.2.2.1 q u hq)) hm
        have lb := (cells_of (l := [_]) htw.lb).1 0 _ rfl
        have HMM : Hid (l[ts.length]? = some m ∧ okFr m) := ⟨hm, hmk⟩
        clear htw htm hm
        generalize hj : ts.length = j at *
        have HJ : Hid (ts.length = j) := hj
        clear hj
        obtain ⟨mc, mt, md, mj⟩ := m
        obtain ⟨g1, g2, g3, g4, g5, g6, g7, g8⟩ := hmk
        dsimp only at y0 y1 y2 y3 g1 g2 g3 g4 g5 g6 g7 g8
        have hji : (j : Int) < (l.length : Int) := by omega
        have HB : Hid (BI wR (((wR.alloc (.cells #[.int .i64 (j : Int)] 3)).alloc (.cells #[.int .i64 mc, .int .i64 mt, .int .i64 md, .int .i64 mj] 93)).alloc (.cells #[.int .i64 0] 3)) j ⟨mc, mt, md, mj⟩ 0) := BI.start wR j ⟨mc, mt, md, mj⟩
        go_wp2_with fail
        generalize (((wR.alloc (.cells #[.int .i64 (j : Int)] 3)).alloc (.cells #[.int .i64 mc, .int .i64 mt, .int .i64 md, .int .i64 mj] 93)).alloc (.cells #[.int .i64 0] 3)) = wb at *
        clear lb y0 y1 y2 y3
        go_loopw [9] (fun k4 wk => ∃ (k : Nat) (bv : Int), j + 1 ≤ k ∧ k ≤ l.length ∧ k4 = .int .i64 k ∧ BI wR wk j ⟨mc, mt, md, mj⟩ bv ∧ 0 ≤ bv ∧ bv ≤ 9999 ∧ Hid (max bv (heldF (l.drop k)) = heldF (l.drop (j + 1)))) (fun k4 _ => l.length - (intOf k4).toNat)
        case atStart => exact ⟨j + 1, 0, Nat.le_refl _, by omega, by simp, HB.out, by omega, by omega, by have := heldF_nonneg (l.drop (j + 1)); show max 0 (heldF (l.drop (j + 1))) = _; omega⟩
        case round =>
          obtain ⟨k, bv, hk1, hk2, rfl, hbi, hb0, hb1, HM⟩ := hrel
          generalize wr = wk at *
          have lb := (cells_of (l := [_]) (HT.out.1.grow hbi.bel).lb).1 0 _ rfl
          obtain ⟨bs, bf, bl⟩ := cells_of (l := [_]) hbi.hb
          have cb := bs 0 _ rfl
          have cbf := bf 0
          clear bs bf
          by_cases hkl : k < l.length
          · obtain ⟨x, hx, hdx⟩ := drop_at hkl
            obtain ⟨y0, y1, y2, y3⟩ := fr_at (fun q u hq => below_cell (HT.out.1.grow hbi.bel).bel (HV.out.2.2.1 q u hq)) hx
            have hxo := HV.out.2.1 x (List.mem_of_getElem? hx)
            have HD : Hid (heldF (l.drop k) = max (x.c - 1) (heldF (l.drop (k + 1)))) := by rw [hdx]; rfl
            obtain ⟨xc, xt, xd, xj⟩ := x
            have hc1 : 1 ≤ xc := hxo.1
            have hc2 : xc ≤ 10000 := hxo.2.1
            dsimp only at y0 y1 y2 y3
            have hki : (k : Int) < (l.length : Int) := by omega
            have HK : Hid (BI wR wk j ⟨mc, mt, md, mj⟩ bv) := hbi
            clear hbi hxo hx hdx
            go_wp2_with fail
            go_quiet (fail)
            have HK2 : Hid (BI wR (wk.drewN nq) j ⟨mc, mt, md, mj⟩ bv) := HK.out.grow below_drewN'
            have lb' : (wk.drewN nq).cell? ⟨w.heap.size, 0, none⟩ = _ := lb
            have cb' : (wk.drewN nq).cell? ⟨wR.heap.size + 2, 0, none⟩ = _ := cb
            have cbf' : (wk.drewN nq).frozen? ⟨wR.heap.size + 2, 0, none⟩ = _ := cbf
            have y0' : (wk.drewN nq).cell? ⟨ab, ao + k * 4, none⟩ = _ := y0
            have bl' : wR.heap.size + 2 < (wk.drewN nq).heap.size := bl
            clear lb cb cbf y0 y1 y2 y3 bl HK
            generalize wk.drewN nq = wz at *
            by_cases hgt : bv < xc - 1
            · go_wp2_with fail
              refine ⟨⟨k + 1, xc - 1, by omega, by omega, by simp, HK2.out.put _, by omega, by omega, ?_⟩, by simp [intOf]; omega⟩
              have e : max (xc - 1) (heldF (l.drop (k + 1))) = heldF (l.drop (j + 1)) := by rw [← HM.out, HD.out]; omega
              exact e
            · go_wp2_with fail
              refine ⟨⟨k + 1, bv, by omega, by omega, by simp, HK2.out, by omega, by omega, ?_⟩, by simp [intOf]; omega⟩
              have e : max bv (heldF (l.drop (k + 1))) = heldF (l.drop (j + 1)) := by rw [← HM.out, HD.out]; omega
              exact e
          · have hke : k = l.length := by omega
            subst hke
            have hbe : bv = heldF (l.drop (j + 1)) := by
              have := HM.out
              rw [List.drop_length] at this
              rw [← this]; simp only [heldF]; omega
            have HBE : Hid (bv = heldF (l.drop (j + 1))) := hbe
            have hki : ¬ ((l.length : Nat) : Int) < (l.length : Int) := by omega
            clear hbe HM
            have HK : Hid (BI wR wk j ⟨mc, mt, md, mj⟩ bv) := hbi
            have hdk : ∀ x ∈ (l.take j), okFr x := take_ok HV.out.2.1
            have hd8 : (l.take j).length ≤ 8 := by rw [List.length_take]; omega
            obtain ⟨x1, hx1⟩ := Fx.ex (busyAsk bv (l.take j) ⟨mc, mt, md, mj⟩) (bv + mc)
            have HX1 : Hid (Fx (busyAsk bv (l.take j) ⟨mc, mt, md, mj⟩) (bv + mc) x1) := hx1
            have HG : Hid (Calls Tryd.prog 95 #[.int .i64 (bv + mc), .func (Fn.func 96) #[] #[.pointer (some ⟨wR.heap.size + 2, 0, none⟩), .pointer (some ⟨wR.heap.size, 0, none⟩), .pointer (some ⟨w.heap.size, 0, none⟩)]] wk fun r w' => r = .returned (.int .i64 (x1.getD (-1))) ∧ Below wk.heap.size wk w') := by
              refine (growU_any wk (wR.heap.size + 2) wR.heap.size w.heap.size (busyAsk bv (l.take j) ⟨mc, mt, md, mj⟩) (bv + mc) (fun W hWb y hy0 hy1 => ?_) ((busyAsk_mo hdk HMM.out.2).up (by omega)) (by omega) (by omega) (busyAsk_low hdk HMM.out.2 (by omega)) (fun y hy0 hy1 => busyAsk_big hdk hd8 HMM.out.2 hb1 (by omega) hy1)).mono ?_
              · have gg := hbi.grow hWb
                have gb := HT.out.1.grow gg.bel
                exact d1_any W l ab ao c ⟨mc, mt, md, mj⟩ (wR.heap.size + 2) wR.heap.size w.heap.size j bv y hl8 HV.out.2.1 HMM.out.1 ⟨hb0, hb1⟩ ⟨hy0, hy1⟩ (fun q u hq => below_cell gb.bel (HV.out.2.2.1 q u hq)) ((cells_of (l := [_]) gg.hb).1 0 _ rfl) ((cells_of (l := [_]) gg.hi).1 0 _ rfl) ((cells_of (l := [_]) gb.lb).1 0 _ rfl)
              · rintro r w' ⟨x, hx, rfl, hb'⟩
                have e := hx.one HX1.out
                subst e
                exact ⟨rfl, hb'⟩
            have e0 : IntKind.i64.wrap (bv + mc) = bv + mc := by rw [IntKind.wrap_i64]; omega
            obtain ⟨is, if_, il⟩ := cells_of (l := [_]) hbi.hi; have ci := is 0 _ rfl; obtain ⟨ms, mf, ml⟩ := cells_of (l := [_, _, _, _]) hbi.hm; have m0 := ms 0 _ rfl; have m1 := ms 1 _ rfl; have m2 := ms 2 _ rfl; have m3 := ms 3 _ rfl; obtain ⟨bs, bf, bl⟩ := cells_of (l := [_]) hbi.hb; have cbx := bs 0 _ rfl; have fbx := bf 0; clear is if_ ms mf bs bf
            have HO : Hid ((∀ x ∈ (l.take j), okFr x) ∧ (l.take j).length ≤ 8) := ⟨hdk, hd8⟩
            clear hbi hdk hd8 hx1
            cases x1 with
            | none =>
              have HG2 := HG.out
              simp only [Option.getD] at HG2
              clear HG
              have HWS : Hid (Wst (l.take j) ⟨mc, mt, md, mj⟩ (l.drop (j + 1)) none) := .none (by rw [← HBE.out]; exact busy_from HO.out.1 HMM.out.2 hb0 HX1.out)
              go_wp2_with (go_at_call 95; refine HG2.mono ?_; rintro r w5 ⟨rfl, hb5⟩; have H5 : Hid (BI wR w5 j ⟨mc, mt, md, mj⟩ bv) := HK.out.grow hb5; clear hb5 HG2)
              go_loopw [12] (fun okv wq => okv = .bool false ∧ BI wR wq j ⟨mc, mt, md, mj⟩ bv) (fun _ _ => 0)
              case atStart => exact ⟨rfl, H5.out.grow (below_new _ _)⟩
              case round =>
                obtain ⟨rfl, hbq⟩ := hrel
                generalize wr = wq at *
                have HE : Hid (BI wR wq j ⟨mc, mt, md, mj⟩ bv) := hbq
                obtain ⟨zis, zif_, zil⟩ := cells_of (l := [_]) hbq.hi; have zci := zis 0 _ rfl; obtain ⟨zms, zmf, zml⟩ := cells_of (l := [_, _, _, _]) hbq.hm; have zm0 := zms 0 _ rfl; have zm1 := zms 1 _ rfl; have zm2 := zms 2 _ rfl; have zm3 := zms 3 _ rfl; obtain ⟨zbs, zbf, zbl⟩ := cells_of (l := [_]) hbq.hb; have zcb := zbs 0 _ rfl; have zfb := zbf 0; clear zis zif_ zms zmf zbs zbf
                clear hbq
                go_wp2_with (go_at_call 41; refine (F_any _ _ _).mono ?_; rintro r w8 ⟨rfl, hb8⟩; have H8 : Hid (BO w w8 (.slice (some ⟨ab, ao, none⟩) l.length c) ts (.slice ad5 j c5)) := (HT.out.1.grow HE.out.bel).grow hb8; obtain ⟨qs, qf, ql⟩ := cells_of (l := [_, _]) H8.out.fb; have q0 := qs 0 _ rfl; have q1 := qs 1 _ rfl; have qf0 := qf 0; have qf1 := qf 1; clear qs qf; clear hb8)
                refine bodyPost_ret (BusT_ends (g := w.heap.size + 1) (c := .int .i64 13) (k := .int .i64 (j : Int)) (v := .slice none 0 0) (set_two H8.out.fb) rfl rfl) rfl ?_
                refine ⟨[], (13, (j : Int)), _, .inr ⟨HV.out.2.2.2, .inr ⟨rfl, ts, HT.out.2, ⟨⟨mc, mt, md, mj⟩, none, ?_, ?_, fun v h => by cases h⟩, by rw [HJ.out]⟩⟩, rfl, RowSl.nil _ _, H8.out.low _ _, NewSl.none _ _ _⟩
                · rw [HJ.out]; exact HMM.out.1
                · rw [HJ.out]; exact HWS.out
            | some busy =>
              have HG2 := HG.out
              simp only [Option.getD] at HG2
              clear HG
              have HF1 : Hid (Fx (busyAsk bv (l.take j) ⟨mc, mt, md, mj⟩) 1 (some busy)) := busy_from HO.out.1 HMM.out.2 hb0 HX1.out
              have hbz0 : 1 ≤ busy := HF1.out.1
              have hbz1 : busy ≤ 100000 := HF1.out.2.1
              have hkr := kinds_range (busy := busy) HMM.out.2 (by omega) hbz1
              obtain ⟨K, hK⟩ : ∃ K : Nat, kinds ⟨mc, mt, md, mj⟩ busy = (K : Int) := ⟨(kinds ⟨mc, mt, md, mj⟩ busy).toNat, by omega⟩
              have HKK : Hid (kinds ⟨mc, mt, md, mj⟩ busy = (K : Int)) := hK
              rw [hK] at hkr
              have hK3 : K ≤ 130000 := by omega
              have hge : (0 : Int) ≤ busy := by omega
              have e1 : IntKind.i64.wrap (busy + mj) = busy + mj := by rw [IntKind.wrap_i64]; omega
              clear hkr hK
              go_wp2_with (go_at_call 95; refine HG2.mono ?_; rintro r w5 ⟨rfl, hb5⟩; have H5 : Hid (BI wR w5 j ⟨mc, mt, md, mj⟩ bv) := HK.out.grow hb5; clear hb5 HG2)
              clear ci m0 m1 m2 m3 cbx fbx lb cb cbf
              go_loopw [11, 12, 13] (fun wv okv qp wq => ∃ (q g : Nat) (v : Int) (ok : Bool), wv = .int .i64 v ∧ okv = .bool ok ∧ qp = .pointer (some ⟨g, 0, none⟩) ∧ wq.heap[g]? = some (.cells #[.int .i64 (q : Int)] 3 (0, 0)) ∧ wR.heap.size + 3 ≤ g ∧ BI wR wq j ⟨mc, mt, md, mj⟩ bv ∧ q ≤ K ∧ 0 ≤ v ∧ v ≤ 200000 ∧ ((ok = true ∧ Tm bv (l.take j) ⟨mc, mt, md, mj⟩ q (some v)) ∨ (ok = false ∧ Wst (l.take j) ⟨mc, mt, md, mj⟩ (l.drop (j + 1)) none))) (fun _ _ qp wq => K + 1 - qAt qp wq)
              case atStart => exact ⟨0, w5.heap.size, 0, true, rfl, rfl, rfl, heap_alloc_new _ _, by have := ltH H5.out.hb; omega, H5.out.grow (below_new _ _), Nat.zero_le _, by omega, by omega, .inl ⟨rfl, .zero⟩⟩
              case round =>
                obtain ⟨q, g, v, ok, rfl, rfl, rfl, hqb, hgl, hbq, hqK, hv0, hv1, hst⟩ := hrel
                generalize wr = wq at *
                have HE : Hid (BI wR wq j ⟨mc, mt, md, mj⟩ bv ∧ wq.heap[g]? = some (.cells #[.int .i64 (q : Int)] 3 (0, 0))) := ⟨hbq, hqb⟩
                have HQA : Hid (qAt (.pointer (some ⟨g, 0, none⟩)) wq = q) := by
                  have e : qAt (.pointer (some ⟨g, 0, none⟩)) wq = q := by
                    show (intOf ((wq.cell? ⟨g, 0, none⟩).getD undef)).toNat = q
                    rw [(cells_of (l := [_]) hqb).1 0 _ rfl]
                    simp [intOf]
                  exact e
                obtain ⟨zis, zif_, zil⟩ := cells_of (l := [_]) hbq.hi; have zci := zis 0 _ rfl; obtain ⟨zms, zmf, zml⟩ := cells_of (l := [_, _, _, _]) hbq.hm; have zm0 := zms 0 _ rfl; have zm1 := zms 1 _ rfl; have zm2 := zms 2 _ rfl; have zm3 := zms 3 _ rfl; obtain ⟨zbs, zbf, zbl⟩ := cells_of (l := [_]) hbq.hb; have zcb := zbs 0 _ rfl; have zfb := zbf 0; clear zis zif_ zms zmf zbs zbf
                have lb := (cells_of (l := [_]) (HT.out.1.grow hbq.bel).lb).1 0 _ rfl
                obtain ⟨gs, gf, gl⟩ := cells_of (l := [_]) hqb
                have gq := gs 0 _ rfl
                clear gs gf hbq hqb
                rcases hst with ⟨rfl, htm⟩ | ⟨rfl, hws⟩
                · have hqm0 : 0 ≤ (q : Int) * mt := Int.mul_nonneg (by omega) (by omega)
                  have hqm1 : (q : Int) * mt ≤ 2000000000 := by
                    have := Int.mul_le_mul (show (q : Int) ≤ 130000 by omega) g4 (by omega) (by omega)
                    omega
                  have f2 : IntKind.i64.wrap ((q : Int) * mt) = (q : Int) * mt := by rw [IntKind.wrap_i64]; omega
                  by_cases hqk : (q : Int) * mt < busy + mj
                  · have hqlt : q < K := by
                      have := (lt_kinds (q := q) HMM.out.2).1 hqk
                      rw [HKK.out] at this
                      omega
                    obtain ⟨xq, hxq⟩ := Fx.ex (qAsk bv (l.take j) ⟨mc, mt, md, mj⟩ (q : Int)) (bv + (q : Int) * mc)
                    have hqc0 : 0 ≤ (q : Int) * mc := Int.mul_nonneg (by omega) (by omega)
                    have hqc1 : (q : Int) * mc ≤ 2000000000 := by
                      have := Int.mul_le_mul (show (q : Int) ≤ 130000 by omega) g2 (by omega) (by omega)
                      omega
                    have HTQ : Hid (Tm bv (l.take j) ⟨mc, mt, md, mj⟩ q (some v) ∧ Fx (qAsk bv (l.take j) ⟨mc, mt, md, mj⟩ (q : Int)) 0 xq) := ⟨htm, q_from (m := ⟨mc, mt, md, mj⟩) HO.out.1 HMM.out.2 hb0 (by omega) hxq⟩
                    have HGQ : Hid (Calls Tryd.prog 95 #[.int .i64 (bv + (q : Int) * mc), .func (Fn.func 97) #[] #[.pointer (some ⟨wR.heap.size + 2, 0, none⟩), .pointer (some ⟨g, 0, none⟩), .pointer (some ⟨wR.heap.size + 1, 0, none⟩), .pointer (some ⟨wR.heap.size, 0, none⟩), .pointer (some ⟨w.heap.size, 0, none⟩)]] wq fun r w' => r = .returned (.int .i64 (xq.getD (-1))) ∧ Below wq.heap.size wq w') := by
                      refine (growQ_any wq (wR.heap.size + 2) g (wR.heap.size + 1) wR.heap.size w.heap.size (qAsk bv (l.take j) ⟨mc, mt, md, mj⟩ (q : Int)) (bv + (q : Int) * mc) (fun W hWb y hy0 hy1 => ?_) ((qAsk_mo HO.out.1).up (by omega)) (by omega) (by omega) (qAsk_low (m := ⟨mc, mt, md, mj⟩) HO.out.1 (by omega)) (fun y hy0 hy1 => qAsk_big HO.out.1 HO.out.2 HMM.out.2 hb1 (by omega) (by omega) hy1)).mono ?_
                      · have gg := HE.out.1.grow hWb
                        have gb := HT.out.1.grow gg.bel
                        exact d2_any W l ab ao c ⟨mc, mt, md, mj⟩ (wR.heap.size + 2) g (wR.heap.size + 1) wR.heap.size w.heap.size j q bv y hl8 HV.out.2.1 HMM.out.1 ⟨hb0, hb1⟩ ⟨hy0, hy1⟩ (fun q u hq => below_cell gb.bel (HV.out.2.2.1 q u hq)) (by omega) ((cells_of (l := [_]) gg.hb).1 0 _ rfl) (below_cell hWb ((cells_of (l := [_]) HE.out.2).1 0 _ rfl)) ((cells_of (l := [_, _, _, _]) gg.hm).1 0 _ rfl) ((cells_of (l := [_]) gg.hi).1 0 _ rfl) ((cells_of (l := [_]) gb.lb).1 0 _ rfl)
                      · rintro r w' ⟨x, hx, rfl, hb'⟩
                        have e := hx.one hxq
                        subst e
                        exact ⟨rfl, hb'⟩
                    have f5 : IntKind.i64.wrap ((q : Int) * mc) = (q : Int) * mc := by rw [IntKind.wrap_i64]; omega
                    have f6 : IntKind.i64.wrap (bv + (q : Int) * mc) = bv + (q : Int) * mc := by rw [IntKind.wrap_i64]; omega
                    clear htm hxq hqc0 hqc1
                    obtain ⟨wv, hwv⟩ : ∃ wv : Int, xq.getD (-1) = wv := ⟨_, rfl⟩
                    have hwr : -1 ≤ wv ∧ wv ≤ 100000 ∧ (xq = none → wv = -1) ∧ (∀ u, xq = some u → wv = u ∧ 0 ≤ u) := by
                      cases xq with
                      | none => simp at hwv; exact ⟨by omega, by omega, fun _ => by omega, fun u h => by cases h⟩
                      | some u => simp at hwv; have a1 := HTQ.out.2.1; have a2 := HTQ.out.2.2.1; exact ⟨by omega, by omega, fun h => (by cases h), fun u' h => by cases h; exact ⟨hwv.symm, a1⟩⟩
                    have HGQ2 := HGQ.out
                    rw [hwv] at HGQ2
                    clear HGQ hwv
                    have f1 : IntKind.i64.wrap (mj + wv) = mj + wv := by rw [IntKind.wrap_i64]; omega
                    have f3 : IntKind.i64.wrap (mj + wv - (q : Int) * mt) = mj + wv - (q : Int) * mt := by rw [IntKind.wrap_i64]; omega
                    have f4 : IntKind.i64.wrap (mj + wv - (q : Int) * mt + mc) = mj + wv - (q : Int) * mt + mc := by rw [IntKind.wrap_i64]; omega
                    have f7 : IntKind.i64.wrap ((q : Int) + 1) = (q : Int) + 1 := by rw [IntKind.wrap_i64]; omega
                    obtain ⟨zz, hzz⟩ : ∃ zz, zz = mj + wv - (q : Int) * mt + mc := ⟨_, rfl⟩
                    have HZZ : Hid (zz = mj + wv - (q : Int) * mt + mc ∧ zz ≤ 200000) := ⟨hzz, by omega⟩
                    rw [← hzz] at f4
                    have f8 : mj + wv - (q : Int) * mt + mc = zz := hzz.symm
                    have HCNT : Hid (∀ w5 : World, BI wR w5 j ⟨mc, mt, md, mj⟩ bv → wR.heap.size + 3 ≤ w5.heap.size) := fun w5 h5 => by have := ltH h5.hb; omega
                    have hgeb : decide ((0 : Int) ≤ wv) = true ∨ decide ((0 : Int) ≤ wv) = false := by cases decide ((0 : Int) ≤ wv) <;> simp
                    have HOK : Hid ((0 ≤ wv ∧ Tm bv (l.take j) ⟨mc, mt, md, mj⟩ (q + 1) (some (max v zz))) ∨ (wv < 0 ∧ Wst (l.take j) ⟨mc, mt, md, mj⟩ (l.drop (j + 1)) none)) := by
                      have e : (0 ≤ wv ∧ Tm bv (l.take j) ⟨mc, mt, md, mj⟩ (q + 1) (some (max v zz))) ∨ (wv < 0 ∧ Wst (l.take j) ⟨mc, mt, md, mj⟩ (l.drop (j + 1)) none) := by
                        cases xq with
                        | none =>
                          right
                          refine ⟨by have := hwr.2.2.1 rfl; omega, .some (by rw [← HBE.out]; exact HF1.out) ?_⟩
                          rw [HKK.out, Int.toNat_natCast, ← HBE.out]
                          have := (Tm.stop HTQ.out.1 HTQ.out.2).gone_to (K - (q + 1))
                          rwa [show q + 1 + (K - (q + 1)) = K by omega] at this
                        | some u =>
                          left
                          obtain ⟨e1, e2⟩ := hwr.2.2.2 u rfl
                          subst e1
                          rw [HZZ.out.1]
                          exact ⟨e2, .next HTQ.out.1 HTQ.out.2⟩
                      exact e
                    clear hwr hzz
                    by_cases hgt : v < zz
                    · rcases HOK.out with ⟨hw0, htm2⟩ | ⟨hw0, hws⟩
                      · have hw0' : ¬ wv < 0 := by omega
                        have HR : Hid (Tm bv (l.take j) ⟨mc, mt, md, mj⟩ (q + 1) (some zz)) := by rw [show max v zz = zz by omega] at htm2; exact htm2
                        clear htm2 hgeb
                        go_wp2_with (go_at_call 95; refine HGQ2.mono ?_; rintro r w5 ⟨rfl, hb5⟩; have H5 : Hid (BI wR w5 j ⟨mc, mt, md, mj⟩ bv) := HE.out.1.grow hb5; have gq5 := below_cell hb5 gq; have z5m0 := below_cell hb5 zm0; have z5m1 := below_cell hb5 zm1; have z5m3 := below_cell hb5 zm3; clear hb5 HGQ2)
                        refine ⟨⟨q + 1, w5.heap.size, zz, true, rfl, by simp, rfl, ?_, HCNT.out w5 H5.out, ?_, by omega, by omega, HZZ.out.2, .inl ⟨rfl, HR.out⟩⟩, ?_⟩
                        · first | exact heap_alloc_new _ _ | (rw [setCell_at (heap_alloc_new _ _)]; rfl) | (have := heap_alloc_new w5 (.cells #[.int .i64 ((q : Int) + 1)] 3); simpa using this)
                        · first | exact H5.out.grow (below_new _ _) | exact (H5.out.grow (below_new _ _)).other _ (HCNT.out w5 H5.out)
                        · rw [HQA.out]; simp [qAt, intOf]; omega
                      · have HR : Hid (Wst (l.take j) ⟨mc, mt, md, mj⟩ (l.drop (j + 1)) none) := hws
                        clear hws hgeb
                        go_wp2_with (go_at_call 95; refine HGQ2.mono ?_; rintro r w5 ⟨rfl, hb5⟩; have H5 : Hid (BI wR w5 j ⟨mc, mt, md, mj⟩ bv) := HE.out.1.grow hb5; have gq5 := below_cell hb5 gq; have z5m0 := below_cell hb5 zm0; have z5m1 := below_cell hb5 zm1; have z5m3 := below_cell hb5 zm3; clear hb5 HGQ2)
                        refine ⟨⟨q + 1, w5.heap.size, zz, false, rfl, by simp; omega, rfl, ?_, HCNT.out w5 H5.out, ?_, by omega, by omega, HZZ.out.2, .inr ⟨rfl, HR.out⟩⟩, ?_⟩
                        · first | exact heap_alloc_new _ _ | (rw [setCell_at (heap_alloc_new _ _)]; rfl) | (have := heap_alloc_new w5 (.cells #[.int .i64 ((q : Int) + 1)] 3); simpa using this)
                        · first | exact H5.out.grow (below_new _ _) | exact (H5.out.grow (below_new _ _)).other _ (HCNT.out w5 H5.out)
                        · rw [HQA.out]; simp [qAt, intOf]; omega
                    · rcases HOK.out with ⟨hw0, htm2⟩ | ⟨hw0, hws⟩
                      · have HR : Hid (Tm bv (l.take j) ⟨mc, mt, md, mj⟩ (q + 1) (some v)) := by rw [show max v zz = v by omega] at htm2; exact htm2
                        clear htm2 hgeb
                        go_wp2_with (go_at_call 95; refine HGQ2.mono ?_; rintro r w5 ⟨rfl, hb5⟩; have H5 : Hid (BI wR w5 j ⟨mc, mt, md, mj⟩ bv) := HE.out.1.grow hb5; have gq5 := below_cell hb5 gq; have z5m0 := below_cell hb5 zm0; have z5m1 := below_cell hb5 zm1; have z5m3 := below_cell hb5 zm3; clear hb5 HGQ2)
                        refine ⟨⟨q + 1, w5.heap.size, v, true, rfl, by simp, rfl, ?_, HCNT.out w5 H5.out, ?_, by omega, by omega, hv1, .inl ⟨rfl, HR.out⟩⟩, ?_⟩
                        · first | exact heap_alloc_new _ _ | (rw [setCell_at (heap_alloc_new _ _)]; rfl) | (have := heap_alloc_new w5 (.cells #[.int .i64 ((q : Int) + 1)] 3); simpa using this)
                        · first | exact H5.out.grow (below_new _ _) | exact (H5.out.grow (below_new _ _)).other _ (HCNT.out w5 H5.out)
                        · rw [HQA.out]; simp [qAt, intOf]; omega
                      · have HR : Hid (Wst (l.take j) ⟨mc, mt, md, mj⟩ (l.drop (j + 1)) none) := hws
                        clear hws hgeb
                        go_wp2_with (go_at_call 95; refine HGQ2.mono ?_; rintro r w5 ⟨rfl, hb5⟩; have H5 : Hid (BI wR w5 j ⟨mc, mt, md, mj⟩ bv) := HE.out.1.grow hb5; have gq5 := below_cell hb5 gq; have z5m0 := below_cell hb5 zm0; have z5m1 := below_cell hb5 zm1; have z5m3 := below_cell hb5 zm3; clear hb5 HGQ2)
                        refine ⟨⟨q + 1, w5.heap.size, v, false, rfl, by simp; omega, rfl, ?_, HCNT.out w5 H5.out, ?_, by omega, by omega, hv1, .inr ⟨rfl, HR.out⟩⟩, ?_⟩
                        · first | exact heap_alloc_new _ _ | (rw [setCell_at (heap_alloc_new _ _)]; rfl) | (have := heap_alloc_new w5 (.cells #[.int .i64 ((q : Int) + 1)] 3); simpa using this)
                        · first | exact H5.out.grow (below_new _ _) | exact (H5.out.grow (below_new _ _)).other _ (HCNT.out w5 H5.out)
                        · rw [HQA.out]; simp [qAt, intOf]; omega
                  · have hqe : q = K := by
                      have h1 := (lt_kinds (busy := busy) (q := q) HMM.out.2).2
                      rw [HKK.out] at h1
                      have h2 : ¬ (q : Int) < (K : Int) := fun h => hqk (h1 h)
                      omega
                    have HWS : Hid (Wst (l.take j) ⟨mc, mt, md, mj⟩ (l.drop (j + 1)) (some v)) := .some (by rw [← HBE.out]; exact HF1.out) (by rw [HKK.out, Int.toNat_natCast, ← HBE.out, ← hqe]; exact htm)
                    clear htm hqe
                    by_cases hvd : md < v
                    · skip
                      go_wp2_with (go_at_call 41; refine (F_any _ _ _).mono ?_; rintro r w8 ⟨rfl, hb8⟩; have H8 : Hid (BO w w8 (.slice (some ⟨ab, ao, none⟩) l.length c) ts (.slice ad5 j c5)) := (HT.out.1.grow HE.out.1.bel).grow hb8; obtain ⟨qs, qf, ql⟩ := cells_of (l := [_, _]) H8.out.fb; have q0 := qs 0 _ rfl; have q1 := qs 1 _ rfl; have qf0 := qf 0; have qf1 := qf 1; clear qs qf; clear hb8)
                      refine bodyPost_ret (BusT_ends (g := w.heap.size + 1) (c := .int .i64 13) (k := .int .i64 (j : Int)) (v := .slice none 0 0) (set_two H8.out.fb) rfl rfl) rfl ?_
                      refine ⟨[], (13, (j : Int)), _, .inr ⟨HV.out.2.2.2, .inr ⟨rfl, ts, HT.out.2, ⟨⟨mc, mt, md, mj⟩, some v, ?_, ?_, fun v' h => by cases h; exact hvd⟩, by rw [HJ.out]⟩⟩, rfl, RowSl.nil _ _, H8.out.low _ _, NewSl.none _ _ _⟩
                      · rw [HJ.out]; exact HMM.out.1
                      · rw [HJ.out]; exact HWS.out
                    · obtain ⟨ad9, c9, w9, hrun, ho9⟩ := BO.push (HT.out.1.grow HE.out.1.bel) v (by have := HJ.out; omega)
                      have H9 : Hid (BO w w9 (.slice (some ⟨ab, ao, none⟩) l.length c) (ts ++ [v]) (.slice ad9 (ts.length + 1) c9)) := ho9
                      rw [HJ.out] at hrun
                      clear ho9
                      go_wp2_with (first | (at_builtin; refine append_known rfl (.tmp 110) (.tmp 112) 36 rfl rfl rfl hrun ?_))
                      refine ⟨⟨ts ++ [v], by simp; have := HJ.out; omega, by have := HJ.out; simp; omega, ?_, HT.out.2.snoc (m := ⟨mc, mt, md, mj⟩) (by rw [HJ.out]; exact HMM.out.1) (by rw [HJ.out]; exact HWS.out) (by show v ≤ md; omega)⟩, by have := HJ.out; simp [intOf]; omega⟩
                      have h9 := H9.out
                      rw [HJ.out] at h9
                      exact h9
                · have HWS : Hid (Wst (l.take j) ⟨mc, mt, md, mj⟩ (l.drop (j + 1)) none) := hws
                  clear hws
                  go_wp2_with (go_at_call 41; refine (F_any _ _ _).mono ?_; rintro r w8 ⟨rfl, hb8⟩; have H8 : Hid (BO w w8 (.slice (some ⟨ab, ao, none⟩) l.length c) ts (.slice ad5 j c5)) := (HT.out.1.grow HE.out.1.bel).grow hb8; obtain ⟨qs, qf, ql⟩ := cells_of (l := [_, _]) H8.out.fb; have q0 := qs 0 _ rfl; have q1 := qs 1 _ rfl; have qf0 := qf 0; have qf1 := qf 1; clear qs qf; clear hb8)
                  refine bodyPost_ret (BusT_ends (g := w.heap.size + 1) (c := .int .i64 13) (k := .int .i64 (j : Int)) (v := .slice none 0 0) (set_two H8.out.fb) rfl rfl) rfl ?_
                  refine ⟨[], (13, (j : Int)), _, .inr ⟨HV.out.2.2.2, .inr ⟨rfl, ts, HT.out.2, ⟨⟨mc, mt, md, mj⟩, none, ?_, ?_, fun v h => by cases h⟩, by rw [HJ.out]⟩⟩, rfl, RowSl.nil _ _, H8.out.low _ _, NewSl.none _ _ _⟩
                  · rw [HJ.out]; exact HMM.out.1
                  · rw [HJ.out]; exact HWS.out
      · have hje : ts.length = l.length := by omega
        obtain ⟨qs, qf, ql⟩ := cells_of (l := [_, _]) htw.fb; have q0 := qs 0 _ rfl; have q1 := qs 1 _ rfl; have qf0 := qf 0; have qf1 := qf 1; clear qs qf
        have HJ : Hid (ts.length = l.length) := hje
        clear htw htm
        have hji : ¬ ((ts.length : Nat) : Int) < (l.length : Int) := by omega
        clear hje
        go_wp2_with fail
        refine bodyPost_ret (BusT_ends (g := w.heap.size + 1) (c := .int .i64 0) (k := .int .i64 0) (v := .slice ad5 ts.length c5) (set_two HT.out.1.fb) rfl rfl) rfl ?_
        exact ⟨ts, (0, 0), _, .inr ⟨HV.out.2.2.2, .inl ⟨HT.out.2, HJ.out, rfl⟩⟩, rfl, HT.out.1.set _ _, HT.out.1.low _ _, (own_new HT.out.1.row).mono (by omega)⟩
end Go.Proofs.YtccoobcggbbcialDoor
