import Derived.Test.YtgemadoieielcacDoorGBWs
import Derived.Test.YtgemadoieielcacDoorGBTwin
import Derived.Deep.CutRange
namespace Go.Proofs.YtgemadoieielcacDoor.B
open Go.ChangeShapes Go.WideShapes Go.ChangeAt Go.RowKit

/-- The first one with which something is wrong: what, and its number. -/
def firstErr : List Fl → Nat → Int × Int
  | [], _ => (0, 0)
  | f :: r, j => if f.err ≠ 0 then (f.err, j) else firstErr r (j + 1)

theorem firstErr_at {l : List Fl} {j : Nat} (h : j < l.length) : firstErr (l.drop j) j = if (l[j]).err ≠ 0 then ((l[j]).err, (j : Int)) else firstErr (l.drop (j + 1)) (j + 1) := by
  rw [drop_at h, firstErr]

theorem Fl.Cells.get {w0 w : World} : ∀ (a : List Fl) {xs : List Value}, Fl.Cells w0 w a xs → ∀ (j : Nat) (f : Fl), a[j]? = some f →
    ∃ x : Nat → Value, ∃ lo, f.s.In w0 (stVal x) ∧ LocksIn w lo f.ls ∧ (∀ i, i < 14 → xs[j * 16 + i]? = some (x i)) ∧ xs[j * 16 + 14]? = some (.int .i64 f.d) ∧ xs[j * 16 + 15]? = some lo
  | [], _, _, _, _, h => by simp at h
  | e :: r, xs, h, 0, f, hf => by
    obtain ⟨x, lo, ys, rfl, h1, h2, h3⟩ := h
    simp at hf
    subst hf
    refine ⟨x, lo, h1, h2, fun i hi => ?_, rfl, rfl⟩
    match i, hi with
    | 0, _ | 1, _ | 2, _ | 3, _ | 4, _ | 5, _ | 6, _ | 7, _ | 8, _ | 9, _ | 10, _ | 11, _ | 12, _ | 13, _ => rfl
  | e :: r, xs, h, j + 1, f, hf => by
    obtain ⟨x, lo, ys, rfl, h1, h2, h3⟩ := h
    obtain ⟨x', lo', g1, g2, g3, g4, g5⟩ := Fl.Cells.get r h3 j f (by simpa using hf)
    have sh : ∀ i, ([x 0, x 1, x 2, x 3, x 4, x 5, x 6, x 7, x 8, x 9, x 10, x 11, x 12, x 13, .int .i64 e.d, lo] ++ ys)[(j + 1) * 16 + i]? = ys[j * 16 + i]? := by
      intro i
      rw [List.getElem?_append_right (by simp; omega)]
      congr 1
      simp
      omega
    exact ⟨x', lo', g1, g2, fun i hi => by rw [sh]; exact g3 i hi, by rw [sh]; exact g4, by rw [sh]; exact g5⟩

mutual
theorem St.flat_mem : ∀ (s : St) (d : Int) (ls : List Int), ∀ f ∈ s.flat d ls, f.s.bulk ≤ s.bulk ∧ f.ls.length ≤ ls.length + s.count
  | .mk k n e ck ca cb b l, d, ls, f, hf => by
    have hk : (locksIn k n ls).length ≤ ls.length + 1 := by unfold locksIn; split <;> simp
    simp only [St.flat, List.mem_cons, List.mem_append] at hf
    rcases hf with rfl | hf | hf
    · exact ⟨Nat.le_refl _, by simp⟩
    · have := St.flatAll_mem b (d + 1) (locksIn k n ls) f hf
      simp only [St.bulk, St.count]
      omega
    · have := St.flatAll_mem l (d + 1) (locksIn k n ls) f hf
      simp only [St.bulk, St.count]
      omega
theorem St.flatAll_mem : ∀ (a : List St) (d : Int) (ls : List Int), ∀ f ∈ St.flatAll a d ls, f.s.bulk ≤ St.bulkAll a ∧ f.ls.length ≤ ls.length + St.countAll a
  | [], _, _, f, hf => by simp [St.flatAll] at hf
  | s :: r, d, ls, f, hf => by
    simp only [St.flatAll, List.mem_append] at hf
    rcases hf with hf | hf
    · have := St.flat_mem s d ls f hf
      simp only [St.bulkAll, St.countAll]
      omega
    · have := St.flatAll_mem r d ls f hf
      simp only [St.bulkAll, St.countAll]
      omega
end

set_option maxRecDepth 20000 in
set_option maxHeartbeats 2000000 in
theorem CheckBody_any (a : List St) (w : World) (v : Value) (hN : St.bulkAll a ≤ 1048576) (hin : St.Sl w a v) :
    Calls Tryd.prog 63 #[v] w fun r w' => r = .returned (if 200 < St.countAll a then .agg #[.int .i64 2, .int .i64 0] else .agg #[.int .i64 (firstErr (St.flatAll a 0 []) 0).1, .int .i64 (firstErr (St.flatAll a 0 []) 0).2]) ∧ Below w.heap.size w w' := by
  have HI : Hid (St.Sl w a v) := hin
  clear hin
  have hcl := St.countAll_le a
  have hW : ∃ W, W = w.alloc (.cells #[.int .i64 0, .int .i64 0] 30) := ⟨_, rfl⟩
  obtain ⟨W, hW⟩ := hW
  have hBW : Below w.heap.size w W := by rw [hW]; exact (Below.refl _ _).alloc (Nat.le_refl _) _
  have hz : W.heap.size = w.heap.size + 1 := by rw [hW]; simp
  have r0 : W.cell? ⟨w.heap.size, 0, none⟩ = some (.int .i64 0) := by rw [hW, World.cell?_alloc_at _ _ _ _ rfl]; rfl
  have r1 : W.cell? ⟨w.heap.size, 1, none⟩ = some (.int .i64 0) := by rw [hW, World.cell?_alloc_at _ _ _ _ rfl]; rfl
  have f0 : ∀ j, W.frozen? ⟨w.heap.size, j, none⟩ = false := by intro j; rw [hW]; simp [go_sem]
  have HW : Hid (Below w.heap.size w W) := hBW
  have hz' : w.heap.size < W.heap.size := by omega
  clear hBW
  by_cases h2 : 200 < St.countAll a
  · rw [if_pos h2]
    go_enter Tryd.func63, Tryd.ntmps63
    go_upto_region 1 with fail
    rw [← hW]
    clear hW hz
    go_wp2_with (first
      | (go_at_call 62; refine (Size_any _ a _ _ (Nat.lt_succ_self _) (by omega) (HI.out.below HW.out)).mono ?_; rintro e w1 ⟨rfl, hb1⟩; obtain ⟨hB, hc, hf⟩ := behind (Below.refl _ _) hb1; have HB : Hid _ := hB; clear hB hb1)
      | (go_at_call 25; refine (F_any _ _ _).mono ?_; rintro e w2 ⟨rfl, hb2⟩; obtain ⟨hB2, hc2, hf2⟩ := behind HB.out hb2; have HB2 : Hid _ := hB2; clear hB2 hb2))
    exact bodyPost_ret (v := .agg #[.int .i64 2, .int .i64 0]) (by simp [results, Tryd.results63, go_sem, hc2, hz', r0, r1]) rfl ⟨rfl, ((below_seq HW.out HB2.out).setCell (by simp) _).setCell (by simp) _⟩
  · rw [if_neg h2]
    go_enter Tryd.func63, Tryd.ntmps63
    go_upto_region 1 with fail
    rw [← hW]
    clear hW hz
    generalize hl : St.flatAll a 0 [] = l
    have hfl := St.flatAll_len a 0 []
    rw [hl] at hfl
    have hfm := St.flatAll_mem a 0 []
    rw [hl] at hfm
    have HM : Hid (_ ∧ _ ∧ _) := ⟨hl, hfl, hfm⟩
    have hll : l.length ≤ 200 := by omega
    clear hl hfl hfm
    go_wp2_with (first
      | (go_at_call 62; refine (Size_any _ a _ _ (Nat.lt_succ_self _) (by omega) (HI.out.below HW.out)).mono ?_; rintro e w1 ⟨rfl, hb1⟩; have HB : Hid (Below W.heap.size W w1) := hb1; clear hb1)
      | (go_at_call 97; refine (Flat_any w _ a _ _ _ 0 [] (Nat.lt_succ_self _) (by omega) (by omega) (by omega) (by omega) (by simp; omega) (below_seq HW.out HB.out) HI.out ⟨none, 0, rfl, fun _ => rfl, .inl rfl⟩).mono ?_; rintro e w2 ⟨v2, xs, rfl, ho2, hc2, hb2⟩; rw [HM.out.1] at ho2 hc2; obtain ⟨ad2, cap2, rfl⟩ := owns_value ho2; have H2 : Hid (_ ∧ _ ∧ _) := ⟨ho2, hc2, below_seq HB.out hb2⟩; clear ho2 hc2 hb2))
    go_loopw [3, 4, 5, 13] (fun _ _ _ i wr => ∃ (j : Nat), j ≤ l.length ∧ i = .int .i64 j ∧ firstErr (l.drop j) j = firstErr l 0 ∧ Below w2.heap.size w2 wr) (fun _ _ _ i _ => l.length - (intOf i).toNat)
    case atStart => exact ⟨0, Nat.zero_le _, rfl, rfl, Below.refl _ _⟩
    case round =>
      obtain ⟨j, hj, rfl, hw, hb⟩ := hrel
      have hbW := below_seq H2.out.2.2 hb
      have s0 := below_cell hbW r0
      have s1 := below_cell hbW r1
      have t0 : ∀ j, wr.frozen? ⟨w.heap.size, j, none⟩ = false := fun j => (hbW.frozen (p := ⟨w.heap.size, j, none⟩) (by simpa using hz')).trans (f0 j)
      by_cases hlt : j < l.length
      · obtain ⟨g, cap, hv, -, hcell⟩ := getCell H2.out.1 (by omega)
        cases hv
        obtain ⟨x, lo, hin, hlo, hx, hd, hlo'⟩ := Fl.Cells.get l H2.out.2.1 j l[j] (by simp [hlt])
        obtain ⟨k, n, ek, en, ead, em, ec, ck, ak, an, aad, am, ac, bk, bn, bad, bm, bc, yad, ym, yc, lad, lm, lc, g0, g1, g2, g3, g4, g5, g6, g7, g8, g9, g10, g11, g12, g13⟩ := hin.shape
        obtain ⟨load, lcap, hlov, -⟩ := id hlo
        have cell : ∀ i u, xs[j * 16 + i]? = some u → wr.cell? ⟨g, j * 16 + i, none⟩ = some u := fun i u h => by
          have := below_cell hb (hcell _ _ h)
          rwa [show 0 + (j * 16 + i) = j * 16 + i by omega] at this
        have k0 := cell 0 _ (hx 0 (by omega))
        have k1 := cell 1 _ (hx 1 (by omega))
        have k2 := cell 2 _ (hx 2 (by omega))
        have k3 := cell 3 _ (hx 3 (by omega))
        have k4 := cell 4 _ (hx 4 (by omega))
        have k5 := cell 5 _ (hx 5 (by omega))
        have k6 := cell 6 _ (hx 6 (by omega))
        have k7 := cell 7 _ (hx 7 (by omega))
        have k8 := cell 8 _ (hx 8 (by omega))
        have k9 := cell 9 _ (hx 9 (by omega))
        have k10 := cell 10 _ (hx 10 (by omega))
        have k11 := cell 11 _ (hx 11 (by omega))
        have k12 := cell 12 _ (hx 12 (by omega))
        have k13 := cell 13 _ (hx 13 (by omega))
        have k14 := cell 14 _ hd
        have k15 := cell 15 _ hlo'
        rw [Nat.add_zero] at k0
        rw [g0] at k0
        rw [g1] at k1
        rw [g2] at k2
        rw [g3] at k3
        rw [g4] at k4
        rw [g5] at k5
        rw [g6] at k6
        rw [g7] at k7
        rw [g8] at k8
        rw [g9] at k9
        rw [g10] at k10
        rw [g11] at k11
        rw [g12] at k12
        rw [g13] at k13
        rw [hlov] at k15
        have hfm := HM.out.2.2 l[j] (List.getElem_mem hlt)
        have hws := ws_any (f := l[j]) (x := x) (lo := lo)
        rw [g0, g1, g2, g3, g4, g5, g6, g7, g8, g9, g10, g11, g12, g13, hlov] at hws
        rw [hlov] at hlo
        rw [firstErr_at hlt] at hw
        have HX : Hid (_ ∧ _ ∧ _ ∧ _ ∧ _ ∧ _ ∧ _) := ⟨hws, hin, hlo, hfm, hw, hb, hbW⟩
        clear hws hin hlo hfm hw hb hbW hx hd hlo' cell hcell g0 g1 g2 g3 g4 g5 g6 g7 g8 g9 g10 g11 g12 g13 hlov
        have hlw : w.heap.size < wr.heap.size := World.block_lt_of_cell? _ _ s0
        by_cases he : l[j].err = 0
        · go_wp2_with (first
            | (go_at_call 98; refine (HX.out.1 _ ?h1 ?h2 ?h3 ?h4).mono ?_; rotate_left 4; rintro e w3 ⟨rfl, hb3⟩; have H3 : Hid _ := hb3; clear hb3))
          case h1 => exact St.In.below (below_seq (below_seq HW.out HX.out.2.2.2.2.2.2) ((Below.refl _ _).alloc (Nat.le_refl _) _)) _ HX.out.2.1
          case h2 => exact HX.out.2.2.1.keep (keepsInts_below (below_seq HX.out.2.2.2.2.2.1 ((Below.refl _ _).alloc (Nat.le_refl _) _)))
          case h3 => have := HX.out.2.2.2.1; omega
          case h4 => have := HX.out.2.2.2.1; simp at this; omega
          go_roundw
          case rel =>
            have hw := HX.out.2.2.2.2.1
            rw [if_neg (by simpa using he)] at hw
            exact ⟨j + 1, by omega, by go_num, hw, below_seq HX.out.2.2.2.2.2.1 (below_seq ((Below.refl _ _).alloc (Nat.le_refl _) _) H3.out)⟩
          case measure => simp [intOf]; omega
        · have he' : (l[j].err == 0) = false := by simpa using he
          have hw := HX.out.2.2.2.2.1
          rw [if_pos he] at hw
          have e1 : (firstErr l 0).1 = l[j].err := by rw [← hw]
          have e2 : (firstErr l 0).2 = (j : Int) := by rw [← hw]
          have HE : Hid (_ ∧ _) := ⟨e1, e2⟩
          clear e1 e2 hw
          go_wp2_with (first
            | (go_at_call 98; refine (HX.out.1 _ ?h1 ?h2 ?h3 ?h4).mono ?_; rotate_left 4; rintro e w3 ⟨rfl, hb3⟩; obtain ⟨hB3, hc3, hf3⟩ := behind (W1 := wr) ((Below.refl _ _).alloc (Nat.le_refl _) _) hb3; have H3 : Hid (Below wr.heap.size wr w3) := hB3; clear hb3 hB3)
            | (go_at_call 25; refine (F_any _ _ _).mono ?_; rintro e w4 ⟨rfl, hb4⟩; obtain ⟨hB4, hc4, hf4⟩ := behind H3.out hb4; have H4 : Hid (Below wr.heap.size wr w4) := hB4; clear hB4 hb4))
          case h1 => exact St.In.below (below_seq (below_seq HW.out HX.out.2.2.2.2.2.2) ((Below.refl _ _).alloc (Nat.le_refl _) _)) _ HX.out.2.1
          case h2 => exact HX.out.2.2.1.keep (keepsInts_below (below_seq HX.out.2.2.2.2.2.1 ((Below.refl _ _).alloc (Nat.le_refl _) _)))
          case h3 => have := HX.out.2.2.2.1; omega
          case h4 => have := HX.out.2.2.2.1; simp at this; omega
          exact bodyPost_ret (v := .agg #[.int .i64 l[j].err, .int .i64 j]) (by simp [results, Tryd.results63, go_sem, hc4, hlw, s0, s1]) rfl ⟨by rw [HM.out.1, HE.out.1, HE.out.2], ((below_seq (below_seq HW.out HX.out.2.2.2.2.2.2) H4.out).setCell (by simp) _).setCell (by simp) _⟩
      · have hje : j = l.length := by omega
        subst hje
        rw [List.drop_length, firstErr] at hw
        have e1 : (firstErr l 0).1 = 0 := by rw [← hw]
        have e2 : (firstErr l 0).2 = 0 := by rw [← hw]
        have HE : Hid (_ ∧ _) := ⟨e1, e2⟩
        have HX : Hid _ := hbW
        clear e1 e2 hw hbW hb
        go_wp2_with fail
        exact bodyPost_ret (v := .agg #[.int .i64 0, .int .i64 0]) (by simp [results, Tryd.results63, go_sem, s0, s1]) rfl ⟨by rw [HM.out.1, HE.out.1, HE.out.2], ((below_seq HW.out HX.out).setCell (by simp) _).setCell (by simp) _⟩
end Go.Proofs.YtgemadoieielcacDoor.B
