import Derived.Test.YtfffpemgfddehaaDoorPure2
namespace Go.Proofs.YtfffpemgfddehaaDoor
open Go.ChangeShapes Go.WideShapes Go.ChangeAt Go.RowKit

/-- The shapes of a statement's fourteen cells. -/
def StShape (x : Nat → Value) (k n : Int) : Prop := ∃ ek en ead em ec ck ak an aad am ac bk bn bad bm bc yad ym yc lad lm lc,
  x 0 = .int .i64 k ∧ x 1 = .int .i64 n ∧ x 2 = .int .i64 ek ∧ x 3 = .int .i64 en ∧ x 4 = .slice ead em ec ∧ x 5 = .int .i64 ck ∧ x 6 = .int .i64 ak ∧ x 7 = .int .i64 an ∧ x 8 = .slice aad am ac ∧
  x 9 = .int .i64 bk ∧ x 10 = .int .i64 bn ∧ x 11 = .slice bad bm bc ∧ x 12 = .slice yad ym yc ∧ x 13 = .slice lad lm lc

/-- The cells of those around, by their kinds and numbers. -/
def ArCells : List (Int × Int) → List Value → Prop
  | [], xs => xs = []
  | p :: r, xs => ∃ x : Nat → Value, ∃ ys, StShape x p.1 p.2 ∧ xs = [x 0, x 1, x 2, x 3, x 4, x 5, x 6, x 7, x 8, x 9, x 10, x 11, x 12, x 13] ++ ys ∧ ArCells r ys

theorem ArCells.get : ∀ (ar : List (Int × Int)) {xs : List Value}, ArCells ar xs → ∀ (j : Nat) (p : Int × Int), ar[j]? = some p → ∃ x : Nat → Value, StShape x p.1 p.2 ∧ ∀ i, i < 14 → xs[j * 14 + i]? = some (x i)
  | [], _, _, _, _, h => by simp at h
  | e :: r, xs, h, 0, p, hp => by
    obtain ⟨x, ys, h1, rfl, h2⟩ := h
    simp at hp
    subst hp
    refine ⟨x, h1, fun i hi => ?_⟩
    match i, hi with
    | 0, _ | 1, _ | 2, _ | 3, _ | 4, _ | 5, _ | 6, _ | 7, _ | 8, _ | 9, _ | 10, _ | 11, _ | 12, _ | 13, _ => rfl
  | e :: r, xs, h, j + 1, p, hp => by
    obtain ⟨x, ys, h1, rfl, h2⟩ := h
    obtain ⟨x', g1, g2⟩ := ArCells.get r h2 j p (by simpa using hp)
    refine ⟨x', g1, fun i hi => ?_⟩
    have e0 : ([x 0, x 1, x 2, x 3, x 4, x 5, x 6, x 7, x 8, x 9, x 10, x 11, x 12, x 13] ++ ys)[(j + 1) * 14 + i]? = ys[j * 14 + i]? := by
      rw [List.getElem?_append_right (by simp; omega)]
      congr 1
      simp
      omega
    rw [e0]
    exact g2 i hi

theorem ArCells.snoc {x : Nat → Value} {k n : Int} (hx : StShape x k n) : ∀ (ar : List (Int × Int)) {xs : List Value}, ArCells ar xs → ArCells (ar ++ [(k, n)]) (xs ++ [x 0, x 1, x 2, x 3, x 4, x 5, x 6, x 7, x 8, x 9, x 10, x 11, x 12, x 13])
  | [], xs, h => by
    unfold ArCells at h
    subst h
    exact ⟨x, [], hx, by simp, rfl⟩
  | p :: r, xs, h => by
    obtain ⟨x', ys, h1, rfl, h2⟩ := h
    exact ⟨x', _, h1, by simp, ArCells.snoc hx r h2⟩

theorem ArCells.len : ∀ (ar : List (Int × Int)) {xs : List Value}, ArCells ar xs → xs.length = ar.length * 14
  | [], _, h => by unfold ArCells at h; subst h; rfl
  | p :: r, xs, h => by
    obtain ⟨x', ys, h1, rfl, h2⟩ := h
    have := ArCells.len r h2
    simp; omega

/-- The walk: how far it has come, and what lies around. -/
structure Wk (w : World) (wb B : Nat) (i : Int) (v : Value) (ar : List (Int × Int)) : Prop where
  blk : w.heap[wb]? = some (.cells #[.int .i64 i, v] 41 (0, 0))
  owns : ∃ xs, w.ownsRow B 34 14 v ar.length xs ∧ ArCells ar xs
  lt : wb < B
  le : B ≤ w.heap.size

/-- What a piece of the walk leaves alone. -/
structure WR (wb : Nat) (w w' : World) (v v' : Value) : Prop where
  os : w'.os = w.os
  tape : w'.tape = w.tape
  output : w'.output = w.output
  size : w.heap.size ≤ w'.heap.size
  block : ∀ k, k < w.heap.size → k ≠ wb → some k ≠ v.ownBlock → w'.heap[k]? = w.heap[k]?
  own : v'.ownBlock = v.ownBlock ∨ ∀ k, v'.ownBlock = some k → w.heap.size ≤ k

theorem WR.refl (wb : Nat) (w : World) (v : Value) : WR wb w w v v := ⟨rfl, rfl, rfl, Nat.le_refl _, fun _ _ _ _ => rfl, .inl rfl⟩

theorem WR.trans {wb : Nat} {a b c : World} {u v x : Value} (h : WR wb a b u v) (h' : WR wb b c v x) : WR wb a c u x := by
  refine ⟨h'.os.trans h.os, h'.tape.trans h.tape, h'.output.trans h.output, Nat.le_trans h.size h'.size, fun k hk h1 h2 => ?_, ?_⟩
  · refine (h'.block k (by have := h.size; omega) h1 fun e => ?_).trans (h.block k hk h1 h2)
    rcases h.own with ho | ho
    · exact h2 (e.trans ho)
    · have := ho k e.symm; omega
  · rcases h'.own with ho' | ho'
    · rw [ho']; exact h.own
    · right; intro k hk; have := ho' k hk; have := h.size; omega

theorem WR.of_below {wb : Nat} {a b : World} {v : Value} (h : Below a.heap.size a b) : WR wb a b v v := ⟨h.os, h.tape, h.output, h.size, fun k hk _ _ => h.block k hk, .inl rfl⟩

theorem Wk.own_lt {w : World} {wb B : Nat} {i : Int} {v : Value} {ar : List (Int × Int)} (h : Wk w wb B i v ar) : ∀ k, v.ownBlock = some k → B ≤ k ∧ k < w.heap.size := by
  obtain ⟨xs, ho, _⟩ := h.owns
  exact ho.lt

theorem Wk.below {w w' : World} {wb B : Nat} {i : Int} {v : Value} {ar : List (Int × Int)} (h : Wk w wb B i v ar) (hb : Below w.heap.size w w') : Wk w' wb B i v ar := by
  obtain ⟨xs, ho, hc⟩ := h.owns
  exact ⟨(hb.block wb (Array.getElem?_eq_some_iff.1 h.blk).1).trans h.blk, ⟨xs, ownsRow_below ho hb, hc⟩, h.lt, Nat.le_trans h.le hb.size⟩

/-- What lay below the walk's own memory stays. -/
theorem WR.low {wb B : Nat} {w0 w w' : World} {i : Int} {v v' : Value} {ar : List (Int × Int)} (h : WR wb w w' v v') (hk : Wk w wb B i v ar) (hw : w0.heap.size ≤ wb) (hb : Below w0.heap.size w0 w) : Below w0.heap.size w0 w' := by
  refine hb.trans ⟨h.os, h.tape, h.output, h.size, fun k hk' => h.block k (by have := hb.size; omega) (by omega) fun e => ?_⟩
  have := (hk.own_lt k e.symm).1
  have := hk.lt
  omega

theorem WR.cell {wb : Nat} {w w' : World} {v v' : Value} (h : WR wb w w' v v') {p o : Nat} {x : Value} (hp : p ≠ wb) (hq : some p ≠ v.ownBlock) (hc : w.cell? ⟨p, o, none⟩ = some x) : w'.cell? ⟨p, o, none⟩ = some x :=
  (World.cell?_of_block (h.block p (World.block_lt_of_cell? _ _ hc) hp hq)).trans hc

/-- A block that is not the slice's own before is not its own behind. -/
theorem WR.off {wb : Nat} {w w' : World} {v v' : Value} (h : WR wb w w' v v') {p : Nat} (hl : p < w.heap.size) (hq : some p ≠ v.ownBlock) : some p ≠ v'.ownBlock := by
  intro e
  rcases h.own with ho | ho
  · exact hq (e.trans ho)
  · have := ho p e.symm; omega

set_option maxHeartbeats 2000000 in
theorem held_any (w : World) (wb B : Nat) (i n : Int) (v : Value) (ar : List (Int × Int)) (hk : Wk w wb B i v ar) (hl : ar.length ≤ 4194304) :
    Calls Tryd.prog 33 #[.pointer (some ⟨wb, 0, none⟩), .int .i64 n] w fun r w' => r = .returned (.bool (decide ((6, n) ∈ ar))) ∧ Below w.heap.size w w' := by
  obtain ⟨xs, ho, hac⟩ := hk.owns
  obtain ⟨vad, vcap, rfl⟩ := owns_value ho
  have b0 : w.cell? ⟨wb, 0, none⟩ = some (.int .i64 i) := by unfold World.cell?; rw [hk.blk]; rfl
  have b1 : w.cell? ⟨wb, 1, none⟩ = some (.slice vad ar.length vcap) := by unfold World.cell?; rw [hk.blk]; rfl
  have HH : Hid (_ ∧ _) := ⟨ho, hac⟩
  clear ho hac hk
  go_enter Tryd.func33, Tryd.ntmps33
  go_wp2_with fail
  go_loopw [6, 12] (fun _ c wr => ∃ j : Nat, j ≤ ar.length ∧ c = .int .i64 j ∧ (6, n) ∉ ar.take j ∧ Below w.heap.size w wr) (fun _ c _ => ar.length - (intOf c).toNat)
  case atStart => exact ⟨0, Nat.zero_le _, rfl, by simp, Below.refl _ _⟩
  case round =>
    obtain ⟨j, hj, rfl, hni, hb⟩ := hrel
    by_cases hlt : j < ar.length
    · obtain ⟨g, cap, hv, -, hcell⟩ := getCell HH.out.1 (by omega)
      cases hv
      obtain ⟨x, hsh, hx⟩ := ArCells.get ar HH.out.2 j ar[j] (by simp [hlt])
      obtain ⟨ek, en, ead, em, ec, ck, ak, an, aad, am, ac, bk, bn, bad, bm, bc, yad, ym, yc, lad, lm, lc, g0, g1, g2, g3, g4, g5, g6, g7, g8, g9, g10, g11, g12, g13⟩ := hsh
      have cell : ∀ q, q < 14 → wr.cell? ⟨g, j * 14 + q, none⟩ = some (x q) := fun q hq => by
        have := below_cell hb (hcell _ _ (hx q hq))
        rwa [show 0 + (j * 14 + q) = j * 14 + q by omega] at this
      have k0 := cell 0 (by omega)
      have k1 := cell 1 (by omega)
      have k2 := cell 2 (by omega)
      have k3 := cell 3 (by omega)
      have k4 := cell 4 (by omega)
      have k5 := cell 5 (by omega)
      have k6 := cell 6 (by omega)
      have k7 := cell 7 (by omega)
      have k8 := cell 8 (by omega)
      have k9 := cell 9 (by omega)
      have k10 := cell 10 (by omega)
      have k11 := cell 11 (by omega)
      have k12 := cell 12 (by omega)
      have k13 := cell 13 (by omega)
      rw [Nat.add_zero, g0] at k0
      rw [g1] at k1
      rw [g2] at k2
      rw [g3] at k3
      rw [g4] at k4
      rw [g5] at k5
      rw [g6] at k6
      rw [g7] at k7
      rw [g8] at k8
      rw [g9] at k9
      rw [g10] at k10
      rw [g11] at k11
      rw [g12] at k12
      rw [g13] at k13
      clear g0 g1 g2 g3 g4 g5 g6 g7 g8 g9 g10 g11 g12 g13 cell hx hcell
      have htk := List.take_succ_eq_append_getElem hlt
      have hmem : ar[j] ∈ ar := List.getElem_mem hlt
      have HB : Hid _ := hb
      by_cases he : ar[j] = (6, n)
      · have hm : Hid ((6, n) ∈ ar) := by rw [← he]; exact hmem
        rw [he] at k0 k1
        clear hni htk hmem hb he
        go_wp2_with fail
        go_ret
        exact ⟨ret_bool (by rw [decide_eq_true hm.out]), HB.out.alloc HB.out.size _⟩
      · have HN : Hid ((6, n) ∉ ar.take (j + 1)) := by
          rw [htk]
          simp only [List.mem_append, List.mem_singleton, not_or]
          exact ⟨hni, fun h => he h.symm⟩
        have hkn : ¬ (ar[j].1 = 6 ∧ ar[j].2 = n) := fun h => he (by rw [Prod.ext_iff]; exact h)
        clear hni htk hmem hb he
        generalize ar[j].1 = pk at *
        generalize ar[j].2 = pn at *
        by_cases h6 : pk = 6
        · have hne : (pn == n) = false := by simp; exact fun h => hkn ⟨h6, h⟩
          subst h6
          clear hkn
          go_wp2_with fail
          go_roundw
          case rel => exact ⟨j + 1, by omega, by go_num, HN.out, HB.out.alloc HB.out.size _⟩
          case measure => simp [intOf]; omega
        · have h6' : (pk == 6) = false := by simpa using h6
          clear hkn h6
          go_wp2_with fail
          go_roundw
          case rel => exact ⟨j + 1, by omega, by go_num, HN.out, HB.out.alloc HB.out.size _⟩
          case measure => simp [intOf]; omega
    · have hm : Hid ((6, n) ∉ ar) := by rw [List.take_of_length_le (by omega)] at hni; exact hni
      have HB : Hid _ := hb
      clear hni hb
      go_wp2_with fail
      go_ret
      exact ⟨ret_bool (by rw [decide_eq_false hm.out]), HB.out⟩
end Go.Proofs.YtfffpemgfddehaaDoor
