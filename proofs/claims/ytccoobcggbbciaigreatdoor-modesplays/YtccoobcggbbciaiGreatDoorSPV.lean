import Derived.Test.YtccoobcggbbciaiGreatDoorSPI
import Derived.Test.YtccoobcggbbciaiGreatDoorSRC
namespace Go.Proofs.YtccoobcggbbciaiGreatDoor.S8
open Go.ChangeShapes Go.WideShapes Go.ChangeAt Go.RowKit Go.Sort

/-- So many are laid, and room. -/
def runCells (n : Nat) (runs : List Int) : List Value := runs.map (Value.int .i64) ++ List.replicate (n - runs.length) (.int .i64 0)

theorem runCells_len {n : Nat} {runs : List Int} (h : runs.length ≤ n) : (runCells n runs).length = n := by simp [runCells]; omega

theorem runCells_snoc {n : Nat} {runs : List Int} {v : Int} (h : runs.length < n) : (runCells n runs).set runs.length (.int .i64 v) = runCells n (runs ++ [v]) := by
  unfold runCells
  rw [List.set_append_right _ _ (by simp)]
  obtain ⟨m, hm⟩ : ∃ m, n - runs.length = m + 1 := ⟨n - runs.length - 1, by omega⟩
  rw [hm, List.replicate_succ]
  simp [show n - (runs.length + 1) = m by omega]

theorem runCells_full {runs : List Int} : runCells runs.length runs = runs.map (Value.int .i64) := by simp [runCells]

theorem setCell_list {w : World} {g i : Nat} {cs : List Value} {t : TypeId} {fr : Nat × Nat} {u : Value} (h : w.heap[g]? = some (.cells cs.toArray t fr)) : (w.setCell ⟨g, i, none⟩ u).heap[g]? = some (.cells (cs.set i u).toArray t fr) := by
  rw [setCell_at h, List.setIfInBounds_toArray]

theorem set_grown (W : World) (g i : Nat) (u : Value) : W.grownBy (W.setCell ⟨g, i, none⟩ u) (some g) := by
  refine ⟨rfl, rfl, rfl, ?_, fun q hq hne => Below.heap_setCell _ _ _ _ (fun e => hne (by rw [show q = g from e]))⟩
  simp

theorem info3N : (Tryz.prog.info? 3).map (fun i => (i.zero, i.size, i.bytes)) = some (some (.int .i64 0), 1, 8) := by kernel_rfl

theorem made_rep (n : Nat) : madeCells (Value.int .i64 0).cells (n * 1) = (List.replicate n (Value.int .i64 0)).toArray := by
  apply Array.ext
  · simp [madeCells]
  · intro i h1 h2
    simp [madeCells, Value.cells, Nat.mod_one]

theorem make_ints (W : World) (n : Nat) (hn : n ≤ 1000000) : ∃ W', (Instr.makeSlice 24 (.int .i64 (n : Int)) (.int .i64 (n : Int))).run Tryz.prog W = .ok (.slice (some ⟨W.heap.size, 0, none⟩) n n) W' ∧ Below W.heap.size W W' ∧ W'.heap[W.heap.size]? = some (.cells (runCells n []).toArray 3 (0, 0)) := by
  obtain ⟨i0, hi0, hz0, hz1, hz2⟩ := info_parts info3N
  have h := run_make (P := Tryz.prog) W 24 3 i0 _ Tryz.underlying24 hi0 hz0 .i64 .i64 (n : Int) (n : Int) (by omega) (by omega) (by rw [hz2]; omega) (by omega)
  rw [Int.toNat_natCast, hz1, made_rep] at h
  exact ⟨_, h, below_new _ _, heap_alloc_new _ _⟩
end Go.Proofs.YtccoobcggbbciaiGreatDoor.S8
namespace Go.Proofs.YtccoobcggbbciaiGreatDoor.S8
open Go.ChangeShapes Go.WideShapes Go.ChangeAt Go.RowKit Go.Sort

theorem make_row (W : World) (n g : Nat) (hn : n ≤ 1000000) (hg : W.heap.size = g) : (Instr.makeSlice 24 (.int .i64 (n : Int)) (.int .i64 (n : Int))).run Tryz.prog W = .ok (.slice (some ⟨g, 0, none⟩) n n) (W.alloc (.cells (List.replicate n (Value.int .i64 0)).toArray 3)) := by
  subst hg
  obtain ⟨i0, hi0, hz0, hz1, hz2⟩ := info_parts info3
  have h := run_make (P := Tryz.prog) W 24 3 i0 _ Tryz.underlying24 hi0 hz0 .i64 .i64 (n : Int) (n : Int) (by omega) (by omega) (by rw [hz2]; omega) (by omega)
  rw [Int.toNat_natCast, hz1, made_rep] at h
  exact h

/-- So many have been copied. -/
def repCells (n k : Nat) : List Value := List.replicate k (.int .i64 (-1)) ++ List.replicate (n - k) (.int .i64 0)

theorem rep_len (n k : Nat) (h : k ≤ n) : (repCells n k).length = n := by simp [repCells]; omega

theorem rep_at {n k j : Nat} (h : j < k) : (repCells n k)[j]? = some (.int .i64 (-1)) := by
  unfold repCells
  rw [List.getElem?_append_left (by simpa using h), List.getElem?_replicate, if_pos h]

/-- One more run of copying, into what is left. -/
theorem rep_copy (W : World) (g n k m sc : Nat) (hW : W.heap[g]? = some (.cells (repCells n k).toArray 3 (0, 0))) (hk : k ≤ n) (hm : m ≤ n - k) (src : Addr) (sl dc : Nat) (hs : ∀ j v, (List.replicate m (Value.int .i64 (-1)))[j]? = some v → W.cell? (src.add j) = some v) (hmin : m = Nat.min sl (n - k)) :
    ∃ W', (Builtin.copy_ #[24, 24] 3 #[.slice (some ⟨g, k, none⟩) (n - k) dc, .slice (some src) sl sc]).run Tryz.prog W = .ok (.int .i64 (m : Int)) W' ∧ W'.heap[g]? = some (.cells (repCells n (k + m)).toArray 3 (0, 0)) ∧ W.grownBy W' (some g) := by
  have hsz : (Tryz.prog.info? 3).map (·.size) = some 1 := by
    obtain ⟨i0, hi0, hz0, hz1, hz2⟩ := info_parts info3
    rw [hi0]; simp [hz1]
  obtain ⟨hc, hf, -⟩ := cells_of (l := repCells n k) hW
  have hlen : (List.replicate m (Value.int .i64 (-1))).length = m := by simp
  have h := run_copy_cells (P := Tryz.prog) W 24 24 3 3 g k (n - k) dc src sl sc (List.replicate m (.int .i64 (-1))) Tryz.underlying24 hsz (by rw [hlen]; exact hmin) hs (fun j hj => by
    rw [hlen] at hj
    rw [hc (k + j) _ (List.getElem?_eq_getElem (by rw [rep_len n k hk]; omega))]; rfl) (fun j _ => hf _) (fun v hv => by rw [(List.mem_replicate.1 hv).2]; rfl)
  rw [hlen] at h
  obtain ⟨cur', h1, h2⟩ := setCells_heap g 3 (0, 0) (List.replicate m (.int .i64 (-1))) k W (repCells n k).toArray hW (by rw [hlen, List.size_toArray, rep_len n k hk]; omega)
  refine ⟨_, h, ?_, setCells_keep _ _ _ _⟩
  suffices e : cur' = (repCells n (k + m)).toArray by rw [h1, e]
  apply Array.toList_inj.1
  rw [h2, hlen]
  show (repCells n k).take k ++ List.replicate m (.int .i64 (-1)) ++ (repCells n k).drop (k + m) = repCells n (k + m)
  have e1 : (repCells n k).take k = List.replicate k (.int .i64 (-1)) := by
    unfold repCells
    rw [List.take_append_of_le_length (by simp), List.take_of_length_le (by simp)]
  have e2 : (repCells n k).drop (k + m) = List.replicate (n - (k + m)) (.int .i64 0) := by
    unfold repCells
    rw [List.drop_append, List.drop_of_length_le (by simp), List.nil_append, List.drop_replicate, List.length_replicate, show n - k - (k + m - k) = n - (k + m) by omega]
  rw [e1, e2]
  unfold repCells
  rw [List.replicate_append_replicate]

set_option maxRecDepth 20000 in
theorem Repeat_any (W : World) (b n : Nat) (hb : W.heap[b]? = some (.cells #[.int .i64 (-1)] 3 (0, 0))) (hn : n ≤ 100000) :
    Calls Tryz.prog 89 #[.slice (some ⟨b, 0, none⟩) 1 1, .int .i64 (n : Int)] W fun r W' => ∃ g, r = .returned (.slice (some ⟨g, 0, none⟩) n n) ∧ W.heap.size ≤ g ∧ W'.heap[g]? = some (.cells (List.replicate n (Value.int .i64 (-1))).toArray 3 (0, 0)) ∧ Below W.heap.size W W' := by
  have hm := Any.bits_Mul lay_mul 1 n (by omega) (by omega) W
  change Calls Tryz.prog 128 _ _ _ at hm
  rw [Nat.one_mul, Nat.mod_eq_of_lt (by omega), Nat.div_eq_of_lt (by omega)] at hm
  have hn0 : ¬ ((n : Int) < 0) := by omega
  obtain ⟨w2, hmk, hh0, hb1, hs2⟩ : ∃ w2, (Instr.makeSlice 24 (.int .i64 (n : Int)) (.int .i64 (n : Int))).run Tryz.prog W = .ok (.slice (some ⟨W.heap.size, 0, none⟩) n n) w2 ∧ w2.heap[W.heap.size]? = some (.cells (repCells n 0).toArray 3 (0, 0)) ∧ Below W.heap.size W w2 ∧ w2.heap.size = W.heap.size + 1 :=
    ⟨_, make_row W n W.heap.size (by omega) rfl, by rw [heap_alloc_new]; simp [repCells], below_new _ _, by simp⟩
  have hbb := (hb1.block b (Array.getElem?_eq_some_iff.1 hb).1).trans hb
  obtain ⟨hbc, -, -⟩ := cells_of (l := [_]) hbb
  obtain ⟨w3, hcp, hh3, hg3⟩ := rep_copy _ W.heap.size n 0 (Nat.min 1 n) 1 hh0 (by omega) (by simp [Nat.min_def]; split <;> omega) ⟨b, 0, none⟩ 1 n (fun j v hj => by
    obtain ⟨hj1, hj2⟩ := List.getElem?_eq_some_iff.1 hj
    have : j = 0 := by simp [Nat.min_def] at hj1; split at hj1 <;> omega
    subst this
    simp at hj2
    subst hj2
    rw [Addr.add_lit]
    exact hbc 0 _ rfl) (by simp)
  have hb3 : Below W.heap.size W w3 := hb1.trans (grownBy_below (B := W.heap.size) hg3 (by omega) (by intro q hq; cases hq; exact Nat.le_refl _))
  rw [Nat.sub_zero] at hcp
  rw [Nat.zero_add] at hh3
  have H3 : Hid (w3.heap[W.heap.size]? = some (.cells (repCells n (Nat.min 1 n)).toArray 3 (0, 0)) ∧ Below W.heap.size W w3) := ⟨hh3, hb3⟩
  clear hg3 hh3 hb3 hbc hbb hb1 hh0
  go_enter Tryz.func89, Tryz.ntmps89
  go_wp2_with (first | (go_at_call 128; refine hm.mono ?_; rintro r w1 ⟨rfl, rfl⟩) | (at_builtin; refine wpList_copy_runI _ rfl (.tmp 31) (.tmp 32) 24 24 rfl _ _ rfl rfl hcp ?_))
  have H4 : Hid (∀ wz m, wz.heap[w1.heap.size]? = some (.cells (repCells n m).toArray 3 (0, 0)) → Below w1.heap.size w1 wz → 0 < m → m < n → ∃ wz', (Builtin.copy_ #[24, 24] 3 #[.slice (some ⟨w1.heap.size, m, none⟩) (n - m) (n - m), .slice (some ⟨w1.heap.size, 0, none⟩) m n]).run Tryz.prog wz = .ok (.int .i64 ((Nat.min m (n - m) : Nat) : Int)) wz' ∧ wz'.heap[w1.heap.size]? = some (.cells (repCells n (m + Nat.min m (n - m))).toArray 3 (0, 0)) ∧ Below w1.heap.size w1 wz') := fun wz m h1 h2 h3 h4 => by
    obtain ⟨hc, -, -⟩ := cells_of (l := repCells n m) h1
    obtain ⟨wz', r1, r2, r3⟩ := rep_copy wz w1.heap.size n m (Nat.min m (n - m)) n h1 (by omega) (Nat.min_le_right _ _) ⟨w1.heap.size, 0, none⟩ m (n - m) (fun j v hj => by
      obtain ⟨hj1, hj2⟩ := List.getElem?_eq_some_iff.1 hj
      have hjm : j < m := by have h9 : Nat.min m (n - m) ≤ m := Nat.min_le_left m (n - m); rw [List.length_replicate] at hj1; omega
      rw [Addr.add_lit, Nat.zero_add, hc j _ (rep_at hjm), ← hj2]
      simp) rfl
    exact ⟨wz', r1, r2, h2.trans (grownBy_below (B := w1.heap.size) r3 (Nat.le_of_lt (Array.getElem?_eq_some_iff.1 h1).1) (by intro q hq; cases hq; exact Nat.le_refl _))⟩
  go_loopw [8] (fun i wr => ∃ k : Nat, k ≤ n ∧ (0 < n → 0 < k) ∧ i = .int .i64 k ∧ wr.heap[w1.heap.size]? = some (.cells (repCells n k).toArray 3 (0, 0)) ∧ Below w1.heap.size w1 wr) (fun i _ => n - (intOf i).toNat)
  case atStart => exact ⟨Nat.min 1 n, Nat.min_le_right _ _, fun h => by simp [Nat.min_def]; split <;> omega, rfl, H3.out⟩
  case round =>
    obtain ⟨k, hk, hk0, rfl, hh, hbl⟩ := hrel
    by_cases hlt : k < n
    · obtain ⟨wz, hrun, hz1, hz2⟩ := H4.out wr.drew k hh hbl.drew (hk0 (by omega)) hlt
      have HZ : Hid (wz.heap[w1.heap.size]? = some (.cells (repCells n (k + Nat.min k (n - k))).toArray 3 (0, 0)) ∧ Below w1.heap.size w1 wz) := ⟨hz1, hz2⟩
      have hmin : 0 < Nat.min k (n - k) ∧ Nat.min k (n - k) ≤ n - k := by
        have h9 := hk0 (by omega)
        rw [show Nat.min k (n - k) = if k ≤ n - k then k else n - k from Nat.min_def]
        split <;> omega
      clear hz1 hz2 hh hbl hk0
      have hne : ¬ (n = k) := by omega
      have hkn : (k : Int) ≤ (n : Int) := by omega
      go_wp2_with fail
      have hS0 : (fun _ : World => True) wr.drew := trivial
      refine wp_region_noPanic ?_
      refine wp_region_held_drew (S := fun _ => True) (by kernel_rfl) hS0 (fun hHeld => ?_)
      refine take_at (i := 0) (n := 38) (v := ?_) rfl rfl (by kernel_rfl) (by kernel_rfl) (by kernel_rfl) (fun _ _ _ h => h) (Or.inl ⟨by rfl, ?_⟩) (by assumption) ?_
      rotate_left 1
      · intro wz hSw
        first | (go_simp; done) | (go_simp; with_reducible rfl)
      simp only [List.set_cons_zero, List.set_cons_succ]
      refine take_at (i := 1) (n := 39) (v := ?_) rfl rfl (by kernel_rfl) (by kernel_rfl) (by kernel_rfl) (fun _ _ _ h => h) (Or.inl ⟨by rfl, ?_⟩) (by assumption) ?_
      rotate_left 1
      · intro wz hSw
        first | (go_simp; done) | (go_simp; with_reducible rfl)
      simp only [List.set_cons_zero, List.set_cons_succ]
      refine take_at (i := 2) (n := 40) (v := ?_) rfl rfl (by kernel_rfl) (by kernel_rfl) (by kernel_rfl) (fun _ _ _ h => h) (Or.inl ⟨by rfl, ?_⟩) (by assumption) ?_
      rotate_left 1
      · intro wz hSw
        first | (go_simp; done) | (go_simp; with_reducible rfl)
      simp only [List.set_cons_zero, List.set_cons_succ]
      refine take_at (i := 3) (n := 41) (v := ?_) rfl rfl (by kernel_rfl) (by kernel_rfl) (by kernel_rfl) (fun _ _ _ h => h) (Or.inl ⟨by rfl, ?_⟩) (by assumption) ?_
      rotate_left 1
      · intro wz hSw
        first | (go_simp; done) | (go_simp; with_reducible rfl)
      simp only [List.set_cons_zero, List.set_cons_succ]
      refine take_at (i := 4) (n := 42) (v := ?_) rfl rfl (by kernel_rfl) (by kernel_rfl) (by kernel_rfl) (fun _ _ _ h => h) (Or.inl ⟨by rfl, ?_⟩) (by assumption) ?_
      rotate_left 1
      · intro wz hSw
        first | (go_simp; done) | (go_simp; with_reducible rfl)
      simp only [List.set_cons_zero, List.set_cons_succ]
      refine take_at (i := 5) (n := 43) (v := ?_) rfl rfl (by kernel_rfl) (by kernel_rfl) (by kernel_rfl) (fun _ _ _ h => h) (Or.inl ⟨by rfl, ?_⟩) (by assumption) ?_
      rotate_left 1
      · intro wz hSw
        first | (go_simp; done) | (go_simp; with_reducible rfl)
      simp only [List.set_cons_zero, List.set_cons_succ]
      refine take_at (i := 6) (n := 44) (v := ?_) rfl rfl (by kernel_rfl) (by kernel_rfl) (by kernel_rfl) (fun _ _ _ h => h) (Or.inl ⟨by rfl, ?_⟩) (by assumption) ?_
      rotate_left 1
      · intro wz hSw
        first | (go_simp; done) | (go_simp; with_reducible rfl)
      simp only [List.set_cons_zero, List.set_cons_succ]
      refine wpAnyH_ready (rs := [7]) (by kernel_rfl) (by simp) ?_
      refine AllReadyH.cons rfl (fun K hK => ?_) AllReadyH.nil
      refine step_copy_runI rfl (.tmp 41) (.tmp 44) 24 24 rfl _ _ rfl rfl hrun ?_
      refine hK.out _ _ trivial (fun hHeld => ?_)
      clear hK K
      simp only [Act.put, List.setIfInBounds_toArray]
      refine take_at (i := 8) (n := 46) (v := ?_) rfl rfl (by kernel_rfl) (by kernel_rfl) (by kernel_rfl) (fun _ _ _ h => h) (Or.inl ⟨by rfl, ?_⟩) (by assumption) ?_
      rotate_left 1
      · intro wz hSw
        first | (go_simp; done) | (go_simp; with_reducible rfl)
      simp only [List.set_cons_zero, List.set_cons_succ]
      refine take_at (i := 9) (n := 8) (v := ?_) rfl rfl (by kernel_rfl) (by kernel_rfl) (by kernel_rfl) (fun _ _ _ h => h) (Or.inl ⟨by rfl, ?_⟩) (by assumption) ?_
      rotate_left 1
      · intro wz hSw
        first | (go_simp; done) | (go_simp; with_reducible rfl)
      simp only [List.set_cons_zero, List.set_cons_succ]
      refine wpAnyH_done (by kernel_rfl) ?_ _
      refine NoPanic.normal ?_
      go_wp2_with fail
      have hwrap : IntKind.i64.wrap ((k : Int) + ((Nat.min k (n - k) : Nat) : Int)) = ((k + Nat.min k (n - k) : Nat) : Int) := by rw [IntKind.wrap_i64]; omega
      rw [hwrap]
      exact ⟨⟨k + Nat.min k (n - k), by omega, fun _ => by omega, rfl, HZ.out⟩, by simp only [intOf, Int.toNat_natCast]; omega⟩
    · have hke : k = n := by omega
      subst hke
      clear hk0
      have HE : Hid (wr.heap[w1.heap.size]? = some (.cells (repCells k k).toArray 3 (0, 0)) ∧ Below w1.heap.size w1 wr) := ⟨hh, hbl⟩
      clear hh hbl
      go_wp2_with fail
      go_ret
      refine ⟨w1.heap.size, rfl, Nat.le_refl _, ?_, HE.out.2⟩
      rw [HE.out.1]
      simp [repCells]
end Go.Proofs.YtccoobcggbbciaiGreatDoor.S8
namespace Go.Proofs.YtccoobcggbbciaiGreatDoor.S8
open Go.ChangeShapes Go.WideShapes Go.ChangeAt Go.RowKit Go.Sort

theorem runCells_again {n : Nat} {runs : List Int} {u v : Int} : (runCells n (runs ++ [u])).set runs.length (.int .i64 v) = runCells n (runs ++ [v]) := by
  unfold runCells
  rw [List.set_append_left _ _ (by simp), List.map_append, List.map_append, List.set_append_right _ _ (by simp)]
  simp

theorem lt_of_heap {W : World} {g : Nat} {o : Obj} (h : W.heap[g]? = some o) : g < W.heap.size := (Array.getElem?_eq_some_iff.1 h).1

/-- A line that plays, as it lies. -/
structure PlayL (w : World) (B K Lf Rn Rd C : Nat) (W : World) (l : List Jb) (rk cm : List Nat) (k : Nat) (th : List Nat) (left : List Int) (jv tv cv : Value) (rs pb rb eb n : Nat) (runs ends : List Int) : Prop where
  line : LineW w B K Lf Rn Rd C W l rk cm k th left jv tv cv
  res : W.heap[rs]? = some (.cells #[.slice none 0 0, .slice none 0 0] 41 (0, 0))
  p : W.heap[pb]? = some (.cells #[.slice (some ⟨rb, 0, none⟩) n n, .slice (some ⟨eb, 0, none⟩) l.length l.length] 41 (0, 0))
  rv : W.heap[rb]? = some (.cells (runCells n runs).toArray 3 (0, 0))
  ev : W.heap[eb]? = some (.cells (ends.map (Value.int .i64)).toArray 3 (0, 0))
  bs : B ≤ rs ∧ B ≤ pb ∧ B ≤ rb ∧ B ≤ eb
  ds : rs ≠ pb ∧ rs ≠ rb ∧ rs ≠ eb ∧ pb ≠ rb ∧ pb ≠ eb ∧ rb ≠ eb
  os : tv.ownBlock ≠ some rs ∧ tv.ownBlock ≠ some pb ∧ tv.ownBlock ≠ some rb ∧ tv.ownBlock ≠ some eb

section

variable {w : World} {B K Lf Rn Rd C : Nat} {W W' : World} {l : List Jb} {rk cm : List Nat} {k k' : Nat} {th th' : List Nat} {left left' : List Int} {jv tv cv tv' cv' : Value} {rs pb rb eb n : Nat} {runs ends : List Int}

theorem PlayL.base (h : PlayL w B K Lf Rn Rd C W l rk cm k th left jv tv cv rs pb rb eb n runs ends) : w.heap.size ≤ B := h.line.low.2

theorem PlayL.lts (h : PlayL w B K Lf Rn Rd C W l rk cm k th left jv tv cv rs pb rb eb n runs ends) : rs < W.heap.size ∧ pb < W.heap.size ∧ rb < W.heap.size ∧ eb < W.heap.size :=
  ⟨lt_of_heap h.res, lt_of_heap h.p, lt_of_heap h.rv, lt_of_heap h.ev⟩

/-- The line has moved, and nothing else. -/
theorem PlayL.moved (h : PlayL w B K Lf Rn Rd C W l rk cm k th left jv tv cv rs pb rb eb n runs ends) (hc : LineW w B K Lf Rn Rd C W' l rk cm k' th' left' jv tv' cv') (hm : MovedL W W' K Lf tv tv') : PlayL w B K Lf Rn Rd C W' l rk cm k' th' left' jv tv' cv' rs pb rb eb n runs ends := by
  obtain ⟨l1, l2, l3, l4⟩ := h.lts
  obtain ⟨b1, b2, b3, b4⟩ := h.bs
  obtain ⟨o1, o2, o3, o4⟩ := h.os
  obtain ⟨hK, hL, -⟩ := h.line.lt
  obtain ⟨e1, f1⟩ := hm.block rs l1 (by omega) (by omega) o1
  obtain ⟨e2, f2⟩ := hm.block pb l2 (by omega) (by omega) o2
  obtain ⟨e3, f3⟩ := hm.block rb l3 (by omega) (by omega) o3
  obtain ⟨e4, f4⟩ := hm.block eb l4 (by omega) (by omega) o4
  exact ⟨hc, e1.trans h.res, e2.trans h.p, e3.trans h.rv, e4.trans h.ev, h.bs, h.ds, f1, f2, f3, f4⟩

theorem PlayL.drewN (h : PlayL w B K Lf Rn Rd C W l rk cm k th left jv tv cv rs pb rb eb n runs ends) (q : Nat) : PlayL w B K Lf Rn Rd C (W.drewN q) l rk cm k th left jv tv cv rs pb rb eb n runs ends :=
  h.moved (h.line.drewN q) (MovedL.drewN W K Lf tv q)

/-- A store into a block that the line doesn't hold. -/
theorem LineW.other (h : LineW w B K Lf Rn Rd C W l rk cm k th left jv tv cv) {b i : Nat} {u : Value} (hb : B ≤ b) (ho : tv.ownBlock ≠ some b) : LineW w B K Lf Rn Rd C (W.setCell ⟨b, i, none⟩ u) l rk cm k th left jv tv cv := by
  have keep : ∀ q, q ≠ b → (W.setCell ⟨b, i, none⟩ u).heap[q]? = W.heap[q]? := fun q hq => Below.heap_setCell _ _ _ _ hq
  have hl := h.low.2
  exact h.keep (fun q hq => keep q (by omega)) (h.there.same (fun g e => keep g (fun e' => ho (e' ▸ e)))) (by simp) (h.bel.setCell (show w.heap.size ≤ b by omega) _) rfl

theorem LineW.below (h : LineW w B K Lf Rn Rd C W l rk cm k th left jv tv cv) (hb : Below W.heap.size W W') : LineW w B K Lf Rn Rd C W' l rk cm k th left jv tv cv := by
  have bs := h.bs
  exact h.keep (fun q hq => hb.block q (by omega)) (h.there.same (fun g e => hb.block g (h.there.low e).2)) hb.size (below_seq h.bel hb) rfl

/-- Who runs is laid down. -/
theorem PlayL.run (h : PlayL w B K Lf Rn Rd C W l rk cm k th left jv tv cv rs pb rb eb n runs ends) {i : Nat} {v : Int} {runs' : List Int} (he : (runCells n runs).set i (.int .i64 v) = runCells n runs') : PlayL w B K Lf Rn Rd C (W.setCell ⟨rb, i, none⟩ (.int .i64 v)) l rk cm k th left jv tv cv rs pb rb eb n runs' ends := by
  obtain ⟨b1, b2, b3, b4⟩ := h.bs
  obtain ⟨d1, d2, d3, d4, d5, d6⟩ := h.ds
  have keep : ∀ q, q ≠ rb → (W.setCell ⟨rb, i, none⟩ (.int .i64 v)).heap[q]? = W.heap[q]? := fun q hq => Below.heap_setCell _ _ _ _ hq
  refine ⟨h.line.other b3 h.os.2.2.1, (keep rs d2).trans h.res, (keep pb d4).trans h.p, ?_, (keep eb (Ne.symm d6)).trans h.ev, h.bs, h.ds, h.os⟩
  rw [setCell_list h.rv, he]

/-- When it was done is laid down. -/
theorem PlayL.done (h : PlayL w B K Lf Rn Rd C W l rk cm k th left jv tv cv rs pb rb eb n runs ends) {i : Nat} {v : Int} : PlayL w B K Lf Rn Rd C (W.setCell ⟨eb, i, none⟩ (.int .i64 v)) l rk cm k th left jv tv cv rs pb rb eb n runs (ends.set i v) := by
  obtain ⟨b1, b2, b3, b4⟩ := h.bs
  obtain ⟨d1, d2, d3, d4, d5, d6⟩ := h.ds
  have keep : ∀ q, q ≠ eb → (W.setCell ⟨eb, i, none⟩ (.int .i64 v)).heap[q]? = W.heap[q]? := fun q hq => Below.heap_setCell _ _ _ _ hq
  refine ⟨h.line.other b4 h.os.2.2.2, (keep rs d3).trans h.res, (keep pb d5).trans h.p, (keep rb d6).trans h.rv, ?_, h.bs, h.ds, h.os⟩
  rw [setCell_list h.ev, List.map_set]

end

/-- One runs on, or nobody ran: by the job's own number. -/
def RunJ (rk : List Nat) (th : List Nat) (s : St) (run : Int) : Prop := (¬ s.on ∧ run = -1) ∨ (s.on ∧ ∃ p : Nat, run = ((RK rk p : Nat) : Int) ∧ p ∈ th ∧ s.last = ((RK rk p : Nat) : Int))

/-- Who runs next. -/
def nextRun (rk : List Nat) (pre : Bool) (run : Int) (th : List Nat) : Int := if pre = true ∨ run = -1 then foreJ rk th else run

theorem pick_of {l : List Jb} {pol : Int} {rk cm : List Nat} {k : Nat} {th th0 : List Nat} {s : St} {t : Nat} {run : Int} {pre : Bool} (hr : Ranked l pol rk) (hc : Coming l rk cm) (hco : Core l rk cm k th s.left) (hn : Now l rk cm k (t : Int)) (hrun : RunJ rk th0 s run) (hsub : ∀ x ∈ th0, x ∈ th) :
    (nextRun rk pre run th = -1 ∧ Pick l pol pre t s (-1)) ∨ (∃ p : Nat, nextRun rk pre run th = ((RK rk p : Nat) : Int) ∧ p ∈ th ∧ Pick l pol pre t s ((RK rk p : Nat) : Int)) := by
  by_cases hcond : pre = true ∨ run = -1
  · have hnot : ¬ (pre = false ∧ s.on) := by
      rintro ⟨h1, h2⟩
      rcases hcond with h | h
      · rw [h1] at h; cases h
      · rcases hrun with ⟨h3, -⟩ | ⟨-, p, h3, -⟩
        · exact h3 h2
        · omega
    unfold nextRun
    rw [if_pos hcond]
    cases th with
    | nil => exact .inl ⟨rfl, .inr ⟨hnot, hco.best_none hr hc hn⟩⟩
    | cons p r => exact .inr ⟨p, rfl, List.mem_cons_self, .inr ⟨hnot, hco.best_some hr hc hn⟩⟩
  · unfold nextRun
    rw [if_neg hcond]
    rcases hrun with ⟨-, h3⟩ | ⟨hon, p, h3, h4, h5⟩
    · exact absurd (.inr h3) hcond
    · refine .inr ⟨p, h3, hsub p h4, .inl ⟨?_, hon, h5.symm⟩⟩
      cases pre with
      | true => exact absurd (.inl rfl) hcond
      | false => rfl

theorem core_start {l : List Jb} {pol : Int} {rk cm : List Nat} (hr : Ranked l pol rk) (hc : Coming l rk cm) (hok : ∀ x ∈ l, okJ x) : Core l rk cm 0 [] (l.map (·.c)) := by
  refine ⟨Nat.zero_le _, List.Pairwise.nil, fun p => by simp, fun p hp => ?_⟩
  have hp' : p < l.length := hc.mem.1 (by simpa using hp)
  have hn := hr.lt hp'
  unfold L
  rw [List.getD_eq_getElem?_getD, List.getElem?_map, List.getElem?_eq_getElem hn]
  have := hok _ (List.getElem_mem hn)
  unfold okJ at this
  simp
  omega
end Go.Proofs.YtccoobcggbbciaiGreatDoor.S8
