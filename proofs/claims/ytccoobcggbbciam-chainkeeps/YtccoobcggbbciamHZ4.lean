import Derived.Test.YtccoobcggbbciamHY2
namespace Go.Proofs.Ytccoobcggbbciam
open Go.ChangeShapes Go.WideShapes Go.ChangeAt Go.RowKit

/-- What cmp.Compare gives. -/
def cmpI (x y : Int) : Int := if x < y then -1 else if y < x then 1 else 0

theorem isNaN_any (w : World) (x : Int) : Calls Try.prog 49 #[.int .i64 x] w fun r w' => r = .returned (.bool false) ∧ w' = w := by
  go_enter Try.func49, Try.ntmps49
  go_wp2
  go_ret
  exact ⟨by simp, rfl⟩

set_option maxRecDepth 20000 in
theorem Compare_any (w : World) (x y : Int) : Calls Try.prog 35 #[.int .i64 x, .int .i64 y] w fun r w' => r = .returned (.int .i64 (cmpI x y)) ∧ w' = w := by
  unfold cmpI
  by_cases h : x < y
  · rw [if_pos h]
    go_enter Try.func35, Try.ntmps35
    go_wp2_with (go_at_call 49; refine (isNaN_any _ _).mono ?_; rintro r w1 ⟨rfl, rfl⟩)
    go_ret
    exact ⟨rfl, rfl⟩
  · rw [if_neg h]
    by_cases h2 : y < x
    · rw [if_pos h2]
      go_enter Try.func35, Try.ntmps35
      go_wp2_with (go_at_call 49; refine (isNaN_any _ _).mono ?_; rintro r w1 ⟨rfl, rfl⟩)
      go_ret
      exact ⟨rfl, rfl⟩
    · rw [if_neg h2]
      go_enter Try.func35, Try.ntmps35
      go_wp2_with (go_at_call 49; refine (isNaN_any _ _).mono ?_; rintro r w1 ⟨rfl, rfl⟩)
      go_ret
      exact ⟨rfl, rfl⟩

/-- A list's coming, or none. -/
def Ck (l : List Co) (k : Nat) : Co := l.getD k ⟨0, 0⟩
theorem Ck_get {l : List Co} {k : Nat} (h : k < l.length) : l[k]? = some (Ck l k) := by
  unfold Ck
  rw [List.getD_eq_getElem?_getD, List.getElem?_eq_getElem h]
  rfl

set_option maxRecDepth 20000 in
set_option maxHeartbeats 4000000 in
theorem byAt_any (w : World) (l : List Co) (v : Value) (bS i k : Nat) (hi : i < l.length) (hk : k < l.length) (hv : RowSl Co.vals w l v) (h2 : w.cell? ⟨bS, 0, none⟩ = some v) :
    Calls Try.prog 34 #[.int .i64 (i : Int), .int .i64 (k : Int), .pointer (some ⟨bS, 0, none⟩)] w fun r w' => r = .returned (.int .i64 (cmpI (Ck l i).a (Ck l k).a)) ∧ ∃ q, w' = w.drewN q := by
  obtain ⟨ad, c, rfl, -, hcap, hrow⟩ := hv
  rcases hrow with h | ⟨b, o, rfl, hrow⟩
  · rw [h] at hi; simp at hi
  have ca := co_at hrow (Ck_get hi)
  have cb := co_at hrow (Ck_get hk)
  have hi' : (i : Int) < (l.length : Int) := by omega
  have hk' : (k : Int) < (l.length : Int) := by omega
  clear hrow
  generalize Ck l i = xa at *
  generalize Ck l k = xb at *
  go_enter Try.func34, Try.ntmps34
  go_wp2_with fail
  refine wp_region_noPanic ?_
  refine wp_region_held_drew (S := fun w' => w' = w.drew ∧ w'.cell? ⟨bS, 0, none⟩ = some (.slice (some ⟨b, o, none⟩) l.length c) ∧ CoAt w' b (o + i * 2) xa ∧ CoAt w' b (o + k * 2) xb) (by kernel_rfl) ⟨rfl, h2, ca, cb⟩ (fun hHeld => ?_)
  refine take_at (i := 0) (n := 6) (v := ?_) rfl rfl (by kernel_rfl) (by kernel_rfl) (by kernel_rfl) (fun _ _ _ h => h) (Or.inl ⟨by rfl, ?_⟩) (by assumption) ?_
  rotate_left 1
  · intro wz hSw
    obtain ⟨-, k2, ⟨a0, a1⟩, ⟨c0, c1⟩⟩ := hSw
    first | (go_simp; done) | (go_simp; with_reducible rfl)
  simp only [List.set_cons_zero, List.set_cons_succ]
  refine take_at (i := 1) (n := 7) (v := ?_) rfl rfl (by kernel_rfl) (by kernel_rfl) (by kernel_rfl) (fun _ _ _ h => h) (Or.inl ⟨by rfl, ?_⟩) (by assumption) ?_
  rotate_left 1
  · intro wz hSw
    obtain ⟨-, k2, ⟨a0, a1⟩, ⟨c0, c1⟩⟩ := hSw
    first | (go_simp; done) | (go_simp; with_reducible rfl)
  simp only [List.set_cons_zero, List.set_cons_succ]
  refine take_at (i := 2) (n := 8) (v := ?_) rfl rfl (by kernel_rfl) (by kernel_rfl) (by kernel_rfl) (fun _ _ _ h => h) (Or.inl ⟨by rfl, ?_⟩) (by assumption) ?_
  rotate_left 1
  · intro wz hSw
    obtain ⟨-, k2, ⟨a0, a1⟩, ⟨c0, c1⟩⟩ := hSw
    first | (go_simp; done) | (go_simp; with_reducible rfl)
  simp only [List.set_cons_zero, List.set_cons_succ]
  refine take_at (i := 3) (n := 9) (v := ?_) rfl rfl (by kernel_rfl) (by kernel_rfl) (by kernel_rfl) (fun _ _ _ h => h) (Or.inl ⟨by rfl, ?_⟩) (by assumption) ?_
  rotate_left 1
  · intro wz hSw
    obtain ⟨-, k2, ⟨a0, a1⟩, ⟨c0, c1⟩⟩ := hSw
    first | (go_simp; done) | (go_simp; with_reducible rfl)
  simp only [List.set_cons_zero, List.set_cons_succ]
  refine take_at (i := 4) (n := 10) (v := ?_) rfl rfl (by kernel_rfl) (by kernel_rfl) (by kernel_rfl) (fun _ _ _ h => h) (Or.inl ⟨by rfl, ?_⟩) (by assumption) ?_
  rotate_left 1
  · intro wz hSw
    obtain ⟨-, k2, ⟨a0, a1⟩, ⟨c0, c1⟩⟩ := hSw
    first | (go_simp; done) | (go_simp; with_reducible rfl)
  simp only [List.set_cons_zero, List.set_cons_succ]
  refine take_at (i := 5) (n := 11) (v := ?_) rfl rfl (by kernel_rfl) (by kernel_rfl) (by kernel_rfl) (fun _ _ _ h => h) (Or.inl ⟨by rfl, ?_⟩) (by assumption) ?_
  rotate_left 1
  · intro wz hSw
    obtain ⟨-, k2, ⟨a0, a1⟩, ⟨c0, c1⟩⟩ := hSw
    first | (go_simp; done) | (go_simp; with_reducible rfl)
  simp only [List.set_cons_zero, List.set_cons_succ]
  refine take_at (i := 6) (n := 12) (v := ?_) rfl rfl (by kernel_rfl) (by kernel_rfl) (by kernel_rfl) (fun _ _ _ h => h) (Or.inl ⟨by rfl, ?_⟩) (by assumption) ?_
  rotate_left 1
  · intro wz hSw
    obtain ⟨-, k2, ⟨a0, a1⟩, ⟨c0, c1⟩⟩ := hSw
    first | (go_simp; done) | (go_simp; with_reducible rfl)
  simp only [List.set_cons_zero, List.set_cons_succ]
  refine take_at (i := 7) (n := 13) (v := ?_) rfl rfl (by kernel_rfl) (by kernel_rfl) (by kernel_rfl) (fun _ _ _ h => h) (Or.inl ⟨by rfl, ?_⟩) (by assumption) ?_
  rotate_left 1
  · intro wz hSw
    obtain ⟨-, k2, ⟨a0, a1⟩, ⟨c0, c1⟩⟩ := hSw
    first | (go_simp; done) | (go_simp; with_reducible rfl)
  simp only [List.set_cons_zero, List.set_cons_succ]
  refine take_at (i := 8) (n := 14) (v := ?_) rfl rfl (by kernel_rfl) (by kernel_rfl) (by kernel_rfl) (fun _ _ _ h => h) (Or.inl ⟨by rfl, ?_⟩) (by assumption) ?_
  rotate_left 1
  · intro wz hSw
    obtain ⟨-, k2, ⟨a0, a1⟩, ⟨c0, c1⟩⟩ := hSw
    first | (go_simp; done) | (go_simp; with_reducible rfl)
  simp only [List.set_cons_zero, List.set_cons_succ]
  refine take_at (i := 9) (n := 15) (v := ?_) rfl rfl (by kernel_rfl) (by kernel_rfl) (by kernel_rfl) (fun _ _ _ h => h) (Or.inl ⟨by rfl, ?_⟩) (by assumption) ?_
  rotate_left 1
  · intro wz hSw
    obtain ⟨-, k2, ⟨a0, a1⟩, ⟨c0, c1⟩⟩ := hSw
    first | (go_simp; done) | (go_simp; with_reducible rfl)
  simp only [List.set_cons_zero, List.set_cons_succ]
  refine wpAnyH_ready (rs := [10]) (by kernel_rfl) (by simp) ?_
  refine AllReadyH.cons rfl (fun K hK => ?_) AllReadyH.nil
  go_simp
  go_wp2_with (go_at_call 35; refine (Compare_any _ xa.a xb.a).mono ?_; rintro r w3 ⟨rfl, hw3⟩; subst hw3)
  refine hK.out _ _ ⟨rfl, h2, ca, cb⟩ (fun hHeld => ?_)
  clear hK K
  refine take_at (i := 11) (n := 5) (v := ?_) rfl rfl (by kernel_rfl) (by kernel_rfl) (by kernel_rfl) (fun _ _ _ h => h) (Or.inl ⟨by rfl, ?_⟩) (by assumption) ?_
  rotate_left 1
  · intro wz hSw
    obtain ⟨-, k2, ⟨a0, a1⟩, ⟨c0, c1⟩⟩ := hSw
    first | (go_simp; done) | (go_simp; with_reducible rfl)
  simp only [List.set_cons_zero, List.set_cons_succ]
  refine wpAnyH_done (by kernel_rfl) ?_ _
  refine NoPanic.normal ?_
  go_wp2_with fail
  go_ret
  exact ⟨rfl, 1, rfl⟩
end Go.Proofs.Ytccoobcggbbciam
namespace Go.Proofs.Ytccoobcggbbciam
open Go.ChangeShapes Go.WideShapes Go.ChangeAt Go.RowKit

/-- Numbers from nought, of which j are laid. -/
def fillR (n j : Nat) : List Int := (List.range j).map (fun k : Nat => (k : Int)) ++ List.replicate (n - j) 0

theorem fillR_len {n j : Nat} (h : j ≤ n) : (fillR n j).length = n := by unfold fillR; simp; omega

theorem fillR_set {n j : Nat} (h : j < n) : (fillR n j).set j (j : Int) = fillR n (j + 1) := by
  unfold fillR
  rw [List.set_append_right _ _ (by simp)]
  obtain ⟨m, hm⟩ : ∃ m, n - j = m + 1 := ⟨n - j - 1, by omega⟩
  rw [hm, List.replicate_succ, List.range_succ]
  simp [show n - (j + 1) = m by omega]

/-- A list of numbers as it lies. -/
def NumB (W : World) (g : Nat) (xs : List Int) : Prop := W.heap[g]? = some (.cells (xs.map (Value.int .i64)).toArray 3 (0, 0))

theorem NumB.lt {W : World} {g : Nat} {xs : List Int} (h : NumB W g xs) : g < W.heap.size := (Array.getElem?_eq_some_iff.1 h).1

theorem NumB.put {W : World} {g : Nat} {xs : List Int} (h : NumB W g xs) (i : Nat) (v : Int) : NumB (W.setCell ⟨g, i, none⟩ (.int .i64 v)) g (xs.set i v) := by
  unfold NumB at *
  rw [setCell_at h]
  congr 2
  apply Array.toList_inj.1
  simp [List.map_set]

theorem NumB.cell {W : World} {g : Nat} {xs : List Int} (h : NumB W g xs) {i : Nat} {x : Int} (hi : xs[i]? = some x) : W.cell? ⟨g, i, none⟩ = some (.int .i64 x) ∧ W.frozen? ⟨g, i, none⟩ = false := by
  obtain ⟨h1, h2, -⟩ := cells_of (l := xs.map (Value.int .i64)) h
  refine ⟨h1 i _ ?_, h2 i⟩
  rw [List.getElem?_map, hi]
  rfl

set_option maxRecDepth 20000 in
set_option maxHeartbeats 2000000 in
/-- Up to nineteen elements: the insertion sort alone. -/
theorem stable_any (W : World) (n : Nat) (sv fv : Value) (Q : World → Prop) (hn : n ≤ 19) (hI : Calls Try.prog 72 #[sv, .int .i64 0, .int .i64 (n : Int), fv] W fun r W' => r = .returned (.tuple #[]) ∧ Q W') :
    Calls Try.prog 48 #[sv, .int .i64 (n : Int), fv] W fun r W' => r = .returned (.tuple #[]) ∧ Q W' := by
  have ha : ¬ (20 : Int) ≤ (n : Int) := by omega
  have hb : ¬ (20 : Int) < (n : Int) := by omega
  have HI : Hid (Calls Try.prog 72 #[sv, .int .i64 0, .int .i64 (n : Int), fv] W fun r W' => r = .returned (.tuple #[]) ∧ Q W') := hI
  clear hI
  go_enter Try.func48, Try.ntmps48
  go_wp2_with fail
  go_loopw [7, 8] (fun v7 v8 wr => v7 = .int .i64 0 ∧ v8 = .int .i64 20 ∧ wr = W) (fun _ _ _ => 0)
  case atStart => exact ⟨rfl, rfl, rfl⟩
  case round =>
    obtain ⟨rfl, rfl, hw⟩ := hrel
    have hw := hw.symm
    subst hw
    go_wp2_with (go_at_call 72; refine HI.out.mono ?_; rintro r w5 ⟨rfl, h5⟩; have H5 : Hid (Q w5) := h5; clear h5)
    go_loopw [6, 7, 8, 9] (fun v6 _ _ _ wr => v6 = .int .i64 20 ∧ wr = w5) (fun _ _ _ _ _ => 0)
    case atStart => exact ⟨rfl, rfl⟩
    case round =>
      obtain ⟨rfl, hw⟩ := hrel
      have hw := hw.symm
      subst hw
      go_wp2_with fail
      go_end0
      exact ⟨rfl, H5.out⟩

set_option maxRecDepth 20000 in
theorem sortS_any (W : World) (n : Nat) (ad : Option Addr) (c : Nat) (fv : Value) (Q : World → Prop) (hn : n ≤ 19) (hI : Calls Try.prog 72 #[.slice ad n c, .int .i64 0, .int .i64 (n : Int), fv] W fun r W' => r = .returned (.tuple #[]) ∧ Q W') :
    Calls Try.prog 33 #[.slice ad n c, fv] W fun r W' => r = .returned (.tuple #[]) ∧ Q W' := by
  have HI := stable_any W n _ _ Q hn hI
  clear hI
  go_enter Try.func33, Try.ntmps33
  go_wp2_with (go_at_call 48; refine HI.mono ?_; rintro r w5 ⟨rfl, h5⟩; have H5 : Hid (Q w5) := h5; clear h5 HI)
  go_end0
  exact ⟨rfl, H5.out⟩
end Go.Proofs.Ytccoobcggbbciam
namespace Go.Proofs.Ytccoobcggbbciam
open Go.ChangeShapes Go.WideShapes Go.ChangeAt Go.RowKit

set_option maxRecDepth 20000 in
set_option maxHeartbeats 4000000 in
/-- inTime: the numbers, as the sort leaves them. -/
theorem inTime_any (w : World) (l : List Co) (cv : Value) (ord : List Nat) (hv : RowSl Co.vals w l cv) (h19 : l.length ≤ 19) (ho : ord.length = l.length)
    (hI : ∀ W g bS, Below w.heap.size w W → W.cell? ⟨bS, 0, none⟩ = some cv → bS < g → w.heap.size ≤ bS → NumB W g ((List.range l.length).map fun k : Nat => (k : Int)) →
      Calls Try.prog 72 #[.slice (some ⟨g, 0, none⟩) l.length l.length, .int .i64 0, .int .i64 (l.length : Int), .func (Fn.func 34) #[] #[.pointer (some ⟨bS, 0, none⟩)]] W fun r W' => r = .returned (.tuple #[]) ∧ NumB W' g (ord.map fun k : Nat => (k : Int)) ∧ Below w.heap.size W W') :
    Calls Try.prog 19 #[cv] w (InTimePost w ord) := by
  obtain ⟨ad, c, rfl⟩ := hv.len
  have HI : Hid (∀ W g bS, Below w.heap.size w W → W.cell? ⟨bS, 0, none⟩ = some (.slice ad l.length c) → bS < g → w.heap.size ≤ bS → NumB W g ((List.range l.length).map fun k : Nat => (k : Int)) →
      Calls Try.prog 72 #[.slice (some ⟨g, 0, none⟩) l.length l.length, .int .i64 0, .int .i64 (l.length : Int), .func (Fn.func 34) #[] #[.pointer (some ⟨bS, 0, none⟩)]] W fun r W' => r = .returned (.tuple #[]) ∧ NumB W' g (ord.map fun k : Nat => (k : Int)) ∧ Below w.heap.size W W') := hI
  have HO : Hid (ord.length = l.length ∧ l.length ≤ 19) := ⟨ho, h19⟩
  have hll : l.length ≤ 1000000 := by omega
  obtain ⟨w1, hmk, hb1, hs1, hN1⟩ : ∃ w1, (Instr.makeSlice 24 (.int .i64 (l.length : Int)) (.int .i64 (l.length : Int))).run Try.prog (w.alloc (.cells #[.slice ad l.length c] 23)) = .ok (.slice (some ⟨w.heap.size + 1, 0, none⟩) l.length l.length) w1 ∧ Below w.heap.size w w1 ∧ w1.heap[w.heap.size]? = some (.cells #[.slice ad l.length c] 23 (0, 0)) ∧ NumB w1 (w.heap.size + 1) (fillR l.length 0) := by
    refine ⟨_, make_row _ l.length (w.heap.size + 1) hll (by simp), below_seq (below_new _ _) (below_new _ _), ?_, ?_⟩
    · exact (Below.heap_alloc _ _ _ (by simp)).trans (heap_alloc_new _ _)
    · unfold NumB fillR
      have := heap_alloc_new (w.alloc (.cells #[.slice ad l.length c] 23)) (.cells (List.replicate l.length (Value.int .i64 0)).toArray 3)
      rw [show (w.alloc (.cells #[.slice ad l.length c] 23)).heap.size = w.heap.size + 1 from by simp] at this
      rw [this]
      simp
  have H1 : Hid (Below w.heap.size w w1 ∧ w1.heap[w.heap.size]? = some (.cells #[.slice ad l.length c] 23 (0, 0)) ∧ NumB w1 (w.heap.size + 1) (fillR l.length 0)) := ⟨hb1, hs1, hN1⟩
  clear hv hI ho h19 hll hb1 hs1 hN1
  go_enter Try.func19, Try.ntmps19
  go_wp2_with fail
  clear hmk
  go_loopw [10] (fun i wr => ∃ j : Nat, j ≤ l.length ∧ i = .int .i64 j ∧ Below w.heap.size w wr ∧ wr.heap[w.heap.size]? = some (.cells #[.slice ad l.length c] 23 (0, 0)) ∧ NumB wr (w.heap.size + 1) (fillR l.length j)) (fun i _ => l.length - (intOf i).toNat)
  case atStart => exact ⟨0, Nat.zero_le _, rfl, H1.out.1, H1.out.2.1, H1.out.2.2⟩
  case round =>
    obtain ⟨j, hj, rfl, hg, hs, hN⟩ := hrel
    have HG : Hid (Below w.heap.size w wr ∧ wr.heap[w.heap.size]? = some (.cells #[.slice ad l.length c] 23 (0, 0)) ∧ NumB wr (w.heap.size + 1) (fillR l.length j)) := ⟨hg, hs, hN⟩
    by_cases hjl : j < l.length
    · obtain ⟨z, hz⟩ : ∃ z, (fillR l.length j)[j]? = some z := ⟨_, List.getElem?_eq_getElem (by rw [fillR_len hj]; exact hjl)⟩
      obtain ⟨c0, c1⟩ := hN.cell hz
      have lg := hN.lt
      have hji : (j : Int) < (l.length : Int) := by omega
      have hl19 : l.length ≤ 19 := HO.out.2
      have HF : Hid ((fillR l.length j).set j (j : Int) = fillR l.length (j + 1)) := fillR_set hjl
      clear hz hg hN hs
      go_wp2_with fail
      refine ⟨⟨j + 1, by omega, by simp, HG.out.1.setCell (Nat.le_succ _) _, ?_, ?_⟩, by simp [intOf]; omega⟩
      · exact (Below.heap_setCell _ _ _ _ (by simp)).trans HG.out.2.1
      · have e := HG.out.2.2.put j (j : Int)
        rw [HF.out] at e
        exact e
    · have hje : j = l.length := by omega
      subst hje
      have HE : Hid (NumB wr (w.heap.size + 1) ((List.range l.length).map fun k : Nat => (k : Int))) := by
        have : NumB wr (w.heap.size + 1) ((List.range l.length).map fun k : Nat => (k : Int)) := by simpa [fillR] using hN
        exact this
      have HS := sortS_any wr l.length (some ⟨w.heap.size + 1, 0, none⟩) l.length (.func (Fn.func 34) #[] #[.pointer (some ⟨w.heap.size, 0, none⟩)]) (fun W' => NumB W' (w.heap.size + 1) (ord.map fun k : Nat => (k : Int)) ∧ Below w.heap.size wr W') HO.out.2 (HI.out wr (w.heap.size + 1) w.heap.size HG.out.1 ((cells_of (l := [_]) hs).1 0 _ rfl) (by omega) (Nat.le_refl _) HE.out)
      clear hg hN hs
      go_wp2_with (go_at_call 33; refine HS.mono ?_; rintro r w5 ⟨rfl, h5⟩; have H5 : Hid (NumB w5 (w.heap.size + 1) (ord.map fun k : Nat => (k : Int)) ∧ Below w.heap.size wr w5) := h5; clear h5 HS)
      go_ret
      refine ⟨w.heap.size + 1, ?_, by omega, ?_, HG.out.1.trans H5.out.2⟩
      · rw [HO.out.1]
        rfl
      · have := H5.out.1
        unfold NumB at this
        rw [this, List.map_map]
        rfl
end Go.Proofs.Ytccoobcggbbciam
