import Derived.Test.YtccoobcggbbcialDoorHY2
import Derived.Shelf.SlGeneric
import Derived.Shelf.SlLaysF
import Derived.Shelf.SlSortCmp.Insertion1
import Derived.Ground.SlsfProg
import Derived.Sort.LotA
namespace Go.Proofs.YtccoobcggbbcialDoor
open Go.ChangeShapes Go.WideShapes Go.ChangeAt Go.RowKit

/-- What cmp.Compare gives. -/
def cmpI (x y : Int) : Int := if x < y then -1 else if y < x then 1 else 0

theorem isNaN_any (w : World) (x : Int) : Calls Tryd.prog 107 #[.int .i64 x] w fun r w' => r = .returned (.bool false) ∧ w' = w := by
  go_enter Tryd.func107, Tryd.ntmps107
  go_wp2
  go_ret
  exact ⟨by simp, rfl⟩

set_option maxRecDepth 20000 in
theorem Compare_any (w : World) (x y : Int) : Calls Tryd.prog 110 #[.int .i64 x, .int .i64 y] w fun r w' => r = .returned (.int .i64 (cmpI x y)) ∧ w' = w := by
  unfold cmpI
  by_cases h : x < y
  · rw [if_pos h]
    go_enter Tryd.func110, Tryd.ntmps110
    go_wp2_with (go_at_call 107; refine (isNaN_any _ _).mono ?_; rintro r w1 ⟨rfl, rfl⟩)
    go_ret
    exact ⟨rfl, rfl⟩
  · rw [if_neg h]
    by_cases h2 : y < x
    · rw [if_pos h2]
      go_enter Tryd.func110, Tryd.ntmps110
      go_wp2_with (go_at_call 107; refine (isNaN_any _ _).mono ?_; rintro r w1 ⟨rfl, rfl⟩)
      go_ret
      exact ⟨rfl, rfl⟩
    · rw [if_neg h2]
      go_enter Tryd.func110, Tryd.ntmps110
      go_wp2_with (go_at_call 107; refine (isNaN_any _ _).mono ?_; rintro r w1 ⟨rfl, rfl⟩)
      go_ret
      exact ⟨rfl, rfl⟩

/-- A list's coming, or none. -/
def Ck (l : List Co) (k : Nat) : Co := l.getD k ⟨0, 0⟩
theorem Ck_get {l : List Co} {k : Nat} (h : k < l.length) : l[k]? = some (Ck l k) := by
  unfold Ck
  rw [List.getD_eq_getElem?_getD, List.getElem?_eq_getElem h]
  rfl

set_option maxRecDepth 20000 in
set_option maxHeartbeats 4000000 in
theorem byAt_any (w : World) (l : List Co) (v : Value) (bS i k : Nat) (hi : i < l.length) (hk : k < l.length) (hv : RowSl Co.vals w l v) (h2 : w.cell? ⟨bS, 0, none⟩ = some v) :
    Calls Tryd.prog 122 #[.int .i64 (i : Int), .int .i64 (k : Int), .pointer (some ⟨bS, 0, none⟩)] w fun r w' => r = .returned (.int .i64 (cmpI (Ck l i).a (Ck l k).a)) ∧ ∃ q, w' = w.drewN q := by
  obtain ⟨ad, c, rfl, -, hcap, hrow⟩ := hv
  rcases hrow with h | ⟨b, o, rfl, hrow⟩
  · rw [h] at hi; simp at hi
  have ca := co_at hrow (Ck_get hi)
  have cb := co_at hrow (Ck_get hk)
  have hi' : (i : Int) < (l.length : Int) := by omega
  have hk' : (k : Int) < (l.length : Int) := by omega
  clear hrow
  generalize Ck l i = xa at *
  generalize Ck l k = xb at *
  go_enter Tryd.func122, Tryd.ntmps122
  go_wp2_with fail
  refine wp_region_noPanic ?_
  refine wp_region_held_drew (S := fun w' => w' = w.drew ∧ w'.cell? ⟨bS, 0, none⟩ = some (.slice (some ⟨b, o, none⟩) l.length c) ∧ CoAt w' b (o + i * 2) xa ∧ CoAt w' b (o + k * 2) xb) (by kernel_rfl) ⟨rfl, h2, ca, cb⟩ (fun hHeld => ?_)
  refine take_at (i := 0) (n := 6) (v := ?_) rfl rfl (by kernel_rfl) (by kernel_rfl) (by kernel_rfl) (fun _ _ _ h => h) (Or.inl ⟨by rfl, ?_⟩) (by assumption) ?_
  rotate_left 1
  · intro wz hSw
    obtain ⟨-, k2, ⟨a0, a1⟩, ⟨c0, c1⟩⟩ := hSw
    first | (go_simp; done) | (go_simp; with_reducible rfl)
  simp only [List.set_cons_zero, List.set_cons_succ]
  refine take_at (i := 1) (n := 7) (v := ?_) rfl rfl (by kernel_rfl) (by kernel_rfl) (by kernel_rfl) (fun _ _ _ h => h) (Or.inl ⟨by rfl, ?_⟩) (by assumption) ?_
  rotate_left 1
  · intro wz hSw
    obtain ⟨-, k2, ⟨a0, a1⟩, ⟨c0, c1⟩⟩ := hSw
    first | (go_simp; done) | (go_simp; with_reducible rfl)
  simp only [List.set_cons_zero, List.set_cons_succ]
  refine take_at (i := 2) (n := 8) (v := ?_) rfl rfl (by kernel_rfl) (by kernel_rfl) (by kernel_rfl) (fun _ _ _ h => h) (Or.inl ⟨by rfl, ?_⟩) (by assumption) ?_
  rotate_left 1
  · intro wz hSw
    obtain ⟨-, k2, ⟨a0, a1⟩, ⟨c0, c1⟩⟩ := hSw
    first | (go_simp; done) | (go_simp; with_reducible rfl)
  simp only [List.set_cons_zero, List.set_cons_succ]
  refine take_at (i := 3) (n := 9) (v := ?_) rfl rfl (by kernel_rfl) (by kernel_rfl) (by kernel_rfl) (fun _ _ _ h => h) (Or.inl ⟨by rfl, ?_⟩) (by assumption) ?_
  rotate_left 1
  · intro wz hSw
    obtain ⟨-, k2, ⟨a0, a1⟩, ⟨c0, c1⟩⟩ := hSw
    first | (go_simp; done) | (go_simp; with_reducible rfl)
  simp only [List.set_cons_zero, List.set_cons_succ]
  refine take_at (i := 4) (n := 10) (v := ?_) rfl rfl (by kernel_rfl) (by kernel_rfl) (by kernel_rfl) (fun _ _ _ h => h) (Or.inl ⟨by rfl, ?_⟩) (by assumption) ?_
  rotate_left 1
  · intro wz hSw
    obtain ⟨-, k2, ⟨a0, a1⟩, ⟨c0, c1⟩⟩ := hSw
    first | (go_simp; done) | (go_simp; with_reducible rfl)
  simp only [List.set_cons_zero, List.set_cons_succ]
  refine take_at (i := 5) (n := 11) (v := ?_) rfl rfl (by kernel_rfl) (by kernel_rfl) (by kernel_rfl) (fun _ _ _ h => h) (Or.inl ⟨by rfl, ?_⟩) (by assumption) ?_
  rotate_left 1
  · intro wz hSw
    obtain ⟨-, k2, ⟨a0, a1⟩, ⟨c0, c1⟩⟩ := hSw
    first | (go_simp; done) | (go_simp; with_reducible rfl)
  simp only [List.set_cons_zero, List.set_cons_succ]
  refine take_at (i := 6) (n := 12) (v := ?_) rfl rfl (by kernel_rfl) (by kernel_rfl) (by kernel_rfl) (fun _ _ _ h => h) (Or.inl ⟨by rfl, ?_⟩) (by assumption) ?_
  rotate_left 1
  · intro wz hSw
    obtain ⟨-, k2, ⟨a0, a1⟩, ⟨c0, c1⟩⟩ := hSw
    first | (go_simp; done) | (go_simp; with_reducible rfl)
  simp only [List.set_cons_zero, List.set_cons_succ]
  refine take_at (i := 7) (n := 13) (v := ?_) rfl rfl (by kernel_rfl) (by kernel_rfl) (by kernel_rfl) (fun _ _ _ h => h) (Or.inl ⟨by rfl, ?_⟩) (by assumption) ?_
  rotate_left 1
  · intro wz hSw
    obtain ⟨-, k2, ⟨a0, a1⟩, ⟨c0, c1⟩⟩ := hSw
    first | (go_simp; done) | (go_simp; with_reducible rfl)
  simp only [List.set_cons_zero, List.set_cons_succ]
  refine take_at (i := 8) (n := 14) (v := ?_) rfl rfl (by kernel_rfl) (by kernel_rfl) (by kernel_rfl) (fun _ _ _ h => h) (Or.inl ⟨by rfl, ?_⟩) (by assumption) ?_
  rotate_left 1
  · intro wz hSw
    obtain ⟨-, k2, ⟨a0, a1⟩, ⟨c0, c1⟩⟩ := hSw
    first | (go_simp; done) | (go_simp; with_reducible rfl)
  simp only [List.set_cons_zero, List.set_cons_succ]
  refine take_at (i := 9) (n := 15) (v := ?_) rfl rfl (by kernel_rfl) (by kernel_rfl) (by kernel_rfl) (fun _ _ _ h => h) (Or.inl ⟨by rfl, ?_⟩) (by assumption) ?_
  rotate_left 1
  · intro wz hSw
    obtain ⟨-, k2, ⟨a0, a1⟩, ⟨c0, c1⟩⟩ := hSw
    first | (go_simp; done) | (go_simp; with_reducible rfl)
  simp only [List.set_cons_zero, List.set_cons_succ]
  refine wpAnyH_ready (rs := [10]) (by kernel_rfl) (by simp) ?_
  refine AllReadyH.cons rfl (fun K hK => ?_) AllReadyH.nil
  go_simp
  go_wp2_with (go_at_call 110; refine (Compare_any _ xa.a xb.a).mono ?_; rintro r w3 ⟨rfl, hw3⟩; subst hw3)
  refine hK.out _ _ ⟨rfl, h2, ca, cb⟩ (fun hHeld => ?_)
  clear hK K
  refine take_at (i := 11) (n := 5) (v := ?_) rfl rfl (by kernel_rfl) (by kernel_rfl) (by kernel_rfl) (fun _ _ _ h => h) (Or.inl ⟨by rfl, ?_⟩) (by assumption) ?_
  rotate_left 1
  · intro wz hSw
    obtain ⟨-, k2, ⟨a0, a1⟩, ⟨c0, c1⟩⟩ := hSw
    first | (go_simp; done) | (go_simp; with_reducible rfl)
  simp only [List.set_cons_zero, List.set_cons_succ]
  refine wpAnyH_done (by kernel_rfl) ?_ _
  refine NoPanic.normal ?_
  go_wp2_with fail
  go_ret
  exact ⟨rfl, 1, rfl⟩
end Go.Proofs.YtccoobcggbbcialDoor
namespace Go.Proofs.YtccoobcggbbcialDoor
open Go.ChangeShapes Go.WideShapes Go.ChangeAt Go.RowKit

/-- Numbers from nought, of which j are laid. -/
def fillR (n j : Nat) : List Int := (List.range j).map (fun k : Nat => (k : Int)) ++ List.replicate (n - j) 0

theorem fillR_len {n j : Nat} (h : j ≤ n) : (fillR n j).length = n := by unfold fillR; simp; omega

theorem fillR_set {n j : Nat} (h : j < n) : (fillR n j).set j (j : Int) = fillR n (j + 1) := by
  unfold fillR
  rw [List.set_append_right _ _ (by simp)]
  obtain ⟨m, hm⟩ : ∃ m, n - j = m + 1 := ⟨n - j - 1, by omega⟩
  rw [hm, List.replicate_succ, List.range_succ]
  simp [show n - (j + 1) = m by omega]

/-- A list of numbers as it lies. -/
def NumB (W : World) (g : Nat) (xs : List Int) : Prop := W.heap[g]? = some (.cells (xs.map (Value.int .i64)).toArray 3 (0, 0))

theorem NumB.lt {W : World} {g : Nat} {xs : List Int} (h : NumB W g xs) : g < W.heap.size := (Array.getElem?_eq_some_iff.1 h).1

theorem NumB.put {W : World} {g : Nat} {xs : List Int} (h : NumB W g xs) (i : Nat) (v : Int) : NumB (W.setCell ⟨g, i, none⟩ (.int .i64 v)) g (xs.set i v) := by
  unfold NumB at *
  rw [setCell_at h]
  congr 2
  apply Array.toList_inj.1
  simp [List.map_set]

theorem NumB.cell {W : World} {g : Nat} {xs : List Int} (h : NumB W g xs) {i : Nat} {x : Int} (hi : xs[i]? = some x) : W.cell? ⟨g, i, none⟩ = some (.int .i64 x) ∧ W.frozen? ⟨g, i, none⟩ = false := by
  obtain ⟨h1, h2, -⟩ := cells_of (l := xs.map (Value.int .i64)) h
  refine ⟨h1 i _ ?_, h2 i⟩
  rw [List.getElem?_map, hi]
  rfl

set_option maxRecDepth 20000 in
set_option maxHeartbeats 2000000 in
/-- Up to nineteen elements: the insertion sort alone. -/
theorem stable_any (W : World) (n : Nat) (sv fv : Value) (Q : World → Prop) (hn : n ≤ 19) (hI : Calls Tryd.prog 158 #[sv, .int .i64 0, .int .i64 (n : Int), fv] W fun r W' => r = .returned (.tuple #[]) ∧ Q W') :
    Calls Tryd.prog 139 #[sv, .int .i64 (n : Int), fv] W fun r W' => r = .returned (.tuple #[]) ∧ Q W' := by
  have ha : ¬ (20 : Int) ≤ (n : Int) := by omega
  have hb : ¬ (20 : Int) < (n : Int) := by omega
  have HI : Hid (Calls Tryd.prog 158 #[sv, .int .i64 0, .int .i64 (n : Int), fv] W fun r W' => r = .returned (.tuple #[]) ∧ Q W') := hI
  clear hI
  go_enter Tryd.func139, Tryd.ntmps139
  go_wp2_with fail
  go_loopw [7, 8] (fun v7 v8 wr => v7 = .int .i64 0 ∧ v8 = .int .i64 20 ∧ wr = W) (fun _ _ _ => 0)
  case atStart => exact ⟨rfl, rfl, rfl⟩
  case round =>
    obtain ⟨rfl, rfl, hw⟩ := hrel
    have hw := hw.symm
    subst hw
    go_wp2_with (go_at_call 158; refine HI.out.mono ?_; rintro r w5 ⟨rfl, h5⟩; have H5 : Hid (Q w5) := h5; clear h5)
    go_loopw [6, 7, 8, 9] (fun v6 _ _ _ wr => v6 = .int .i64 20 ∧ wr = w5) (fun _ _ _ _ _ => 0)
    case atStart => exact ⟨rfl, rfl⟩
    case round =>
      obtain ⟨rfl, hw⟩ := hrel
      have hw := hw.symm
      subst hw
      go_wp2_with fail
      go_end0
      exact ⟨rfl, H5.out⟩

set_option maxRecDepth 20000 in
theorem sortS_any (W : World) (n : Nat) (ad : Option Addr) (c : Nat) (fv : Value) (Q : World → Prop) (hn : n ≤ 19) (hI : Calls Tryd.prog 158 #[.slice ad n c, .int .i64 0, .int .i64 (n : Int), fv] W fun r W' => r = .returned (.tuple #[]) ∧ Q W') :
    Calls Tryd.prog 121 #[.slice ad n c, fv] W fun r W' => r = .returned (.tuple #[]) ∧ Q W' := by
  have HI := stable_any W n _ _ Q hn hI
  clear hI
  go_enter Tryd.func121, Tryd.ntmps121
  go_wp2_with (go_at_call 139; refine HI.mono ?_; rintro r w5 ⟨rfl, h5⟩; have H5 : Hid (Q w5) := h5; clear h5 HI)
  go_end0
  exact ⟨rfl, H5.out⟩
end Go.Proofs.YtccoobcggbbcialDoor
namespace Go.Proofs.YtccoobcggbbcialDoor
open Go.ChangeShapes Go.WideShapes Go.ChangeAt Go.RowKit

set_option maxRecDepth 20000 in
set_option maxHeartbeats 4000000 in
/-- inTime: the numbers, as the sort leaves them. -/
theorem inTime_any (w : World) (l : List Co) (cv : Value) (ord : List Nat) (hv : RowSl Co.vals w l cv) (h19 : l.length ≤ 19) (ho : ord.length = l.length)
    (hI : ∀ W g bS, Below w.heap.size w W → W.cell? ⟨bS, 0, none⟩ = some cv → bS < g → w.heap.size ≤ bS → NumB W g ((List.range l.length).map fun k : Nat => (k : Int)) →
      Calls Tryd.prog 158 #[.slice (some ⟨g, 0, none⟩) l.length l.length, .int .i64 0, .int .i64 (l.length : Int), .func (Fn.func 122) #[] #[.pointer (some ⟨bS, 0, none⟩)]] W fun r W' => r = .returned (.tuple #[]) ∧ NumB W' g (ord.map fun k : Nat => (k : Int)) ∧ Below w.heap.size W W') :
    Calls Tryd.prog 85 #[cv] w (InTimePost w ord) := by
  obtain ⟨ad, c, rfl⟩ := hv.len
  have HI : Hid (∀ W g bS, Below w.heap.size w W → W.cell? ⟨bS, 0, none⟩ = some (.slice ad l.length c) → bS < g → w.heap.size ≤ bS → NumB W g ((List.range l.length).map fun k : Nat => (k : Int)) →
      Calls Tryd.prog 158 #[.slice (some ⟨g, 0, none⟩) l.length l.length, .int .i64 0, .int .i64 (l.length : Int), .func (Fn.func 122) #[] #[.pointer (some ⟨bS, 0, none⟩)]] W fun r W' => r = .returned (.tuple #[]) ∧ NumB W' g (ord.map fun k : Nat => (k : Int)) ∧ Below w.heap.size W W') := hI
  have HO : Hid (ord.length = l.length ∧ l.length ≤ 19) := ⟨ho, h19⟩
  have hll : l.length ≤ 1000000 := by omega
  obtain ⟨w1, hmk, hb1, hs1, hN1⟩ : ∃ w1, (Instr.makeSlice 36 (.int .i64 (l.length : Int)) (.int .i64 (l.length : Int))).run Tryd.prog (w.alloc (.cells #[.slice ad l.length c] 84)) = .ok (.slice (some ⟨w.heap.size + 1, 0, none⟩) l.length l.length) w1 ∧ Below w.heap.size w w1 ∧ w1.heap[w.heap.size]? = some (.cells #[.slice ad l.length c] 84 (0, 0)) ∧ NumB w1 (w.heap.size + 1) (fillR l.length 0) := by
    refine ⟨_, make_row _ l.length (w.heap.size + 1) hll (by simp), below_seq (below_new _ _) (below_new _ _), ?_, ?_⟩
    · exact (Below.heap_alloc _ _ _ (by simp)).trans (heap_alloc_new _ _)
    · unfold NumB fillR
      have := heap_alloc_new (w.alloc (.cells #[.slice ad l.length c] 84)) (.cells (List.replicate l.length (Value.int .i64 0)).toArray 3)
      rw [show (w.alloc (.cells #[.slice ad l.length c] 84)).heap.size = w.heap.size + 1 from by simp] at this
      rw [this]
      simp
  have H1 : Hid (Below w.heap.size w w1 ∧ w1.heap[w.heap.size]? = some (.cells #[.slice ad l.length c] 84 (0, 0)) ∧ NumB w1 (w.heap.size + 1) (fillR l.length 0)) := ⟨hb1, hs1, hN1⟩
  clear hv hI ho h19 hll hb1 hs1 hN1
  go_enter Tryd.func85, Tryd.ntmps85
  go_wp2_with fail
  clear hmk
  go_loopw [10] (fun i wr => ∃ j : Nat, j ≤ l.length ∧ i = .int .i64 j ∧ Below w.heap.size w wr ∧ wr.heap[w.heap.size]? = some (.cells #[.slice ad l.length c] 84 (0, 0)) ∧ NumB wr (w.heap.size + 1) (fillR l.length j)) (fun i _ => l.length - (intOf i).toNat)
  case atStart => exact ⟨0, Nat.zero_le _, rfl, H1.out.1, H1.out.2.1, H1.out.2.2⟩
  case round =>
    obtain ⟨j, hj, rfl, hg, hs, hN⟩ := hrel
    have HG : Hid (Below w.heap.size w wr ∧ wr.heap[w.heap.size]? = some (.cells #[.slice ad l.length c] 84 (0, 0)) ∧ NumB wr (w.heap.size + 1) (fillR l.length j)) := ⟨hg, hs, hN⟩
    by_cases hjl : j < l.length
    · obtain ⟨z, hz⟩ : ∃ z, (fillR l.length j)[j]? = some z := ⟨_, List.getElem?_eq_getElem (by rw [fillR_len hj]; exact hjl)⟩
      obtain ⟨c0, c1⟩ := hN.cell hz
      have lg := hN.lt
      have hji : (j : Int) < (l.length : Int) := by omega
      have hl19 : l.length ≤ 19 := HO.out.2
      have HF : Hid ((fillR l.length j).set j (j : Int) = fillR l.length (j + 1)) := fillR_set hjl
      clear hz hg hN hs
      go_wp2_with fail
      refine ⟨⟨j + 1, by omega, by simp, HG.out.1.setCell (Nat.le_succ _) _, ?_, ?_⟩, by simp [intOf]; omega⟩
      · exact (Below.heap_setCell _ _ _ _ (by simp)).trans HG.out.2.1
      · have e := HG.out.2.2.put j (j : Int)
        rw [HF.out] at e
        exact e
    · have hje : j = l.length := by omega
      subst hje
      have HE : Hid (NumB wr (w.heap.size + 1) ((List.range l.length).map fun k : Nat => (k : Int))) := by
        have : NumB wr (w.heap.size + 1) ((List.range l.length).map fun k : Nat => (k : Int)) := by simpa [fillR] using hN
        exact this
      have HS := sortS_any wr l.length (some ⟨w.heap.size + 1, 0, none⟩) l.length (.func (Fn.func 122) #[] #[.pointer (some ⟨w.heap.size, 0, none⟩)]) (fun W' => NumB W' (w.heap.size + 1) (ord.map fun k : Nat => (k : Int)) ∧ Below w.heap.size wr W') HO.out.2 (HI.out wr (w.heap.size + 1) w.heap.size HG.out.1 ((cells_of (l := [_]) hs).1 0 _ rfl) (by omega) (Nat.le_refl _) HE.out)
      clear hg hN hs
      go_wp2_with (go_at_call 121; refine HS.mono ?_; rintro r w5 ⟨rfl, h5⟩; have H5 : Hid (NumB w5 (w.heap.size + 1) (ord.map fun k : Nat => (k : Int)) ∧ Below w.heap.size wr w5) := h5; clear h5 HS)
      go_ret
      refine ⟨w.heap.size + 1, ?_, by omega, ?_, HG.out.1.trans H5.out.2⟩
      · rw [HO.out.1]
        rfl
      · have := H5.out.1
        unfold NumB at this
        rw [this, List.map_map]
        rfl
end Go.Proofs.YtccoobcggbbcialDoor
namespace Go.Proofs.YtccoobcggbbcialDoor
open Go.ChangeShapes Go.WideShapes Go.ChangeAt Go.RowKit Go.Sort Go.Shelf

def lay_insNu_ren : Go.Shelf.Ren := ⟨fun | 20 => 158 | n => n, fun | 24 => 3 | 22 => 36 | 3 => 3 | 25 => 68 | 4 => 4 | 0 => 0 | n => n, fun | n => n⟩
theorem lay_insNu : Go.Proofs.SlLaysF.n20 Tryd.prog lay_insNu_ren := {
  mixed := by kernel_rfl
  f20 := ⟨Tryd.f158.name, by decide, Tryd.func158.trans (congrArg some (by kernel_rfl))⟩
  t0 := Tryd.underlying0
  a0 := Tryd.isAgg0
  z0 := Tryd.sizeOf0
  v0 := Tryd.zeroValue0
  t3 := Tryd.underlying3
  a3 := Tryd.isAgg3
  z3 := Tryd.sizeOf3
  v3 := Tryd.zeroValue3
  t4 := Tryd.underlying4
  a4 := Tryd.isAgg4
  z4 := Tryd.sizeOf4
  v4 := Tryd.zeroValue4
  t22 := Tryd.underlying36
  a22 := Tryd.isAgg36
  z22 := Tryd.sizeOf36
  v22 := Tryd.zeroValue36
  a24 := Tryd.isAgg3
  z24 := Tryd.sizeOf3
  t25 := Tryd.underlying68
  a25 := Tryd.isAgg68
  z25 := Tryd.sizeOf68
  v25 := Tryd.zeroValue68 }


/-- All places. -/
def finL (N : Nat) : List (Fin N) := (List.range N).pmap (fun a h => ⟨a, h⟩) (fun a h => by simpa using h)

theorem finL_val (N : Nat) : (finL N).map (fun p => p.val) = List.range N := by
  unfold finL
  rw [List.map_pmap]
  simp

theorem finL_len (N : Nat) : (finL N).length = N := by simp [finL]

theorem putCells_all {α : Type} [Inhabited α] (enc : α → Value) (d : Array α) (c : Array Value) (h : c.size = d.size) : putCells enc 0 d c = d.map enc := by
  apply Array.ext
  · simp [putCells, h]
  · intro i h1 h2
    have hi : i < d.size := by simpa using h2
    simp [putCells, hi]

theorem sorted_heap {α : Type} [Inhabited α] (enc : α → Value) {w : World} {g n : Nat} {os : Array Obj} {cur : Array Value} {e : TypeId} {fr : Nat × Nat} (d : Array α) (hb : w.heap[g]? = some (.cells cur e fr)) (hs : cur.size = d.size) :
    (grow (putRow enc (Sort.ahead w n) g 0 d) os).heap[g]? = some (.cells (d.map enc) e fr) := by
  have hg : g < w.heap.size := (Array.getElem?_eq_some_iff.1 hb).1
  rw [heap_grow_old _ _ (by simpa using hg), ← putCells_all enc d cur hs]
  simp [putRow, mapBlock, Sort.ahead, Array.getElem?_modify, hb, onCells]

theorem sorted_keep {α : Type} [Inhabited α] (enc : α → Value) {w : World} {g n : Nat} {os : Array Obj} (d : Array α) : w.grownBy (grow (putRow enc (Sort.ahead w n) g 0 d) os) (some g) := by
  refine ⟨rfl, rfl, rfl, by simp, fun k hk hne => ?_⟩
  rw [heap_grow_old _ _ (by simpa using hk)]
  have : g ≠ k := fun e => hne (by rw [e])
  simp [putRow, mapBlock, Sort.ahead, Array.getElem?_modify, this]

theorem finL_get {n p : Nat} [Inhabited (Fin n)] (h : p < n) : ((finL n).toArray[p]!).val = p := by
  have hl : p < (finL n).length := by rw [finL_len]; exact h
  rw [getElem!_pos _ p (by simpa using hl)]
  have e := finL_val n
  have h2 : ((finL n).map (fun p => p.val))[p]? = some p := by rw [e]; simp [h]
  rw [List.getElem?_map, List.getElem?_eq_getElem hl] at h2
  simpa using h2

def encA (n : Nat) (p : Fin n) : Value := .int .i64 (p.val : Int)

theorem encA_map {n : Nat} (d : List (Fin n)) : d.map (encA n) = (d.map fun p => ((p.val : Nat) : Int)).map (Value.int .i64) := by
  unfold encA
  rw [List.map_map]
  rfl

theorem cmpI_neg (x y : Int) : decide (cmpI x y < 0) = decide (x < y) := by
  unfold cmpI
  by_cases h : x < y
  · simp [h]
  · by_cases h2 : y < x <;> simp [h, h2]

theorem swoA (l : List Co) : SWO (ltOf fun x y : Fin l.length => cmpI (Ck l x.val).a (Ck l y.val).a) where
  irrefl x := by unfold ltOf; rw [cmpI_neg]; simp
  trans x y z h1 h2 := by
    unfold ltOf at *
    rw [cmpI_neg] at *
    have := of_decide_eq_true h1
    have := of_decide_eq_true h2
    exact decide_eq_true (by omega)
  ntrans x y z h1 h2 := by
    unfold ltOf at *
    rw [cmpI_neg] at *
    have := of_decide_eq_false h1
    have := of_decide_eq_false h2
    exact decide_eq_false (by omega)

/-- What the insertion sort leaves. -/
def insO (l : List Co) [Inhabited (Fin l.length)] : List Nat := (insertionSort (ltOf fun x y : Fin l.length => cmpI (Ck l x.val).a (Ck l y.val).a) (finL l.length).toArray 0 l.length).toList.map fun p => p.val

set_option maxRecDepth 20000 in
set_option maxHeartbeats 2000000 in
theorem insC_any (W : World) (l : List Co) [Inhabited (Fin l.length)] (v : Value) (bS g : Nat) (h19 : l.length ≤ 19) (hv : RowSl Co.vals W l v) (h2 : W.cell? ⟨bS, 0, none⟩ = some v) (hn2 : bS ≠ g) (hrow : ∀ ad c, v = .slice ad l.length c → ∀ b o, ad = some ⟨b, o, none⟩ → b ≠ g) (hN : NumB W g ((List.range l.length).map fun k : Nat => (k : Int))) :
    Calls Tryd.prog 158 #[.slice (some ⟨g, 0, none⟩) l.length l.length, .int .i64 0, .int .i64 (l.length : Int), .func (.func 122) #[] #[.pointer (some ⟨bS, 0, none⟩)]] W fun r W' => r = .returned (.tuple #[]) ∧ NumB W' g ((insO l).map fun k : Nat => (k : Int)) ∧ W.grownBy W' (some g) := by
  have eg : ∀ args w, (callFunc 122 args).run Tryd.prog w = .ok (.enter 122 args) w := enters_of Tryd.func122 (by kernel_rfl) rfl
  have hsz : (finL l.length).toArray.size = l.length := by simp [finL_len]
  have hC' : W.heap[g]? = some (.cells ((finL l.length).toArray.map (encA l.length)) 3 (0, 0)) := by
    rw [hN, List.map_toArray, encA_map, show ((finL l.length).map fun p => ((p.val : Nat) : Int)) = ((finL l.length).map fun p => p.val).map (fun k : Nat => (k : Int)) from by rw [List.map_map]; rfl, finL_val]
  have hH : Holds (encA l.length) W g 0 (finL l.length).toArray := by
    intro j hj
    have hj' : j < l.length := by rw [hsz] at hj; exact hj
    obtain ⟨c1, c2⟩ := hN.cell (i := j) (x := (j : Int)) (by simp [hj'])
    refine ⟨?_, by rw [Nat.zero_add]; exact c2⟩
    rw [Nat.zero_add, c1]
    unfold encA
    rw [finL_get hj']
  have hcmp : CmpLays1 Tryd.prog 122 #[.pointer (some ⟨bS, 0, none⟩)] (encA l.length) (fun x y => cmpI (Ck l x.val).a (Ck l y.val).a) g 0 (finL l.length).toArray.size W := fun m os dk _ x y => by
    have hk := sorted_keep (encA l.length) (w := W) (g := g) (n := m) (os := os) dk
    have kc : ∀ (a : Addr) (u : Value), W.cell? a = some u → a.block ≠ g → (sortWorld (encA l.length) W g 0 m dk os).cell? a = some u := fun a u hu hne => hk.cell hu (fun e => hne (Option.some.inj e))
    have hv' : RowSl Co.vals (sortWorld (encA l.length) W g 0 m dk os) l v := by
      obtain ⟨ad, c, rfl, q1, q2, q3⟩ := hv
      refine ⟨ad, c, rfl, q1, q2, ?_⟩
      rcases q3 with q3 | ⟨b, o, e, q3⟩
      · exact .inl q3
      · exact .inr ⟨b, o, e, fun q u hq => kc _ _ (q3 q u hq) (hrow ad c rfl b o e)⟩
    refine (byAt_any _ l v bS x.val y.val x.isLt y.isLt hv' (kc _ _ h2 hn2)).mono ?_
    rintro r w' ⟨rfl, q, rfl⟩
    exact ⟨rfl, q, #[], by simp⟩
  have h := Any.insertionSortCmpFunc_s lay_insNu (encA l.length) (fun x y => cmpI (Ck l x.val).a (Ck l y.val).a) 122 #[.pointer (some ⟨bS, 0, none⟩)] g 0 l.length 0 l.length (finL l.length).toArray (finL l.length).toArray W W eg hcmp ⟨fun _ => rfl, hH, hN.lt⟩ rfl (SW.start hH) (Nat.zero_le _) (by omega) (by omega)
  rw [hsz] at h
  change Calls Tryd.prog 158 _ _ _ at h
  refine h.mono ?_
  rintro r W' ⟨rfl, n, os, rfl⟩
  have hds : (insertionSort (ltOf fun x y : Fin l.length => cmpI (Ck l x.val).a (Ck l y.val).a) (finL l.length).toArray 0 l.length).size = l.length := (insertionSort_holds (swoA l) (finL l.length).toArray 0 l.length (Nat.zero_le _) (by omega)).1.1.trans hsz
  refine ⟨rfl, ?_, sorted_keep _ _⟩
  have h9 := sorted_heap (n := n) (os := os) (encA l.length) (insertionSort (ltOf fun x y : Fin l.length => cmpI (Ck l x.val).a (Ck l y.val).a) (finL l.length).toArray 0 l.length) hC' (by rw [Array.size_map, hsz, hds])
  unfold NumB insO
  rw [show (sortWorld (encA l.length) W g 0 n _ os).heap[g]? = _ from h9, List.map_map]
  congr 2
  apply Array.toList_inj.1
  simp [encA]
end Go.Proofs.YtccoobcggbbcialDoor
