import Derived.Test.YtkafihaajpifoafAB
import Derived.Test.YtkafihaajpifoafKT
namespace Go.Proofs.Ytkafihaajpifoaf
open Go.ChangeShapes Go.WideShapes Go.ChangeAt Go.RowKit Go.Sort

/- Which is the first. -/
def idxI (P : Int → Bool) : List Int → Nat → Int
  | [], _ => -1
  | x :: r, i => if P x = true then (i : Int) else idxI P r (i + 1)

theorem idxI_find {P : Int → Bool} : ∀ (xs : List Int) (i : Nat), (xs.findIdx? P = none ∧ idxI P xs i = -1) ∨ (∃ a, xs.findIdx? P = some a ∧ a < xs.length ∧ idxI P xs i = ((a + i : Nat) : Int))
  | [], i => .inl ⟨rfl, rfl⟩
  | x :: r, i => by
    rw [List.findIdx?_cons, idxI]
    rcases hp : P x with _ | _
    · rcases idxI_find (P := P) r (i + 1) with ⟨h1, h2⟩ | ⟨a, h1, h2, h3⟩
      · exact .inl ⟨by rw [h1]; rfl, by simpa using h2⟩
      · exact .inr ⟨a + 1, by rw [h1]; rfl, by simpa using h2, by rw [show a + 1 + i = a + (i + 1) by omega, ← h3]; simp⟩
    · exact .inr ⟨0, by simp, by simp, by simp⟩

set_option maxRecDepth 20000 in
set_option maxHeartbeats 2000000 in
theorem index34_any (w : World) (xs : List Int) (v : Value) (P : Int → Bool) (hl : xs.length ≤ 1000000) (hv : RowSl nuV w xs v) (HA : ∀ W, Below w.heap.size w W → ∀ x ∈ xs, Calls Try.prog 35 #[.int .i64 x] W fun r w' => r = .returned (.bool (P x)) ∧ Below W.heap.size W w') :
    Calls Try.prog 44 #[v, .func (Fn.func 35) #[] #[]] w fun r w' => r = .returned (.int .i64 (idxI P xs 0)) ∧ Below w.heap.size w w' := by
  obtain ⟨ad, c, rfl, -, hcap, hrow⟩ := hv
  have HR : Hid (xs = [] ∨ ∃ b o, ad = some ⟨b, o, none⟩ ∧ ∀ q u, (xs.flatMap nuV)[q]? = some u → w.cell? ⟨b, o + q, none⟩ = some u) := hrow
  have HH : Hid (∀ W, Below w.heap.size w W → ∀ x ∈ xs, Calls Try.prog 35 #[.int .i64 x] W fun r w' => r = .returned (.bool (P x)) ∧ Below W.heap.size W w') := HA
  clear hrow HA
  go_enter Try.func44, Try.ntmps44
  go_wp2_with fail
  go_loopw [8] (fun i wr => ∃ j : Nat, j ≤ xs.length ∧ i = .int .i64 j ∧ Below w.heap.size w wr ∧ idxI P (xs.drop j) j = idxI P xs 0) (fun i _ => xs.length - (intOf i).toNat)
  case atStart => exact ⟨0, Nat.zero_le _, rfl, Below.refl _ _, rfl⟩
  case round =>
    obtain ⟨j, hj, rfl, hg, hac⟩ := hrel
    have HG : Hid (Below w.heap.size w wr) := hg
    by_cases hjl : j < xs.length
    · obtain ⟨x, hx, hd⟩ := drop_at hjl
      rcases HR.out with h | ⟨gb, go, rfl, hr1⟩
      · rw [h] at hjl; simp at hjl
      have y0 := nu_at (fun q u hq => below_cell hg (hr1 q u hq)) hx
      have HC := HH.out wr hg x (List.mem_of_getElem? hx)
      have hji : (j : Int) < (xs.length : Int) := by omega
      rw [hd, idxI] at hac
      rcases hp : P x with _ | _
      · rw [hp] at hac HC
        have hac' : idxI P (xs.drop (j + 1)) (j + 1) = idxI P xs 0 := by simpa using hac
        have HE : Hid (idxI P (xs.drop (j + 1)) (j + 1) = idxI P xs 0) := hac'
        clear hac'
        clear hac hd hr1 hx hg hp
        go_wp2_with (go_at_call 35; refine HC.mono ?_; rintro r w5 ⟨rfl, hb5⟩; have H5 : Hid (Below w.heap.size w w5) := below_seq HG.out hb5; clear hb5 HC)
        exact ⟨⟨j + 1, by omega, by simp, H5.out, HE.out⟩, by simp [intOf]; omega⟩
      · rw [hp] at hac HC
        have hac' : (j : Int) = idxI P xs 0 := by simpa using hac
        have HE : Hid ((j : Int) = idxI P xs 0) := hac'
        clear hac'
        clear hac hd hr1 hx hg hp
        go_wp2_with (go_at_call 35; refine HC.mono ?_; rintro r w5 ⟨rfl, hb5⟩; have H5 : Hid (Below w.heap.size w w5) := below_seq HG.out hb5; clear hb5 HC)
        go_ret
        rw [← HE.out]
        exact ⟨rfl, H5.out⟩
    · have hje : j = xs.length := by omega
      subst hje
      have HE : Hid ((-1 : Int) = idxI P xs 0) := by rw [List.drop_length] at hac; exact hac
      clear hac hg
      go_wp2_with fail
      go_ret
      rw [← HE.out]
      exact ⟨rfl, HG.out⟩

set_option maxRecDepth 20000 in
set_option maxHeartbeats 2000000 in
theorem index41_any (w : World) (xs : List Int) (v : Value) (P : Int → Bool) (b1 b2 b3 : Nat) (hl : xs.length ≤ 1000000) (hv : RowSl nuV w xs v) (HA : ∀ W, Below w.heap.size w W → ∀ x ∈ xs, Calls Try.prog 42 #[.int .i64 x, .pointer (some ⟨b1, 0, none⟩), .pointer (some ⟨b2, 0, none⟩), .pointer (some ⟨b3, 0, none⟩)] W fun r w' => r = .returned (.bool (P x)) ∧ Below W.heap.size W w') :
    Calls Try.prog 44 #[v, .func (Fn.func 42) #[] #[.pointer (some ⟨b1, 0, none⟩), .pointer (some ⟨b2, 0, none⟩), .pointer (some ⟨b3, 0, none⟩)]] w fun r w' => r = .returned (.int .i64 (idxI P xs 0)) ∧ Below w.heap.size w w' := by
  obtain ⟨ad, c, rfl, -, hcap, hrow⟩ := hv
  have HR : Hid (xs = [] ∨ ∃ b o, ad = some ⟨b, o, none⟩ ∧ ∀ q u, (xs.flatMap nuV)[q]? = some u → w.cell? ⟨b, o + q, none⟩ = some u) := hrow
  have HH : Hid (∀ W, Below w.heap.size w W → ∀ x ∈ xs, Calls Try.prog 42 #[.int .i64 x, .pointer (some ⟨b1, 0, none⟩), .pointer (some ⟨b2, 0, none⟩), .pointer (some ⟨b3, 0, none⟩)] W fun r w' => r = .returned (.bool (P x)) ∧ Below W.heap.size W w') := HA
  clear hrow HA
  go_enter Try.func44, Try.ntmps44
  go_wp2_with fail
  go_loopw [8] (fun i wr => ∃ j : Nat, j ≤ xs.length ∧ i = .int .i64 j ∧ Below w.heap.size w wr ∧ idxI P (xs.drop j) j = idxI P xs 0) (fun i _ => xs.length - (intOf i).toNat)
  case atStart => exact ⟨0, Nat.zero_le _, rfl, Below.refl _ _, rfl⟩
  case round =>
    obtain ⟨j, hj, rfl, hg, hac⟩ := hrel
    have HG : Hid (Below w.heap.size w wr) := hg
    by_cases hjl : j < xs.length
    · obtain ⟨x, hx, hd⟩ := drop_at hjl
      rcases HR.out with h | ⟨gb, go, rfl, hr1⟩
      · rw [h] at hjl; simp at hjl
      have y0 := nu_at (fun q u hq => below_cell hg (hr1 q u hq)) hx
      have HC := HH.out wr hg x (List.mem_of_getElem? hx)
      have hji : (j : Int) < (xs.length : Int) := by omega
      rw [hd, idxI] at hac
      rcases hp : P x with _ | _
      · rw [hp] at hac HC
        have hac' : idxI P (xs.drop (j + 1)) (j + 1) = idxI P xs 0 := by simpa using hac
        have HE : Hid (idxI P (xs.drop (j + 1)) (j + 1) = idxI P xs 0) := hac'
        clear hac'
        clear hac hd hr1 hx hg hp
        go_wp2_with (go_at_call 42; refine HC.mono ?_; rintro r w5 ⟨rfl, hb5⟩; have H5 : Hid (Below w.heap.size w w5) := below_seq HG.out hb5; clear hb5 HC)
        exact ⟨⟨j + 1, by omega, by simp, H5.out, HE.out⟩, by simp [intOf]; omega⟩
      · rw [hp] at hac HC
        have hac' : (j : Int) = idxI P xs 0 := by simpa using hac
        have HE : Hid ((j : Int) = idxI P xs 0) := hac'
        clear hac'
        clear hac hd hr1 hx hg hp
        go_wp2_with (go_at_call 42; refine HC.mono ?_; rintro r w5 ⟨rfl, hb5⟩; have H5 : Hid (Below w.heap.size w w5) := below_seq HG.out hb5; clear hb5 HC)
        go_ret
        rw [← HE.out]
        exact ⟨rfl, H5.out⟩
    · have hje : j = xs.length := by omega
      subst hje
      have HE : Hid ((-1 : Int) = idxI P xs 0) := by rw [List.drop_length] at hac; exact hac
      clear hac hg
      go_wp2_with fail
      go_ret
      rw [← HE.out]
      exact ⟨rfl, HG.out⟩


theorem noTime_any (w : World) (n : Int) : Calls Try.prog 35 #[.int .i64 n] w fun r w' => r = .returned (.bool (!isTm n)) ∧ Below w.heap.size w w' := by
  rcases h : isTm n with _ | _
  all_goals
    go_enter Try.func35, Try.ntmps35
    go_wp2_with (go_at_call 36; refine (isTime_any _ _).mono ?_; rintro r w1 ⟨rfl, hw1⟩; subst hw1; rw [h])
    go_ret
    exact ⟨rfl, Below.refl _ _⟩

set_option maxRecDepth 20000 in
/-- Is there one that is no time? -/
theorem hasBad_any (w : World) (xs : List Int) (v : Value) (hl : xs.length ≤ 1000000) (hv : RowSl nuV w xs v) : Calls Try.prog 37 #[v, .func (Fn.func 35) #[] #[]] w fun r w' => r = .returned (.bool (decide (0 ≤ idxI (fun n => !isTm n) xs 0))) ∧ Below w.heap.size w w' := by
  have HC := index34_any w xs v (fun n => !isTm n) hl hv (fun W _ x _ => noTime_any W x)
  obtain ⟨ad, c, rfl⟩ := hv.len
  clear hv
  generalize idxI (fun n => !isTm n) xs 0 = z at *
  go_enter Try.func37, Try.ntmps37
  go_wp2_with (go_at_call 44; refine HC.mono ?_; rintro r w1 ⟨rfl, hb1⟩; have H1 : Hid (Below w.heap.size w w1) := hb1; clear hb1 HC)
  go_ret
  exact ⟨rfl, H1.out⟩

theorem allTm {xs : List Int} (h : ∀ b ∈ xs, 0 ≤ b ∧ b ≤ 10000) : idxI (fun n => !isTm n) xs 0 = -1 := by
  rcases idxI_find (P := fun n => !isTm n) xs 0 with ⟨-, h1⟩ | ⟨a, h1, h2, -⟩
  · exact h1
  · exfalso
    have := List.findIdx?_eq_some_iff_getElem.1 h1
    obtain ⟨h3, h4, -⟩ := this
    have h5 := h _ (List.getElem_mem h3)
    unfold isTm at h4
    simp at h4
    omega

theorem info3A : (Try.prog.info? 3).map (fun i => (i.zero, i.size, i.bytes)) = some (some (.int .i64 0), 1, 8) := by kernel_rfl

/- numbers: 0 to n - 1. -/
def fillR (n j : Nat) : List Int := zI (List.range j) ++ List.replicate (n - j) 0

theorem fillR_set {n j : Nat} (h : j < n) : (fillR n j).set j (j : Int) = fillR n (j + 1) := by
  unfold fillR
  rw [List.set_append_right _ _ (by rw [zI_len]; simp)]
  obtain ⟨m, hm⟩ : ∃ m, n - j = m + 1 := ⟨n - j - 1, by omega⟩
  rw [hm, List.replicate_succ, List.range_succ]
  simp [zI, show n - (j + 1) = m by omega]

theorem fillR_len {n j : Nat} (h : j ≤ n) : (fillR n j).length = n := by unfold fillR; rw [List.length_append, zI_len]; simp; omega

/-- A list of numbers as it lies. -/
def NumB (W : World) (g : Nat) (xs : List Int) : Prop := W.heap[g]? = some (.cells (xs.map (Value.int .i64)).toArray 3 (0, 0))

theorem NumB.lt {W : World} {g : Nat} {xs : List Int} (h : NumB W g xs) : g < W.heap.size := (Array.getElem?_eq_some_iff.1 h).1

theorem NumB.grow {W W' : World} {g : Nat} {xs : List Int} (h : NumB W g xs) (hb : Below W.heap.size W W') : NumB W' g xs := (hb.block _ h.lt).trans h

theorem NumB.put {W : World} {g : Nat} {xs : List Int} (h : NumB W g xs) (i : Nat) (v : Int) : NumB (W.setCell ⟨g, i, none⟩ (.int .i64 v)) g (xs.set i v) := by
  unfold NumB at *
  rw [setCell_at h]
  congr 2
  apply Array.toList_inj.1
  simp [List.map_set]

theorem NumB.cell {W : World} {g : Nat} {xs : List Int} (h : NumB W g xs) {i : Nat} {x : Int} (hi : xs[i]? = some x) : W.cell? ⟨g, i, none⟩ = some (.int .i64 x) ∧ W.frozen? ⟨g, i, none⟩ = false := by
  obtain ⟨h1, h2, -⟩ := cells_of (l := xs.map (Value.int .i64)) h
  refine ⟨h1 i _ ?_, h2 i⟩
  rw [List.getElem?_map, hi]
  rfl

theorem NumB.row {W : World} {g : Nat} {xs : List Int} (h : NumB W g xs) : RowSl nuV W xs (.slice (some ⟨g, 0, none⟩) xs.length xs.length) :=
  ⟨_, _, rfl, (fun e => by cases e), Nat.le_refl _, .inr ⟨g, 0, rfl, fun q u hq => by
    rw [zI_flat] at hq
    rw [Nat.zero_add]
    exact (cells_of h).1 q u hq⟩⟩

theorem NumB.own {W : World} {B g : Nat} {xs : List Int} (h : NumB W g xs) (hB : B ≤ g) (hl : xs.length ≤ 100000) : Own W B (.slice (some ⟨g, 0, none⟩) xs.length xs.length) xs :=
  Own.mk (rest := []) rfl hB h (Nat.le_refl _) (by unfold maxLen; omega) (by simp) (by simp)

theorem Own.row {W : World} {B : Nat} {tv : Value} {th : List Int} (h : Own W B tv th) : RowSl nuV W th tv := by
  rcases h.cases with ⟨rfl, rfl⟩ | ⟨g, cap, cur, rfl, hB, hg, hcap, hm, hs, hcur⟩
  · exact RowSl.nil _ _
  · refine ⟨_, cap, rfl, (fun e => by cases e), hcap, .inr ⟨g, 0, rfl, fun q u hq => ?_⟩⟩
    rw [zI_flat, List.getElem?_map] at hq
    cases e : th[q]? with
    | none => rw [e] at hq; cases hq
    | some z =>
      rw [e] at hq
      rw [Nat.zero_add, h.cell e]
      exact hq

theorem made_rep (n : Nat) : madeCells (Value.int .i64 0).cells (n * 1) = (List.replicate n (Value.int .i64 0)).toArray := by
  apply Array.ext
  · simp [madeCells]
  · intro i h1 h2
    simp [madeCells, Value.cells, Nat.mod_one]

theorem make_rowA (W : World) (n g : Nat) (hn : n ≤ 1000000) (hg : W.heap.size = g) : (Instr.makeSlice 24 (.int .i64 (n : Int)) (.int .i64 (n : Int))).run Try.prog W = .ok (.slice (some ⟨g, 0, none⟩) n n) (W.alloc (.cells (List.replicate n (Value.int .i64 0)).toArray 3)) := by
  subst hg
  obtain ⟨i0, hi0, hz0, hz1, hz2⟩ := info_parts info3A
  have h := run_make (P := Try.prog) W 24 3 i0 _ Try.underlying24 hi0 hz0 .i64 .i64 (n : Int) (n : Int) (by omega) (by omega) (by rw [hz2]; omega) (by omega)
  rw [Int.toNat_natCast, hz1, made_rep] at h
  exact h

theorem make_nums (W : World) (n : Nat) (hn : n ≤ 1000000) : ∃ W', (Instr.makeSlice 24 (.int .i64 (n : Int)) (.int .i64 (n : Int))).run Try.prog W = .ok (.slice (some ⟨W.heap.size, 0, none⟩) n n) W' ∧ Below W.heap.size W W' ∧ NumB W' W.heap.size (List.replicate n 0) := by
  have h := make_rowA W n W.heap.size hn rfl
  refine ⟨_, h, below_new _ _, ?_⟩
  unfold NumB
  rw [heap_alloc_new]
  simp

set_option maxRecDepth 20000 in
set_option maxHeartbeats 2000000 in
theorem numbers_any (w : World) (n : Nat) (hn : n ≤ 1000) : Calls Try.prog 39 #[.int .i64 (n : Int)] w fun r w' => ∃ g, r = .returned (.slice (some ⟨g, 0, none⟩) n n) ∧ NumB w' g (zI (List.range n)) ∧ w.heap.size ≤ g ∧ Below w.heap.size w w' := by
  obtain ⟨w1, hmk, hb1, hN1⟩ := make_nums w n (by omega)
  have H1 : Hid (Below w.heap.size w w1 ∧ NumB w1 w.heap.size (fillR n 0)) := ⟨hb1, by simpa [fillR, zI] using hN1⟩
  clear hb1 hN1
  go_enter Try.func39, Try.ntmps39
  go_wp2_with fail
  clear hmk
  go_loopw [9] (fun i wr => ∃ j : Nat, j ≤ n ∧ i = .int .i64 j ∧ Below w.heap.size w wr ∧ NumB wr w.heap.size (fillR n j)) (fun i _ => n - (intOf i).toNat)
  case atStart => exact ⟨0, Nat.zero_le _, rfl, H1.out.1, H1.out.2⟩
  case round =>
    obtain ⟨j, hj, rfl, hg, hN⟩ := hrel
    have HG : Hid (Below w.heap.size w wr ∧ NumB wr w.heap.size (fillR n j)) := ⟨hg, hN⟩
    by_cases hjl : j < n
    · obtain ⟨z, hz⟩ : ∃ z, (fillR n j)[j]? = some z := ⟨_, List.getElem?_eq_getElem (by rw [fillR_len hj]; exact hjl)⟩
      obtain ⟨c0, c1⟩ := hN.cell hz
      have lg := hN.lt
      have hji : (j : Int) < (n : Int) := by omega
      have HF : Hid ((fillR n j).set j (j : Int) = fillR n (j + 1)) := fillR_set hjl
      clear hz hg hN
      go_wp2_with fail
      refine ⟨⟨j + 1, by omega, by simp, HG.out.1.setCell (Nat.le_refl _) _, ?_⟩, by simp [intOf]; omega⟩
      have e := HG.out.2.put j (j : Int)
      rw [HF.out] at e
      exact e
    · have hje : j = n := by omega
      subst hje
      have hN' : NumB wr w.heap.size (zI (List.range j)) := by simpa [fillR] using hN
      have HE : Hid (NumB wr w.heap.size (zI (List.range j))) := hN'
      clear hN'
      clear hg hN
      go_wp2_with fail
      go_ret
      exact ⟨w.heap.size, rfl, HE.out, Nat.le_refl _, HG.out.1⟩

/- Who has no priority yet. -/
theorem contains_zI {left : List Nat} {k : Nat} : (zI left).contains (k : Int) = inL left k := by
  rw [Bool.eq_iff_iff, inL_iff]
  unfold zI
  simp
  constructor
  · rintro ⟨a, h, e⟩
    have : a = k := by omega
    subst this
    exact h
  · intro h
    exact ⟨k, h, rfl⟩

theorem contains_any (w : World) (xs : List Int) (v : Value) (x : Int) (hl : xs.length ≤ 1000000) (hv : RowSl nuV w xs v) : Calls Try.prog 41 #[v, .int .i64 x] w fun r w' => r = .returned (.bool (xs.contains x)) ∧ w' = w := by
  obtain ⟨ad, c, rfl, -, hcap, hrow⟩ := hv
  rcases hrow with h | ⟨b, o, rfl, hr⟩
  · subst h
    have h := Any.slices_Contains_int_empty lay_containsNu ad c x w
    exact h
  · have h := Any.slices_Contains_int lay_containsNu b o xs.length c xs x w (Nat.le_refl _) (by omega) (fun j hj => by
      have := nu_at hr (List.getElem?_eq_getElem hj)
      rw [this, List.getD_eq_getElem?_getD, List.getElem?_eq_getElem hj]
      rfl)
    rw [List.take_length] at h
    exact h

set_option maxRecDepth 20000 in
theorem waits_any (w : World) (left : List Nat) (vL : Value) (bL k : Nat) (hl : left.length ≤ 1000) (hv : RowSl nuV w (zI left) vL) (h1 : w.cell? ⟨bL, 0, none⟩ = some vL) : Calls Try.prog 40 #[.int .i64 (k : Int), .pointer (some ⟨bL, 0, none⟩)] w fun r w' => r = .returned (.bool (inL left k)) ∧ Below w.heap.size w w' := by
  have HC := contains_any w (zI left) vL (k : Int) (by rw [zI_len]; omega) hv
  rw [contains_zI] at HC
  clear hv
  go_enter Try.func40, Try.ntmps40
  go_wp2_with (go_at_call 41; refine HC.mono ?_; rintro r w1 ⟨rfl, hw1⟩; subst hw1; clear HC)
  go_ret
  exact ⟨rfl, Below.refl _ _⟩

end Go.Proofs.Ytkafihaajpifoaf
