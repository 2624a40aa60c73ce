import Derived.Test.YtccoobcggbbciamProg
import Derived.Shelf.Bits.Mul64
import Derived.Ground.NamesProg
import Derived.Test.YtccoobcggbbciamNJ
import Derived.Laws.IdiomCopy
import Derived.Shelf.Spec.SlicesInsert
namespace Go.Proofs
open Go.Shelf
def Try.mul_ren : Go.Shelf.Ren := ⟨fun | 212 => 47 | 263 => 70 | 264 => 71 | n => n, fun | 46 => 91 | 51 => 110 | 146 => 111 | 53 => 113 | 148 => 114 | n => n, fun | n => n⟩
theorem Try.mul : Go.Proofs.Lays.n212 Try.prog Try.mul_ren := {
  mixed := by kernel_rfl
  f212 := Try.func47.trans (congrArg some (by kernel_rfl))
  f263 := Try.func70.trans (congrArg some (by kernel_rfl))
  f264 := Try.func71.trans (congrArg some (by kernel_rfl))
  t46 := Try.underlying91
  a46 := Try.isAgg91
  z46 := Try.sizeOf91
  v46 := Try.zeroValue91
  t51 := Try.underlying110
  a51 := Try.isAgg110
  z51 := Try.sizeOf110
  v51 := Try.zeroValue110
  t53 := Try.underlying113
  a53 := Try.isAgg113
  z53 := Try.sizeOf113
  v53 := Try.zeroValue113
  t146 := Try.underlying111
  a146 := Try.isAgg111
  z146 := Try.sizeOf111
  v146 := Try.zeroValue111
  t148 := Try.underlying114
  a148 := Try.isAgg114
  z148 := Try.sizeOf114
  v148 := Try.zeroValue114 }
end Go.Proofs
namespace Go.Proofs.Ytccoobcggbbciam
open Go.ChangeShapes Go.WideShapes Go.ChangeAt Go.RowKit

/- What stores do to a block. -/
theorem setCells_heap (g : Nat) (e : TypeId) (fr : Nat × Nat) : ∀ (vs : List Value) (o : Nat) (W : World) (cur : Array Value), W.heap[g]? = some (.cells cur e fr) → o + vs.length ≤ cur.size →
    ∃ cur', (W.setCells g o vs).heap[g]? = some (.cells cur' e fr) ∧ cur'.toList = cur.toList.take o ++ vs ++ cur.toList.drop (o + vs.length)
  | [], o, W, cur, h, _ => ⟨cur, h, by simp⟩
  | v :: r, o, W, cur, h, hl => by
    simp only [List.length_cons] at hl
    obtain ⟨cur', h1, h2⟩ := setCells_heap g e fr r (o + 1) (W.setCell ⟨g, o, none⟩ v) (cur.setIfInBounds o v) (setCell_at h) (by simp; omega)
    refine ⟨cur', h1, ?_⟩
    rw [h2, Array.toList_setIfInBounds, List.take_set, List.drop_set_of_lt (by omega)]
    have : ((cur.toList.take (o + 1)).set o v) = cur.toList.take o ++ [v] := by
      have hlen : o < cur.toList.length := by simp; omega
      rw [List.take_add_one, List.getElem?_eq_getElem hlen, List.set_append_right _ _ (by simp; omega)]
      simp [show min o cur.size = o by omega]
    rw [this]
    simp [show o + 1 + r.length = o + (r.length + 1) by omega]

theorem setCells_keep (g : Nat) : ∀ (vs : List Value) (o : Nat) (W : World), W.grownBy (W.setCells g o vs) (some g)
  | [], _, W => ⟨rfl, rfl, rfl, Nat.le_refl _, fun _ _ _ => rfl⟩
  | v :: r, o, W => by
    have h := setCells_keep g r (o + 1) (W.setCell ⟨g, o, none⟩ v)
    refine ⟨h.os, h.tape, h.output, ?_, fun k hk hne => ?_⟩
    · have e : (W.setCell ⟨g, o, none⟩ v).heap.size = W.heap.size := by simp
      exact e ▸ h.size
    · have hk' : k < (W.setCell ⟨g, o, none⟩ v).heap.size := by simpa using hk
      rw [World.setCells, h.block k hk' hne, Below.heap_setCell _ _ _ _ (by intro e; exact hne (by rw [show k = g from e]))]

theorem make_row (W : World) (n g : Nat) (hn : n ≤ 1000000) (hg : W.heap.size = g) : (Instr.makeSlice 24 (.int .i64 (n : Int)) (.int .i64 (n : Int))).run Try.prog W = .ok (.slice (some ⟨g, 0, none⟩) n n) (W.alloc (.cells (List.replicate n (Value.int .i64 0)).toArray 3)) := by
  subst hg
  obtain ⟨i0, hi0, hz0, hz1, hz2⟩ := info_parts info3N
  have h := run_make (P := Try.prog) W 24 3 i0 _ Try.underlying24 hi0 hz0 .i64 .i64 (n : Int) (n : Int) (by omega) (by omega) (by rw [hz2]; omega) (by omega)
  rw [Int.toNat_natCast, hz1, made_rep] at h
  exact h

theorem grownBy_below {a b : World} {row : Option Nat} {B : Nat} (h : a.grownBy b row) (hB : B ≤ a.heap.size) (hr : ∀ q, row = some q → B ≤ q) : Below B a b :=
  (Below.refl _ a).grown h hB hr

/-- So many have been copied. -/
def repCells (n k : Nat) : List Value := List.replicate k (.int .i64 (-1)) ++ List.replicate (n - k) (.int .i64 0)

theorem rep_len (n k : Nat) (h : k ≤ n) : (repCells n k).length = n := by simp [repCells]; omega

theorem rep_at {n k j : Nat} (h : j < k) : (repCells n k)[j]? = some (.int .i64 (-1)) := by
  unfold repCells
  rw [List.getElem?_append_left (by simpa using h), List.getElem?_replicate, if_pos h]

/-- One more run of copying, into what is left. -/
theorem rep_copy (W : World) (g n k m sc : Nat) (hW : W.heap[g]? = some (.cells (repCells n k).toArray 3 (0, 0))) (hk : k ≤ n) (hm : m ≤ n - k) (src : Addr) (sl dc : Nat) (hs : ∀ j v, (List.replicate m (Value.int .i64 (-1)))[j]? = some v → W.cell? (src.add j) = some v) (hmin : m = Nat.min sl (n - k)) :
    ∃ W', (Builtin.copy_ #[24, 24] 3 #[.slice (some ⟨g, k, none⟩) (n - k) dc, .slice (some src) sl sc]).run Try.prog W = .ok (.int .i64 (m : Int)) W' ∧ W'.heap[g]? = some (.cells (repCells n (k + m)).toArray 3 (0, 0)) ∧ W.grownBy W' (some g) := by
  have hsz : (Try.prog.info? 3).map (·.size) = some 1 := by
    obtain ⟨i0, hi0, hz0, hz1, hz2⟩ := info_parts info3N
    rw [hi0]; simp [hz1]
  obtain ⟨hc, hf, -⟩ := cells_of (l := repCells n k) hW
  have hlen : (List.replicate m (Value.int .i64 (-1))).length = m := by simp
  have h := run_copy_cells (P := Try.prog) W 24 24 3 3 g k (n - k) dc src sl sc (List.replicate m (.int .i64 (-1))) Try.underlying24 hsz (by rw [hlen]; exact hmin) hs (fun j hj => by
    rw [hlen] at hj
    rw [hc (k + j) _ (List.getElem?_eq_getElem (by rw [rep_len n k hk]; omega))]; rfl) (fun j _ => hf _) (fun v hv => by rw [(List.mem_replicate.1 hv).2]; rfl)
  rw [hlen] at h
  obtain ⟨cur', h1, h2⟩ := setCells_heap g 3 (0, 0) (List.replicate m (.int .i64 (-1))) k W (repCells n k).toArray hW (by rw [hlen, List.size_toArray, rep_len n k hk]; omega)
  refine ⟨_, h, ?_, setCells_keep _ _ _ _⟩
  suffices e : cur' = (repCells n (k + m)).toArray by rw [h1, e]
  apply Array.toList_inj.1
  rw [h2, hlen]
  show (repCells n k).take k ++ List.replicate m (.int .i64 (-1)) ++ (repCells n k).drop (k + m) = repCells n (k + m)
  have e1 : (repCells n k).take k = List.replicate k (.int .i64 (-1)) := by
    unfold repCells
    rw [List.take_append_of_le_length (by simp), List.take_of_length_le (by simp)]
  have e2 : (repCells n k).drop (k + m) = List.replicate (n - (k + m)) (.int .i64 0) := by
    unfold repCells
    rw [List.drop_append, List.drop_of_length_le (by simp), List.nil_append, List.drop_replicate, List.length_replicate, show n - k - (k + m - k) = n - (k + m) by omega]
  rw [e1, e2]
  unfold repCells
  rw [List.replicate_append_replicate]

set_option maxRecDepth 20000 in
theorem Repeat_any (W : World) (b n : Nat) (hb : W.heap[b]? = some (.cells #[.int .i64 (-1)] 3 (0, 0))) (hn : n ≤ 100000) :
    Calls Try.prog 31 #[.slice (some ⟨b, 0, none⟩) 1 1, .int .i64 (n : Int)] W fun r W' => ∃ g, r = .returned (.slice (some ⟨g, 0, none⟩) n n) ∧ W.heap.size ≤ g ∧ W'.heap[g]? = some (.cells (List.replicate n (Value.int .i64 (-1))).toArray 3 (0, 0)) ∧ Below W.heap.size W W' := by
  have hm := Any.bits_Mul Try.mul 1 n (by omega) (by omega) W
  change Calls Try.prog 47 _ _ _ at hm
  rw [Nat.one_mul, Nat.mod_eq_of_lt (by omega), Nat.div_eq_of_lt (by omega)] at hm
  have hn0 : ¬ ((n : Int) < 0) := by omega
  obtain ⟨w2, hmk, hh0, hb1, hs2⟩ : ∃ w2, (Instr.makeSlice 24 (.int .i64 (n : Int)) (.int .i64 (n : Int))).run Try.prog W = .ok (.slice (some ⟨W.heap.size, 0, none⟩) n n) w2 ∧ w2.heap[W.heap.size]? = some (.cells (repCells n 0).toArray 3 (0, 0)) ∧ Below W.heap.size W w2 ∧ w2.heap.size = W.heap.size + 1 :=
    ⟨_, make_row W n W.heap.size (by omega) rfl, by rw [heap_alloc_new]; simp [repCells], below_new _ _, by simp⟩
  have hbb := (hb1.block b (Array.getElem?_eq_some_iff.1 hb).1).trans hb
  obtain ⟨hbc, -, -⟩ := cells_of (l := [_]) hbb
  obtain ⟨w3, hcp, hh3, hg3⟩ := rep_copy _ W.heap.size n 0 (Nat.min 1 n) 1 hh0 (by omega) (by simp [Nat.min_def]; split <;> omega) ⟨b, 0, none⟩ 1 n (fun j v hj => by
    obtain ⟨hj1, hj2⟩ := List.getElem?_eq_some_iff.1 hj
    have : j = 0 := by simp [Nat.min_def] at hj1; split at hj1 <;> omega
    subst this
    simp at hj2
    subst hj2
    rw [Addr.add_lit]
    exact hbc 0 _ rfl) (by simp)
  have hb3 : Below W.heap.size W w3 := hb1.trans (grownBy_below (B := W.heap.size) hg3 (by omega) (by intro q hq; cases hq; exact Nat.le_refl _))
  rw [Nat.sub_zero] at hcp
  rw [Nat.zero_add] at hh3
  have H3 : Hid (w3.heap[W.heap.size]? = some (.cells (repCells n (Nat.min 1 n)).toArray 3 (0, 0)) ∧ Below W.heap.size W w3) := ⟨hh3, hb3⟩
  clear hg3 hh3 hb3 hbc hbb hb1 hh0
  go_enter Try.func31, Try.ntmps31
  go_wp2_with (first | (go_at_call 47; refine hm.mono ?_; rintro r w1 ⟨rfl, rfl⟩) | (at_builtin; refine wpList_copy_runI _ rfl (.tmp 31) (.tmp 32) 24 24 rfl _ _ rfl rfl hcp ?_))
  have H4 : Hid (∀ wz m, wz.heap[w1.heap.size]? = some (.cells (repCells n m).toArray 3 (0, 0)) → Below w1.heap.size w1 wz → 0 < m → m < n → ∃ wz', (Builtin.copy_ #[24, 24] 3 #[.slice (some ⟨w1.heap.size, m, none⟩) (n - m) (n - m), .slice (some ⟨w1.heap.size, 0, none⟩) m n]).run Try.prog wz = .ok (.int .i64 ((Nat.min m (n - m) : Nat) : Int)) wz' ∧ wz'.heap[w1.heap.size]? = some (.cells (repCells n (m + Nat.min m (n - m))).toArray 3 (0, 0)) ∧ Below w1.heap.size w1 wz') := fun wz m h1 h2 h3 h4 => by
    obtain ⟨hc, -, -⟩ := cells_of (l := repCells n m) h1
    obtain ⟨wz', r1, r2, r3⟩ := rep_copy wz w1.heap.size n m (Nat.min m (n - m)) n h1 (by omega) (Nat.min_le_right _ _) ⟨w1.heap.size, 0, none⟩ m (n - m) (fun j v hj => by
      obtain ⟨hj1, hj2⟩ := List.getElem?_eq_some_iff.1 hj
      have hjm : j < m := by have h9 : Nat.min m (n - m) ≤ m := Nat.min_le_left m (n - m); rw [List.length_replicate] at hj1; omega
      rw [Addr.add_lit, Nat.zero_add, hc j _ (rep_at hjm), ← hj2]
      simp) rfl
    exact ⟨wz', r1, r2, h2.trans (grownBy_below (B := w1.heap.size) r3 (Nat.le_of_lt (Array.getElem?_eq_some_iff.1 h1).1) (by intro q hq; cases hq; exact Nat.le_refl _))⟩
  go_loopw [8] (fun i wr => ∃ k : Nat, k ≤ n ∧ (0 < n → 0 < k) ∧ i = .int .i64 k ∧ wr.heap[w1.heap.size]? = some (.cells (repCells n k).toArray 3 (0, 0)) ∧ Below w1.heap.size w1 wr) (fun i _ => n - (intOf i).toNat)
  case atStart => exact ⟨Nat.min 1 n, Nat.min_le_right _ _, fun h => by simp [Nat.min_def]; split <;> omega, rfl, H3.out⟩
  case round =>
    obtain ⟨k, hk, hk0, rfl, hh, hbl⟩ := hrel
    by_cases hlt : k < n
    · obtain ⟨wz, hrun, hz1, hz2⟩ := H4.out wr.drew k hh hbl.drew (hk0 (by omega)) hlt
      have HZ : Hid (wz.heap[w1.heap.size]? = some (.cells (repCells n (k + Nat.min k (n - k))).toArray 3 (0, 0)) ∧ Below w1.heap.size w1 wz) := ⟨hz1, hz2⟩
      have hmin : 0 < Nat.min k (n - k) ∧ Nat.min k (n - k) ≤ n - k := by
        have h9 := hk0 (by omega)
        rw [show Nat.min k (n - k) = if k ≤ n - k then k else n - k from Nat.min_def]
        split <;> omega
      clear hz1 hz2 hh hbl hk0
      have hne : ¬ (n = k) := by omega
      have hkn : (k : Int) ≤ (n : Int) := by omega
      go_wp2_with fail
      have hS0 : (fun _ : World => True) wr.drew := trivial
      refine wp_region_noPanic ?_
      refine wp_region_held_drew (S := fun _ => True) (by kernel_rfl) hS0 (fun hHeld => ?_)
      refine take_at (i := 0) (n := 38) (v := ?_) rfl rfl (by kernel_rfl) (by kernel_rfl) (by kernel_rfl) (fun _ _ _ h => h) (Or.inl ⟨by rfl, ?_⟩) (by assumption) ?_
      rotate_left 1
      · intro wz hSw
        first | (go_simp; done) | (go_simp; with_reducible rfl)
      simp only [List.set_cons_zero, List.set_cons_succ]
      refine take_at (i := 1) (n := 39) (v := ?_) rfl rfl (by kernel_rfl) (by kernel_rfl) (by kernel_rfl) (fun _ _ _ h => h) (Or.inl ⟨by rfl, ?_⟩) (by assumption) ?_
      rotate_left 1
      · intro wz hSw
        first | (go_simp; done) | (go_simp; with_reducible rfl)
      simp only [List.set_cons_zero, List.set_cons_succ]
      refine take_at (i := 2) (n := 40) (v := ?_) rfl rfl (by kernel_rfl) (by kernel_rfl) (by kernel_rfl) (fun _ _ _ h => h) (Or.inl ⟨by rfl, ?_⟩) (by assumption) ?_
      rotate_left 1
      · intro wz hSw
        first | (go_simp; done) | (go_simp; with_reducible rfl)
      simp only [List.set_cons_zero, List.set_cons_succ]
      refine take_at (i := 3) (n := 41) (v := ?_) rfl rfl (by kernel_rfl) (by kernel_rfl) (by kernel_rfl) (fun _ _ _ h => h) (Or.inl ⟨by rfl, ?_⟩) (by assumption) ?_
      rotate_left 1
      · intro wz hSw
        first | (go_simp; done) | (go_simp; with_reducible rfl)
      simp only [List.set_cons_zero, List.set_cons_succ]
      refine take_at (i := 4) (n := 42) (v := ?_) rfl rfl (by kernel_rfl) (by kernel_rfl) (by kernel_rfl) (fun _ _ _ h => h) (Or.inl ⟨by rfl, ?_⟩) (by assumption) ?_
      rotate_left 1
      · intro wz hSw
        first | (go_simp; done) | (go_simp; with_reducible rfl)
      simp only [List.set_cons_zero, List.set_cons_succ]
      refine take_at (i := 5) (n := 43) (v := ?_) rfl rfl (by kernel_rfl) (by kernel_rfl) (by kernel_rfl) (fun _ _ _ h => h) (Or.inl ⟨by rfl, ?_⟩) (by assumption) ?_
      rotate_left 1
      · intro wz hSw
        first | (go_simp; done) | (go_simp; with_reducible rfl)
      simp only [List.set_cons_zero, List.set_cons_succ]
      refine take_at (i := 6) (n := 44) (v := ?_) rfl rfl (by kernel_rfl) (by kernel_rfl) (by kernel_rfl) (fun _ _ _ h => h) (Or.inl ⟨by rfl, ?_⟩) (by assumption) ?_
      rotate_left 1
      · intro wz hSw
        first | (go_simp; done) | (go_simp; with_reducible rfl)
      simp only [List.set_cons_zero, List.set_cons_succ]
      refine wpAnyH_ready (rs := [7]) (by kernel_rfl) (by simp) ?_
      refine AllReadyH.cons rfl (fun K hK => ?_) AllReadyH.nil
      refine step_copy_runI rfl (.tmp 41) (.tmp 44) 24 24 rfl _ _ rfl rfl hrun ?_
      refine hK.out _ _ trivial (fun hHeld => ?_)
      clear hK K
      simp only [Act.put, List.setIfInBounds_toArray]
      refine take_at (i := 8) (n := 46) (v := ?_) rfl rfl (by kernel_rfl) (by kernel_rfl) (by kernel_rfl) (fun _ _ _ h => h) (Or.inl ⟨by rfl, ?_⟩) (by assumption) ?_
      rotate_left 1
      · intro wz hSw
        first | (go_simp; done) | (go_simp; with_reducible rfl)
      simp only [List.set_cons_zero, List.set_cons_succ]
      refine take_at (i := 9) (n := 8) (v := ?_) rfl rfl (by kernel_rfl) (by kernel_rfl) (by kernel_rfl) (fun _ _ _ h => h) (Or.inl ⟨by rfl, ?_⟩) (by assumption) ?_
      rotate_left 1
      · intro wz hSw
        first | (go_simp; done) | (go_simp; with_reducible rfl)
      simp only [List.set_cons_zero, List.set_cons_succ]
      refine wpAnyH_done (by kernel_rfl) ?_ _
      refine NoPanic.normal ?_
      go_wp2_with fail
      have hwrap : IntKind.i64.wrap ((k : Int) + ((Nat.min k (n - k) : Nat) : Int)) = ((k + Nat.min k (n - k) : Nat) : Int) := by rw [IntKind.wrap_i64]; omega
      rw [hwrap]
      exact ⟨⟨k + Nat.min k (n - k), by omega, fun _ => by omega, rfl, HZ.out⟩, by simp only [intOf, Int.toNat_natCast]; omega⟩
    · have hke : k = n := by omega
      subst hke
      clear hk0
      have HE : Hid (wr.heap[w1.heap.size]? = some (.cells (repCells k k).toArray 3 (0, 0)) ∧ Below w1.heap.size w1 wr) := ⟨hh, hbl⟩
      clear hh hbl
      go_wp2_with fail
      go_ret
      refine ⟨w1.heap.size, rfl, Nat.le_refl _, ?_, HE.out.2⟩
      rw [HE.out.1]
      simp [repCells]
end Go.Proofs.Ytccoobcggbbciam
