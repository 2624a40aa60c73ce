import Derived.Test.YtccoobcggbbciamSTB
namespace Go.Proofs.Ytccoobcggbbciam.Stab
open Go.ChangeShapes Go.WideShapes Go.ChangeAt Go.RowKit
open Go.Sort (swp swp_get swp_size SWO SWO.asymmA PermIn permIn_refl permIn_trans permIn_mono permIn_all swp_permIn)

/-- What holds between two blocks. -/
structure LA (l : List Co) (g : Nat) (W0 W : World) (bs n a : Nat) (d0 d d1 : Array Nat) : Prop where
  sd : SD l g W0 W d1
  mod : a % bs = 0
  le : a ≤ n
  srt : SBk (ltC l) bs a d1
  same : ∀ p, a ≤ p → d1[p]! = d[p]!
  bk : Bk bs n d1
  prm : PermIn 0 n d0 d1
theorem LA.size {l : List Co} {g : Nat} {W0 W : World} {bs n a : Nat} {d0 d d1 : Array Nat} (h : LA l g W0 W bs n a d0 d d1) : d1.size = d0.size := h.prm.1
theorem LA.step {l : List Co} {g : Nat} {W0 W W' : World} {bs n a b : Nat} {d0 d d1 d2 : Array Nat} (h : LA l g W0 W bs n a d0 d d1) (h0 : 0 < bs) (hb : b = a + bs) (hbn : b ≤ n) (hn : n ≤ d0.size) (hd : SD l g W0 W' d2) (hA : Asc (ltC l) id a b d2) (hP : PermIn a b d1 d2) : LA l g W0 W' bs n b d0 d d2 := by
  subst hb
  exact ⟨hd, blk_next h.mod, hbn, grow_sorted h0 h.mod h.srt hP hA, fun p hp => (hP.2.1 p (.inr hp)).trans (h.same p (by omega)), bk_perm h.bk hP hbn (by rw [h.size]; exact hn) (fun p h1 h2 => blk_eq h0 h.mod h1 h2), permIn_trans _ _ _ _ _ h.prm (permIn_mono _ _ _ _ _ _ (Nat.zero_le _) hbn (by rw [h.size]; exact hn) hP)⟩
/-- What holds between two rounds. -/
structure LB (l : List Co) (g : Nat) (W0 W : World) (bs n : Nat) (d0 d1 : Array Nat) : Prop where
  sd : SD l g W0 W d1
  srt : SBk (ltC l) bs n d1
  bk : Bk bs n d1
  prm : PermIn 0 n d0 d1
theorem LA.last {l : List Co} {g : Nat} {W0 W W' : World} {bs n a : Nat} {d0 d d1 d2 : Array Nat} (h : LA l g W0 W bs n a d0 d d1) (h0 : 0 < bs) (hbn : n < a + bs) (hn : n ≤ d0.size) (hd : SD l g W0 W' d2) (hA : Asc (ltC l) id a n d2) (hP : PermIn a n d1 d2) : LB l g W0 W' bs n d0 d2 :=
  ⟨hd, grow_sorted h0 h.mod h.srt hP hA, bk_perm h.bk hP (Nat.le_refl _) (by rw [h.size]; exact hn) (fun p h1 h2 => blk_eq h0 h.mod h1 (by omega)), permIn_trans _ _ _ _ _ h.prm (permIn_mono _ _ _ _ _ _ (Nat.zero_le _) (Nat.le_refl _) (by rw [h.size]; exact hn) hP)⟩
theorem LB.start {l : List Co} {g : Nat} {W0 W : World} {bs n : Nat} {d0 d1 : Array Nat} (h : LB l g W0 W bs n d0 d1) : LA l g W0 W (2 * bs) n 0 d0 d1 d1 :=
  ⟨h.sd, Nat.zero_mod _, Nat.zero_le _, fun p q _ h2 => by omega, fun p _ => rfl, bk_double h.bk, h.prm⟩
/-- What a merge of two blocks finds. -/
theorem LA.two {l : List Co} {g : Nat} {W0 W1 W : World} {bs n a m b : Nat} {d0 d1 d2 : Array Nat} (h : LA l g W0 W (2 * bs) n a d0 d1 d2) (hB : LB l g W0 W1 bs n d0 d1) (h0 : 0 < bs) (hm : m = a + bs) (hmb : m ≤ b) (hbm : b ≤ m + bs) (hb : b ≤ n) : Asc (ltC l) id a m d2 ∧ Asc (ltC l) id m b d2 ∧ Cross id a m b d2 := by
  subst hm
  have hs := h.same
  have ha := blk_half h.mod
  refine ⟨fun p q h1 h2 h3 => ?_, fun p q h1 h2 h3 => ?_, fun p q h1 h2 h3 h4 => ?_⟩
  · rw [hs p h1, hs q (by omega)]
    exact sbk_asc h0 hB.srt ha (Nat.le_refl _) (by omega) p q h1 h2 h3
  · rw [hs p (by omega), hs q (by omega)]
    exact sbk_asc h0 hB.srt (blk_next ha) hbm hb p q h1 h2 h3
  · rw [hs p h1, hs q (by omega)]
    exact bk_cross (a := a) h0 hB.bk (blk_next ha) hb p q h1 h2 h3 h4

set_option maxRecDepth 20000 in
set_option maxHeartbeats 8000000 in
/-- stable: blocks by insertion, then merged. -/
theorem stable_full {l : List Co} {v : Value} {bS g : Nat} {W0 W : World} {d : Array Nat} (hC : SC l v bS g W0) (h : SD l g W0 W d) (n : Nat) (hn : n = d.size) (hs : n ≤ 4000000) (hid : ∀ p, p < n → d[p]! = p) :
    Calls Try.prog 48 #[.slice (some ⟨g, 0, none⟩) n n, .int .i64 (n : Int), (.func (Fn.func 34) #[] #[.pointer (some ⟨bS, 0, none⟩)])] W fun r W' => r = .returned (.tuple #[]) ∧ ∃ d', SD l g W0 W' d' ∧ Asc (ltC l) id 0 n d' ∧ PermIn 0 n d d' := by
  have HN : Hid (n = d.size ∧ n ≤ 4000000 ∧ ∀ p, p < n → d[p]! = p) := ⟨hn, hs, hid⟩
  have H0 : Hid (LA l g W0 W 20 n 0 d d d) := ⟨h, rfl, Nat.zero_le _, fun p q _ h2 => by omega, fun p _ => rfl, fun p hp => by rw [hid p hp], permIn_refl _ _ _⟩
  clear h hn hid
  go_enter Try.func48, Try.ntmps48
  go_wp2_with fail
  go_loopw [7, 8] (fun av bv wr => ∃ (a b : Nat) (d1 : Array Nat), b = a + 20 ∧ av = .int .i64 (a : Int) ∧ bv = .int .i64 (b : Int) ∧ Hid (LA l g W0 wr 20 n a d d d1)) (fun av _ _ => n + 20 - (intOf av).toNat)
  case atStart => exact ⟨0, 20, d, rfl, rfl, rfl, H0⟩
  case round =>
    obtain ⟨a, b, d1, hab, rfl, rfl, HL⟩ := hrel
    clear H0
    have hln := HL.out.le
    have hz : d1.size = n := by rw [HL.out.size]; exact HN.out.1.symm
    by_cases hlt : b ≤ n
    · have HI := ins_any hC HL.out.sd a b (by omega) (by omega) (by omega) (fun p q h1 h2 h3 => by
        rw [HL.out.same p h1, HL.out.same q (by omega), HN.out.2.2 p (by omega), HN.out.2.2 q (by omega)]
        exact h2)
      rw [hz] at HI
      obtain ⟨c, hc⟩ : ∃ c, c = b + 20 := ⟨_, rfl⟩
      have e0 : (b : Int) + 20 = (c : Int) := by omega
      have e1 : IntKind.i64.wrap (c : Int) = (c : Int) := wrap_nat (by omega)
      have e2 : (b : Int) ≤ (n : Int) := by omega
      have HP : Hid (b = a + 20 ∧ c = b + 20 ∧ b ≤ n) := ⟨hab, hc, hlt⟩
      clear hab hc hlt hln hz
      go_wp2_with (go_at_call 72; refine HI.mono ?_; rintro r w5 ⟨rfl, d2, h5, h6, h7⟩; have H5 : Hid (LA l g W0 w5 20 n b d d d2) := HL.out.step (by omega) HP.out.1 HP.out.2.2 (by have := HN.out; omega) h5 h6 h7; clear h5 h6 h7 HI)
      exact ⟨⟨b, c, d2, HP.out.2.1, by simp, by simp, H5⟩, by have := HP.out; simp [intOf]; omega⟩
    · have HI := ins_any hC HL.out.sd a n (by omega) (by omega) (by omega) (fun p q h1 h2 h3 => by
        rw [HL.out.same p h1, HL.out.same q (by omega), HN.out.2.2 p (by omega), HN.out.2.2 q (by omega)]
        exact h2)
      rw [hz] at HI
      have e2 : ¬ (b : Int) ≤ (n : Int) := by omega
      have HP : Hid (n < a + 20) := by have : n < a + 20 := by omega
                                       exact this
      clear hab hlt hln hz
      go_wp2_with (go_at_call 72; refine HI.mono ?_; rintro r w5 ⟨rfl, d2, h5, h6, h7⟩; have H5 : Hid (LB l g W0 w5 20 n d d2) := HL.out.last (by omega) HP.out (by have := HN.out; omega) h5 h6 h7; clear h5 h6 h7 HI)
      go_loopw [6] (fun sv wr => ∃ (bs : Nat) (d3 : Array Nat), 20 ≤ bs ∧ bs ≤ 8000000 ∧ sv = .int .i64 (bs : Int) ∧ Hid (LB l g W0 wr bs n d d3)) (fun sv _ => n - (intOf sv).toNat)
      case atStart => exact ⟨20, d2, Nat.le_refl _, by omega, rfl, H5⟩
      case round =>
        obtain ⟨bs, d3, h20, hbs, rfl, HM⟩ := hrel
        generalize wr = wR at *
        clear H5 HL
        by_cases hlt : bs < n
        rotate_left 1
        · have e2 : ¬ (bs : Int) < (n : Int) := by omega
          have HQ : Hid (Asc (ltC l) id 0 n d3) := sbk_asc (by omega) HM.out.srt (Nat.zero_mod _) (by omega) (Nat.le_refl _)
          clear hlt
          go_wp2_with fail
          go_end0
          exact ⟨rfl, d3, HM.out.sd, HQ.out, HM.out.prm⟩
        · obtain ⟨b2, hb2⟩ : ∃ b2, b2 = 2 * bs := ⟨_, rfl⟩
          have e0 : 2 * (bs : Int) = (b2 : Int) := by omega
          have e1 : IntKind.i64.wrap (b2 : Int) = (b2 : Int) := wrap_nat (by omega)
          have e2 : (bs : Int) < (n : Int) := by omega
          have e3 : (bs : Int) * 2 = (b2 : Int) := by omega
          have HS : Hid (b2 = 2 * bs ∧ 20 ≤ bs ∧ bs < n) := ⟨hb2, h20, hlt⟩
          have HA0 : Hid (LA l g W0 wR b2 n 0 d d3 d3) := by rw [hb2]; exact HM.out.start
          clear hb2 h20 hbs hlt
          go_wp2_with fail
          go_loopw [7, 8] (fun av bv wr => ∃ (a b : Nat) (d4 : Array Nat), b = a + b2 ∧ av = .int .i64 (a : Int) ∧ bv = .int .i64 (b : Int) ∧ Hid (LA l g W0 wr b2 n a d d3 d4)) (fun av _ _ => n + b2 - (intOf av).toNat)
          case atStart => exact ⟨0, b2, d3, by omega, rfl, rfl, HA0⟩
          case round =>
            obtain ⟨a, b, d4, hab, rfl, rfl, HL⟩ := hrel
            generalize wr = wS at *
            clear HA0
            have hln := HL.out.le
            have hnn := HN.out
            have hss := HS.out
            have hz : d4.size = n := by rw [HL.out.size]; exact hnn.1.symm
            obtain ⟨m, hm⟩ : ∃ m, m = a + bs := ⟨_, rfl⟩
            have y0 : (a : Int) + (bs : Int) = (m : Int) := by omega
            have y1 : IntKind.i64.wrap (m : Int) = (m : Int) := wrap_nat (by omega)
            by_cases hlt : b ≤ n
            · have HT := HL.out
              rw [hss.1] at HT
              obtain ⟨t1, t2, t3⟩ := HT.two HM.out (m := m) (b := b) (by omega) hm (by omega) (by omega) hlt
              have HI := sym_any hC (b - a) wS d4 a m b (Nat.le_refl _) HT.sd (by omega) (by omega) (by omega) (by omega) t1 t2 t3
              rw [hz] at HI
              obtain ⟨c, hc⟩ : ∃ c, c = b + b2 := ⟨_, rfl⟩
              have y2 : (b : Int) + (b2 : Int) = (c : Int) := by omega
              have y3 : IntKind.i64.wrap (c : Int) = (c : Int) := wrap_nat (by omega)
              have y4 : (b : Int) ≤ (n : Int) := by omega
              have HP : Hid (b = a + b2 ∧ c = b + b2 ∧ b ≤ n) := ⟨hab, hc, hlt⟩
              clear hab hc hlt hln hz hnn hss hm HT t1 t2 t3
              go_wp2_with (go_at_call 73; refine HI.mono ?_; rintro r w5 ⟨rfl, d5, h5, h6, h7⟩; have H5 : Hid (LA l g W0 w5 b2 n b d d3 d5) := HL.out.step (by have := HS.out; omega) HP.out.1 HP.out.2.2 (by have := HN.out; omega) h5 h6 h7; clear h5 h6 h7 HI)
              exact ⟨⟨b, c, d5, HP.out.2.1, by simp, by simp, H5⟩, by have := HP.out; have := HS.out; simp [intOf]; omega⟩
            · have y4 : ¬ (b : Int) ≤ (n : Int) := by omega
              have HP : Hid (n < a + b2 ∧ 20 ≤ b2 ∧ b2 ≤ 8000000 ∧ n - b2 < n - bs) := ⟨by omega, by omega, by omega, by omega⟩
              by_cases hmn : m < n
              · have HT := HL.out
                rw [hss.1] at HT
                obtain ⟨t1, t2, t3⟩ := HT.two HM.out (m := m) (b := n) (by omega) hm (by omega) (by omega) (Nat.le_refl _)
                have HI := sym_any hC (n - a) wS d4 a m n (Nat.le_refl _) HT.sd (by omega) (by omega) (by omega) (by omega) t1 t2 t3
                rw [hz] at HI
                have y5 : (m : Int) < (n : Int) := by omega
                clear hab hlt hln hz hnn hss hm HT t1 t2 t3 hmn
                go_wp2_with (go_at_call 73; refine HI.mono ?_; rintro r w5 ⟨rfl, d5, h5, h6, h7⟩; have H5 : Hid (LB l g W0 w5 b2 n d d5) := HL.out.last (by have := HS.out; omega) HP.out.1 (by have := HN.out; omega) h5 h6 h7; clear h5 h6 h7 HI)
                exact ⟨⟨b2, d5, HP.out.2.1, HP.out.2.2.1, by simp, H5⟩, by have := HP.out; simp [intOf]; omega⟩
              · have y5 : ¬ (m : Int) < (n : Int) := by omega
                have H5 : Hid (LB l g W0 wS b2 n d d4) := by
                  have HT := HL.out
                  rw [hss.1] at HT
                  refine HL.out.last (by omega) HP.out.1 (by omega) HL.out.sd (fun p q h1 h2 h3 => ?_) (permIn_refl _ _ _)
                  rw [HL.out.same p h1, HL.out.same q (by omega)]
                  exact sbk_asc (by omega) HM.out.srt (blk_half HT.mod) (by omega) (Nat.le_refl _) p q h1 h2 h3
                clear hab hlt hln hz hnn hss hm hmn
                go_wp2_with fail
                exact ⟨⟨b2, d4, HP.out.2.1, HP.out.2.2.1, by simp, H5⟩, by have := HP.out; simp [intOf]; omega⟩
end Go.Proofs.Ytccoobcggbbciam.Stab
namespace Go.Proofs.Ytccoobcggbbciam
open Go.ChangeShapes Go.WideShapes Go.ChangeAt Go.RowKit
open Stab
open Go.Sort (PermIn)

/-- In which order chains come: by their times, then as they stand. -/
def leC (l : List Co) (x y : Nat) : Bool := decide ((Ck l x).a < (Ck l y).a ∨ ((Ck l x).a = (Ck l y).a ∧ x ≤ y))
def ordF (l : List Co) : List Nat := (List.range l.length).mergeSort (leC l)
theorem leC_trans (l : List Co) (a b c : Nat) (h1 : leC l a b = true) (h2 : leC l b c = true) : leC l a c = true := by
  unfold leC at *
  simp only [decide_eq_true_eq] at *
  omega
theorem leC_total (l : List Co) (a b : Nat) : (leC l a b || leC l b a) = true := by
  unfold leC
  simp only [Bool.or_eq_true, decide_eq_true_eq]
  omega
theorem ordF_perm (l : List Co) : (ordF l).Perm (List.range l.length) := List.mergeSort_perm _ _
theorem ordF_sorted (l : List Co) : (ordF l).Pairwise (fun a b => leC l a b = true) := List.pairwise_mergeSort (leC_trans l) (leC_total l) _
theorem ordF_len (l : List Co) : (ordF l).length = l.length := by rw [(ordF_perm l).length_eq]; simp
theorem ordF_mem (l : List Co) : ∀ k ∈ ordF l, k < l.length := fun k hk => by
  have := (ordF_perm l).mem_iff.1 hk
  simpa using this
/-- What the sort leaves is this. -/
theorem ordF_one {l : List Co} {n : Nat} {d d' : Array Nat} (hn : n = d.size) (hl : n = l.length) (hid : ∀ p, p < n → d[p]! = p) (hA : Asc (ltC l) id 0 n d') (hP : PermIn 0 n d d') : d'.toList = ordF l := by
  have hz : d'.size = n := hP.1.trans hn.symm
  have e1 : d.toList = List.range l.length := by
    apply List.ext_getElem
    · simp; omega
    · intro k h1 h2
      have hk : k < d.size := by simpa using h1
      rw [Array.getElem_toList, List.getElem_range]
      have := hid k (by omega)
      rw [getElem!_pos d k hk] at this
      exact this
  have hp : d'.toList.Perm d.toList := by
    have := hP.2.2
    rwa [show d'.extract 0 n = d' by rw [← hz]; exact Array.extract_size, show d.extract 0 n = d by rw [hn]; exact Array.extract_size] at this
  refine List.Perm.eq_of_pairwise (le := fun a b => leC l a b = true) (fun a b _ _ h1 h2 => ?_) ?_ (ordF_sorted l) ((hp.trans (e1 ▸ List.Perm.refl _)).trans (ordF_perm l).symm)
  · unfold leC at h1 h2
    simp only [decide_eq_true_eq] at h1 h2
    omega
  · rw [List.pairwise_iff_getElem]
    intro i j hi hj hij
    have hi' : i < d'.size := by simpa using hi
    have hj' : j < d'.size := by simpa using hj
    have h9 := hA i j (Nat.zero_le _) hij (by omega)
    rw [getElem!_pos d' i hi', getElem!_pos d' j hj'] at h9
    rw [Array.getElem_toList, Array.getElem_toList]
    unfold leC
    unfold Bef ltC at h9
    simp only [decide_eq_true_eq, decide_eq_false_iff_not, id] at h9 ⊢
    omega

set_option maxRecDepth 20000 in
/-- slices.SortStableFunc, whole. -/
theorem sortC_any {l : List Co} {v : Value} {bS g : Nat} {W : World} {d : Array Nat} (hC : SC l v bS g W) (h : SD l g W W d) (n : Nat) (hn : n = d.size) (hl : n = l.length) (hs : n ≤ 4000000) (hid : ∀ p, p < n → d[p]! = p) :
    Calls Try.prog 33 #[.slice (some ⟨g, 0, none⟩) n n, .func (Fn.func 34) #[] #[.pointer (some ⟨bS, 0, none⟩)]] W fun r W' => r = .returned (.tuple #[]) ∧ NumB W' g ((ordF l).map fun k : Nat => (k : Int)) ∧ Below g W W' := by
  have HI := stable_full hC h n hn hs hid
  have HO : Hid (∀ W' d', SD l g W W' d' ∧ Asc (ltC l) id 0 n d' ∧ PermIn 0 n d d' → NumB W' g ((ordF l).map fun k : Nat => (k : Int)) ∧ Below g W W') := fun W' d' ⟨h1, h2, h3⟩ => by
    refine ⟨?_, h1.bel⟩
    have h9 := h1.dat
    have h8 := ordF_one hn hl hid h2 h3
    unfold NumB
    rw [h9, ← h8, List.map_map]
    congr 2
    apply Array.toList_inj.1
    simp [encN]
  clear hC h hn hl hs hid
  go_enter Try.func33, Try.ntmps33
  go_wp2_with (go_at_call 48; refine HI.mono ?_; rintro r w5 ⟨rfl, d5, h5⟩; have H5 : Hid (NumB w5 g ((ordF l).map fun k : Nat => (k : Int)) ∧ Below g W w5) := HO.out w5 d5 h5; clear h5 HI)
  go_end0
  exact ⟨rfl, H5.out⟩

set_option maxRecDepth 20000 in
set_option maxHeartbeats 4000000 in
/-- inTime, whole. -/
theorem inTime_full (w : World) (l : List Co) (cv : Value) (hv : RowSl Co.vals w l cv) (hs : l.length ≤ 1000000) : Calls Try.prog 19 #[cv] w (InTimePost w (ordF l)) := by
  obtain ⟨ad, c, rfl⟩ := hv.len
  have HV : Hid (RowSl Co.vals w l (.slice ad l.length c)) := hv
  obtain ⟨w1, hmk, hb1, hs1, hN1⟩ : ∃ w1, (Instr.makeSlice 24 (.int .i64 (l.length : Int)) (.int .i64 (l.length : Int))).run Try.prog (w.alloc (.cells #[.slice ad l.length c] 23)) = .ok (.slice (some ⟨w.heap.size + 1, 0, none⟩) l.length l.length) w1 ∧ Below w.heap.size w w1 ∧ w1.heap[w.heap.size]? = some (.cells #[.slice ad l.length c] 23 (0, 0)) ∧ NumB w1 (w.heap.size + 1) (fillR l.length 0) := by
    refine ⟨_, make_row _ l.length (w.heap.size + 1) hs (by simp), below_seq (below_new _ _) (below_new _ _), ?_, ?_⟩
    · exact (Below.heap_alloc _ _ _ (by simp)).trans (heap_alloc_new _ _)
    · unfold NumB fillR
      have := heap_alloc_new (w.alloc (.cells #[.slice ad l.length c] 23)) (.cells (List.replicate l.length (Value.int .i64 0)).toArray 3)
      rw [show (w.alloc (.cells #[.slice ad l.length c] 23)).heap.size = w.heap.size + 1 from by simp] at this
      rw [this]
      simp
  have H1 : Hid (Below w.heap.size w w1 ∧ w1.heap[w.heap.size]? = some (.cells #[.slice ad l.length c] 23 (0, 0)) ∧ NumB w1 (w.heap.size + 1) (fillR l.length 0)) := ⟨hb1, hs1, hN1⟩
  have HSZ : Hid (l.length ≤ 1000000) := hs
  clear hv hb1 hs1 hN1
  go_enter Try.func19, Try.ntmps19
  go_wp2_with fail
  clear hmk
  go_loopw [10] (fun i wr => ∃ j : Nat, j ≤ l.length ∧ i = .int .i64 j ∧ Below w.heap.size w wr ∧ wr.heap[w.heap.size]? = some (.cells #[.slice ad l.length c] 23 (0, 0)) ∧ NumB wr (w.heap.size + 1) (fillR l.length j)) (fun i _ => l.length - (intOf i).toNat)
  case atStart => exact ⟨0, Nat.zero_le _, rfl, H1.out.1, H1.out.2.1, H1.out.2.2⟩
  case round =>
    obtain ⟨j, hj, rfl, hg, hsb, hN⟩ := hrel
    have HG : Hid (Below w.heap.size w wr ∧ wr.heap[w.heap.size]? = some (.cells #[.slice ad l.length c] 23 (0, 0)) ∧ NumB wr (w.heap.size + 1) (fillR l.length j)) := ⟨hg, hsb, hN⟩
    by_cases hjl : j < l.length
    · obtain ⟨z, hz⟩ : ∃ z, (fillR l.length j)[j]? = some z := ⟨_, List.getElem?_eq_getElem (by rw [fillR_len hj]; exact hjl)⟩
      obtain ⟨c0, c1⟩ := hN.cell hz
      have lg := hN.lt
      have hji : (j : Int) < (l.length : Int) := by omega
      have HF : Hid ((fillR l.length j).set j (j : Int) = fillR l.length (j + 1)) := fillR_set hjl
      clear hz hg hN hsb
      go_wp2_with fail
      refine ⟨⟨j + 1, by omega, by simp, HG.out.1.setCell (Nat.le_succ _) _, ?_, ?_⟩, by simp [intOf]; omega⟩
      · exact (Below.heap_setCell _ _ _ _ (by simp)).trans HG.out.2.1
      · have e := HG.out.2.2.put j (j : Int)
        rw [HF.out] at e
        exact e
    · have hje : j = l.length := by omega
      subst hje
      have hdat : NumB wr (w.heap.size + 1) ((List.range l.length).map fun k : Nat => (k : Int)) := by simpa [fillR] using hN
      have hC : SC l (.slice ad l.length c) w.heap.size (w.heap.size + 1) wr := by
        refine ⟨HV.out.below hg, (cells_of (l := [_]) hsb).1 0 _ rfl, Nat.lt_succ_self _, fun hne ad' c' e b o ead => ?_⟩
        obtain ⟨ad2, c2, e2, h4, -, h5⟩ := HV.out
        injection e with e3
        injection e2 with e4
        subst e3 e4 ead
        rcases h5 with h5 | ⟨b', o', e6, h5⟩
        · exact absurd h5 hne
        · injection e6 with e6
          injection e6 with e6
          subst e6
          obtain ⟨x, r, rfl⟩ := List.exists_cons_of_ne_nil hne
          have h8 : b < w.heap.size := World.block_lt_of_cell? _ _ (h5 0 (.int .i64 x.k) rfl)
          omega
      have hD : SD l (w.heap.size + 1) wr wr (Array.range l.length) := by
        refine ⟨Below.refl _ _, ?_, fun k hk => ?_⟩
        · unfold NumB at hdat
          rw [hdat, List.map_map]
          congr 2
          apply Array.toList_inj.1
          simp [encN]
        · have hk' : k < l.length := by simpa using hk
          rw [getElem!_pos _ k hk, Array.getElem_range]
          exact hk'
      have HS := sortC_any hC hD l.length (by simp) rfl (by have := HSZ.out; omega) (fun p hp => by rw [getElem!_pos _ p (by simpa using hp), Array.getElem_range])
      clear hg hN hsb hdat hC hD
      go_wp2_with (go_at_call 33; refine HS.mono ?_; rintro r w5 ⟨rfl, h5⟩; have H5 : Hid (NumB w5 (w.heap.size + 1) ((ordF l).map fun k : Nat => (k : Int)) ∧ Below (w.heap.size + 1) wr w5) := h5; clear h5 HS)
      go_ret
      refine ⟨w.heap.size + 1, ?_, by omega, ?_, HG.out.1.trans (H5.out.2.mono (Nat.le_succ _))⟩
      · rw [ordF_len]
        rfl
      · have := H5.out.1
        unfold NumB at this
        rw [this, List.map_map]
        rfl
end Go.Proofs.Ytccoobcggbbciam
