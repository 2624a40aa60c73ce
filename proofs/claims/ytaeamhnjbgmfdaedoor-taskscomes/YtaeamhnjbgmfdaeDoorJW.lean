import Derived.Test.YtaeamhnjbgmfdaeDoorJK
import Derived.Test.YtaeamhnjbgmfdaeDoorJS
import Derived.Test.YtaeamhnjbgmfdaeDoorTT
namespace Go.Proofs.YtaeamhnjbgmfdaeDoor
open Go.ChangeShapes Go.WideShapes Go.ChangeAt Go.RowKit

def noC : Co := ⟨-9, 0⟩
theorem jobs_three : jobsF threeL [⟨1, 5⟩] [0] [2] = ((0, 0), [⟨1, 5, 2, 11, 2⟩]) := by kernel_rfl

theorem CoAt.below {w w' : World} {b o : Nat} {x : Co} (h : CoAt w b o x) (hb : Below w.heap.size w w') : CoAt w' b o x := ⟨below_cell hb h.1, below_cell hb h.2⟩

theorem row_new {α : Type} {f : α → List Value} (w : World) (l : List α) (n : Nat) (cs : Array Value) (t : TypeId) (hn : n = l.length) (hc : cs = (l.flatMap f).toArray) : RowSl f (w.alloc (.cells cs t)) l (.slice (some ⟨w.heap.size, 0, none⟩) n n) := by
  subst hn hc
  refine ⟨_, _, rfl, (fun e => by cases e), Nat.le_refl _, .inr ⟨w.heap.size, 0, rfl, fun q u hq => ?_⟩⟩
  rw [Nat.zero_add]
  exact (cells_of (heap_alloc_new _ _)).1 q u hq

theorem jobsF_len (l : List Ta) (cs : List Co) (la tk : List Int) : (jobsF l cs la tk).2.length ≤ cs.length := by
  unfold jobsF
  split
  · simp
  · split
    · simp
    · have := jobsFrom_len (l := l) cs [] la tk 0
      simpa using this

/-- What the law holds behind the document's answer. -/
structure LW (w W : World) (G : Nat) (z1 z2 : Int) (jl : List Jb) (u : Value) : Prop where
  bel : Below w.heap.size w W
  row : RowSl Jb.vals W jl u
  flt : W.heap[G]? = some (.cells #[.int .i64 z1, .int .i64 z2] 26 (0, 0))

theorem LW.grow {w W W' : World} {G : Nat} {z1 z2 : Int} {jl : List Jb} {u : Value} (h : LW w W G z1 z2 jl u) (hb : Below W.heap.size W W') : LW w W' G z1 z2 jl u := ⟨below_seq h.bel hb, h.row.below hb, (hb.block G (Array.getElem?_eq_some_iff.1 h.flt).1).trans h.flt⟩

set_option maxRecDepth 20000 in
set_option maxHeartbeats 8000000 in
theorem jobs_walk (w : World) (l : List Ta) (cs : List Co) (la tk : List Int) (v v2 v3 v4 : Value) (hS : ∀ x ∈ l, x.nm.size ≤ 9223372036854775807) (hg : TaAt w 0 0 noT) (hgc : CoAt w 1 0 noC) (hv : RowSl Ta.vals w l v) (hv2 : RowSl Co.vals w cs v2) (hv3 : RowSl nuV w la v3) (hv4 : RowSl nuV w tk v4) :
    Calls Tryd.prog 4 #[v, v2, v3, v4] w fun r w' => r = .returned (.bool true) ∧ Below w.heap.size w w' := by
  obtain ⟨ad, c, rfl⟩ := hv.len
  obtain ⟨ad2, c2, rfl⟩ := hv2.len
  obtain ⟨ad3, c3, rfl⟩ := hv3.len
  obtain ⟨ad4, c4, rfl⟩ := hv4.len
  have HV : Hid ((∀ x ∈ l, x.nm.size ≤ 9223372036854775807) ∧ TaAt w 0 0 noT ∧ CoAt w 1 0 noC ∧ RowSl Ta.vals w l (.slice ad l.length c) ∧ RowSl Co.vals w cs (.slice ad2 cs.length c2) ∧ RowSl nuV w la (.slice ad3 la.length c3) ∧ RowSl nuV w tk (.slice ad4 tk.length c4)) := ⟨hS, hg, hgc, hv, hv2, hv3, hv4⟩
  clear hS hg hgc hv hv2 hv3 hv4
  have HL := LendT_any
  have HLC := LendC_any
  have HT := StillT_any
  have HTC := StillC_any
  unfold Ta.val at HL HT
  unfold Co.val at HLC HTC
  go_enter Tryd.func4, Tryd.ntmps4
  go_wp2_with (go_at_call 6; refine (three_any _).mono ?_; rintro r w1 ⟨v1, rfl, hr1, hb1⟩; have H1 : Hid (Below w.heap.size w w1 ∧ RowSl Ta.vals w1 threeL v1) := ⟨hb1, hr1⟩; clear hr1 hb1)
  have hb3 : Below w1.heap.size w1 (((w1.alloc (.cells #[.int .i64 1, .int .i64 5] 32)).alloc (.cells #[.int .i64 0] 3)).alloc (.cells #[.int .i64 2] 3)) := below_seq (below_seq (below_new _ _) (below_new _ _)) (below_new _ _)
  have q2 : RowSl Co.vals (((w1.alloc (.cells #[.int .i64 1, .int .i64 5] 32)).alloc (.cells #[.int .i64 0] 3)).alloc (.cells #[.int .i64 2] 3)) [⟨1, 5⟩] (.slice (some ⟨w1.heap.size, 0, none⟩) 1 1) := ((row_new (f := Co.vals) w1 [⟨1, 5⟩] 1 #[.int .i64 1, .int .i64 5] 32 rfl rfl).below (below_new _ _)).below (below_new _ _)
  have q3 : RowSl nuV (((w1.alloc (.cells #[.int .i64 1, .int .i64 5] 32)).alloc (.cells #[.int .i64 0] 3)).alloc (.cells #[.int .i64 2] 3)) [0] (.slice (some ⟨w1.heap.size + 1, 0, none⟩) 1 1) := by
    have := (row_new (f := nuV) (w1.alloc (.cells #[.int .i64 1, .int .i64 5] 32)) [0] 1 #[.int .i64 0] 3 rfl rfl).below (below_new _ (.cells #[.int .i64 2] 3))
    simpa using this
  have q4 : RowSl nuV (((w1.alloc (.cells #[.int .i64 1, .int .i64 5] 32)).alloc (.cells #[.int .i64 0] 3)).alloc (.cells #[.int .i64 2] 3)) [2] (.slice (some ⟨w1.heap.size + 1 + 1, 0, none⟩) 1 1) := by
    have := row_new (f := nuV) ((w1.alloc (.cells #[.int .i64 1, .int .i64 5] 32)).alloc (.cells #[.int .i64 0] 3)) [2] 1 #[.int .i64 2] 3 rfl rfl
    simpa using this
  have HJ0 := Jobs_any (((w1.alloc (.cells #[.int .i64 1, .int .i64 5] 32)).alloc (.cells #[.int .i64 0] 3)).alloc (.cells #[.int .i64 2] 3)) threeL [⟨1, 5⟩] [0] [2] v1 _ _ _ (H1.out.2.below hb3) q2 q3 q4
  rw [jobs_three] at HJ0
  have H2 : Hid (Below w.heap.size w (((w1.alloc (.cells #[.int .i64 1, .int .i64 5] 32)).alloc (.cells #[.int .i64 0] 3)).alloc (.cells #[.int .i64 2] 3))) := below_seq H1.out.1 hb3
  clear hb3 q2 q3 q4
  go_wp2_with (go_at_call 17; refine HJ0.mono ?_; rintro r w2 ⟨u2, rfl, ho2, hb2⟩; have H3 : Hid (Below w.heap.size w w2 ∧ RowSl Jb.vals w2 [⟨1, 5, 2, 11, 2⟩] u2) := ⟨below_seq H2.out hb2, rowOf_own ho2⟩; clear ho2 hb2 HJ0 H2 H1)
  have hr0 : RowSl Jb.vals ((w2.alloc (.cells #[.int .i64 0, .int .i64 0] 26)).alloc (.cells #[.int .i64 1, .int .i64 5, .int .i64 2, .int .i64 11, .int .i64 2] 49)) [⟨1, 5, 2, 11, 2⟩] (.slice (some ⟨w2.heap.size + 1, 0, none⟩) 1 1) := by
    have := row_new (f := Jb.vals) (w2.alloc (.cells #[.int .i64 0, .int .i64 0] 26)) [⟨1, 5, 2, 11, 2⟩] 1 #[.int .i64 1, .int .i64 5, .int .i64 2, .int .i64 11, .int .i64 2] 49 rfl rfl
    simpa using this
  have HS0 := SameJ_any ((w2.alloc (.cells #[.int .i64 0, .int .i64 0] 26)).alloc (.cells #[.int .i64 1, .int .i64 5, .int .i64 2, .int .i64 11, .int .i64 2] 49)) [⟨1, 5, 2, 11, 2⟩] u2 _ (by simp) ((H3.out.2.below (below_new _ _)).below (below_new _ _)) hr0
  go_wp2_with (go_at_call 18; refine HS0.mono ?_; rintro r w4 ⟨rfl, hb4⟩; have H4 : Hid (Below w.heap.size w w4) := below_seq (below_seq (below_seq H3.out.1 (below_new _ _)) (below_new _ _)) hb4; clear hb4 HS0 H3 hr0)
  by_cases hl1 : l.length ≤ 5000
  · have hl1' : decide ((l.length : Int) ≤ 5000) = true := by simp; omega
    by_cases hl2 : cs.length ≤ 5000
    · have hl2' : decide ((cs.length : Int) ≤ 5000) = true := by simp; omega
      by_cases hl3 : la.length ≤ 5000
      · have hl3' : decide ((la.length : Int) ≤ 5000) = true := by simp; omega
        by_cases hl4 : tk.length ≤ 5000
        · have hl4' : decide ((tk.length : Int) ≤ 5000) = true := by simp; omega
          go_wp2_with (go_at_call 8; refine (few_any _ _).mono ?_; rintro r w5 ⟨rfl, rfl⟩; first | rw [hl1'] | rw [hl2'] | rw [hl3'] | rw [hl4'])
          obtain ⟨z1, z2, jl, hJ⟩ : ∃ z1 z2 jl, jobsF l cs la tk = ((z1, z2), jl) := ⟨_, _, _, rfl⟩
          have hjl : jl.length ≤ cs.length := by have := jobsF_len l cs la tk; rw [hJ] at this; exact this
          have HO := JobsOf_any w5 l cs la tk _ _ _ _ HV.out.1 (HV.out.2.2.2.1.below H4.out) (HV.out.2.2.2.2.1.below H4.out) (HV.out.2.2.2.2.2.1.below H4.out) (HV.out.2.2.2.2.2.2.below H4.out)
          rw [hJ] at HO
          have HJ : Hid (jobsF l cs la tk = ((z1, z2), jl)) := hJ
          clear hJ
          go_wp2_with (go_at_call 19; refine HO.mono ?_; rintro r w6 ⟨u6, rfl, ho6, hb6⟩; have H6 : Hid (Below w.heap.size w w6 ∧ RowSl Jb.vals w6 jl u6) := ⟨below_seq H4.out hb6, rowOf_own ho6⟩; clear ho6 hb6 HO H4)
          have H7 : Hid (LW w (w6.alloc (.cells #[.int .i64 z1, .int .i64 z2] 26)).drew w6.heap.size z1 z2 jl u6) := ⟨(below_seq H6.out.1 (below_new w6 (.cells #[.int .i64 z1, .int .i64 z2] 26))).drew, (H6.out.2.below (below_new w6 (.cells #[.int .i64 z1, .int .i64 z2] 26))).below (Below.refl _ _).drew, heap_alloc_new _ _⟩
          have hS0 : TaAt (w6.alloc (.cells #[.int .i64 z1, .int .i64 z2] 26)).drew 0 0 noT ∧ CoAt (w6.alloc (.cells #[.int .i64 z1, .int .i64 z2] 26)).drew 1 0 noC := ⟨HV.out.2.1.below H7.out.bel, HV.out.2.2.1.below H7.out.bel⟩
          refine wp_region_noPanic ?_
          refine wp_region_held_drew (S := fun w' => TaAt w' 0 0 noT ∧ CoAt w' 1 0 noC) (by kernel_rfl) hS0 (fun hHeld => ?_)
          refine take_at (i := 0) (n := 68) (v := ?_) rfl rfl (by kernel_rfl) (by kernel_rfl) (by kernel_rfl) (fun _ _ _ h => h) (Or.inl ⟨by rfl, ?_⟩) (by assumption) ?_
          rotate_left 1
          · intro wz hSw
            obtain ⟨⟨s0, s1, s2, s3, s4, s5, s6⟩, k0, k1⟩ := hSw
            first | (go_simp; done) | (go_simp; with_reducible rfl)
          simp only [List.set_cons_zero, List.set_cons_succ]
          refine take_at (i := 1) (n := 69) (v := ?_) rfl rfl (by kernel_rfl) (by kernel_rfl) (by kernel_rfl) (fun _ _ _ h => h) (Or.inl ⟨by rfl, ?_⟩) (by assumption) ?_
          rotate_left 1
          · intro wz hSw
            obtain ⟨⟨s0, s1, s2, s3, s4, s5, s6⟩, k0, k1⟩ := hSw
            first | (go_simp; done) | (go_simp; with_reducible rfl)
          simp only [List.set_cons_zero, List.set_cons_succ]
          refine take_at (i := 3) (n := 71) (v := ?_) rfl rfl (by kernel_rfl) (by kernel_rfl) (by kernel_rfl) (fun _ _ _ h => h) (Or.inl ⟨by rfl, ?_⟩) (by assumption) ?_
          rotate_left 1
          · intro wz hSw
            obtain ⟨⟨s0, s1, s2, s3, s4, s5, s6⟩, k0, k1⟩ := hSw
            first | (go_simp; done) | (go_simp; with_reducible rfl)
          simp only [List.set_cons_zero, List.set_cons_succ]
          refine take_at (i := 4) (n := 72) (v := ?_) rfl rfl (by kernel_rfl) (by kernel_rfl) (by kernel_rfl) (fun _ _ _ h => h) (Or.inl ⟨by rfl, ?_⟩) (by assumption) ?_
          rotate_left 1
          · intro wz hSw
            obtain ⟨⟨s0, s1, s2, s3, s4, s5, s6⟩, k0, k1⟩ := hSw
            first | (go_simp; done) | (go_simp; with_reducible rfl)
          simp only [List.set_cons_zero, List.set_cons_succ]
          refine take_at (i := 6) (n := 74) (v := ?_) rfl rfl (by kernel_rfl) (by kernel_rfl) (by kernel_rfl) (fun _ _ _ h => h) (Or.inl ⟨by rfl, ?_⟩) (by assumption) ?_
          rotate_left 1
          · intro wz hSw
            obtain ⟨⟨s0, s1, s2, s3, s4, s5, s6⟩, k0, k1⟩ := hSw
            first | (go_simp; done) | (go_simp; with_reducible rfl)
          simp only [List.set_cons_zero, List.set_cons_succ]
          refine take_at (i := 8) (n := 76) (v := ?_) rfl rfl (by kernel_rfl) (by kernel_rfl) (by kernel_rfl) (fun _ _ _ h => h) (Or.inl ⟨by rfl, ?_⟩) (by assumption) ?_
          rotate_left 1
          · intro wz hSw
            obtain ⟨⟨s0, s1, s2, s3, s4, s5, s6⟩, k0, k1⟩ := hSw
            first | (go_simp; done) | (go_simp; with_reducible rfl)
          simp only [List.set_cons_zero, List.set_cons_succ]
          generalize hW7 : (w6.alloc (.cells #[.int .i64 z1, .int .i64 z2] 26)).drew = W7 at *
          generalize w6.heap.size = G at *
          clear hW7 H6
          refine wpAnyH_ready (rs := [2]) (by kernel_rfl) (by simp) ?_
          refine AllReadyH.cons rfl (fun K hK => ?_) AllReadyH.nil
          go_wp2_with (go_at_call 9; refine (HL _ l noT _ (by omega) (HV.out.2.2.2.1.below H7.out.bel)).mono ?_; rintro r wa ⟨uwa, rfl, hl9, hb9⟩)
          have Hwa : Hid (LW w wa G z1 z2 jl u6 ∧ Lent Ta.vals wa l noT uwa) := ⟨H7.out.grow hb9, hl9⟩
          clear hl9 hb9
          refine hK.out _ _ ⟨HV.out.2.1.below Hwa.out.1.bel, HV.out.2.2.1.below Hwa.out.1.bel⟩ (fun hHeld => ?_)
          clear hK K
          refine wpAnyH_ready (rs := [5]) (by kernel_rfl) (by simp) ?_
          refine AllReadyH.cons rfl (fun K hK => ?_) AllReadyH.nil
          go_simp
          go_wp2_with (go_at_call 10; refine (HLC _ cs noC _ (by omega) (HV.out.2.2.2.2.1.below Hwa.out.1.bel)).mono ?_; rintro r wb ⟨uwb, rfl, hl9, hb9⟩)
          have Hwb : Hid (LW w wb G z1 z2 jl u6 ∧ Lent Ta.vals wb l noT uwa ∧ Lent Co.vals wb cs noC uwb) := ⟨Hwa.out.1.grow hb9, Hwa.out.2.below hb9, hl9⟩
          clear hl9 hb9
          refine hK.out _ _ ⟨HV.out.2.1.below Hwb.out.1.bel, HV.out.2.2.1.below Hwb.out.1.bel⟩ (fun hHeld => ?_)
          clear hK K
          refine wpAnyH_ready (rs := [7]) (by kernel_rfl) (by simp) ?_
          refine AllReadyH.cons rfl (fun K hK => ?_) AllReadyH.nil
          go_simp
          go_wp2_with (go_at_call 20; refine (LendN_any _ la (-9) _ (by omega) (HV.out.2.2.2.2.2.1.below Hwb.out.1.bel)).mono ?_; rintro r wc ⟨uwc, rfl, hl9, hb9⟩)
          have Hwc : Hid (LW w wc G z1 z2 jl u6 ∧ Lent Ta.vals wc l noT uwa ∧ Lent Co.vals wc cs noC uwb ∧ Lent nuV wc la (-9) uwc) := ⟨Hwb.out.1.grow hb9, Hwb.out.2.1.below hb9, Hwb.out.2.2.below hb9, hl9⟩
          clear hl9 hb9
          refine hK.out _ _ ⟨HV.out.2.1.below Hwc.out.1.bel, HV.out.2.2.1.below Hwc.out.1.bel⟩ (fun hHeld => ?_)
          clear hK K
          refine wpAnyH_ready (rs := [9]) (by kernel_rfl) (by simp) ?_
          refine AllReadyH.cons rfl (fun K hK => ?_) AllReadyH.nil
          go_simp
          go_wp2_with (go_at_call 20; refine (LendN_any _ tk (-9) _ (by omega) (HV.out.2.2.2.2.2.2.below Hwc.out.1.bel)).mono ?_; rintro r wd ⟨uwd, rfl, hl9, hb9⟩)
          have Hwd : Hid (LW w wd G z1 z2 jl u6 ∧ Lent Ta.vals wd l noT uwa ∧ Lent Co.vals wd cs noC uwb ∧ Lent nuV wd la (-9) uwc ∧ Lent nuV wd tk (-9) uwd) := ⟨Hwc.out.1.grow hb9, Hwc.out.2.1.below hb9, Hwc.out.2.2.1.below hb9, Hwc.out.2.2.2.below hb9, hl9⟩
          clear hl9 hb9
          refine hK.out _ _ ⟨HV.out.2.1.below Hwd.out.1.bel, HV.out.2.2.1.below Hwd.out.1.bel⟩ (fun hHeld => ?_)
          clear hK K
          refine take_at (i := 10) (n := 13) (v := ?_) rfl rfl (by kernel_rfl) (by kernel_rfl) (by kernel_rfl) (fun _ _ _ h => h) (Or.inl ⟨by rfl, ?_⟩) (by assumption) ?_
          rotate_left 1
          · intro wz hSw
            obtain ⟨⟨s0, s1, s2, s3, s4, s5, s6⟩, k0, k1⟩ := hSw
            first | (go_simp; done) | (go_simp; with_reducible rfl)
          simp only [List.set_cons_zero, List.set_cons_succ]
          refine take_at (i := 11) (n := 14) (v := ?_) rfl rfl (by kernel_rfl) (by kernel_rfl) (by kernel_rfl) (fun _ _ _ h => h) (Or.inl ⟨by rfl, ?_⟩) (by assumption) ?_
          rotate_left 1
          · intro wz hSw
            obtain ⟨⟨s0, s1, s2, s3, s4, s5, s6⟩, k0, k1⟩ := hSw
            first | (go_simp; done) | (go_simp; with_reducible rfl)
          simp only [List.set_cons_zero, List.set_cons_succ]
          refine take_at (i := 12) (n := 15) (v := ?_) rfl rfl (by kernel_rfl) (by kernel_rfl) (by kernel_rfl) (fun _ _ _ h => h) (Or.inl ⟨by rfl, ?_⟩) (by assumption) ?_
          rotate_left 1
          · intro wz hSw
            obtain ⟨⟨s0, s1, s2, s3, s4, s5, s6⟩, k0, k1⟩ := hSw
            first | (go_simp; done) | (go_simp; with_reducible rfl)
          simp only [List.set_cons_zero, List.set_cons_succ]
          refine take_at (i := 13) (n := 16) (v := ?_) rfl rfl (by kernel_rfl) (by kernel_rfl) (by kernel_rfl) (fun _ _ _ h => h) (Or.inl ⟨by rfl, ?_⟩) (by assumption) ?_
          rotate_left 1
          · intro wz hSw
            obtain ⟨⟨s0, s1, s2, s3, s4, s5, s6⟩, k0, k1⟩ := hSw
            first | (go_simp; done) | (go_simp; with_reducible rfl)
          simp only [List.set_cons_zero, List.set_cons_succ]
          refine wpAnyH_done (by kernel_rfl) ?_ _
          refine NoPanic.normal ?_
          clear hS0 hHeld
          go_wp2_with fail
          have Hd := Hwd
          clear Hwa Hwb Hwc H7
          go_loopw [78] (fun i wr => ∃ j : Nat, j ≤ 2 ∧ i = .int .i64 j ∧ Below wd.heap.size wd wr) (fun i _ => 2 - (intOf i).toNat)
          case atStart => exact ⟨0, Nat.zero_le _, rfl, Below.refl _ _⟩
          case round =>
            obtain ⟨j, hj, rfl, hbr⟩ := hrel
            have HB : Hid (Below wd.heap.size wd wr) := hbr
            by_cases hj2 : j < 2
            · have HJ1 := Jobs_any wr l cs la tk uwa uwb uwc uwd (Hd.out.2.1.plain.below hbr) (Hd.out.2.2.1.plain.below hbr) (Hd.out.2.2.2.1.plain.below hbr) (Hd.out.2.2.2.2.plain.below hbr)
              rw [HJ.out] at HJ1
              clear hbr
              go_wp2_with (go_at_call 17; refine HJ1.mono ?_; rintro r w9 ⟨u9, rfl, ho9, hb9⟩; have H9 : Hid (LW w w9 G z1 z2 jl u6 ∧ w9.ownsRow (wr.heap.size + 1) 49 5 u9 jl.length (jl.flatMap Jb.vals) ∧ Below wr.heap.size wr w9) := ⟨(Hd.out.1.grow HB.out).grow hb9, ho9, hb9⟩; obtain ⟨gs, gf, gl⟩ := cells_of (l := [_, _]) H9.out.1.flt; have g0 := gs 0 _ rfl; have g1 := gs 1 _ rfl; clear ho9 hb9 HJ1 gs gf)
              have hb10 : Below w9.heap.size w9 (w9.alloc (.cells #[.int .i64 z1, .int .i64 z2] 26)) := below_new _ _
              have HS1 := SameJ_any (w9.alloc (.cells #[.int .i64 z1, .int .i64 z2] 26)) jl u9 u6 (by omega) ((rowOf_own H9.out.2.1).below hb10) (H9.out.1.row.below hb10)
              have H10 : Hid (LW w (w9.alloc (.cells #[.int .i64 z1, .int .i64 z2] 26)) G z1 z2 jl u6 ∧ (w9.alloc (.cells #[.int .i64 z1, .int .i64 z2] 26)).ownsRow (wr.heap.size + 1) 49 5 u9 jl.length (jl.flatMap Jb.vals) ∧ Below wr.heap.size wr (w9.alloc (.cells #[.int .i64 z1, .int .i64 z2] 26))) := ⟨H9.out.1.grow hb10, ownsRow_below H9.out.2.1 hb10, below_seq H9.out.2.2 hb10⟩
              clear hb10 H9 g0 g1 gl
              go_wp2_with (go_at_call 18; refine HS1.mono ?_; rintro r w11 ⟨rfl, hb11⟩; have H11 : Hid (LW w w11 G z1 z2 jl u6 ∧ w11.ownsRow (wr.heap.size + 1) 49 5 u9 jl.length (jl.flatMap Jb.vals) ∧ Below wr.heap.size wr w11) := ⟨H10.out.1.grow hb11, ownsRow_below H10.out.2.1 hb11, below_seq H10.out.2.2 hb11⟩; clear hb11 HS1 H10)
              go_wp2_with (go_at_call 21; refine (SpoilJ_own _ _ _ _ _ H11.out.2.1).mono ?_; rintro r w12 ⟨rfl, hb12⟩; have H12 : Hid (Below wr.heap.size wr w12) := H11.out.2.2.trans (hb12.mono (by omega)); clear hb12 H11)
              exact ⟨⟨j + 1, by omega, by simp, below_seq HB.out H12.out⟩, by simp [intOf]; omega⟩
            · have hje : j = 2 := by omega
              subst hje
              have HE : Hid (LW w wr G z1 z2 jl u6 ∧ Lent Ta.vals wr l noT uwa ∧ Lent Co.vals wr cs noC uwb ∧ Lent nuV wr la (-9) uwc ∧ Lent nuV wr tk (-9) uwd) := ⟨Hd.out.1.grow hbr, Hd.out.2.1.below hbr, Hd.out.2.2.1.below hbr, Hd.out.2.2.2.1.below hbr, Hd.out.2.2.2.2.below hbr⟩
              obtain ⟨e0, e1, e2, e3, e4, e5, e6⟩ := HV.out.2.1.below HE.out.1.bel
              clear hbr
              go_wp2_with (go_at_call 15; refine (HT _ l noT _ _ (by omega) HE.out.2.1 (HV.out.2.2.2.1.below HE.out.1.bel)).mono ?_; rintro r wp ⟨rfl, hbp⟩; have HP : Hid (LW w wp G z1 z2 jl u6 ∧ Lent Co.vals wp cs noC uwb ∧ Lent nuV wp la (-9) uwc ∧ Lent nuV wp tk (-9) uwd) := ⟨HE.out.1.grow hbp, HE.out.2.2.1.below hbp, HE.out.2.2.2.1.below hbp, HE.out.2.2.2.2.below hbp⟩; obtain ⟨k0, k1⟩ := HV.out.2.2.1.below HP.out.1.bel; clear hbp HE e0 e1 e2 e3 e4 e5 e6)
              go_wp2_with (go_at_call 16; refine (HTC _ cs noC _ _ (by omega) HP.out.2.1 (HV.out.2.2.2.2.1.below HP.out.1.bel)).mono ?_; rintro r wq ⟨rfl, hbq⟩; have HQ : Hid (LW w wq G z1 z2 jl u6 ∧ Lent nuV wq la (-9) uwc ∧ Lent nuV wq tk (-9) uwd) := ⟨HP.out.1.grow hbq, HP.out.2.2.1.below hbq, HP.out.2.2.2.below hbq⟩; clear hbq HP k0 k1)
              go_wp2_with (go_at_call 22; refine (StillN_any _ la (-9) _ _ (by omega) HQ.out.2.1 (HV.out.2.2.2.2.2.1.below HQ.out.1.bel)).mono ?_; rintro r ws ⟨rfl, hbs⟩; have HZ : Hid (LW w ws G z1 z2 jl u6 ∧ Lent nuV ws tk (-9) uwd) := ⟨HQ.out.1.grow hbs, HQ.out.2.2.below hbs⟩; clear hbs HQ)
              go_wp2_with (go_at_call 22; refine (StillN_any _ tk (-9) _ _ (by omega) HZ.out.2 (HV.out.2.2.2.2.2.2.below HZ.out.1.bel)).mono ?_; rintro r wt ⟨rfl, hbt⟩; have HY : Hid (Below w.heap.size w wt) := below_seq HZ.out.1.bel hbt; clear hbt HZ)
              go_ret
              exact ⟨rfl, HY.out⟩
        · have hl4' : decide ((tk.length : Int) ≤ 5000) = false := by simp; omega
          go_wp2_with (go_at_call 8; refine (few_any _ _).mono ?_; rintro r w5 ⟨rfl, rfl⟩; first | rw [hl1'] | rw [hl2'] | rw [hl3'] | rw [hl4'])
          go_ret
          exact ⟨rfl, H4.out⟩
      · have hl3' : decide ((la.length : Int) ≤ 5000) = false := by simp; omega
        go_wp2_with (go_at_call 8; refine (few_any _ _).mono ?_; rintro r w5 ⟨rfl, rfl⟩; first | rw [hl1'] | rw [hl2'] | rw [hl3'])
        go_ret
        exact ⟨rfl, H4.out⟩
    · have hl2' : decide ((cs.length : Int) ≤ 5000) = false := by simp; omega
      go_wp2_with (go_at_call 8; refine (few_any _ _).mono ?_; rintro r w5 ⟨rfl, rfl⟩; first | rw [hl1'] | rw [hl2'])
      go_ret
      exact ⟨rfl, H4.out⟩
  · have hl1' : decide ((l.length : Int) ≤ 5000) = false := by simp; omega
    go_wp2_with (go_at_call 8; refine (few_any _ _).mono ?_; rintro r w5 ⟨rfl, rfl⟩; rw [hl1'])
    go_ret
    exact ⟨rfl, H4.out⟩
end Go.Proofs.YtaeamhnjbgmfdaeDoor
