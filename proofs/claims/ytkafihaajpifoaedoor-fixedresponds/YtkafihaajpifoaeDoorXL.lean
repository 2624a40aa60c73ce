import Derived.Test.YtkafihaajpifoaeDoorXE
import Derived.Test.YtkafihaajpifoaeDoorYC
import Derived.Test.YtkafihaajpifoaeDoorXS
import Derived.Test.YtkafihaajpifoaeDoorTT
namespace Go.Proofs.YtkafihaajpifoaeDoor
open Go.ChangeShapes Go.WideShapes Go.ChangeAt Go.RowKit

/-- A fault's block that stays. -/
def FL (W : World) (G : Nat) (z1 z2 : Int) : Prop := W.heap[G]? = some (.cells #[.int .i64 z1, .int .i64 z2] 26 (0, 0))
theorem FL.grow {W W' : World} {G : Nat} {z1 z2 : Int} (h : FL W G z1 z2) (hb : Below W.heap.size W W') : FL W' G z1 z2 := (hb.block G (Array.getElem?_eq_some_iff.1 h).1).trans h
theorem FL.new (W : World) (z1 z2 : Int) : FL (W.alloc (.cells #[.int .i64 z1, .int .i64 z2] 26)) W.heap.size z1 z2 := heap_alloc_new _ _
theorem FL.cells {W : World} {G : Nat} {z1 z2 : Int} (h : FL W G z1 z2) : W.cell? ⟨G, 0, none⟩ = some (.int .i64 z1) ∧ W.cell? ⟨G, 1, none⟩ = some (.int .i64 z2) ∧ G < W.heap.size := by
  obtain ⟨c1, f1, l1⟩ := cells_of (l := [_, _]) h
  exact ⟨c1 0 _ rfl, c1 1 _ rfl, l1⟩

set_option maxRecDepth 20000 in
set_option maxHeartbeats 4000000 in
theorem responds_any (w : World) : Calls Tryd.prog 39 #[] w fun r w' => r = .returned (.bool true) ∧ Below w.heap.size w w' := by
  go_enter Tryd.func39, Tryd.ntmps39
  go_wp2_with (go_at_call 9; refine (three_any _).mono ?_; rintro r w1 ⟨v1, rfl, hr1, hb1⟩; obtain ⟨a1, c1, rfl⟩ := hr1.len; have H1 : Hid (Below w.heap.size w (w1.alloc (.cells #[.int .i64 0, .int .i64 0, .int .i64 0] 3))) := below_seq hb1 (below_new _ _); have HR := Responses_any (w1.alloc (.cells #[.int .i64 0, .int .i64 0, .int .i64 0] 3)) threeL [0, 0, 0] _ (.slice (some ⟨w1.heap.size, 0, none⟩) 3 3) (by decide) (hr1.below (below_new _ _)) (row_new (f := nuV) w1 [0, 0, 0] 3 #[.int .i64 0, .int .i64 0, .int .i64 0] 3 rfl rfl); rw [resps_three] at HR; clear hr1 hb1)
  go_wp2_with (go_at_call 42; refine HR.mono ?_; rintro r w2 ⟨u2, rfl, hr2, hb2⟩; obtain ⟨a2, c2, rfl⟩ := hr2.len; have H2 : Hid (Below w.heap.size w w2 ∧ RowSl nuV w2 [1, 3, 10] (.slice a2 [(1 : Int), 3, 10].length c2)) := ⟨below_seq H1.out hb2, hr2⟩; clear hb2 hr2 HR H1)
  first
    | (go_wp2_with (go_at_call 36; refine (SameN_any _ [1, 3, 10] _ _ (by decide) (H2.out.2.below (by first | exact below_new _ _ | exact below_seq (below_new _ _) (below_new _ _))) (by first | exact row_new (f := nuV) _ [1, 3, 10] 3 #[.int .i64 1, .int .i64 3, .int .i64 10] 3 rfl rfl | (have := row_new (f := nuV) (w2.alloc (.cells #[.int .i64 0, .int .i64 0] 26)) [1, 3, 10] 3 #[.int .i64 1, .int .i64 3, .int .i64 10] 3 rfl rfl; simpa using this))).mono ?_; rintro r w3 ⟨rfl, hb3⟩)
       go_ret
       exact ⟨rfl, by first | exact below_seq (below_seq H2.out.1 (below_new _ _)) hb3 | exact below_seq (below_seq (below_seq H2.out.1 (below_new _ _)) (below_new _ _)) hb3⟩)
    | fail

theorem respsFrom_len (l : List Ta) : ∀ (bs : List Int) (k : Nat) (acc : List Int), (respsFrom l bs k acc).1.length ≤ acc.length + bs.length
  | [], _, acc => by simp [respsFrom]
  | b :: r, k, acc => by
    unfold respsFrom
    split
    · simp
    · have := respsFrom_len l r (k + 1) (acc ++ [(respF l k b).1])
      simp at this ⊢
      omega

theorem responsesF_len (l : List Ta) (bs : List Int) : (responsesF l bs).1.length ≤ bs.length := by
  unfold responsesF
  split
  · simp
  · split
    · simp
    · have := respsFrom_len l bs 0 []
      simpa using this

set_option maxRecDepth 20000 in
set_option maxHeartbeats 8000000 in
theorem responds_walk (w : World) (l : List Ta) (bs : List Int) (i block : Int) (v v2 : Value) (hS : ∀ x ∈ l, x.nm.size ≤ 9223372036854775807) (hg : TaAt w 0 0 noT) (hv : RowSl Ta.vals w l v) (hv2 : RowSl nuV w bs v2) :
    Calls Tryd.prog 7 #[v, .int .i64 i, .int .i64 block, v2] w fun r w' => r = .returned (.bool true) ∧ Below w.heap.size w w' := by
  obtain ⟨ad, c, rfl⟩ := hv.len
  obtain ⟨ad2, c2, rfl⟩ := hv2.len
  have HV : Hid ((∀ x ∈ l, x.nm.size ≤ 9223372036854775807) ∧ TaAt w 0 0 noT ∧ RowSl Ta.vals w l (.slice ad l.length c) ∧ RowSl nuV w bs (.slice ad2 bs.length c2)) := ⟨hS, hg, hv, hv2⟩
  clear hS hg hv hv2
  have HL := LendT_any
  have HT := StillT_any
  unfold Ta.val at HL HT
  go_enter Tryd.func7, Tryd.ntmps7
  go_wp2_with (go_at_call 39; refine (responds_any _).mono ?_; rintro r w4 ⟨rfl, hb4⟩; have H4 : Hid (Below w.heap.size w w4) := hb4; clear hb4)
  by_cases hl : l.length ≤ 5000
  · have hl' : decide ((l.length : Int) ≤ 5000) = true := by simp; omega
    by_cases hl2 : bs.length ≤ 5000
    · have hl2' : decide ((bs.length : Int) ≤ 5000) = true := by simp; omega
      have A9 := fun W (hb : Below w.heap.size w W) u (hu : RowSl Ta.vals W l u) => Response_any W l u i block (by omega) hu
      have A10 := fun W (hb : Below w.heap.size w W) => ResponseOf_any W l _ i block HV.out.1 (HV.out.2.2.1.below hb)
      have A11 := fun W (hb : Below w.heap.size w W) u u2 (hu : RowSl Ta.vals W l u) (hu2 : RowSl nuV W bs u2) => Responses_any W l bs u u2 (by omega) hu hu2
      have A12 := fun W (hb : Below w.heap.size w W) => ResponsesOf_any W l bs _ _ HV.out.1 (HV.out.2.2.1.below hb) (HV.out.2.2.2.below hb)
      have hrl : (responsesF l bs).1.length ≤ 4194304 := by
        have := responsesF_len l bs
        omega
      generalize (responseF l i block).1 = p0 at *
      generalize (responseF l i block).2.1 = p1 at *
      generalize (responseF l i block).2.2 = p2 at *
      generalize (responsesF l bs).1 = q0 at *
      generalize (responsesF l bs).2.1 = q1 at *
      generalize (responsesF l bs).2.2 = q2 at *
      go_wp2_with (go_at_call 11; refine (few_any _ _).mono ?_; rintro r w5 ⟨rfl, rfl⟩; first | rw [hl'] | rw [hl2']; try (obtain ⟨e0, e1, e2, e3, e4, e5, e6⟩ := HV.out.2.1.below H4.out))
      go_wp2_with (go_at_call 12; refine (HL _ l noT _ (by omega) (HV.out.2.2.1.below H4.out)).mono ?_; rintro r w6 ⟨u6, rfl, hlent, hb6⟩; obtain ⟨b6, o6, c6, rfl, -⟩ := id hlent; have H6 : Hid (Below w.heap.size w w6 ∧ Lent Ta.vals w6 l noT (.slice (some ⟨b6, o6, none⟩) l.length c6)) := ⟨below_seq H4.out hb6, hlent⟩; clear e0 e1 e2 e3 e4 e5 e6 hlent hb6 H4 HL)
      go_wp2_with (go_at_call 23; refine (LendN_any _ bs (-9) _ (by omega) (HV.out.2.2.2.below H6.out.1)).mono ?_; rintro r w7 ⟨u7, rfl, hlent, hb7⟩; obtain ⟨b7, o7, c7, rfl, -⟩ := id hlent; have H7 : Hid (Below w.heap.size w w7 ∧ Lent Ta.vals w7 l noT (.slice (some ⟨b6, o6, none⟩) l.length c6) ∧ Lent nuV w7 bs (-9) (.slice (some ⟨b7, o7, none⟩) bs.length c7)) := ⟨below_seq H6.out.1 hb7, H6.out.2.below hb7, hlent⟩; clear hlent hb7 H6)
      go_wp2_with (go_at_call 40; refine (A9 _ H7.out.1 _ H7.out.2.1.plain).mono ?_; rintro r w8 ⟨rfl, hb8⟩; have H8 : Hid (Below w.heap.size w (w8.alloc (.cells #[.int .i64 p1, .int .i64 p2] 26)) ∧ Lent Ta.vals (w8.alloc (.cells #[.int .i64 p1, .int .i64 p2] 26)) l noT (.slice (some ⟨b6, o6, none⟩) l.length c6) ∧ Lent nuV (w8.alloc (.cells #[.int .i64 p1, .int .i64 p2] 26)) bs (-9) (.slice (some ⟨b7, o7, none⟩) bs.length c7) ∧ FL (w8.alloc (.cells #[.int .i64 p1, .int .i64 p2] 26)) w8.heap.size p1 p2) := ⟨below_seq H7.out.1 (below_seq hb8 (below_new _ _)), H7.out.2.1.below (below_seq hb8 (below_new _ _)), H7.out.2.2.below (below_seq hb8 (below_new _ _)), FL.new _ _ _⟩; clear hb8 H7 A9)
      go_wp2_with (go_at_call 41; refine (A10 _ H8.out.1).mono ?_; rintro r w9 ⟨rfl, hb9⟩; have H9 : Hid (Below w.heap.size w (w9.alloc (.cells #[.int .i64 p1, .int .i64 p2] 26)) ∧ Lent Ta.vals (w9.alloc (.cells #[.int .i64 p1, .int .i64 p2] 26)) l noT (.slice (some ⟨b6, o6, none⟩) l.length c6) ∧ Lent nuV (w9.alloc (.cells #[.int .i64 p1, .int .i64 p2] 26)) bs (-9) (.slice (some ⟨b7, o7, none⟩) bs.length c7) ∧ FL (w9.alloc (.cells #[.int .i64 p1, .int .i64 p2] 26)) w8.heap.size p1 p2 ∧ FL (w9.alloc (.cells #[.int .i64 p1, .int .i64 p2] 26)) w9.heap.size p1 p2) := ⟨below_seq H8.out.1 (below_seq hb9 (below_new _ _)), H8.out.2.1.below (below_seq hb9 (below_new _ _)), H8.out.2.2.1.below (below_seq hb9 (below_new _ _)), H8.out.2.2.2.grow (below_seq hb9 (below_new _ _)), FL.new _ _ _⟩; clear hb9 H8 A10)
      go_wp2_with (go_at_call 42; refine (A11 _ H9.out.1 _ _ H9.out.2.1.plain H9.out.2.2.1.plain).mono ?_; rintro r w10 ⟨u10, rfl, hr10, hb10⟩; obtain ⟨a10, c10, rfl⟩ := hr10.len; have H10 : Hid (Below w.heap.size w (w10.alloc (.cells #[.int .i64 q1, .int .i64 q2] 26)) ∧ Lent Ta.vals (w10.alloc (.cells #[.int .i64 q1, .int .i64 q2] 26)) l noT (.slice (some ⟨b6, o6, none⟩) l.length c6) ∧ Lent nuV (w10.alloc (.cells #[.int .i64 q1, .int .i64 q2] 26)) bs (-9) (.slice (some ⟨b7, o7, none⟩) bs.length c7) ∧ FL (w10.alloc (.cells #[.int .i64 q1, .int .i64 q2] 26)) w8.heap.size p1 p2 ∧ FL (w10.alloc (.cells #[.int .i64 q1, .int .i64 q2] 26)) w9.heap.size p1 p2 ∧ FL (w10.alloc (.cells #[.int .i64 q1, .int .i64 q2] 26)) w10.heap.size q1 q2 ∧ RowSl nuV (w10.alloc (.cells #[.int .i64 q1, .int .i64 q2] 26)) q0 (.slice a10 q0.length c10)) := ⟨below_seq H9.out.1 (below_seq hb10 (below_new _ _)), H9.out.2.1.below (below_seq hb10 (below_new _ _)), H9.out.2.2.1.below (below_seq hb10 (below_new _ _)), H9.out.2.2.2.1.grow (below_seq hb10 (below_new _ _)), H9.out.2.2.2.2.grow (below_seq hb10 (below_new _ _)), FL.new _ _ _, hr10.below (below_new _ _)⟩; clear hb10 hr10 H9 A11)
      go_wp2_with (go_at_call 43; refine (A12 _ H10.out.1).mono ?_; rintro r w11 ⟨u11, rfl, hr11, hb11⟩; obtain ⟨a11, c11, rfl⟩ := hr11.len; have H11 : Hid (Below w.heap.size w w11 ∧ Lent Ta.vals w11 l noT (.slice (some ⟨b6, o6, none⟩) l.length c6) ∧ Lent nuV w11 bs (-9) (.slice (some ⟨b7, o7, none⟩) bs.length c7) ∧ RowSl nuV w11 q0 (.slice a10 q0.length c10) ∧ RowSl nuV w11 q0 (.slice a11 q0.length c11)) := ⟨below_seq H10.out.1 hb11, H10.out.2.1.below hb11, H10.out.2.2.1.below hb11, H10.out.2.2.2.2.2.2.below hb11, hr11⟩; obtain ⟨f80, f81, f8l⟩ := (H10.out.2.2.2.1.grow hb11).cells; obtain ⟨f90, f91, f9l⟩ := (H10.out.2.2.2.2.1.grow hb11).cells; obtain ⟨f100, f101, f10l⟩ := (H10.out.2.2.2.2.2.1.grow hb11).cells; clear hb11 hr11 H10 A12)
      go_wp2_with (go_at_call 36; refine (SameN_any _ q0 _ _ hrl (H11.out.2.2.2.1.below (below_new _ _)) (H11.out.2.2.2.2.below (below_new _ _))).mono ?_; rintro r w12 ⟨rfl, hb12⟩; have H12 : Hid (Below w.heap.size w w12 ∧ Lent Ta.vals w12 l noT (.slice (some ⟨b6, o6, none⟩) l.length c6) ∧ Lent nuV w12 bs (-9) (.slice (some ⟨b7, o7, none⟩) bs.length c7)) := ⟨below_seq H11.out.1 (below_seq (below_new _ _) hb12), H11.out.2.1.below (below_seq (below_new _ _) hb12), H11.out.2.2.1.below (below_seq (below_new _ _) hb12)⟩; obtain ⟨e0, e1, e2, e3, e4, e5, e6⟩ := HV.out.2.1.below H12.out.1; clear hb12 H11 f80 f81 f8l f90 f91 f9l f100 f101 f10l)
      go_wp2_with (go_at_call 18; refine (HT _ l noT _ _ (by omega) H12.out.2.1 (HV.out.2.2.1.below H12.out.1)).mono ?_; rintro r w13 ⟨rfl, hb13⟩; have H13 : Hid (Below w.heap.size w w13 ∧ Lent nuV w13 bs (-9) (.slice (some ⟨b7, o7, none⟩) bs.length c7)) := ⟨below_seq H12.out.1 hb13, H12.out.2.2.below hb13⟩; clear hb13 H12 e0 e1 e2 e3 e4 e5 e6 HT)
      go_wp2_with (go_at_call 25; refine (StillN_any _ bs (-9) _ _ (by omega) H13.out.2 (HV.out.2.2.2.below H13.out.1)).mono ?_; rintro r w14 ⟨rfl, hb14⟩)
      first
        | (go_ret
           exact ⟨rfl, below_seq H13.out.1 hb14⟩)
        | fail
    · have hl2' : decide ((bs.length : Int) ≤ 5000) = false := by simp; omega
      go_wp2_with (go_at_call 11; refine (few_any _ _).mono ?_; rintro r w5 ⟨rfl, rfl⟩; first | rw [hl'] | rw [hl2'])
      go_ret
      exact ⟨rfl, H4.out⟩
  · have hl' : decide ((l.length : Int) ≤ 5000) = false := by simp; omega
    go_wp2_with (go_at_call 11; refine (few_any _ _).mono ?_; rintro r w5 ⟨rfl, rfl⟩; rw [hl'])
    go_ret
    exact ⟨rfl, H4.out⟩
end Go.Proofs.YtkafihaajpifoaeDoor
