import Derived.Test.YtkafihaajpifoajOA
import Derived.Test.YtkafihaajpifoajSO
import Derived.Test.YtkafihaajpifoajNS
namespace Go.Proofs.Ytkafihaajpifoaj
open Go.ChangeShapes Go.WideShapes Go.ChangeAt Go.RowKit

set_option maxRecDepth 20000 in
set_option maxHeartbeats 4000000 in
theorem keeps_walk (w : World) (l : List Fr) (cs : List Co) (la : List Int) (v v1 v2 : Value) (hv : RowSl Fr.vals w l v) (hv1 : RowSl Co.vals w cs v1) (hv2 : RowSl nuV w la v2) :
    Calls Try.prog 3 #[v, v1, v2] w fun r w' => r = .returned (.bool true) ∧ Below w.heap.size w w' := by
  obtain ⟨ad, c, rfl⟩ := hv.len
  obtain ⟨ad1, c1, rfl⟩ := hv1.len
  obtain ⟨ad2, c2, rfl⟩ := hv2.len
  have HV : Hid (RowSl Fr.vals w l (.slice ad l.length c) ∧ RowSl Co.vals w cs (.slice ad1 cs.length c1) ∧ RowSl nuV w la (.slice ad2 la.length c2)) := ⟨hv, hv1, hv2⟩
  have HT : ∀ W, Below w.heap.size w W → Calls Try.prog 7 #[.slice ad l.length c] W (TimesPost W l) := fun W hb => Times_any W l _ (hv.below hb)
  clear hv hv1 hv2
  go_enter Try.func3, Try.ntmps3
  go_wp2_with (go_at_call 5; refine (bus_any _).mono ?_; rintro r w1 ⟨rfl, hb1⟩; have H1 : Hid (Below w.heap.size w w1) := hb1; clear hb1)
  by_cases b1 : l.length ≤ 5000
  rotate_left 1
  · have fa : decide ((l.length : Int) ≤ 5000) = false := by first | (simp; done) | (simp; omega)
    go_wp2_with (go_at_call 6; refine (few_any _ _).mono ?_; rintro r w6 ⟨rfl, hw6⟩; have hw7 := hw6.symm; subst hw7; clear hw6; rw [fa])
    go_ret
    exact ⟨rfl, H1.out⟩
  have fa : decide ((l.length : Int) ≤ 5000) = true := by first | (simp; done) | (simp; omega)
  by_cases b2 : cs.length ≤ 300
  rotate_left 1
  · have fb : decide (300 < (cs.length : Int)) = true := by first | (simp; done) | (simp; omega)
    go_wp2_with (go_at_call 6; refine (few_any _ _).mono ?_; rintro r w6 ⟨rfl, hw6⟩; have hw7 := hw6.symm; subst hw7; clear hw6; rw [fa])
    go_ret
    exact ⟨rfl, H1.out⟩
  have fb : decide (300 < (cs.length : Int)) = false := by first | (simp; done) | (simp; omega)
  go_upto_region 6 with (first | (go_at_call 6; refine (few_any _ _).mono ?_; rintro r w6 ⟨rfl, hw6⟩; have hw7 := hw6.symm; subst hw7; clear hw6; rw [fa]) | (go_at_call 7; refine (HT _ H1.out).mono ?_; rintro r w2 ⟨ts, e, tv, hta, rfl, hr2, hb2⟩; obtain ⟨ad3, c3, rfl⟩ := hr2.len; obtain ⟨e1, e2⟩ := e; have H2 : Hid (Below w.heap.size w w2 ∧ TmA l ts (e1, e2) ∧ RowSl nuV w2 ts (.slice ad3 ts.length c3) ∧ Below w2.heap.size w2 (w2.alloc (.cells #[.int .i64 e1, .int .i64 e2] 29)) ∧ (w2.alloc (.cells #[.int .i64 e1, .int .i64 e2] 29)).heap[w2.heap.size]? = some (.cells #[.int .i64 e1, .int .i64 e2] 29 (0, 0))) := ⟨below_seq H1.out hb2, hta, hr2, below_new _ _, heap_alloc_new _ _⟩; clear hb2 hr2 hta HT H1))
  generalize (w2.alloc (.cells #[.int .i64 e1, .int .i64 e2] 29)) = w3 at *
  generalize hGe : w2.heap.size = G at *
  have HGe : Hid (w2.heap.size = G) := hGe
  clear hGe
  have d1 := (cells_of (l := [_, _]) H2.out.2.2.2.2).1 0 _ rfl
  have l1 := ltH H2.out.2.2.2.2
  have HG : Hid (w3.heap[G]? = some (.cells #[.int .i64 e1, .int .i64 e2] 29 (0, 0))) := H2.out.2.2.2.2
  by_cases he0 : e1 = 0
  rotate_left 1
  · have hts : ts = [] := by
      rcases H2.out.2.1 with ⟨-, h, -⟩ | ⟨-, h | h⟩
      · exact h
      · cases h.2.2; exact absurd rfl he0
      · exact h.1
    subst hts
    have fc : decide (e1 = 0) = false := by simp [he0]
    go_wp2_with fail
    go_ret
    exact ⟨rfl, below_seq H2.out.1 (by have := H2.out.2.2.2.1; rwa [← HGe.out] at this)⟩
  subst he0
  obtain ⟨hTM, HB3⟩ : TmA l ts (0, 0) ∧ Hid (Below w.heap.size w w2 ∧ RowSl nuV w2 ts (.slice ad3 ts.length c3) ∧ Below w2.heap.size w2 w3) := by
    have h := H2.out.2.1
    refine ⟨?_, H2.out.1, H2.out.2.2.1, by have := H2.out.2.2.2.1; rwa [← HGe.out] at this⟩
    have e2z : e2 = 0 := by
      rcases id h with ⟨h1, -, h2⟩ | ⟨-, h1 | ⟨-, us, -, -, h2⟩⟩
      · exact absurd (by rw [← h2]) h1
      · cases h1.2.2; rfl
      · cases h2
    subst e2z
    exact h
  have HTM : Hid (TmA l ts (0, 0)) := hTM
  clear hTM H2
  go_wp2_with fail
  go_loopw [9, 39] (fun ev iv wr => ∃ (j : Nat) (e : Int), j ≤ cs.length ∧ ev = .int .i64 e ∧ iv = .int .i64 (j : Int) ∧ Below w3.heap.size w3 wr ∧ Hid (Seen l cs ts j e)) (fun _ iv _ => cs.length - (intOf iv).toNat)
  case atStart => exact ⟨0, 0, Nat.zero_le _, rfl, rfl, Below.refl _ _, Seen.start l cs ts⟩
  case round =>
    obtain ⟨j, e, hjl, rfl, rfl, hb, HS⟩ := hrel
    by_cases hlt : j < cs.length
    · obtain ⟨x, hx, -⟩ := drop_at hlt
      obtain ⟨ad1', c1', he1, -, hcap1, hrow1⟩ := HV.out.2.1.below (below_seq HB3.out.1 (below_seq HB3.out.2.2 hb))
      cases he1
      rcases hrow1 with h | ⟨b1, o1, rfl, hrow1⟩
      · rw [h] at hlt; simp at hlt
      obtain ⟨k0, k1⟩ := co_at hrow1 hx
      have lb1 : b1 < wr.heap.size := World.block_lt_of_cell? _ _ k0
      have hj' : (j : Int) < (cs.length : Int) := by omega
      have HX : Hid (cs[j]? = some x ∧ Below w3.heap.size w3 wr ∧ ∀ q u, (cs.flatMap Co.vals)[q]? = some u → wr.cell? ⟨b1, o1 + q, none⟩ = some u) := ⟨hx, hb, hrow1⟩
      generalize hxk : x.k = xk at *
      generalize hxa : x.a = xa at *
      have HXK : Hid (x.k = xk ∧ x.a = xa) := ⟨hxk, hxa⟩
      clear hx hb hrow1 hxk hxa
      by_cases n1 : xk < 0
      · have q1 : decide (xk < 0) = true := by simp [n1]
        go_wp2_with fail
        refine wp_region_noPanic ?_
        refine wp_region_held_drew (S := fun w' => w'.cell? ⟨wr.heap.size, 0, none⟩ = some (.int .i64 xk) ∧ w'.cell? ⟨wr.heap.size, 1, none⟩ = some (.int .i64 xa)) (by kernel_rfl) (by refine ⟨?_, ?_⟩ <;> go_simp) (fun hHeld => ?_)
        refine take_at (i := 0) (n := 44) (v := ?_) rfl rfl (by kernel_rfl) (by kernel_rfl) (by kernel_rfl) (fun _ _ _ h => h) (Or.inl ⟨by rfl, ?_⟩) (by assumption) ?_
        rotate_left 1
        · intro wz hSw
          obtain ⟨s0, s1⟩ := hSw
          first | (go_simp; done) | (go_simp; with_reducible rfl)
        simp only [List.set_cons_zero, List.set_cons_succ]
        refine take_at (i := 1) (n := 45) (v := ?_) rfl rfl (by kernel_rfl) (by kernel_rfl) (by kernel_rfl) (fun _ _ _ h => h) (Or.inl ⟨by rfl, ?_⟩) (by assumption) ?_
        rotate_left 1
        · intro wz hSw
          obtain ⟨s0, s1⟩ := hSw
          first | (go_simp; done) | (go_simp; with_reducible rfl)
        simp only [List.set_cons_zero, List.set_cons_succ]
        refine take_at (i := 2) (n := 46) (v := ?_) rfl rfl (by kernel_rfl) (by kernel_rfl) (by kernel_rfl) (fun _ _ _ h => h) (Or.inl ⟨by rfl, ?_⟩) (by assumption) ?_
        rotate_left 1
        · intro wz hSw
          obtain ⟨s0, s1⟩ := hSw
          first | (go_simp; done) | (go_simp; with_reducible rfl)
        simp only [List.set_cons_zero, List.set_cons_succ]
        refine take_at (i := 3) (n := 47) (v := ?_) rfl rfl (by kernel_rfl) (by kernel_rfl) (by kernel_rfl) (fun _ _ _ h => h) (Or.inl ⟨by rfl, ?_⟩) (by assumption) ?_
        rotate_left 1
        · intro wz hSw
          obtain ⟨s0, s1⟩ := hSw
          first | (go_simp; done) | (go_simp; with_reducible rfl)
        simp only [List.set_cons_zero, List.set_cons_succ]
        refine take_at (i := 4) (n := 48) (v := undef) rfl rfl (by kernel_rfl) (by kernel_rfl) (by kernel_rfl) (fun _ _ _ h => h) (Or.inr ⟨by rfl, rfl⟩) (by assumption) ?_
        simp only [List.set_cons_zero, List.set_cons_succ]
        refine take_at (i := 5) (n := 49) (v := undef) rfl rfl (by kernel_rfl) (by kernel_rfl) (by kernel_rfl) (fun _ _ _ h => h) (Or.inr ⟨by rfl, rfl⟩) (by assumption) ?_
        simp only [List.set_cons_zero, List.set_cons_succ]
        refine take_at (i := 6) (n := 50) (v := undef) rfl rfl (by kernel_rfl) (by kernel_rfl) (by kernel_rfl) (fun _ _ _ h => h) (Or.inr ⟨by rfl, rfl⟩) (by assumption) ?_
        simp only [List.set_cons_zero, List.set_cons_succ]
        refine take_at (i := 7) (n := 51) (v := undef) rfl rfl (by kernel_rfl) (by kernel_rfl) (by kernel_rfl) (fun _ _ _ h => h) (Or.inr ⟨by rfl, rfl⟩) (by assumption) ?_
        simp only [List.set_cons_zero, List.set_cons_succ]
        refine take_at (i := 8) (n := 52) (v := undef) rfl rfl (by kernel_rfl) (by kernel_rfl) (by kernel_rfl) (fun _ _ _ h => h) (Or.inr ⟨by rfl, rfl⟩) (by assumption) ?_
        simp only [List.set_cons_zero, List.set_cons_succ]
        refine take_at (i := 9) (n := 53) (v := ?_) rfl rfl (by kernel_rfl) (by kernel_rfl) (by kernel_rfl) (fun _ _ _ h => h) (Or.inl ⟨by rfl, ?_⟩) (by assumption) ?_
        rotate_left 1
        · intro wz hSw
          obtain ⟨s0, s1⟩ := hSw
          first | (go_simp; done) | (go_simp; with_reducible rfl)
        simp only [List.set_cons_zero, List.set_cons_succ]
        refine take_at (i := 10) (n := 54) (v := ?_) rfl rfl (by kernel_rfl) (by kernel_rfl) (by kernel_rfl) (fun _ _ _ h => h) (Or.inl ⟨by rfl, ?_⟩) (by assumption) ?_
        rotate_left 1
        · intro wz hSw
          obtain ⟨s0, s1⟩ := hSw
          first | (go_simp; done) | (go_simp; with_reducible rfl)
        simp only [List.set_cons_zero, List.set_cons_succ]
        refine take_at (i := 11) (n := 55) (v := undef) rfl rfl (by kernel_rfl) (by kernel_rfl) (by kernel_rfl) (fun _ _ _ h => h) (Or.inr ⟨by rfl, rfl⟩) (by assumption) ?_
        simp only [List.set_cons_zero, List.set_cons_succ]
        refine take_at (i := 12) (n := 56) (v := undef) rfl rfl (by kernel_rfl) (by kernel_rfl) (by kernel_rfl) (fun _ _ _ h => h) (Or.inr ⟨by rfl, rfl⟩) (by assumption) ?_
        simp only [List.set_cons_zero, List.set_cons_succ]
        refine take_at (i := 13) (n := 57) (v := undef) rfl rfl (by kernel_rfl) (by kernel_rfl) (by kernel_rfl) (fun _ _ _ h => h) (Or.inr ⟨by rfl, rfl⟩) (by assumption) ?_
        simp only [List.set_cons_zero, List.set_cons_succ]
        refine take_at (i := 14) (n := 58) (v := undef) rfl rfl (by kernel_rfl) (by kernel_rfl) (by kernel_rfl) (fun _ _ _ h => h) (Or.inr ⟨by rfl, rfl⟩) (by assumption) ?_
        simp only [List.set_cons_zero, List.set_cons_succ]
        refine take_at (i := 15) (n := 59) (v := undef) rfl rfl (by kernel_rfl) (by kernel_rfl) (by kernel_rfl) (fun _ _ _ h => h) (Or.inr ⟨by rfl, rfl⟩) (by assumption) ?_
        simp only [List.set_cons_zero, List.set_cons_succ]
        refine take_at (i := 16) (n := 60) (v := undef) rfl rfl (by kernel_rfl) (by kernel_rfl) (by kernel_rfl) (fun _ _ _ h => h) (Or.inr ⟨by rfl, rfl⟩) (by assumption) ?_
        simp only [List.set_cons_zero, List.set_cons_succ]
        refine take_at (i := 17) (n := 61) (v := undef) rfl rfl (by kernel_rfl) (by kernel_rfl) (by kernel_rfl) (fun _ _ _ h => h) (Or.inr ⟨by rfl, rfl⟩) (by assumption) ?_
        simp only [List.set_cons_zero, List.set_cons_succ]
        refine take_at (i := 18) (n := 62) (v := undef) rfl rfl (by kernel_rfl) (by kernel_rfl) (by kernel_rfl) (fun _ _ _ h => h) (Or.inr ⟨by rfl, rfl⟩) (by assumption) ?_
        simp only [List.set_cons_zero, List.set_cons_succ]
        refine take_at (i := 19) (n := 63) (v := undef) rfl rfl (by kernel_rfl) (by kernel_rfl) (by kernel_rfl) (fun _ _ _ h => h) (Or.inr ⟨by rfl, rfl⟩) (by assumption) ?_
        simp only [List.set_cons_zero, List.set_cons_succ]
        refine take_at (i := 20) (n := 64) (v := undef) rfl rfl (by kernel_rfl) (by kernel_rfl) (by kernel_rfl) (fun _ _ _ h => h) (Or.inr ⟨by rfl, rfl⟩) (by assumption) ?_
        simp only [List.set_cons_zero, List.set_cons_succ]
        refine take_at (i := 21) (n := 65) (v := undef) rfl rfl (by kernel_rfl) (by kernel_rfl) (by kernel_rfl) (fun _ _ _ h => h) (Or.inr ⟨by rfl, rfl⟩) (by assumption) ?_
        simp only [List.set_cons_zero, List.set_cons_succ]
        refine take_at (i := 22) (n := 66) (v := undef) rfl rfl (by kernel_rfl) (by kernel_rfl) (by kernel_rfl) (fun _ _ _ h => h) (Or.inr ⟨by rfl, rfl⟩) (by assumption) ?_
        simp only [List.set_cons_zero, List.set_cons_succ]
        refine take_at (i := 23) (n := 67) (v := undef) rfl rfl (by kernel_rfl) (by kernel_rfl) (by kernel_rfl) (fun _ _ _ h => h) (Or.inr ⟨by rfl, rfl⟩) (by assumption) ?_
        simp only [List.set_cons_zero, List.set_cons_succ]
        refine take_at (i := 24) (n := 68) (v := ?_) rfl rfl (by kernel_rfl) (by kernel_rfl) (by kernel_rfl) (fun _ _ _ h => h) (Or.inl ⟨by rfl, ?_⟩) (by assumption) ?_
        rotate_left 1
        · intro wz hSw
          obtain ⟨s0, s1⟩ := hSw
          first | (go_simp; done) | (go_simp; with_reducible rfl)
        simp only [List.set_cons_zero, List.set_cons_succ]
        refine wpAnyH_done (by kernel_rfl) ?_ _
        refine NoPanic.normal ?_
        clear hHeld
        go_wp2_with fail
        go_ret
        exact ⟨rfl, (below_seq HB3.out.1 (below_seq HB3.out.2.2 (below_seq HX.out.2.1 (below_new _ _)))).drew⟩
      have q1 : decide (xk < 0) = false := by simp; omega
      by_cases n2 : (l.length : Int) ≤ xk
      · have q2 : decide ((l.length : Int) ≤ xk) = true := by simp [n2]
        go_wp2_with fail
        refine wp_region_noPanic ?_
        refine wp_region_held_drew (S := fun w' => w'.cell? ⟨wr.heap.size, 0, none⟩ = some (.int .i64 xk) ∧ w'.cell? ⟨wr.heap.size, 1, none⟩ = some (.int .i64 xa)) (by kernel_rfl) (by refine ⟨?_, ?_⟩ <;> go_simp) (fun hHeld => ?_)
        refine take_at (i := 0) (n := 44) (v := ?_) rfl rfl (by kernel_rfl) (by kernel_rfl) (by kernel_rfl) (fun _ _ _ h => h) (Or.inl ⟨by rfl, ?_⟩) (by assumption) ?_
        rotate_left 1
        · intro wz hSw
          obtain ⟨s0, s1⟩ := hSw
          first | (go_simp; done) | (go_simp; with_reducible rfl)
        simp only [List.set_cons_zero, List.set_cons_succ]
        refine take_at (i := 1) (n := 45) (v := ?_) rfl rfl (by kernel_rfl) (by kernel_rfl) (by kernel_rfl) (fun _ _ _ h => h) (Or.inl ⟨by rfl, ?_⟩) (by assumption) ?_
        rotate_left 1
        · intro wz hSw
          obtain ⟨s0, s1⟩ := hSw
          first | (go_simp; done) | (go_simp; with_reducible rfl)
        simp only [List.set_cons_zero, List.set_cons_succ]
        refine take_at (i := 2) (n := 46) (v := ?_) rfl rfl (by kernel_rfl) (by kernel_rfl) (by kernel_rfl) (fun _ _ _ h => h) (Or.inl ⟨by rfl, ?_⟩) (by assumption) ?_
        rotate_left 1
        · intro wz hSw
          obtain ⟨s0, s1⟩ := hSw
          first | (go_simp; done) | (go_simp; with_reducible rfl)
        simp only [List.set_cons_zero, List.set_cons_succ]
        refine take_at (i := 3) (n := 47) (v := ?_) rfl rfl (by kernel_rfl) (by kernel_rfl) (by kernel_rfl) (fun _ _ _ h => h) (Or.inl ⟨by rfl, ?_⟩) (by assumption) ?_
        rotate_left 1
        · intro wz hSw
          obtain ⟨s0, s1⟩ := hSw
          first | (go_simp; done) | (go_simp; with_reducible rfl)
        simp only [List.set_cons_zero, List.set_cons_succ]
        refine take_at (i := 4) (n := 48) (v := ?_) rfl rfl (by kernel_rfl) (by kernel_rfl) (by kernel_rfl) (fun _ _ _ h => h) (Or.inl ⟨by rfl, ?_⟩) (by assumption) ?_
        rotate_left 1
        · intro wz hSw
          obtain ⟨s0, s1⟩ := hSw
          first | (go_simp; done) | (go_simp; with_reducible rfl)
        simp only [List.set_cons_zero, List.set_cons_succ]
        refine take_at (i := 5) (n := 49) (v := ?_) rfl rfl (by kernel_rfl) (by kernel_rfl) (by kernel_rfl) (fun _ _ _ h => h) (Or.inl ⟨by rfl, ?_⟩) (by assumption) ?_
        rotate_left 1
        · intro wz hSw
          obtain ⟨s0, s1⟩ := hSw
          first | (go_simp; done) | (go_simp; with_reducible rfl)
        simp only [List.set_cons_zero, List.set_cons_succ]
        refine take_at (i := 6) (n := 50) (v := ?_) rfl rfl (by kernel_rfl) (by kernel_rfl) (by kernel_rfl) (fun _ _ _ h => h) (Or.inl ⟨by rfl, ?_⟩) (by assumption) ?_
        rotate_left 1
        · intro wz hSw
          obtain ⟨s0, s1⟩ := hSw
          first | (go_simp; done) | (go_simp; with_reducible rfl)
        simp only [List.set_cons_zero, List.set_cons_succ]
        refine take_at (i := 7) (n := 51) (v := ?_) rfl rfl (by kernel_rfl) (by kernel_rfl) (by kernel_rfl) (fun _ _ _ h => h) (Or.inl ⟨by rfl, ?_⟩) (by assumption) ?_
        rotate_left 1
        · intro wz hSw
          obtain ⟨s0, s1⟩ := hSw
          first | (go_simp; done) | (go_simp; with_reducible rfl)
        simp only [List.set_cons_zero, List.set_cons_succ]
        refine take_at (i := 8) (n := 52) (v := ?_) rfl rfl (by kernel_rfl) (by kernel_rfl) (by kernel_rfl) (fun _ _ _ h => h) (Or.inl ⟨by rfl, ?_⟩) (by assumption) ?_
        rotate_left 1
        · intro wz hSw
          obtain ⟨s0, s1⟩ := hSw
          first | (go_simp; done) | (go_simp; with_reducible rfl)
        simp only [List.set_cons_zero, List.set_cons_succ]
        refine take_at (i := 9) (n := 53) (v := ?_) rfl rfl (by kernel_rfl) (by kernel_rfl) (by kernel_rfl) (fun _ _ _ h => h) (Or.inl ⟨by rfl, ?_⟩) (by assumption) ?_
        rotate_left 1
        · intro wz hSw
          obtain ⟨s0, s1⟩ := hSw
          first | (go_simp; done) | (go_simp; with_reducible rfl)
        simp only [List.set_cons_zero, List.set_cons_succ]
        refine take_at (i := 10) (n := 54) (v := ?_) rfl rfl (by kernel_rfl) (by kernel_rfl) (by kernel_rfl) (fun _ _ _ h => h) (Or.inl ⟨by rfl, ?_⟩) (by assumption) ?_
        rotate_left 1
        · intro wz hSw
          obtain ⟨s0, s1⟩ := hSw
          first | (go_simp; done) | (go_simp; with_reducible rfl)
        simp only [List.set_cons_zero, List.set_cons_succ]
        refine take_at (i := 11) (n := 55) (v := undef) rfl rfl (by kernel_rfl) (by kernel_rfl) (by kernel_rfl) (fun _ _ _ h => h) (Or.inr ⟨by rfl, rfl⟩) (by assumption) ?_
        simp only [List.set_cons_zero, List.set_cons_succ]
        refine take_at (i := 12) (n := 56) (v := undef) rfl rfl (by kernel_rfl) (by kernel_rfl) (by kernel_rfl) (fun _ _ _ h => h) (Or.inr ⟨by rfl, rfl⟩) (by assumption) ?_
        simp only [List.set_cons_zero, List.set_cons_succ]
        refine take_at (i := 13) (n := 57) (v := undef) rfl rfl (by kernel_rfl) (by kernel_rfl) (by kernel_rfl) (fun _ _ _ h => h) (Or.inr ⟨by rfl, rfl⟩) (by assumption) ?_
        simp only [List.set_cons_zero, List.set_cons_succ]
        refine take_at (i := 14) (n := 58) (v := undef) rfl rfl (by kernel_rfl) (by kernel_rfl) (by kernel_rfl) (fun _ _ _ h => h) (Or.inr ⟨by rfl, rfl⟩) (by assumption) ?_
        simp only [List.set_cons_zero, List.set_cons_succ]
        refine take_at (i := 15) (n := 59) (v := undef) rfl rfl (by kernel_rfl) (by kernel_rfl) (by kernel_rfl) (fun _ _ _ h => h) (Or.inr ⟨by rfl, rfl⟩) (by assumption) ?_
        simp only [List.set_cons_zero, List.set_cons_succ]
        refine take_at (i := 16) (n := 60) (v := undef) rfl rfl (by kernel_rfl) (by kernel_rfl) (by kernel_rfl) (fun _ _ _ h => h) (Or.inr ⟨by rfl, rfl⟩) (by assumption) ?_
        simp only [List.set_cons_zero, List.set_cons_succ]
        refine take_at (i := 17) (n := 61) (v := undef) rfl rfl (by kernel_rfl) (by kernel_rfl) (by kernel_rfl) (fun _ _ _ h => h) (Or.inr ⟨by rfl, rfl⟩) (by assumption) ?_
        simp only [List.set_cons_zero, List.set_cons_succ]
        refine take_at (i := 18) (n := 62) (v := undef) rfl rfl (by kernel_rfl) (by kernel_rfl) (by kernel_rfl) (fun _ _ _ h => h) (Or.inr ⟨by rfl, rfl⟩) (by assumption) ?_
        simp only [List.set_cons_zero, List.set_cons_succ]
        refine take_at (i := 19) (n := 63) (v := undef) rfl rfl (by kernel_rfl) (by kernel_rfl) (by kernel_rfl) (fun _ _ _ h => h) (Or.inr ⟨by rfl, rfl⟩) (by assumption) ?_
        simp only [List.set_cons_zero, List.set_cons_succ]
        refine take_at (i := 20) (n := 64) (v := undef) rfl rfl (by kernel_rfl) (by kernel_rfl) (by kernel_rfl) (fun _ _ _ h => h) (Or.inr ⟨by rfl, rfl⟩) (by assumption) ?_
        simp only [List.set_cons_zero, List.set_cons_succ]
        refine take_at (i := 21) (n := 65) (v := undef) rfl rfl (by kernel_rfl) (by kernel_rfl) (by kernel_rfl) (fun _ _ _ h => h) (Or.inr ⟨by rfl, rfl⟩) (by assumption) ?_
        simp only [List.set_cons_zero, List.set_cons_succ]
        refine take_at (i := 22) (n := 66) (v := undef) rfl rfl (by kernel_rfl) (by kernel_rfl) (by kernel_rfl) (fun _ _ _ h => h) (Or.inr ⟨by rfl, rfl⟩) (by assumption) ?_
        simp only [List.set_cons_zero, List.set_cons_succ]
        refine take_at (i := 23) (n := 67) (v := undef) rfl rfl (by kernel_rfl) (by kernel_rfl) (by kernel_rfl) (fun _ _ _ h => h) (Or.inr ⟨by rfl, rfl⟩) (by assumption) ?_
        simp only [List.set_cons_zero, List.set_cons_succ]
        refine take_at (i := 24) (n := 68) (v := ?_) rfl rfl (by kernel_rfl) (by kernel_rfl) (by kernel_rfl) (fun _ _ _ h => h) (Or.inl ⟨by rfl, ?_⟩) (by assumption) ?_
        rotate_left 1
        · intro wz hSw
          obtain ⟨s0, s1⟩ := hSw
          first | (go_simp; done) | (go_simp; with_reducible rfl)
        simp only [List.set_cons_zero, List.set_cons_succ]
        refine wpAnyH_done (by kernel_rfl) ?_ _
        refine NoPanic.normal ?_
        clear hHeld
        go_wp2_with fail
        go_ret
        exact ⟨rfl, (below_seq HB3.out.1 (below_seq HB3.out.2.2 (below_seq HX.out.2.1 (below_new _ _)))).drew⟩
      have q2 : decide ((l.length : Int) ≤ xk) = false := by simp; omega
      rcases (show j = 0 ∨ ∃ jj, j = jj + 1 from by cases j with | zero => exact .inl rfl | succ n => exact .inr ⟨n, rfl⟩) with hj0 | ⟨jj, hj0⟩
      · have q3 : decide ((0 : Int) < (j : Int)) = false := by first | (simp; done) | (simp; omega)
        have q5 : decide (0 < j) = false := by first | (simp; done) | (simp; omega)
        clear hj0
        go_wp2_with fail
        refine wp_region_noPanic ?_
        refine wp_region_held_drew (S := fun w' => w'.cell? ⟨wr.heap.size, 0, none⟩ = some (.int .i64 xk) ∧ w'.cell? ⟨wr.heap.size, 1, none⟩ = some (.int .i64 xa)) (by kernel_rfl) (by refine ⟨?_, ?_⟩ <;> go_simp) (fun hHeld => ?_)
        refine take_at (i := 0) (n := 44) (v := ?_) rfl rfl (by kernel_rfl) (by kernel_rfl) (by kernel_rfl) (fun _ _ _ h => h) (Or.inl ⟨by rfl, ?_⟩) (by assumption) ?_
        rotate_left 1
        · intro wz hSw
          obtain ⟨s0, s1⟩ := hSw
          first | (go_simp; done) | (go_simp; with_reducible rfl)
        simp only [List.set_cons_zero, List.set_cons_succ]
        refine take_at (i := 1) (n := 45) (v := ?_) rfl rfl (by kernel_rfl) (by kernel_rfl) (by kernel_rfl) (fun _ _ _ h => h) (Or.inl ⟨by rfl, ?_⟩) (by assumption) ?_
        rotate_left 1
        · intro wz hSw
          obtain ⟨s0, s1⟩ := hSw
          first | (go_simp; done) | (go_simp; with_reducible rfl)
        simp only [List.set_cons_zero, List.set_cons_succ]
        refine take_at (i := 2) (n := 46) (v := ?_) rfl rfl (by kernel_rfl) (by kernel_rfl) (by kernel_rfl) (fun _ _ _ h => h) (Or.inl ⟨by rfl, ?_⟩) (by assumption) ?_
        rotate_left 1
        · intro wz hSw
          obtain ⟨s0, s1⟩ := hSw
          first | (go_simp; done) | (go_simp; with_reducible rfl)
        simp only [List.set_cons_zero, List.set_cons_succ]
        refine take_at (i := 3) (n := 47) (v := ?_) rfl rfl (by kernel_rfl) (by kernel_rfl) (by kernel_rfl) (fun _ _ _ h => h) (Or.inl ⟨by rfl, ?_⟩) (by assumption) ?_
        rotate_left 1
        · intro wz hSw
          obtain ⟨s0, s1⟩ := hSw
          first | (go_simp; done) | (go_simp; with_reducible rfl)
        simp only [List.set_cons_zero, List.set_cons_succ]
        refine take_at (i := 4) (n := 48) (v := ?_) rfl rfl (by kernel_rfl) (by kernel_rfl) (by kernel_rfl) (fun _ _ _ h => h) (Or.inl ⟨by rfl, ?_⟩) (by assumption) ?_
        rotate_left 1
        · intro wz hSw
          obtain ⟨s0, s1⟩ := hSw
          first | (go_simp; done) | (go_simp; with_reducible rfl)
        simp only [List.set_cons_zero, List.set_cons_succ]
        refine take_at (i := 5) (n := 49) (v := ?_) rfl rfl (by kernel_rfl) (by kernel_rfl) (by kernel_rfl) (fun _ _ _ h => h) (Or.inl ⟨by rfl, ?_⟩) (by assumption) ?_
        rotate_left 1
        · intro wz hSw
          obtain ⟨s0, s1⟩ := hSw
          first | (go_simp; done) | (go_simp; with_reducible rfl)
        simp only [List.set_cons_zero, List.set_cons_succ]
        refine take_at (i := 6) (n := 50) (v := ?_) rfl rfl (by kernel_rfl) (by kernel_rfl) (by kernel_rfl) (fun _ _ _ h => h) (Or.inl ⟨by rfl, ?_⟩) (by assumption) ?_
        rotate_left 1
        · intro wz hSw
          obtain ⟨s0, s1⟩ := hSw
          first | (go_simp; done) | (go_simp; with_reducible rfl)
        simp only [List.set_cons_zero, List.set_cons_succ]
        refine take_at (i := 7) (n := 51) (v := ?_) rfl rfl (by kernel_rfl) (by kernel_rfl) (by kernel_rfl) (fun _ _ _ h => h) (Or.inl ⟨by rfl, ?_⟩) (by assumption) ?_
        rotate_left 1
        · intro wz hSw
          obtain ⟨s0, s1⟩ := hSw
          first | (go_simp; done) | (go_simp; with_reducible rfl)
        simp only [List.set_cons_zero, List.set_cons_succ]
        refine take_at (i := 8) (n := 52) (v := ?_) rfl rfl (by kernel_rfl) (by kernel_rfl) (by kernel_rfl) (fun _ _ _ h => h) (Or.inl ⟨by rfl, ?_⟩) (by assumption) ?_
        rotate_left 1
        · intro wz hSw
          obtain ⟨s0, s1⟩ := hSw
          first | (go_simp; done) | (go_simp; with_reducible rfl)
        simp only [List.set_cons_zero, List.set_cons_succ]
        refine take_at (i := 9) (n := 53) (v := ?_) rfl rfl (by kernel_rfl) (by kernel_rfl) (by kernel_rfl) (fun _ _ _ h => h) (Or.inl ⟨by rfl, ?_⟩) (by assumption) ?_
        rotate_left 1
        · intro wz hSw
          obtain ⟨s0, s1⟩ := hSw
          first | (go_simp; done) | (go_simp; with_reducible rfl)
        simp only [List.set_cons_zero, List.set_cons_succ]
        refine take_at (i := 10) (n := 54) (v := ?_) rfl rfl (by kernel_rfl) (by kernel_rfl) (by kernel_rfl) (fun _ _ _ h => h) (Or.inl ⟨by rfl, ?_⟩) (by assumption) ?_
        rotate_left 1
        · intro wz hSw
          obtain ⟨s0, s1⟩ := hSw
          first | (go_simp; done) | (go_simp; with_reducible rfl)
        simp only [List.set_cons_zero, List.set_cons_succ]
        refine take_at (i := 11) (n := 55) (v := ?_) rfl rfl (by kernel_rfl) (by kernel_rfl) (by kernel_rfl) (fun _ _ _ h => h) (Or.inl ⟨by rfl, ?_⟩) (by assumption) ?_
        rotate_left 1
        · intro wz hSw
          obtain ⟨s0, s1⟩ := hSw
          first | (go_simp; done) | (go_simp; with_reducible rfl)
        simp only [List.set_cons_zero, List.set_cons_succ]
        refine take_at (i := 12) (n := 56) (v := ?_) rfl rfl (by kernel_rfl) (by kernel_rfl) (by kernel_rfl) (fun _ _ _ h => h) (Or.inl ⟨by rfl, ?_⟩) (by assumption) ?_
        rotate_left 1
        · intro wz hSw
          obtain ⟨s0, s1⟩ := hSw
          first | (go_simp; done) | (go_simp; with_reducible rfl)
        simp only [List.set_cons_zero, List.set_cons_succ]
        refine take_at (i := 13) (n := 57) (v := ?_) rfl rfl (by kernel_rfl) (by kernel_rfl) (by kernel_rfl) (fun _ _ _ h => h) (Or.inl ⟨by rfl, ?_⟩) (by assumption) ?_
        rotate_left 1
        · intro wz hSw
          obtain ⟨s0, s1⟩ := hSw
          first | (go_simp; done) | (go_simp; with_reducible rfl)
        simp only [List.set_cons_zero, List.set_cons_succ]
        refine take_at (i := 14) (n := 58) (v := undef) rfl rfl (by kernel_rfl) (by kernel_rfl) (by kernel_rfl) (fun _ _ _ h => h) (Or.inr ⟨by rfl, rfl⟩) (by assumption) ?_
        simp only [List.set_cons_zero, List.set_cons_succ]
        refine take_at (i := 15) (n := 59) (v := undef) rfl rfl (by kernel_rfl) (by kernel_rfl) (by kernel_rfl) (fun _ _ _ h => h) (Or.inr ⟨by rfl, rfl⟩) (by assumption) ?_
        simp only [List.set_cons_zero, List.set_cons_succ]
        refine take_at (i := 16) (n := 60) (v := undef) rfl rfl (by kernel_rfl) (by kernel_rfl) (by kernel_rfl) (fun _ _ _ h => h) (Or.inr ⟨by rfl, rfl⟩) (by assumption) ?_
        simp only [List.set_cons_zero, List.set_cons_succ]
        refine take_at (i := 17) (n := 61) (v := undef) rfl rfl (by kernel_rfl) (by kernel_rfl) (by kernel_rfl) (fun _ _ _ h => h) (Or.inr ⟨by rfl, rfl⟩) (by assumption) ?_
        simp only [List.set_cons_zero, List.set_cons_succ]
        refine take_at (i := 18) (n := 62) (v := undef) rfl rfl (by kernel_rfl) (by kernel_rfl) (by kernel_rfl) (fun _ _ _ h => h) (Or.inr ⟨by rfl, rfl⟩) (by assumption) ?_
        simp only [List.set_cons_zero, List.set_cons_succ]
        refine take_at (i := 19) (n := 63) (v := undef) rfl rfl (by kernel_rfl) (by kernel_rfl) (by kernel_rfl) (fun _ _ _ h => h) (Or.inr ⟨by rfl, rfl⟩) (by assumption) ?_
        simp only [List.set_cons_zero, List.set_cons_succ]
        refine take_at (i := 20) (n := 64) (v := undef) rfl rfl (by kernel_rfl) (by kernel_rfl) (by kernel_rfl) (fun _ _ _ h => h) (Or.inr ⟨by rfl, rfl⟩) (by assumption) ?_
        simp only [List.set_cons_zero, List.set_cons_succ]
        refine take_at (i := 21) (n := 65) (v := undef) rfl rfl (by kernel_rfl) (by kernel_rfl) (by kernel_rfl) (fun _ _ _ h => h) (Or.inr ⟨by rfl, rfl⟩) (by assumption) ?_
        simp only [List.set_cons_zero, List.set_cons_succ]
        refine take_at (i := 22) (n := 66) (v := undef) rfl rfl (by kernel_rfl) (by kernel_rfl) (by kernel_rfl) (fun _ _ _ h => h) (Or.inr ⟨by rfl, rfl⟩) (by assumption) ?_
        simp only [List.set_cons_zero, List.set_cons_succ]
        refine take_at (i := 23) (n := 67) (v := ?_) rfl rfl (by kernel_rfl) (by kernel_rfl) (by kernel_rfl) (fun _ _ _ h => h) (Or.inl ⟨by rfl, ?_⟩) (by assumption) ?_
        rotate_left 1
        · intro wz hSw
          obtain ⟨s0, s1⟩ := hSw
          first | (go_simp; done) | (go_simp; with_reducible rfl)
        simp only [List.set_cons_zero, List.set_cons_succ]
        refine take_at (i := 24) (n := 68) (v := ?_) rfl rfl (by kernel_rfl) (by kernel_rfl) (by kernel_rfl) (fun _ _ _ h => h) (Or.inl ⟨by rfl, ?_⟩) (by assumption) ?_
        rotate_left 1
        · intro wz hSw
          obtain ⟨s0, s1⟩ := hSw
          first | (go_simp; done) | (go_simp; with_reducible rfl)
        simp only [List.set_cons_zero, List.set_cons_succ]
        refine wpAnyH_done (by kernel_rfl) ?_ _
        refine NoPanic.normal ?_
        clear hHeld
        go_wp2_with fail
        obtain ⟨kn, hkn⟩ : ∃ kn : Nat, xk = (kn : Int) := ⟨xk.toNat, by have := decide_eq_false_iff_not.1 q1; omega⟩
        subst hkn
        have hknl : kn < l.length := by have := decide_eq_false_iff_not.1 q2; omega
        have hB0 : Below w3.heap.size w3 (wr.alloc (.cells #[.int .i64 (kn : Int), .int .i64 xa] 33)).drew := (below_seq HX.out.2.1 (below_new _ _)).drew
        have g0 : (wr.alloc (.cells #[.int .i64 (kn : Int), .int .i64 xa] 33)).drew.cell? ⟨wr.heap.size, 0, none⟩ = some (.int .i64 (kn : Int)) := by go_simp
        have g1 : (wr.alloc (.cells #[.int .i64 (kn : Int), .int .i64 xa] 33)).drew.cell? ⟨wr.heap.size, 1, none⟩ = some (.int .i64 xa) := by go_simp
        have H0 : Hid (Below w3.heap.size w3 (wr.alloc (.cells #[.int .i64 (kn : Int), .int .i64 xa] 33)).drew ∧ ∀ q u, (cs.flatMap Co.vals)[q]? = some u → (wr.alloc (.cells #[.int .i64 (kn : Int), .int .i64 xa] 33)).drew.cell? ⟨b1, o1 + q, none⟩ = some u) := ⟨hB0, fun q u hq => below_cell (below_new _ _).drew (HX.out.2.2 q u hq)⟩
        clear hB0 k0 k1
        generalize (wr.alloc (.cells #[.int .i64 (kn : Int), .int .i64 xa] 33)).drew = W0 at *
        generalize wr.heap.size = C at *
        have hlen : ts.length = l.length := by
          rcases HTM.out with ⟨h1, -, h2⟩ | ⟨-, h2 | ⟨-, us, -, -, h2⟩⟩
          · exact absurd (by rw [← h2]) h1
          · exact h2.2.1
          · cases h2
        obtain ⟨adl, cl, hel, -, hcapl, hrowl⟩ := HV.out.1.below (below_seq HB3.out.1 (below_seq HB3.out.2.2 H0.out.1))
        cases hel
        rcases hrowl with h | ⟨bl, ol, rfl, hrowl⟩
        · rw [h] at hknl; simp at hknl
        obtain ⟨adt, ct, het, -, hcapt, hrowt⟩ := HB3.out.2.1.below (below_seq HB3.out.2.2 H0.out.1)
        cases het
        rcases hrowt with h | ⟨bt, ot, rfl, hrowt⟩
        · rw [h] at hlen; simp at hlen; omega
        have hfk : l[kn]? = some (Fk l (kn : Int)) := by unfold Fk; rw [Int.toNat_natCast, List.getD_eq_getElem?_getD, List.getElem?_eq_getElem hknl]; rfl
        have htk : ts[kn]? = some (ts.getD kn 0) := by rw [List.getD_eq_getElem?_getD, List.getElem?_eq_getElem (by omega)]; rfl
        have g2 := (fr_at hrowl hfk).2.1
        have g3 := nu_at hrowt htk
        have HT : Hid ((Fk l (kn : Int)).t = (Fk l (kn : Int)).t ∧ ts.getD kn 0 = ts.getD kn 0) := ⟨rfl, rfl⟩
        have hkt : kn < ts.length := by omega
        clear hrowl hrowt hfk htk hlen
        obtain ⟨tt, htt⟩ : ∃ tt, (Fk l (kn : Int)).t = tt := ⟨_, rfl⟩
        obtain ⟨tv, htv⟩ : ∃ tv, ts.getD kn 0 = tv := ⟨_, rfl⟩
        rw [htt] at g2
        rw [htv] at g3
        have HTT : Hid ((Fk l (kn : Int)).t = tt ∧ ts.getD kn 0 = tv) := ⟨htt, htv⟩
        clear htt htv HT
        have hki : (kn : Int) < (l.length : Int) := by omega
        have hkti : (kn : Int) < (ts.length : Int) := by omega
        go_loopw [73] (fun iv wr => ∃ m : Nat, m ≤ j ∧ iv = .int .i64 (m : Int) ∧ Below W0.heap.size W0 wr ∧ Hid (∀ (q : Nat) (o : Co), q < m → cs[q]? = some o → o.k = (kn : Int) → tt ≤ IntKind.i64.wrap (xa - o.a))) (fun iv _ => j - (intOf iv).toNat)
        case atStart => exact ⟨0, Nat.zero_le _, rfl, Below.refl _ _, fun q o h => absurd h (Nat.not_lt_zero _)⟩
        case round =>
          obtain ⟨m, hm, rfl, hb, HQ⟩ := hrel
          have z0 := below_cell hb g0
          have z1 := below_cell hb g1
          have z2 := below_cell hb g2
          have z3 := below_cell hb g3
          have lc : C < wr.heap.size := World.block_lt_of_cell? _ _ z0
          have ll : bl < wr.heap.size := World.block_lt_of_cell? _ _ z2
          have lt : bt < wr.heap.size := World.block_lt_of_cell? _ _ z3
          have HB : Hid (Below W0.heap.size W0 wr) := hb
          by_cases hlm : m < j
          · have hmi : (m : Int) < (j : Int) := by omega
            obtain ⟨y', hy', -⟩ := drop_at (show m < cs.length by omega)
            obtain ⟨y0, y1⟩ := co_at (fun q u hq => below_cell hb (H0.out.2 q u hq)) hy'
            have lb2 : b1 < wr.heap.size := World.block_lt_of_cell? _ _ y0
            clear hb g0 g1 g2 g3
            obtain ⟨yk, hyk⟩ : ∃ yk, y'.k = yk := ⟨_, rfl⟩
            obtain ⟨ya', hya⟩ : ∃ ya', y'.a = ya' := ⟨_, rfl⟩
            rw [hyk] at y0
            rw [hya] at y1
            have HY : Hid (cs[m]? = some y' ∧ y'.k = yk ∧ y'.a = ya') := ⟨hy', hyk, hya⟩
            clear hy' hyk hya
            by_cases hk : yk = (kn : Int)
            · subst hk
              by_cases ht : IntKind.i64.wrap (xa - ya') < tt
              · have d2 : decide (IntKind.i64.wrap (xa - ya') < tt) = true := by simp [ht]
                go_wp2_with fail
                refine wp_region_noPanic ?_
                refine wp_region_held_drew (S := fun w' => w'.cell? ⟨wr.heap.size, 0, none⟩ = some (.int .i64 (kn : Int)) ∧ w'.cell? ⟨wr.heap.size, 1, none⟩ = some (.int .i64 ya') ∧ w'.cell? ⟨C, 0, none⟩ = some (.int .i64 (kn : Int)) ∧ w'.cell? ⟨C, 1, none⟩ = some (.int .i64 xa) ∧ w'.cell? ⟨bl, ol + kn * 4 + 1, none⟩ = some (.int .i64 tt)) (by kernel_rfl) (by refine ⟨?_, ?_, ?_, ?_, ?_⟩ <;> go_simp) (fun hHeld => ?_)
                refine take_at (i := 0) (n := 77) (v := ?_) rfl rfl (by kernel_rfl) (by kernel_rfl) (by kernel_rfl) (fun _ _ _ h => h) (Or.inl ⟨by rfl, ?_⟩) (by assumption) ?_
                rotate_left 1
                · intro wz hSw
                  obtain ⟨s0, s1, s2, s3, s4⟩ := hSw
                  first | (go_simp; done) | (go_simp; with_reducible rfl)
                simp only [List.set_cons_zero, List.set_cons_succ]
                refine take_at (i := 1) (n := 78) (v := ?_) rfl rfl (by kernel_rfl) (by kernel_rfl) (by kernel_rfl) (fun _ _ _ h => h) (Or.inl ⟨by rfl, ?_⟩) (by assumption) ?_
                rotate_left 1
                · intro wz hSw
                  obtain ⟨s0, s1, s2, s3, s4⟩ := hSw
                  first | (go_simp; done) | (go_simp; with_reducible rfl)
                simp only [List.set_cons_zero, List.set_cons_succ]
                refine take_at (i := 2) (n := 79) (v := ?_) rfl rfl (by kernel_rfl) (by kernel_rfl) (by kernel_rfl) (fun _ _ _ h => h) (Or.inl ⟨by rfl, ?_⟩) (by assumption) ?_
                rotate_left 1
                · intro wz hSw
                  obtain ⟨s0, s1, s2, s3, s4⟩ := hSw
                  first | (go_simp; done) | (go_simp; with_reducible rfl)
                simp only [List.set_cons_zero, List.set_cons_succ]
                refine take_at (i := 3) (n := 80) (v := ?_) rfl rfl (by kernel_rfl) (by kernel_rfl) (by kernel_rfl) (fun _ _ _ h => h) (Or.inl ⟨by rfl, ?_⟩) (by assumption) ?_
                rotate_left 1
                · intro wz hSw
                  obtain ⟨s0, s1, s2, s3, s4⟩ := hSw
                  first | (go_simp; done) | (go_simp; with_reducible rfl)
                simp only [List.set_cons_zero, List.set_cons_succ]
                refine take_at (i := 4) (n := 81) (v := ?_) rfl rfl (by kernel_rfl) (by kernel_rfl) (by kernel_rfl) (fun _ _ _ h => h) (Or.inl ⟨by rfl, ?_⟩) (by assumption) ?_
                rotate_left 1
                · intro wz hSw
                  obtain ⟨s0, s1, s2, s3, s4⟩ := hSw
                  first | (go_simp; done) | (go_simp; with_reducible rfl)
                simp only [List.set_cons_zero, List.set_cons_succ]
                refine take_at (i := 5) (n := 82) (v := ?_) rfl rfl (by kernel_rfl) (by kernel_rfl) (by kernel_rfl) (fun _ _ _ h => h) (Or.inl ⟨by rfl, ?_⟩) (by assumption) ?_
                rotate_left 1
                · intro wz hSw
                  obtain ⟨s0, s1, s2, s3, s4⟩ := hSw
                  first | (go_simp; done) | (go_simp; with_reducible rfl)
                simp only [List.set_cons_zero, List.set_cons_succ]
                refine take_at (i := 6) (n := 83) (v := ?_) rfl rfl (by kernel_rfl) (by kernel_rfl) (by kernel_rfl) (fun _ _ _ h => h) (Or.inl ⟨by rfl, ?_⟩) (by assumption) ?_
                rotate_left 1
                · intro wz hSw
                  obtain ⟨s0, s1, s2, s3, s4⟩ := hSw
                  first | (go_simp; done) | (go_simp; with_reducible rfl)
                simp only [List.set_cons_zero, List.set_cons_succ]
                refine take_at (i := 7) (n := 84) (v := ?_) rfl rfl (by kernel_rfl) (by kernel_rfl) (by kernel_rfl) (fun _ _ _ h => h) (Or.inl ⟨by rfl, ?_⟩) (by assumption) ?_
                rotate_left 1
                · intro wz hSw
                  obtain ⟨s0, s1, s2, s3, s4⟩ := hSw
                  first | (go_simp; done) | (go_simp; with_reducible rfl)
                simp only [List.set_cons_zero, List.set_cons_succ]
                refine take_at (i := 8) (n := 85) (v := ?_) rfl rfl (by kernel_rfl) (by kernel_rfl) (by kernel_rfl) (fun _ _ _ h => h) (Or.inl ⟨by rfl, ?_⟩) (by assumption) ?_
                rotate_left 1
                · intro wz hSw
                  obtain ⟨s0, s1, s2, s3, s4⟩ := hSw
                  first | (go_simp; done) | (go_simp; with_reducible rfl)
                simp only [List.set_cons_zero, List.set_cons_succ]
                refine take_at (i := 9) (n := 86) (v := ?_) rfl rfl (by kernel_rfl) (by kernel_rfl) (by kernel_rfl) (fun _ _ _ h => h) (Or.inl ⟨by rfl, ?_⟩) (by assumption) ?_
                rotate_left 1
                · intro wz hSw
                  obtain ⟨s0, s1, s2, s3, s4⟩ := hSw
                  first | (go_simp; done) | (go_simp; with_reducible rfl)
                simp only [List.set_cons_zero, List.set_cons_succ]
                refine take_at (i := 10) (n := 87) (v := ?_) rfl rfl (by kernel_rfl) (by kernel_rfl) (by kernel_rfl) (fun _ _ _ h => h) (Or.inl ⟨by rfl, ?_⟩) (by assumption) ?_
                rotate_left 1
                · intro wz hSw
                  obtain ⟨s0, s1, s2, s3, s4⟩ := hSw
                  first | (go_simp; done) | (go_simp; with_reducible rfl)
                simp only [List.set_cons_zero, List.set_cons_succ]
                refine take_at (i := 11) (n := 88) (v := ?_) rfl rfl (by kernel_rfl) (by kernel_rfl) (by kernel_rfl) (fun _ _ _ h => h) (Or.inl ⟨by rfl, ?_⟩) (by assumption) ?_
                rotate_left 1
                · intro wz hSw
                  obtain ⟨s0, s1, s2, s3, s4⟩ := hSw
                  first | (go_simp; done) | (go_simp; with_reducible rfl)
                simp only [List.set_cons_zero, List.set_cons_succ]
                refine take_at (i := 12) (n := 89) (v := ?_) rfl rfl (by kernel_rfl) (by kernel_rfl) (by kernel_rfl) (fun _ _ _ h => h) (Or.inl ⟨by rfl, ?_⟩) (by assumption) ?_
                rotate_left 1
                · intro wz hSw
                  obtain ⟨s0, s1, s2, s3, s4⟩ := hSw
                  first | (go_simp; done) | (go_simp; with_reducible rfl)
                simp only [List.set_cons_zero, List.set_cons_succ]
                refine take_at (i := 13) (n := 90) (v := ?_) rfl rfl (by kernel_rfl) (by kernel_rfl) (by kernel_rfl) (fun _ _ _ h => h) (Or.inl ⟨by rfl, ?_⟩) (by assumption) ?_
                rotate_left 1
                · intro wz hSw
                  obtain ⟨s0, s1, s2, s3, s4⟩ := hSw
                  first | (go_simp; done) | (go_simp; with_reducible rfl)
                simp only [List.set_cons_zero, List.set_cons_succ]
                refine take_at (i := 14) (n := 91) (v := ?_) rfl rfl (by kernel_rfl) (by kernel_rfl) (by kernel_rfl) (fun _ _ _ h => h) (Or.inl ⟨by rfl, ?_⟩) (by assumption) ?_
                rotate_left 1
                · intro wz hSw
                  obtain ⟨s0, s1, s2, s3, s4⟩ := hSw
                  first | (go_simp; done) | (go_simp; with_reducible rfl)
                simp only [List.set_cons_zero, List.set_cons_succ]
                refine take_at (i := 15) (n := 92) (v := ?_) rfl rfl (by kernel_rfl) (by kernel_rfl) (by kernel_rfl) (fun _ _ _ h => h) (Or.inl ⟨by rfl, ?_⟩) (by assumption) ?_
                rotate_left 1
                · intro wz hSw
                  obtain ⟨s0, s1, s2, s3, s4⟩ := hSw
                  first | (go_simp; done) | (go_simp; with_reducible rfl)
                simp only [List.set_cons_zero, List.set_cons_succ]
                refine take_at (i := 16) (n := 93) (v := ?_) rfl rfl (by kernel_rfl) (by kernel_rfl) (by kernel_rfl) (fun _ _ _ h => h) (Or.inl ⟨by rfl, ?_⟩) (by assumption) ?_
                rotate_left 1
                · intro wz hSw
                  obtain ⟨s0, s1, s2, s3, s4⟩ := hSw
                  first | (go_simp; done) | (go_simp; with_reducible rfl)
                simp only [List.set_cons_zero, List.set_cons_succ]
                refine take_at (i := 17) (n := 94) (v := ?_) rfl rfl (by kernel_rfl) (by kernel_rfl) (by kernel_rfl) (fun _ _ _ h => h) (Or.inl ⟨by rfl, ?_⟩) (by assumption) ?_
                rotate_left 1
                · intro wz hSw
                  obtain ⟨s0, s1, s2, s3, s4⟩ := hSw
                  first | (go_simp; done) | (go_simp; with_reducible rfl)
                simp only [List.set_cons_zero, List.set_cons_succ]
                refine take_at (i := 18) (n := 95) (v := ?_) rfl rfl (by kernel_rfl) (by kernel_rfl) (by kernel_rfl) (fun _ _ _ h => h) (Or.inl ⟨by rfl, ?_⟩) (by assumption) ?_
                rotate_left 1
                · intro wz hSw
                  obtain ⟨s0, s1, s2, s3, s4⟩ := hSw
                  first | (go_simp; done) | (go_simp; with_reducible rfl)
                simp only [List.set_cons_zero, List.set_cons_succ]
                refine wpAnyH_done (by kernel_rfl) ?_ _
                refine NoPanic.normal ?_
                clear hHeld
                go_wp2_with fail
                go_ret
                exact ⟨rfl, below_seq HB3.out.1 (below_seq HB3.out.2.2 (below_seq H0.out.1 (below_seq HB.out (below_new _ _)).drew))⟩
              · have d2 : decide (IntKind.i64.wrap (xa - ya') < tt) = false := by simp; omega
                have HQ2 : Hid (∀ (q : Nat) (o : Co), q < m + 1 → cs[q]? = some o → o.k = (kn : Int) → tt ≤ IntKind.i64.wrap (xa - o.a)) := fun q o hq ho hok => by
                  by_cases hqm : q < m
                  · exact HQ.out q o hqm ho hok
                  · have : q = m := by omega
                    subst this
                    rw [HY.out.1] at ho
                    cases ho
                    rw [HY.out.2.2]
                    omega
                clear HQ ht
                go_wp2_with fail
                refine wp_region_noPanic ?_
                refine wp_region_held_drew (S := fun w' => w'.cell? ⟨wr.heap.size, 0, none⟩ = some (.int .i64 (kn : Int)) ∧ w'.cell? ⟨wr.heap.size, 1, none⟩ = some (.int .i64 ya') ∧ w'.cell? ⟨C, 0, none⟩ = some (.int .i64 (kn : Int)) ∧ w'.cell? ⟨C, 1, none⟩ = some (.int .i64 xa) ∧ w'.cell? ⟨bl, ol + kn * 4 + 1, none⟩ = some (.int .i64 tt)) (by kernel_rfl) (by refine ⟨?_, ?_, ?_, ?_, ?_⟩ <;> go_simp) (fun hHeld => ?_)
                refine take_at (i := 0) (n := 77) (v := ?_) rfl rfl (by kernel_rfl) (by kernel_rfl) (by kernel_rfl) (fun _ _ _ h => h) (Or.inl ⟨by rfl, ?_⟩) (by assumption) ?_
                rotate_left 1
                · intro wz hSw
                  obtain ⟨s0, s1, s2, s3, s4⟩ := hSw
                  first | (go_simp; done) | (go_simp; with_reducible rfl)
                simp only [List.set_cons_zero, List.set_cons_succ]
                refine take_at (i := 1) (n := 78) (v := ?_) rfl rfl (by kernel_rfl) (by kernel_rfl) (by kernel_rfl) (fun _ _ _ h => h) (Or.inl ⟨by rfl, ?_⟩) (by assumption) ?_
                rotate_left 1
                · intro wz hSw
                  obtain ⟨s0, s1, s2, s3, s4⟩ := hSw
                  first | (go_simp; done) | (go_simp; with_reducible rfl)
                simp only [List.set_cons_zero, List.set_cons_succ]
                refine take_at (i := 2) (n := 79) (v := ?_) rfl rfl (by kernel_rfl) (by kernel_rfl) (by kernel_rfl) (fun _ _ _ h => h) (Or.inl ⟨by rfl, ?_⟩) (by assumption) ?_
                rotate_left 1
                · intro wz hSw
                  obtain ⟨s0, s1, s2, s3, s4⟩ := hSw
                  first | (go_simp; done) | (go_simp; with_reducible rfl)
                simp only [List.set_cons_zero, List.set_cons_succ]
                refine take_at (i := 3) (n := 80) (v := ?_) rfl rfl (by kernel_rfl) (by kernel_rfl) (by kernel_rfl) (fun _ _ _ h => h) (Or.inl ⟨by rfl, ?_⟩) (by assumption) ?_
                rotate_left 1
                · intro wz hSw
                  obtain ⟨s0, s1, s2, s3, s4⟩ := hSw
                  first | (go_simp; done) | (go_simp; with_reducible rfl)
                simp only [List.set_cons_zero, List.set_cons_succ]
                refine take_at (i := 4) (n := 81) (v := ?_) rfl rfl (by kernel_rfl) (by kernel_rfl) (by kernel_rfl) (fun _ _ _ h => h) (Or.inl ⟨by rfl, ?_⟩) (by assumption) ?_
                rotate_left 1
                · intro wz hSw
                  obtain ⟨s0, s1, s2, s3, s4⟩ := hSw
                  first | (go_simp; done) | (go_simp; with_reducible rfl)
                simp only [List.set_cons_zero, List.set_cons_succ]
                refine take_at (i := 5) (n := 82) (v := ?_) rfl rfl (by kernel_rfl) (by kernel_rfl) (by kernel_rfl) (fun _ _ _ h => h) (Or.inl ⟨by rfl, ?_⟩) (by assumption) ?_
                rotate_left 1
                · intro wz hSw
                  obtain ⟨s0, s1, s2, s3, s4⟩ := hSw
                  first | (go_simp; done) | (go_simp; with_reducible rfl)
                simp only [List.set_cons_zero, List.set_cons_succ]
                refine take_at (i := 6) (n := 83) (v := ?_) rfl rfl (by kernel_rfl) (by kernel_rfl) (by kernel_rfl) (fun _ _ _ h => h) (Or.inl ⟨by rfl, ?_⟩) (by assumption) ?_
                rotate_left 1
                · intro wz hSw
                  obtain ⟨s0, s1, s2, s3, s4⟩ := hSw
                  first | (go_simp; done) | (go_simp; with_reducible rfl)
                simp only [List.set_cons_zero, List.set_cons_succ]
                refine take_at (i := 7) (n := 84) (v := ?_) rfl rfl (by kernel_rfl) (by kernel_rfl) (by kernel_rfl) (fun _ _ _ h => h) (Or.inl ⟨by rfl, ?_⟩) (by assumption) ?_
                rotate_left 1
                · intro wz hSw
                  obtain ⟨s0, s1, s2, s3, s4⟩ := hSw
                  first | (go_simp; done) | (go_simp; with_reducible rfl)
                simp only [List.set_cons_zero, List.set_cons_succ]
                refine take_at (i := 8) (n := 85) (v := ?_) rfl rfl (by kernel_rfl) (by kernel_rfl) (by kernel_rfl) (fun _ _ _ h => h) (Or.inl ⟨by rfl, ?_⟩) (by assumption) ?_
                rotate_left 1
                · intro wz hSw
                  obtain ⟨s0, s1, s2, s3, s4⟩ := hSw
                  first | (go_simp; done) | (go_simp; with_reducible rfl)
                simp only [List.set_cons_zero, List.set_cons_succ]
                refine take_at (i := 9) (n := 86) (v := ?_) rfl rfl (by kernel_rfl) (by kernel_rfl) (by kernel_rfl) (fun _ _ _ h => h) (Or.inl ⟨by rfl, ?_⟩) (by assumption) ?_
                rotate_left 1
                · intro wz hSw
                  obtain ⟨s0, s1, s2, s3, s4⟩ := hSw
                  first | (go_simp; done) | (go_simp; with_reducible rfl)
                simp only [List.set_cons_zero, List.set_cons_succ]
                refine take_at (i := 10) (n := 87) (v := ?_) rfl rfl (by kernel_rfl) (by kernel_rfl) (by kernel_rfl) (fun _ _ _ h => h) (Or.inl ⟨by rfl, ?_⟩) (by assumption) ?_
                rotate_left 1
                · intro wz hSw
                  obtain ⟨s0, s1, s2, s3, s4⟩ := hSw
                  first | (go_simp; done) | (go_simp; with_reducible rfl)
                simp only [List.set_cons_zero, List.set_cons_succ]
                refine take_at (i := 11) (n := 88) (v := ?_) rfl rfl (by kernel_rfl) (by kernel_rfl) (by kernel_rfl) (fun _ _ _ h => h) (Or.inl ⟨by rfl, ?_⟩) (by assumption) ?_
                rotate_left 1
                · intro wz hSw
                  obtain ⟨s0, s1, s2, s3, s4⟩ := hSw
                  first | (go_simp; done) | (go_simp; with_reducible rfl)
                simp only [List.set_cons_zero, List.set_cons_succ]
                refine take_at (i := 12) (n := 89) (v := ?_) rfl rfl (by kernel_rfl) (by kernel_rfl) (by kernel_rfl) (fun _ _ _ h => h) (Or.inl ⟨by rfl, ?_⟩) (by assumption) ?_
                rotate_left 1
                · intro wz hSw
                  obtain ⟨s0, s1, s2, s3, s4⟩ := hSw
                  first | (go_simp; done) | (go_simp; with_reducible rfl)
                simp only [List.set_cons_zero, List.set_cons_succ]
                refine take_at (i := 13) (n := 90) (v := ?_) rfl rfl (by kernel_rfl) (by kernel_rfl) (by kernel_rfl) (fun _ _ _ h => h) (Or.inl ⟨by rfl, ?_⟩) (by assumption) ?_
                rotate_left 1
                · intro wz hSw
                  obtain ⟨s0, s1, s2, s3, s4⟩ := hSw
                  first | (go_simp; done) | (go_simp; with_reducible rfl)
                simp only [List.set_cons_zero, List.set_cons_succ]
                refine take_at (i := 14) (n := 91) (v := ?_) rfl rfl (by kernel_rfl) (by kernel_rfl) (by kernel_rfl) (fun _ _ _ h => h) (Or.inl ⟨by rfl, ?_⟩) (by assumption) ?_
                rotate_left 1
                · intro wz hSw
                  obtain ⟨s0, s1, s2, s3, s4⟩ := hSw
                  first | (go_simp; done) | (go_simp; with_reducible rfl)
                simp only [List.set_cons_zero, List.set_cons_succ]
                refine take_at (i := 15) (n := 92) (v := ?_) rfl rfl (by kernel_rfl) (by kernel_rfl) (by kernel_rfl) (fun _ _ _ h => h) (Or.inl ⟨by rfl, ?_⟩) (by assumption) ?_
                rotate_left 1
                · intro wz hSw
                  obtain ⟨s0, s1, s2, s3, s4⟩ := hSw
                  first | (go_simp; done) | (go_simp; with_reducible rfl)
                simp only [List.set_cons_zero, List.set_cons_succ]
                refine take_at (i := 16) (n := 93) (v := ?_) rfl rfl (by kernel_rfl) (by kernel_rfl) (by kernel_rfl) (fun _ _ _ h => h) (Or.inl ⟨by rfl, ?_⟩) (by assumption) ?_
                rotate_left 1
                · intro wz hSw
                  obtain ⟨s0, s1, s2, s3, s4⟩ := hSw
                  first | (go_simp; done) | (go_simp; with_reducible rfl)
                simp only [List.set_cons_zero, List.set_cons_succ]
                refine take_at (i := 17) (n := 94) (v := ?_) rfl rfl (by kernel_rfl) (by kernel_rfl) (by kernel_rfl) (fun _ _ _ h => h) (Or.inl ⟨by rfl, ?_⟩) (by assumption) ?_
                rotate_left 1
                · intro wz hSw
                  obtain ⟨s0, s1, s2, s3, s4⟩ := hSw
                  first | (go_simp; done) | (go_simp; with_reducible rfl)
                simp only [List.set_cons_zero, List.set_cons_succ]
                refine take_at (i := 18) (n := 95) (v := ?_) rfl rfl (by kernel_rfl) (by kernel_rfl) (by kernel_rfl) (fun _ _ _ h => h) (Or.inl ⟨by rfl, ?_⟩) (by assumption) ?_
                rotate_left 1
                · intro wz hSw
                  obtain ⟨s0, s1, s2, s3, s4⟩ := hSw
                  first | (go_simp; done) | (go_simp; with_reducible rfl)
                simp only [List.set_cons_zero, List.set_cons_succ]
                refine wpAnyH_done (by kernel_rfl) ?_ _
                refine NoPanic.normal ?_
                clear hHeld
                go_wp2_with fail
                exact ⟨⟨m + 1, by omega, by simp, (below_seq HB.out (below_new _ _)).drew, HQ2⟩, by simp [intOf]; omega⟩
            · have d1 : decide (yk = (kn : Int)) = false := by simp [hk]
              have d1' : (yk == (kn : Int)) = false := by simp [hk]
              have HQ2 : Hid (∀ (q : Nat) (o : Co), q < m + 1 → cs[q]? = some o → o.k = (kn : Int) → tt ≤ IntKind.i64.wrap (xa - o.a)) := fun q o hq ho hok => by
                by_cases hqm : q < m
                · exact HQ.out q o hqm ho hok
                · have : q = m := by omega
                  subst this
                  rw [HY.out.1] at ho
                  cases ho
                  exact absurd (HY.out.2.1.symm.trans hok) hk
              have hk' : ¬ yk = (kn : Int) := hk
              clear HQ
              go_wp2_with fail
              refine wp_region_noPanic ?_
              refine wp_region_held_drew (S := fun w' => w'.cell? ⟨wr.heap.size, 0, none⟩ = some (.int .i64 yk) ∧ w'.cell? ⟨wr.heap.size, 1, none⟩ = some (.int .i64 ya') ∧ w'.cell? ⟨C, 0, none⟩ = some (.int .i64 (kn : Int)) ∧ w'.cell? ⟨C, 1, none⟩ = some (.int .i64 xa) ∧ w'.cell? ⟨bl, ol + kn * 4 + 1, none⟩ = some (.int .i64 tt)) (by kernel_rfl) (by refine ⟨?_, ?_, ?_, ?_, ?_⟩ <;> go_simp) (fun hHeld => ?_)
              refine take_at (i := 0) (n := 77) (v := ?_) rfl rfl (by kernel_rfl) (by kernel_rfl) (by kernel_rfl) (fun _ _ _ h => h) (Or.inl ⟨by rfl, ?_⟩) (by assumption) ?_
              rotate_left 1
              · intro wz hSw
                obtain ⟨s0, s1, s2, s3, s4⟩ := hSw
                first | (go_simp; done) | (go_simp; with_reducible rfl)
              simp only [List.set_cons_zero, List.set_cons_succ]
              refine take_at (i := 1) (n := 78) (v := ?_) rfl rfl (by kernel_rfl) (by kernel_rfl) (by kernel_rfl) (fun _ _ _ h => h) (Or.inl ⟨by rfl, ?_⟩) (by assumption) ?_
              rotate_left 1
              · intro wz hSw
                obtain ⟨s0, s1, s2, s3, s4⟩ := hSw
                first | (go_simp; done) | (go_simp; with_reducible rfl)
              simp only [List.set_cons_zero, List.set_cons_succ]
              refine take_at (i := 2) (n := 79) (v := ?_) rfl rfl (by kernel_rfl) (by kernel_rfl) (by kernel_rfl) (fun _ _ _ h => h) (Or.inl ⟨by rfl, ?_⟩) (by assumption) ?_
              rotate_left 1
              · intro wz hSw
                obtain ⟨s0, s1, s2, s3, s4⟩ := hSw
                first | (go_simp; done) | (go_simp; with_reducible rfl)
              simp only [List.set_cons_zero, List.set_cons_succ]
              refine take_at (i := 3) (n := 80) (v := ?_) rfl rfl (by kernel_rfl) (by kernel_rfl) (by kernel_rfl) (fun _ _ _ h => h) (Or.inl ⟨by rfl, ?_⟩) (by assumption) ?_
              rotate_left 1
              · intro wz hSw
                obtain ⟨s0, s1, s2, s3, s4⟩ := hSw
                first | (go_simp; done) | (go_simp; with_reducible rfl)
              simp only [List.set_cons_zero, List.set_cons_succ]
              refine take_at (i := 4) (n := 81) (v := ?_) rfl rfl (by kernel_rfl) (by kernel_rfl) (by kernel_rfl) (fun _ _ _ h => h) (Or.inl ⟨by rfl, ?_⟩) (by assumption) ?_
              rotate_left 1
              · intro wz hSw
                obtain ⟨s0, s1, s2, s3, s4⟩ := hSw
                first | (go_simp; done) | (go_simp; with_reducible rfl)
              simp only [List.set_cons_zero, List.set_cons_succ]
              refine take_at (i := 5) (n := 82) (v := ?_) rfl rfl (by kernel_rfl) (by kernel_rfl) (by kernel_rfl) (fun _ _ _ h => h) (Or.inl ⟨by rfl, ?_⟩) (by assumption) ?_
              rotate_left 1
              · intro wz hSw
                obtain ⟨s0, s1, s2, s3, s4⟩ := hSw
                first | (go_simp; done) | (go_simp; with_reducible rfl)
              simp only [List.set_cons_zero, List.set_cons_succ]
              refine take_at (i := 6) (n := 83) (v := undef) rfl rfl (by kernel_rfl) (by kernel_rfl) (by kernel_rfl) (fun _ _ _ h => h) (Or.inr ⟨by rfl, rfl⟩) (by assumption) ?_
              simp only [List.set_cons_zero, List.set_cons_succ]
              refine take_at (i := 7) (n := 84) (v := undef) rfl rfl (by kernel_rfl) (by kernel_rfl) (by kernel_rfl) (fun _ _ _ h => h) (Or.inr ⟨by rfl, rfl⟩) (by assumption) ?_
              simp only [List.set_cons_zero, List.set_cons_succ]
              refine take_at (i := 8) (n := 85) (v := undef) rfl rfl (by kernel_rfl) (by kernel_rfl) (by kernel_rfl) (fun _ _ _ h => h) (Or.inr ⟨by rfl, rfl⟩) (by assumption) ?_
              simp only [List.set_cons_zero, List.set_cons_succ]
              refine take_at (i := 9) (n := 86) (v := undef) rfl rfl (by kernel_rfl) (by kernel_rfl) (by kernel_rfl) (fun _ _ _ h => h) (Or.inr ⟨by rfl, rfl⟩) (by assumption) ?_
              simp only [List.set_cons_zero, List.set_cons_succ]
              refine take_at (i := 10) (n := 87) (v := undef) rfl rfl (by kernel_rfl) (by kernel_rfl) (by kernel_rfl) (fun _ _ _ h => h) (Or.inr ⟨by rfl, rfl⟩) (by assumption) ?_
              simp only [List.set_cons_zero, List.set_cons_succ]
              refine take_at (i := 11) (n := 88) (v := undef) rfl rfl (by kernel_rfl) (by kernel_rfl) (by kernel_rfl) (fun _ _ _ h => h) (Or.inr ⟨by rfl, rfl⟩) (by assumption) ?_
              simp only [List.set_cons_zero, List.set_cons_succ]
              refine take_at (i := 12) (n := 89) (v := undef) rfl rfl (by kernel_rfl) (by kernel_rfl) (by kernel_rfl) (fun _ _ _ h => h) (Or.inr ⟨by rfl, rfl⟩) (by assumption) ?_
              simp only [List.set_cons_zero, List.set_cons_succ]
              refine take_at (i := 13) (n := 90) (v := undef) rfl rfl (by kernel_rfl) (by kernel_rfl) (by kernel_rfl) (fun _ _ _ h => h) (Or.inr ⟨by rfl, rfl⟩) (by assumption) ?_
              simp only [List.set_cons_zero, List.set_cons_succ]
              refine take_at (i := 14) (n := 91) (v := undef) rfl rfl (by kernel_rfl) (by kernel_rfl) (by kernel_rfl) (fun _ _ _ h => h) (Or.inr ⟨by rfl, rfl⟩) (by assumption) ?_
              simp only [List.set_cons_zero, List.set_cons_succ]
              refine take_at (i := 15) (n := 92) (v := undef) rfl rfl (by kernel_rfl) (by kernel_rfl) (by kernel_rfl) (fun _ _ _ h => h) (Or.inr ⟨by rfl, rfl⟩) (by assumption) ?_
              simp only [List.set_cons_zero, List.set_cons_succ]
              refine take_at (i := 16) (n := 93) (v := undef) rfl rfl (by kernel_rfl) (by kernel_rfl) (by kernel_rfl) (fun _ _ _ h => h) (Or.inr ⟨by rfl, rfl⟩) (by assumption) ?_
              simp only [List.set_cons_zero, List.set_cons_succ]
              refine take_at (i := 17) (n := 94) (v := undef) rfl rfl (by kernel_rfl) (by kernel_rfl) (by kernel_rfl) (fun _ _ _ h => h) (Or.inr ⟨by rfl, rfl⟩) (by assumption) ?_
              simp only [List.set_cons_zero, List.set_cons_succ]
              refine take_at (i := 18) (n := 95) (v := ?_) rfl rfl (by kernel_rfl) (by kernel_rfl) (by kernel_rfl) (fun _ _ _ h => h) (Or.inl ⟨by rfl, ?_⟩) (by assumption) ?_
              rotate_left 1
              · intro wz hSw
                obtain ⟨s0, s1, s2, s3, s4⟩ := hSw
                first | (go_simp; done) | (go_simp; with_reducible rfl)
              simp only [List.set_cons_zero, List.set_cons_succ]
              refine wpAnyH_done (by kernel_rfl) ?_ _
              refine NoPanic.normal ?_
              clear hHeld
              go_wp2_with fail
              exact ⟨⟨m + 1, by omega, by simp, (below_seq HB.out (below_new _ _)).drew, HQ2⟩, by simp [intOf]; omega⟩
          · have hme : m = j := by omega
            subst hme
            clear hb g0 g1 g2 g3
            have HN := HS.out.next HX.out.1 (by rw [HXK.out.1]; omega) (by rw [HXK.out.1]; exact hki) (fun q o hq ho hok => by rw [HXK.out.1] at hok ⊢; rw [HXK.out.2, HTT.out.1]; exact HQ.out q o hq ho hok)
            rw [HXK.out.1, HXK.out.2, Int.toNat_natCast, HTT.out.2] at HN
            have HN' : Hid (Seen l cs ts (m + 1) (max e (IntKind.i64.wrap (xa + tv)))) := HN
            clear HN HQ HS HXK
            generalize hmx : IntKind.i64.wrap (xa + tv) = mx at *
            go_wp2_with fail
            refine wp_region_noPanic ?_
            refine wp_region_held_drew (S := fun w' => w'.cell? ⟨C, 0, none⟩ = some (.int .i64 (kn : Int)) ∧ w'.cell? ⟨C, 1, none⟩ = some (.int .i64 xa) ∧ w'.cell? ⟨bt, ot + kn, none⟩ = some (.int .i64 tv)) (by kernel_rfl) (by refine ⟨?_, ?_, ?_⟩ <;> go_simp) (fun hHeld => ?_)
            refine take_at (i := 0) (n := 97) (v := ?_) rfl rfl (by kernel_rfl) (by kernel_rfl) (by kernel_rfl) (fun _ _ _ h => h) (Or.inl ⟨by rfl, ?_⟩) (by assumption) ?_
            rotate_left 1
            · intro wz hSw
              obtain ⟨s0, s1, s2⟩ := hSw
              first | (go_simp; done) | (go_simp; with_reducible rfl)
            simp only [List.set_cons_zero, List.set_cons_succ]
            refine take_at (i := 1) (n := 98) (v := ?_) rfl rfl (by kernel_rfl) (by kernel_rfl) (by kernel_rfl) (fun _ _ _ h => h) (Or.inl ⟨by rfl, ?_⟩) (by assumption) ?_
            rotate_left 1
            · intro wz hSw
              obtain ⟨s0, s1, s2⟩ := hSw
              first | (go_simp; done) | (go_simp; with_reducible rfl)
            simp only [List.set_cons_zero, List.set_cons_succ]
            refine take_at (i := 2) (n := 99) (v := ?_) rfl rfl (by kernel_rfl) (by kernel_rfl) (by kernel_rfl) (fun _ _ _ h => h) (Or.inl ⟨by rfl, ?_⟩) (by assumption) ?_
            rotate_left 1
            · intro wz hSw
              obtain ⟨s0, s1, s2⟩ := hSw
              first | (go_simp; done) | (go_simp; with_reducible rfl)
            simp only [List.set_cons_zero, List.set_cons_succ]
            refine take_at (i := 3) (n := 100) (v := ?_) rfl rfl (by kernel_rfl) (by kernel_rfl) (by kernel_rfl) (fun _ _ _ h => h) (Or.inl ⟨by rfl, ?_⟩) (by assumption) ?_
            rotate_left 1
            · intro wz hSw
              obtain ⟨s0, s1, s2⟩ := hSw
              first | (go_simp; done) | (go_simp; with_reducible rfl)
            simp only [List.set_cons_zero, List.set_cons_succ]
            refine take_at (i := 4) (n := 101) (v := ?_) rfl rfl (by kernel_rfl) (by kernel_rfl) (by kernel_rfl) (fun _ _ _ h => h) (Or.inl ⟨by rfl, ?_⟩) (by assumption) ?_
            rotate_left 1
            · intro wz hSw
              obtain ⟨s0, s1, s2⟩ := hSw
              first | (go_simp; done) | (go_simp; with_reducible rfl)
            simp only [List.set_cons_zero, List.set_cons_succ]
            refine take_at (i := 5) (n := 102) (v := ?_) rfl rfl (by kernel_rfl) (by kernel_rfl) (by kernel_rfl) (fun _ _ _ h => h) (Or.inl ⟨by rfl, ?_⟩) (by assumption) ?_
            rotate_left 1
            · intro wz hSw
              obtain ⟨s0, s1, s2⟩ := hSw
              first | (go_simp; done) | (go_simp; with_reducible rfl)
            simp only [List.set_cons_zero, List.set_cons_succ]
            refine take_at (i := 6) (n := 103) (v := ?_) rfl rfl (by kernel_rfl) (by kernel_rfl) (by kernel_rfl) (fun _ _ _ h => h) (Or.inl ⟨by rfl, ?_⟩) (by assumption) ?_
            rotate_left 1
            · intro wz hSw
              obtain ⟨s0, s1, s2⟩ := hSw
              first | (go_simp; done) | (go_simp; with_reducible rfl)
            simp only [List.set_cons_zero, List.set_cons_succ]
            refine take_at (i := 7) (n := 104) (v := ?_) rfl rfl (by kernel_rfl) (by kernel_rfl) (by kernel_rfl) (fun _ _ _ h => h) (Or.inl ⟨by rfl, ?_⟩) (by assumption) ?_
            rotate_left 1
            · intro wz hSw
              obtain ⟨s0, s1, s2⟩ := hSw
              first | (go_simp; done) | (go_simp; with_reducible rfl)
            simp only [List.set_cons_zero, List.set_cons_succ]
            refine take_at (i := 8) (n := 105) (v := ?_) rfl rfl (by kernel_rfl) (by kernel_rfl) (by kernel_rfl) (fun _ _ _ h => h) (Or.inl ⟨by rfl, ?_⟩) (by assumption) ?_
            rotate_left 1
            · intro wz hSw
              obtain ⟨s0, s1, s2⟩ := hSw
              first | (go_simp; done) | (go_simp; with_reducible rfl)
            simp only [List.set_cons_zero, List.set_cons_succ]
            refine take_at (i := 9) (n := 106) (v := ?_) rfl rfl (by kernel_rfl) (by kernel_rfl) (by kernel_rfl) (fun _ _ _ h => h) (Or.inl ⟨by rfl, ?_⟩) (by assumption) ?_
            rotate_left 1
            · intro wz hSw
              obtain ⟨s0, s1, s2⟩ := hSw
              first | (go_simp; done) | (go_simp; with_reducible rfl)
            simp only [List.set_cons_zero, List.set_cons_succ]
            refine take_at (i := 10) (n := 9) (v := ?_) rfl rfl (by kernel_rfl) (by kernel_rfl) (by kernel_rfl) (fun _ _ _ h => h) (Or.inl ⟨by rfl, ?_⟩) (by assumption) ?_
            rotate_left 1
            · intro wz hSw
              obtain ⟨s0, s1, s2⟩ := hSw
              first | (go_simp; done) | (go_simp; with_reducible rfl)
            simp only [List.set_cons_zero, List.set_cons_succ]
            refine wpAnyH_done (by kernel_rfl) ?_ _
            refine NoPanic.normal ?_
            clear hHeld
            go_wp2_with fail
            exact ⟨⟨m + 1, max e mx, by omega, rfl, by simp, (below_seq H0.out.1 HB.out).drew, HN'⟩, by simp [intOf]; omega⟩
      · have hjj : jj < cs.length := by omega
        obtain ⟨y, hy, -⟩ := drop_at hjj
        obtain ⟨-, k3⟩ := co_at HX.out.2.2 hy
        have e3 : IntKind.i64.wrap ((j : Int) - 1) = (jj : Int) := by rw [IntKind.wrap_i64]; omega
        have q3 : decide ((0 : Int) < (j : Int)) = true := by first | (simp; done) | (simp; omega)
        have q5 : decide (0 < j) = true := by first | (simp; done) | (simp; omega)
        have hjj' : (jj : Int) < (cs.length : Int) := by omega
        generalize y.a = ya at *
        clear hy hj0
        by_cases n3 : xa < ya
        · have q4 : decide (xa < ya) = true := by simp [n3]
          go_wp2_with fail
          refine wp_region_noPanic ?_
          refine wp_region_held_drew (S := fun w' => w'.cell? ⟨wr.heap.size, 0, none⟩ = some (.int .i64 xk) ∧ w'.cell? ⟨wr.heap.size, 1, none⟩ = some (.int .i64 xa) ∧ w'.cell? ⟨b1, o1 + jj * 2 + 1, none⟩ = some (.int .i64 ya)) (by kernel_rfl) (by refine ⟨?_, ?_, ?_⟩ <;> go_simp) (fun hHeld => ?_)
          refine take_at (i := 0) (n := 44) (v := ?_) rfl rfl (by kernel_rfl) (by kernel_rfl) (by kernel_rfl) (fun _ _ _ h => h) (Or.inl ⟨by rfl, ?_⟩) (by assumption) ?_
          rotate_left 1
          · intro wz hSw
            obtain ⟨s0, s1, s2⟩ := hSw
            first | (go_simp; done) | (go_simp; with_reducible rfl)
          simp only [List.set_cons_zero, List.set_cons_succ]
          refine take_at (i := 1) (n := 45) (v := ?_) rfl rfl (by kernel_rfl) (by kernel_rfl) (by kernel_rfl) (fun _ _ _ h => h) (Or.inl ⟨by rfl, ?_⟩) (by assumption) ?_
          rotate_left 1
          · intro wz hSw
            obtain ⟨s0, s1, s2⟩ := hSw
            first | (go_simp; done) | (go_simp; with_reducible rfl)
          simp only [List.set_cons_zero, List.set_cons_succ]
          refine take_at (i := 2) (n := 46) (v := ?_) rfl rfl (by kernel_rfl) (by kernel_rfl) (by kernel_rfl) (fun _ _ _ h => h) (Or.inl ⟨by rfl, ?_⟩) (by assumption) ?_
          rotate_left 1
          · intro wz hSw
            obtain ⟨s0, s1, s2⟩ := hSw
            first | (go_simp; done) | (go_simp; with_reducible rfl)
          simp only [List.set_cons_zero, List.set_cons_succ]
          refine take_at (i := 3) (n := 47) (v := ?_) rfl rfl (by kernel_rfl) (by kernel_rfl) (by kernel_rfl) (fun _ _ _ h => h) (Or.inl ⟨by rfl, ?_⟩) (by assumption) ?_
          rotate_left 1
          · intro wz hSw
            obtain ⟨s0, s1, s2⟩ := hSw
            first | (go_simp; done) | (go_simp; with_reducible rfl)
          simp only [List.set_cons_zero, List.set_cons_succ]
          refine take_at (i := 4) (n := 48) (v := ?_) rfl rfl (by kernel_rfl) (by kernel_rfl) (by kernel_rfl) (fun _ _ _ h => h) (Or.inl ⟨by rfl, ?_⟩) (by assumption) ?_
          rotate_left 1
          · intro wz hSw
            obtain ⟨s0, s1, s2⟩ := hSw
            first | (go_simp; done) | (go_simp; with_reducible rfl)
          simp only [List.set_cons_zero, List.set_cons_succ]
          refine take_at (i := 5) (n := 49) (v := ?_) rfl rfl (by kernel_rfl) (by kernel_rfl) (by kernel_rfl) (fun _ _ _ h => h) (Or.inl ⟨by rfl, ?_⟩) (by assumption) ?_
          rotate_left 1
          · intro wz hSw
            obtain ⟨s0, s1, s2⟩ := hSw
            first | (go_simp; done) | (go_simp; with_reducible rfl)
          simp only [List.set_cons_zero, List.set_cons_succ]
          refine take_at (i := 6) (n := 50) (v := ?_) rfl rfl (by kernel_rfl) (by kernel_rfl) (by kernel_rfl) (fun _ _ _ h => h) (Or.inl ⟨by rfl, ?_⟩) (by assumption) ?_
          rotate_left 1
          · intro wz hSw
            obtain ⟨s0, s1, s2⟩ := hSw
            first | (go_simp; done) | (go_simp; with_reducible rfl)
          simp only [List.set_cons_zero, List.set_cons_succ]
          refine take_at (i := 7) (n := 51) (v := ?_) rfl rfl (by kernel_rfl) (by kernel_rfl) (by kernel_rfl) (fun _ _ _ h => h) (Or.inl ⟨by rfl, ?_⟩) (by assumption) ?_
          rotate_left 1
          · intro wz hSw
            obtain ⟨s0, s1, s2⟩ := hSw
            first | (go_simp; done) | (go_simp; with_reducible rfl)
          simp only [List.set_cons_zero, List.set_cons_succ]
          refine take_at (i := 8) (n := 52) (v := ?_) rfl rfl (by kernel_rfl) (by kernel_rfl) (by kernel_rfl) (fun _ _ _ h => h) (Or.inl ⟨by rfl, ?_⟩) (by assumption) ?_
          rotate_left 1
          · intro wz hSw
            obtain ⟨s0, s1, s2⟩ := hSw
            first | (go_simp; done) | (go_simp; with_reducible rfl)
          simp only [List.set_cons_zero, List.set_cons_succ]
          refine take_at (i := 9) (n := 53) (v := ?_) rfl rfl (by kernel_rfl) (by kernel_rfl) (by kernel_rfl) (fun _ _ _ h => h) (Or.inl ⟨by rfl, ?_⟩) (by assumption) ?_
          rotate_left 1
          · intro wz hSw
            obtain ⟨s0, s1, s2⟩ := hSw
            first | (go_simp; done) | (go_simp; with_reducible rfl)
          simp only [List.set_cons_zero, List.set_cons_succ]
          refine take_at (i := 10) (n := 54) (v := ?_) rfl rfl (by kernel_rfl) (by kernel_rfl) (by kernel_rfl) (fun _ _ _ h => h) (Or.inl ⟨by rfl, ?_⟩) (by assumption) ?_
          rotate_left 1
          · intro wz hSw
            obtain ⟨s0, s1, s2⟩ := hSw
            first | (go_simp; done) | (go_simp; with_reducible rfl)
          simp only [List.set_cons_zero, List.set_cons_succ]
          refine take_at (i := 11) (n := 55) (v := ?_) rfl rfl (by kernel_rfl) (by kernel_rfl) (by kernel_rfl) (fun _ _ _ h => h) (Or.inl ⟨by rfl, ?_⟩) (by assumption) ?_
          rotate_left 1
          · intro wz hSw
            obtain ⟨s0, s1, s2⟩ := hSw
            first | (go_simp; done) | (go_simp; with_reducible rfl)
          simp only [List.set_cons_zero, List.set_cons_succ]
          refine take_at (i := 12) (n := 56) (v := ?_) rfl rfl (by kernel_rfl) (by kernel_rfl) (by kernel_rfl) (fun _ _ _ h => h) (Or.inl ⟨by rfl, ?_⟩) (by assumption) ?_
          rotate_left 1
          · intro wz hSw
            obtain ⟨s0, s1, s2⟩ := hSw
            first | (go_simp; done) | (go_simp; with_reducible rfl)
          simp only [List.set_cons_zero, List.set_cons_succ]
          refine take_at (i := 13) (n := 57) (v := ?_) rfl rfl (by kernel_rfl) (by kernel_rfl) (by kernel_rfl) (fun _ _ _ h => h) (Or.inl ⟨by rfl, ?_⟩) (by assumption) ?_
          rotate_left 1
          · intro wz hSw
            obtain ⟨s0, s1, s2⟩ := hSw
            first | (go_simp; done) | (go_simp; with_reducible rfl)
          simp only [List.set_cons_zero, List.set_cons_succ]
          refine take_at (i := 14) (n := 58) (v := ?_) rfl rfl (by kernel_rfl) (by kernel_rfl) (by kernel_rfl) (fun _ _ _ h => h) (Or.inl ⟨by rfl, ?_⟩) (by assumption) ?_
          rotate_left 1
          · intro wz hSw
            obtain ⟨s0, s1, s2⟩ := hSw
            first | (go_simp; done) | (go_simp; with_reducible rfl)
          simp only [List.set_cons_zero, List.set_cons_succ]
          refine take_at (i := 15) (n := 59) (v := ?_) rfl rfl (by kernel_rfl) (by kernel_rfl) (by kernel_rfl) (fun _ _ _ h => h) (Or.inl ⟨by rfl, ?_⟩) (by assumption) ?_
          rotate_left 1
          · intro wz hSw
            obtain ⟨s0, s1, s2⟩ := hSw
            first | (go_simp; done) | (go_simp; with_reducible rfl)
          simp only [List.set_cons_zero, List.set_cons_succ]
          refine take_at (i := 16) (n := 60) (v := ?_) rfl rfl (by kernel_rfl) (by kernel_rfl) (by kernel_rfl) (fun _ _ _ h => h) (Or.inl ⟨by rfl, ?_⟩) (by assumption) ?_
          rotate_left 1
          · intro wz hSw
            obtain ⟨s0, s1, s2⟩ := hSw
            first | (go_simp; done) | (go_simp; with_reducible rfl)
          simp only [List.set_cons_zero, List.set_cons_succ]
          refine take_at (i := 17) (n := 61) (v := ?_) rfl rfl (by kernel_rfl) (by kernel_rfl) (by kernel_rfl) (fun _ _ _ h => h) (Or.inl ⟨by rfl, ?_⟩) (by assumption) ?_
          rotate_left 1
          · intro wz hSw
            obtain ⟨s0, s1, s2⟩ := hSw
            first | (go_simp; done) | (go_simp; with_reducible rfl)
          simp only [List.set_cons_zero, List.set_cons_succ]
          refine take_at (i := 18) (n := 62) (v := ?_) rfl rfl (by kernel_rfl) (by kernel_rfl) (by kernel_rfl) (fun _ _ _ h => h) (Or.inl ⟨by rfl, ?_⟩) (by assumption) ?_
          rotate_left 1
          · intro wz hSw
            obtain ⟨s0, s1, s2⟩ := hSw
            first | (go_simp; done) | (go_simp; with_reducible rfl)
          simp only [List.set_cons_zero, List.set_cons_succ]
          refine take_at (i := 19) (n := 63) (v := ?_) rfl rfl (by kernel_rfl) (by kernel_rfl) (by kernel_rfl) (fun _ _ _ h => h) (Or.inl ⟨by rfl, ?_⟩) (by assumption) ?_
          rotate_left 1
          · intro wz hSw
            obtain ⟨s0, s1, s2⟩ := hSw
            first | (go_simp; done) | (go_simp; with_reducible rfl)
          simp only [List.set_cons_zero, List.set_cons_succ]
          refine take_at (i := 20) (n := 64) (v := ?_) rfl rfl (by kernel_rfl) (by kernel_rfl) (by kernel_rfl) (fun _ _ _ h => h) (Or.inl ⟨by rfl, ?_⟩) (by assumption) ?_
          rotate_left 1
          · intro wz hSw
            obtain ⟨s0, s1, s2⟩ := hSw
            first | (go_simp; done) | (go_simp; with_reducible rfl)
          simp only [List.set_cons_zero, List.set_cons_succ]
          refine take_at (i := 21) (n := 65) (v := ?_) rfl rfl (by kernel_rfl) (by kernel_rfl) (by kernel_rfl) (fun _ _ _ h => h) (Or.inl ⟨by rfl, ?_⟩) (by assumption) ?_
          rotate_left 1
          · intro wz hSw
            obtain ⟨s0, s1, s2⟩ := hSw
            first | (go_simp; done) | (go_simp; with_reducible rfl)
          simp only [List.set_cons_zero, List.set_cons_succ]
          refine take_at (i := 22) (n := 66) (v := ?_) rfl rfl (by kernel_rfl) (by kernel_rfl) (by kernel_rfl) (fun _ _ _ h => h) (Or.inl ⟨by rfl, ?_⟩) (by assumption) ?_
          rotate_left 1
          · intro wz hSw
            obtain ⟨s0, s1, s2⟩ := hSw
            first | (go_simp; done) | (go_simp; with_reducible rfl)
          simp only [List.set_cons_zero, List.set_cons_succ]
          refine take_at (i := 23) (n := 67) (v := ?_) rfl rfl (by kernel_rfl) (by kernel_rfl) (by kernel_rfl) (fun _ _ _ h => h) (Or.inl ⟨by rfl, ?_⟩) (by assumption) ?_
          rotate_left 1
          · intro wz hSw
            obtain ⟨s0, s1, s2⟩ := hSw
            first | (go_simp; done) | (go_simp; with_reducible rfl)
          simp only [List.set_cons_zero, List.set_cons_succ]
          refine take_at (i := 24) (n := 68) (v := ?_) rfl rfl (by kernel_rfl) (by kernel_rfl) (by kernel_rfl) (fun _ _ _ h => h) (Or.inl ⟨by rfl, ?_⟩) (by assumption) ?_
          rotate_left 1
          · intro wz hSw
            obtain ⟨s0, s1, s2⟩ := hSw
            first | (go_simp; done) | (go_simp; with_reducible rfl)
          simp only [List.set_cons_zero, List.set_cons_succ]
          refine wpAnyH_done (by kernel_rfl) ?_ _
          refine NoPanic.normal ?_
          clear hHeld
          go_wp2_with fail
          go_ret
          exact ⟨rfl, (below_seq HB3.out.1 (below_seq HB3.out.2.2 (below_seq HX.out.2.1 (below_new _ _)))).drew⟩
        have q4 : decide (xa < ya) = false := by simp; omega
        go_wp2_with fail
        refine wp_region_noPanic ?_
        refine wp_region_held_drew (S := fun w' => w'.cell? ⟨wr.heap.size, 0, none⟩ = some (.int .i64 xk) ∧ w'.cell? ⟨wr.heap.size, 1, none⟩ = some (.int .i64 xa) ∧ w'.cell? ⟨b1, o1 + jj * 2 + 1, none⟩ = some (.int .i64 ya)) (by kernel_rfl) (by refine ⟨?_, ?_, ?_⟩ <;> go_simp) (fun hHeld => ?_)
        refine take_at (i := 0) (n := 44) (v := ?_) rfl rfl (by kernel_rfl) (by kernel_rfl) (by kernel_rfl) (fun _ _ _ h => h) (Or.inl ⟨by rfl, ?_⟩) (by assumption) ?_
        rotate_left 1
        · intro wz hSw
          obtain ⟨s0, s1, s2⟩ := hSw
          first | (go_simp; done) | (go_simp; with_reducible rfl)
        simp only [List.set_cons_zero, List.set_cons_succ]
        refine take_at (i := 1) (n := 45) (v := ?_) rfl rfl (by kernel_rfl) (by kernel_rfl) (by kernel_rfl) (fun _ _ _ h => h) (Or.inl ⟨by rfl, ?_⟩) (by assumption) ?_
        rotate_left 1
        · intro wz hSw
          obtain ⟨s0, s1, s2⟩ := hSw
          first | (go_simp; done) | (go_simp; with_reducible rfl)
        simp only [List.set_cons_zero, List.set_cons_succ]
        refine take_at (i := 2) (n := 46) (v := ?_) rfl rfl (by kernel_rfl) (by kernel_rfl) (by kernel_rfl) (fun _ _ _ h => h) (Or.inl ⟨by rfl, ?_⟩) (by assumption) ?_
        rotate_left 1
        · intro wz hSw
          obtain ⟨s0, s1, s2⟩ := hSw
          first | (go_simp; done) | (go_simp; with_reducible rfl)
        simp only [List.set_cons_zero, List.set_cons_succ]
        refine take_at (i := 3) (n := 47) (v := ?_) rfl rfl (by kernel_rfl) (by kernel_rfl) (by kernel_rfl) (fun _ _ _ h => h) (Or.inl ⟨by rfl, ?_⟩) (by assumption) ?_
        rotate_left 1
        · intro wz hSw
          obtain ⟨s0, s1, s2⟩ := hSw
          first | (go_simp; done) | (go_simp; with_reducible rfl)
        simp only [List.set_cons_zero, List.set_cons_succ]
        refine take_at (i := 4) (n := 48) (v := ?_) rfl rfl (by kernel_rfl) (by kernel_rfl) (by kernel_rfl) (fun _ _ _ h => h) (Or.inl ⟨by rfl, ?_⟩) (by assumption) ?_
        rotate_left 1
        · intro wz hSw
          obtain ⟨s0, s1, s2⟩ := hSw
          first | (go_simp; done) | (go_simp; with_reducible rfl)
        simp only [List.set_cons_zero, List.set_cons_succ]
        refine take_at (i := 5) (n := 49) (v := ?_) rfl rfl (by kernel_rfl) (by kernel_rfl) (by kernel_rfl) (fun _ _ _ h => h) (Or.inl ⟨by rfl, ?_⟩) (by assumption) ?_
        rotate_left 1
        · intro wz hSw
          obtain ⟨s0, s1, s2⟩ := hSw
          first | (go_simp; done) | (go_simp; with_reducible rfl)
        simp only [List.set_cons_zero, List.set_cons_succ]
        refine take_at (i := 6) (n := 50) (v := ?_) rfl rfl (by kernel_rfl) (by kernel_rfl) (by kernel_rfl) (fun _ _ _ h => h) (Or.inl ⟨by rfl, ?_⟩) (by assumption) ?_
        rotate_left 1
        · intro wz hSw
          obtain ⟨s0, s1, s2⟩ := hSw
          first | (go_simp; done) | (go_simp; with_reducible rfl)
        simp only [List.set_cons_zero, List.set_cons_succ]
        refine take_at (i := 7) (n := 51) (v := ?_) rfl rfl (by kernel_rfl) (by kernel_rfl) (by kernel_rfl) (fun _ _ _ h => h) (Or.inl ⟨by rfl, ?_⟩) (by assumption) ?_
        rotate_left 1
        · intro wz hSw
          obtain ⟨s0, s1, s2⟩ := hSw
          first | (go_simp; done) | (go_simp; with_reducible rfl)
        simp only [List.set_cons_zero, List.set_cons_succ]
        refine take_at (i := 8) (n := 52) (v := ?_) rfl rfl (by kernel_rfl) (by kernel_rfl) (by kernel_rfl) (fun _ _ _ h => h) (Or.inl ⟨by rfl, ?_⟩) (by assumption) ?_
        rotate_left 1
        · intro wz hSw
          obtain ⟨s0, s1, s2⟩ := hSw
          first | (go_simp; done) | (go_simp; with_reducible rfl)
        simp only [List.set_cons_zero, List.set_cons_succ]
        refine take_at (i := 9) (n := 53) (v := ?_) rfl rfl (by kernel_rfl) (by kernel_rfl) (by kernel_rfl) (fun _ _ _ h => h) (Or.inl ⟨by rfl, ?_⟩) (by assumption) ?_
        rotate_left 1
        · intro wz hSw
          obtain ⟨s0, s1, s2⟩ := hSw
          first | (go_simp; done) | (go_simp; with_reducible rfl)
        simp only [List.set_cons_zero, List.set_cons_succ]
        refine take_at (i := 10) (n := 54) (v := ?_) rfl rfl (by kernel_rfl) (by kernel_rfl) (by kernel_rfl) (fun _ _ _ h => h) (Or.inl ⟨by rfl, ?_⟩) (by assumption) ?_
        rotate_left 1
        · intro wz hSw
          obtain ⟨s0, s1, s2⟩ := hSw
          first | (go_simp; done) | (go_simp; with_reducible rfl)
        simp only [List.set_cons_zero, List.set_cons_succ]
        refine take_at (i := 11) (n := 55) (v := ?_) rfl rfl (by kernel_rfl) (by kernel_rfl) (by kernel_rfl) (fun _ _ _ h => h) (Or.inl ⟨by rfl, ?_⟩) (by assumption) ?_
        rotate_left 1
        · intro wz hSw
          obtain ⟨s0, s1, s2⟩ := hSw
          first | (go_simp; done) | (go_simp; with_reducible rfl)
        simp only [List.set_cons_zero, List.set_cons_succ]
        refine take_at (i := 12) (n := 56) (v := ?_) rfl rfl (by kernel_rfl) (by kernel_rfl) (by kernel_rfl) (fun _ _ _ h => h) (Or.inl ⟨by rfl, ?_⟩) (by assumption) ?_
        rotate_left 1
        · intro wz hSw
          obtain ⟨s0, s1, s2⟩ := hSw
          first | (go_simp; done) | (go_simp; with_reducible rfl)
        simp only [List.set_cons_zero, List.set_cons_succ]
        refine take_at (i := 13) (n := 57) (v := ?_) rfl rfl (by kernel_rfl) (by kernel_rfl) (by kernel_rfl) (fun _ _ _ h => h) (Or.inl ⟨by rfl, ?_⟩) (by assumption) ?_
        rotate_left 1
        · intro wz hSw
          obtain ⟨s0, s1, s2⟩ := hSw
          first | (go_simp; done) | (go_simp; with_reducible rfl)
        simp only [List.set_cons_zero, List.set_cons_succ]
        refine take_at (i := 14) (n := 58) (v := ?_) rfl rfl (by kernel_rfl) (by kernel_rfl) (by kernel_rfl) (fun _ _ _ h => h) (Or.inl ⟨by rfl, ?_⟩) (by assumption) ?_
        rotate_left 1
        · intro wz hSw
          obtain ⟨s0, s1, s2⟩ := hSw
          first | (go_simp; done) | (go_simp; with_reducible rfl)
        simp only [List.set_cons_zero, List.set_cons_succ]
        refine take_at (i := 15) (n := 59) (v := ?_) rfl rfl (by kernel_rfl) (by kernel_rfl) (by kernel_rfl) (fun _ _ _ h => h) (Or.inl ⟨by rfl, ?_⟩) (by assumption) ?_
        rotate_left 1
        · intro wz hSw
          obtain ⟨s0, s1, s2⟩ := hSw
          first | (go_simp; done) | (go_simp; with_reducible rfl)
        simp only [List.set_cons_zero, List.set_cons_succ]
        refine take_at (i := 16) (n := 60) (v := ?_) rfl rfl (by kernel_rfl) (by kernel_rfl) (by kernel_rfl) (fun _ _ _ h => h) (Or.inl ⟨by rfl, ?_⟩) (by assumption) ?_
        rotate_left 1
        · intro wz hSw
          obtain ⟨s0, s1, s2⟩ := hSw
          first | (go_simp; done) | (go_simp; with_reducible rfl)
        simp only [List.set_cons_zero, List.set_cons_succ]
        refine take_at (i := 17) (n := 61) (v := ?_) rfl rfl (by kernel_rfl) (by kernel_rfl) (by kernel_rfl) (fun _ _ _ h => h) (Or.inl ⟨by rfl, ?_⟩) (by assumption) ?_
        rotate_left 1
        · intro wz hSw
          obtain ⟨s0, s1, s2⟩ := hSw
          first | (go_simp; done) | (go_simp; with_reducible rfl)
        simp only [List.set_cons_zero, List.set_cons_succ]
        refine take_at (i := 18) (n := 62) (v := ?_) rfl rfl (by kernel_rfl) (by kernel_rfl) (by kernel_rfl) (fun _ _ _ h => h) (Or.inl ⟨by rfl, ?_⟩) (by assumption) ?_
        rotate_left 1
        · intro wz hSw
          obtain ⟨s0, s1, s2⟩ := hSw
          first | (go_simp; done) | (go_simp; with_reducible rfl)
        simp only [List.set_cons_zero, List.set_cons_succ]
        refine take_at (i := 19) (n := 63) (v := ?_) rfl rfl (by kernel_rfl) (by kernel_rfl) (by kernel_rfl) (fun _ _ _ h => h) (Or.inl ⟨by rfl, ?_⟩) (by assumption) ?_
        rotate_left 1
        · intro wz hSw
          obtain ⟨s0, s1, s2⟩ := hSw
          first | (go_simp; done) | (go_simp; with_reducible rfl)
        simp only [List.set_cons_zero, List.set_cons_succ]
        refine take_at (i := 20) (n := 64) (v := ?_) rfl rfl (by kernel_rfl) (by kernel_rfl) (by kernel_rfl) (fun _ _ _ h => h) (Or.inl ⟨by rfl, ?_⟩) (by assumption) ?_
        rotate_left 1
        · intro wz hSw
          obtain ⟨s0, s1, s2⟩ := hSw
          first | (go_simp; done) | (go_simp; with_reducible rfl)
        simp only [List.set_cons_zero, List.set_cons_succ]
        refine take_at (i := 21) (n := 65) (v := ?_) rfl rfl (by kernel_rfl) (by kernel_rfl) (by kernel_rfl) (fun _ _ _ h => h) (Or.inl ⟨by rfl, ?_⟩) (by assumption) ?_
        rotate_left 1
        · intro wz hSw
          obtain ⟨s0, s1, s2⟩ := hSw
          first | (go_simp; done) | (go_simp; with_reducible rfl)
        simp only [List.set_cons_zero, List.set_cons_succ]
        refine take_at (i := 22) (n := 66) (v := ?_) rfl rfl (by kernel_rfl) (by kernel_rfl) (by kernel_rfl) (fun _ _ _ h => h) (Or.inl ⟨by rfl, ?_⟩) (by assumption) ?_
        rotate_left 1
        · intro wz hSw
          obtain ⟨s0, s1, s2⟩ := hSw
          first | (go_simp; done) | (go_simp; with_reducible rfl)
        simp only [List.set_cons_zero, List.set_cons_succ]
        refine take_at (i := 23) (n := 67) (v := ?_) rfl rfl (by kernel_rfl) (by kernel_rfl) (by kernel_rfl) (fun _ _ _ h => h) (Or.inl ⟨by rfl, ?_⟩) (by assumption) ?_
        rotate_left 1
        · intro wz hSw
          obtain ⟨s0, s1, s2⟩ := hSw
          first | (go_simp; done) | (go_simp; with_reducible rfl)
        simp only [List.set_cons_zero, List.set_cons_succ]
        refine take_at (i := 24) (n := 68) (v := ?_) rfl rfl (by kernel_rfl) (by kernel_rfl) (by kernel_rfl) (fun _ _ _ h => h) (Or.inl ⟨by rfl, ?_⟩) (by assumption) ?_
        rotate_left 1
        · intro wz hSw
          obtain ⟨s0, s1, s2⟩ := hSw
          first | (go_simp; done) | (go_simp; with_reducible rfl)
        simp only [List.set_cons_zero, List.set_cons_succ]
        refine wpAnyH_done (by kernel_rfl) ?_ _
        refine NoPanic.normal ?_
        clear hHeld
        go_wp2_with fail
        obtain ⟨kn, hkn⟩ : ∃ kn : Nat, xk = (kn : Int) := ⟨xk.toNat, by have := decide_eq_false_iff_not.1 q1; omega⟩
        subst hkn
        have hknl : kn < l.length := by have := decide_eq_false_iff_not.1 q2; omega
        have hB0 : Below w3.heap.size w3 (wr.alloc (.cells #[.int .i64 (kn : Int), .int .i64 xa] 33)).drew := (below_seq HX.out.2.1 (below_new _ _)).drew
        have g0 : (wr.alloc (.cells #[.int .i64 (kn : Int), .int .i64 xa] 33)).drew.cell? ⟨wr.heap.size, 0, none⟩ = some (.int .i64 (kn : Int)) := by go_simp
        have g1 : (wr.alloc (.cells #[.int .i64 (kn : Int), .int .i64 xa] 33)).drew.cell? ⟨wr.heap.size, 1, none⟩ = some (.int .i64 xa) := by go_simp
        have H0 : Hid (Below w3.heap.size w3 (wr.alloc (.cells #[.int .i64 (kn : Int), .int .i64 xa] 33)).drew ∧ ∀ q u, (cs.flatMap Co.vals)[q]? = some u → (wr.alloc (.cells #[.int .i64 (kn : Int), .int .i64 xa] 33)).drew.cell? ⟨b1, o1 + q, none⟩ = some u) := ⟨hB0, fun q u hq => below_cell (below_new _ _).drew (HX.out.2.2 q u hq)⟩
        clear hB0 k0 k1
        generalize (wr.alloc (.cells #[.int .i64 (kn : Int), .int .i64 xa] 33)).drew = W0 at *
        generalize wr.heap.size = C at *
        have hlen : ts.length = l.length := by
          rcases HTM.out with ⟨h1, -, h2⟩ | ⟨-, h2 | ⟨-, us, -, -, h2⟩⟩
          · exact absurd (by rw [← h2]) h1
          · exact h2.2.1
          · cases h2
        obtain ⟨adl, cl, hel, -, hcapl, hrowl⟩ := HV.out.1.below (below_seq HB3.out.1 (below_seq HB3.out.2.2 H0.out.1))
        cases hel
        rcases hrowl with h | ⟨bl, ol, rfl, hrowl⟩
        · rw [h] at hknl; simp at hknl
        obtain ⟨adt, ct, het, -, hcapt, hrowt⟩ := HB3.out.2.1.below (below_seq HB3.out.2.2 H0.out.1)
        cases het
        rcases hrowt with h | ⟨bt, ot, rfl, hrowt⟩
        · rw [h] at hlen; simp at hlen; omega
        have hfk : l[kn]? = some (Fk l (kn : Int)) := by unfold Fk; rw [Int.toNat_natCast, List.getD_eq_getElem?_getD, List.getElem?_eq_getElem hknl]; rfl
        have htk : ts[kn]? = some (ts.getD kn 0) := by rw [List.getD_eq_getElem?_getD, List.getElem?_eq_getElem (by omega)]; rfl
        have g2 := (fr_at hrowl hfk).2.1
        have g3 := nu_at hrowt htk
        have HT : Hid ((Fk l (kn : Int)).t = (Fk l (kn : Int)).t ∧ ts.getD kn 0 = ts.getD kn 0) := ⟨rfl, rfl⟩
        have hkt : kn < ts.length := by omega
        clear hrowl hrowt hfk htk hlen
        obtain ⟨tt, htt⟩ : ∃ tt, (Fk l (kn : Int)).t = tt := ⟨_, rfl⟩
        obtain ⟨tv, htv⟩ : ∃ tv, ts.getD kn 0 = tv := ⟨_, rfl⟩
        rw [htt] at g2
        rw [htv] at g3
        have HTT : Hid ((Fk l (kn : Int)).t = tt ∧ ts.getD kn 0 = tv) := ⟨htt, htv⟩
        clear htt htv HT
        have hki : (kn : Int) < (l.length : Int) := by omega
        have hkti : (kn : Int) < (ts.length : Int) := by omega
        go_loopw [73] (fun iv wr => ∃ m : Nat, m ≤ j ∧ iv = .int .i64 (m : Int) ∧ Below W0.heap.size W0 wr ∧ Hid (∀ (q : Nat) (o : Co), q < m → cs[q]? = some o → o.k = (kn : Int) → tt ≤ IntKind.i64.wrap (xa - o.a))) (fun iv _ => j - (intOf iv).toNat)
        case atStart => exact ⟨0, Nat.zero_le _, rfl, Below.refl _ _, fun q o h => absurd h (Nat.not_lt_zero _)⟩
        case round =>
          obtain ⟨m, hm, rfl, hb, HQ⟩ := hrel
          have z0 := below_cell hb g0
          have z1 := below_cell hb g1
          have z2 := below_cell hb g2
          have z3 := below_cell hb g3
          have lc : C < wr.heap.size := World.block_lt_of_cell? _ _ z0
          have ll : bl < wr.heap.size := World.block_lt_of_cell? _ _ z2
          have lt : bt < wr.heap.size := World.block_lt_of_cell? _ _ z3
          have HB : Hid (Below W0.heap.size W0 wr) := hb
          by_cases hlm : m < j
          · have hmi : (m : Int) < (j : Int) := by omega
            obtain ⟨y', hy', -⟩ := drop_at (show m < cs.length by omega)
            obtain ⟨y0, y1⟩ := co_at (fun q u hq => below_cell hb (H0.out.2 q u hq)) hy'
            have lb2 : b1 < wr.heap.size := World.block_lt_of_cell? _ _ y0
            clear hb g0 g1 g2 g3
            obtain ⟨yk, hyk⟩ : ∃ yk, y'.k = yk := ⟨_, rfl⟩
            obtain ⟨ya', hya⟩ : ∃ ya', y'.a = ya' := ⟨_, rfl⟩
            rw [hyk] at y0
            rw [hya] at y1
            have HY : Hid (cs[m]? = some y' ∧ y'.k = yk ∧ y'.a = ya') := ⟨hy', hyk, hya⟩
            clear hy' hyk hya
            by_cases hk : yk = (kn : Int)
            · subst hk
              by_cases ht : IntKind.i64.wrap (xa - ya') < tt
              · have d2 : decide (IntKind.i64.wrap (xa - ya') < tt) = true := by simp [ht]
                go_wp2_with fail
                refine wp_region_noPanic ?_
                refine wp_region_held_drew (S := fun w' => w'.cell? ⟨wr.heap.size, 0, none⟩ = some (.int .i64 (kn : Int)) ∧ w'.cell? ⟨wr.heap.size, 1, none⟩ = some (.int .i64 ya') ∧ w'.cell? ⟨C, 0, none⟩ = some (.int .i64 (kn : Int)) ∧ w'.cell? ⟨C, 1, none⟩ = some (.int .i64 xa) ∧ w'.cell? ⟨bl, ol + kn * 4 + 1, none⟩ = some (.int .i64 tt)) (by kernel_rfl) (by refine ⟨?_, ?_, ?_, ?_, ?_⟩ <;> go_simp) (fun hHeld => ?_)
                refine take_at (i := 0) (n := 77) (v := ?_) rfl rfl (by kernel_rfl) (by kernel_rfl) (by kernel_rfl) (fun _ _ _ h => h) (Or.inl ⟨by rfl, ?_⟩) (by assumption) ?_
                rotate_left 1
                · intro wz hSw
                  obtain ⟨s0, s1, s2, s3, s4⟩ := hSw
                  first | (go_simp; done) | (go_simp; with_reducible rfl)
                simp only [List.set_cons_zero, List.set_cons_succ]
                refine take_at (i := 1) (n := 78) (v := ?_) rfl rfl (by kernel_rfl) (by kernel_rfl) (by kernel_rfl) (fun _ _ _ h => h) (Or.inl ⟨by rfl, ?_⟩) (by assumption) ?_
                rotate_left 1
                · intro wz hSw
                  obtain ⟨s0, s1, s2, s3, s4⟩ := hSw
                  first | (go_simp; done) | (go_simp; with_reducible rfl)
                simp only [List.set_cons_zero, List.set_cons_succ]
                refine take_at (i := 2) (n := 79) (v := ?_) rfl rfl (by kernel_rfl) (by kernel_rfl) (by kernel_rfl) (fun _ _ _ h => h) (Or.inl ⟨by rfl, ?_⟩) (by assumption) ?_
                rotate_left 1
                · intro wz hSw
                  obtain ⟨s0, s1, s2, s3, s4⟩ := hSw
                  first | (go_simp; done) | (go_simp; with_reducible rfl)
                simp only [List.set_cons_zero, List.set_cons_succ]
                refine take_at (i := 3) (n := 80) (v := ?_) rfl rfl (by kernel_rfl) (by kernel_rfl) (by kernel_rfl) (fun _ _ _ h => h) (Or.inl ⟨by rfl, ?_⟩) (by assumption) ?_
                rotate_left 1
                · intro wz hSw
                  obtain ⟨s0, s1, s2, s3, s4⟩ := hSw
                  first | (go_simp; done) | (go_simp; with_reducible rfl)
                simp only [List.set_cons_zero, List.set_cons_succ]
                refine take_at (i := 4) (n := 81) (v := ?_) rfl rfl (by kernel_rfl) (by kernel_rfl) (by kernel_rfl) (fun _ _ _ h => h) (Or.inl ⟨by rfl, ?_⟩) (by assumption) ?_
                rotate_left 1
                · intro wz hSw
                  obtain ⟨s0, s1, s2, s3, s4⟩ := hSw
                  first | (go_simp; done) | (go_simp; with_reducible rfl)
                simp only [List.set_cons_zero, List.set_cons_succ]
                refine take_at (i := 5) (n := 82) (v := ?_) rfl rfl (by kernel_rfl) (by kernel_rfl) (by kernel_rfl) (fun _ _ _ h => h) (Or.inl ⟨by rfl, ?_⟩) (by assumption) ?_
                rotate_left 1
                · intro wz hSw
                  obtain ⟨s0, s1, s2, s3, s4⟩ := hSw
                  first | (go_simp; done) | (go_simp; with_reducible rfl)
                simp only [List.set_cons_zero, List.set_cons_succ]
                refine take_at (i := 6) (n := 83) (v := ?_) rfl rfl (by kernel_rfl) (by kernel_rfl) (by kernel_rfl) (fun _ _ _ h => h) (Or.inl ⟨by rfl, ?_⟩) (by assumption) ?_
                rotate_left 1
                · intro wz hSw
                  obtain ⟨s0, s1, s2, s3, s4⟩ := hSw
                  first | (go_simp; done) | (go_simp; with_reducible rfl)
                simp only [List.set_cons_zero, List.set_cons_succ]
                refine take_at (i := 7) (n := 84) (v := ?_) rfl rfl (by kernel_rfl) (by kernel_rfl) (by kernel_rfl) (fun _ _ _ h => h) (Or.inl ⟨by rfl, ?_⟩) (by assumption) ?_
                rotate_left 1
                · intro wz hSw
                  obtain ⟨s0, s1, s2, s3, s4⟩ := hSw
                  first | (go_simp; done) | (go_simp; with_reducible rfl)
                simp only [List.set_cons_zero, List.set_cons_succ]
                refine take_at (i := 8) (n := 85) (v := ?_) rfl rfl (by kernel_rfl) (by kernel_rfl) (by kernel_rfl) (fun _ _ _ h => h) (Or.inl ⟨by rfl, ?_⟩) (by assumption) ?_
                rotate_left 1
                · intro wz hSw
                  obtain ⟨s0, s1, s2, s3, s4⟩ := hSw
                  first | (go_simp; done) | (go_simp; with_reducible rfl)
                simp only [List.set_cons_zero, List.set_cons_succ]
                refine take_at (i := 9) (n := 86) (v := ?_) rfl rfl (by kernel_rfl) (by kernel_rfl) (by kernel_rfl) (fun _ _ _ h => h) (Or.inl ⟨by rfl, ?_⟩) (by assumption) ?_
                rotate_left 1
                · intro wz hSw
                  obtain ⟨s0, s1, s2, s3, s4⟩ := hSw
                  first | (go_simp; done) | (go_simp; with_reducible rfl)
                simp only [List.set_cons_zero, List.set_cons_succ]
                refine take_at (i := 10) (n := 87) (v := ?_) rfl rfl (by kernel_rfl) (by kernel_rfl) (by kernel_rfl) (fun _ _ _ h => h) (Or.inl ⟨by rfl, ?_⟩) (by assumption) ?_
                rotate_left 1
                · intro wz hSw
                  obtain ⟨s0, s1, s2, s3, s4⟩ := hSw
                  first | (go_simp; done) | (go_simp; with_reducible rfl)
                simp only [List.set_cons_zero, List.set_cons_succ]
                refine take_at (i := 11) (n := 88) (v := ?_) rfl rfl (by kernel_rfl) (by kernel_rfl) (by kernel_rfl) (fun _ _ _ h => h) (Or.inl ⟨by rfl, ?_⟩) (by assumption) ?_
                rotate_left 1
                · intro wz hSw
                  obtain ⟨s0, s1, s2, s3, s4⟩ := hSw
                  first | (go_simp; done) | (go_simp; with_reducible rfl)
                simp only [List.set_cons_zero, List.set_cons_succ]
                refine take_at (i := 12) (n := 89) (v := ?_) rfl rfl (by kernel_rfl) (by kernel_rfl) (by kernel_rfl) (fun _ _ _ h => h) (Or.inl ⟨by rfl, ?_⟩) (by assumption) ?_
                rotate_left 1
                · intro wz hSw
                  obtain ⟨s0, s1, s2, s3, s4⟩ := hSw
                  first | (go_simp; done) | (go_simp; with_reducible rfl)
                simp only [List.set_cons_zero, List.set_cons_succ]
                refine take_at (i := 13) (n := 90) (v := ?_) rfl rfl (by kernel_rfl) (by kernel_rfl) (by kernel_rfl) (fun _ _ _ h => h) (Or.inl ⟨by rfl, ?_⟩) (by assumption) ?_
                rotate_left 1
                · intro wz hSw
                  obtain ⟨s0, s1, s2, s3, s4⟩ := hSw
                  first | (go_simp; done) | (go_simp; with_reducible rfl)
                simp only [List.set_cons_zero, List.set_cons_succ]
                refine take_at (i := 14) (n := 91) (v := ?_) rfl rfl (by kernel_rfl) (by kernel_rfl) (by kernel_rfl) (fun _ _ _ h => h) (Or.inl ⟨by rfl, ?_⟩) (by assumption) ?_
                rotate_left 1
                · intro wz hSw
                  obtain ⟨s0, s1, s2, s3, s4⟩ := hSw
                  first | (go_simp; done) | (go_simp; with_reducible rfl)
                simp only [List.set_cons_zero, List.set_cons_succ]
                refine take_at (i := 15) (n := 92) (v := ?_) rfl rfl (by kernel_rfl) (by kernel_rfl) (by kernel_rfl) (fun _ _ _ h => h) (Or.inl ⟨by rfl, ?_⟩) (by assumption) ?_
                rotate_left 1
                · intro wz hSw
                  obtain ⟨s0, s1, s2, s3, s4⟩ := hSw
                  first | (go_simp; done) | (go_simp; with_reducible rfl)
                simp only [List.set_cons_zero, List.set_cons_succ]
                refine take_at (i := 16) (n := 93) (v := ?_) rfl rfl (by kernel_rfl) (by kernel_rfl) (by kernel_rfl) (fun _ _ _ h => h) (Or.inl ⟨by rfl, ?_⟩) (by assumption) ?_
                rotate_left 1
                · intro wz hSw
                  obtain ⟨s0, s1, s2, s3, s4⟩ := hSw
                  first | (go_simp; done) | (go_simp; with_reducible rfl)
                simp only [List.set_cons_zero, List.set_cons_succ]
                refine take_at (i := 17) (n := 94) (v := ?_) rfl rfl (by kernel_rfl) (by kernel_rfl) (by kernel_rfl) (fun _ _ _ h => h) (Or.inl ⟨by rfl, ?_⟩) (by assumption) ?_
                rotate_left 1
                · intro wz hSw
                  obtain ⟨s0, s1, s2, s3, s4⟩ := hSw
                  first | (go_simp; done) | (go_simp; with_reducible rfl)
                simp only [List.set_cons_zero, List.set_cons_succ]
                refine take_at (i := 18) (n := 95) (v := ?_) rfl rfl (by kernel_rfl) (by kernel_rfl) (by kernel_rfl) (fun _ _ _ h => h) (Or.inl ⟨by rfl, ?_⟩) (by assumption) ?_
                rotate_left 1
                · intro wz hSw
                  obtain ⟨s0, s1, s2, s3, s4⟩ := hSw
                  first | (go_simp; done) | (go_simp; with_reducible rfl)
                simp only [List.set_cons_zero, List.set_cons_succ]
                refine wpAnyH_done (by kernel_rfl) ?_ _
                refine NoPanic.normal ?_
                clear hHeld
                go_wp2_with fail
                go_ret
                exact ⟨rfl, below_seq HB3.out.1 (below_seq HB3.out.2.2 (below_seq H0.out.1 (below_seq HB.out (below_new _ _)).drew))⟩
              · have d2 : decide (IntKind.i64.wrap (xa - ya') < tt) = false := by simp; omega
                have HQ2 : Hid (∀ (q : Nat) (o : Co), q < m + 1 → cs[q]? = some o → o.k = (kn : Int) → tt ≤ IntKind.i64.wrap (xa - o.a)) := fun q o hq ho hok => by
                  by_cases hqm : q < m
                  · exact HQ.out q o hqm ho hok
                  · have : q = m := by omega
                    subst this
                    rw [HY.out.1] at ho
                    cases ho
                    rw [HY.out.2.2]
                    omega
                clear HQ ht
                go_wp2_with fail
                refine wp_region_noPanic ?_
                refine wp_region_held_drew (S := fun w' => w'.cell? ⟨wr.heap.size, 0, none⟩ = some (.int .i64 (kn : Int)) ∧ w'.cell? ⟨wr.heap.size, 1, none⟩ = some (.int .i64 ya') ∧ w'.cell? ⟨C, 0, none⟩ = some (.int .i64 (kn : Int)) ∧ w'.cell? ⟨C, 1, none⟩ = some (.int .i64 xa) ∧ w'.cell? ⟨bl, ol + kn * 4 + 1, none⟩ = some (.int .i64 tt)) (by kernel_rfl) (by refine ⟨?_, ?_, ?_, ?_, ?_⟩ <;> go_simp) (fun hHeld => ?_)
                refine take_at (i := 0) (n := 77) (v := ?_) rfl rfl (by kernel_rfl) (by kernel_rfl) (by kernel_rfl) (fun _ _ _ h => h) (Or.inl ⟨by rfl, ?_⟩) (by assumption) ?_
                rotate_left 1
                · intro wz hSw
                  obtain ⟨s0, s1, s2, s3, s4⟩ := hSw
                  first | (go_simp; done) | (go_simp; with_reducible rfl)
                simp only [List.set_cons_zero, List.set_cons_succ]
                refine take_at (i := 1) (n := 78) (v := ?_) rfl rfl (by kernel_rfl) (by kernel_rfl) (by kernel_rfl) (fun _ _ _ h => h) (Or.inl ⟨by rfl, ?_⟩) (by assumption) ?_
                rotate_left 1
                · intro wz hSw
                  obtain ⟨s0, s1, s2, s3, s4⟩ := hSw
                  first | (go_simp; done) | (go_simp; with_reducible rfl)
                simp only [List.set_cons_zero, List.set_cons_succ]
                refine take_at (i := 2) (n := 79) (v := ?_) rfl rfl (by kernel_rfl) (by kernel_rfl) (by kernel_rfl) (fun _ _ _ h => h) (Or.inl ⟨by rfl, ?_⟩) (by assumption) ?_
                rotate_left 1
                · intro wz hSw
                  obtain ⟨s0, s1, s2, s3, s4⟩ := hSw
                  first | (go_simp; done) | (go_simp; with_reducible rfl)
                simp only [List.set_cons_zero, List.set_cons_succ]
                refine take_at (i := 3) (n := 80) (v := ?_) rfl rfl (by kernel_rfl) (by kernel_rfl) (by kernel_rfl) (fun _ _ _ h => h) (Or.inl ⟨by rfl, ?_⟩) (by assumption) ?_
                rotate_left 1
                · intro wz hSw
                  obtain ⟨s0, s1, s2, s3, s4⟩ := hSw
                  first | (go_simp; done) | (go_simp; with_reducible rfl)
                simp only [List.set_cons_zero, List.set_cons_succ]
                refine take_at (i := 4) (n := 81) (v := ?_) rfl rfl (by kernel_rfl) (by kernel_rfl) (by kernel_rfl) (fun _ _ _ h => h) (Or.inl ⟨by rfl, ?_⟩) (by assumption) ?_
                rotate_left 1
                · intro wz hSw
                  obtain ⟨s0, s1, s2, s3, s4⟩ := hSw
                  first | (go_simp; done) | (go_simp; with_reducible rfl)
                simp only [List.set_cons_zero, List.set_cons_succ]
                refine take_at (i := 5) (n := 82) (v := ?_) rfl rfl (by kernel_rfl) (by kernel_rfl) (by kernel_rfl) (fun _ _ _ h => h) (Or.inl ⟨by rfl, ?_⟩) (by assumption) ?_
                rotate_left 1
                · intro wz hSw
                  obtain ⟨s0, s1, s2, s3, s4⟩ := hSw
                  first | (go_simp; done) | (go_simp; with_reducible rfl)
                simp only [List.set_cons_zero, List.set_cons_succ]
                refine take_at (i := 6) (n := 83) (v := ?_) rfl rfl (by kernel_rfl) (by kernel_rfl) (by kernel_rfl) (fun _ _ _ h => h) (Or.inl ⟨by rfl, ?_⟩) (by assumption) ?_
                rotate_left 1
                · intro wz hSw
                  obtain ⟨s0, s1, s2, s3, s4⟩ := hSw
                  first | (go_simp; done) | (go_simp; with_reducible rfl)
                simp only [List.set_cons_zero, List.set_cons_succ]
                refine take_at (i := 7) (n := 84) (v := ?_) rfl rfl (by kernel_rfl) (by kernel_rfl) (by kernel_rfl) (fun _ _ _ h => h) (Or.inl ⟨by rfl, ?_⟩) (by assumption) ?_
                rotate_left 1
                · intro wz hSw
                  obtain ⟨s0, s1, s2, s3, s4⟩ := hSw
                  first | (go_simp; done) | (go_simp; with_reducible rfl)
                simp only [List.set_cons_zero, List.set_cons_succ]
                refine take_at (i := 8) (n := 85) (v := ?_) rfl rfl (by kernel_rfl) (by kernel_rfl) (by kernel_rfl) (fun _ _ _ h => h) (Or.inl ⟨by rfl, ?_⟩) (by assumption) ?_
                rotate_left 1
                · intro wz hSw
                  obtain ⟨s0, s1, s2, s3, s4⟩ := hSw
                  first | (go_simp; done) | (go_simp; with_reducible rfl)
                simp only [List.set_cons_zero, List.set_cons_succ]
                refine take_at (i := 9) (n := 86) (v := ?_) rfl rfl (by kernel_rfl) (by kernel_rfl) (by kernel_rfl) (fun _ _ _ h => h) (Or.inl ⟨by rfl, ?_⟩) (by assumption) ?_
                rotate_left 1
                · intro wz hSw
                  obtain ⟨s0, s1, s2, s3, s4⟩ := hSw
                  first | (go_simp; done) | (go_simp; with_reducible rfl)
                simp only [List.set_cons_zero, List.set_cons_succ]
                refine take_at (i := 10) (n := 87) (v := ?_) rfl rfl (by kernel_rfl) (by kernel_rfl) (by kernel_rfl) (fun _ _ _ h => h) (Or.inl ⟨by rfl, ?_⟩) (by assumption) ?_
                rotate_left 1
                · intro wz hSw
                  obtain ⟨s0, s1, s2, s3, s4⟩ := hSw
                  first | (go_simp; done) | (go_simp; with_reducible rfl)
                simp only [List.set_cons_zero, List.set_cons_succ]
                refine take_at (i := 11) (n := 88) (v := ?_) rfl rfl (by kernel_rfl) (by kernel_rfl) (by kernel_rfl) (fun _ _ _ h => h) (Or.inl ⟨by rfl, ?_⟩) (by assumption) ?_
                rotate_left 1
                · intro wz hSw
                  obtain ⟨s0, s1, s2, s3, s4⟩ := hSw
                  first | (go_simp; done) | (go_simp; with_reducible rfl)
                simp only [List.set_cons_zero, List.set_cons_succ]
                refine take_at (i := 12) (n := 89) (v := ?_) rfl rfl (by kernel_rfl) (by kernel_rfl) (by kernel_rfl) (fun _ _ _ h => h) (Or.inl ⟨by rfl, ?_⟩) (by assumption) ?_
                rotate_left 1
                · intro wz hSw
                  obtain ⟨s0, s1, s2, s3, s4⟩ := hSw
                  first | (go_simp; done) | (go_simp; with_reducible rfl)
                simp only [List.set_cons_zero, List.set_cons_succ]
                refine take_at (i := 13) (n := 90) (v := ?_) rfl rfl (by kernel_rfl) (by kernel_rfl) (by kernel_rfl) (fun _ _ _ h => h) (Or.inl ⟨by rfl, ?_⟩) (by assumption) ?_
                rotate_left 1
                · intro wz hSw
                  obtain ⟨s0, s1, s2, s3, s4⟩ := hSw
                  first | (go_simp; done) | (go_simp; with_reducible rfl)
                simp only [List.set_cons_zero, List.set_cons_succ]
                refine take_at (i := 14) (n := 91) (v := ?_) rfl rfl (by kernel_rfl) (by kernel_rfl) (by kernel_rfl) (fun _ _ _ h => h) (Or.inl ⟨by rfl, ?_⟩) (by assumption) ?_
                rotate_left 1
                · intro wz hSw
                  obtain ⟨s0, s1, s2, s3, s4⟩ := hSw
                  first | (go_simp; done) | (go_simp; with_reducible rfl)
                simp only [List.set_cons_zero, List.set_cons_succ]
                refine take_at (i := 15) (n := 92) (v := ?_) rfl rfl (by kernel_rfl) (by kernel_rfl) (by kernel_rfl) (fun _ _ _ h => h) (Or.inl ⟨by rfl, ?_⟩) (by assumption) ?_
                rotate_left 1
                · intro wz hSw
                  obtain ⟨s0, s1, s2, s3, s4⟩ := hSw
                  first | (go_simp; done) | (go_simp; with_reducible rfl)
                simp only [List.set_cons_zero, List.set_cons_succ]
                refine take_at (i := 16) (n := 93) (v := ?_) rfl rfl (by kernel_rfl) (by kernel_rfl) (by kernel_rfl) (fun _ _ _ h => h) (Or.inl ⟨by rfl, ?_⟩) (by assumption) ?_
                rotate_left 1
                · intro wz hSw
                  obtain ⟨s0, s1, s2, s3, s4⟩ := hSw
                  first | (go_simp; done) | (go_simp; with_reducible rfl)
                simp only [List.set_cons_zero, List.set_cons_succ]
                refine take_at (i := 17) (n := 94) (v := ?_) rfl rfl (by kernel_rfl) (by kernel_rfl) (by kernel_rfl) (fun _ _ _ h => h) (Or.inl ⟨by rfl, ?_⟩) (by assumption) ?_
                rotate_left 1
                · intro wz hSw
                  obtain ⟨s0, s1, s2, s3, s4⟩ := hSw
                  first | (go_simp; done) | (go_simp; with_reducible rfl)
                simp only [List.set_cons_zero, List.set_cons_succ]
                refine take_at (i := 18) (n := 95) (v := ?_) rfl rfl (by kernel_rfl) (by kernel_rfl) (by kernel_rfl) (fun _ _ _ h => h) (Or.inl ⟨by rfl, ?_⟩) (by assumption) ?_
                rotate_left 1
                · intro wz hSw
                  obtain ⟨s0, s1, s2, s3, s4⟩ := hSw
                  first | (go_simp; done) | (go_simp; with_reducible rfl)
                simp only [List.set_cons_zero, List.set_cons_succ]
                refine wpAnyH_done (by kernel_rfl) ?_ _
                refine NoPanic.normal ?_
                clear hHeld
                go_wp2_with fail
                exact ⟨⟨m + 1, by omega, by simp, (below_seq HB.out (below_new _ _)).drew, HQ2⟩, by simp [intOf]; omega⟩
            · have d1 : decide (yk = (kn : Int)) = false := by simp [hk]
              have d1' : (yk == (kn : Int)) = false := by simp [hk]
              have HQ2 : Hid (∀ (q : Nat) (o : Co), q < m + 1 → cs[q]? = some o → o.k = (kn : Int) → tt ≤ IntKind.i64.wrap (xa - o.a)) := fun q o hq ho hok => by
                by_cases hqm : q < m
                · exact HQ.out q o hqm ho hok
                · have : q = m := by omega
                  subst this
                  rw [HY.out.1] at ho
                  cases ho
                  exact absurd (HY.out.2.1.symm.trans hok) hk
              have hk' : ¬ yk = (kn : Int) := hk
              clear HQ
              go_wp2_with fail
              refine wp_region_noPanic ?_
              refine wp_region_held_drew (S := fun w' => w'.cell? ⟨wr.heap.size, 0, none⟩ = some (.int .i64 yk) ∧ w'.cell? ⟨wr.heap.size, 1, none⟩ = some (.int .i64 ya') ∧ w'.cell? ⟨C, 0, none⟩ = some (.int .i64 (kn : Int)) ∧ w'.cell? ⟨C, 1, none⟩ = some (.int .i64 xa) ∧ w'.cell? ⟨bl, ol + kn * 4 + 1, none⟩ = some (.int .i64 tt)) (by kernel_rfl) (by refine ⟨?_, ?_, ?_, ?_, ?_⟩ <;> go_simp) (fun hHeld => ?_)
              refine take_at (i := 0) (n := 77) (v := ?_) rfl rfl (by kernel_rfl) (by kernel_rfl) (by kernel_rfl) (fun _ _ _ h => h) (Or.inl ⟨by rfl, ?_⟩) (by assumption) ?_
              rotate_left 1
              · intro wz hSw
                obtain ⟨s0, s1, s2, s3, s4⟩ := hSw
                first | (go_simp; done) | (go_simp; with_reducible rfl)
              simp only [List.set_cons_zero, List.set_cons_succ]
              refine take_at (i := 1) (n := 78) (v := ?_) rfl rfl (by kernel_rfl) (by kernel_rfl) (by kernel_rfl) (fun _ _ _ h => h) (Or.inl ⟨by rfl, ?_⟩) (by assumption) ?_
              rotate_left 1
              · intro wz hSw
                obtain ⟨s0, s1, s2, s3, s4⟩ := hSw
                first | (go_simp; done) | (go_simp; with_reducible rfl)
              simp only [List.set_cons_zero, List.set_cons_succ]
              refine take_at (i := 2) (n := 79) (v := ?_) rfl rfl (by kernel_rfl) (by kernel_rfl) (by kernel_rfl) (fun _ _ _ h => h) (Or.inl ⟨by rfl, ?_⟩) (by assumption) ?_
              rotate_left 1
              · intro wz hSw
                obtain ⟨s0, s1, s2, s3, s4⟩ := hSw
                first | (go_simp; done) | (go_simp; with_reducible rfl)
              simp only [List.set_cons_zero, List.set_cons_succ]
              refine take_at (i := 3) (n := 80) (v := ?_) rfl rfl (by kernel_rfl) (by kernel_rfl) (by kernel_rfl) (fun _ _ _ h => h) (Or.inl ⟨by rfl, ?_⟩) (by assumption) ?_
              rotate_left 1
              · intro wz hSw
                obtain ⟨s0, s1, s2, s3, s4⟩ := hSw
                first | (go_simp; done) | (go_simp; with_reducible rfl)
              simp only [List.set_cons_zero, List.set_cons_succ]
              refine take_at (i := 4) (n := 81) (v := ?_) rfl rfl (by kernel_rfl) (by kernel_rfl) (by kernel_rfl) (fun _ _ _ h => h) (Or.inl ⟨by rfl, ?_⟩) (by assumption) ?_
              rotate_left 1
              · intro wz hSw
                obtain ⟨s0, s1, s2, s3, s4⟩ := hSw
                first | (go_simp; done) | (go_simp; with_reducible rfl)
              simp only [List.set_cons_zero, List.set_cons_succ]
              refine take_at (i := 5) (n := 82) (v := ?_) rfl rfl (by kernel_rfl) (by kernel_rfl) (by kernel_rfl) (fun _ _ _ h => h) (Or.inl ⟨by rfl, ?_⟩) (by assumption) ?_
              rotate_left 1
              · intro wz hSw
                obtain ⟨s0, s1, s2, s3, s4⟩ := hSw
                first | (go_simp; done) | (go_simp; with_reducible rfl)
              simp only [List.set_cons_zero, List.set_cons_succ]
              refine take_at (i := 6) (n := 83) (v := undef) rfl rfl (by kernel_rfl) (by kernel_rfl) (by kernel_rfl) (fun _ _ _ h => h) (Or.inr ⟨by rfl, rfl⟩) (by assumption) ?_
              simp only [List.set_cons_zero, List.set_cons_succ]
              refine take_at (i := 7) (n := 84) (v := undef) rfl rfl (by kernel_rfl) (by kernel_rfl) (by kernel_rfl) (fun _ _ _ h => h) (Or.inr ⟨by rfl, rfl⟩) (by assumption) ?_
              simp only [List.set_cons_zero, List.set_cons_succ]
              refine take_at (i := 8) (n := 85) (v := undef) rfl rfl (by kernel_rfl) (by kernel_rfl) (by kernel_rfl) (fun _ _ _ h => h) (Or.inr ⟨by rfl, rfl⟩) (by assumption) ?_
              simp only [List.set_cons_zero, List.set_cons_succ]
              refine take_at (i := 9) (n := 86) (v := undef) rfl rfl (by kernel_rfl) (by kernel_rfl) (by kernel_rfl) (fun _ _ _ h => h) (Or.inr ⟨by rfl, rfl⟩) (by assumption) ?_
              simp only [List.set_cons_zero, List.set_cons_succ]
              refine take_at (i := 10) (n := 87) (v := undef) rfl rfl (by kernel_rfl) (by kernel_rfl) (by kernel_rfl) (fun _ _ _ h => h) (Or.inr ⟨by rfl, rfl⟩) (by assumption) ?_
              simp only [List.set_cons_zero, List.set_cons_succ]
              refine take_at (i := 11) (n := 88) (v := undef) rfl rfl (by kernel_rfl) (by kernel_rfl) (by kernel_rfl) (fun _ _ _ h => h) (Or.inr ⟨by rfl, rfl⟩) (by assumption) ?_
              simp only [List.set_cons_zero, List.set_cons_succ]
              refine take_at (i := 12) (n := 89) (v := undef) rfl rfl (by kernel_rfl) (by kernel_rfl) (by kernel_rfl) (fun _ _ _ h => h) (Or.inr ⟨by rfl, rfl⟩) (by assumption) ?_
              simp only [List.set_cons_zero, List.set_cons_succ]
              refine take_at (i := 13) (n := 90) (v := undef) rfl rfl (by kernel_rfl) (by kernel_rfl) (by kernel_rfl) (fun _ _ _ h => h) (Or.inr ⟨by rfl, rfl⟩) (by assumption) ?_
              simp only [List.set_cons_zero, List.set_cons_succ]
              refine take_at (i := 14) (n := 91) (v := undef) rfl rfl (by kernel_rfl) (by kernel_rfl) (by kernel_rfl) (fun _ _ _ h => h) (Or.inr ⟨by rfl, rfl⟩) (by assumption) ?_
              simp only [List.set_cons_zero, List.set_cons_succ]
              refine take_at (i := 15) (n := 92) (v := undef) rfl rfl (by kernel_rfl) (by kernel_rfl) (by kernel_rfl) (fun _ _ _ h => h) (Or.inr ⟨by rfl, rfl⟩) (by assumption) ?_
              simp only [List.set_cons_zero, List.set_cons_succ]
              refine take_at (i := 16) (n := 93) (v := undef) rfl rfl (by kernel_rfl) (by kernel_rfl) (by kernel_rfl) (fun _ _ _ h => h) (Or.inr ⟨by rfl, rfl⟩) (by assumption) ?_
              simp only [List.set_cons_zero, List.set_cons_succ]
              refine take_at (i := 17) (n := 94) (v := undef) rfl rfl (by kernel_rfl) (by kernel_rfl) (by kernel_rfl) (fun _ _ _ h => h) (Or.inr ⟨by rfl, rfl⟩) (by assumption) ?_
              simp only [List.set_cons_zero, List.set_cons_succ]
              refine take_at (i := 18) (n := 95) (v := ?_) rfl rfl (by kernel_rfl) (by kernel_rfl) (by kernel_rfl) (fun _ _ _ h => h) (Or.inl ⟨by rfl, ?_⟩) (by assumption) ?_
              rotate_left 1
              · intro wz hSw
                obtain ⟨s0, s1, s2, s3, s4⟩ := hSw
                first | (go_simp; done) | (go_simp; with_reducible rfl)
              simp only [List.set_cons_zero, List.set_cons_succ]
              refine wpAnyH_done (by kernel_rfl) ?_ _
              refine NoPanic.normal ?_
              clear hHeld
              go_wp2_with fail
              exact ⟨⟨m + 1, by omega, by simp, (below_seq HB.out (below_new _ _)).drew, HQ2⟩, by simp [intOf]; omega⟩
          · have hme : m = j := by omega
            subst hme
            clear hb g0 g1 g2 g3
            have HN := HS.out.next HX.out.1 (by rw [HXK.out.1]; omega) (by rw [HXK.out.1]; exact hki) (fun q o hq ho hok => by rw [HXK.out.1] at hok ⊢; rw [HXK.out.2, HTT.out.1]; exact HQ.out q o hq ho hok)
            rw [HXK.out.1, HXK.out.2, Int.toNat_natCast, HTT.out.2] at HN
            have HN' : Hid (Seen l cs ts (m + 1) (max e (IntKind.i64.wrap (xa + tv)))) := HN
            clear HN HQ HS HXK
            generalize hmx : IntKind.i64.wrap (xa + tv) = mx at *
            go_wp2_with fail
            refine wp_region_noPanic ?_
            refine wp_region_held_drew (S := fun w' => w'.cell? ⟨C, 0, none⟩ = some (.int .i64 (kn : Int)) ∧ w'.cell? ⟨C, 1, none⟩ = some (.int .i64 xa) ∧ w'.cell? ⟨bt, ot + kn, none⟩ = some (.int .i64 tv)) (by kernel_rfl) (by refine ⟨?_, ?_, ?_⟩ <;> go_simp) (fun hHeld => ?_)
            refine take_at (i := 0) (n := 97) (v := ?_) rfl rfl (by kernel_rfl) (by kernel_rfl) (by kernel_rfl) (fun _ _ _ h => h) (Or.inl ⟨by rfl, ?_⟩) (by assumption) ?_
            rotate_left 1
            · intro wz hSw
              obtain ⟨s0, s1, s2⟩ := hSw
              first | (go_simp; done) | (go_simp; with_reducible rfl)
            simp only [List.set_cons_zero, List.set_cons_succ]
            refine take_at (i := 1) (n := 98) (v := ?_) rfl rfl (by kernel_rfl) (by kernel_rfl) (by kernel_rfl) (fun _ _ _ h => h) (Or.inl ⟨by rfl, ?_⟩) (by assumption) ?_
            rotate_left 1
            · intro wz hSw
              obtain ⟨s0, s1, s2⟩ := hSw
              first | (go_simp; done) | (go_simp; with_reducible rfl)
            simp only [List.set_cons_zero, List.set_cons_succ]
            refine take_at (i := 2) (n := 99) (v := ?_) rfl rfl (by kernel_rfl) (by kernel_rfl) (by kernel_rfl) (fun _ _ _ h => h) (Or.inl ⟨by rfl, ?_⟩) (by assumption) ?_
            rotate_left 1
            · intro wz hSw
              obtain ⟨s0, s1, s2⟩ := hSw
              first | (go_simp; done) | (go_simp; with_reducible rfl)
            simp only [List.set_cons_zero, List.set_cons_succ]
            refine take_at (i := 3) (n := 100) (v := ?_) rfl rfl (by kernel_rfl) (by kernel_rfl) (by kernel_rfl) (fun _ _ _ h => h) (Or.inl ⟨by rfl, ?_⟩) (by assumption) ?_
            rotate_left 1
            · intro wz hSw
              obtain ⟨s0, s1, s2⟩ := hSw
              first | (go_simp; done) | (go_simp; with_reducible rfl)
            simp only [List.set_cons_zero, List.set_cons_succ]
            refine take_at (i := 4) (n := 101) (v := ?_) rfl rfl (by kernel_rfl) (by kernel_rfl) (by kernel_rfl) (fun _ _ _ h => h) (Or.inl ⟨by rfl, ?_⟩) (by assumption) ?_
            rotate_left 1
            · intro wz hSw
              obtain ⟨s0, s1, s2⟩ := hSw
              first | (go_simp; done) | (go_simp; with_reducible rfl)
            simp only [List.set_cons_zero, List.set_cons_succ]
            refine take_at (i := 5) (n := 102) (v := ?_) rfl rfl (by kernel_rfl) (by kernel_rfl) (by kernel_rfl) (fun _ _ _ h => h) (Or.inl ⟨by rfl, ?_⟩) (by assumption) ?_
            rotate_left 1
            · intro wz hSw
              obtain ⟨s0, s1, s2⟩ := hSw
              first | (go_simp; done) | (go_simp; with_reducible rfl)
            simp only [List.set_cons_zero, List.set_cons_succ]
            refine take_at (i := 6) (n := 103) (v := ?_) rfl rfl (by kernel_rfl) (by kernel_rfl) (by kernel_rfl) (fun _ _ _ h => h) (Or.inl ⟨by rfl, ?_⟩) (by assumption) ?_
            rotate_left 1
            · intro wz hSw
              obtain ⟨s0, s1, s2⟩ := hSw
              first | (go_simp; done) | (go_simp; with_reducible rfl)
            simp only [List.set_cons_zero, List.set_cons_succ]
            refine take_at (i := 7) (n := 104) (v := ?_) rfl rfl (by kernel_rfl) (by kernel_rfl) (by kernel_rfl) (fun _ _ _ h => h) (Or.inl ⟨by rfl, ?_⟩) (by assumption) ?_
            rotate_left 1
            · intro wz hSw
              obtain ⟨s0, s1, s2⟩ := hSw
              first | (go_simp; done) | (go_simp; with_reducible rfl)
            simp only [List.set_cons_zero, List.set_cons_succ]
            refine take_at (i := 8) (n := 105) (v := ?_) rfl rfl (by kernel_rfl) (by kernel_rfl) (by kernel_rfl) (fun _ _ _ h => h) (Or.inl ⟨by rfl, ?_⟩) (by assumption) ?_
            rotate_left 1
            · intro wz hSw
              obtain ⟨s0, s1, s2⟩ := hSw
              first | (go_simp; done) | (go_simp; with_reducible rfl)
            simp only [List.set_cons_zero, List.set_cons_succ]
            refine take_at (i := 9) (n := 106) (v := ?_) rfl rfl (by kernel_rfl) (by kernel_rfl) (by kernel_rfl) (fun _ _ _ h => h) (Or.inl ⟨by rfl, ?_⟩) (by assumption) ?_
            rotate_left 1
            · intro wz hSw
              obtain ⟨s0, s1, s2⟩ := hSw
              first | (go_simp; done) | (go_simp; with_reducible rfl)
            simp only [List.set_cons_zero, List.set_cons_succ]
            refine take_at (i := 10) (n := 9) (v := ?_) rfl rfl (by kernel_rfl) (by kernel_rfl) (by kernel_rfl) (fun _ _ _ h => h) (Or.inl ⟨by rfl, ?_⟩) (by assumption) ?_
            rotate_left 1
            · intro wz hSw
              obtain ⟨s0, s1, s2⟩ := hSw
              first | (go_simp; done) | (go_simp; with_reducible rfl)
            simp only [List.set_cons_zero, List.set_cons_succ]
            refine wpAnyH_done (by kernel_rfl) ?_ _
            refine NoPanic.normal ?_
            clear hHeld
            go_wp2_with fail
            exact ⟨⟨m + 1, max e mx, by omega, rfl, by simp, (below_seq H0.out.1 HB.out).drew, HN'⟩, by simp [intOf]; omega⟩
    · have hje : j = cs.length := by omega
      subst hje
      have d2 := below_cell hb d1
      have l2 : G < wr.heap.size := World.block_lt_of_cell? _ _ d2
      have HB4 : Hid (Below w.heap.size w wr ∧ Below w2.heap.size w2 wr ∧ Below w3.heap.size w3 wr) := ⟨below_seq HB3.out.1 (below_seq HB3.out.2.2 hb), below_seq HB3.out.2.2 hb, hb⟩
      by_cases h3 : 3000 < e
      · have fd : decide (3000 < e) = true := by simp [h3]
        clear hb
        go_wp2_with fail
        go_ret
        exact ⟨rfl, HB4.out.1⟩
      have fd : decide (3000 < e) = false := by simp; omega
      have HSn := Send_any wr l cs la _ _ _ e (HV.out.1.below HB4.out.1) (HV.out.2.1.below HB4.out.1) (HV.out.2.2.below HB4.out.1)
      clear hb
      go_upto_region 25 with (go_at_call 8; refine HSn.mono ?_; rintro r w4 ⟨u1, u2, z1, z2, rs, es, rfl, hsr, hres⟩; obtain ⟨p1, q1, p2, q2, rfl, rfl⟩ := hres.slices; have hbz := hres.1; have l3 : G < w4.heap.size := Nat.lt_of_lt_of_le l2 hbz.size; have hg4 := (hbz.block _ l2).trans ((HB4.out.2.2.block _ l1).trans HG.out); have d3 := (cells_of (l := [_, _]) hg4).1 0 _ rfl; have d4 := (cells_of (l := [_, _]) hg4).1 1 _ rfl; have f3 := (cells_of (l := [_, _]) hg4).2.1 0; have f4 := (cells_of (l := [_, _]) hg4).2.1 1; clear hg4; have H4 : Hid (SndRes l cs la e z1 z2 rs es ∧ Res wr w4 rs es (.slice p1 rs.length q1) (.slice p2 es.length q2)) := ⟨hsr, hres⟩; clear hsr hres hbz HSn)
      have H5 : Hid (Below w2.heap.size w2 (((w4.setCell ⟨G, 0, none⟩ (.int .i64 z1)).setCell ⟨G, 1, none⟩ (.int .i64 z2)).alloc (.cells #[.slice p1 rs.length q1, .slice p2 es.length q2] 37)) ∧ RowSl nuV (((w4.setCell ⟨G, 0, none⟩ (.int .i64 z1)).setCell ⟨G, 1, none⟩ (.int .i64 z2)).alloc (.cells #[.slice p1 rs.length q1, .slice p2 es.length q2] 37)) es (.slice p2 es.length q2)) := by
        have a1 : Below w2.heap.size w2 w4 := below_seq HB4.out.2.1 H4.out.2.1
        have a2 : Below w2.heap.size w2 (((w4.setCell ⟨G, 0, none⟩ (.int .i64 z1)).setCell ⟨G, 1, none⟩ (.int .i64 z2)).alloc (.cells #[.slice p1 rs.length q1, .slice p2 es.length q2] 37)) := ((a1.setCell (p := ⟨G, 0, none⟩) (Nat.le_of_eq HGe.out) _).setCell (p := ⟨G, 1, none⟩) (Nat.le_of_eq HGe.out) _).alloc (by have := a1.size; simpa using this) _
        have a3 : Below wr.heap.size w4 (((w4.setCell ⟨G, 0, none⟩ (.int .i64 z1)).setCell ⟨G, 1, none⟩ (.int .i64 z2)).alloc (.cells #[.slice p1 rs.length q1, .slice p2 es.length q2] 37)) → True := fun _ => trivial
        clear a3
        have hk : ∀ q, wr.heap.size ≤ q → q < w4.heap.size → (((w4.setCell ⟨G, 0, none⟩ (.int .i64 z1)).setCell ⟨G, 1, none⟩ (.int .i64 z2)).alloc (.cells #[.slice p1 rs.length q1, .slice p2 es.length q2] 37)).heap[q]? = w4.heap[q]? := fun q hq hq' => by
          rw [Below.heap_alloc _ _ _ (by simpa using hq'), Below.heap_setCell _ _ _ _ (by show q ≠ G; omega), Below.heap_setCell _ _ _ _ (by show q ≠ G; omega)]
        refine ⟨a2, ?_⟩
        obtain ⟨-, -, -, o1, o2, -, ho, -⟩ := H4.out.2
        have : RowOwn wr.heap.size (((w4.setCell ⟨G, 0, none⟩ (.int .i64 z1)).setCell ⟨G, 1, none⟩ (.int .i64 z2)).alloc (.cells #[.slice p1 rs.length q1, .slice p2 es.length q2] 37)) es (.slice p2 es.length q2) o2 := by
          rcases ho with h | ⟨g, h1, h2, h3, h4, h5⟩
          · exact .inl h
          · exact .inr ⟨g, h1, h2, (hk g h4 (ltH h3)).trans h3, h4, h5⟩
        exact this.row
      have d5 : (((w4.setCell ⟨G, 0, none⟩ (.int .i64 z1)).setCell ⟨G, 1, none⟩ (.int .i64 z2)).alloc (.cells #[.slice p1 rs.length q1, .slice p2 es.length q2] 37)).cell? ⟨G, 0, none⟩ = some (.int .i64 z1) := by go_simp
      have l5 : G < (((w4.setCell ⟨G, 0, none⟩ (.int .i64 z1)).setCell ⟨G, 1, none⟩ (.int .i64 z2)).alloc (.cells #[.slice p1 rs.length q1, .slice p2 es.length q2] 37)).heap.size := World.block_lt_of_cell? _ _ d5
      have d6 : (((w4.setCell ⟨G, 0, none⟩ (.int .i64 z1)).setCell ⟨G, 1, none⟩ (.int .i64 z2)).alloc (.cells #[.slice p1 rs.length q1, .slice p2 es.length q2] 37)).cell? ⟨w4.heap.size, 1, none⟩ = some (.slice p2 es.length q2) := by go_simp
      have l6 : w4.heap.size < (((w4.setCell ⟨G, 0, none⟩ (.int .i64 z1)).setCell ⟨G, 1, none⟩ (.int .i64 z2)).alloc (.cells #[.slice p1 rs.length q1, .slice p2 es.length q2] 37)).heap.size := World.block_lt_of_cell? _ _ d6
      have HL := law_net HTM.out HS.out (by omega) H4.out.1
      generalize (((w4.setCell ⟨G, 0, none⟩ (.int .i64 z1)).setCell ⟨G, 1, none⟩ (.int .i64 z2)).alloc (.cells #[.slice p1 rs.length q1, .slice p2 es.length q2] 37)) = w5 at *
      clear d1 d2 d3 d4 f3 f4 l1 l2 l3
      generalize w4.heap.size = G2 at *
      rcases HL.1 with hz | hz | hz
      · subst hz
        obtain ⟨g1, g2, g3, g4⟩ := HL.2 rfl
        have HSo := soon_any w5 cs es ts _ _ _ (by omega) g2 g1 g3 g4 (HV.out.2.1.below (below_seq HB3.out.1 H5.out.1)) H5.out.2 (HB3.out.2.1.below H5.out.1)
        clear g1 g2 g3 g4 HL
        go_wp2_with (go_at_call 9; refine HSo.mono ?_; rintro r w6 ⟨rfl, hb6⟩; have H6 : Hid (Below w.heap.size w w6) := below_seq (below_seq HB3.out.1 H5.out.1) hb6; clear hb6)
        go_ret
        exact ⟨rfl, H6.out⟩
      · subst hz
        clear HL
        go_wp2_with fail
        go_ret
        exact ⟨rfl, below_seq HB3.out.1 H5.out.1⟩
      · subst hz
        clear HL
        go_wp2_with fail
        go_ret
        exact ⟨rfl, below_seq HB3.out.1 H5.out.1⟩
end Go.Proofs.Ytkafihaajpifoaj
