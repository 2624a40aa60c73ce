import Derived.Test.YtkafihaajpifoajCO
import Derived.Test.YtkafihaajpifoajLW
namespace Go.Proofs.Ytkafihaajpifoaj
open Go.ChangeShapes Go.WideShapes Go.ChangeAt Go.RowKit Go.Sort

theorem srt4 : srt [10, 12, 11, 1000] = [10, 11, 12, 1000] := by simp [srt, List.mergeSort, List.MergeSort.Internal.splitInTwo]
theorem mid4 : midF [10, 12, 11, 1000] 1 = (11, 0) := by
  unfold midF
  rw [srt4]
  decide

set_option maxRecDepth 20000 in
set_option maxHeartbeats 1000000 in
theorem middle_any (w : World) : Calls Try.prog 10 #[] w fun r w' => r = .returned (.bool true) ∧ Below w.heap.size w w' := by
  have hr : RowSl nuV (w.alloc (.cells #[.int .i64 10, .int .i64 12, .int .i64 11, .int .i64 1000] 3)) [10, 12, 11, 1000] (.slice (some ⟨w.heap.size, 0, none⟩) 4 4) := row_new (f := nuV) w [10, 12, 11, 1000] 4 #[.int .i64 10, .int .i64 12, .int .i64 11, .int .i64 1000] 3 rfl rfl
  have HM := Middle_any _ _ 1 _ hr
  rw [mid4] at HM
  dsimp only at HM
  clear hr
  go_enter Try.func10, Try.ntmps10
  go_wp2_with (go_at_call 18; refine HM.mono ?_; rintro r w1 ⟨rfl, hb1⟩; have H1 : Hid (Below w.heap.size w w1) := below_seq (below_new _ _) hb1; clear hb1 HM)
  go_ret
  exact ⟨rfl, H1.out⟩

set_option maxRecDepth 20000 in
set_option maxHeartbeats 4000000 in
theorem rounds_walk (w : World) (l : List Ro) (f : Int) (d : List Int) (v vd : Value) (hs : ∀ x ∈ l, x.xs.length * 8 ≤ 140737488355328) (hv : TabSl w l v) (hd : RowSl nuV w d vd) :
    Calls Try.prog 4 #[v, .int .i64 f, vd] w fun r w' => r = .returned (.bool true) ∧ Below w.heap.size w w' := by
  obtain ⟨ad, c, rfl⟩ := hv.1.len
  obtain ⟨ad2, c2, rfl⟩ := hd.len
  have HV : Hid (TabSl w l (.slice ad l.length c) ∧ RowSl nuV w d (.slice ad2 d.length c2) ∧ ∀ x ∈ l, x.xs.length * 8 ≤ 140737488355328) := ⟨hv, hd, hs⟩
  clear hv hd hs
  by_cases b1 : l.length ≤ 5000
  rotate_left 1
  · have fa : decide ((l.length : Int) ≤ 5000) = false := by first | (simp; done) | (simp; omega)
    have fb : True := trivial
    go_enter Try.func4, Try.ntmps4
    go_wp2_with (first | (go_at_call 10; refine (middle_any _).mono ?_; rintro r w1 ⟨rfl, hb1⟩; have H1 : Hid (Below w.heap.size w w1) := hb1; clear hb1) | (go_at_call 6; refine (few_any _ _).mono ?_; rintro r w6 ⟨rfl, hw6⟩; have hw7 := hw6.symm; subst hw7; clear hw6; rw [fa]))
    go_ret
    exact ⟨rfl, H1.out⟩
  have fa : decide ((l.length : Int) ≤ 5000) = true := by first | (simp; done) | (simp; omega)
  by_cases b2 : d.length ≤ 5000
  rotate_left 1
  · have fb : decide ((d.length : Int) ≤ 5000) = false := by first | (simp; done) | (simp; omega)
    go_enter Try.func4, Try.ntmps4
    go_wp2_with (first | (go_at_call 10; refine (middle_any _).mono ?_; rintro r w1 ⟨rfl, hb1⟩; have H1 : Hid (Below w.heap.size w w1) := hb1; clear hb1) | (go_at_call 6; refine (few_any _ _).mono ?_; rintro r w6 ⟨rfl, hw6⟩; have hw7 := hw6.symm; subst hw7; clear hw6; first | rw [fa] | rw [fb]))
    go_ret
    exact ⟨rfl, H1.out⟩
  have fb : decide ((d.length : Int) ≤ 5000) = true := by first | (simp; done) | (simp; omega)
  have hl5 : l.length ≤ 5000 := b1
  obtain ⟨L, z1, z2, hE⟩ : ∃ L z1 z2, rndF (l.map Ro.xs) f d = (L, z1, z2) := ⟨_, _, _, rfl⟩
  have HLl : Hid (L.length ≤ 4194304) := by
    show _ ≤ _
    have h7 : L = (rndF (l.map Ro.xs) f d).1 := by rw [hE]
    rw [h7, rndF]
    split
    · exact Nat.zero_le _
    · split
      · unfold rndL; rw [List.length_zipWith, List.length_map]; omega
      · exact Nat.zero_le _
  go_enter Try.func4, Try.ntmps4
  go_upto_region 8 with (first | (go_at_call 10; refine (middle_any _).mono ?_; rintro r w1 ⟨rfl, hb1⟩; have H1 : Hid (Below w.heap.size w w1) := hb1; clear hb1) | (go_at_call 6; refine (few_any _ _).mono ?_; rintro r w6 ⟨rfl, hw6⟩; have hw7 := hw6.symm; subst hw7; clear hw6; first | rw [fa] | rw [fb]) | (go_at_call 11; refine (Copy_any w1 l _ hl5 HV.out.2.2 (HV.out.1.below H1.out)).mono ?_; rintro r w2 ⟨u2, js, rfl, hjs, htab, hb2⟩; obtain ⟨ua, uc, rfl⟩ := htab.1.len; have hjl : js.length = l.length := (by have := congrArg List.length hjs; simpa using this); rw [hjl] at htab ⊢; have H2 : Hid (Below w.heap.size w w2 ∧ js.map Ro.xs = l.map Ro.xs ∧ TabSl w2 js (.slice ua l.length uc) ∧ js.length = l.length) := ⟨below_seq H1.out hb2, hjs, htab, hjl⟩; clear hb2 hjs htab H1 hjl) | (go_at_call 12; refine (LendN_any w2 d (-9) _ (by omega) (HV.out.2.1.below H2.out.1)).mono ?_; rintro r w3 ⟨u3, rfl, hlent, hb3⟩; obtain ⟨ta, tc, hte⟩ := hlent.plain.len; subst hte; have H3 : Hid (Below w.heap.size w w3 ∧ TabSl w3 js (.slice ua l.length uc) ∧ Lent nuV w3 d (-9) (.slice ta d.length tc)) := ⟨below_seq H2.out.1 hb3, H2.out.2.2.1.below hb3, hlent⟩; clear hb3 hlent) | (go_at_call 13; refine (Round_any w3 js f d _ _ H3.out.2.1 H3.out.2.2.plain).mono ?_; rintro r w4 ⟨t4, rfl, hr4, hb4⟩; rw [H2.out.2.1] at hr4 ⊢; rw [hE] at hr4 ⊢; dsimp only at hr4 ⊢; obtain ⟨a4, c4, rfl⟩ := hr4.len; have H4 : Hid (Below w.heap.size w (w4.alloc (.cells #[.int .i64 z1, .int .i64 z2] 29)) ∧ TabSl (w4.alloc (.cells #[.int .i64 z1, .int .i64 z2] 29)) js (.slice ua l.length uc) ∧ Lent nuV (w4.alloc (.cells #[.int .i64 z1, .int .i64 z2] 29)) d (-9) (.slice ta d.length tc) ∧ RowSl nuV (w4.alloc (.cells #[.int .i64 z1, .int .i64 z2] 29)) L (.slice a4 L.length c4) ∧ (w4.alloc (.cells #[.int .i64 z1, .int .i64 z2] 29)).heap[w4.heap.size]? = some (.cells #[.int .i64 z1, .int .i64 z2] 29 (0, 0))) := ⟨below_seq (below_seq H3.out.1 hb4) (below_new _ _), (H3.out.2.1.below hb4).below (below_new _ _), (H3.out.2.2.below hb4).below (below_new _ _), hr4.below (below_new _ _), heap_alloc_new _ _⟩; clear hb4 hr4 H3) | (go_at_call 14; refine (RoundOf_any (w4.alloc (.cells #[.int .i64 z1, .int .i64 z2] 29)) l f d _ _ (HV.out.1.below H4.out.1) (HV.out.2.1.below H4.out.1)).mono ?_; rintro r w5 ⟨t5, rfl, hr5, hb5⟩; rw [hE] at hr5 ⊢; dsimp only at hr5 ⊢; obtain ⟨a5, c5, rfl⟩ := hr5.len; have H5 : Hid (Below w.heap.size w (w5.alloc (.cells #[.int .i64 z1, .int .i64 z2] 29)) ∧ TabSl (w5.alloc (.cells #[.int .i64 z1, .int .i64 z2] 29)) js (.slice ua l.length uc) ∧ Lent nuV (w5.alloc (.cells #[.int .i64 z1, .int .i64 z2] 29)) d (-9) (.slice ta d.length tc) ∧ RowSl nuV (w5.alloc (.cells #[.int .i64 z1, .int .i64 z2] 29)) L (.slice a4 L.length c4) ∧ RowSl nuV (w5.alloc (.cells #[.int .i64 z1, .int .i64 z2] 29)) L (.slice a5 L.length c5) ∧ (w5.alloc (.cells #[.int .i64 z1, .int .i64 z2] 29)).heap[w4.heap.size]? = some (.cells #[.int .i64 z1, .int .i64 z2] 29 (0, 0)) ∧ (w5.alloc (.cells #[.int .i64 z1, .int .i64 z2] 29)).heap[w5.heap.size]? = some (.cells #[.int .i64 z1, .int .i64 z2] 29 (0, 0))) := ⟨below_seq (below_seq H4.out.1 hb5) (below_new _ _), (H4.out.2.1.below hb5).below (below_new _ _), (H4.out.2.2.1.below hb5).below (below_new _ _), (H4.out.2.2.2.1.below hb5).below (below_new _ _), hr5.below (below_new _ _), ((below_seq hb5 (below_new _ _)).block _ (ltH H4.out.2.2.2.2)).trans H4.out.2.2.2.2, heap_alloc_new _ _⟩; clear hb5 hr5 H4))
  have HJS : Hid (∀ x ∈ js, x.xs.length * 8 ≤ 140737488355328) := fun x hx => by
    have h7 : x.xs ∈ js.map Ro.xs := List.mem_map.2 ⟨x, hx, rfl⟩
    rw [H2.out.2.1] at h7
    obtain ⟨y, hy, hye⟩ := List.mem_map.1 h7
    rw [← hye]
    exact HV.out.2.2 y hy
  clear hE
  obtain ⟨qs, -, ql⟩ := cells_of (l := [_, _]) H5.out.2.2.2.2.2.1
  have q0 := qs 0 _ rfl
  have q1 := qs 1 _ rfl
  obtain ⟨ps, -, pl⟩ := cells_of (l := [_, _]) H5.out.2.2.2.2.2.2
  have p0 := ps 0 _ rfl
  have p1 := ps 1 _ rfl
  clear qs ps
  have H6 : Hid (Below w.heap.size w (w5.alloc (.cells #[.int .i64 z1, .int .i64 z2] 29)) ∧ TabSl (w5.alloc (.cells #[.int .i64 z1, .int .i64 z2] 29)) js (.slice ua l.length uc) ∧ Lent nuV (w5.alloc (.cells #[.int .i64 z1, .int .i64 z2] 29)) d (-9) (.slice ta d.length tc) ∧ RowSl nuV (w5.alloc (.cells #[.int .i64 z1, .int .i64 z2] 29)) L (.slice a4 L.length c4) ∧ RowSl nuV (w5.alloc (.cells #[.int .i64 z1, .int .i64 z2] 29)) L (.slice a5 L.length c5)) := ⟨H5.out.1, H5.out.2.1, H5.out.2.2.1, H5.out.2.2.2.1, H5.out.2.2.2.2.1⟩
  clear H5
  generalize (w5.alloc (.cells #[.int .i64 z1, .int .i64 z2] 29)) = w6 at *
  generalize w5.heap.size = G5 at *
  generalize w4.heap.size = G4 at *
  go_wp2_with (first | (go_at_call 15; refine (SameN_any w6 L _ _ HLl.out H6.out.2.2.2.1 H6.out.2.2.2.2).mono ?_; rintro r w7 ⟨rfl, hb7⟩; have H7 : Hid (Below w.heap.size w w7 ∧ TabSl w7 js (.slice ua l.length uc) ∧ Lent nuV w7 d (-9) (.slice ta d.length tc)) := ⟨below_seq H6.out.1 hb7, H6.out.2.1.below hb7, H6.out.2.2.1.below hb7⟩; clear hb7) | (go_at_call 16; refine (Tables_any w7 js l _ _ H2.out.2.1 (by rw [H2.out.2.2.2]; exact hl5) (HJS.out) H7.out.2.1 (HV.out.1.below H7.out.1)).mono ?_; rintro r w8 ⟨rfl, hb8⟩; have H8 : Hid (Below w.heap.size w w8 ∧ TabSl w8 js (.slice ua l.length uc) ∧ Lent nuV w8 d (-9) (.slice ta d.length tc)) := ⟨below_seq H7.out.1 hb8, H7.out.2.1.below hb8, H7.out.2.2.below hb8⟩; clear hb8 H7) | (go_at_call 17; refine (StillN_any w8 d (-9) _ _ (by omega) H8.out.2.2 (HV.out.2.1.below H8.out.1)).mono ?_; rintro r w9 ⟨rfl, hb9⟩; have H9 : Hid (Below w.heap.size w w9 ∧ TabSl w9 js (.slice ua l.length uc)) := ⟨below_seq H8.out.1 hb9, H8.out.2.1.below hb9⟩; clear hb9 H8))
  clear q0 q1 p0 p1 ql pl
  go_loopw [71] (fun i wr => ∃ j : Nat, j ≤ l.length ∧ i = .int .i64 (j : Int) ∧ Below w.heap.size w wr ∧ TabSl wr js (.slice ua l.length uc)) (fun i _ => l.length - (intOf i).toNat)
  case atStart => exact ⟨0, Nat.zero_le _, rfl, H9.out.1, H9.out.2⟩
  case round =>
    obtain ⟨j, hj, rfl, hb, ht⟩ := hrel
    have HB : Hid (Below w.heap.size w wr ∧ TabSl wr js (.slice ua l.length uc)) := ⟨hb, ht⟩
    by_cases hjl : j < l.length
    · obtain ⟨x, hx, -⟩ := drop_at hjl
      have hjj : j < js.length := by have := H2.out.2.2.2; omega
      obtain ⟨y, hy, -⟩ := drop_at hjj
      have hxy : y.xs = x.xs := by
        have h7 := congrArg (·[j]?) H2.out.2.1
        simp only [List.getElem?_map, hx, hy, Option.map_some, Option.some.injEq] at h7
        exact h7
      obtain ⟨ad', c', he, -, hcap, hrow⟩ := HV.out.1.1.below hb
      cases he
      rcases hrow with h | ⟨b, o, rfl, hrow⟩
      · rw [h] at hjl; simp at hjl
      obtain ⟨ua', uc', he2, -, hcap2, hrow2⟩ := ht.1
      rw [H2.out.2.2.2] at he2
      cases he2
      rcases hrow2 with h | ⟨b2, o2, rfl, hrow2⟩
      · rw [h] at hjj; simp at hjj
      have c0 := ro_at hrow hx
      have d0 := ro_at hrow2 hy
      have rx := (HV.out.1.2 x (List.mem_of_getElem? hx)).below hb
      have ry := ht.2 y (List.mem_of_getElem? hy)
      rw [hxy] at ry
      have HM := Middle_any wr x.xs f y.v ry
      have HM2 : Hid (∀ W, Below wr.heap.size wr W → Calls Try.prog 19 #[x.v, .int .i64 f] W fun r w' => r = .returned (.tuple #[.int .i64 (midF x.xs f).1, .int .i64 (midF x.xs f).2]) ∧ Below W.heap.size W w') := fun W hW => MiddleOf_any W x.xs f x.v (rx.below hW)
      obtain ⟨xa, xc, hxe⟩ := rx.len
      obtain ⟨ya, yc, hye⟩ := ry.len
      rw [hxe] at c0 HM2
      rw [hye] at d0 HM
      generalize (midF x.xs f).1 = m1 at *
      generalize (midF x.xs f).2 = m2 at *
      generalize x.xs.length = xn at *
      have lb : b < wr.heap.size := World.block_lt_of_cell? _ _ c0
      have lb2 : b2 < wr.heap.size := World.block_lt_of_cell? _ _ d0
      have hji : (j : Int) < (l.length : Int) := by omega
      clear hrow hrow2 hb ht hx hy hxy rx ry hxe hye
      go_wp2_with (first | (go_at_call 18; refine HM.mono ?_; rintro r w10 ⟨rfl, hb10⟩; have H10 : Hid (Below w.heap.size w w10 ∧ TabSl w10 js (.slice (some ⟨b2, o2, none⟩) l.length uc) ∧ Below wr.heap.size wr w10) := ⟨below_seq HB.out.1 hb10, HB.out.2.below hb10, hb10⟩; have e0 := below_cell hb10 c0; have le : b < w10.heap.size := World.block_lt_of_cell? _ _ e0; clear hb10 HM c0 d0 lb lb2) | (go_at_call 19; refine (HM2.out w10 H10.out.2.2).mono ?_; rintro r w11 ⟨rfl, hb11⟩; have H11 : Hid (Below w.heap.size w w11 ∧ TabSl w11 js (.slice (some ⟨b2, o2, none⟩) l.length uc)) := ⟨below_seq H10.out.1 hb11, H10.out.2.1.below hb11⟩; clear hb11 HM2 H10) | (go_at_call 16; refine (Tables_any w11 js l _ _ H2.out.2.1 (by rw [H2.out.2.2.2]; exact hl5) (HJS.out) H11.out.2 (HV.out.1.below H11.out.1)).mono ?_; rintro r w12 ⟨rfl, hb12⟩; have H12 : Hid (Below w.heap.size w w12 ∧ TabSl w12 js (.slice (some ⟨b2, o2, none⟩) l.length uc)) := ⟨below_seq H11.out.1 hb12, H11.out.2.below hb12⟩; clear hb12 H11))
      exact ⟨⟨j + 1, by omega, by simp, H12.out.1, H12.out.2⟩, by simp [intOf]; omega⟩
    · have hje : j = l.length := by omega
      subst hje
      clear hb ht
      go_wp2_with fail
      go_ret
      exact ⟨rfl, HB.out.1⟩
end Go.Proofs.Ytkafihaajpifoaj
