import Derived.Test.YtcmoehednkaehadDoorGWorksA
import Derived.Deep.CutRange
namespace Go.Proofs.YtcmoehednkaehadDoor
open Go.ChangeShapes Go.WideShapes Go.ChangeAt Go.RowKit

set_option maxRecDepth 20000 in
set_option maxHeartbeats 4000000 in
theorem works_b (hplain : ∀ w : World, Calls Tryd.prog 31 #[] w fun r w' => ∃ v, r = .returned v ∧ BodyAt w' v ∧ Below w.heap.size w w') (w : World) (hr : KindsIn w) :
    Calls Tryd.prog 16 #[] w fun r w' => r = .returned (.bool true) ∧ Below w.heap.size w w' := by
  have HP : Hid _ := hplain
  have HR : Hid (KindsIn w) := hr
  clear hplain hr
  obtain ⟨i0, hi0, hz0, hz1, hz2⟩ := info_parts info3
  have hmk : ∀ W : World, (Instr.makeSlice 23 (.int .i64 8) (.int .i64 8)).run Tryd.prog W = .ok (.slice (some ⟨W.heap.size, 0, none⟩) 8 8) (W.alloc (.cells #[.int .i64 0, .int .i64 0, .int .i64 0, .int .i64 0, .int .i64 0, .int .i64 0, .int .i64 0, .int .i64 0] 3)) := by
    intro W
    have h := run_make (P := Tryd.prog) W 23 3 i0 _ Tryd.underlying23 hi0 hz0 .i64 .i64 8 8 (by decide) (by decide) (by rw [hz2]; decide) (by decide)
    rw [hz1] at h
    have e : madeCells (Value.int .i64 0).cells (Int.toNat 8 * 1) = #[.int .i64 0, .int .i64 0, .int .i64 0, .int .i64 0, .int .i64 0, .int .i64 0, .int .i64 0, .int .i64 0] := by kernel_rfl
    rw [e] at h
    exact h
  clear hi0 hz0 hz1 hz2
  go_enter Tryd.func16, Tryd.ntmps16
  go_wp2_with fail
  go_cut [1, 2] from 1 to 1 (fun x y wc => ∃ g g' vb vc pad pcap, x = .pointer (some ⟨g, 0, none⟩) ∧ y = .pointer (some ⟨g', 0, none⟩) ∧ Hid (RanAt wc vb vc pad pcap ∧ Below w.heap.size w wc) ∧ wc.heap[g]? = some (.cells #[.slice (some ⟨vb, 0, none⟩) 8 vc, .slice pad 1 pcap, .int .i64 28] 43 (0, 0)) ∧ wc.heap[g']? = some (.cells #[.int .i64 0, .int .i64 0] 37 (0, 0)))
  case first =>
    refine wp_region_any (by kernel_rfl) (wpAny_inv (fun l a w' => ∃ l0 l1 l2 l3 l4 l5 l6 l7 l8 l9 l10 : Bool, ∃ x1 x2 x3 x4 x5 x6 x7 x8 x9 : Value, l = #[l0, l1, l2, l3, l4, l5, l6, l7, l8, l9, l10] ∧ a = ⟨#[.bool false, x1, x2, x3, x4, x5, x6, x7, x8, x9, undef, undef, undef, undef, undef, undef, undef, undef, undef, undef, undef, undef, undef, undef, undef, undef, undef, undef, undef, undef, undef, undef, undef, undef, undef, undef, undef, undef], []⟩ ∧ DF w l0 l1 l2 l3 l4 l5 l6 l7 l8 l9 l10 x1 x2 x3 x4 x5 x6 x7 x8 x9 w') ?_ ?_ _ _ _ _ ?_ ?_)
    · rintro l a w' ⟨l0, l1, l2, l3, l4, l5, l6, l7, l8, l9, l10, x1, x2, x3, x4, x5, x6, x7, x8, x9, rfl, rfl, hf⟩ hr
      have hn : ∀ i : Nat, ¬ (i ∈ ([] : List Nat)) := fun i h => by cases h
      rw [← hr] at hn
      have h0 := hn 0
      have h1 := hn 1
      have h2 := hn 2
      have h7 := hn 7
      have h8 := hn 8
      simp [Region.ready, Region.binds] at h0 h1 h2 h7 h8
      subst h0 h1 h2 h7 h8
      have h3 := hn 3
      simp [Region.ready, Region.binds] at h3
      subst h3
      have h4 := hn 4
      simp [Region.ready, Region.binds] at h4
      subst h4
      have h5 := hn 5
      simp [Region.ready, Region.binds] at h5
      subst h5
      have h6 := hn 6
      have h9 := hn 9
      simp [Region.ready, Region.binds] at h6 h9
      subst h6 h9
      have h10 := hn 10
      simp [Region.ready, Region.binds] at h10
      subst h10
      have hl := hf.last
      clear hn hr hf HP HR hmk
      dsimp only
      go_wp2_with fail
      go_meet
      case rel => exact hl
    · rintro l a w' i ⟨l0, l1, l2, l3, l4, l5, l6, l7, l8, l9, l10, x1, x2, x3, x4, x5, x6, x7, x8, x9, rfl, rfl, hf⟩ hi
      have hlt : i < 11 := by unfold Region.ready at hi; exact List.mem_range.1 (List.mem_filter.1 hi).1
      have h11 : i = 0 ∨ i = 1 ∨ i = 2 ∨ i = 3 ∨ i = 4 ∨ i = 5 ∨ i = 6 ∨ i = 7 ∨ i = 8 ∨ i = 9 ∨ i = 10 := by omega
      have HF : Hid _ := hf
      clear hf hlt
      rcases h11 with rfl | rfl | rfl | rfl | rfl | rfl | rfl | rfl | rfl | rfl | rfl
      all_goals simp [Region.ready, Region.binds] at hi
      all_goals refine wpOp_step rfl ?_
      all_goals intro K hK
      all_goals have HK : Hid _ := hK
      all_goals clear hK
      · subst hi
        go_simp
        refine (HP.out w').mono ?_
        rintro r w4 ⟨v4, rfl, hv4, hb4⟩
        exact HK.out _ _ ⟨true, l1, l2, l3, l4, l5, l6, l7, l8, l9, l10, x1, x2, x3, v4, x5, x6, x7, x8, x9, rfl, rfl, (HF.out.grow hb4).s0 hv4⟩
      · subst hi
        go_simp
        exact HK.out _ _ ⟨l0, true, l2, l3, l4, l5, l6, l7, l8, l9, l10, x1, x2, x3, x4, _, x6, x7, x8, x9, rfl, rfl, (HF.out.grow (below_new _ _)).s1 ⟨_, rfl, zeros_made w'⟩⟩
      · subst hi
        go_simp
        exact HK.out _ _ ⟨l0, l1, true, l3, l4, l5, l6, l7, l8, l9, l10, x1, x2, x3, x4, x5, _, x7, x8, x9, rfl, rfl, (HF.out.grow (below_new _ _)).s2 ⟨_, rfl, fives_made w'⟩⟩
      · obtain ⟨rfl, rfl, rfl, rfl, -⟩ := hi
        rcases HF.out.mid with ⟨-, -, -, -, -, -, hB, hZ, hF⟩ | ⟨q, -⟩
        · obtain ⟨k, rfl, hz⟩ := hZ rfl
          obtain ⟨m, rfl, hf⟩ := hF rfl
          have HB : Hid _ := hB rfl
          have HZ : Hid (_ ∧ _) := ⟨hz, hf⟩
          clear hB hZ hF hz hf
          go_simp
          refine (run_own w' _ k m (HR.out.below HF.out.bel) HB.out HZ.out.1 HZ.out.2).mono ?_
          rintro r w4 ⟨vb, vc, pad, pcap, rfl, hv4, hb4⟩
          exact HK.out _ _ ⟨true, true, true, true, l4, l5, l6, l7, l8, l9, l10, x1, x2, x3, x4, _, _, _, x8, x9, rfl, rfl, (HF.out.grow hb4).s3 hv4⟩
        · cases q
      · obtain ⟨rfl, rfl⟩ := hi
        go_simp
        exact HK.out _ _ ⟨l0, l1, l2, true, true, l5, l6, l7, l8, l9, l10, x1, x2, x7, x4, x5, x6, x7, x8, x9, rfl, rfl, HF.out.s4⟩
      · obtain ⟨rfl, rfl⟩ := hi
        rcases HF.out.mid with ⟨-, q, -⟩ | ⟨rfl, -, -, -, vb, vc, pad, pcap, -, -, e4, -⟩
        · cases q
        · have e := e4 rfl
          clear e4
          subst e
          go_simp
          exact HK.out _ _ ⟨l0, l1, l2, true, true, true, l6, l7, l8, l9, l10, x1, x2, _, x4, x5, x6, x7, _, x9, rfl, rfl, HF.out.s5 (fun y z h => by cases h; rfl)⟩
      · obtain ⟨rfl, rfl⟩ := hi
        rcases HF.out.mid with ⟨-, q, -⟩ | ⟨rfl, -, -, -, vb, vc, pad, pcap, -, -, e4, -⟩
        · cases q
        · have e := e4 rfl
          clear e4
          subst e
          go_simp
          exact HK.out _ _ ⟨l0, l1, l2, true, true, l5, true, l7, l8, l9, l10, x1, x2, _, x4, x5, x6, x7, x8, _, rfl, rfl, HF.out.s6 (fun y z h => by cases h; rfl)⟩
      · subst hi
        go_simp
        exact HK.out _ _ ⟨l0, l1, l2, l3, l4, l5, l6, true, l8, l9, l10, _, x2, x3, x4, x5, x6, x7, x8, x9, rfl, rfl, (HF.out.grow (below_new _ _)).s7 ⟨_, rfl, HF.out.bel.size, heap_alloc_new w' _⟩⟩
      · subst hi
        go_simp
        exact HK.out _ _ ⟨l0, l1, l2, l3, l4, l5, l6, l7, true, l9, l10, x1, _, x3, x4, x5, x6, x7, x8, x9, rfl, rfl, (HF.out.grow (below_new _ _)).s8 ⟨_, rfl, HF.out.bel.size, heap_alloc_new w' _⟩⟩
      · obtain ⟨rfl, rfl, rfl, rfl, -⟩ := hi
        obtain ⟨vb, vc, pad, pcap, -, e8, -⟩ := HF.out.shape rfl
        have e8' := e8 rfl
        clear e8
        unfold endV at e8'
        subst e8'
        rcases HF.out.b3 with ⟨q, -⟩ | ⟨-, c0, c1, c2, ⟨g, rfl, hg0, hg⟩, -⟩
        · cases q
        · obtain ⟨c, f, lt⟩ := cells_of (l := [_, _, _]) hg
          have k0 := c 0 _ rfl
          have k1 := c 1 _ rfl
          have k2 := c 2 _ rfl
          have HG : Hid _ := hg
          clear c hg
          go_simp
          exact HK.out _ _ ⟨l0, l1, l2, true, l4, true, l6, true, l8, true, l10, _, x2, x3, x4, x5, x6, x7, _, x9, rfl, rfl, HF.out.s9 rfl hg0 HG.out rfl⟩
      · obtain ⟨rfl, rfl, rfl, -, -, -, -, rfl, -⟩ := hi
        obtain ⟨vb, vc, pad, pcap, -, -, e9⟩ := HF.out.shape rfl
        have e9' := e9 rfl
        clear e9
        unfold okV at e9'
        subst e9'
        rcases HF.out.b2 with ⟨q, -⟩ | ⟨-, c0, c1, ⟨g, rfl, hg0, hg⟩, -⟩
        · cases q
        · obtain ⟨c, f, lt⟩ := cells_of (l := [_, _]) hg
          have k0 := c 0 _ rfl
          have k1 := c 1 _ rfl
          have HG : Hid _ := hg
          clear c hg
          go_simp
          exact HK.out _ _ ⟨l0, l1, l2, true, l4, l5, true, l7, true, l9, true, x1, _, x3, x4, x5, x6, x7, x8, _, rfl, rfl, HF.out.s10 rfl hg0 HG.out rfl⟩
    · exact ⟨false, false, false, false, false, false, false, false, false, false, false, undef, undef, undef, undef, undef, undef, undef, undef, undef, rfl, rfl, ⟨(Below.refl _ w).drew, .inl ⟨rfl, rfl, rfl, rfl, rfl, rfl, (fun h => by cases h), (fun h => by cases h), (fun h => by cases h)⟩, .inl ⟨rfl, rfl⟩, .inl ⟨rfl, rfl⟩⟩⟩
    · simp
  case rest =>
    obtain ⟨g, g', vb, vc, pad, pcap, rfl, rfl, HC, hg, hg'⟩ := hcut
    obtain ⟨c, f, lt⟩ := cells_of (l := [_, _, _]) hg
    obtain ⟨c', f', lt'⟩ := cells_of (l := [_, _]) hg'
    have k0 := c 0 _ rfl
    have k1 := c 1 _ rfl
    have k2 := c 2 _ rfl
    have q0 := c' 0 _ rfl
    have v0 : wc.cell? ⟨vb, 0, none⟩ = some (.int .i64 15) := by
      obtain ⟨-, cs, h1, -, h3⟩ := HC.out.1.1
      unfold World.cell?
      rw [h1]
      exact h3 0 (by decide)
    clear c c' f f' hg hg' HP HR hmk
    go_wp2_with (go_at_call 40; refine (SameP_any _ doneP _ _ (by decide) ((PutSl.of_own HC.out.1.2.choose_spec).below (below_new _ _)) (puts_made wc)).mono ?_; rintro r w4 ⟨rfl, hb4⟩; have H4 : Hid (Below w.heap.size w w4) := below_seq HC.out.2 (below_seq (below_new _ _) hb4); clear hb4)
    go_ret
    exact ⟨rfl, H4.out⟩

theorem image_body (w : World) : Calls Tryd.prog 31 #[] w fun r w' => ∃ v, r = .returned v ∧ BodyAt w' v ∧ Below w.heap.size w w' :=
  (imageW_any w).mono fun _ _ ⟨⟨ad, c, h1, h2, h3⟩, h4⟩ => ⟨_, h1, ⟨ad, c, rfl, h2, h3⟩, h4⟩

theorem works_any (w : World) (hr : KindsIn w) : Calls Tryd.prog 16 #[] w fun r w' => r = .returned (.bool true) ∧ Below w.heap.size w w' := works_b image_body w hr
end Go.Proofs.YtcmoehednkaehadDoor
