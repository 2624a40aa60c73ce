import Derived.Test.YtikdidfgdiafoabDoorGJoinC
namespace Go.Proofs.YtikdidfgdiafoabDoor
open Go.ChangeShapes Go.WideShapes Go.ChangeAt Go.RowKit

set_option maxRecDepth 20000 in
set_option maxHeartbeats 4000000 in
theorem joins_main (a b : List St) (vs is : List Int) (w : World) (ad bd va ia : Option Addr) (ac bc vc ic : Nat) (hr : Ready w) (hsa : St.Sl w a (.slice ad a.length ac)) (hsb : St.Sl w b (.slice bd b.length bc)) (hb : St.bulkAll a + St.bulkAll b ≤ 1048576)
    (hv : IntSl w vs (.slice va vs.length vc)) (hi : IntSl w is (.slice ia is.length ic)) (cx cy dx dy gc gk : Int) (s1 s2 : Ms) (hca : (decide (St.deepAll 0 a ≤ 300) && decide ((St.countAll a : Int) ≤ 2000)) = true) (hcb : (decide (St.deepAll 0 b ≤ 300) && decide ((St.countAll b : Int) ≤ 2000)) = true) (hx : checkV a = .agg #[.int .i64 cx, .int .i64 cy]) (hm : meanOf a vs is cx cy = ((0, 0), s1)) (hy : checkV b = .agg #[.int .i64 dx, .int .i64 dy]) (hm2 : meanOf b s1.vars is dx dy = ((gc, gk), s2)) :
    Calls Tryd.prog 4 #[.slice ad a.length ac, .slice bd b.length bc, .slice va vs.length vc, .slice ia is.length ic] w fun r w' => r = .returned (.bool true) ∧ Below w.heap.size w w' := by
  have HA : Hid ((Ready w ∧ St.Sl w a (.slice ad a.length ac) ∧ St.Sl w b (.slice bd b.length bc)) ∧ (IntSl w vs (.slice va vs.length vc) ∧ IntSl w is (.slice ia is.length ic))) := ⟨⟨hr, hsa, hsb⟩, hv, hi⟩
  have HC : Hid ((decide (St.deepAll 0 a ≤ 300) && decide ((St.countAll a : Int) ≤ 2000)) = true ∧ (decide (St.deepAll 0 b ≤ 300) && decide ((St.countAll b : Int) ≤ 2000)) = true) := ⟨hca, hcb⟩
  have HM : Hid (checkV a = .agg #[.int .i64 cx, .int .i64 cy] ∧ meanOf a vs is cx cy = ((0, 0), s1)) := ⟨hx, hm⟩
  have HN : Hid (checkV b = .agg #[.int .i64 dx, .int .i64 dy] ∧ meanOf b s1.vars is dx dy = ((gc, gk), s2)) := ⟨hy, hm2⟩
  clear hr hsa hsb hv hi hx hm hca hcb hy hm2
  go_enter Tryd.func4, Tryd.ntmps4
  go_wp2_with (go_at_call 5; refine (does_any w HA.out.1.1).mono ?_; rintro r w1 ⟨rfl, hb1⟩; have H1 : Hid (Below w.heap.size w w1) := hb1; clear hb1)
  have PH : Phase 1 := trivial
  go_wp2_with (go_at_call 6; guard_hyp PH : Phase 1; clear PH; refine (claims_b a w1 _ true (by omega) (HA.out.1.2.1.below H1.out) HC.out.1).mono ?_; rintro r w2 ⟨rfl, hb2⟩; have H2 : Hid (Below w.heap.size w w2) := below_seq H1.out hb2; clear hb2; have PH : Phase 2 := trivial)
  go_wp2_with (go_at_call 6; guard_hyp PH : Phase 2; clear PH; refine (claims_b b w2 _ true (by omega) (HA.out.1.2.2.below H2.out) HC.out.2).mono ?_; rintro r w3 ⟨rfl, hb3⟩; have H3 : Hid (Below w.heap.size w w3) := below_seq H2.out hb3; clear hb3)
  go_wp2_with (go_at_call 8; refine (Twin_any (St.bulkAll a + 1) a w3 _ (Nat.lt_succ_self _) (by omega) (HA.out.1.2.1.below H3.out)).mono ?_; rintro r w4 ⟨v4, bl, rfl, hsl4, hnd4, hb4⟩; obtain ⟨oad, oc, rfl, -⟩ := id hsl4.plain; have H4 : Hid ((St.SlQ (fun b => w3.heap.size ≤ b) w4 a (.slice oad a.length oc) bl ∧ bl.Nodup) ∧ Below w.heap.size w w4) := ⟨⟨hsl4, hnd4⟩, below_seq H3.out hb4⟩; clear hsl4 hnd4 hb4)
  go_wp2_with (go_at_call 10; refine (Run_is w4 _ a _ _ _ _ _ _ vs is cx cy _ bl (HA.out.1.1.below H4.out.2) H4.out.1.1 H4.out.1.2 (by omega) HM.out.1 (HA.out.2.1.below H4.out.2) (HA.out.2.2.below H4.out.2)).mono ?_; intro r w5 h5; rw [HM.out.2] at h5; obtain ⟨xad, xn, xcap, yad, yn, ycap, rfl, ho5, hb5⟩ := h5.out; have H5 : Hid (OutAt w5 s1 (.slice xad xn xcap) (.slice yad yn ycap) ∧ Below w.heap.size w w5) := ⟨ho5, below_seq H4.out.2 hb5⟩; clear h5 ho5 hb5)
  have H6 : Hid (Kept2 ((w5.alloc (.cells #[.slice xad xn xcap, .slice yad yn ycap, .int .i64 s1.steps] 28)).alloc (.cells #[.int .i64 0, .int .i64 0] 31)) w5.heap.size (.slice xad xn xcap) (.slice yad yn ycap) (.int .i64 s1.steps) (.int .i64 0) (.int .i64 0) ∧ Below w5.heap.size w5 ((w5.alloc (.cells #[.slice xad xn xcap, .slice yad yn ycap, .int .i64 s1.steps] 28)).alloc (.cells #[.int .i64 0, .int .i64 0] 31))) := ⟨Kept2.made w5 _ _ _ _ _, ((Below.refl _ w5).alloc (Nat.le_refl _) _).alloc (by simp) _⟩
  generalize (w5.alloc (.cells #[.slice xad xn xcap, .slice yad yn ycap, .int .i64 s1.steps] 28)).alloc (.cells #[.int .i64 0, .int .i64 0] 31) = w6 at *
  go_cut [11] from 15 to 59 (fun x wc => ∃ h vad vn vcap pad pn pcap, x = .pointer (some ⟨h, 0, none⟩) ∧ w5.heap.size + 1 < h ∧ Hid (OutAt wc s2 (.slice vad vn vcap) (.slice pad pn pcap) ∧ Below w5.heap.size w5 wc) ∧ wc.heap[w5.heap.size]? = some (.cells #[.slice xad xn xcap, .slice yad yn ycap, .int .i64 s1.steps] 28 (0, 0)) ∧ wc.heap[w5.heap.size + 1]? = some (.cells #[.int .i64 gc, .int .i64 gk] 31 (0, 0)) ∧ wc.heap[h]? = some (.cells #[.slice vad vn vcap, .slice pad pn pcap, .int .i64 s2.steps] 28 (0, 0)))
  case first =>
    refine wp_region_any (by kernel_rfl) (wpAny_inv (fun l a' w' => ∃ l0 l1 l2 l3 l4 l5 l6 l7 l8 l9 l10 l11 : Bool, ∃ x11 x51 x52 x53 x54 x55 x56 x57 x58 x59 : Value, l = #[l0, l1, l2, l3, l4, l5, l6, l7, l8, l9, l10, l11] ∧ a' = ⟨#[Value.slice ad a.length ac, Value.slice bd b.length bc, Value.slice va vs.length vc, Value.slice ia is.length ic, undef, undef, undef, undef, Value.bool false, Value.pointer (some ⟨w5.heap.size, 0, none⟩), Value.pointer (some ⟨w5.heap.size + 1, 0, none⟩), x11, undef, undef, undef, Value.bool true, Value.bool false, Value.slice ad a.length ac, Value.bool true, Value.bool false, Value.bool false, Value.slice bd b.length bc, Value.bool true, Value.bool false, Value.bool false, Value.tuple #[Value.agg #[Value.slice xad xn xcap, Value.slice yad yn ycap, Value.int IntKind.i64 s1.steps], Value.agg #[Value.int IntKind.i64 0, Value.int IntKind.i64 0]], Value.slice ad a.length ac, Value.slice oad a.length oc, Value.slice va vs.length vc, Value.slice ia is.length ic, Value.tuple #[Value.agg #[Value.slice xad xn xcap, Value.slice yad yn ycap, Value.int IntKind.i64 s1.steps], Value.agg #[Value.int IntKind.i64 0, Value.int IntKind.i64 0]], Value.agg #[Value.slice xad xn xcap, Value.slice yad yn ycap, Value.int IntKind.i64 s1.steps], Value.agg #[Value.int IntKind.i64 0, Value.int IntKind.i64 0], Value.pointer (some ⟨w5.heap.size + 1, 0, none⟩), Value.int IntKind.i64 0, Value.bool false, undef, undef, undef, undef, undef, undef, undef, undef, undef, undef, undef, undef, undef, undef, undef, x51, x52, x53, x54, x55, x56, x57, x58, x59, undef, undef, undef, undef, undef, undef, undef, undef, undef, undef, undef, undef, undef, undef, undef, undef, undef, undef, undef, undef, undef, undef, undef, undef, undef, undef, undef, undef, undef, undef, undef, undef, undef, undef, undef, undef, undef, undef, undef, undef, undef, undef, undef, undef, undef, undef, undef, undef, undef, undef, undef, undef, undef, undef, undef, undef, undef, undef, undef, undef, undef, undef, undef, undef, undef, undef, undef], []⟩ ∧ EF w5 b (.slice xad xn xcap) (.slice yad yn ycap) (.int .i64 s1.steps) (.slice bd b.length bc) (.slice ia is.length ic) gc gk s2 l0 l1 l2 l3 l4 l5 l6 l7 l8 l9 l10 l11 x11 x51 x52 x53 x54 x55 x56 x57 x58 x59 w') ?_ ?_ _ _ _ _ ?_ ?_)
    · rintro l a' w' ⟨l0, l1, l2, l3, l4, l5, l6, l7, l8, l9, l10, l11, x11, x51, x52, x53, x54, x55, x56, x57, x58, x59, rfl, rfl, hf⟩ hr
      have hn : ∀ i : Nat, ¬ (i ∈ ([] : List Nat)) := fun i h => by cases h
      rw [← hr] at hn
      have h0 := hn 0
      have h2 := hn 2
      have h4 := hn 4
      have h9 := hn 9
      simp [Region.ready, Region.binds] at h0 h2 h4 h9
      subst h0 h2 h4 h9
      have h1 := hn 1
      have h3 := hn 3
      simp [Region.ready, Region.binds] at h1 h3
      subst h1 h3
      have h5 := hn 5
      simp [Region.ready, Region.binds] at h5
      subst h5
      have h6 := hn 6
      simp [Region.ready, Region.binds] at h6
      subst h6
      have h7 := hn 7
      simp [Region.ready, Region.binds] at h7
      subst h7
      have h8 := hn 8
      have h10 := hn 10
      simp [Region.ready, Region.binds] at h8 h10
      subst h8 h10
      have h11 := hn 11
      simp [Region.ready, Region.binds] at h11
      subst h11
      have hl := hf.last
      clear hn hr hf
      dsimp only
      go_wp2_with fail
      go_meet
      case rel => exact hl
    · rintro l a' w' i ⟨l0, l1, l2, l3, l4, l5, l6, l7, l8, l9, l10, l11, x11, x51, x52, x53, x54, x55, x56, x57, x58, x59, rfl, rfl, hf⟩ hi
      have hlt : i < 12 := by unfold Region.ready at hi; exact List.mem_range.1 (List.mem_filter.1 hi).1
      have h11 : i = 0 ∨ i = 1 ∨ i = 2 ∨ i = 3 ∨ i = 4 ∨ i = 5 ∨ i = 6 ∨ i = 7 ∨ i = 8 ∨ i = 9 ∨ i = 10 ∨ i = 11 := by omega
      have HF : Hid _ := hf
      have hsz : w5.heap.size + 1 < w'.heap.size := by obtain ⟨f0, f1, q, -⟩ := hf.blkF; exact (Array.getElem?_eq_some_iff.1 q).1
      clear hf hlt
      rcases h11 with rfl | rfl | rfl | rfl | rfl | rfl | rfl | rfl | rfl | rfl | rfl | rfl
      all_goals simp [Region.ready, Region.binds] at hi
      all_goals refine wpOp_step rfl ?_
      all_goals intro K hK
      all_goals have HK : Hid _ := hK
      all_goals clear hK
      · subst hi
        go_simp
        exact HK.out _ _ ⟨true, l1, l2, l3, l4, l5, l6, l7, l8, l9, l10, l11, x11, x51, _, x53, x54, x55, x56, x57, x58, x59, rfl, rfl, HF.out.s0⟩
      · obtain ⟨rfl, rfl⟩ := hi
        rcases HF.out.mid with ⟨-, -, -, -, -, -, e, -⟩ | ⟨-, ⟨q, -, -⟩, -⟩
        · have e' := e rfl
          clear e
          subst e'
          go_simp
          refine (Twin_any (St.bulkAll b + 1) b w' _ (Nat.lt_succ_self _) (by omega) (HA.out.1.2.2.below (below_seq H5.out.2 HF.out.bel))).mono ?_
          rintro r w7 ⟨v7, bl7, rfl, hs7, hn7, hb7⟩
          exact HK.out _ _ ⟨true, true, l2, l3, l4, l5, l6, l7, l8, l9, l10, l11, x11, x51, _, v7, x54, x55, x56, x57, x58, x59, rfl, rfl, (HF.out.grow hb7).s1 ⟨_, bl7, hs7, hn7⟩⟩
        · cases q
      · subst hi
        go_simp
        exact HK.out _ _ ⟨l0, l1, true, l3, l4, l5, l6, l7, l8, l9, l10, l11, x11, x51, x52, x53, _, x55, x56, x57, x58, x59, rfl, rfl, HF.out.s2⟩
      · obtain ⟨rfl, rfl⟩ := hi
        rcases HF.out.mid with ⟨-, -, -, -, -, -, -, -, e, -⟩ | ⟨-, ⟨-, q, -⟩, -⟩
        · have e' := e rfl
          clear e
          subst e'
          have k0 := (cells_of (l := [_, _, _]) HF.out.blkA).1 0 _ rfl
          go_simp
          exact HK.out _ _ ⟨l0, l1, true, true, l4, l5, l6, l7, l8, l9, l10, l11, x11, x51, x52, x53, _, _, x56, x57, x58, x59, rfl, rfl, HF.out.s3⟩
        · cases q
      · subst hi
        go_simp
        exact HK.out _ _ ⟨l0, l1, l2, l3, true, l5, l6, l7, l8, l9, l10, l11, x11, x51, x52, x53, x54, x55, _, x57, x58, x59, rfl, rfl, HF.out.s4⟩
      · obtain ⟨rfl, rfl, rfl, rfl, -⟩ := hi
        rcases HF.out.mid with ⟨-, -, -, -, -, -, -, hS, -, e5, e6⟩ | ⟨q, -⟩
        · have e5' := e5 rfl
          have e6' := e6 rfl
          subst e5' e6'
          obtain ⟨p7, bl7, hs7, hn7⟩ := hS rfl
          have HS : Hid (St.SlQ p7 w' b x53 bl7 ∧ bl7.Nodup) := ⟨hs7, hn7⟩
          clear e5 e6 hS hs7 hn7
          go_simp
          refine (Run_is w' _ b _ _ _ _ _ _ s1.vars is dx dy p7 bl7 (HA.out.1.1.below (below_seq H5.out.2 HF.out.bel)) HS.out.1 HS.out.2 (by omega) HN.out.1 (H5.out.1.ints.below HF.out.bel) (HA.out.2.2.below (below_seq H5.out.2 HF.out.bel))).mono ?_
          intro r w7 h7
          rw [HN.out.2] at h7
          obtain ⟨vad, vn, vcap, pad, pn, pcap, rfl, ho7, hb7⟩ := h7.out
          exact HK.out _ _ ⟨l0, true, l2, true, true, true, l6, l7, l8, l9, l10, l11, x11, x51, x52, x53, x54, _, _, _, x58, x59, rfl, rfl, (HF.out.grow hb7).s5 ho7⟩
        · cases q
      · obtain ⟨rfl, rfl⟩ := hi
        go_simp
        exact HK.out _ _ ⟨l0, l1, l2, l3, l4, true, true, l7, l8, l9, l10, l11, x11, x57, x52, x53, x54, x55, x56, x57, x58, x59, rfl, rfl, HF.out.s6⟩
      · obtain ⟨rfl, rfl⟩ := hi
        rcases HF.out.mid with ⟨-, q, -⟩ | ⟨rfl, -, vad, vn, vcap, pad, pn, pcap, -, -, e4, -⟩
        · cases q
        · have e := e4 rfl
          clear e4
          subst e
          go_simp
          exact HK.out _ _ ⟨l0, l1, l2, l3, l4, true, true, true, l8, l9, l10, l11, x11, _, x52, x53, x54, x55, x56, x57, _, x59, rfl, rfl, HF.out.s7 (fun y z h => by cases h; rfl)⟩
      · obtain ⟨rfl, rfl⟩ := hi
        rcases HF.out.mid with ⟨-, q, -⟩ | ⟨rfl, -, vad, vn, vcap, pad, pn, pcap, -, -, e4, -⟩
        · cases q
        · have e := e4 rfl
          clear e4
          subst e
          go_simp
          exact HK.out _ _ ⟨l0, l1, l2, l3, l4, true, true, l7, true, l9, l10, l11, x11, _, x52, x53, x54, x55, x56, x57, x58, _, rfl, rfl, HF.out.s8 (fun y z h => by cases h; rfl)⟩
      · subst hi
        go_simp
        exact HK.out _ _ ⟨l0, l1, l2, l3, l4, l5, l6, l7, l8, true, l10, l11, _, x51, x52, x53, x54, x55, x56, x57, x58, x59, rfl, rfl, (HF.out.grow (below_new _ _)).s9 hsz (heap_alloc_new w' _)⟩
      · obtain ⟨rfl, rfl, rfl, rfl, -⟩ := hi
        obtain ⟨vad, vn, vcap, pad, pn, pcap, -, e8, -⟩ := HF.out.shape rfl
        have e8' := e8 rfl
        clear e8
        unfold endW at e8'
        subst e8'
        rcases HF.out.b11 with ⟨q, -⟩ | ⟨-, c0, c1, c2, g, rfl, hg0, hg, -⟩
        · cases q
        · obtain ⟨c, f, lt⟩ := cells_of (l := [_, _, _]) hg
          have k0 := c 0 _ rfl
          have k1 := c 1 _ rfl
          have k2 := c 2 _ rfl
          have HG : Hid _ := hg
          clear c hg
          go_simp
          exact HK.out _ _ ⟨l0, l1, l2, l3, l4, true, l6, true, l8, true, true, l11, _, x51, x52, x53, x54, x55, x56, x57, _, x59, rfl, rfl, HF.out.s10 rfl hg0 HG.out rfl⟩
      · obtain ⟨rfl, rfl, -, -, -, -, -, -, rfl, -⟩ := hi
        obtain ⟨vad, vn, vcap, pad, pn, pcap, -, -, e9⟩ := HF.out.shape rfl
        have e9' := e9 rfl
        clear e9
        subst e9'
        obtain ⟨f0, f1, hg, -⟩ := HF.out.blkF
        obtain ⟨c, f, lt⟩ := cells_of (l := [_, _]) hg
        have k0 := c 0 _ rfl
        have k1 := c 1 _ rfl
        clear c hg
        go_simp
        exact HK.out _ _ ⟨l0, l1, l2, l3, l4, true, l6, l7, true, l9, l10, true, x11, x51, x52, x53, x54, x55, x56, x57, x58, _, rfl, rfl, HF.out.s11 rfl⟩
    · exact ⟨false, false, false, false, false, false, false, false, false, false, false, false, undef, undef, undef, undef, undef, undef, undef, undef, undef, undef, rfl, rfl, ⟨H6.out.2.drew, H6.out.1.1, ⟨_, _, H6.out.1.2, fun h => by cases h⟩, .inl ⟨rfl, rfl, rfl, rfl, rfl, rfl, (fun h => by cases h), (fun h => by cases h), (fun h => by cases h), (fun h => by cases h), (fun h => by cases h)⟩, .inl ⟨rfl, rfl⟩⟩⟩
    · simp
  case rest =>
    obtain ⟨h, vad, vn, vcap, pad, pn, pcap, rfl, hh, HO, kA, kF, kH⟩ := hcut
    have HW : Hid (Below w.heap.size w wc) := below_seq H5.out.2 HO.out.2
    obtain ⟨c, f, lt⟩ := cells_of (l := [_, _]) kF
    have k0 := c 0 _ rfl
    have HK : Hid (wc.heap[w5.heap.size]? = some (.cells #[.slice xad xn xcap, .slice yad yn ycap, .int .i64 s1.steps] 28 (0, 0)) ∧ wc.heap[w5.heap.size + 1]? = some (.cells #[.int .i64 gc, .int .i64 gk] 31 (0, 0)) ∧ wc.heap[h]? = some (.cells #[.slice vad vn vcap, .slice pad pn pcap, .int .i64 s2.steps] 28 (0, 0))) := ⟨kA, kF, kH⟩
    clear c f kA kF kH
    by_cases hgc : gc = 0
    · subst hgc
      obtain ⟨i0, hi0, hz0, hz1, hz2⟩ := info_parts info34
      have hla := length_le_bulkAll a
      have hlb := length_le_bulkAll b
      have hgk : gk = 0 := (meanOf_not HN.out.2).2 rfl
      subst hgk
      have HJ : Hid _ := join_cases HM.out.1 HN.out.1 HM.out.2 HN.out.2
      have PH : Phase 3 := trivial
      go_wp2_with (go_at_call 8; guard_hyp PH : Phase 3; clear PH; refine (Twin_own (St.bulkAll a + 1) a wc _ (Nat.lt_succ_self _) (by omega) (HA.out.1.2.1.below HW.out)).mono ?_; rintro r w7 ⟨v7, xs7, bl7, rfl, hc7, hn7, ho7, hb7⟩; have H7 : Hid (St.Cells (offOf wc.heap.size v7) w7 a xs7 bl7 ∧ bl7.Nodup ∧ w7.ownsRow wc.heap.size 61 14 v7 a.length xs7 ∧ Below wc.heap.size wc w7) := ⟨hc7, hn7, ho7, hb7⟩; clear hc7 hn7 ho7 hb7; have PH : Phase 4 := trivial)
      go_wp2_with (first | (go_at_call 8; guard_hyp PH : Phase 4; clear PH; refine (Twin_own (St.bulkAll b + 1) b w7 _ (Nat.lt_succ_self _) (by omega) (HA.out.1.2.2.below (below_seq HW.out H7.out.2.2.2))).mono ?_; rintro r w8 ⟨v8, ys8, bl8, rfl, hc8, hn8, ho8, hb8⟩; obtain ⟨v9, w9, hrun, ho9, hg9, hv9⟩ := append_two (P := Tryd.prog) w8 wc.heap.size w7.heap.size 22 22 61 i0 _ 14 192 Tryd.underlying22 hi0 hz0 hz1 hz2 rfl (by decide) v7 a.length xs7 (ownsRow_below H7.out.2.2.1 hb8) v8 b.length ys8 ho8 (Cells_one b hc8) (by unfold maxLen; omega) (by omega) (Nat.le_trans H7.out.2.2.2.size hb8.size); obtain ⟨bl9, hs9, hn9, hb9⟩ := both_sl H7.out.1 H7.out.2.1 H7.out.2.2.1 H7.out.2.2.2 hc8 hn8 hb8 ho9 hg9 hv9; have H9 : Hid ((St.SlQ (fun b => wc.heap.size ≤ b) w9 (a ++ b) v9 bl9 ∧ bl9.Nodup) ∧ Below wc.heap.size wc w9 ∧ Below w.heap.size w w9) := ⟨⟨hs9, hn9⟩, hb9, below_seq HW.out hb9⟩; have HX : Hid _ := hrun; clear hrun hc8 hn8 ho8 hb8 ho9 hg9 hv9 hs9 hn9 hb9) | (at_builtin; refine append_known rfl (.tmp 64) (.tmp 66) 22 rfl rfl rfl HX.out ?_))
      have hFl : w5.heap.size + 1 < wc.heap.size := lt
      have hw5 : w.heap.size ≤ w5.heap.size + 1 := Nat.le_succ_of_le H5.out.2.size
      have hHl : h < wc.heap.size := (Array.getElem?_eq_some_iff.1 HK.out.2.2).1
      rcases HJ.out with ⟨hcnt, hx3, hm3⟩ | ⟨z, hx3, hm3, hst⟩ | ⟨hx3, hm3, hst⟩
      · have HX3 : Hid (_ ∧ _) := ⟨hx3, hm3⟩
        clear hx3 hm3
        go_wp2_with (go_at_call 10; refine (Run_is w9 _ (a ++ b) _ _ _ _ _ _ vs is 2 0 _ bl9 (HA.out.1.1.below H9.out.2.2) H9.out.1.1 H9.out.1.2 (by rw [bulkAll_append]; omega) HX3.out.1 (HA.out.2.1.below H9.out.2.2) (HA.out.2.2.below H9.out.2.2)).mono ?_; intro r w10 h10; rw [HX3.out.2] at h10; obtain ⟨zad, zn, zcap, qad, qn, qcap, rfl, ho10, hb10⟩ := h10.out; have hbb := H9.out.2.1.trans (hb10.mono H9.out.2.1.size); obtain ⟨cF, fF, lF⟩ := cells_of (l := [_, _]) ((hbb.block _ (Array.getElem?_eq_some_iff.1 HK.out.2.1).1).trans HK.out.2.1); obtain ⟨cA, fA, lA⟩ := cells_of (l := [_, _, _]) ((hbb.block _ (Array.getElem?_eq_some_iff.1 HK.out.1).1).trans HK.out.1); obtain ⟨cH, fH, lH⟩ := cells_of (l := [_, _, _]) ((hbb.block _ (Array.getElem?_eq_some_iff.1 HK.out.2.2).1).trans HK.out.2.2); have cF0 := cF 0 _ rfl; have cF1 := cF 1 _ rfl; have cA2 := cA 2 _ rfl; have cH2 := cH 2 _ rfl; have cA1 := cA 1 _ rfl; have cH1 := cH 1 _ rfl; have cA0 := cA 0 _ rfl; have cH0 := cH 0 _ rfl; have H10 : Hid (OutAt w10 ⟨[], [], 0⟩ (.slice zad zn zcap) (.slice qad qn qcap) ∧ Below w9.heap.size w9 w10 ∧ Below wc.heap.size wc w10) := ⟨ho10, hb10, hbb⟩; clear h10 ho10 hb10 hbb cF cA cH fA fH)
        go_wp2_with (go_at_call 16; refine (Size_any (St.bulkAll (a ++ b) + 1) (a ++ b) _ _ (Nat.lt_succ_self _) (by rw [bulkAll_append]; omega) (sl_after H9.out.1.1 (fun k h1 h2 => (Below.heap_alloc _ _ k (by have := H10.out.2.1.size; simp; omega)).trans ((Below.heap_setCell _ _ _ k (by show k ≠ w5.heap.size + 1; omega)).trans ((Below.heap_setCell _ _ _ k (by show k ≠ w5.heap.size + 1; omega)).trans (H10.out.2.1.block k h2)))))).mono ?_; rintro r w11 ⟨rfl, hb11⟩; have dA : w11.cell? ⟨w5.heap.size, 2, none⟩ = some (.int .i64 s1.steps) := below_cell hb11 (by go_simp); have dH : w11.cell? ⟨h, 2, none⟩ = some (.int .i64 s2.steps) := below_cell hb11 (by go_simp); have H11 : Hid (Below w.heap.size w w11) := below_seq (((((below_seq HW.out H10.out.2.2).setCell hw5 _).setCell hw5 _).alloc (by have := HW.out.size; have := H10.out.2.2.size; simp; omega) _)) hb11; generalize St.countAll (a ++ b) = cnt at *; clear hb11)
        go_ret
        exact ⟨rfl, H11.out⟩
      · have HX3 : Hid (_ ∧ _) := ⟨hx3, hm3⟩
        clear hx3 hm3
        have hs1 : s1.steps ≤ 20000 := by have := (meanOf_puts a vs is cx cy).2.2; rw [HM.out.2] at this; exact this
        have hs2 : s2.steps ≤ 20000 := by have := (meanOf_puts b s1.vars is dx dy).2.2; rw [HN.out.2] at this; exact this
        have hst' : (20000 : Int) < wrap64 ((s1.steps : Int) + (s2.steps : Int)) := by unfold wrap64; omega
        by_cases hcnt : 200 < St.countAll (a ++ b)
        · go_wp2_with (go_at_call 10; refine (Run_is w9 _ (a ++ b) _ _ _ _ _ _ vs is 0 0 _ bl9 (HA.out.1.1.below H9.out.2.2) H9.out.1.1 H9.out.1.2 (by rw [bulkAll_append]; omega) HX3.out.1 (HA.out.2.1.below H9.out.2.2) (HA.out.2.2.below H9.out.2.2)).mono ?_; intro r w10 h10; rw [HX3.out.2] at h10; obtain ⟨zad, zn, zcap, qad, qn, qcap, rfl, ho10, hb10⟩ := h10.out; have hbb := H9.out.2.1.trans (hb10.mono H9.out.2.1.size); obtain ⟨cF, fF, lF⟩ := cells_of (l := [_, _]) ((hbb.block _ (Array.getElem?_eq_some_iff.1 HK.out.2.1).1).trans HK.out.2.1); obtain ⟨cA, fA, lA⟩ := cells_of (l := [_, _, _]) ((hbb.block _ (Array.getElem?_eq_some_iff.1 HK.out.1).1).trans HK.out.1); obtain ⟨cH, fH, lH⟩ := cells_of (l := [_, _, _]) ((hbb.block _ (Array.getElem?_eq_some_iff.1 HK.out.2.2).1).trans HK.out.2.2); have cF0 := cF 0 _ rfl; have cF1 := cF 1 _ rfl; have cA2 := cA 2 _ rfl; have cH2 := cH 2 _ rfl; have cA1 := cA 1 _ rfl; have cH1 := cH 1 _ rfl; have cA0 := cA 0 _ rfl; have cH0 := cH 0 _ rfl; have H10 : Hid (OutAt w10 ⟨[], [], 0⟩ (.slice zad zn zcap) (.slice qad qn qcap) ∧ Below w9.heap.size w9 w10 ∧ Below wc.heap.size wc w10) := ⟨ho10, hb10, hbb⟩; clear h10 ho10 hb10 hbb cF cA cH fA fH)
          go_wp2_with (go_at_call 16; refine (Size_any (St.bulkAll (a ++ b) + 1) (a ++ b) _ _ (Nat.lt_succ_self _) (by rw [bulkAll_append]; omega) (sl_after H9.out.1.1 (fun k h1 h2 => (Below.heap_alloc _ _ k (by have := H10.out.2.1.size; simp; omega)).trans ((Below.heap_setCell _ _ _ k (by show k ≠ w5.heap.size + 1; omega)).trans ((Below.heap_setCell _ _ _ k (by show k ≠ w5.heap.size + 1; omega)).trans (H10.out.2.1.block k h2)))))).mono ?_; rintro r w11 ⟨rfl, hb11⟩; have dA : w11.cell? ⟨w5.heap.size, 2, none⟩ = some (.int .i64 s1.steps) := below_cell hb11 (by go_simp); have dH : w11.cell? ⟨h, 2, none⟩ = some (.int .i64 s2.steps) := below_cell hb11 (by go_simp); have H11 : Hid (Below w.heap.size w w11) := below_seq (((((below_seq HW.out H10.out.2.2).setCell hw5 _).setCell hw5 _).alloc (by have := HW.out.size; have := H10.out.2.2.size; simp; omega) _)) hb11; generalize St.countAll (a ++ b) = cnt at *; clear hb11)
          go_ret
          exact ⟨rfl, H11.out⟩
        · go_wp2_with (go_at_call 10; refine (Run_is w9 _ (a ++ b) _ _ _ _ _ _ vs is 0 0 _ bl9 (HA.out.1.1.below H9.out.2.2) H9.out.1.1 H9.out.1.2 (by rw [bulkAll_append]; omega) HX3.out.1 (HA.out.2.1.below H9.out.2.2) (HA.out.2.2.below H9.out.2.2)).mono ?_; intro r w10 h10; rw [HX3.out.2] at h10; obtain ⟨zad, zn, zcap, qad, qn, qcap, rfl, ho10, hb10⟩ := h10.out; have hbb := H9.out.2.1.trans (hb10.mono H9.out.2.1.size); obtain ⟨cF, fF, lF⟩ := cells_of (l := [_, _]) ((hbb.block _ (Array.getElem?_eq_some_iff.1 HK.out.2.1).1).trans HK.out.2.1); obtain ⟨cA, fA, lA⟩ := cells_of (l := [_, _, _]) ((hbb.block _ (Array.getElem?_eq_some_iff.1 HK.out.1).1).trans HK.out.1); obtain ⟨cH, fH, lH⟩ := cells_of (l := [_, _, _]) ((hbb.block _ (Array.getElem?_eq_some_iff.1 HK.out.2.2).1).trans HK.out.2.2); have cF0 := cF 0 _ rfl; have cF1 := cF 1 _ rfl; have cA2 := cA 2 _ rfl; have cH2 := cH 2 _ rfl; have cA1 := cA 1 _ rfl; have cH1 := cH 1 _ rfl; have cA0 := cA 0 _ rfl; have cH0 := cH 0 _ rfl; have H10 : Hid (OutAt w10 ⟨[], [], 0⟩ (.slice zad zn zcap) (.slice qad qn qcap) ∧ Below w9.heap.size w9 w10 ∧ Below wc.heap.size wc w10) := ⟨ho10, hb10, hbb⟩; clear h10 ho10 hb10 hbb cF cA cH fA fH)
          go_wp2_with (go_at_call 16; refine (Size_any (St.bulkAll (a ++ b) + 1) (a ++ b) _ _ (Nat.lt_succ_self _) (by rw [bulkAll_append]; omega) (sl_after H9.out.1.1 (fun k h1 h2 => (Below.heap_alloc _ _ k (by have := H10.out.2.1.size; simp; omega)).trans ((Below.heap_setCell _ _ _ k (by show k ≠ w5.heap.size + 1; omega)).trans ((Below.heap_setCell _ _ _ k (by show k ≠ w5.heap.size + 1; omega)).trans (H10.out.2.1.block k h2)))))).mono ?_; rintro r w11 ⟨rfl, hb11⟩; have dA : w11.cell? ⟨w5.heap.size, 2, none⟩ = some (.int .i64 s1.steps) := below_cell hb11 (by go_simp); have dH : w11.cell? ⟨h, 2, none⟩ = some (.int .i64 s2.steps) := below_cell hb11 (by go_simp); have H11 : Hid (Below w.heap.size w w11) := below_seq (((((below_seq HW.out H10.out.2.2).setCell hw5 _).setCell hw5 _).alloc (by have := HW.out.size; have := H10.out.2.2.size; simp; omega) _)) hb11; generalize St.countAll (a ++ b) = cnt at *; clear hb11)
          go_ret
          refine ⟨?_, H11.out⟩
          have e : (decide ((200 : Int) < (cnt : Int)) || decide ((20000 : Int) < (s1.steps : Int) + (s2.steps : Int))) = true := by simp; omega
          exact congrArg (fun b => Ending.returned (Value.bool b)) e
      · have HX3 : Hid (_ ∧ _) := ⟨hx3, hm3⟩
        clear hx3 hm3
        go_wp2_with (go_at_call 10; refine (Run_is w9 _ (a ++ b) _ _ _ _ _ _ vs is 0 0 _ bl9 (HA.out.1.1.below H9.out.2.2) H9.out.1.1 H9.out.1.2 (by rw [bulkAll_append]; omega) HX3.out.1 (HA.out.2.1.below H9.out.2.2) (HA.out.2.2.below H9.out.2.2)).mono ?_; intro r w10 h10; rw [HX3.out.2] at h10; obtain ⟨zad, zn, zcap, qad, qn, qcap, rfl, ho10, hb10⟩ := h10.out; have hbb := H9.out.2.1.trans (hb10.mono H9.out.2.1.size); obtain ⟨cF, fF, lF⟩ := cells_of (l := [_, _]) ((hbb.block _ (Array.getElem?_eq_some_iff.1 HK.out.2.1).1).trans HK.out.2.1); obtain ⟨cA, fA, lA⟩ := cells_of (l := [_, _, _]) ((hbb.block _ (Array.getElem?_eq_some_iff.1 HK.out.1).1).trans HK.out.1); obtain ⟨cH, fH, lH⟩ := cells_of (l := [_, _, _]) ((hbb.block _ (Array.getElem?_eq_some_iff.1 HK.out.2.2).1).trans HK.out.2.2); have cF0 := cF 0 _ rfl; have cF1 := cF 1 _ rfl; have cA2 := cA 2 _ rfl; have cH2 := cH 2 _ rfl; have cA1 := cA 1 _ rfl; have cH1 := cH 1 _ rfl; have cA0 := cA 0 _ rfl; have cH0 := cH 0 _ rfl; have H10 : Hid (OutAt w10 ⟨s2.vars, s1.puts ++ s2.puts, s2.steps + s1.steps⟩ (.slice zad zn zcap) (.slice qad qn qcap) ∧ Below w9.heap.size w9 w10 ∧ Below wc.heap.size wc w10) := ⟨ho10, hb10, hbb⟩; clear h10 ho10 hb10 hbb cF cA cH fA fH)
        have mvF : ∀ k : Nat, k ≠ w5.heap.size + 1 → k < w10.heap.size → (((w10.setCell ⟨w5.heap.size + 1, 0, none⟩ (.int .i64 0)).setCell ⟨w5.heap.size + 1, 1, none⟩ (.int .i64 0)).alloc (.cells #[.slice zad zn zcap, .slice qad qn qcap, .int .i64 ((s2.steps : Int) + (s1.steps : Int))] 28)).heap[k]? = w10.heap[k]? := fun k h1 h2 => (Below.heap_alloc _ _ k (by simpa using h2)).trans ((Below.heap_setCell _ _ _ k h1).trans (Below.heap_setCell _ _ _ k h1))
        have hF10 : w10.heap[w5.heap.size + 1]? = some (Obj.cells #[.int .i64 0, .int .i64 0] 31 (0, 0)) := (H10.out.2.2.block _ hFl).trans HK.out.2.1
        have mt : ∀ (k : Nat) (cs : Array Value) (t : TypeId), (t = 3 ∨ t = 42) → w10.heap[k]? = some (Obj.cells cs t (0, 0)) → (((w10.setCell ⟨w5.heap.size + 1, 0, none⟩ (.int .i64 0)).setCell ⟨w5.heap.size + 1, 1, none⟩ (.int .i64 0)).alloc (.cells #[.slice zad zn zcap, .slice qad qn qcap, .int .i64 ((s2.steps : Int) + (s1.steps : Int))] 28)).heap[k]? = some (Obj.cells cs t (0, 0)) := fun k cs t ht hk => by
          have hne : k ≠ w5.heap.size + 1 := by
            intro e
            subst e
            rw [hF10] at hk
            simp at hk
            rcases ht with rfl | rfl
            · exact absurd hk.2 (by decide)
            · exact absurd hk.2 (by decide)
          exact (mvF k hne (Array.getElem?_eq_some_iff.1 hk).1).trans hk
        have H12 : Hid ((OutAt (((w10.setCell ⟨w5.heap.size + 1, 0, none⟩ (.int .i64 0)).setCell ⟨w5.heap.size + 1, 1, none⟩ (.int .i64 0)).alloc (.cells #[.slice zad zn zcap, .slice qad qn qcap, .int .i64 ((s2.steps : Int) + (s1.steps : Int))] 28)) s1 (.slice xad xn xcap) (.slice yad yn ycap) ∧ OutAt (((w10.setCell ⟨w5.heap.size + 1, 0, none⟩ (.int .i64 0)).setCell ⟨w5.heap.size + 1, 1, none⟩ (.int .i64 0)).alloc (.cells #[.slice zad zn zcap, .slice qad qn qcap, .int .i64 ((s2.steps : Int) + (s1.steps : Int))] 28)) s2 (.slice vad vn vcap) (.slice pad pn pcap) ∧ OutAt (((w10.setCell ⟨w5.heap.size + 1, 0, none⟩ (.int .i64 0)).setCell ⟨w5.heap.size + 1, 1, none⟩ (.int .i64 0)).alloc (.cells #[.slice zad zn zcap, .slice qad qn qcap, .int .i64 ((s2.steps : Int) + (s1.steps : Int))] 28)) ⟨s2.vars, s1.puts ++ s2.puts, s2.steps + s1.steps⟩ (.slice zad zn zcap) (.slice qad qn qcap)) ∧ ((((w10.setCell ⟨w5.heap.size + 1, 0, none⟩ (.int .i64 0)).setCell ⟨w5.heap.size + 1, 1, none⟩ (.int .i64 0)).alloc (.cells #[.slice zad zn zcap, .slice qad qn qcap, .int .i64 ((s2.steps : Int) + (s1.steps : Int))] 28)).heap[w5.heap.size]? = some (.cells #[.slice xad xn xcap, .slice yad yn ycap, .int .i64 s1.steps] 28 (0, 0)) ∧ (((w10.setCell ⟨w5.heap.size + 1, 0, none⟩ (.int .i64 0)).setCell ⟨w5.heap.size + 1, 1, none⟩ (.int .i64 0)).alloc (.cells #[.slice zad zn zcap, .slice qad qn qcap, .int .i64 ((s2.steps : Int) + (s1.steps : Int))] 28)).heap[w5.heap.size + 1]? = some (.cells #[.int .i64 0, .int .i64 0] 31 (0, 0)) ∧ (((w10.setCell ⟨w5.heap.size + 1, 0, none⟩ (.int .i64 0)).setCell ⟨w5.heap.size + 1, 1, none⟩ (.int .i64 0)).alloc (.cells #[.slice zad zn zcap, .slice qad qn qcap, .int .i64 ((s2.steps : Int) + (s1.steps : Int))] 28)).heap[h]? = some (.cells #[.slice vad vn vcap, .slice pad pn pcap, .int .i64 s2.steps] 28 (0, 0)) ∧ (((w10.setCell ⟨w5.heap.size + 1, 0, none⟩ (.int .i64 0)).setCell ⟨w5.heap.size + 1, 1, none⟩ (.int .i64 0)).alloc (.cells #[.slice zad zn zcap, .slice qad qn qcap, .int .i64 ((s2.steps : Int) + (s1.steps : Int))] 28)).heap[w10.heap.size]? = some (.cells #[.slice zad zn zcap, .slice qad qn qcap, .int .i64 ((s2.steps : Int) + (s1.steps : Int))] 28 (0, 0))) ∧ Below w.heap.size w (((w10.setCell ⟨w5.heap.size + 1, 0, none⟩ (.int .i64 0)).setCell ⟨w5.heap.size + 1, 1, none⟩ (.int .i64 0)).alloc (.cells #[.slice zad zn zcap, .slice qad qn qcap, .int .i64 ((s2.steps : Int) + (s1.steps : Int))] 28))) := by
          have hh1 := H10.out.2.2.size
          refine ⟨⟨((H5.out.1.below HO.out.2).below H10.out.2.2).move mt, (HO.out.1.below H10.out.2.2).move mt, H10.out.1.move mt⟩, ⟨(mvF _ (by omega) (by omega)).trans ((H10.out.2.2.block _ (by omega)).trans HK.out.1), ?_, (mvF _ (by omega) (by omega)).trans ((H10.out.2.2.block _ hHl).trans HK.out.2.2), ?_⟩, (((below_seq HW.out H10.out.2.2).setCell hw5 _).setCell hw5 _).alloc (by have := HW.out.size; simp; omega) _⟩
          · rw [Below.heap_alloc _ _ _ (by simp; omega)]
            simpa using setCell_at (i := 1) (u := .int .i64 0) (setCell_at (i := 0) (u := .int .i64 0) hF10)
          · have := heap_alloc_new ((w10.setCell ⟨w5.heap.size + 1, 0, none⟩ (.int .i64 0)).setCell ⟨w5.heap.size + 1, 1, none⟩ (.int .i64 0)) (.cells #[.slice zad zn zcap, .slice qad qn qcap, .int .i64 ((s2.steps : Int) + (s1.steps : Int))] 28)
            simpa using this
        clear mvF mt hF10 cF0 cF1 cA2 cH2 cA1 cH1 cA0 cH0
        generalize (((w10.setCell ⟨w5.heap.size + 1, 0, none⟩ (.int .i64 0)).setCell ⟨w5.heap.size + 1, 1, none⟩ (.int .i64 0)).alloc (.cells #[.slice zad zn zcap, .slice qad qn qcap, .int .i64 ((s2.steps : Int) + (s1.steps : Int))] 28)) = w12 at *
        obtain ⟨j0, hj0, hy0, hy1, hy2⟩ := info_parts infoPut
        have hs1 : s1.puts.length ≤ 20000 ∧ s1.steps ≤ 20000 := by have := (meanOf_puts a vs is cx cy).2; rw [HM.out.2] at this; exact this
        have hs2 : s2.vars.length ≤ 8 ∧ s2.puts.length ≤ 20000 ∧ s2.steps ≤ 20000 := by have := meanOf_puts b s1.vars is dx dy; rw [HN.out.2] at this; exact this
        clear HA HC HM HN HJ HK H1 H2 H3 H4 H6 H7 H9 H10 HO HX HX3 HW
        go_cut [14] from 94 to 100 (fun x w13 => ∃ qd qc, x = .slice qd (s1.puts.length + s2.puts.length) qc ∧ Hid (PutSl w13 (s1.puts ++ s2.puts) (.slice qd (s1.puts.length + s2.puts.length) qc) ∧ Below w12.heap.size w12 w13))
        case first =>
          refine wp_region_any (by kernel_rfl) (wpAny_inv (fun l a' w' => ∃ l0 l1 l2 l3 l4 l5 l6 l7 : Bool, ∃ x14 x94 x95 x96 x97 x98 x99 x100 : Value, l = #[l0, l1, l2, l3, l4, l5, l6, l7] ∧ a' = ⟨#[Value.slice ad a.length ac, Value.slice bd b.length bc, Value.slice va vs.length vc, Value.slice ia is.length ic, undef, undef, undef, undef, Value.bool false, Value.pointer (some ⟨w5.heap.size, 0, none⟩), Value.pointer (some ⟨w5.heap.size + 1, 0, none⟩), Value.pointer (some ⟨h, 0, none⟩), v9, Value.pointer (some ⟨w10.heap.size, 0, none⟩), x14, u15, u16, u17, u18, u19, u20, u21, u22, u23, u24, u25, u26, u27, u28, u29, u30, u31, u32, u33, u34, u35, u36, u37, u38, u39, u40, u41, u42, u43, u44, u45, u46, u47, u48, u49, u50, u51, u52, u53, u54, u55, u56, u57, u58, u59, Value.pointer (some ⟨w5.heap.size + 1, 0, none⟩), Value.int IntKind.i64 0, Value.bool false, Value.slice ad a.length ac, v7, Value.slice bd b.length bc, v8, v9, Value.tuple #[Value.agg #[Value.slice zad zn zcap, Value.slice qad qn qcap, Value.int IntKind.i64 ((s2.steps : Int) + (s1.steps : Int))], Value.agg #[Value.int IntKind.i64 0, Value.int IntKind.i64 0]], v9, Value.slice va vs.length vc, Value.slice ia is.length ic, Value.tuple #[Value.agg #[Value.slice zad zn zcap, Value.slice qad qn qcap, Value.int IntKind.i64 ((s2.steps : Int) + (s1.steps : Int))], Value.agg #[Value.int IntKind.i64 0, Value.int IntKind.i64 0]], Value.agg #[Value.slice zad zn zcap, Value.slice qad qn qcap, Value.int IntKind.i64 ((s2.steps : Int) + (s1.steps : Int))], Value.agg #[Value.int IntKind.i64 0, Value.int IntKind.i64 0], Value.pointer (some ⟨w5.heap.size + 1, 0, none⟩), Value.int IntKind.i64 0, Value.bool false, Value.bool false, Value.pointer (some ⟨w5.heap.size + 1, 0, none⟩), Value.int IntKind.i64 0, Value.bool false, Value.bool false, undef, undef, undef, undef, undef, undef, undef, undef, undef, undef, undef, x94, x95, x96, x97, x98, x99, x100, undef, undef, undef, undef, undef, undef, undef, undef, undef, undef, undef, undef, undef, undef, undef, undef, undef, undef, undef, undef, undef, undef, undef, undef, undef, undef], []⟩ ∧ GF w12 w5.heap.size h s1 s2 (.slice yad yn ycap) (.slice pad pn pcap) l0 l1 l2 l3 l4 l5 l6 l7 x14 x94 x95 x96 x97 x98 x99 x100 w') ?_ ?_ _ _ _ _ ?_ ?_)
          · rintro l a' w' ⟨l0, l1, l2, l3, l4, l5, l6, l7, x14, x94, x95, x96, x97, x98, x99, x100, rfl, rfl, hf⟩ hr
            have hn : ∀ i : Nat, ¬ (i ∈ ([] : List Nat)) := fun i h => by cases h
            rw [← hr] at hn
            have h0 := hn 0
            have h1 := hn 1
            have h4 := hn 4
            simp [Region.ready, Region.binds] at h0 h1 h4
            subst h0 h1 h4
            have h2 := hn 2
            have h5 := hn 5
            simp [Region.ready, Region.binds] at h2 h5
            subst h2 h5
            have h3 := hn 3
            simp [Region.ready, Region.binds] at h3
            subst h3
            have h6 := hn 6
            simp [Region.ready, Region.binds] at h6
            subst h6
            have h7 := hn 7
            simp [Region.ready, Region.binds] at h7
            subst h7
            have hl := hf.last
            clear hn hr hf
            dsimp only
            go_wp2_with fail
            go_meet
            case rel => exact hl
          · rintro l a' w' i ⟨l0, l1, l2, l3, l4, l5, l6, l7, x14, x94, x95, x96, x97, x98, x99, x100, rfl, rfl, hf⟩ hi
            have hlt : i < 8 := by unfold Region.ready at hi; exact List.mem_range.1 (List.mem_filter.1 hi).1
            have h11 : i = 0 ∨ i = 1 ∨ i = 2 ∨ i = 3 ∨ i = 4 ∨ i = 5 ∨ i = 6 ∨ i = 7 := by omega
            have HF : Hid _ := hf
            clear hf hlt
            rcases h11 with rfl | rfl | rfl | rfl | rfl | rfl | rfl | rfl
            all_goals simp [Region.ready, Region.binds] at hi
            all_goals refine wpOp_step rfl ?_
            all_goals intro K hK
            all_goals have HK2 : Hid _ := hK
            all_goals clear hK
            · subst hi
              go_simp
              exact HK2.out _ _ ⟨true, l1, l2, l3, l4, l5, l6, l7, x14, _, x95, x96, x97, x98, x99, x100, rfl, rfl, HF.out.s0 (HF.out.bel.alloc HF.out.bel.size _) (World.ownsRow_made w' #[] 0 HF.out.bel.size (by decide) rfl)⟩
            · subst hi
              go_simp
              exact HK2.out _ _ ⟨l0, true, l2, l3, l4, l5, l6, l7, x14, x94, _, x96, x97, x98, x99, x100, rfl, rfl, HF.out.s1⟩
            · obtain ⟨rfl, rfl⟩ := hi
              have e := HF.out.p1 rfl
              subst e
              have k0 := below_cell HF.out.bel ((cells_of (l := [_, _, _]) H12.out.2.1.1).1 1 _ rfl)
              go_simp
              exact HK2.out _ _ ⟨l0, true, true, l3, l4, l5, l6, l7, x14, x94, _, _, x97, x98, x99, x100, rfl, rfl, HF.out.s2⟩
            · obtain ⟨rfl, rfl, rfl⟩ := hi
              have e := HF.out.p2 rfl
              subst e
              have ho := HF.out.p0 rfl rfl
              obtain ⟨B, hB⟩ := (H12.out.1.1.below HF.out.bel).2
              obtain ⟨v', w'', hrun, ho', hg', -⟩ := append_two (P := Tryd.prog) w' w12.heap.size B 26 26 42 j0 _ 2 16 Tryd.underlying26 hj0 hy0 hy1 hy2 rfl (by decide) x94 0 [] ho _ _ _ hB (putVs_one _) (by unfold maxLen; omega) (by omega) HF.out.bel.size
              have hb' : Below w12.heap.size w12 w'' := HF.out.bel.grown hg' HF.out.bel.size (fun k hk => (ho.lt k hk).1)
              rw [Nat.zero_add, List.nil_append] at ho'
              refine region_append rfl (.tmp 94) (.tmp 96) 26 rfl rfl rfl hrun ?_
              exact HK2.out _ _ ⟨true, l1, true, true, l4, l5, l6, l7, x14, x94, x95, _, v', x98, x99, x100, rfl, rfl, HF.out.s3 hb' ho'⟩
            · subst hi
              go_simp
              exact HK2.out _ _ ⟨l0, l1, l2, l3, true, l5, l6, l7, x14, x94, x95, x96, x97, _, x99, x100, rfl, rfl, HF.out.s4⟩
            · obtain ⟨rfl, rfl⟩ := hi
              have e := HF.out.p4 rfl
              subst e
              have k0 := below_cell HF.out.bel ((cells_of (l := [_, _, _]) H12.out.2.1.2.2.1).1 1 _ rfl)
              go_simp
              exact HK2.out _ _ ⟨l0, l1, l2, l3, true, true, l6, l7, x14, x94, x95, x96, x97, _, _, x100, rfl, rfl, HF.out.s5⟩
            · obtain ⟨rfl, rfl, rfl, -⟩ := hi
              have e := HF.out.p5 rfl
              subst e
              have ho := HF.out.p3 rfl rfl
              obtain ⟨B, hB⟩ := (H12.out.1.2.1.below HF.out.bel).2
              obtain ⟨v', w'', hrun, ho', hg', -⟩ := append_two (P := Tryd.prog) w' w12.heap.size B 26 26 42 j0 _ 2 16 Tryd.underlying26 hj0 hy0 hy1 hy2 rfl (by decide) x97 _ _ ho _ _ _ hB (putVs_one _) (by unfold maxLen; omega) (by omega) HF.out.bel.size
              have hb' : Below w12.heap.size w12 w'' := HF.out.bel.grown hg' HF.out.bel.size (fun k hk => (ho.lt k hk).1)
              refine region_append rfl (.tmp 97) (.tmp 99) 26 rfl rfl rfl hrun ?_
              exact HK2.out _ _ ⟨l0, l1, l2, true, l4, true, true, l7, x14, x94, x95, x96, x97, x98, _, v', rfl, rfl, HF.out.s6 hb' ho'⟩
            · obtain ⟨rfl, rfl, -⟩ := hi
              go_simp
              exact HK2.out _ _ ⟨l0, l1, l2, l3, l4, l5, true, true, x100, x94, x95, x96, x97, x98, x99, x100, rfl, rfl, HF.out.s7⟩
          · exact ⟨false, false, false, false, false, false, false, false, undef, undef, undef, undef, undef, undef, undef, undef, rfl, rfl, ⟨(Below.refl _ w12).drew, (fun h => by cases h), (fun h => by cases h), (fun h => by cases h), (fun h => by cases h), (fun h => by cases h), (fun h => by cases h), (fun h => by cases h), (fun h => by cases h), (fun _ => rfl), (fun _ => rfl), (fun _ => rfl)⟩⟩
          · simp
        case rest =>
          obtain ⟨qd, qc, rfl, HQ⟩ := hcut
          have bk := fun (k : Nat) (o : Obj) (hk : w12.heap[k]? = some o) => (HQ.out.2.block k (Array.getElem?_eq_some_iff.1 hk).1).trans hk
          obtain ⟨cA, -, lA⟩ := cells_of (l := [_, _, _]) (bk _ _ H12.out.2.1.1)
          obtain ⟨cF, -, lF⟩ := cells_of (l := [_, _]) (bk _ _ H12.out.2.1.2.1)
          obtain ⟨cH, -, lH⟩ := cells_of (l := [_, _, _]) (bk _ _ H12.out.2.1.2.2.1)
          obtain ⟨cC, -, lC⟩ := cells_of (l := [_, _, _]) (bk _ _ H12.out.2.1.2.2.2)
          have a2 := cA 2 _ rfl
          have f0 := cF 0 _ rfl
          have b0 := cH 0 _ rfl
          have b2 := cH 2 _ rfl
          have c0 := cC 0 _ rfl
          have c1 := cC 1 _ rfl
          have c2 := cC 2 _ rfl
          clear bk cA cF cH cC
          go_wp2_with (first
            | (go_at_call 17; refine (SameI_any _ s2.vars _ _ (by omega) ((H12.out.1.2.2.below HQ.out.2).ints) ((H12.out.1.2.1.below HQ.out.2).ints)).mono ?_; rintro r w14 ⟨rfl, hb14⟩; have H14 : Hid (Below _ _ w14) := hb14; replace a2 := below_cell hb14 a2; replace b2 := below_cell hb14 b2; replace c1 := below_cell hb14 c1; replace c2 := below_cell hb14 c2; clear hb14 f0 b0 c0)
            | (go_at_call 18; refine (SameP_any _ (s1.puts ++ s2.puts) _ _ (by simp; omega) (((H12.out.1.2.2.below HQ.out.2).puts).below H14.out) (HQ.out.1.below H14.out)).mono ?_; rintro r w15 ⟨rfl, hb15⟩; have H15 : Hid (Below w.heap.size w w15) := below_seq (below_seq (below_seq H12.out.2.2 HQ.out.2) H14.out) hb15; replace a2 := below_cell hb15 a2; replace b2 := below_cell hb15 b2; replace c2 := below_cell hb15 c2; clear hb15 c1))
          go_ret
          refine ⟨?_, H15.out⟩
          have e : ((s2.steps : Int) + (s1.steps : Int) == (s1.steps : Int) + (s2.steps : Int)) = true := by simp [Int.add_comm]
          exact congrArg (fun b => Ending.returned (Value.bool b)) e
    · have hgb : (gc != 0) = true := by simpa using hgc
      go_wp2_with fail
      go_ret
      exact ⟨rfl, HW.out⟩

/-- The law: one body behind another is both. -/
theorem joins_any (a b : List St) (vs is : List Int) (w : World) (ad bd va ia : Option Addr) (ac bc vc ic : Nat) (hr : Ready w) (hsa : St.Sl w a (.slice ad a.length ac)) (hsb : St.Sl w b (.slice bd b.length bc)) (hb : St.bulkAll a + St.bulkAll b ≤ 1048576)
    (hv : IntSl w vs (.slice va vs.length vc)) (hi : IntSl w is (.slice ia is.length ic)) :
    Calls Tryd.prog 4 #[.slice ad a.length ac, .slice bd b.length bc, .slice va vs.length vc, .slice ia is.length ic] w fun r w' => r = .returned (.bool true) ∧ Below w.heap.size w w' := by
  by_cases hc : (decide (St.deepAll 0 a ≤ 300) && decide ((St.countAll a : Int) ≤ 2000)) = true ∧ (decide (St.deepAll 0 b ≤ 300) && decide ((St.countAll b : Int) ≤ 2000)) = true
  · obtain ⟨cx, cy, hx⟩ := checkV_two a
    obtain ⟨dx, dy, hy⟩ := checkV_two b
    rcases hm : meanOf a vs is cx cy with ⟨⟨fc, fk⟩, s1⟩
    obtain ⟨n1, n2⟩ := meanOf_not hm
    by_cases hf : fc = 0
    · have hk := n2 hf
      subst hf hk
      rcases hm2 : meanOf b s1.vars is dx dy with ⟨⟨gc, gk⟩, s2⟩
      exact joins_main a b vs is w ad bd va ia ac bc vc ic hr hsa hsb hb hv hi cx cy dx dy gc gk s1 s2 hc.1 hc.2 hx hm hy hm2
    · have e := n1 hf
      subst e
      exact joins_first a b vs is w ad bd va ia ac bc vc ic hr hsa hsb hb hv hi cx cy fc fk hc.1 hc.2 hx hm hf
  · exact joins_idle a b vs is w ad bd va ia ac bc vc ic hr hsa hsb hb hv hi hc
end Go.Proofs.YtikdidfgdiafoabDoor
