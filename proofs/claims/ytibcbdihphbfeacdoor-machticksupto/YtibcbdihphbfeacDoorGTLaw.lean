import Derived.Test.YtibcbdihphbfeacDoorGTLi
namespace Go.Proofs.YtibcbdihphbfeacDoor
open Go.ChangeShapes Go.WideShapes Go.ChangeAt Go.RowKit
set_option maxRecDepth 20000 in
set_option maxHeartbeats 20000000 in
theorem ticks_walk (w : World) (l : List In) (vs os is : List Int) (t : Int) (iad va oa ia : Option Addr) (ic vc oc nc : Nat) (hr : KindsIn w) (hmk0 : Marks w) (h : InSl w l (.slice iad l.length ic)) (hnil : iad = none → l.length = 0 ∧ ic = 0) (hlv : vs.length ≤ 1048576) (hlo : os.length ≤ 1048576) (hli : is.length ≤ 1048576) (hv : IntSl w vs (.slice va vs.length vc)) (ho : IntSl w os (.slice oa os.length oc)) (hi : IntSl w is (.slice ia is.length nc)) (hvn : va = none → vs.length = 0 ∧ vc = 0) (hon : oa = none → os.length = 0 ∧ oc = 0) (hin : ia = none → is.length = 0 ∧ nc = 0) :
  Calls Tryd.prog 4 #[.slice iad l.length ic, .slice va vs.length vc, .slice oa os.length oc, .slice ia is.length nc, .int .i64 t] w fun r w' => r = .returned (.bool true) ∧ Below w.heap.size w w' := by
 have HP : Hid (∀ w : World, Calls Tryd.prog 19 #[] w fun r w' => ∃ v, r = .returned v ∧ BodyAt w' v ∧ Below w.heap.size w w') := image_body
 have HR : Hid (KindsIn w) := hr
 have HA : Hid ((Marks w ∧ InSl w l (.slice iad l.length ic) ∧ (iad = none → l.length = 0 ∧ ic = 0)) ∧ (IntSl w vs (.slice va vs.length vc) ∧ (va = none → vs.length = 0 ∧ vc = 0)) ∧ (IntSl w os (.slice oa os.length oc) ∧ (oa = none → os.length = 0 ∧ oc = 0)) ∧ (IntSl w is (.slice ia is.length nc) ∧ (ia = none → is.length = 0 ∧ nc = 0))) := ⟨⟨hmk0, h, hnil⟩, ⟨hv, hvn⟩, ⟨ho, hon⟩, ⟨hi, hin⟩⟩
 clear hr hmk0 h hnil hv ho hi hvn hon hin
 obtain ⟨i0, hi0, hz0, hz1, hz2⟩ := info_parts info3
 have hmk : ∀ W : World, (Instr.makeSlice 23 (.int .i64 8) (.int .i64 8)).run Tryd.prog W = .ok (.slice (some ⟨W.heap.size, 0, none⟩) 8 8) (W.alloc (.cells #[.int .i64 0, .int .i64 0, .int .i64 0, .int .i64 0, .int .i64 0, .int .i64 0, .int .i64 0, .int .i64 0] 3)) := by
  intro W
  have h := run_make (P := Tryd.prog) W 23 3 i0 _ Tryd.underlying23 hi0 hz0 .i64 .i64 8 8 (by decide) (by decide) (by rw [hz2]; decide) (by decide)
  rw [hz1] at h
  have e : madeCells (Value.int .i64 0).cells (Int.toNat 8 * 1) = #[.int .i64 0, .int .i64 0, .int .i64 0, .int .i64 0, .int .i64 0, .int .i64 0, .int .i64 0, .int .i64 0] := by kernel_rfl
  rw [e] at h
  exact h
 clear hi0 hz0 hz1 hz2
 go_enter Tryd.func4, Tryd.ntmps4
 go_wp2_with fail
 go_cut [11, 12] from 11 to 11 (fun x y wc => ∃ mb g, x = .pointer (some ⟨mb, 0, none⟩) ∧ y = .pointer (some ⟨g, 0, none⟩) ∧ Hid (OwnM w wc mb ∧ Below w.heap.size w wc) ∧ wc.heap[g]? = some (.cells #[.int .i64 0, .int .i64 0] 30 (0, 0)))
 case first =>
  refine wp_region_any (by kernel_rfl) (wpAny_inv (fun l' a w' => ∃ l0 l1 l2 l3 l4 l5 l6 l7 l8 l9 : Bool, ∃ x11 x12 x28 x29 x30 x31 x32 x33 x34 : Value, l' = #[l0, l1, l2, l3, l4, l5, l6, l7, l8, l9] ∧ a = ⟨#[.slice iad l.length ic, .slice va vs.length vc, .slice oa os.length oc, .slice ia is.length nc, .int .i64 t, undef, undef, undef, undef, undef, .bool false, x11, x12, undef, undef, undef, undef, undef, undef, undef, undef, undef, undef, undef, undef, undef, undef, undef, x28, x29, x30, x31, x32, x33, x34, undef, undef, undef, undef, undef, undef, undef, undef, undef, undef, undef, undef, undef, undef, undef, undef, undef, undef, undef, undef, undef, undef, undef, undef, undef, undef, undef, undef, undef, undef, undef, undef, undef, undef, undef, undef, undef, undef, undef, undef, undef, undef, undef, undef, undef, undef, undef, undef, undef, undef, undef, undef, undef, undef, undef, undef, undef, undef, undef, undef, undef, undef, undef, undef, undef, undef, undef, undef, undef, undef, undef, undef, undef, undef, undef, undef, undef, undef, undef, undef, undef, undef, undef, undef, undef, undef, undef, undef, undef, undef, undef, undef, undef, undef, undef, undef, undef, undef, undef, undef, undef, undef, undef, undef, undef, undef, undef, undef, undef, undef, undef, undef, undef, undef, undef, undef, undef, undef, undef, undef, undef, undef, undef, undef, undef, undef, undef], []⟩ ∧ NF w l0 l1 l2 l3 l4 l5 l6 l7 l8 l9 x11 x12 x28 x29 x30 x31 x32 x33 x34 w') ?_ ?_ _ _ _ _ ?_ ?_)
  ·rintro l' a w' ⟨l0, l1, l2, l3, l4, l5, l6, l7, l8, l9, x11, x12, x28, x29, x30, x31, x32, x33, x34, rfl, rfl, hf⟩ hr
   have hn : ∀ i : Nat, ¬ (i ∈ ([] : List Nat)) := fun i h => by cases h
   rw [← hr] at hn
   have h0 := hn 0
   have h1 := hn 1
   have h2 := hn 2
   have h7 := hn 7
   simp [Region.ready, Region.binds] at h0 h1 h2 h7
   subst h0 h1 h2 h7
   have h3 := hn 3
   simp [Region.ready, Region.binds] at h3
   subst h3
   have h4 := hn 4
   simp [Region.ready, Region.binds] at h4
   subst h4
   have h5 := hn 5
   have h6 := hn 6
   simp [Region.ready, Region.binds] at h5 h6
   subst h5 h6
   have h8 := hn 8
   simp [Region.ready, Region.binds] at h8
   subst h8
   have h9 := hn 9
   simp [Region.ready, Region.binds] at h9
   subst h9
   have hl := hf.last
   clear hn hr hf HP HR hmk
   dsimp only
   go_wp2_with fail
   go_meet
   case rel => exact hl
  ·rintro l' a w' i ⟨l0, l1, l2, l3, l4, l5, l6, l7, l8, l9, x11, x12, x28, x29, x30, x31, x32, x33, x34, rfl, rfl, hf⟩ hi
   have hlt : i < 10 := by unfold Region.ready at hi; exact List.mem_range.1 (List.mem_filter.1 hi).1
   have h11 : i = 0 ∨ i = 1 ∨ i = 2 ∨ i = 3 ∨ i = 4 ∨ i = 5 ∨ i = 6 ∨ i = 7 ∨ i = 8 ∨ i = 9 := by omega
   have HF : Hid _ := hf
   clear hf hlt
   rcases h11 with rfl | rfl | rfl | rfl | rfl | rfl | rfl | rfl | rfl | rfl
   all_goals simp [Region.ready, Region.binds] at hi
   all_goals refine wpOp_step rfl ?_
   all_goals intro K hK
   all_goals have HK : Hid _ := hK
   all_goals clear hK
   ·subst hi
    go_simp
    refine (HP.out w').mono ?_
    rintro r w4 ⟨v4, rfl, hv4, hb4⟩
    exact HK.out _ _ ⟨true, l1, l2, l3, l4, l5, l6, l7, l8, l9, x11, x12, x28, v4, x30, x31, x32, x33, x34, rfl, rfl, (HF.out.grow hb4).s0 hv4⟩
   ·subst hi
    go_simp
    exact HK.out _ _ ⟨l0, true, l2, l3, l4, l5, l6, l7, l8, l9, x11, x12, x28, x29, _, x31, x32, x33, x34, rfl, rfl, (HF.out.grow (below_new _ _)).s1 ⟨_, rfl, zeros_made w'⟩⟩
   ·subst hi
    go_simp
    exact HK.out _ _ ⟨l0, l1, true, l3, l4, l5, l6, l7, l8, l9, x11, x12, x28, x29, x30, _, x32, x33, x34, rfl, rfl, (HF.out.grow (below_new _ _)).s2 ⟨_, rfl, fives_made w'⟩⟩
   ·obtain ⟨rfl, rfl, rfl, rfl, -⟩ := hi
    rcases HF.out.mid with ⟨-, -, -, -, -, -, hB, hZ, hF⟩ | ⟨q, -⟩
    ·obtain ⟨k, rfl, hz⟩ := hZ rfl
     obtain ⟨m, rfl, hf⟩ := hF rfl
     have HB : Hid _ := hB rfl
     have HZ : Hid (_ ∧ _) := ⟨hz, hf⟩
     clear hB hZ hF hz hf
     go_simp
     refine (new_own w w' _ k m HF.out.bel.size (HR.out.below HF.out.bel) HB.out HZ.out.1 HZ.out.2).mono ?_
     rintro r w4 ⟨mb, rfl, hv4, hb4⟩
     exact HK.out _ _ ⟨true, true, true, true, l4, l5, l6, l7, l8, l9, x11, x12, x28, x29, _, _, _, x33, x34, rfl, rfl, (HF.out.grow hb4).s3 hv4⟩
    ·cases q
   ·obtain ⟨rfl, rfl⟩ := hi
    go_simp
    exact HK.out _ _ ⟨l0, l1, l2, true, true, l5, l6, l7, l8, l9, x11, x12, x32, x29, x30, x31, x32, x33, x34, rfl, rfl, HF.out.s4⟩
   ·obtain ⟨rfl, rfl⟩ := hi
    rcases HF.out.mid with ⟨-, q, -⟩ | ⟨rfl, -, -, -, mb, -, -, e4, -⟩
    ·cases q
    ·have e := e4 rfl
     clear e4
     subst e
     go_simp
     exact HK.out _ _ ⟨l0, l1, l2, true, true, true, l6, l7, l8, l9, x11, x12, _, x29, x30, x31, x32, _, x34, rfl, rfl, HF.out.s5 (fun y z h => by cases h; rfl)⟩
   ·obtain ⟨rfl, rfl⟩ := hi
    rcases HF.out.mid with ⟨-, q, -⟩ | ⟨rfl, -, -, -, mb, -, -, e4, -⟩
    ·cases q
    ·have e := e4 rfl
     clear e4
     subst e
     go_simp
     exact HK.out _ _ ⟨l0, l1, l2, true, true, l5, true, l7, l8, l9, x11, x12, _, x29, x30, x31, x32, x33, _, rfl, rfl, HF.out.s6 (fun y z h => by cases h; rfl)⟩
   ·subst hi
    go_simp
    exact HK.out _ _ ⟨l0, l1, l2, l3, l4, l5, l6, true, l8, l9, x11, _, x28, x29, x30, x31, x32, x33, x34, rfl, rfl, (HF.out.grow (below_new _ _)).s7 ⟨_, rfl, HF.out.bel.size, heap_alloc_new w' _⟩⟩
   ·obtain ⟨rfl, rfl, -⟩ := hi
    go_simp
    exact HK.out _ _ ⟨l0, l1, l2, l3, l4, true, l6, l7, true, l9, x33, x12, x28, x29, x30, x31, x32, x33, x34, rfl, rfl, HF.out.s8⟩
   ·obtain ⟨rfl, rfl, rfl, -, -, -, -, rfl, -⟩ := hi
    obtain ⟨mb, -, -, e9⟩ := HF.out.shape rfl
    have e9' := e9 rfl
    clear e9
    unfold okV at e9'
    subst e9'
    rcases HF.out.b2 with ⟨q, -⟩ | ⟨-, c0, c1, ⟨g, rfl, hg0, hg⟩, -⟩
    ·cases q
    ·obtain ⟨c, f, lt⟩ := cells_of (l := [_, _]) hg
     have k0 := c 0 _ rfl
     have k1 := c 1 _ rfl
     have HG : Hid _ := hg
     clear c hg
     go_simp
     exact HK.out _ _ ⟨l0, l1, l2, true, l4, l5, true, true, l8, true, x11, _, x28, x29, x30, x31, x32, x33, _, rfl, rfl, HF.out.s9 rfl hg0 HG.out rfl⟩
  ·exact ⟨false, false, false, false, false, false, false, false, false, false, undef, undef, undef, undef, undef, undef, undef, undef, undef, rfl, rfl, ⟨(Below.refl _ w).drew, .inl ⟨rfl, rfl, rfl, rfl, rfl, rfl, (fun h => by cases h), (fun h => by cases h), (fun h => by cases h)⟩, .inl ⟨rfl, rfl⟩⟩⟩
  ·simp
 case rest =>
  obtain ⟨mb, g, rfl, rfl, HC, hg⟩ := hcut
  obtain ⟨c, f, lt⟩ := cells_of (l := [_, _]) hg
  have q0 := c 0 _ rfl
  clear c f hg hmk HP
  obtain ⟨M0, g0⟩ := good_of ((doc_check imageL).trans checkI_image)
  obtain ⟨hmw, iv0, ov0, hM0⟩ := id HC.out.1
  have hw1 : 1 < w.heap.size := World.block_lt_of_cell? _ _ (HR.out 1 (by omega) (by omega)).1
  have H0 : Hid (MM wc mb (mb + 1) imageL iv0 ov0 fives4 0 (ms0 zeros8) (.slice none 0 0) (.slice none 0 0) ∧ GoodI imageL M0 ∧ Below w.heap.size w wc ∧ KindsIn wc) := ⟨hM0, g0, HC.out.2, HR.out.below HC.out.2⟩
  have hpc1 : (mdo fives4 (atI imageL (ms0 zeros8)) (ms0 zeros8)).pc = 1 := by decide
  clear hM0 g0 HC
  go_wp2_with (go_at_call 20; refine (Tick_go wc mb (mb + 1) imageL M0 iv0 ov0 fives4 0 (ms0 zeros8) (.slice none 0 0) (.slice none 0 0) H0.out.1 H0.out.2.1 (MI.start H0.out.2.1 rfl) H0.out.2.2.2 (by omega) (by decide) (by decide) (by decide)).mono ?_; rintro r w2 ⟨sp2, s2, sv2, pv2, wh, rfl, hm2, hr2, hcs⟩; rcases hcs with ⟨c1, -⟩ | ⟨-, rfl, rfl, rfl⟩; exact absurd c1 (by decide); rw [show (atI imageL (ms0 zeros8)).val = .agg #[.int .i64 13, .int .i64 0, .int .i64 2] from rfl]; have H2 : Hid (MM w2 mb (mb + 1) imageL iv0 ov0 fives4 0 (mdo fives4 (atI imageL (ms0 zeros8)) (ms0 zeros8)) sv2 pv2 ∧ Below w.heap.size w w2) := ⟨hm2, H0.out.2.2.1.trans (hr2.below hmw (H0.out.2.2.1.size))⟩; clear hm2 hr2 H0)
  have H3 : Hid (MM (w2.alloc (.cells #[.int .i64 13, .int .i64 0, .int .i64 2] 35)) mb (mb + 1) imageL iv0 ov0 fives4 0 (mdo fives4 (atI imageL (ms0 zeros8)) (ms0 zeros8)) sv2 pv2 ∧ Below w.heap.size w (w2.alloc (.cells #[.int .i64 13, .int .i64 0, .int .i64 2] 35))) := ⟨H2.out.1.grow (below_new _ _), below_seq H2.out.2 (below_new _ _)⟩
  clear H2
  generalize (w2.alloc (.cells #[.int .i64 13, .int .i64 0, .int .i64 2] 35)) = w3 at *
  have hdn : decide ((mdo fives4 (atI imageL (ms0 zeros8)) (ms0 zeros8)).pc = imageL.length) = false := by rw [hpc1]; decide
  by_cases hc1 : 3000 < l.length
  ·have hcI : (3000 : Int) < (l.length : Int) := by omega
   go_wp2_with (first | (go_at_call 21; refine (At_any w3 mb (mb + 1) imageL iv0 ov0 fives4 0 _ _ _ H3.out.1).mono ?_; rw [hpc1]; rintro r w4 ⟨rfl, rfl⟩) | (go_at_call 22; refine (Done_any _ mb (mb + 1) imageL iv0 ov0 fives4 0 _ _ _ H3.out.1).mono ?_; rw [hdn]; rintro r w5 ⟨rfl, hb5⟩; have H5 : Hid (Below w.heap.size w w5) := below_seq H3.out.2 hb5; clear hb5))
   go_ret
   exact ⟨rfl, H5.out⟩
  ·have hcI : ¬ (3000 : Int) < (l.length : Int) := by omega
   by_cases hc2 : t < 0
   ·go_wp2_with (first | (go_at_call 21; refine (At_any w3 mb (mb + 1) imageL iv0 ov0 fives4 0 _ _ _ H3.out.1).mono ?_; rw [hpc1]; rintro r w4 ⟨rfl, rfl⟩) | (go_at_call 22; refine (Done_any _ mb (mb + 1) imageL iv0 ov0 fives4 0 _ _ _ H3.out.1).mono ?_; rw [hdn]; rintro r w5 ⟨rfl, hb5⟩; have H5 : Hid (Below w.heap.size w w5) := below_seq H3.out.2 hb5; clear hb5))
    go_ret
    exact ⟨rfl, H5.out⟩
   ·by_cases hc3 : 3000 < t
    ·go_wp2_with (first | (go_at_call 21; refine (At_any w3 mb (mb + 1) imageL iv0 ov0 fives4 0 _ _ _ H3.out.1).mono ?_; rw [hpc1]; rintro r w4 ⟨rfl, rfl⟩) | (go_at_call 22; refine (Done_any _ mb (mb + 1) imageL iv0 ov0 fives4 0 _ _ _ H3.out.1).mono ?_; rw [hdn]; rintro r w5 ⟨rfl, hb5⟩; have H5 : Hid (Below w.heap.size w w5) := below_seq H3.out.2 hb5; clear hb5))
     go_ret
     exact ⟨rfl, H5.out⟩
    ·obtain ⟨n, rfl⟩ : ∃ n : Nat, t = n := ⟨t.toNat, by omega⟩
     go_wp2_with (first | (go_at_call 21; refine (At_any w3 mb (mb + 1) imageL iv0 ov0 fives4 0 _ _ _ H3.out.1).mono ?_; rw [hpc1]; rintro r w4 ⟨rfl, rfl⟩) | (go_at_call 22; refine (Done_any _ mb (mb + 1) imageL iv0 ov0 fives4 0 _ _ _ H3.out.1).mono ?_; rw [hdn]; rintro r w5 ⟨rfl, hb5⟩; have H5 : Hid (Below w.heap.size w w5) := below_seq H3.out.2 hb5; clear hb5))
     rcases hdoc : docI l with ⟨c, k⟩
     have HD : Hid (docI l = (c, k)) := hdoc
     clear hdoc
     go_wp2_with (go_at_call 23; refine (ReadImage_any w5 l _ _ (HA.out.1.2.1.below H5.out) c k HD.out).mono ?_; rintro r w7 ⟨⟨p7, rfl⟩, hb7⟩; have H7 : Hid (Below w.heap.size w w7) := below_seq H5.out hb7; clear hb7)
     have HX : Hid ((KindsIn ((w7.alloc (.cells #[.int .i64 c, .int .i64 k] 30)).alloc (.cells #[.slice va vs.length vc, .slice oa os.length oc] 23)) ∧ Marks ((w7.alloc (.cells #[.int .i64 c, .int .i64 k] 30)).alloc (.cells #[.slice va vs.length vc, .slice oa os.length oc] 23)) ∧ InSl ((w7.alloc (.cells #[.int .i64 c, .int .i64 k] 30)).alloc (.cells #[.slice va vs.length vc, .slice oa os.length oc] 23)) l (.slice iad l.length ic)) ∧ (IntSl ((w7.alloc (.cells #[.int .i64 c, .int .i64 k] 30)).alloc (.cells #[.slice va vs.length vc, .slice oa os.length oc] 23)) vs (.slice va vs.length vc) ∧ IntSl ((w7.alloc (.cells #[.int .i64 c, .int .i64 k] 30)).alloc (.cells #[.slice va vs.length vc, .slice oa os.length oc] 23)) os (.slice oa os.length oc) ∧ IntSl ((w7.alloc (.cells #[.int .i64 c, .int .i64 k] 30)).alloc (.cells #[.slice va vs.length vc, .slice oa os.length oc] 23)) is (.slice ia is.length nc)) ∧ ((w7.alloc (.cells #[.int .i64 c, .int .i64 k] 30)).alloc (.cells #[.slice va vs.length vc, .slice oa os.length oc] 23)).heap[w7.heap.size]? = some (.cells #[.int .i64 c, .int .i64 k] 30 (0, 0)) ∧ ((w7.alloc (.cells #[.int .i64 c, .int .i64 k] 30)).alloc (.cells #[.slice va vs.length vc, .slice oa os.length oc] 23)).heap[(w7.heap.size + 1)]? = some (.cells #[.slice va vs.length vc, .slice oa os.length oc] 23 (0, 0))) := by
      have b1 : Below w7.heap.size w7 ((w7.alloc (.cells #[.int .i64 c, .int .i64 k] 30)).alloc (.cells #[.slice va vs.length vc, .slice oa os.length oc] 23)) := (below_new _ _).alloc (by simp) _
      have b2 := below_seq H7.out b1
      refine ⟨⟨HR.out.below b2, HA.out.1.1.below b2, HA.out.1.2.1.below b2⟩, ⟨HA.out.2.1.1.below b2, HA.out.2.2.1.1.below b2, HA.out.2.2.2.1.below b2⟩, ?_, ?_⟩
      ·rw [Below.heap_alloc _ _ _ (by simp)]; exact heap_alloc_new _ _
      ·have := heap_alloc_new (w7.alloc (.cells #[.int .i64 c, .int .i64 k] 30)) (.cells #[.slice va vs.length vc, .slice oa os.length oc] 23)
       simpa using this
     have H6 : Hid (Below w.heap.size w ((w7.alloc (.cells #[.int .i64 c, .int .i64 k] 30)).alloc (.cells #[.slice va vs.length vc, .slice oa os.length oc] 23))) := below_seq H7.out ((below_new _ _).alloc (by simp) _)
     clear H7 H5 H3
     generalize ((w7.alloc (.cells #[.int .i64 c, .int .i64 k] 30)).alloc (.cells #[.slice va vs.length vc, .slice oa os.length oc] 23)) = w6 at *
     generalize w7.heap.size = g16 at *
     go_loopw [17, 79] (fun x y wr => (y = .int .i64 0 ∧ x = .slice none 0 0 ∧ Below w6.heap.size w6 wr) ∨ (y = .int .i64 1 ∧ ∃ p0 hi, LI1 w6 wr l is vs x p0 hi) ∨ (y = .int .i64 2 ∧ ∃ p0 p1 mid hi, LI2 w6 wr l is vs os x p0 p1 mid hi)) (fun _ y _ => 2 - (intOf y).toNat)
     case atStart => exact .inl ⟨rfl, rfl, Below.refl _ _⟩
     case round =>
      rcases hrel with ⟨rfl, rfl, hbr⟩ | ⟨rfl, p0, hi0, hLI⟩ | ⟨rfl, p0, p1, mid, hi0, hLI⟩
      ·have HB : Hid (Below w6.heap.size w6 wr) := hbr
       clear hbr
       obtain ⟨ca, -, la⟩ := cells_of (l := [_, _]) ((HB.out.block g16 (Array.getElem?_eq_some_iff.1 HX.out.2.2.1).1).trans HX.out.2.2.1)
       have a0 := ca 0 _ rfl
       have a1 := ca 1 _ rfl
       obtain ⟨cb, -, lb⟩ := cells_of (l := [_, _]) ((HB.out.block (g16 + 1) (Array.getElem?_eq_some_iff.1 HX.out.2.2.2).1).trans HX.out.2.2.2)
       have b0 := cb 0 _ rfl
       clear ca cb
       obtain ⟨g0, g1, g2⟩ := HX.out.1.2.1.below HB.out
       have hz0 : 0 < wr.heap.size := World.block_lt_of_cell? _ _ g0
       by_cases hc0 : c = 0
       ·subst hc0
        have hk0 := docI_zero HD.out
        subst hk0
        by_cases h8 : vs.length = 8
        ·have e8 : ((vs.length : Int) != 8) = false := by simp; omega
         by_cases h4 : is.length = 4
         ·have e4 : ((is.length : Int) != 4) = false := by simp; omega
          have hf : faultF l vs is = (0, 0) := by unfold faultF; rw [HD.out, if_neg (by simp), if_neg (by omega)]
          have HFt : Hid _ := hf
          clear hf
          have H8 : Hid (vs.length = 8 ∧ is.length = 4) := ⟨h8, h4⟩
          clear h8 h4
          go_wp2_with fail
          have HW : Hid (Below wr.heap.size wr (wr.alloc (.cells #[.int .i64 0, .int .i64 0] 30)) ∧ (wr.alloc (.cells #[.int .i64 0, .int .i64 0] 30)).heap[wr.heap.size]? = some (.cells #[.int .i64 0, .int .i64 0] 30 (0, 0))) := ⟨below_new _ _, heap_alloc_new _ _⟩
          try clear g0 g1 g2
          clear a0 a1 b0 la lb hz0
          generalize (wr.alloc (.cells #[.int .i64 0, .int .i64 0] 30)) = wA at *
          go_wp2_with (go_at_call 10; refine (Lend_own wA l ⟨-1, -2, -3⟩ _ _ (by omega) (HX.out.1.2.2.below (below_seq HB.out HW.out.1)) HA.out.1.2.2).mono ?_; rintro r wB ⟨gI, rfl, hoI, hbB⟩; have HI : Hid (wB.ownsRow wA.heap.size 35 3 (.slice (some ⟨gI, 0, none⟩) (l.length + 3) (l.length + 3)) (l.length + 3) (insVs l ++ marksL ⟨-1, -2, -3⟩) ∧ Below wA.heap.size wA wB ∧ Below w6.heap.size w6 wB) := ⟨hoI, hbB, below_seq (below_seq HB.out HW.out.1) hbB⟩; clear hoI hbB)
          have PH : Phase 1 := trivial
          go_wp2_with (go_at_call 11; guard_hyp PH : Phase 1; clear PH; refine (LendN_own wB vs (-9) va vc (by omega) (HX.out.2.1.1.below HI.out.2.2) HA.out.2.1.2).mono ?_; rintro r wC ⟨gV, rfl, hoV, hbC⟩; have HV : Hid (wC.ownsRow wB.heap.size 3 1 (.slice (some ⟨gV, 0, none⟩) (vs.length + 3) (vs.length + 3)) (vs.length + 3) (intVs vs ++ [.int .i64 (-9), .int .i64 (-9), .int .i64 (-9)]) ∧ Below wB.heap.size wB wC ∧ Below w6.heap.size w6 wC) := ⟨hoV, hbC, below_seq HI.out.2.2 hbC⟩; clear hoV hbC; have PH : Phase 2 := trivial)
          go_wp2_with (go_at_call 11; guard_hyp PH : Phase 2; clear PH; refine (LendN_own wC is (-9) ia nc (by omega) (HX.out.2.1.2.2.below HV.out.2.2) HA.out.2.2.2.2).mono ?_; rintro r wD ⟨gN, rfl, hoN, hbD⟩; have HN : Hid (wD.ownsRow wC.heap.size 3 1 (.slice (some ⟨gN, 0, none⟩) (is.length + 3) (is.length + 3)) (is.length + 3) (intVs is ++ [.int .i64 (-9), .int .i64 (-9), .int .i64 (-9)]) ∧ Below wC.heap.size wC wD ∧ Below w6.heap.size w6 wD) := ⟨hoN, hbD, below_seq HV.out.2.2 hbD⟩; clear hoN hbD)
          go_wp2_with (go_at_call 18; refine (New_is wD l _ _ _ _ _ _ vs is (HX.out.1.1.below HN.out.2.2) (InSl.lent (ownsRow_below HI.out.1 (below_seq HV.out.2.1 HN.out.2.1))) (fun e => by cases e) (IntSl.lent (ownsRow_below HV.out.1 HN.out.2.1)) (IntSl.lent HN.out.1)).mono ?_; rintro r wE ⟨hbE, hcs⟩; rw [HFt.out] at hcs; obtain ⟨mbN, hr, HM⟩ : ∃ mbN, r = .returned (.tuple #[.pointer (some ⟨mbN, 0, none⟩), .agg #[.int .i64 0, .int .i64 0]]) ∧ Hid (MK wD.heap.size wE.heap.size wE l is vs (.pointer (some ⟨mbN, 0, none⟩))) := (by rcases hcs with ⟨h, -⟩ | ⟨-, hd, mb, iv, ov, h1, h2, h3, h4⟩; exact absurd rfl h; exact ⟨mb, h1, .inr ⟨mb, iv, ov, rfl, h2, h3.lt, hd, h3, h4⟩⟩); subst hr; have HE : Hid (Below wD.heap.size wD wE ∧ MK wD.heap.size wE.heap.size wE l is vs (.pointer (some ⟨mbN, 0, none⟩))) := ⟨hbE, HM.out⟩; clear hbE hcs HM)
          have HT : Hid (wr.heap.size < wA.heap.size) := (Array.getElem?_eq_some_iff.1 HW.out.2).1
          have HG : Hid (Below wE.heap.size wE (wE.alloc (.cells #[.int .i64 0, .int .i64 0] 30)) ∧ (wE.alloc (.cells #[.int .i64 0, .int .i64 0] 30)).heap[wE.heap.size]? = some (.cells #[.int .i64 0, .int .i64 0] 30 (0, 0)) ∧ Below wA.heap.size wA (wE.alloc (.cells #[.int .i64 0, .int .i64 0] 30))) := ⟨below_new _ _, heap_alloc_new _ _, below_seq HI.out.2.1 (below_seq HV.out.2.1 (below_seq HN.out.2.1 (below_seq HE.out.1 (below_new _ _))))⟩
          generalize (wE.alloc (.cells #[.int .i64 0, .int .i64 0] 30)) = wG at *
          go_wp2_with (go_at_call 25; refine (SpoilI_own wG wA.heap.size gI l.length (l.length + 3) (l.length + 3) _ (ownsRow_below HI.out.1 (below_seq HV.out.2.1 (below_seq HN.out.2.1 (below_seq HE.out.1 HG.out.1))))).mono ?_; rintro r wH ⟨rfl, hbH, hkH⟩; have HH : Hid (Below wA.heap.size wG wH ∧ ∀ k, k ≠ gI → wH.heap[k]? = wG.heap[k]?) := ⟨hbH, hkH⟩; clear hbH hkH)
          have PH : Phase 3 := trivial
          have HS : Hid ((wA.heap.size ≤ gI ∧ gI < wB.heap.size) ∧ (wB.heap.size ≤ gV ∧ gV < wC.heap.size) ∧ (wC.heap.size ≤ gN ∧ gN < wD.heap.size)) := ⟨⟨(own_cells HI.out.1).1, (own_cells HI.out.1).2.1⟩, ⟨(own_cells HV.out.1).1, (own_cells HV.out.1).2.1⟩, ⟨(own_cells HN.out.1).1, (own_cells HN.out.1).2.1⟩⟩
          obtain ⟨⟨si1, si2⟩, ⟨sv1, sv2⟩, ⟨sn1, sn2⟩⟩ := HS.out
          have z1 := HI.out.2.1.size
          have z2 := HV.out.2.1.size
          have z3 := HN.out.2.1.size
          have z4 := HE.out.1.size
          have z5 := HG.out.1.size
          have z0 := HT.out
          go_wp2_with (go_at_call 16; guard_hyp PH : Phase 3; clear PH; refine (SpoilN_lent wH wB.heap.size gV vs.length (vs.length + 3) (vs.length + 3) _ (ownsRow_own (ownsRow_below HV.out.1 (below_seq HN.out.2.1 (below_seq HE.out.1 HG.out.1))) (fun q hq => HH.out.2 q (fun e => by have hq' : gV = q := Option.some.inj hq; omega)))).mono ?_; rintro r wI ⟨rfl, hbI, hkI⟩; have HJ : Hid (Below wB.heap.size wH wI ∧ ∀ k, k ≠ gV → wI.heap[k]? = wH.heap[k]?) := ⟨hbI, hkI⟩; clear hbI hkI; have PH : Phase 4 := trivial)
          go_wp2_with (first | (go_at_call 16; guard_hyp PH : Phase 4; clear PH; refine (SpoilN_lent wI wC.heap.size gN is.length (is.length + 3) (is.length + 3) _ (ownsRow_own (ownsRow_own (ownsRow_below HN.out.1 (below_seq HE.out.1 HG.out.1)) (fun q hq => HH.out.2 q (fun e => by have hq' : gN = q := Option.some.inj hq; omega))) (fun q hq => HJ.out.2 q (fun e => by have hq' : gN = q := Option.some.inj hq; omega)))).mono ?_; rintro r wJ ⟨rfl, hbJ, hkJ⟩; have HQ : Hid (Below wC.heap.size wI wJ ∧ ∀ k, k ≠ gN → wJ.heap[k]? = wI.heap[k]?) := ⟨hbJ, hkJ⟩; have hal : ∀ k, k ≠ gI → k ≠ gV → k ≠ gN → wJ.heap[k]? = wG.heap[k]? := (fun k h1 h2 h3 => (hkJ k h3).trans ((HJ.out.2 k h2).trans (HH.out.2 k h1))); obtain ⟨cd, -, ld⟩ := cells_of (l := [_, _]) ((hal wr.heap.size (by omega) (by omega) (by omega)).trans ((HG.out.2.2.block _ HT.out).trans HW.out.2)); have d0 := cd 0 _ rfl; have d1 := cd 1 _ rfl; obtain ⟨ce, -, le⟩ := cells_of (l := [_, _]) ((hal wE.heap.size (by omega) (by omega) (by omega)).trans HG.out.2.1); have e0 := ce 0 _ rfl; have e1 := ce 1 _ rfl; have HL : Hid (∀ k, k ≠ gI → k ≠ gV → k ≠ gN → wJ.heap[k]? = wG.heap[k]?) := hal; clear cd ce hbJ hkJ hal; have HRw : Hid (wJ.ownsRow w6.heap.size 45 1 (.slice none 0 0) 0 [] ∧ Below w6.heap.size w6 wJ) := ⟨(World.ownsRow_nil _ _ _ _), (((below_seq (below_seq HB.out HW.out.1) HG.out.2.2).trans (HH.out.1.mono (by have := HB.out.size; omega))).trans (HJ.out.1.mono (by have := HB.out.size; omega))).trans (HQ.out.1.mono (by have := HB.out.size; omega))⟩) | (at_builtin; refine wp_pushM rfl (.tmp 129) (.tmp 131) rfl w6.heap.size (.slice none 0 0) [] (some ⟨mbN, 0, none⟩) wJ.heap.size 0 rfl rfl rfl rfl HRw.out.1 HRw.out.2.size (by omega) ?_; intro ad4 c4 wK hoK hgK hvK; have HK : Hid (wK.ownsRow w6.heap.size 45 1 (.slice ad4 1 c4) 1 ([] ++ [.pointer (some ⟨mbN, 0, none⟩)]) ∧ (wJ.alloc (.cells #[.pointer (some ⟨mbN, 0, none⟩)] 45)).grownBy wK (Value.slice none 0 0).ownBlock ∧ (((Value.slice ad4 1 c4).ownBlock = (Value.slice none 0 0).ownBlock) ∨ ∀ k, (Value.slice ad4 1 c4).ownBlock = some k → (wJ.alloc (.cells #[.pointer (some ⟨mbN, 0, none⟩)] 45)).heap.size ≤ k)) := ⟨hoK, hgK, hvK⟩; clear hoK hgK hvK))
          go_roundw
          case rel =>
           obtain ⟨-, -, cs1, k1⟩ := own_cells (ownsRow_below HI.out.1 (below_seq HV.out.2.1 (below_seq HN.out.2.1 (below_seq HE.out.1 HG.out.1))))
           obtain ⟨-, -, cs2, k2⟩ := own_cells (ownsRow_own (ownsRow_below HV.out.1 (below_seq HN.out.2.1 (below_seq HE.out.1 HG.out.1))) (fun q hq => HH.out.2 q (fun e => by have hq' : gV = q := Option.some.inj hq; omega)))
           obtain ⟨-, -, cs3, k3⟩ := own_cells (ownsRow_own (ownsRow_own (ownsRow_below HN.out.1 (below_seq HE.out.1 HG.out.1)) (fun q hq => HH.out.2 q (fun e => by have hq' : gN = q := Option.some.inj hq; omega))) (fun q hq => HJ.out.2 q (fun e => by have hq' : gN = q := Option.some.inj hq; omega)))
           have z6 := HH.out.1.size
           have z7 := HJ.out.1.size
           have z8 := HQ.out.1.size
           have z9 := HB.out.size
           have z10 := HK.out.2.1.size
           simp only [World.size_alloc] at z10
           have hMJ : MK wD.heap.size wE.heap.size wJ l is vs (.pointer (some ⟨mbN, 0, none⟩)) := ((((HE.out.2.below HG.out.1).off k1 (by decide) (.inl (by omega)) (fun q _ h => HH.out.2 q h) HH.out.1.size).off k2 (by decide) (.inl (by omega)) (fun q _ h => HJ.out.2 q h) HJ.out.1.size).off k3 (by decide) (.inl (by omega)) (fun q _ h => HQ.out.2 q h) HQ.out.1.size)
           refine .inr (.inl ⟨by go_num, .pointer (some ⟨mbN, 0, none⟩), wJ.heap.size, ⟨(HRw.out.2.alloc HRw.out.2.size _).grown HK.out.2.1 (by have := HRw.out.2.size; simp; omega) (fun k hk => by cases hk), HK.out.1, ((hMJ.mono (by omega) (by omega)).below (below_new _ _)).grown HK.out.2.1 (fun k hk => by cases hk), fun k hk => ?_, by omega, by omega⟩⟩)
           rcases HK.out.2.2 with e | e
           ·rw [e] at hk; cases hk
           ·have := e k hk; simp at this; omega
          case measure => simp [intOf]
         ·have e4 : ((is.length : Int) != 4) = true := by simp; omega
          have hf : faultF l vs is = (3, 0) := by unfold faultF; rw [HD.out, if_neg (by simp), if_pos (by omega)]
          have HFt : Hid _ := hf
          clear hf
          clear h8
          try clear h4
          go_wp2_with (go_at_call 24; refine (F_any 3 0 _).mono ?_; rintro r wF ⟨rfl, hbF⟩; have HFw : Hid (Below wr.heap.size wr wF ∧ wF.heap[wr.heap.size]? = some (.cells #[.int .i64 0, .int .i64 0] 30 (0, 0))) := ⟨below_seq (below_new _ _) hbF, (hbF.block _ (by simp)).trans (heap_alloc_new _ _)⟩; obtain ⟨cf, ff, lf⟩ := cells_of (l := [_, _]) HFw.out.2; have cf0 := cf 0 _ rfl; have cf1 := cf 1 _ rfl; have g0' := below_cell HFw.out.1 g0; have g1' := below_cell HFw.out.1 g1; have g2' := below_cell HFw.out.1 g2; have hnz : ¬ wr.heap.size = 0 := (by omega); have hnz' : ¬ 0 = wr.heap.size := (by omega); clear cf hbF g0 g1 g2)
          have HW : Hid (Below wr.heap.size wr ((wF.setCell ⟨wr.heap.size, 0, none⟩ (.int .i64 3)).setCell ⟨wr.heap.size, 1, none⟩ (.int .i64 0)) ∧ ((wF.setCell ⟨wr.heap.size, 0, none⟩ (.int .i64 3)).setCell ⟨wr.heap.size, 1, none⟩ (.int .i64 0)).heap[wr.heap.size]? = some (.cells #[.int .i64 3, .int .i64 0] 30 (0, 0))) := ⟨(HFw.out.1.setCell (Nat.le_refl _) _).setCell (Nat.le_refl _) _, by simpa using setCell_at (i := 1) (u := .int .i64 0) (setCell_at (i := 0) (u := .int .i64 3) HFw.out.2)⟩
          clear cf0 cf1 ff lf g0' g1' g2' hnz hnz' HFw
          try clear g0 g1 g2
          clear a0 a1 b0 la lb hz0
          generalize ((wF.setCell ⟨wr.heap.size, 0, none⟩ (.int .i64 3)).setCell ⟨wr.heap.size, 1, none⟩ (.int .i64 0)) = wA at *
          go_wp2_with (go_at_call 10; refine (Lend_own wA l ⟨-1, -2, -3⟩ _ _ (by omega) (HX.out.1.2.2.below (below_seq HB.out HW.out.1)) HA.out.1.2.2).mono ?_; rintro r wB ⟨gI, rfl, hoI, hbB⟩; have HI : Hid (wB.ownsRow wA.heap.size 35 3 (.slice (some ⟨gI, 0, none⟩) (l.length + 3) (l.length + 3)) (l.length + 3) (insVs l ++ marksL ⟨-1, -2, -3⟩) ∧ Below wA.heap.size wA wB ∧ Below w6.heap.size w6 wB) := ⟨hoI, hbB, below_seq (below_seq HB.out HW.out.1) hbB⟩; clear hoI hbB)
          have PH : Phase 1 := trivial
          go_wp2_with (go_at_call 11; guard_hyp PH : Phase 1; clear PH; refine (LendN_own wB vs (-9) va vc (by omega) (HX.out.2.1.1.below HI.out.2.2) HA.out.2.1.2).mono ?_; rintro r wC ⟨gV, rfl, hoV, hbC⟩; have HV : Hid (wC.ownsRow wB.heap.size 3 1 (.slice (some ⟨gV, 0, none⟩) (vs.length + 3) (vs.length + 3)) (vs.length + 3) (intVs vs ++ [.int .i64 (-9), .int .i64 (-9), .int .i64 (-9)]) ∧ Below wB.heap.size wB wC ∧ Below w6.heap.size w6 wC) := ⟨hoV, hbC, below_seq HI.out.2.2 hbC⟩; clear hoV hbC; have PH : Phase 2 := trivial)
          go_wp2_with (go_at_call 11; guard_hyp PH : Phase 2; clear PH; refine (LendN_own wC is (-9) ia nc (by omega) (HX.out.2.1.2.2.below HV.out.2.2) HA.out.2.2.2.2).mono ?_; rintro r wD ⟨gN, rfl, hoN, hbD⟩; have HN : Hid (wD.ownsRow wC.heap.size 3 1 (.slice (some ⟨gN, 0, none⟩) (is.length + 3) (is.length + 3)) (is.length + 3) (intVs is ++ [.int .i64 (-9), .int .i64 (-9), .int .i64 (-9)]) ∧ Below wC.heap.size wC wD ∧ Below w6.heap.size w6 wD) := ⟨hoN, hbD, below_seq HV.out.2.2 hbD⟩; clear hoN hbD)
          go_wp2_with (go_at_call 18; refine (New_is wD l _ _ _ _ _ _ vs is (HX.out.1.1.below HN.out.2.2) (InSl.lent (ownsRow_below HI.out.1 (below_seq HV.out.2.1 HN.out.2.1))) (fun e => by cases e) (IntSl.lent (ownsRow_below HV.out.1 HN.out.2.1)) (IntSl.lent HN.out.1)).mono ?_; rintro r wE ⟨hbE, hcs⟩; rw [HFt.out] at hcs; have hr : r = .returned (.tuple #[.pointer none, .agg #[.int .i64 3, .int .i64 0]]) := (by rcases hcs with ⟨-, h⟩ | ⟨e, -⟩; exact h; exact absurd e (by simp)); subst hr; have HE : Hid (Below wD.heap.size wD wE ∧ MK wD.heap.size wE.heap.size wE l is vs (.pointer none)) := ⟨hbE, .inl ⟨by rw [HFt.out]; simp, rfl⟩⟩; clear hbE hcs)
          have HT : Hid (wr.heap.size < wA.heap.size) := (Array.getElem?_eq_some_iff.1 HW.out.2).1
          have HG : Hid (Below wE.heap.size wE (wE.alloc (.cells #[.int .i64 3, .int .i64 0] 30)) ∧ (wE.alloc (.cells #[.int .i64 3, .int .i64 0] 30)).heap[wE.heap.size]? = some (.cells #[.int .i64 3, .int .i64 0] 30 (0, 0)) ∧ Below wA.heap.size wA (wE.alloc (.cells #[.int .i64 3, .int .i64 0] 30))) := ⟨below_new _ _, heap_alloc_new _ _, below_seq HI.out.2.1 (below_seq HV.out.2.1 (below_seq HN.out.2.1 (below_seq HE.out.1 (below_new _ _))))⟩
          generalize (wE.alloc (.cells #[.int .i64 3, .int .i64 0] 30)) = wG at *
          go_wp2_with (go_at_call 25; refine (SpoilI_own wG wA.heap.size gI l.length (l.length + 3) (l.length + 3) _ (ownsRow_below HI.out.1 (below_seq HV.out.2.1 (below_seq HN.out.2.1 (below_seq HE.out.1 HG.out.1))))).mono ?_; rintro r wH ⟨rfl, hbH, hkH⟩; have HH : Hid (Below wA.heap.size wG wH ∧ ∀ k, k ≠ gI → wH.heap[k]? = wG.heap[k]?) := ⟨hbH, hkH⟩; clear hbH hkH)
          have PH : Phase 3 := trivial
          have HS : Hid ((wA.heap.size ≤ gI ∧ gI < wB.heap.size) ∧ (wB.heap.size ≤ gV ∧ gV < wC.heap.size) ∧ (wC.heap.size ≤ gN ∧ gN < wD.heap.size)) := ⟨⟨(own_cells HI.out.1).1, (own_cells HI.out.1).2.1⟩, ⟨(own_cells HV.out.1).1, (own_cells HV.out.1).2.1⟩, ⟨(own_cells HN.out.1).1, (own_cells HN.out.1).2.1⟩⟩
          obtain ⟨⟨si1, si2⟩, ⟨sv1, sv2⟩, ⟨sn1, sn2⟩⟩ := HS.out
          have z1 := HI.out.2.1.size
          have z2 := HV.out.2.1.size
          have z3 := HN.out.2.1.size
          have z4 := HE.out.1.size
          have z5 := HG.out.1.size
          have z0 := HT.out
          go_wp2_with (go_at_call 16; guard_hyp PH : Phase 3; clear PH; refine (SpoilN_lent wH wB.heap.size gV vs.length (vs.length + 3) (vs.length + 3) _ (ownsRow_own (ownsRow_below HV.out.1 (below_seq HN.out.2.1 (below_seq HE.out.1 HG.out.1))) (fun q hq => HH.out.2 q (fun e => by have hq' : gV = q := Option.some.inj hq; omega)))).mono ?_; rintro r wI ⟨rfl, hbI, hkI⟩; have HJ : Hid (Below wB.heap.size wH wI ∧ ∀ k, k ≠ gV → wI.heap[k]? = wH.heap[k]?) := ⟨hbI, hkI⟩; clear hbI hkI; have PH : Phase 4 := trivial)
          go_wp2_with (first | (go_at_call 16; guard_hyp PH : Phase 4; clear PH; refine (SpoilN_lent wI wC.heap.size gN is.length (is.length + 3) (is.length + 3) _ (ownsRow_own (ownsRow_own (ownsRow_below HN.out.1 (below_seq HE.out.1 HG.out.1)) (fun q hq => HH.out.2 q (fun e => by have hq' : gN = q := Option.some.inj hq; omega))) (fun q hq => HJ.out.2 q (fun e => by have hq' : gN = q := Option.some.inj hq; omega)))).mono ?_; rintro r wJ ⟨rfl, hbJ, hkJ⟩; have HQ : Hid (Below wC.heap.size wI wJ ∧ ∀ k, k ≠ gN → wJ.heap[k]? = wI.heap[k]?) := ⟨hbJ, hkJ⟩; have hal : ∀ k, k ≠ gI → k ≠ gV → k ≠ gN → wJ.heap[k]? = wG.heap[k]? := (fun k h1 h2 h3 => (hkJ k h3).trans ((HJ.out.2 k h2).trans (HH.out.2 k h1))); obtain ⟨cd, -, ld⟩ := cells_of (l := [_, _]) ((hal wr.heap.size (by omega) (by omega) (by omega)).trans ((HG.out.2.2.block _ HT.out).trans HW.out.2)); have d0 := cd 0 _ rfl; have d1 := cd 1 _ rfl; obtain ⟨ce, -, le⟩ := cells_of (l := [_, _]) ((hal wE.heap.size (by omega) (by omega) (by omega)).trans HG.out.2.1); have e0 := ce 0 _ rfl; have e1 := ce 1 _ rfl; have HL : Hid (∀ k, k ≠ gI → k ≠ gV → k ≠ gN → wJ.heap[k]? = wG.heap[k]?) := hal; clear cd ce hbJ hkJ hal; have HRw : Hid (wJ.ownsRow w6.heap.size 45 1 (.slice none 0 0) 0 [] ∧ Below w6.heap.size w6 wJ) := ⟨(World.ownsRow_nil _ _ _ _), (((below_seq (below_seq HB.out HW.out.1) HG.out.2.2).trans (HH.out.1.mono (by have := HB.out.size; omega))).trans (HJ.out.1.mono (by have := HB.out.size; omega))).trans (HQ.out.1.mono (by have := HB.out.size; omega))⟩) | (at_builtin; refine wp_pushM rfl (.tmp 129) (.tmp 131) rfl w6.heap.size (.slice none 0 0) [] none wJ.heap.size 0 rfl rfl rfl rfl HRw.out.1 HRw.out.2.size (by omega) ?_; intro ad4 c4 wK hoK hgK hvK; have HK : Hid (wK.ownsRow w6.heap.size 45 1 (.slice ad4 1 c4) 1 ([] ++ [.pointer none]) ∧ (wJ.alloc (.cells #[.pointer none] 45)).grownBy wK (Value.slice none 0 0).ownBlock ∧ (((Value.slice ad4 1 c4).ownBlock = (Value.slice none 0 0).ownBlock) ∨ ∀ k, (Value.slice ad4 1 c4).ownBlock = some k → (wJ.alloc (.cells #[.pointer none] 45)).heap.size ≤ k)) := ⟨hoK, hgK, hvK⟩; clear hoK hgK hvK))
          go_roundw
          case rel =>
           obtain ⟨-, -, cs1, k1⟩ := own_cells (ownsRow_below HI.out.1 (below_seq HV.out.2.1 (below_seq HN.out.2.1 (below_seq HE.out.1 HG.out.1))))
           obtain ⟨-, -, cs2, k2⟩ := own_cells (ownsRow_own (ownsRow_below HV.out.1 (below_seq HN.out.2.1 (below_seq HE.out.1 HG.out.1))) (fun q hq => HH.out.2 q (fun e => by have hq' : gV = q := Option.some.inj hq; omega)))
           obtain ⟨-, -, cs3, k3⟩ := own_cells (ownsRow_own (ownsRow_own (ownsRow_below HN.out.1 (below_seq HE.out.1 HG.out.1)) (fun q hq => HH.out.2 q (fun e => by have hq' : gN = q := Option.some.inj hq; omega))) (fun q hq => HJ.out.2 q (fun e => by have hq' : gN = q := Option.some.inj hq; omega)))
           have z6 := HH.out.1.size
           have z7 := HJ.out.1.size
           have z8 := HQ.out.1.size
           have z9 := HB.out.size
           have z10 := HK.out.2.1.size
           simp only [World.size_alloc] at z10
           have hMJ : MK wD.heap.size wE.heap.size wJ l is vs (.pointer none) := ((((HE.out.2.below HG.out.1).off k1 (by decide) (.inl (by omega)) (fun q _ h => HH.out.2 q h) HH.out.1.size).off k2 (by decide) (.inl (by omega)) (fun q _ h => HJ.out.2 q h) HJ.out.1.size).off k3 (by decide) (.inl (by omega)) (fun q _ h => HQ.out.2 q h) HQ.out.1.size)
           refine .inr (.inl ⟨by go_num, .pointer none, wJ.heap.size, ⟨(HRw.out.2.alloc HRw.out.2.size _).grown HK.out.2.1 (by have := HRw.out.2.size; simp; omega) (fun k hk => by cases hk), HK.out.1, ((hMJ.mono (by omega) (by omega)).below (below_new _ _)).grown HK.out.2.1 (fun k hk => by cases hk), fun k hk => ?_, by omega, by omega⟩⟩)
           rcases HK.out.2.2 with e | e
           ·rw [e] at hk; cases hk
           ·have := e k hk; simp at this; omega
          case measure => simp [intOf]
        ·have e8 : ((vs.length : Int) != 8) = true := by simp; omega
         have hf : faultF l vs is = (3, 0) := by unfold faultF; rw [HD.out, if_neg (by simp), if_pos (by omega)]
         have HFt : Hid _ := hf
         clear hf
         clear h8
         try clear h4
         go_wp2_with (go_at_call 24; refine (F_any 3 0 _).mono ?_; rintro r wF ⟨rfl, hbF⟩; have HFw : Hid (Below wr.heap.size wr wF ∧ wF.heap[wr.heap.size]? = some (.cells #[.int .i64 0, .int .i64 0] 30 (0, 0))) := ⟨below_seq (below_new _ _) hbF, (hbF.block _ (by simp)).trans (heap_alloc_new _ _)⟩; obtain ⟨cf, ff, lf⟩ := cells_of (l := [_, _]) HFw.out.2; have cf0 := cf 0 _ rfl; have cf1 := cf 1 _ rfl; have g0' := below_cell HFw.out.1 g0; have g1' := below_cell HFw.out.1 g1; have g2' := below_cell HFw.out.1 g2; have hnz : ¬ wr.heap.size = 0 := (by omega); have hnz' : ¬ 0 = wr.heap.size := (by omega); clear cf hbF g0 g1 g2)
         have HW : Hid (Below wr.heap.size wr ((wF.setCell ⟨wr.heap.size, 0, none⟩ (.int .i64 3)).setCell ⟨wr.heap.size, 1, none⟩ (.int .i64 0)) ∧ ((wF.setCell ⟨wr.heap.size, 0, none⟩ (.int .i64 3)).setCell ⟨wr.heap.size, 1, none⟩ (.int .i64 0)).heap[wr.heap.size]? = some (.cells #[.int .i64 3, .int .i64 0] 30 (0, 0))) := ⟨(HFw.out.1.setCell (Nat.le_refl _) _).setCell (Nat.le_refl _) _, by simpa using setCell_at (i := 1) (u := .int .i64 0) (setCell_at (i := 0) (u := .int .i64 3) HFw.out.2)⟩
         clear cf0 cf1 ff lf g0' g1' g2' hnz hnz' HFw
         try clear g0 g1 g2
         clear a0 a1 b0 la lb hz0
         generalize ((wF.setCell ⟨wr.heap.size, 0, none⟩ (.int .i64 3)).setCell ⟨wr.heap.size, 1, none⟩ (.int .i64 0)) = wA at *
         go_wp2_with (go_at_call 10; refine (Lend_own wA l ⟨-1, -2, -3⟩ _ _ (by omega) (HX.out.1.2.2.below (below_seq HB.out HW.out.1)) HA.out.1.2.2).mono ?_; rintro r wB ⟨gI, rfl, hoI, hbB⟩; have HI : Hid (wB.ownsRow wA.heap.size 35 3 (.slice (some ⟨gI, 0, none⟩) (l.length + 3) (l.length + 3)) (l.length + 3) (insVs l ++ marksL ⟨-1, -2, -3⟩) ∧ Below wA.heap.size wA wB ∧ Below w6.heap.size w6 wB) := ⟨hoI, hbB, below_seq (below_seq HB.out HW.out.1) hbB⟩; clear hoI hbB)
         have PH : Phase 1 := trivial
         go_wp2_with (go_at_call 11; guard_hyp PH : Phase 1; clear PH; refine (LendN_own wB vs (-9) va vc (by omega) (HX.out.2.1.1.below HI.out.2.2) HA.out.2.1.2).mono ?_; rintro r wC ⟨gV, rfl, hoV, hbC⟩; have HV : Hid (wC.ownsRow wB.heap.size 3 1 (.slice (some ⟨gV, 0, none⟩) (vs.length + 3) (vs.length + 3)) (vs.length + 3) (intVs vs ++ [.int .i64 (-9), .int .i64 (-9), .int .i64 (-9)]) ∧ Below wB.heap.size wB wC ∧ Below w6.heap.size w6 wC) := ⟨hoV, hbC, below_seq HI.out.2.2 hbC⟩; clear hoV hbC; have PH : Phase 2 := trivial)
         go_wp2_with (go_at_call 11; guard_hyp PH : Phase 2; clear PH; refine (LendN_own wC is (-9) ia nc (by omega) (HX.out.2.1.2.2.below HV.out.2.2) HA.out.2.2.2.2).mono ?_; rintro r wD ⟨gN, rfl, hoN, hbD⟩; have HN : Hid (wD.ownsRow wC.heap.size 3 1 (.slice (some ⟨gN, 0, none⟩) (is.length + 3) (is.length + 3)) (is.length + 3) (intVs is ++ [.int .i64 (-9), .int .i64 (-9), .int .i64 (-9)]) ∧ Below wC.heap.size wC wD ∧ Below w6.heap.size w6 wD) := ⟨hoN, hbD, below_seq HV.out.2.2 hbD⟩; clear hoN hbD)
         go_wp2_with (go_at_call 18; refine (New_is wD l _ _ _ _ _ _ vs is (HX.out.1.1.below HN.out.2.2) (InSl.lent (ownsRow_below HI.out.1 (below_seq HV.out.2.1 HN.out.2.1))) (fun e => by cases e) (IntSl.lent (ownsRow_below HV.out.1 HN.out.2.1)) (IntSl.lent HN.out.1)).mono ?_; rintro r wE ⟨hbE, hcs⟩; rw [HFt.out] at hcs; have hr : r = .returned (.tuple #[.pointer none, .agg #[.int .i64 3, .int .i64 0]]) := (by rcases hcs with ⟨-, h⟩ | ⟨e, -⟩; exact h; exact absurd e (by simp)); subst hr; have HE : Hid (Below wD.heap.size wD wE ∧ MK wD.heap.size wE.heap.size wE l is vs (.pointer none)) := ⟨hbE, .inl ⟨by rw [HFt.out]; simp, rfl⟩⟩; clear hbE hcs)
         have HT : Hid (wr.heap.size < wA.heap.size) := (Array.getElem?_eq_some_iff.1 HW.out.2).1
         have HG : Hid (Below wE.heap.size wE (wE.alloc (.cells #[.int .i64 3, .int .i64 0] 30)) ∧ (wE.alloc (.cells #[.int .i64 3, .int .i64 0] 30)).heap[wE.heap.size]? = some (.cells #[.int .i64 3, .int .i64 0] 30 (0, 0)) ∧ Below wA.heap.size wA (wE.alloc (.cells #[.int .i64 3, .int .i64 0] 30))) := ⟨below_new _ _, heap_alloc_new _ _, below_seq HI.out.2.1 (below_seq HV.out.2.1 (below_seq HN.out.2.1 (below_seq HE.out.1 (below_new _ _))))⟩
         generalize (wE.alloc (.cells #[.int .i64 3, .int .i64 0] 30)) = wG at *
         go_wp2_with (go_at_call 25; refine (SpoilI_own wG wA.heap.size gI l.length (l.length + 3) (l.length + 3) _ (ownsRow_below HI.out.1 (below_seq HV.out.2.1 (below_seq HN.out.2.1 (below_seq HE.out.1 HG.out.1))))).mono ?_; rintro r wH ⟨rfl, hbH, hkH⟩; have HH : Hid (Below wA.heap.size wG wH ∧ ∀ k, k ≠ gI → wH.heap[k]? = wG.heap[k]?) := ⟨hbH, hkH⟩; clear hbH hkH)
         have PH : Phase 3 := trivial
         have HS : Hid ((wA.heap.size ≤ gI ∧ gI < wB.heap.size) ∧ (wB.heap.size ≤ gV ∧ gV < wC.heap.size) ∧ (wC.heap.size ≤ gN ∧ gN < wD.heap.size)) := ⟨⟨(own_cells HI.out.1).1, (own_cells HI.out.1).2.1⟩, ⟨(own_cells HV.out.1).1, (own_cells HV.out.1).2.1⟩, ⟨(own_cells HN.out.1).1, (own_cells HN.out.1).2.1⟩⟩
         obtain ⟨⟨si1, si2⟩, ⟨sv1, sv2⟩, ⟨sn1, sn2⟩⟩ := HS.out
         have z1 := HI.out.2.1.size
         have z2 := HV.out.2.1.size
         have z3 := HN.out.2.1.size
         have z4 := HE.out.1.size
         have z5 := HG.out.1.size
         have z0 := HT.out
         go_wp2_with (go_at_call 16; guard_hyp PH : Phase 3; clear PH; refine (SpoilN_lent wH wB.heap.size gV vs.length (vs.length + 3) (vs.length + 3) _ (ownsRow_own (ownsRow_below HV.out.1 (below_seq HN.out.2.1 (below_seq HE.out.1 HG.out.1))) (fun q hq => HH.out.2 q (fun e => by have hq' : gV = q := Option.some.inj hq; omega)))).mono ?_; rintro r wI ⟨rfl, hbI, hkI⟩; have HJ : Hid (Below wB.heap.size wH wI ∧ ∀ k, k ≠ gV → wI.heap[k]? = wH.heap[k]?) := ⟨hbI, hkI⟩; clear hbI hkI; have PH : Phase 4 := trivial)
         go_wp2_with (first | (go_at_call 16; guard_hyp PH : Phase 4; clear PH; refine (SpoilN_lent wI wC.heap.size gN is.length (is.length + 3) (is.length + 3) _ (ownsRow_own (ownsRow_own (ownsRow_below HN.out.1 (below_seq HE.out.1 HG.out.1)) (fun q hq => HH.out.2 q (fun e => by have hq' : gN = q := Option.some.inj hq; omega))) (fun q hq => HJ.out.2 q (fun e => by have hq' : gN = q := Option.some.inj hq; omega)))).mono ?_; rintro r wJ ⟨rfl, hbJ, hkJ⟩; have HQ : Hid (Below wC.heap.size wI wJ ∧ ∀ k, k ≠ gN → wJ.heap[k]? = wI.heap[k]?) := ⟨hbJ, hkJ⟩; have hal : ∀ k, k ≠ gI → k ≠ gV → k ≠ gN → wJ.heap[k]? = wG.heap[k]? := (fun k h1 h2 h3 => (hkJ k h3).trans ((HJ.out.2 k h2).trans (HH.out.2 k h1))); obtain ⟨cd, -, ld⟩ := cells_of (l := [_, _]) ((hal wr.heap.size (by omega) (by omega) (by omega)).trans ((HG.out.2.2.block _ HT.out).trans HW.out.2)); have d0 := cd 0 _ rfl; have d1 := cd 1 _ rfl; obtain ⟨ce, -, le⟩ := cells_of (l := [_, _]) ((hal wE.heap.size (by omega) (by omega) (by omega)).trans HG.out.2.1); have e0 := ce 0 _ rfl; have e1 := ce 1 _ rfl; have HL : Hid (∀ k, k ≠ gI → k ≠ gV → k ≠ gN → wJ.heap[k]? = wG.heap[k]?) := hal; clear cd ce hbJ hkJ hal; have HRw : Hid (wJ.ownsRow w6.heap.size 45 1 (.slice none 0 0) 0 [] ∧ Below w6.heap.size w6 wJ) := ⟨(World.ownsRow_nil _ _ _ _), (((below_seq (below_seq HB.out HW.out.1) HG.out.2.2).trans (HH.out.1.mono (by have := HB.out.size; omega))).trans (HJ.out.1.mono (by have := HB.out.size; omega))).trans (HQ.out.1.mono (by have := HB.out.size; omega))⟩) | (at_builtin; refine wp_pushM rfl (.tmp 129) (.tmp 131) rfl w6.heap.size (.slice none 0 0) [] none wJ.heap.size 0 rfl rfl rfl rfl HRw.out.1 HRw.out.2.size (by omega) ?_; intro ad4 c4 wK hoK hgK hvK; have HK : Hid (wK.ownsRow w6.heap.size 45 1 (.slice ad4 1 c4) 1 ([] ++ [.pointer none]) ∧ (wJ.alloc (.cells #[.pointer none] 45)).grownBy wK (Value.slice none 0 0).ownBlock ∧ (((Value.slice ad4 1 c4).ownBlock = (Value.slice none 0 0).ownBlock) ∨ ∀ k, (Value.slice ad4 1 c4).ownBlock = some k → (wJ.alloc (.cells #[.pointer none] 45)).heap.size ≤ k)) := ⟨hoK, hgK, hvK⟩; clear hoK hgK hvK))
         go_roundw
         case rel =>
          obtain ⟨-, -, cs1, k1⟩ := own_cells (ownsRow_below HI.out.1 (below_seq HV.out.2.1 (below_seq HN.out.2.1 (below_seq HE.out.1 HG.out.1))))
          obtain ⟨-, -, cs2, k2⟩ := own_cells (ownsRow_own (ownsRow_below HV.out.1 (below_seq HN.out.2.1 (below_seq HE.out.1 HG.out.1))) (fun q hq => HH.out.2 q (fun e => by have hq' : gV = q := Option.some.inj hq; omega)))
          obtain ⟨-, -, cs3, k3⟩ := own_cells (ownsRow_own (ownsRow_own (ownsRow_below HN.out.1 (below_seq HE.out.1 HG.out.1)) (fun q hq => HH.out.2 q (fun e => by have hq' : gN = q := Option.some.inj hq; omega))) (fun q hq => HJ.out.2 q (fun e => by have hq' : gN = q := Option.some.inj hq; omega)))
          have z6 := HH.out.1.size
          have z7 := HJ.out.1.size
          have z8 := HQ.out.1.size
          have z9 := HB.out.size
          have z10 := HK.out.2.1.size
          simp only [World.size_alloc] at z10
          have hMJ : MK wD.heap.size wE.heap.size wJ l is vs (.pointer none) := ((((HE.out.2.below HG.out.1).off k1 (by decide) (.inl (by omega)) (fun q _ h => HH.out.2 q h) HH.out.1.size).off k2 (by decide) (.inl (by omega)) (fun q _ h => HJ.out.2 q h) HJ.out.1.size).off k3 (by decide) (.inl (by omega)) (fun q _ h => HQ.out.2 q h) HQ.out.1.size)
          refine .inr (.inl ⟨by go_num, .pointer none, wJ.heap.size, ⟨(HRw.out.2.alloc HRw.out.2.size _).grown HK.out.2.1 (by have := HRw.out.2.size; simp; omega) (fun k hk => by cases hk), HK.out.1, ((hMJ.mono (by omega) (by omega)).below (below_new _ _)).grown HK.out.2.1 (fun k hk => by cases hk), fun k hk => ?_, by omega, by omega⟩⟩)
          rcases HK.out.2.2 with e | e
          ·rw [e] at hk; cases hk
          ·have := e k hk; simp at this; omega
         case measure => simp [intOf]
       ·have hcb : (c == 0) = false := by simpa using hc0
        have hf : faultF l vs is = (c, k) := by unfold faultF; rw [HD.out, if_pos hc0]
        have HFt : Hid _ := hf
        clear hf
        go_wp2_with fail
        have HW : Hid (Below wr.heap.size wr (wr.alloc (.cells #[.int .i64 c, .int .i64 k] 30)) ∧ (wr.alloc (.cells #[.int .i64 c, .int .i64 k] 30)).heap[wr.heap.size]? = some (.cells #[.int .i64 c, .int .i64 k] 30 (0, 0))) := ⟨below_new _ _, heap_alloc_new _ _⟩
        try clear g0 g1 g2
        clear a0 a1 b0 la lb hz0
        generalize (wr.alloc (.cells #[.int .i64 c, .int .i64 k] 30)) = wA at *
        go_wp2_with (go_at_call 10; refine (Lend_own wA l ⟨-1, -2, -3⟩ _ _ (by omega) (HX.out.1.2.2.below (below_seq HB.out HW.out.1)) HA.out.1.2.2).mono ?_; rintro r wB ⟨gI, rfl, hoI, hbB⟩; have HI : Hid (wB.ownsRow wA.heap.size 35 3 (.slice (some ⟨gI, 0, none⟩) (l.length + 3) (l.length + 3)) (l.length + 3) (insVs l ++ marksL ⟨-1, -2, -3⟩) ∧ Below wA.heap.size wA wB ∧ Below w6.heap.size w6 wB) := ⟨hoI, hbB, below_seq (below_seq HB.out HW.out.1) hbB⟩; clear hoI hbB)
        have PH : Phase 1 := trivial
        go_wp2_with (go_at_call 11; guard_hyp PH : Phase 1; clear PH; refine (LendN_own wB vs (-9) va vc (by omega) (HX.out.2.1.1.below HI.out.2.2) HA.out.2.1.2).mono ?_; rintro r wC ⟨gV, rfl, hoV, hbC⟩; have HV : Hid (wC.ownsRow wB.heap.size 3 1 (.slice (some ⟨gV, 0, none⟩) (vs.length + 3) (vs.length + 3)) (vs.length + 3) (intVs vs ++ [.int .i64 (-9), .int .i64 (-9), .int .i64 (-9)]) ∧ Below wB.heap.size wB wC ∧ Below w6.heap.size w6 wC) := ⟨hoV, hbC, below_seq HI.out.2.2 hbC⟩; clear hoV hbC; have PH : Phase 2 := trivial)
        go_wp2_with (go_at_call 11; guard_hyp PH : Phase 2; clear PH; refine (LendN_own wC is (-9) ia nc (by omega) (HX.out.2.1.2.2.below HV.out.2.2) HA.out.2.2.2.2).mono ?_; rintro r wD ⟨gN, rfl, hoN, hbD⟩; have HN : Hid (wD.ownsRow wC.heap.size 3 1 (.slice (some ⟨gN, 0, none⟩) (is.length + 3) (is.length + 3)) (is.length + 3) (intVs is ++ [.int .i64 (-9), .int .i64 (-9), .int .i64 (-9)]) ∧ Below wC.heap.size wC wD ∧ Below w6.heap.size w6 wD) := ⟨hoN, hbD, below_seq HV.out.2.2 hbD⟩; clear hoN hbD)
        go_wp2_with (go_at_call 18; refine (New_is wD l _ _ _ _ _ _ vs is (HX.out.1.1.below HN.out.2.2) (InSl.lent (ownsRow_below HI.out.1 (below_seq HV.out.2.1 HN.out.2.1))) (fun e => by cases e) (IntSl.lent (ownsRow_below HV.out.1 HN.out.2.1)) (IntSl.lent HN.out.1)).mono ?_; rintro r wE ⟨hbE, hcs⟩; rw [HFt.out] at hcs; have hr : r = .returned (.tuple #[.pointer none, .agg #[.int .i64 c, .int .i64 k]]) := (by rcases hcs with ⟨-, h⟩ | ⟨e, -⟩; exact h; exact absurd e (by intro e; exact hc0 (congrArg Prod.fst e))); subst hr; have HE : Hid (Below wD.heap.size wD wE ∧ MK wD.heap.size wE.heap.size wE l is vs (.pointer none)) := ⟨hbE, .inl ⟨by rw [HFt.out]; exact hc0, rfl⟩⟩; clear hbE hcs)
        have HT : Hid (wr.heap.size < wA.heap.size) := (Array.getElem?_eq_some_iff.1 HW.out.2).1
        have HG : Hid (Below wE.heap.size wE (wE.alloc (.cells #[.int .i64 c, .int .i64 k] 30)) ∧ (wE.alloc (.cells #[.int .i64 c, .int .i64 k] 30)).heap[wE.heap.size]? = some (.cells #[.int .i64 c, .int .i64 k] 30 (0, 0)) ∧ Below wA.heap.size wA (wE.alloc (.cells #[.int .i64 c, .int .i64 k] 30))) := ⟨below_new _ _, heap_alloc_new _ _, below_seq HI.out.2.1 (below_seq HV.out.2.1 (below_seq HN.out.2.1 (below_seq HE.out.1 (below_new _ _))))⟩
        generalize (wE.alloc (.cells #[.int .i64 c, .int .i64 k] 30)) = wG at *
        go_wp2_with (go_at_call 25; refine (SpoilI_own wG wA.heap.size gI l.length (l.length + 3) (l.length + 3) _ (ownsRow_below HI.out.1 (below_seq HV.out.2.1 (below_seq HN.out.2.1 (below_seq HE.out.1 HG.out.1))))).mono ?_; rintro r wH ⟨rfl, hbH, hkH⟩; have HH : Hid (Below wA.heap.size wG wH ∧ ∀ k, k ≠ gI → wH.heap[k]? = wG.heap[k]?) := ⟨hbH, hkH⟩; clear hbH hkH)
        have PH : Phase 3 := trivial
        have HS : Hid ((wA.heap.size ≤ gI ∧ gI < wB.heap.size) ∧ (wB.heap.size ≤ gV ∧ gV < wC.heap.size) ∧ (wC.heap.size ≤ gN ∧ gN < wD.heap.size)) := ⟨⟨(own_cells HI.out.1).1, (own_cells HI.out.1).2.1⟩, ⟨(own_cells HV.out.1).1, (own_cells HV.out.1).2.1⟩, ⟨(own_cells HN.out.1).1, (own_cells HN.out.1).2.1⟩⟩
        obtain ⟨⟨si1, si2⟩, ⟨sv1, sv2⟩, ⟨sn1, sn2⟩⟩ := HS.out
        have z1 := HI.out.2.1.size
        have z2 := HV.out.2.1.size
        have z3 := HN.out.2.1.size
        have z4 := HE.out.1.size
        have z5 := HG.out.1.size
        have z0 := HT.out
        go_wp2_with (go_at_call 16; guard_hyp PH : Phase 3; clear PH; refine (SpoilN_lent wH wB.heap.size gV vs.length (vs.length + 3) (vs.length + 3) _ (ownsRow_own (ownsRow_below HV.out.1 (below_seq HN.out.2.1 (below_seq HE.out.1 HG.out.1))) (fun q hq => HH.out.2 q (fun e => by have hq' : gV = q := Option.some.inj hq; omega)))).mono ?_; rintro r wI ⟨rfl, hbI, hkI⟩; have HJ : Hid (Below wB.heap.size wH wI ∧ ∀ k, k ≠ gV → wI.heap[k]? = wH.heap[k]?) := ⟨hbI, hkI⟩; clear hbI hkI; have PH : Phase 4 := trivial)
        go_wp2_with (first | (go_at_call 16; guard_hyp PH : Phase 4; clear PH; refine (SpoilN_lent wI wC.heap.size gN is.length (is.length + 3) (is.length + 3) _ (ownsRow_own (ownsRow_own (ownsRow_below HN.out.1 (below_seq HE.out.1 HG.out.1)) (fun q hq => HH.out.2 q (fun e => by have hq' : gN = q := Option.some.inj hq; omega))) (fun q hq => HJ.out.2 q (fun e => by have hq' : gN = q := Option.some.inj hq; omega)))).mono ?_; rintro r wJ ⟨rfl, hbJ, hkJ⟩; have HQ : Hid (Below wC.heap.size wI wJ ∧ ∀ k, k ≠ gN → wJ.heap[k]? = wI.heap[k]?) := ⟨hbJ, hkJ⟩; have hal : ∀ k, k ≠ gI → k ≠ gV → k ≠ gN → wJ.heap[k]? = wG.heap[k]? := (fun k h1 h2 h3 => (hkJ k h3).trans ((HJ.out.2 k h2).trans (HH.out.2 k h1))); obtain ⟨cd, -, ld⟩ := cells_of (l := [_, _]) ((hal wr.heap.size (by omega) (by omega) (by omega)).trans ((HG.out.2.2.block _ HT.out).trans HW.out.2)); have d0 := cd 0 _ rfl; have d1 := cd 1 _ rfl; obtain ⟨ce, -, le⟩ := cells_of (l := [_, _]) ((hal wE.heap.size (by omega) (by omega) (by omega)).trans HG.out.2.1); have e0 := ce 0 _ rfl; have e1 := ce 1 _ rfl; have HL : Hid (∀ k, k ≠ gI → k ≠ gV → k ≠ gN → wJ.heap[k]? = wG.heap[k]?) := hal; clear cd ce hbJ hkJ hal; have HRw : Hid (wJ.ownsRow w6.heap.size 45 1 (.slice none 0 0) 0 [] ∧ Below w6.heap.size w6 wJ) := ⟨(World.ownsRow_nil _ _ _ _), (((below_seq (below_seq HB.out HW.out.1) HG.out.2.2).trans (HH.out.1.mono (by have := HB.out.size; omega))).trans (HJ.out.1.mono (by have := HB.out.size; omega))).trans (HQ.out.1.mono (by have := HB.out.size; omega))⟩) | (at_builtin; refine wp_pushM rfl (.tmp 129) (.tmp 131) rfl w6.heap.size (.slice none 0 0) [] none wJ.heap.size 0 rfl rfl rfl rfl HRw.out.1 HRw.out.2.size (by omega) ?_; intro ad4 c4 wK hoK hgK hvK; have HK : Hid (wK.ownsRow w6.heap.size 45 1 (.slice ad4 1 c4) 1 ([] ++ [.pointer none]) ∧ (wJ.alloc (.cells #[.pointer none] 45)).grownBy wK (Value.slice none 0 0).ownBlock ∧ (((Value.slice ad4 1 c4).ownBlock = (Value.slice none 0 0).ownBlock) ∨ ∀ k, (Value.slice ad4 1 c4).ownBlock = some k → (wJ.alloc (.cells #[.pointer none] 45)).heap.size ≤ k)) := ⟨hoK, hgK, hvK⟩; clear hoK hgK hvK))
        go_roundw
        case rel =>
         obtain ⟨-, -, cs1, k1⟩ := own_cells (ownsRow_below HI.out.1 (below_seq HV.out.2.1 (below_seq HN.out.2.1 (below_seq HE.out.1 HG.out.1))))
         obtain ⟨-, -, cs2, k2⟩ := own_cells (ownsRow_own (ownsRow_below HV.out.1 (below_seq HN.out.2.1 (below_seq HE.out.1 HG.out.1))) (fun q hq => HH.out.2 q (fun e => by have hq' : gV = q := Option.some.inj hq; omega)))
         obtain ⟨-, -, cs3, k3⟩ := own_cells (ownsRow_own (ownsRow_own (ownsRow_below HN.out.1 (below_seq HE.out.1 HG.out.1)) (fun q hq => HH.out.2 q (fun e => by have hq' : gN = q := Option.some.inj hq; omega))) (fun q hq => HJ.out.2 q (fun e => by have hq' : gN = q := Option.some.inj hq; omega)))
         have z6 := HH.out.1.size
         have z7 := HJ.out.1.size
         have z8 := HQ.out.1.size
         have z9 := HB.out.size
         have z10 := HK.out.2.1.size
         simp only [World.size_alloc] at z10
         have hMJ : MK wD.heap.size wE.heap.size wJ l is vs (.pointer none) := ((((HE.out.2.below HG.out.1).off k1 (by decide) (.inl (by omega)) (fun q _ h => HH.out.2 q h) HH.out.1.size).off k2 (by decide) (.inl (by omega)) (fun q _ h => HJ.out.2 q h) HJ.out.1.size).off k3 (by decide) (.inl (by omega)) (fun q _ h => HQ.out.2 q h) HQ.out.1.size)
         refine .inr (.inl ⟨by go_num, .pointer none, wJ.heap.size, ⟨(HRw.out.2.alloc HRw.out.2.size _).grown HK.out.2.1 (by have := HRw.out.2.size; simp; omega) (fun k hk => by cases hk), HK.out.1, ((hMJ.mono (by omega) (by omega)).below (below_new _ _)).grown HK.out.2.1 (fun k hk => by cases hk), fun k hk => ?_, by omega, by omega⟩⟩)
         rcases HK.out.2.2 with e | e
         ·rw [e] at hk; cases hk
         ·have := e k hk; simp at this; omega
        case measure => simp [intOf]
      ·have LI : Hid (LI1 w6 wr l is vs _ p0 hi0) := hLI
       clear hLI
       have HB : Hid (Below w6.heap.size w6 wr) := LI.out.bel
       obtain ⟨xa, xc, hxx⟩ := owns_value LI.out.row
       subst hxx
       obtain ⟨rb, hrb⟩ := own_some LI.out.row
       subst hrb
       obtain ⟨ca, -, la⟩ := cells_of (l := [_, _]) ((HB.out.block g16 (Array.getElem?_eq_some_iff.1 HX.out.2.2.1).1).trans HX.out.2.2.1)
       have a0 := ca 0 _ rfl
       have a1 := ca 1 _ rfl
       obtain ⟨cb, -, lb⟩ := cells_of (l := [_, _]) ((HB.out.block (g16 + 1) (Array.getElem?_eq_some_iff.1 HX.out.2.2.2).1).trans HX.out.2.2.2)
       have b0 := cb 1 _ rfl
       clear ca cb
       obtain ⟨g0, g1, g2⟩ := HX.out.1.2.1.below HB.out
       have hz0 : 0 < wr.heap.size := World.block_lt_of_cell? _ _ g0
       by_cases hc0 : c = 0
       ·subst hc0
        have hk0 := docI_zero HD.out
        subst hk0
        by_cases h8 : os.length = 8
        ·have e8 : ((os.length : Int) != 8) = false := by simp; omega
         by_cases h4 : is.length = 4
         ·have e4 : ((is.length : Int) != 4) = false := by simp; omega
          have hf : faultF l os is = (0, 0) := by unfold faultF; rw [HD.out, if_neg (by simp), if_neg (by omega)]
          have HFt : Hid _ := hf
          clear hf
          have H8 : Hid (os.length = 8 ∧ is.length = 4) := ⟨h8, h4⟩
          clear h8 h4
          go_wp2_with fail
          have HW : Hid (Below wr.heap.size wr (wr.alloc (.cells #[.int .i64 0, .int .i64 0] 30)) ∧ (wr.alloc (.cells #[.int .i64 0, .int .i64 0] 30)).heap[wr.heap.size]? = some (.cells #[.int .i64 0, .int .i64 0] 30 (0, 0))) := ⟨below_new _ _, heap_alloc_new _ _⟩
          try clear g0 g1 g2
          clear a0 a1 b0 la lb hz0
          generalize (wr.alloc (.cells #[.int .i64 0, .int .i64 0] 30)) = wA at *
          go_wp2_with (go_at_call 10; refine (Lend_own wA l ⟨-1, -2, -3⟩ _ _ (by omega) (HX.out.1.2.2.below (below_seq HB.out HW.out.1)) HA.out.1.2.2).mono ?_; rintro r wB ⟨gI, rfl, hoI, hbB⟩; have HI : Hid (wB.ownsRow wA.heap.size 35 3 (.slice (some ⟨gI, 0, none⟩) (l.length + 3) (l.length + 3)) (l.length + 3) (insVs l ++ marksL ⟨-1, -2, -3⟩) ∧ Below wA.heap.size wA wB ∧ Below w6.heap.size w6 wB) := ⟨hoI, hbB, below_seq (below_seq HB.out HW.out.1) hbB⟩; clear hoI hbB)
          have PH : Phase 1 := trivial
          go_wp2_with (go_at_call 11; guard_hyp PH : Phase 1; clear PH; refine (LendN_own wB os (-9) oa oc (by omega) (HX.out.2.1.2.1.below HI.out.2.2) HA.out.2.2.1.2).mono ?_; rintro r wC ⟨gV, rfl, hoV, hbC⟩; have HV : Hid (wC.ownsRow wB.heap.size 3 1 (.slice (some ⟨gV, 0, none⟩) (os.length + 3) (os.length + 3)) (os.length + 3) (intVs os ++ [.int .i64 (-9), .int .i64 (-9), .int .i64 (-9)]) ∧ Below wB.heap.size wB wC ∧ Below w6.heap.size w6 wC) := ⟨hoV, hbC, below_seq HI.out.2.2 hbC⟩; clear hoV hbC; have PH : Phase 2 := trivial)
          go_wp2_with (go_at_call 11; guard_hyp PH : Phase 2; clear PH; refine (LendN_own wC is (-9) ia nc (by omega) (HX.out.2.1.2.2.below HV.out.2.2) HA.out.2.2.2.2).mono ?_; rintro r wD ⟨gN, rfl, hoN, hbD⟩; have HN : Hid (wD.ownsRow wC.heap.size 3 1 (.slice (some ⟨gN, 0, none⟩) (is.length + 3) (is.length + 3)) (is.length + 3) (intVs is ++ [.int .i64 (-9), .int .i64 (-9), .int .i64 (-9)]) ∧ Below wC.heap.size wC wD ∧ Below w6.heap.size w6 wD) := ⟨hoN, hbD, below_seq HV.out.2.2 hbD⟩; clear hoN hbD)
          go_wp2_with (go_at_call 18; refine (New_is wD l _ _ _ _ _ _ os is (HX.out.1.1.below HN.out.2.2) (InSl.lent (ownsRow_below HI.out.1 (below_seq HV.out.2.1 HN.out.2.1))) (fun e => by cases e) (IntSl.lent (ownsRow_below HV.out.1 HN.out.2.1)) (IntSl.lent HN.out.1)).mono ?_; rintro r wE ⟨hbE, hcs⟩; rw [HFt.out] at hcs; obtain ⟨mbN, hr, HM⟩ : ∃ mbN, r = .returned (.tuple #[.pointer (some ⟨mbN, 0, none⟩), .agg #[.int .i64 0, .int .i64 0]]) ∧ Hid (MK wD.heap.size wE.heap.size wE l is os (.pointer (some ⟨mbN, 0, none⟩))) := (by rcases hcs with ⟨h, -⟩ | ⟨-, hd, mb, iv, ov, h1, h2, h3, h4⟩; exact absurd rfl h; exact ⟨mb, h1, .inr ⟨mb, iv, ov, rfl, h2, h3.lt, hd, h3, h4⟩⟩); subst hr; have HE : Hid (Below wD.heap.size wD wE ∧ MK wD.heap.size wE.heap.size wE l is os (.pointer (some ⟨mbN, 0, none⟩))) := ⟨hbE, HM.out⟩; clear hbE hcs HM)
          have HT : Hid (wr.heap.size < wA.heap.size) := (Array.getElem?_eq_some_iff.1 HW.out.2).1
          have HG : Hid (Below wE.heap.size wE (wE.alloc (.cells #[.int .i64 0, .int .i64 0] 30)) ∧ (wE.alloc (.cells #[.int .i64 0, .int .i64 0] 30)).heap[wE.heap.size]? = some (.cells #[.int .i64 0, .int .i64 0] 30 (0, 0)) ∧ Below wA.heap.size wA (wE.alloc (.cells #[.int .i64 0, .int .i64 0] 30))) := ⟨below_new _ _, heap_alloc_new _ _, below_seq HI.out.2.1 (below_seq HV.out.2.1 (below_seq HN.out.2.1 (below_seq HE.out.1 (below_new _ _))))⟩
          generalize (wE.alloc (.cells #[.int .i64 0, .int .i64 0] 30)) = wG at *
          go_wp2_with (go_at_call 25; refine (SpoilI_own wG wA.heap.size gI l.length (l.length + 3) (l.length + 3) _ (ownsRow_below HI.out.1 (below_seq HV.out.2.1 (below_seq HN.out.2.1 (below_seq HE.out.1 HG.out.1))))).mono ?_; rintro r wH ⟨rfl, hbH, hkH⟩; have HH : Hid (Below wA.heap.size wG wH ∧ ∀ k, k ≠ gI → wH.heap[k]? = wG.heap[k]?) := ⟨hbH, hkH⟩; clear hbH hkH)
          have PH : Phase 3 := trivial
          have HS : Hid ((wA.heap.size ≤ gI ∧ gI < wB.heap.size) ∧ (wB.heap.size ≤ gV ∧ gV < wC.heap.size) ∧ (wC.heap.size ≤ gN ∧ gN < wD.heap.size)) := ⟨⟨(own_cells HI.out.1).1, (own_cells HI.out.1).2.1⟩, ⟨(own_cells HV.out.1).1, (own_cells HV.out.1).2.1⟩, ⟨(own_cells HN.out.1).1, (own_cells HN.out.1).2.1⟩⟩
          obtain ⟨⟨si1, si2⟩, ⟨sv1, sv2⟩, ⟨sn1, sn2⟩⟩ := HS.out
          have z1 := HI.out.2.1.size
          have z2 := HV.out.2.1.size
          have z3 := HN.out.2.1.size
          have z4 := HE.out.1.size
          have z5 := HG.out.1.size
          have z0 := HT.out
          go_wp2_with (go_at_call 16; guard_hyp PH : Phase 3; clear PH; refine (SpoilN_lent wH wB.heap.size gV os.length (os.length + 3) (os.length + 3) _ (ownsRow_own (ownsRow_below HV.out.1 (below_seq HN.out.2.1 (below_seq HE.out.1 HG.out.1))) (fun q hq => HH.out.2 q (fun e => by have hq' : gV = q := Option.some.inj hq; omega)))).mono ?_; rintro r wI ⟨rfl, hbI, hkI⟩; have HJ : Hid (Below wB.heap.size wH wI ∧ ∀ k, k ≠ gV → wI.heap[k]? = wH.heap[k]?) := ⟨hbI, hkI⟩; clear hbI hkI; have PH : Phase 4 := trivial)
          go_wp2_with (first | (go_at_call 16; guard_hyp PH : Phase 4; clear PH; refine (SpoilN_lent wI wC.heap.size gN is.length (is.length + 3) (is.length + 3) _ (ownsRow_own (ownsRow_own (ownsRow_below HN.out.1 (below_seq HE.out.1 HG.out.1)) (fun q hq => HH.out.2 q (fun e => by have hq' : gN = q := Option.some.inj hq; omega))) (fun q hq => HJ.out.2 q (fun e => by have hq' : gN = q := Option.some.inj hq; omega)))).mono ?_; rintro r wJ ⟨rfl, hbJ, hkJ⟩; have HQ : Hid (Below wC.heap.size wI wJ ∧ ∀ k, k ≠ gN → wJ.heap[k]? = wI.heap[k]?) := ⟨hbJ, hkJ⟩; have hal : ∀ k, k ≠ gI → k ≠ gV → k ≠ gN → wJ.heap[k]? = wG.heap[k]? := (fun k h1 h2 h3 => (hkJ k h3).trans ((HJ.out.2 k h2).trans (HH.out.2 k h1))); obtain ⟨cd, -, ld⟩ := cells_of (l := [_, _]) ((hal wr.heap.size (by omega) (by omega) (by omega)).trans ((HG.out.2.2.block _ HT.out).trans HW.out.2)); have d0 := cd 0 _ rfl; have d1 := cd 1 _ rfl; obtain ⟨ce, -, le⟩ := cells_of (l := [_, _]) ((hal wE.heap.size (by omega) (by omega) (by omega)).trans HG.out.2.1); have e0 := ce 0 _ rfl; have e1 := ce 1 _ rfl; have HL : Hid (∀ k, k ≠ gI → k ≠ gV → k ≠ gN → wJ.heap[k]? = wG.heap[k]?) := hal; clear cd ce hbJ hkJ hal; have HRw : Hid (wJ.ownsRow w6.heap.size 45 1 (.slice (some ⟨rb, 0, none⟩) 1 xc) 1 [p0] ∧ Below w6.heap.size w6 wJ) := ⟨(ownsRow_own (ownsRow_below LI.out.row (below_seq HW.out.1 HG.out.2.2)) (fun q hq => HL.out q (by have := (LI.out.row.lt q hq).2; omega) (by have := (LI.out.row.lt q hq).2; omega) (by have := (LI.out.row.lt q hq).2; omega))), (((below_seq (below_seq HB.out HW.out.1) HG.out.2.2).trans (HH.out.1.mono (by have := HB.out.size; omega))).trans (HJ.out.1.mono (by have := HB.out.size; omega))).trans (HQ.out.1.mono (by have := HB.out.size; omega))⟩) | (at_builtin; refine wp_pushM rfl (.tmp 129) (.tmp 131) rfl w6.heap.size (.slice (some ⟨rb, 0, none⟩) 1 xc) [p0] (some ⟨mbN, 0, none⟩) wJ.heap.size 1 rfl rfl rfl rfl HRw.out.1 HRw.out.2.size (by omega) ?_; intro ad4 c4 wK hoK hgK hvK; have HK : Hid (wK.ownsRow w6.heap.size 45 1 (.slice ad4 2 c4) 2 ([p0] ++ [.pointer (some ⟨mbN, 0, none⟩)]) ∧ (wJ.alloc (.cells #[.pointer (some ⟨mbN, 0, none⟩)] 45)).grownBy wK (Value.slice (some ⟨rb, 0, none⟩) 1 xc).ownBlock ∧ (((Value.slice ad4 2 c4).ownBlock = (Value.slice (some ⟨rb, 0, none⟩) 1 xc).ownBlock) ∨ ∀ k, (Value.slice ad4 2 c4).ownBlock = some k → (wJ.alloc (.cells #[.pointer (some ⟨mbN, 0, none⟩)] 45)).heap.size ≤ k)) := ⟨hoK, hgK, hvK⟩; clear hoK hgK hvK))
          go_roundw
          case rel =>
           obtain ⟨-, -, cs1, k1⟩ := own_cells (ownsRow_below HI.out.1 (below_seq HV.out.2.1 (below_seq HN.out.2.1 (below_seq HE.out.1 HG.out.1))))
           obtain ⟨-, -, cs2, k2⟩ := own_cells (ownsRow_own (ownsRow_below HV.out.1 (below_seq HN.out.2.1 (below_seq HE.out.1 HG.out.1))) (fun q hq => HH.out.2 q (fun e => by have hq' : gV = q := Option.some.inj hq; omega)))
           obtain ⟨-, -, cs3, k3⟩ := own_cells (ownsRow_own (ownsRow_own (ownsRow_below HN.out.1 (below_seq HE.out.1 HG.out.1)) (fun q hq => HH.out.2 q (fun e => by have hq' : gN = q := Option.some.inj hq; omega))) (fun q hq => HJ.out.2 q (fun e => by have hq' : gN = q := Option.some.inj hq; omega)))
           have z6 := HH.out.1.size
           have z7 := HJ.out.1.size
           have z8 := HQ.out.1.size
           have z9 := HB.out.size
           have z10 := HK.out.2.1.size
           simp only [World.size_alloc] at z10
           have hMJ : MK wD.heap.size wE.heap.size wJ l is os (.pointer (some ⟨mbN, 0, none⟩)) := ((((HE.out.2.below HG.out.1).off k1 (by decide) (.inl (by omega)) (fun q _ h => HH.out.2 q h) HH.out.1.size).off k2 (by decide) (.inl (by omega)) (fun q _ h => HJ.out.2 q h) HJ.out.1.size).off k3 (by decide) (.inl (by omega)) (fun q _ h => HQ.out.2 q h) HQ.out.1.size)
           have h0 := LI.out.le
           have hM0 : MK w6.heap.size hi0 wJ l is vs p0 := ((((LI.out.mk0.below (below_seq HW.out.1 HG.out.2.2)).off k1 (by decide) (.inr (by omega)) (fun q _ h => HH.out.2 q h) HH.out.1.size).off k2 (by decide) (.inr (by omega)) (fun q _ h => HJ.out.2 q h) HJ.out.1.size).off k3 (by decide) (.inr (by omega)) (fun q _ h => HQ.out.2 q h) HQ.out.1.size)
           obtain ⟨b1, b2, cs4, k4⟩ := own_cells HRw.out.1
           have u1 := LI.out.up rb rfl
           have u2 := (LI.out.row.lt rb rfl).2
           have k5 := (Below.heap_alloc wJ (.cells #[.pointer (some ⟨mbN, 0, none⟩)] 45) _ b2).trans k4
           have hbl : ∀ q, q < (wJ.alloc (.cells #[.pointer (some ⟨mbN, 0, none⟩)] 45)).heap.size → q ≠ rb → wK.heap[q]? = (wJ.alloc (.cells #[.pointer (some ⟨mbN, 0, none⟩)] 45)).heap[q]? := fun q hq hne => HK.out.2.1.block q hq (fun e => hne (Option.some.inj e))
           exact .inr (.inr ⟨by go_num, p0, .pointer (some ⟨mbN, 0, none⟩), hi0, wJ.heap.size, ⟨(HRw.out.2.alloc HRw.out.2.size _).grown HK.out.2.1 (by have := HRw.out.2.size; simp; omega) (fun k hk => by have hq' : rb = k := Option.some.inj hk; omega), HK.out.1, (hM0.below (below_new _ _)).off k5 (by decide) (.inr u1) hbl HK.out.2.1.size, ((hMJ.below (below_new _ _)).off k5 (by decide) (.inl (by omega)) hbl HK.out.2.1.size).mono (by omega) (by omega), by omega, LI.out.lo⟩⟩)
          case measure => simp [intOf]
         ·have e4 : ((is.length : Int) != 4) = true := by simp; omega
          have hf : faultF l os is = (3, 0) := by unfold faultF; rw [HD.out, if_neg (by simp), if_pos (by omega)]
          have HFt : Hid _ := hf
          clear hf
          clear h8
          try clear h4
          go_wp2_with (go_at_call 24; refine (F_any 3 0 _).mono ?_; rintro r wF ⟨rfl, hbF⟩; have HFw : Hid (Below wr.heap.size wr wF ∧ wF.heap[wr.heap.size]? = some (.cells #[.int .i64 0, .int .i64 0] 30 (0, 0))) := ⟨below_seq (below_new _ _) hbF, (hbF.block _ (by simp)).trans (heap_alloc_new _ _)⟩; obtain ⟨cf, ff, lf⟩ := cells_of (l := [_, _]) HFw.out.2; have cf0 := cf 0 _ rfl; have cf1 := cf 1 _ rfl; have g0' := below_cell HFw.out.1 g0; have g1' := below_cell HFw.out.1 g1; have g2' := below_cell HFw.out.1 g2; have hnz : ¬ wr.heap.size = 0 := (by omega); have hnz' : ¬ 0 = wr.heap.size := (by omega); clear cf hbF g0 g1 g2)
          have HW : Hid (Below wr.heap.size wr ((wF.setCell ⟨wr.heap.size, 0, none⟩ (.int .i64 3)).setCell ⟨wr.heap.size, 1, none⟩ (.int .i64 0)) ∧ ((wF.setCell ⟨wr.heap.size, 0, none⟩ (.int .i64 3)).setCell ⟨wr.heap.size, 1, none⟩ (.int .i64 0)).heap[wr.heap.size]? = some (.cells #[.int .i64 3, .int .i64 0] 30 (0, 0))) := ⟨(HFw.out.1.setCell (Nat.le_refl _) _).setCell (Nat.le_refl _) _, by simpa using setCell_at (i := 1) (u := .int .i64 0) (setCell_at (i := 0) (u := .int .i64 3) HFw.out.2)⟩
          clear cf0 cf1 ff lf g0' g1' g2' hnz hnz' HFw
          try clear g0 g1 g2
          clear a0 a1 b0 la lb hz0
          generalize ((wF.setCell ⟨wr.heap.size, 0, none⟩ (.int .i64 3)).setCell ⟨wr.heap.size, 1, none⟩ (.int .i64 0)) = wA at *
          go_wp2_with (go_at_call 10; refine (Lend_own wA l ⟨-1, -2, -3⟩ _ _ (by omega) (HX.out.1.2.2.below (below_seq HB.out HW.out.1)) HA.out.1.2.2).mono ?_; rintro r wB ⟨gI, rfl, hoI, hbB⟩; have HI : Hid (wB.ownsRow wA.heap.size 35 3 (.slice (some ⟨gI, 0, none⟩) (l.length + 3) (l.length + 3)) (l.length + 3) (insVs l ++ marksL ⟨-1, -2, -3⟩) ∧ Below wA.heap.size wA wB ∧ Below w6.heap.size w6 wB) := ⟨hoI, hbB, below_seq (below_seq HB.out HW.out.1) hbB⟩; clear hoI hbB)
          have PH : Phase 1 := trivial
          go_wp2_with (go_at_call 11; guard_hyp PH : Phase 1; clear PH; refine (LendN_own wB os (-9) oa oc (by omega) (HX.out.2.1.2.1.below HI.out.2.2) HA.out.2.2.1.2).mono ?_; rintro r wC ⟨gV, rfl, hoV, hbC⟩; have HV : Hid (wC.ownsRow wB.heap.size 3 1 (.slice (some ⟨gV, 0, none⟩) (os.length + 3) (os.length + 3)) (os.length + 3) (intVs os ++ [.int .i64 (-9), .int .i64 (-9), .int .i64 (-9)]) ∧ Below wB.heap.size wB wC ∧ Below w6.heap.size w6 wC) := ⟨hoV, hbC, below_seq HI.out.2.2 hbC⟩; clear hoV hbC; have PH : Phase 2 := trivial)
          go_wp2_with (go_at_call 11; guard_hyp PH : Phase 2; clear PH; refine (LendN_own wC is (-9) ia nc (by omega) (HX.out.2.1.2.2.below HV.out.2.2) HA.out.2.2.2.2).mono ?_; rintro r wD ⟨gN, rfl, hoN, hbD⟩; have HN : Hid (wD.ownsRow wC.heap.size 3 1 (.slice (some ⟨gN, 0, none⟩) (is.length + 3) (is.length + 3)) (is.length + 3) (intVs is ++ [.int .i64 (-9), .int .i64 (-9), .int .i64 (-9)]) ∧ Below wC.heap.size wC wD ∧ Below w6.heap.size w6 wD) := ⟨hoN, hbD, below_seq HV.out.2.2 hbD⟩; clear hoN hbD)
          go_wp2_with (go_at_call 18; refine (New_is wD l _ _ _ _ _ _ os is (HX.out.1.1.below HN.out.2.2) (InSl.lent (ownsRow_below HI.out.1 (below_seq HV.out.2.1 HN.out.2.1))) (fun e => by cases e) (IntSl.lent (ownsRow_below HV.out.1 HN.out.2.1)) (IntSl.lent HN.out.1)).mono ?_; rintro r wE ⟨hbE, hcs⟩; rw [HFt.out] at hcs; have hr : r = .returned (.tuple #[.pointer none, .agg #[.int .i64 3, .int .i64 0]]) := (by rcases hcs with ⟨-, h⟩ | ⟨e, -⟩; exact h; exact absurd e (by simp)); subst hr; have HE : Hid (Below wD.heap.size wD wE ∧ MK wD.heap.size wE.heap.size wE l is os (.pointer none)) := ⟨hbE, .inl ⟨by rw [HFt.out]; simp, rfl⟩⟩; clear hbE hcs)
          have HT : Hid (wr.heap.size < wA.heap.size) := (Array.getElem?_eq_some_iff.1 HW.out.2).1
          have HG : Hid (Below wE.heap.size wE (wE.alloc (.cells #[.int .i64 3, .int .i64 0] 30)) ∧ (wE.alloc (.cells #[.int .i64 3, .int .i64 0] 30)).heap[wE.heap.size]? = some (.cells #[.int .i64 3, .int .i64 0] 30 (0, 0)) ∧ Below wA.heap.size wA (wE.alloc (.cells #[.int .i64 3, .int .i64 0] 30))) := ⟨below_new _ _, heap_alloc_new _ _, below_seq HI.out.2.1 (below_seq HV.out.2.1 (below_seq HN.out.2.1 (below_seq HE.out.1 (below_new _ _))))⟩
          generalize (wE.alloc (.cells #[.int .i64 3, .int .i64 0] 30)) = wG at *
          go_wp2_with (go_at_call 25; refine (SpoilI_own wG wA.heap.size gI l.length (l.length + 3) (l.length + 3) _ (ownsRow_below HI.out.1 (below_seq HV.out.2.1 (below_seq HN.out.2.1 (below_seq HE.out.1 HG.out.1))))).mono ?_; rintro r wH ⟨rfl, hbH, hkH⟩; have HH : Hid (Below wA.heap.size wG wH ∧ ∀ k, k ≠ gI → wH.heap[k]? = wG.heap[k]?) := ⟨hbH, hkH⟩; clear hbH hkH)
          have PH : Phase 3 := trivial
          have HS : Hid ((wA.heap.size ≤ gI ∧ gI < wB.heap.size) ∧ (wB.heap.size ≤ gV ∧ gV < wC.heap.size) ∧ (wC.heap.size ≤ gN ∧ gN < wD.heap.size)) := ⟨⟨(own_cells HI.out.1).1, (own_cells HI.out.1).2.1⟩, ⟨(own_cells HV.out.1).1, (own_cells HV.out.1).2.1⟩, ⟨(own_cells HN.out.1).1, (own_cells HN.out.1).2.1⟩⟩
          obtain ⟨⟨si1, si2⟩, ⟨sv1, sv2⟩, ⟨sn1, sn2⟩⟩ := HS.out
          have z1 := HI.out.2.1.size
          have z2 := HV.out.2.1.size
          have z3 := HN.out.2.1.size
          have z4 := HE.out.1.size
          have z5 := HG.out.1.size
          have z0 := HT.out
          go_wp2_with (go_at_call 16; guard_hyp PH : Phase 3; clear PH; refine (SpoilN_lent wH wB.heap.size gV os.length (os.length + 3) (os.length + 3) _ (ownsRow_own (ownsRow_below HV.out.1 (below_seq HN.out.2.1 (below_seq HE.out.1 HG.out.1))) (fun q hq => HH.out.2 q (fun e => by have hq' : gV = q := Option.some.inj hq; omega)))).mono ?_; rintro r wI ⟨rfl, hbI, hkI⟩; have HJ : Hid (Below wB.heap.size wH wI ∧ ∀ k, k ≠ gV → wI.heap[k]? = wH.heap[k]?) := ⟨hbI, hkI⟩; clear hbI hkI; have PH : Phase 4 := trivial)
          go_wp2_with (first | (go_at_call 16; guard_hyp PH : Phase 4; clear PH; refine (SpoilN_lent wI wC.heap.size gN is.length (is.length + 3) (is.length + 3) _ (ownsRow_own (ownsRow_own (ownsRow_below HN.out.1 (below_seq HE.out.1 HG.out.1)) (fun q hq => HH.out.2 q (fun e => by have hq' : gN = q := Option.some.inj hq; omega))) (fun q hq => HJ.out.2 q (fun e => by have hq' : gN = q := Option.some.inj hq; omega)))).mono ?_; rintro r wJ ⟨rfl, hbJ, hkJ⟩; have HQ : Hid (Below wC.heap.size wI wJ ∧ ∀ k, k ≠ gN → wJ.heap[k]? = wI.heap[k]?) := ⟨hbJ, hkJ⟩; have hal : ∀ k, k ≠ gI → k ≠ gV → k ≠ gN → wJ.heap[k]? = wG.heap[k]? := (fun k h1 h2 h3 => (hkJ k h3).trans ((HJ.out.2 k h2).trans (HH.out.2 k h1))); obtain ⟨cd, -, ld⟩ := cells_of (l := [_, _]) ((hal wr.heap.size (by omega) (by omega) (by omega)).trans ((HG.out.2.2.block _ HT.out).trans HW.out.2)); have d0 := cd 0 _ rfl; have d1 := cd 1 _ rfl; obtain ⟨ce, -, le⟩ := cells_of (l := [_, _]) ((hal wE.heap.size (by omega) (by omega) (by omega)).trans HG.out.2.1); have e0 := ce 0 _ rfl; have e1 := ce 1 _ rfl; have HL : Hid (∀ k, k ≠ gI → k ≠ gV → k ≠ gN → wJ.heap[k]? = wG.heap[k]?) := hal; clear cd ce hbJ hkJ hal; have HRw : Hid (wJ.ownsRow w6.heap.size 45 1 (.slice (some ⟨rb, 0, none⟩) 1 xc) 1 [p0] ∧ Below w6.heap.size w6 wJ) := ⟨(ownsRow_own (ownsRow_below LI.out.row (below_seq HW.out.1 HG.out.2.2)) (fun q hq => HL.out q (by have := (LI.out.row.lt q hq).2; omega) (by have := (LI.out.row.lt q hq).2; omega) (by have := (LI.out.row.lt q hq).2; omega))), (((below_seq (below_seq HB.out HW.out.1) HG.out.2.2).trans (HH.out.1.mono (by have := HB.out.size; omega))).trans (HJ.out.1.mono (by have := HB.out.size; omega))).trans (HQ.out.1.mono (by have := HB.out.size; omega))⟩) | (at_builtin; refine wp_pushM rfl (.tmp 129) (.tmp 131) rfl w6.heap.size (.slice (some ⟨rb, 0, none⟩) 1 xc) [p0] none wJ.heap.size 1 rfl rfl rfl rfl HRw.out.1 HRw.out.2.size (by omega) ?_; intro ad4 c4 wK hoK hgK hvK; have HK : Hid (wK.ownsRow w6.heap.size 45 1 (.slice ad4 2 c4) 2 ([p0] ++ [.pointer none]) ∧ (wJ.alloc (.cells #[.pointer none] 45)).grownBy wK (Value.slice (some ⟨rb, 0, none⟩) 1 xc).ownBlock ∧ (((Value.slice ad4 2 c4).ownBlock = (Value.slice (some ⟨rb, 0, none⟩) 1 xc).ownBlock) ∨ ∀ k, (Value.slice ad4 2 c4).ownBlock = some k → (wJ.alloc (.cells #[.pointer none] 45)).heap.size ≤ k)) := ⟨hoK, hgK, hvK⟩; clear hoK hgK hvK))
          go_roundw
          case rel =>
           obtain ⟨-, -, cs1, k1⟩ := own_cells (ownsRow_below HI.out.1 (below_seq HV.out.2.1 (below_seq HN.out.2.1 (below_seq HE.out.1 HG.out.1))))
           obtain ⟨-, -, cs2, k2⟩ := own_cells (ownsRow_own (ownsRow_below HV.out.1 (below_seq HN.out.2.1 (below_seq HE.out.1 HG.out.1))) (fun q hq => HH.out.2 q (fun e => by have hq' : gV = q := Option.some.inj hq; omega)))
           obtain ⟨-, -, cs3, k3⟩ := own_cells (ownsRow_own (ownsRow_own (ownsRow_below HN.out.1 (below_seq HE.out.1 HG.out.1)) (fun q hq => HH.out.2 q (fun e => by have hq' : gN = q := Option.some.inj hq; omega))) (fun q hq => HJ.out.2 q (fun e => by have hq' : gN = q := Option.some.inj hq; omega)))
           have z6 := HH.out.1.size
           have z7 := HJ.out.1.size
           have z8 := HQ.out.1.size
           have z9 := HB.out.size
           have z10 := HK.out.2.1.size
           simp only [World.size_alloc] at z10
           have hMJ : MK wD.heap.size wE.heap.size wJ l is os (.pointer none) := ((((HE.out.2.below HG.out.1).off k1 (by decide) (.inl (by omega)) (fun q _ h => HH.out.2 q h) HH.out.1.size).off k2 (by decide) (.inl (by omega)) (fun q _ h => HJ.out.2 q h) HJ.out.1.size).off k3 (by decide) (.inl (by omega)) (fun q _ h => HQ.out.2 q h) HQ.out.1.size)
           have h0 := LI.out.le
           have hM0 : MK w6.heap.size hi0 wJ l is vs p0 := ((((LI.out.mk0.below (below_seq HW.out.1 HG.out.2.2)).off k1 (by decide) (.inr (by omega)) (fun q _ h => HH.out.2 q h) HH.out.1.size).off k2 (by decide) (.inr (by omega)) (fun q _ h => HJ.out.2 q h) HJ.out.1.size).off k3 (by decide) (.inr (by omega)) (fun q _ h => HQ.out.2 q h) HQ.out.1.size)
           obtain ⟨b1, b2, cs4, k4⟩ := own_cells HRw.out.1
           have u1 := LI.out.up rb rfl
           have u2 := (LI.out.row.lt rb rfl).2
           have k5 := (Below.heap_alloc wJ (.cells #[.pointer none] 45) _ b2).trans k4
           have hbl : ∀ q, q < (wJ.alloc (.cells #[.pointer none] 45)).heap.size → q ≠ rb → wK.heap[q]? = (wJ.alloc (.cells #[.pointer none] 45)).heap[q]? := fun q hq hne => HK.out.2.1.block q hq (fun e => hne (Option.some.inj e))
           exact .inr (.inr ⟨by go_num, p0, .pointer none, hi0, wJ.heap.size, ⟨(HRw.out.2.alloc HRw.out.2.size _).grown HK.out.2.1 (by have := HRw.out.2.size; simp; omega) (fun k hk => by have hq' : rb = k := Option.some.inj hk; omega), HK.out.1, (hM0.below (below_new _ _)).off k5 (by decide) (.inr u1) hbl HK.out.2.1.size, ((hMJ.below (below_new _ _)).off k5 (by decide) (.inl (by omega)) hbl HK.out.2.1.size).mono (by omega) (by omega), by omega, LI.out.lo⟩⟩)
          case measure => simp [intOf]
        ·have e8 : ((os.length : Int) != 8) = true := by simp; omega
         have hf : faultF l os is = (3, 0) := by unfold faultF; rw [HD.out, if_neg (by simp), if_pos (by omega)]
         have HFt : Hid _ := hf
         clear hf
         clear h8
         try clear h4
         go_wp2_with (go_at_call 24; refine (F_any 3 0 _).mono ?_; rintro r wF ⟨rfl, hbF⟩; have HFw : Hid (Below wr.heap.size wr wF ∧ wF.heap[wr.heap.size]? = some (.cells #[.int .i64 0, .int .i64 0] 30 (0, 0))) := ⟨below_seq (below_new _ _) hbF, (hbF.block _ (by simp)).trans (heap_alloc_new _ _)⟩; obtain ⟨cf, ff, lf⟩ := cells_of (l := [_, _]) HFw.out.2; have cf0 := cf 0 _ rfl; have cf1 := cf 1 _ rfl; have g0' := below_cell HFw.out.1 g0; have g1' := below_cell HFw.out.1 g1; have g2' := below_cell HFw.out.1 g2; have hnz : ¬ wr.heap.size = 0 := (by omega); have hnz' : ¬ 0 = wr.heap.size := (by omega); clear cf hbF g0 g1 g2)
         have HW : Hid (Below wr.heap.size wr ((wF.setCell ⟨wr.heap.size, 0, none⟩ (.int .i64 3)).setCell ⟨wr.heap.size, 1, none⟩ (.int .i64 0)) ∧ ((wF.setCell ⟨wr.heap.size, 0, none⟩ (.int .i64 3)).setCell ⟨wr.heap.size, 1, none⟩ (.int .i64 0)).heap[wr.heap.size]? = some (.cells #[.int .i64 3, .int .i64 0] 30 (0, 0))) := ⟨(HFw.out.1.setCell (Nat.le_refl _) _).setCell (Nat.le_refl _) _, by simpa using setCell_at (i := 1) (u := .int .i64 0) (setCell_at (i := 0) (u := .int .i64 3) HFw.out.2)⟩
         clear cf0 cf1 ff lf g0' g1' g2' hnz hnz' HFw
         try clear g0 g1 g2
         clear a0 a1 b0 la lb hz0
         generalize ((wF.setCell ⟨wr.heap.size, 0, none⟩ (.int .i64 3)).setCell ⟨wr.heap.size, 1, none⟩ (.int .i64 0)) = wA at *
         go_wp2_with (go_at_call 10; refine (Lend_own wA l ⟨-1, -2, -3⟩ _ _ (by omega) (HX.out.1.2.2.below (below_seq HB.out HW.out.1)) HA.out.1.2.2).mono ?_; rintro r wB ⟨gI, rfl, hoI, hbB⟩; have HI : Hid (wB.ownsRow wA.heap.size 35 3 (.slice (some ⟨gI, 0, none⟩) (l.length + 3) (l.length + 3)) (l.length + 3) (insVs l ++ marksL ⟨-1, -2, -3⟩) ∧ Below wA.heap.size wA wB ∧ Below w6.heap.size w6 wB) := ⟨hoI, hbB, below_seq (below_seq HB.out HW.out.1) hbB⟩; clear hoI hbB)
         have PH : Phase 1 := trivial
         go_wp2_with (go_at_call 11; guard_hyp PH : Phase 1; clear PH; refine (LendN_own wB os (-9) oa oc (by omega) (HX.out.2.1.2.1.below HI.out.2.2) HA.out.2.2.1.2).mono ?_; rintro r wC ⟨gV, rfl, hoV, hbC⟩; have HV : Hid (wC.ownsRow wB.heap.size 3 1 (.slice (some ⟨gV, 0, none⟩) (os.length + 3) (os.length + 3)) (os.length + 3) (intVs os ++ [.int .i64 (-9), .int .i64 (-9), .int .i64 (-9)]) ∧ Below wB.heap.size wB wC ∧ Below w6.heap.size w6 wC) := ⟨hoV, hbC, below_seq HI.out.2.2 hbC⟩; clear hoV hbC; have PH : Phase 2 := trivial)
         go_wp2_with (go_at_call 11; guard_hyp PH : Phase 2; clear PH; refine (LendN_own wC is (-9) ia nc (by omega) (HX.out.2.1.2.2.below HV.out.2.2) HA.out.2.2.2.2).mono ?_; rintro r wD ⟨gN, rfl, hoN, hbD⟩; have HN : Hid (wD.ownsRow wC.heap.size 3 1 (.slice (some ⟨gN, 0, none⟩) (is.length + 3) (is.length + 3)) (is.length + 3) (intVs is ++ [.int .i64 (-9), .int .i64 (-9), .int .i64 (-9)]) ∧ Below wC.heap.size wC wD ∧ Below w6.heap.size w6 wD) := ⟨hoN, hbD, below_seq HV.out.2.2 hbD⟩; clear hoN hbD)
         go_wp2_with (go_at_call 18; refine (New_is wD l _ _ _ _ _ _ os is (HX.out.1.1.below HN.out.2.2) (InSl.lent (ownsRow_below HI.out.1 (below_seq HV.out.2.1 HN.out.2.1))) (fun e => by cases e) (IntSl.lent (ownsRow_below HV.out.1 HN.out.2.1)) (IntSl.lent HN.out.1)).mono ?_; rintro r wE ⟨hbE, hcs⟩; rw [HFt.out] at hcs; have hr : r = .returned (.tuple #[.pointer none, .agg #[.int .i64 3, .int .i64 0]]) := (by rcases hcs with ⟨-, h⟩ | ⟨e, -⟩; exact h; exact absurd e (by simp)); subst hr; have HE : Hid (Below wD.heap.size wD wE ∧ MK wD.heap.size wE.heap.size wE l is os (.pointer none)) := ⟨hbE, .inl ⟨by rw [HFt.out]; simp, rfl⟩⟩; clear hbE hcs)
         have HT : Hid (wr.heap.size < wA.heap.size) := (Array.getElem?_eq_some_iff.1 HW.out.2).1
         have HG : Hid (Below wE.heap.size wE (wE.alloc (.cells #[.int .i64 3, .int .i64 0] 30)) ∧ (wE.alloc (.cells #[.int .i64 3, .int .i64 0] 30)).heap[wE.heap.size]? = some (.cells #[.int .i64 3, .int .i64 0] 30 (0, 0)) ∧ Below wA.heap.size wA (wE.alloc (.cells #[.int .i64 3, .int .i64 0] 30))) := ⟨below_new _ _, heap_alloc_new _ _, below_seq HI.out.2.1 (below_seq HV.out.2.1 (below_seq HN.out.2.1 (below_seq HE.out.1 (below_new _ _))))⟩
         generalize (wE.alloc (.cells #[.int .i64 3, .int .i64 0] 30)) = wG at *
         go_wp2_with (go_at_call 25; refine (SpoilI_own wG wA.heap.size gI l.length (l.length + 3) (l.length + 3) _ (ownsRow_below HI.out.1 (below_seq HV.out.2.1 (below_seq HN.out.2.1 (below_seq HE.out.1 HG.out.1))))).mono ?_; rintro r wH ⟨rfl, hbH, hkH⟩; have HH : Hid (Below wA.heap.size wG wH ∧ ∀ k, k ≠ gI → wH.heap[k]? = wG.heap[k]?) := ⟨hbH, hkH⟩; clear hbH hkH)
         have PH : Phase 3 := trivial
         have HS : Hid ((wA.heap.size ≤ gI ∧ gI < wB.heap.size) ∧ (wB.heap.size ≤ gV ∧ gV < wC.heap.size) ∧ (wC.heap.size ≤ gN ∧ gN < wD.heap.size)) := ⟨⟨(own_cells HI.out.1).1, (own_cells HI.out.1).2.1⟩, ⟨(own_cells HV.out.1).1, (own_cells HV.out.1).2.1⟩, ⟨(own_cells HN.out.1).1, (own_cells HN.out.1).2.1⟩⟩
         obtain ⟨⟨si1, si2⟩, ⟨sv1, sv2⟩, ⟨sn1, sn2⟩⟩ := HS.out
         have z1 := HI.out.2.1.size
         have z2 := HV.out.2.1.size
         have z3 := HN.out.2.1.size
         have z4 := HE.out.1.size
         have z5 := HG.out.1.size
         have z0 := HT.out
         go_wp2_with (go_at_call 16; guard_hyp PH : Phase 3; clear PH; refine (SpoilN_lent wH wB.heap.size gV os.length (os.length + 3) (os.length + 3) _ (ownsRow_own (ownsRow_below HV.out.1 (below_seq HN.out.2.1 (below_seq HE.out.1 HG.out.1))) (fun q hq => HH.out.2 q (fun e => by have hq' : gV = q := Option.some.inj hq; omega)))).mono ?_; rintro r wI ⟨rfl, hbI, hkI⟩; have HJ : Hid (Below wB.heap.size wH wI ∧ ∀ k, k ≠ gV → wI.heap[k]? = wH.heap[k]?) := ⟨hbI, hkI⟩; clear hbI hkI; have PH : Phase 4 := trivial)
         go_wp2_with (first | (go_at_call 16; guard_hyp PH : Phase 4; clear PH; refine (SpoilN_lent wI wC.heap.size gN is.length (is.length + 3) (is.length + 3) _ (ownsRow_own (ownsRow_own (ownsRow_below HN.out.1 (below_seq HE.out.1 HG.out.1)) (fun q hq => HH.out.2 q (fun e => by have hq' : gN = q := Option.some.inj hq; omega))) (fun q hq => HJ.out.2 q (fun e => by have hq' : gN = q := Option.some.inj hq; omega)))).mono ?_; rintro r wJ ⟨rfl, hbJ, hkJ⟩; have HQ : Hid (Below wC.heap.size wI wJ ∧ ∀ k, k ≠ gN → wJ.heap[k]? = wI.heap[k]?) := ⟨hbJ, hkJ⟩; have hal : ∀ k, k ≠ gI → k ≠ gV → k ≠ gN → wJ.heap[k]? = wG.heap[k]? := (fun k h1 h2 h3 => (hkJ k h3).trans ((HJ.out.2 k h2).trans (HH.out.2 k h1))); obtain ⟨cd, -, ld⟩ := cells_of (l := [_, _]) ((hal wr.heap.size (by omega) (by omega) (by omega)).trans ((HG.out.2.2.block _ HT.out).trans HW.out.2)); have d0 := cd 0 _ rfl; have d1 := cd 1 _ rfl; obtain ⟨ce, -, le⟩ := cells_of (l := [_, _]) ((hal wE.heap.size (by omega) (by omega) (by omega)).trans HG.out.2.1); have e0 := ce 0 _ rfl; have e1 := ce 1 _ rfl; have HL : Hid (∀ k, k ≠ gI → k ≠ gV → k ≠ gN → wJ.heap[k]? = wG.heap[k]?) := hal; clear cd ce hbJ hkJ hal; have HRw : Hid (wJ.ownsRow w6.heap.size 45 1 (.slice (some ⟨rb, 0, none⟩) 1 xc) 1 [p0] ∧ Below w6.heap.size w6 wJ) := ⟨(ownsRow_own (ownsRow_below LI.out.row (below_seq HW.out.1 HG.out.2.2)) (fun q hq => HL.out q (by have := (LI.out.row.lt q hq).2; omega) (by have := (LI.out.row.lt q hq).2; omega) (by have := (LI.out.row.lt q hq).2; omega))), (((below_seq (below_seq HB.out HW.out.1) HG.out.2.2).trans (HH.out.1.mono (by have := HB.out.size; omega))).trans (HJ.out.1.mono (by have := HB.out.size; omega))).trans (HQ.out.1.mono (by have := HB.out.size; omega))⟩) | (at_builtin; refine wp_pushM rfl (.tmp 129) (.tmp 131) rfl w6.heap.size (.slice (some ⟨rb, 0, none⟩) 1 xc) [p0] none wJ.heap.size 1 rfl rfl rfl rfl HRw.out.1 HRw.out.2.size (by omega) ?_; intro ad4 c4 wK hoK hgK hvK; have HK : Hid (wK.ownsRow w6.heap.size 45 1 (.slice ad4 2 c4) 2 ([p0] ++ [.pointer none]) ∧ (wJ.alloc (.cells #[.pointer none] 45)).grownBy wK (Value.slice (some ⟨rb, 0, none⟩) 1 xc).ownBlock ∧ (((Value.slice ad4 2 c4).ownBlock = (Value.slice (some ⟨rb, 0, none⟩) 1 xc).ownBlock) ∨ ∀ k, (Value.slice ad4 2 c4).ownBlock = some k → (wJ.alloc (.cells #[.pointer none] 45)).heap.size ≤ k)) := ⟨hoK, hgK, hvK⟩; clear hoK hgK hvK))
         go_roundw
         case rel =>
          obtain ⟨-, -, cs1, k1⟩ := own_cells (ownsRow_below HI.out.1 (below_seq HV.out.2.1 (below_seq HN.out.2.1 (below_seq HE.out.1 HG.out.1))))
          obtain ⟨-, -, cs2, k2⟩ := own_cells (ownsRow_own (ownsRow_below HV.out.1 (below_seq HN.out.2.1 (below_seq HE.out.1 HG.out.1))) (fun q hq => HH.out.2 q (fun e => by have hq' : gV = q := Option.some.inj hq; omega)))
          obtain ⟨-, -, cs3, k3⟩ := own_cells (ownsRow_own (ownsRow_own (ownsRow_below HN.out.1 (below_seq HE.out.1 HG.out.1)) (fun q hq => HH.out.2 q (fun e => by have hq' : gN = q := Option.some.inj hq; omega))) (fun q hq => HJ.out.2 q (fun e => by have hq' : gN = q := Option.some.inj hq; omega)))
          have z6 := HH.out.1.size
          have z7 := HJ.out.1.size
          have z8 := HQ.out.1.size
          have z9 := HB.out.size
          have z10 := HK.out.2.1.size
          simp only [World.size_alloc] at z10
          have hMJ : MK wD.heap.size wE.heap.size wJ l is os (.pointer none) := ((((HE.out.2.below HG.out.1).off k1 (by decide) (.inl (by omega)) (fun q _ h => HH.out.2 q h) HH.out.1.size).off k2 (by decide) (.inl (by omega)) (fun q _ h => HJ.out.2 q h) HJ.out.1.size).off k3 (by decide) (.inl (by omega)) (fun q _ h => HQ.out.2 q h) HQ.out.1.size)
          have h0 := LI.out.le
          have hM0 : MK w6.heap.size hi0 wJ l is vs p0 := ((((LI.out.mk0.below (below_seq HW.out.1 HG.out.2.2)).off k1 (by decide) (.inr (by omega)) (fun q _ h => HH.out.2 q h) HH.out.1.size).off k2 (by decide) (.inr (by omega)) (fun q _ h => HJ.out.2 q h) HJ.out.1.size).off k3 (by decide) (.inr (by omega)) (fun q _ h => HQ.out.2 q h) HQ.out.1.size)
          obtain ⟨b1, b2, cs4, k4⟩ := own_cells HRw.out.1
          have u1 := LI.out.up rb rfl
          have u2 := (LI.out.row.lt rb rfl).2
          have k5 := (Below.heap_alloc wJ (.cells #[.pointer none] 45) _ b2).trans k4
          have hbl : ∀ q, q < (wJ.alloc (.cells #[.pointer none] 45)).heap.size → q ≠ rb → wK.heap[q]? = (wJ.alloc (.cells #[.pointer none] 45)).heap[q]? := fun q hq hne => HK.out.2.1.block q hq (fun e => hne (Option.some.inj e))
          exact .inr (.inr ⟨by go_num, p0, .pointer none, hi0, wJ.heap.size, ⟨(HRw.out.2.alloc HRw.out.2.size _).grown HK.out.2.1 (by have := HRw.out.2.size; simp; omega) (fun k hk => by have hq' : rb = k := Option.some.inj hk; omega), HK.out.1, (hM0.below (below_new _ _)).off k5 (by decide) (.inr u1) hbl HK.out.2.1.size, ((hMJ.below (below_new _ _)).off k5 (by decide) (.inl (by omega)) hbl HK.out.2.1.size).mono (by omega) (by omega), by omega, LI.out.lo⟩⟩)
         case measure => simp [intOf]
       ·have hcb : (c == 0) = false := by simpa using hc0
        have hf : faultF l os is = (c, k) := by unfold faultF; rw [HD.out, if_pos hc0]
        have HFt : Hid _ := hf
        clear hf
        go_wp2_with fail
        have HW : Hid (Below wr.heap.size wr (wr.alloc (.cells #[.int .i64 c, .int .i64 k] 30)) ∧ (wr.alloc (.cells #[.int .i64 c, .int .i64 k] 30)).heap[wr.heap.size]? = some (.cells #[.int .i64 c, .int .i64 k] 30 (0, 0))) := ⟨below_new _ _, heap_alloc_new _ _⟩
        try clear g0 g1 g2
        clear a0 a1 b0 la lb hz0
        generalize (wr.alloc (.cells #[.int .i64 c, .int .i64 k] 30)) = wA at *
        go_wp2_with (go_at_call 10; refine (Lend_own wA l ⟨-1, -2, -3⟩ _ _ (by omega) (HX.out.1.2.2.below (below_seq HB.out HW.out.1)) HA.out.1.2.2).mono ?_; rintro r wB ⟨gI, rfl, hoI, hbB⟩; have HI : Hid (wB.ownsRow wA.heap.size 35 3 (.slice (some ⟨gI, 0, none⟩) (l.length + 3) (l.length + 3)) (l.length + 3) (insVs l ++ marksL ⟨-1, -2, -3⟩) ∧ Below wA.heap.size wA wB ∧ Below w6.heap.size w6 wB) := ⟨hoI, hbB, below_seq (below_seq HB.out HW.out.1) hbB⟩; clear hoI hbB)
        have PH : Phase 1 := trivial
        go_wp2_with (go_at_call 11; guard_hyp PH : Phase 1; clear PH; refine (LendN_own wB os (-9) oa oc (by omega) (HX.out.2.1.2.1.below HI.out.2.2) HA.out.2.2.1.2).mono ?_; rintro r wC ⟨gV, rfl, hoV, hbC⟩; have HV : Hid (wC.ownsRow wB.heap.size 3 1 (.slice (some ⟨gV, 0, none⟩) (os.length + 3) (os.length + 3)) (os.length + 3) (intVs os ++ [.int .i64 (-9), .int .i64 (-9), .int .i64 (-9)]) ∧ Below wB.heap.size wB wC ∧ Below w6.heap.size w6 wC) := ⟨hoV, hbC, below_seq HI.out.2.2 hbC⟩; clear hoV hbC; have PH : Phase 2 := trivial)
        go_wp2_with (go_at_call 11; guard_hyp PH : Phase 2; clear PH; refine (LendN_own wC is (-9) ia nc (by omega) (HX.out.2.1.2.2.below HV.out.2.2) HA.out.2.2.2.2).mono ?_; rintro r wD ⟨gN, rfl, hoN, hbD⟩; have HN : Hid (wD.ownsRow wC.heap.size 3 1 (.slice (some ⟨gN, 0, none⟩) (is.length + 3) (is.length + 3)) (is.length + 3) (intVs is ++ [.int .i64 (-9), .int .i64 (-9), .int .i64 (-9)]) ∧ Below wC.heap.size wC wD ∧ Below w6.heap.size w6 wD) := ⟨hoN, hbD, below_seq HV.out.2.2 hbD⟩; clear hoN hbD)
        go_wp2_with (go_at_call 18; refine (New_is wD l _ _ _ _ _ _ os is (HX.out.1.1.below HN.out.2.2) (InSl.lent (ownsRow_below HI.out.1 (below_seq HV.out.2.1 HN.out.2.1))) (fun e => by cases e) (IntSl.lent (ownsRow_below HV.out.1 HN.out.2.1)) (IntSl.lent HN.out.1)).mono ?_; rintro r wE ⟨hbE, hcs⟩; rw [HFt.out] at hcs; have hr : r = .returned (.tuple #[.pointer none, .agg #[.int .i64 c, .int .i64 k]]) := (by rcases hcs with ⟨-, h⟩ | ⟨e, -⟩; exact h; exact absurd e (by intro e; exact hc0 (congrArg Prod.fst e))); subst hr; have HE : Hid (Below wD.heap.size wD wE ∧ MK wD.heap.size wE.heap.size wE l is os (.pointer none)) := ⟨hbE, .inl ⟨by rw [HFt.out]; exact hc0, rfl⟩⟩; clear hbE hcs)
        have HT : Hid (wr.heap.size < wA.heap.size) := (Array.getElem?_eq_some_iff.1 HW.out.2).1
        have HG : Hid (Below wE.heap.size wE (wE.alloc (.cells #[.int .i64 c, .int .i64 k] 30)) ∧ (wE.alloc (.cells #[.int .i64 c, .int .i64 k] 30)).heap[wE.heap.size]? = some (.cells #[.int .i64 c, .int .i64 k] 30 (0, 0)) ∧ Below wA.heap.size wA (wE.alloc (.cells #[.int .i64 c, .int .i64 k] 30))) := ⟨below_new _ _, heap_alloc_new _ _, below_seq HI.out.2.1 (below_seq HV.out.2.1 (below_seq HN.out.2.1 (below_seq HE.out.1 (below_new _ _))))⟩
        generalize (wE.alloc (.cells #[.int .i64 c, .int .i64 k] 30)) = wG at *
        go_wp2_with (go_at_call 25; refine (SpoilI_own wG wA.heap.size gI l.length (l.length + 3) (l.length + 3) _ (ownsRow_below HI.out.1 (below_seq HV.out.2.1 (below_seq HN.out.2.1 (below_seq HE.out.1 HG.out.1))))).mono ?_; rintro r wH ⟨rfl, hbH, hkH⟩; have HH : Hid (Below wA.heap.size wG wH ∧ ∀ k, k ≠ gI → wH.heap[k]? = wG.heap[k]?) := ⟨hbH, hkH⟩; clear hbH hkH)
        have PH : Phase 3 := trivial
        have HS : Hid ((wA.heap.size ≤ gI ∧ gI < wB.heap.size) ∧ (wB.heap.size ≤ gV ∧ gV < wC.heap.size) ∧ (wC.heap.size ≤ gN ∧ gN < wD.heap.size)) := ⟨⟨(own_cells HI.out.1).1, (own_cells HI.out.1).2.1⟩, ⟨(own_cells HV.out.1).1, (own_cells HV.out.1).2.1⟩, ⟨(own_cells HN.out.1).1, (own_cells HN.out.1).2.1⟩⟩
        obtain ⟨⟨si1, si2⟩, ⟨sv1, sv2⟩, ⟨sn1, sn2⟩⟩ := HS.out
        have z1 := HI.out.2.1.size
        have z2 := HV.out.2.1.size
        have z3 := HN.out.2.1.size
        have z4 := HE.out.1.size
        have z5 := HG.out.1.size
        have z0 := HT.out
        go_wp2_with (go_at_call 16; guard_hyp PH : Phase 3; clear PH; refine (SpoilN_lent wH wB.heap.size gV os.length (os.length + 3) (os.length + 3) _ (ownsRow_own (ownsRow_below HV.out.1 (below_seq HN.out.2.1 (below_seq HE.out.1 HG.out.1))) (fun q hq => HH.out.2 q (fun e => by have hq' : gV = q := Option.some.inj hq; omega)))).mono ?_; rintro r wI ⟨rfl, hbI, hkI⟩; have HJ : Hid (Below wB.heap.size wH wI ∧ ∀ k, k ≠ gV → wI.heap[k]? = wH.heap[k]?) := ⟨hbI, hkI⟩; clear hbI hkI; have PH : Phase 4 := trivial)
        go_wp2_with (first | (go_at_call 16; guard_hyp PH : Phase 4; clear PH; refine (SpoilN_lent wI wC.heap.size gN is.length (is.length + 3) (is.length + 3) _ (ownsRow_own (ownsRow_own (ownsRow_below HN.out.1 (below_seq HE.out.1 HG.out.1)) (fun q hq => HH.out.2 q (fun e => by have hq' : gN = q := Option.some.inj hq; omega))) (fun q hq => HJ.out.2 q (fun e => by have hq' : gN = q := Option.some.inj hq; omega)))).mono ?_; rintro r wJ ⟨rfl, hbJ, hkJ⟩; have HQ : Hid (Below wC.heap.size wI wJ ∧ ∀ k, k ≠ gN → wJ.heap[k]? = wI.heap[k]?) := ⟨hbJ, hkJ⟩; have hal : ∀ k, k ≠ gI → k ≠ gV → k ≠ gN → wJ.heap[k]? = wG.heap[k]? := (fun k h1 h2 h3 => (hkJ k h3).trans ((HJ.out.2 k h2).trans (HH.out.2 k h1))); obtain ⟨cd, -, ld⟩ := cells_of (l := [_, _]) ((hal wr.heap.size (by omega) (by omega) (by omega)).trans ((HG.out.2.2.block _ HT.out).trans HW.out.2)); have d0 := cd 0 _ rfl; have d1 := cd 1 _ rfl; obtain ⟨ce, -, le⟩ := cells_of (l := [_, _]) ((hal wE.heap.size (by omega) (by omega) (by omega)).trans HG.out.2.1); have e0 := ce 0 _ rfl; have e1 := ce 1 _ rfl; have HL : Hid (∀ k, k ≠ gI → k ≠ gV → k ≠ gN → wJ.heap[k]? = wG.heap[k]?) := hal; clear cd ce hbJ hkJ hal; have HRw : Hid (wJ.ownsRow w6.heap.size 45 1 (.slice (some ⟨rb, 0, none⟩) 1 xc) 1 [p0] ∧ Below w6.heap.size w6 wJ) := ⟨(ownsRow_own (ownsRow_below LI.out.row (below_seq HW.out.1 HG.out.2.2)) (fun q hq => HL.out q (by have := (LI.out.row.lt q hq).2; omega) (by have := (LI.out.row.lt q hq).2; omega) (by have := (LI.out.row.lt q hq).2; omega))), (((below_seq (below_seq HB.out HW.out.1) HG.out.2.2).trans (HH.out.1.mono (by have := HB.out.size; omega))).trans (HJ.out.1.mono (by have := HB.out.size; omega))).trans (HQ.out.1.mono (by have := HB.out.size; omega))⟩) | (at_builtin; refine wp_pushM rfl (.tmp 129) (.tmp 131) rfl w6.heap.size (.slice (some ⟨rb, 0, none⟩) 1 xc) [p0] none wJ.heap.size 1 rfl rfl rfl rfl HRw.out.1 HRw.out.2.size (by omega) ?_; intro ad4 c4 wK hoK hgK hvK; have HK : Hid (wK.ownsRow w6.heap.size 45 1 (.slice ad4 2 c4) 2 ([p0] ++ [.pointer none]) ∧ (wJ.alloc (.cells #[.pointer none] 45)).grownBy wK (Value.slice (some ⟨rb, 0, none⟩) 1 xc).ownBlock ∧ (((Value.slice ad4 2 c4).ownBlock = (Value.slice (some ⟨rb, 0, none⟩) 1 xc).ownBlock) ∨ ∀ k, (Value.slice ad4 2 c4).ownBlock = some k → (wJ.alloc (.cells #[.pointer none] 45)).heap.size ≤ k)) := ⟨hoK, hgK, hvK⟩; clear hoK hgK hvK))
        go_roundw
        case rel =>
         obtain ⟨-, -, cs1, k1⟩ := own_cells (ownsRow_below HI.out.1 (below_seq HV.out.2.1 (below_seq HN.out.2.1 (below_seq HE.out.1 HG.out.1))))
         obtain ⟨-, -, cs2, k2⟩ := own_cells (ownsRow_own (ownsRow_below HV.out.1 (below_seq HN.out.2.1 (below_seq HE.out.1 HG.out.1))) (fun q hq => HH.out.2 q (fun e => by have hq' : gV = q := Option.some.inj hq; omega)))
         obtain ⟨-, -, cs3, k3⟩ := own_cells (ownsRow_own (ownsRow_own (ownsRow_below HN.out.1 (below_seq HE.out.1 HG.out.1)) (fun q hq => HH.out.2 q (fun e => by have hq' : gN = q := Option.some.inj hq; omega))) (fun q hq => HJ.out.2 q (fun e => by have hq' : gN = q := Option.some.inj hq; omega)))
         have z6 := HH.out.1.size
         have z7 := HJ.out.1.size
         have z8 := HQ.out.1.size
         have z9 := HB.out.size
         have z10 := HK.out.2.1.size
         simp only [World.size_alloc] at z10
         have hMJ : MK wD.heap.size wE.heap.size wJ l is os (.pointer none) := ((((HE.out.2.below HG.out.1).off k1 (by decide) (.inl (by omega)) (fun q _ h => HH.out.2 q h) HH.out.1.size).off k2 (by decide) (.inl (by omega)) (fun q _ h => HJ.out.2 q h) HJ.out.1.size).off k3 (by decide) (.inl (by omega)) (fun q _ h => HQ.out.2 q h) HQ.out.1.size)
         have h0 := LI.out.le
         have hM0 : MK w6.heap.size hi0 wJ l is vs p0 := ((((LI.out.mk0.below (below_seq HW.out.1 HG.out.2.2)).off k1 (by decide) (.inr (by omega)) (fun q _ h => HH.out.2 q h) HH.out.1.size).off k2 (by decide) (.inr (by omega)) (fun q _ h => HJ.out.2 q h) HJ.out.1.size).off k3 (by decide) (.inr (by omega)) (fun q _ h => HQ.out.2 q h) HQ.out.1.size)
         obtain ⟨b1, b2, cs4, k4⟩ := own_cells HRw.out.1
         have u1 := LI.out.up rb rfl
         have u2 := (LI.out.row.lt rb rfl).2
         have k5 := (Below.heap_alloc wJ (.cells #[.pointer none] 45) _ b2).trans k4
         have hbl : ∀ q, q < (wJ.alloc (.cells #[.pointer none] 45)).heap.size → q ≠ rb → wK.heap[q]? = (wJ.alloc (.cells #[.pointer none] 45)).heap[q]? := fun q hq hne => HK.out.2.1.block q hq (fun e => hne (Option.some.inj e))
         exact .inr (.inr ⟨by go_num, p0, .pointer none, hi0, wJ.heap.size, ⟨(HRw.out.2.alloc HRw.out.2.size _).grown HK.out.2.1 (by have := HRw.out.2.size; simp; omega) (fun k hk => by have hq' : rb = k := Option.some.inj hk; omega), HK.out.1, (hM0.below (below_new _ _)).off k5 (by decide) (.inr u1) hbl HK.out.2.1.size, ((hMJ.below (below_new _ _)).off k5 (by decide) (.inl (by omega)) hbl HK.out.2.1.size).mono (by omega) (by omega), by omega, LI.out.lo⟩⟩)
        case measure => simp [intOf]
      ·have LL : Hid (LI2 w6 wr l is vs os _ p0 p1 mid hi0) := hLI
       clear hLI
       obtain ⟨xa, xc, hxx⟩ := owns_value LL.out.row
       subst hxx
       obtain ⟨rb, hrb⟩ := own_some LL.out.row
       subst hrb
       obtain ⟨q0', hp0⟩ := LL.out.mk0.ptr
       obtain ⟨q1', hp1⟩ := LL.out.mk1.ptr
       go_wp2_with fail
       have HJ : Hid (J2 w6 (wr.alloc (.cells #[.slice va vs.length vc, .slice oa os.length oc] 23)) l is os (.slice (some ⟨rb, 0, none⟩) 2 xc) p0 p1 (.slice va vs.length vc) (.slice oa os.length oc) wr.heap.size mid hi0 ∧ MK w6.heap.size mid (wr.alloc (.cells #[.slice va vs.length vc, .slice oa os.length oc] 23)) l is vs p0) := ⟨⟨below_seq LL.out.bel (below_new _ _), ownsRow_below LL.out.row (below_new _ _), LL.out.mk1.below (below_new _ _), heap_alloc_new _ _, LL.out.lo⟩, LL.out.mk0.below (below_new _ _)⟩
       clear LL
       generalize (wr.alloc (.cells #[.slice va vs.length vc, .slice oa os.length oc] 23)) = w10 at *
       generalize wr.heap.size = g136 at *
       go_loopw [138] (fun y wz => (y = .int .i64 0 ∧ J2 w6 wz l is os (.slice (some ⟨rb, 0, none⟩) 2 xc) p0 p1 (.slice va vs.length vc) (.slice oa os.length oc) g136 mid hi0 ∧ MK w6.heap.size mid wz l is vs p0) ∨ (y = .int .i64 1 ∧ J2 w6 wz l is os (.slice (some ⟨rb, 0, none⟩) 2 xc) p0 p1 (.slice va vs.length vc) (.slice oa os.length oc) g136 mid hi0) ∨ (y = .int .i64 2 ∧ Below w6.heap.size w6 wz)) (fun y _ => 2 - (intOf y).toNat)
       case atStart => exact .inl ⟨rfl, HJ.out⟩
       case round =>
        rcases hrel with ⟨rfl, hJ2, hM0⟩ | ⟨rfl, hJ2⟩ | ⟨rfl, hbz⟩
        ·have HJ2 : Hid (J2 w6 wr l is os (.slice (some ⟨rb, 0, none⟩) 2 xc) p0 p1 (.slice va vs.length vc) (.slice oa os.length oc) g136 mid hi0) := hJ2
         clear hJ2
         have HM0 : Hid (MK w6.heap.size mid wr l is vs p0) := hM0
         clear hM0
         obtain ⟨cb, -, lb⟩ := cells_of (l := [_, _]) HJ2.out.args
         have b0 := cb 0 _ rfl
         have r0 := HJ2.out.row.cells rfl 0 p0 rfl
         rw [Addr.add_lit] at r0
         simp only [Nat.add_zero] at r0
         have lr := World.block_lt_of_cell? _ _ r0
         clear cb
         rcases HM0.out with ⟨-, hp⟩ | ⟨mbN, iv, ov, hp, m1, m2, ⟨m3, m4, m5⟩, m6, m7⟩
         ·subst hp
          go_wp2_with fail
          go_roundw
          case rel => exact .inr (.inl ⟨by go_num, HJ2.out⟩)
          case measure => simp [intOf]
         ·subst hp
          obtain ⟨MG, gG⟩ := good_of m3
          have zz := H6.out.size
          have zl := HJ2.out.lo
          have AP : Hid (∀ q, (l ≠ [] ∧ (Value.slice iad l.length ic).ownBlock = some q) ∨ (Value.slice va 8 vc).ownBlock = some q ∨ (Value.slice ia 4 nc).ownBlock = some q → q ≠ mbN) := by
           intro q hq
           have hql : q < w.heap.size := by
            rcases hq with ⟨hl, e⟩ | e | e
            ·exact HA.out.1.2.1.own_lt hl e
            ·exact HA.out.2.1.1.own_lt (by omega) (by rw [m4]; exact e)
            ·exact HA.out.2.2.2.1.own_lt (by omega) (by rw [m5]; exact e)
           omega
          have HG2 : Hid ((MM wr mbN (mbN + 1) l iv ov is 0 (ms0 vs) (.slice none 0 0) (.slice none 0 0) ∧ GoodI l MG ∧ vs.length = 8 ∧ is.length = 4) ∧ (1 < mbN ∧ w6.heap.size ≤ mbN)) := ⟨⟨m6, gG, m4, m5⟩, by omega, by omega⟩
          have HQ2 : Hid ((Value.slice va vs.length vc) = .slice va 8 vc ∧ (Value.slice ia is.length nc) = .slice ia 4 nc) := ⟨by rw [m4], by rw [m5]⟩
          clear m4 m5 m6 gG m3 zz zl
          have hq2 : ((n : Int) / 2) = ((n / 2 : Nat) : Int) := by omega
          have HT := ticked_any wr mbN (mbN + 1) l MG iv ov is vs (n / 2) iad va ia ic vc nc HG2.out.1.1 HG2.out.1.2.1 (HX.out.1.1.below HJ2.out.bel) HG2.out.2.1 (HX.out.1.2.2.below HJ2.out.bel) HG2.out.1.2.2.1 HG2.out.1.2.2.2 (HX.out.2.1.1.below HJ2.out.bel) (HX.out.2.1.2.2.below HJ2.out.bel) (by omega) AP.out
          rw [← HQ2.out.1, ← HQ2.out.2, ← hq2] at HT
          have HTH : Hid (Calls Tryd.prog 26 #[.pointer (some ⟨mbN, 0, none⟩), .slice iad l.length ic, .slice va vs.length vc, .slice ia is.length nc, .int .i64 ((n : Int) / 2)] wr fun r w' => r = .returned (.bool true) ∧ MR mbN wr w' (.slice none 0 0) (.slice none 0 0) (.slice none 0 0) (.slice none 0 0)) := HT
          clear HT hq2
          go_wp2_with (go_at_call 26; refine HTH.out.mono ?_; rintro r wy ⟨rfl, hry⟩; have HY : Hid (MR mbN wr wy (.slice none 0 0) (.slice none 0 0) (.slice none 0 0) (.slice none 0 0)) := hry; clear hry)
          go_roundw
          case rel =>
           obtain ⟨b1, b2, cs4, k4⟩ := own_cells HJ2.out.row
           have n1 : rb ≠ mbN := fun e => by rw [e, HG2.out.1.1.blk] at k4; simp at k4
           have n2 : g136 ≠ mbN := fun e => by have k5 := HJ2.out.args; rw [e, HG2.out.1.1.blk] at k5; simp at k5
           have hbl : ∀ q, q < wr.heap.size → q ≠ mbN → wy.heap[q]? = wr.heap[q]? := fun q hq hne => HY.out.block q hq hne (by simp [Value.ownBlock]) (by simp [Value.ownBlock])
           exact .inr (.inl ⟨by go_num, ⟨HJ2.out.bel.trans (HY.out.below HG2.out.2.2 HJ2.out.bel.size), ownsRow_own HJ2.out.row (fun q hq => by have hq' : rb = q := Option.some.inj hq; subst hq'; exact hbl rb b2 n1), HJ2.out.mk1.off HG2.out.1.1.blk (by decide) (.inl m2) hbl HY.out.size, (hbl g136 (Array.getElem?_eq_some_iff.1 HJ2.out.args).1 n2).trans HJ2.out.args, HJ2.out.lo⟩⟩)
          case measure => simp [intOf]
        ·have HJ2 : Hid (J2 w6 wr l is os (.slice (some ⟨rb, 0, none⟩) 2 xc) p0 p1 (.slice va vs.length vc) (.slice oa os.length oc) g136 mid hi0) := hJ2
         clear hJ2
         obtain ⟨cb, -, lb⟩ := cells_of (l := [_, _]) HJ2.out.args
         have b0 := cb 1 _ rfl
         have r0 := HJ2.out.row.cells rfl 1 p1 rfl
         rw [Addr.add_lit] at r0
         simp only [Nat.zero_add] at r0
         have lr := World.block_lt_of_cell? _ _ r0
         clear cb
         rcases HJ2.out.mk1 with ⟨-, hp⟩ | ⟨mbN, iv, ov, hp, m1, m2, ⟨m3, m4, m5⟩, m6, m7⟩
         ·subst hp
          go_wp2_with fail
          go_roundw
          case rel => exact .inr (.inr ⟨by go_num, HJ2.out.bel⟩)
          case measure => simp [intOf]
         ·subst hp
          obtain ⟨MG, gG⟩ := good_of m3
          have zz := H6.out.size
          have zl := HJ2.out.lo
          have AP : Hid (∀ q, (l ≠ [] ∧ (Value.slice iad l.length ic).ownBlock = some q) ∨ (Value.slice oa 8 oc).ownBlock = some q ∨ (Value.slice ia 4 nc).ownBlock = some q → q ≠ mbN) := by
           intro q hq
           have hql : q < w.heap.size := by
            rcases hq with ⟨hl, e⟩ | e | e
            ·exact HA.out.1.2.1.own_lt hl e
            ·exact HA.out.2.2.1.1.own_lt (by omega) (by rw [m4]; exact e)
            ·exact HA.out.2.2.2.1.own_lt (by omega) (by rw [m5]; exact e)
           omega
          have HG2 : Hid ((MM wr mbN (mbN + 1) l iv ov is 0 (ms0 os) (.slice none 0 0) (.slice none 0 0) ∧ GoodI l MG ∧ os.length = 8 ∧ is.length = 4) ∧ (1 < mbN ∧ w6.heap.size ≤ mbN)) := ⟨⟨m6, gG, m4, m5⟩, by omega, by omega⟩
          have HQ2 : Hid ((Value.slice oa os.length oc) = .slice oa 8 oc ∧ (Value.slice ia is.length nc) = .slice ia 4 nc) := ⟨by rw [m4], by rw [m5]⟩
          clear m4 m5 m6 gG m3 zz zl
          have hq2 : ((n : Int) / 2) = ((n / 2 : Nat) : Int) := by omega
          have HT := ticked_any wr mbN (mbN + 1) l MG iv ov is os (n / 2) iad oa ia ic oc nc HG2.out.1.1 HG2.out.1.2.1 (HX.out.1.1.below HJ2.out.bel) HG2.out.2.1 (HX.out.1.2.2.below HJ2.out.bel) HG2.out.1.2.2.1 HG2.out.1.2.2.2 (HX.out.2.1.2.1.below HJ2.out.bel) (HX.out.2.1.2.2.below HJ2.out.bel) (by omega) AP.out
          rw [← HQ2.out.1, ← HQ2.out.2, ← hq2] at HT
          have HTH : Hid (Calls Tryd.prog 26 #[.pointer (some ⟨mbN, 0, none⟩), .slice iad l.length ic, .slice oa os.length oc, .slice ia is.length nc, .int .i64 ((n : Int) / 2)] wr fun r w' => r = .returned (.bool true) ∧ MR mbN wr w' (.slice none 0 0) (.slice none 0 0) (.slice none 0 0) (.slice none 0 0)) := HT
          clear HT hq2
          go_wp2_with (go_at_call 26; refine HTH.out.mono ?_; rintro r wy ⟨rfl, hry⟩; have HY : Hid (MR mbN wr wy (.slice none 0 0) (.slice none 0 0) (.slice none 0 0) (.slice none 0 0)) := hry; clear hry)
          go_roundw
          case rel =>
           exact .inr (.inr ⟨by go_num, HJ2.out.bel.trans (HY.out.below HG2.out.2.2 HJ2.out.bel.size)⟩)
          case measure => simp [intOf]
        ·go_wp2_with fail
         go_ret
         exact ⟨rfl, below_seq H6.out hbz⟩
end Go.Proofs.YtibcbdihphbfeacDoor
