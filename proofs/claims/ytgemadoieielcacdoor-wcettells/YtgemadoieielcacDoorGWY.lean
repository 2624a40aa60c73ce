import Derived.Test.YtgemadoieielcacDoorGLast
namespace Go.Proofs.YtgemadoieielcacDoor
open Go.ChangeShapes Go.WideShapes Go.ChangeAt Go.RowKit Go.Shelf

attribute [local go_sem] Oper.semAt_some

set_option maxRecDepth 20000 in
set_option maxHeartbeats 4000000 in
theorem Analyse_good (w : World) (l : List In) (iad : Option Addr) (ic : Nat) (hkk : KindsIn w) (hI : InSl w l (.slice iad l.length ic)) (hc : checkI l = (0, 0)) : Calls Tryd.prog 45 #[.slice iad l.length ic] w (AnP l w) := by
  have hg := gl_of hc
  have hlen := hg.len
  have hB : Below w.heap.size w ((w.alloc (.cells #[.int .i64 0, .slice none 0 0] 77)).alloc (.cells #[.int .i64 0, .int .i64 0] 30)) := ((Below.refl _ _).alloc (Nat.le_refl _) _).alloc (by simp) _
  have HC := Check_all _ l iad ic (hkk.below hB) (hI.below hB) 0 0 hc
  have HB : Hid (Below w.heap.size w ((w.alloc (.cells #[.int .i64 0, .slice none 0 0] 77)).alloc (.cells #[.int .i64 0, .int .i64 0] 30))) := hB
  have k2 : ((w.alloc (.cells #[.int .i64 0, .slice none 0 0] 77)).alloc (.cells #[.int .i64 0, .int .i64 0] 30)).heap[w.heap.size]? = some (.cells #[.int .i64 0, .slice none 0 0] 77 (0, 0)) := ((below_new _ _).block w.heap.size (by simp)).trans (heap_new _ _)
  have k3 : ((w.alloc (.cells #[.int .i64 0, .slice none 0 0] 77)).alloc (.cells #[.int .i64 0, .int .i64 0] 30)).heap[w.heap.size + 1]? = some (.cells #[.int .i64 0, .int .i64 0] 30 (0, 0)) := by have := heap_new (w.alloc (.cells #[.int .i64 0, .slice none 0 0] 77)) (.cells #[.int .i64 0, .int .i64 0] 30); rwa [World.size_alloc] at this
  have HK : Hid (_ ∧ _) := ⟨k2, k3⟩
  have HG : Hid (KindsIn w ∧ InSl w l (.slice iad l.length ic) ∧ GL l) := ⟨hkk, hI, hg⟩
  clear hB hkk hI hc k2 k3 hg
  have hmk := make_zeros l.length (by omega)
  refine (callsIn_wide (n := 3)).1 ?_
  refine callsIn_of_wp_marks Tryd.func45 rfl trivial ?_ rfl
  simp only [Tryd.ntmps45, List.size_toArray, List.length_cons, List.length_nil, Nat.reduceAdd, Nat.reduceSub, Array.replicate_succ, Array.replicate_zero, List.push_toArray, List.append_toArray, List.nil_append, List.cons_append]
  refine wpIn_wide.2 ?_
  go_wp2_with (go_at_call 38; refine HC.mono ?_; rintro r w1 ⟨rfl, hb1⟩; have H1 : Hid (Below w.heap.size w w1 ∧ w1.heap[w.heap.size]? = some (.cells #[.int .i64 0, .slice none 0 0] 77 (0, 0)) ∧ w1.heap[w.heap.size + 1]? = some (.cells #[.int .i64 0, .int .i64 0] 30 (0, 0)) ∧ w.heap.size + 2 ≤ w1.heap.size) := ⟨below_seq HB.out hb1, (hb1.block w.heap.size (by simp; omega)).trans HK.out.1, (hb1.block (w.heap.size + 1) (by simp)).trans HK.out.2, by have := hb1.size; simp at this; omega⟩; clear hb1 HC)
  go_wp2_with (go_at_call 78; refine (told_box _ _ _ _).mono ?_; rintro r w2 ⟨p, hp, rfl, cp, hb2⟩; have H2 : Hid (A2 w w2 l.length (w1.heap.size + 1) p) := A2_of H1.out.1 H1.out.2.1 H1.out.2.2.1 H1.out.2.2.2 hp cp hb2; have HR := rules_any w2 l iad ic p HG.out.2.2 (HG.out.2.1.below H2.out.bel); clear hb2 cp hp hmk)
  go_wp2_with (go_at_call 79; refine HR.mono ?_; rintro r w3 ⟨b1, b2, b3, rfl, o1, o2, o3, q1, q2, ⟨cb, o4, q3, q4⟩, hb3⟩; have H3 : Hid (AB w ((w3.alloc (.cells #[.func (Fn.func 114) #[] #[.pointer (some ⟨b1, 0, none⟩), .pointer (some ⟨b2, 0, none⟩), .pointer (some ⟨b3, 0, none⟩)]] 144)).alloc (.cells #[.slice iad l.length ic] 22)) l iad ic (w1.heap.size + 1) p b1 b2 b3 cb w3.heap.size) := AB_of H2.out HG.out.1 HG.out.2.1 o1 o2 o3 q1 q2 o4 q3 q4 hb3; have hsl := store_least w3 b1 b2 b3; clear hb3 o1 o2 o3 q1 q2 o4 q3 q4 HR)
  go_wp2_with (go_at_call 80; refine (back_any _ _ _ _).mono ?_; rintro r w4 ⟨rfl, rfl⟩)
  obtain ⟨Wb, hWb⟩ : ∃ Wb, ((w3.alloc (.cells #[.func (Fn.func 114) #[] #[.pointer (some ⟨b1, 0, none⟩), .pointer (some ⟨b2, 0, none⟩), .pointer (some ⟨b3, 0, none⟩)]] 144)).alloc (.cells #[.slice iad l.length ic] 22)) = Wb := ⟨_, rfl⟩
  rw [hWb] at H3 ⊢
  have hBw := World.block_lt_of_cell? _ _ H3.out.cB
  have hrbw : w1.heap.size + 1 < Wb.heap.size := (Array.getElem?_eq_some_iff.1 H3.out.a2.kr).1
  have hwb := H3.out.a2.bel.size
  have ho1 := H3.out.a2.o1
  have hw2 : w.heap.size + 2 ≤ Wb.heap.size := by omega
  clear hsl hWb
  refine (wpIn_wide (n := 3)).1 ?_
  refine wpIn_rangeFunc_ownG (n := 3) rfl (by omega) (gf := 115) (lb := #[.pointer (some ⟨w3.heap.size + 1, 0, none⟩)]) rfl trivial (enters_of Tryd.func115 (by kernel_rfl) rfl)
    (back_stops 2 (by omega) (w3.heap.size + 1) w.heap.size ic iad l hlen Wb hBw H3.out.cB (ins_at HG.out.2.1 H3.out.a2.bel)) KpB.trans (KpB.put hwb hBw) (Below.refl _ _) (fun _ => rfl)
    (AI w Wb l (w1.heap.size + 1)) (fun c pre W => c = .ret ∧ AX w Wb l pre W) (AI.own hrbw hwb) (fun c pre W W' row h hg hr => ⟨h.1, AX.own hw2 pre W W' row h.2 hg hr⟩) (AI_start H3.out.a2)
    (fun x => { tmps := #[.slice iad l.length ic, undef, .pointer (some ⟨w.heap.size, 0, none⟩), .pointer (some ⟨w.heap.size + 1, 0, none⟩), .pointer (some ⟨w1.heap.size, 0, none⟩), .pointer (some ⟨w1.heap.size + 1 + 1, 0, none⟩), .func (Fn.func 112) #[] #[.pointer (some ⟨p, 0, none⟩)], .pointer (some ⟨w3.heap.size, 0, none⟩), .int .i64 (x.1 : Int), .slice iad l.length ic, .agg #[.int .i64 0, .int .i64 0], .pointer (some ⟨w1.heap.size, 0, none⟩), .int .i64 0, .bool false, undef, undef, .slice iad l.length ic, .int .i64 l.length, .slice (some ⟨w1.heap.size + 1, 0, none⟩) l.length l.length, .slice (some ⟨w1.heap.size + 1, 0, none⟩) l.length l.length, .func (Fn.func 112) #[] #[.pointer (some ⟨p, 0, none⟩)], .slice iad l.length ic, .func (Fn.func 112) #[] #[.pointer (some ⟨p, 0, none⟩)], .func (Fn.func 114) #[] #[.pointer (some ⟨b1, 0, none⟩), .pointer (some ⟨b2, 0, none⟩), .pointer (some ⟨b3, 0, none⟩)], .slice iad l.length ic, .func (Fn.func 115) #[] #[.pointer (some ⟨w3.heap.size + 1, 0, none⟩)], .int .i64 (x.1 : Int), valAt l x, undef, undef, undef, undef, undef, undef, undef, undef, undef, undef, undef, undef, undef, undef, undef, undef, undef, undef, undef], defers := [] }) ?assign ?body ?done ?stop
  case assign =>
    intro lp x W K hK
    unfold encB
    gi_wp2
    exact hK
  case body =>
    rintro lp pre x W hAI _
    have k5 := hAI.cell (by show w1.heap.size + 1 + 1 ≠ w1.heap.size + 1; omega) H3.out.a2.c5
    have k7 := hAI.cell (by have := H3.out.o1; show w3.heap.size ≠ w1.heap.size + 1; omega) H3.out.c7
    have kx := hAI.at_ x.2
    have kf : W.frozen? ⟨w1.heap.size + 1, x.1, none⟩ = false := (cells_of hAI.row).2.1 x.1
    have hRU : ∀ W', Below W.heap.size W W' → Calls Tryd.prog 114 #[.int .i64 (x.1 : Int), .pointer (some ⟨b1, 0, none⟩), .pointer (some ⟨b2, 0, none⟩), .pointer (some ⟨b3, 0, none⟩)] W' fun r w' => r = .returned (.int .i64 (ruleI l (RF l pre) (clF l) x.1)) ∧ Below W'.heap.size W' w' := fun W' hW' => rules1_any W' l (RF l pre) b1 b2 b3 x.1 HG.out.2.2 x.2 (RF_out l pre (Nat.le_refl _)) (fun j _ _ => hAI.rng j) (HG.out.1.below (below_seq hAI.bel hW')) ((hAI.grow hW').rules H3.out)
    have HRU : Hid _ := hRU
    have HAI : Hid (AI w Wb l (w1.heap.size + 1) pre W) := hAI
    have hxl := x.2
    have hxi : (x.1 : Int) < (l.length : Int) := by omega
    have hmx : Tryd.prog.follows .mixedOrders = true := by kernel_rfl
    clear hRU hAI
    gi_wp2
    refine wpIn_mono (Q := fun e a' w' => e = .normal ∧ ∃ w5, Below W.heap.size W w5 ∧ a' = { tmps := #[.slice iad l.length ic, undef, .pointer (some ⟨w.heap.size, 0, none⟩), .pointer (some ⟨w.heap.size + 1, 0, none⟩), .pointer (some ⟨w1.heap.size, 0, none⟩), .pointer (some ⟨w1.heap.size + 1 + 1, 0, none⟩), .func (Fn.func 112) #[] #[.pointer (some ⟨p, 0, none⟩)], .pointer (some ⟨w3.heap.size, 0, none⟩), .int .i64 (x.1 : Int), .slice iad l.length ic, .agg #[.int .i64 0, .int .i64 0], .pointer (some ⟨w1.heap.size, 0, none⟩), .int .i64 0, .bool false, undef, undef, .slice iad l.length ic, .int .i64 l.length, .slice (some ⟨w1.heap.size + 1, 0, none⟩) l.length l.length, .slice (some ⟨w1.heap.size + 1, 0, none⟩) l.length l.length, .func (Fn.func 112) #[] #[.pointer (some ⟨p, 0, none⟩)], .slice iad l.length ic, .func (Fn.func 112) #[] #[.pointer (some ⟨p, 0, none⟩)], .func (Fn.func 114) #[] #[.pointer (some ⟨b1, 0, none⟩), .pointer (some ⟨b2, 0, none⟩), .pointer (some ⟨b3, 0, none⟩)], .slice iad l.length ic, .func (Fn.func 115) #[] #[.pointer (some ⟨w3.heap.size + 1, 0, none⟩)], .int .i64 (x.1 : Int), valAt l x, .slice (some ⟨w1.heap.size + 1, 0, none⟩) l.length l.length, .int .i64 (x.1 : Int), .func (Fn.func 114) #[] #[.pointer (some ⟨b1, 0, none⟩), .pointer (some ⟨b2, 0, none⟩), .pointer (some ⟨b3, 0, none⟩)], .int .i64 (x.1 : Int), .int .i64 (ruleI l (RF l pre) (clF l) x.1), .pointer (some ⟨w1.heap.size + 1, x.1, none⟩), undef, undef, undef, undef, undef, undef, undef, undef, undef, undef, undef, undef, undef], defers := [] } ∧ w' = w5.setCell ⟨w1.heap.size + 1, x.1, none⟩ (.int .i64 (ruleI l (RF l pre) (clF l) x.1))) ?reg ?_
    case reg =>
      gi_region_with_o (refine ⟨trivial, ?_⟩; gi_at_call 114; refine (CallsIn.inRound lp (callsIn_wide.2 (HRU.out _ (by first | exact Below.refl _ _ | exact (Below.refl _ _).drew)))).mono ?_; rintro e w5 ⟨rfl, hb5⟩; have hW5 : Below W.heap.size W w5 := (by first | exact hb5 | exact below_seq (Below.refl _ _).drew hb5); have j5 := below_cell hW5 k5; have jx := below_cell hW5 kx; have jf : w5.frozen? ⟨w1.heap.size + 1, x.1, none⟩ = false := (cells_of (HAI.out.grow hW5).row).2.1 x.1; have H5 : Hid (Below W.heap.size W w5) := hW5; clear hb5 hW5)
      all_goals exact ⟨rfl, _, H5.out, rfl, rfl⟩
    clear k5 k7 kx kf HRU
    rintro e a' w' ⟨rfl, w5, hb5, rfl, rfl⟩
    have hz0 : 0 ≤ ruleI l (RF l pre) (clF l) x.1 := rule_pos HG.out.2.2.fwd x.2 (fun j => (HAI.out.rng j).1)
    have hzm : ruleI l (RF l pre) (clF l) x.1 ≤ 1103913000000000 := rule_most HG.out.2.2.fwd x.2 (fun j _ => (HAI.out.rng j).2)
    have hA5 := HAI.out.grow hb5
    have H5 : Hid (Below W.heap.size W w5 ∧ AI w Wb l (w1.heap.size + 1) pre w5) := ⟨hb5, hA5⟩
    have k5 := hA5.cell (by show w1.heap.size + 1 + 1 ≠ w1.heap.size + 1; omega) H3.out.a2.c5
    have kx := hA5.at_ x.2
    have i2 := (hA5.oth w.heap.size (by omega) (by omega)).trans H3.out.a2.k2
    have i3 := (hA5.oth (w.heap.size + 1) (by omega) (by omega)).trans H3.out.a2.k3
    have H6 : Hid (w5.heap[w.heap.size]? = some (.cells #[.int .i64 0, .slice none 0 0] 77 (0, 0)) ∧ w5.heap[w.heap.size + 1]? = some (.cells #[.int .i64 0, .int .i64 0] 30 (0, 0))) := ⟨i2, i3⟩
    obtain ⟨e1, f1, l1⟩ := cells_of (l := [_, _]) i2
    obtain ⟨e2, f2, l2⟩ := cells_of (l := [_, _]) i3
    have e10 := e1 0 _ rfl
    have e11 := e1 1 _ rfl
    have f10 := f1 0
    have f11 := f1 1
    have e20 := e2 0 _ rfl
    have e21 := e2 1 _ rfl
    have f20 := f2 0
    have f21 := f2 1
    have hne1 : ¬ w.heap.size = w1.heap.size + 1 := by omega
    have hne2 : ¬ w.heap.size + 1 = w1.heap.size + 1 := by omega
    clear e1 f1 e2 f2 i2 i3 hA5 hb5
    by_cases hz : 1099511627776 < ruleI l (RF l pre) (clF l) x.1
    · have HZ : Hid (1099511627776 < ruleI l (RF l pre) (clF l) x.1) := hz
      generalize hgz : ruleI l (RF l pre) (clF l) x.1 = z at *
      have HGZ : Hid (ruleI l (RF l pre) (clF l) x.1 = z) := hgz
      clear hgz
      gi_wp2
      exact ⟨((((((keepsO_below H5.out.1).trans (KeepsOthers.setCell _ _ _)).trans (KeepsOthers.setCell _ _ _)).trans (KeepsOthers.setCell _ _ _)).trans (KeepsOthers.setCell _ _ _)).trans (KeepsOthers.setCell _ _ _)).from _, rfl,
        ⟨(((((H5.out.2.bel.setCell (by show w.heap.size ≤ w1.heap.size + 1; omega) _).setCell (Nat.le_refl _) _).setCell (Nat.le_refl _) _).setCell (Nat.le_succ _) _).setCell (Nat.le_succ _) _), (by simpa using H5.out.2.siz),
          ⟨pre, x, rfl, fun j => (HAI.out.rng j).2, (by rw [HGZ.out]; exact HZ.out), set_two ((other_two (by omega) _ _).trans ((Below.heap_setCell _ _ _ _ hne2).trans H6.out.2))⟩, (other_two (by omega) _ _).trans (set_two ((Below.heap_setCell _ _ _ _ hne1).trans H6.out.1))⟩⟩
    · have HZ : Hid (ruleI l (RF l pre) (clF l) x.1 ≤ 1099511627776) := by show _ ≤ _; omega
      generalize hgz : ruleI l (RF l pre) (clF l) x.1 = z at *
      have HGZ : Hid (ruleI l (RF l pre) (clF l) x.1 = z) := hgz
      clear hgz
      gi_wp2
      have hn := H5.out.2.next (by omega) HG.out.2.2 x (by rw [HGZ.out]; exact HZ.out)
      rw [HGZ.out] at hn
      exact ⟨((keepsO_below H5.out.1).trans (KeepsOthers.setCell _ _ _)).from _, ⟨(H5.out.1.mono HAI.out.bel.size).setCell (by show w.heap.size ≤ w1.heap.size + 1; omega) _, fun _ => hn.cell (by have := H3.out.o1; show w3.heap.size + 1 ≠ w1.heap.size + 1; omega) H3.out.cB⟩, hn⟩
  case done =>
    rintro D ys W hD ⟨hdn, hyl⟩ hAI hK
    have hRF := RF_rest l.length ys hyl hdn (Nat.le_refl _)
    have k5 := hAI.cell (by show w1.heap.size + 1 + 1 ≠ w1.heap.size + 1; omega) H3.out.a2.c5
    have hT0 : ∀ W', Below W.heap.size W W' → Calls Tryd.prog 112 #[.int .i64 0, .pointer (some ⟨p, 0, none⟩)] W' fun r w' => r = .returned (.int .i64 (RF l ys 0)) ∧ w' = W' := fun W' hW' => told1_same W' p l.length (RF l ys) 0 hlen (Nat.zero_le _) (RF_out l ys (Nat.le_refl _)) ((hAI.told H3.out).below hW')
    have HT0 : Hid _ := hT0
    have i2 := (hAI.oth w.heap.size (by omega) (by omega)).trans H3.out.a2.k2
    have i3 := (hAI.oth (w.heap.size + 1) (by omega) (by omega)).trans H3.out.a2.k3
    have H6 : Hid (W.heap[w.heap.size]? = some (.cells #[.int .i64 0, .slice none 0 0] 77 (0, 0)) ∧ W.heap[w.heap.size + 1]? = some (.cells #[.int .i64 0, .int .i64 0] 30 (0, 0)) ∧ AI w Wb l (w1.heap.size + 1) ys W ∧ RF l ys = restAt l l.length ∧ W.heap[D]? = some (.deferred (some []))) := ⟨i2, i3, hAI, hRF, hK⟩
    obtain ⟨e1, f1, l1⟩ := cells_of (l := [_, _]) i2
    obtain ⟨e2, f2, l2⟩ := cells_of (l := [_, _]) i3
    have e10 := e1 0 _ rfl
    have e11 := e1 1 _ rfl
    have f10 := f1 0
    have f11 := f1 1
    have e20 := e2 0 _ rfl
    have e21 := e2 1 _ rfl
    have f20 := f2 0
    have f21 := f2 1
    have hne1 : ¬ w.heap.size = w1.heap.size + 1 + 1 := by omega
    have hne2 : ¬ w.heap.size + 1 = w1.heap.size + 1 + 1 := by omega
    clear e1 f1 e2 f2 i2 i3 hAI hT0 hRF hK
    obtain ⟨z, hz0⟩ : ∃ z, RF l ys 0 = z := ⟨_, rfl⟩
    rw [hz0] at HT0
    have HZ0 : Hid (RF l ys 0 = z) := hz0
    clear hz0
    go_wp2_with fail
    refine wp_region_noPanic ?_
    go_region_with (first | (go_at_call 112; refine (HT0.out _ (by first | exact Below.refl _ _ | exact (Below.refl _ _).drew)).mono ?_; rintro r wd ⟨rfl, rfl⟩))
    all_goals
      refine NoPanic.normal ?_
      go_wp2_with fail
      obtain ⟨i2, i3, hAI, hRF, hK⟩ := H6.out
      have o1 : ∀ k, k ≠ w.heap.size → k ≠ w.heap.size + 1 → ((((W.setCell ⟨w.heap.size, 0, none⟩ (.int .i64 z)).setCell ⟨w.heap.size, 1, none⟩ (.slice (some ⟨w1.heap.size + 1, 0, none⟩) l.length l.length)).setCell ⟨w.heap.size + 1, 0, none⟩ (.int .i64 0)).setCell ⟨w.heap.size + 1, 1, none⟩ (.int .i64 0)).drew.heap[k]? = W.heap[k]? := fun k h1 h2 => (other_two (w := ((W.setCell ⟨w.heap.size, 0, none⟩ (.int .i64 z)).setCell ⟨w.heap.size, 1, none⟩ (.slice (some ⟨w1.heap.size + 1, 0, none⟩) l.length l.length))) h2 _ _).trans (other_two (w := W) h1 _ _)
      have n2 : ((((W.setCell ⟨w.heap.size, 0, none⟩ (.int .i64 z)).setCell ⟨w.heap.size, 1, none⟩ (.slice (some ⟨w1.heap.size + 1, 0, none⟩) l.length l.length)).setCell ⟨w.heap.size + 1, 0, none⟩ (.int .i64 0)).setCell ⟨w.heap.size + 1, 1, none⟩ (.int .i64 0)).drew.heap[w.heap.size]? = some (.cells #[.int .i64 z, .slice (some ⟨w1.heap.size + 1, 0, none⟩) l.length l.length] 77 (0, 0)) := (other_two (w := ((W.setCell ⟨w.heap.size, 0, none⟩ (.int .i64 z)).setCell ⟨w.heap.size, 1, none⟩ (.slice (some ⟨w1.heap.size + 1, 0, none⟩) l.length l.length))) (by omega) _ _).trans (set_two i2)
      have n3 : ((((W.setCell ⟨w.heap.size, 0, none⟩ (.int .i64 z)).setCell ⟨w.heap.size, 1, none⟩ (.slice (some ⟨w1.heap.size + 1, 0, none⟩) l.length l.length)).setCell ⟨w.heap.size + 1, 0, none⟩ (.int .i64 0)).setCell ⟨w.heap.size + 1, 1, none⟩ (.int .i64 0)).drew.heap[w.heap.size + 1]? = some (.cells #[.int .i64 0, .int .i64 0] 30 (0, 0)) := set_two (w := ((W.setCell ⟨w.heap.size, 0, none⟩ (.int .i64 z)).setCell ⟨w.heap.size, 1, none⟩ (.slice (some ⟨w1.heap.size + 1, 0, none⟩) l.length l.length))) ((other_two (w := W) (by omega) _ _).trans i3)
      have hK' := (o1 D (by omega) (by omega)).trans hK
      have nr := (o1 (w1.heap.size + 1) (by omega) (by omega)).trans hAI.row
      have hB4 : Below w.heap.size w ((((W.setCell ⟨w.heap.size, 0, none⟩ (.int .i64 z)).setCell ⟨w.heap.size, 1, none⟩ (.slice (some ⟨w1.heap.size + 1, 0, none⟩) l.length l.length)).setCell ⟨w.heap.size + 1, 0, none⟩ (.int .i64 0)).setCell ⟨w.heap.size + 1, 1, none⟩ (.int .i64 0)).drew := (((((hAI.bel.setCell (p := ⟨w.heap.size, 0, none⟩) (Nat.le_refl _) (.int .i64 z)).setCell (p := ⟨w.heap.size, 1, none⟩) (Nat.le_refl _) (.slice (some ⟨w1.heap.size + 1, 0, none⟩) l.length l.length)).setCell (p := ⟨w.heap.size + 1, 0, none⟩) (Nat.le_succ _) (.int .i64 0)).setCell (p := ⟨w.heap.size + 1, 1, none⟩) (Nat.le_succ _) (.int .i64 0))).drew
      clear o1
      generalize ((((W.setCell ⟨w.heap.size, 0, none⟩ (.int .i64 z)).setCell ⟨w.heap.size, 1, none⟩ (.slice (some ⟨w1.heap.size + 1, 0, none⟩) l.length l.length)).setCell ⟨w.heap.size + 1, 0, none⟩ (.int .i64 0)).setCell ⟨w.heap.size + 1, 1, none⟩ (.int .i64 0)).drew = X at *
      refine ⟨by simp, .inl ⟨_, _, rfl, run_takeDeferred hK', ?_⟩⟩
      refine ⟨_, An_ends (g := w.heap.size) (g' := w.heap.size + 1) (a0 := .int .i64 z) (a1 := .slice (some ⟨w1.heap.size + 1, 0, none⟩) l.length l.length) (c := .int .i64 0) (k := .int .i64 0) (put_other n2 (by omega)) (put_other n3 (by omega)) rfl rfl, ?_⟩
      refine ⟨hB4.trans (belowK_b (w := w) (Nat.le_refl _) X D _ _ (by omega) hK' rfl rfl), .inr ⟨fun j => (by have := (hAI.rng j).2; rw [hRF] at this; exact this), w1.heap.size + 1, by omega, by rw [← HZ0.out, hRF]; rfl, fun j hj => ?_, ?_⟩⟩
      · have hc := (cells_of (put_other (o' := .deferred none) nr (show w1.heap.size + 1 ≠ D by omega))).1 j (.int .i64 (RF l ys j)) (by simp [rowV, hj])
        rw [hRF] at hc
        exact hc
      · have hc := put_other (o' := .deferred none) nr (show w1.heap.size + 1 ≠ D by omega)
        rw [hRF] at hc
        exact hc
  case stop =>
    rintro D c pre W hD ⟨hdn, hyl⟩ ⟨rfl, hAX⟩ hK
    have HX : Hid (AX w Wb l pre W) := hAX
    clear hAX
    gi_wp2
    obtain ⟨ini, x, rfl, q1, q2, q3⟩ := HX.out.out
    obtain ⟨r1, r2⟩ := an_fault hdn hyl q1 q2
    refine ⟨by simp, .inl ⟨_, _, rfl, run_takeDeferred hK, ?_⟩⟩
    refine ⟨_, An_ends (g := w.heap.size) (g' := w.heap.size + 1) (a0 := .int .i64 0) (a1 := .slice none 0 0) (c := .int .i64 3) (k := .int .i64 x.1) (put_other HX.out.k2 (by omega)) (put_other q3 (by omega)) rfl rfl, ?_⟩
    exact ⟨HX.out.bel.trans (belowK_b (w := w) (Nat.le_refl _) W D _ _ (by omega) hK rfl rfl), .inl ⟨x.1, x.2, r1, r2, rfl⟩⟩

end Go.Proofs.YtgemadoieielcacDoor
