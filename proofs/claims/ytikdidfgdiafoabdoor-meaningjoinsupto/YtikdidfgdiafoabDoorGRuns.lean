import Derived.Test.YtikdidfgdiafoabDoorGOkay
import Derived.Laws.MakeOwn
import Derived.Test.YtikdidfgdiafoabDoorGDoes
namespace Go.Proofs.YtikdidfgdiafoabDoor
open Go.ChangeShapes Go.WideShapes Go.ChangeAt Go.RowKit

/-- A list that was lent, and its room. -/
def LentSl (w : World) (vs : List Int) (m : Int) (v : Value) : Prop := ∃ b o cap, v = .slice (some ⟨b, o, none⟩) vs.length cap ∧ vs.length + 3 ≤ cap ∧ (∀ j, j < vs.length → w.cell? ⟨b, o + j, none⟩ = some (.int .i64 (vs.getD j 0))) ∧ (∀ j, vs.length ≤ j → j < vs.length + 3 → w.cell? ⟨b, o + j, none⟩ = some (.int .i64 m))

theorem LentSl.below {w w' : World} {vs : List Int} {m : Int} {v : Value} (h : LentSl w vs m v) (hb : Below w.heap.size w w') : LentSl w' vs m v := by
  obtain ⟨b, o, cap, h1, h2, h3, h4⟩ := h
  exact ⟨b, o, cap, h1, h2, fun j hj => below_cell hb (h3 j hj), fun j hj hj' => below_cell hb (h4 j hj hj')⟩

theorem LentSl.plain {w : World} {vs : List Int} {m : Int} {v : Value} (h : LentSl w vs m v) : IntSl w vs v := by
  obtain ⟨b, o, cap, h1, -, h3, -⟩ := h
  exact ⟨_, _, h1, .inr ⟨b, o, rfl, h3⟩⟩

set_option maxRecDepth 20000 in
set_option maxHeartbeats 4000000 in
/-- Still, of a list that was lent and stands as it did. -/
theorem Still_any (w : World) (vs : List Int) (m : Int) (v v' : Value) (hl : vs.length ≤ 4194304) (h : LentSl w vs m v) (h' : IntSl w vs v') :
    Calls Tryd.prog 13 #[v, v', .int .i64 m] w fun r w' => r = .returned (.bool true) ∧ Below w.heap.size w w' := by
  obtain ⟨b, o, cap, rfl, hcap, hrow, hmark⟩ := h
  obtain ⟨ad', c', rfl, hc'⟩ := h'
  have HR : Hid ((∀ j, j < vs.length → w.cell? ⟨b, o + j, none⟩ = some (.int .i64 (vs.getD j 0))) ∧ (∀ j, vs.length ≤ j → j < vs.length + 3 → w.cell? ⟨b, o + j, none⟩ = some (.int .i64 m)) ∧ (vs = [] ∨ ∃ b o, ad' = some ⟨b, o, none⟩ ∧ ∀ j, j < vs.length → w.cell? ⟨b, o + j, none⟩ = some (.int .i64 (vs.getD j 0)))) := ⟨hrow, hmark, hc'⟩
  clear hrow hmark hc'
  go_enter Tryd.func13, Tryd.ntmps13
  go_wp2_with fail
  go_loopw [17] (fun x wr => ∃ j : Nat, j ≤ vs.length + 3 ∧ x = .int .i64 j ∧ Below w.heap.size w wr) (fun x _ => vs.length + 3 - (intOf x).toNat)
  case atStart => exact ⟨0, Nat.zero_le _, rfl, Below.refl _ _⟩
  case round =>
    obtain ⟨j, hj, rfl, hb⟩ := hrel
    by_cases hlt : j < vs.length
    · have c0 := below_cell hb (HR.out.1 j hlt)
      rcases HR.out.2.2 with h | ⟨b', o', had', hrow'⟩
      · rw [h] at hlt; simp at hlt
      subst had'
      have d0 := below_cell hb (hrow' j hlt)
      clear hrow'
      generalize vs.getD j 0 = z at *
      have HB : Hid (Below w.heap.size w wr) := hb
      clear hb
      go_wp2_with fail
      go_roundw
      case rel => exact ⟨j + 1, by omega, by go_num, HB.out⟩
      case measure => simp [intOf]; omega
    · by_cases hlt2 : j < vs.length + 3
      · have c0 := below_cell hb (HR.out.2.1 j (by omega) hlt2)
        have HB : Hid (Below w.heap.size w wr) := hb
        clear hb
        go_wp2_with fail
        go_roundw
        case rel => exact ⟨j + 1, by omega, by go_num, HB.out⟩
        case measure => simp [intOf]; omega
      · have hje : j = vs.length + 3 := by omega
        subst hje
        go_wp2_with fail
        go_ret
        exact ⟨rfl, hb⟩
end Go.Proofs.YtikdidfgdiafoabDoor
namespace Go.Proofs.YtikdidfgdiafoabDoor
open Go.ChangeShapes Go.WideShapes Go.ChangeAt Go.RowKit

theorem IntSl.arg {w w1 : World} {vs : List Int} {ad : Option Addr} {c : Nat} (h : IntSl w vs (.slice ad vs.length c)) (hb : Below w.heap.size w w1) : ∀ ad', ad = some ad' → ∀ j u, (intVs vs)[j]? = some u → w1.cell? (ad'.add j) = some u := by
  intro ad' hd j u hj
  have hjl : j < vs.length := by have := (List.getElem?_eq_some_iff.1 hj).1; simpa [intVs] using this
  obtain ⟨ad2, c2, e, h2⟩ := h
  cases e
  rcases h2 with h2 | ⟨b, o, h2, h3⟩
  · subst h2; simp at hjl
  · rw [hd] at h2
    cases h2
    rw [Addr.add_lit]
    refine below_cell hb ?_
    rw [h3 j hjl]
    have e : (intVs vs)[j]? = some (Value.int .i64 (vs.getD j 0)) := by simp [intVs, List.getD, hjl]
    rw [e] at hj
    exact hj

theorem marks_cell (w : World) (m : Int) (j : Nat) (u : Value) (hj : [Value.int .i64 m, .int .i64 m, .int .i64 m][j]? = some u) : (w.alloc (.cells #[.int .i64 m, .int .i64 m, .int .i64 m] 3)).cell? ((⟨w.heap.size, 0, none⟩ : Addr).add j) = some u := by
  rw [Addr.add_lit]
  have := (cells_of (l := [_, _, _]) (heap_alloc_new w (.cells #[.int .i64 m, .int .i64 m, .int .i64 m] 3))).1 j u hj
  simpa using this

set_option maxRecDepth 20000 in
set_option maxHeartbeats 4000000 in
/-- Lend. -/
theorem Lend_any (w : World) (vs : List Int) (m : Int) (ad : Option Addr) (c : Nat) (hl : vs.length ≤ 4194304) (h : IntSl w vs (.slice ad vs.length c)) (hnil : ad = none → vs.length = 0 ∧ c = 0) :
    Calls Tryd.prog 9 #[.slice ad vs.length c, .int .i64 m] w fun r w' => ∃ u, r = .returned u ∧ LentSl w' vs m u ∧ Below w.heap.size w w' := by
  obtain ⟨i0, hi0, hz0, hz1, hz2⟩ := info_parts info3
  obtain ⟨w1, hrun, hown, hgr⟩ := run_make_own (P := Tryd.prog) w w.heap.size 23 3 i0 _ 1 Tryd.underlying23 hi0 hz0 hz1 .i64 .i64 (vs.length + 3) (by rw [hz2]; omega) (by unfold maxLen; omega) (Nat.le_refl _)
  have hmk : (Instr.makeSlice 23 (.int .i64 0) (.int .i64 ((vs.length : Int) + 3))).run Tryd.prog w = .ok (.slice (some ⟨w.heap.size, 0, none⟩) 0 (vs.length + 3)) w1 := hrun
  have hb1 : Below w.heap.size w w1 := (Below.refl _ w).grown hgr (Nat.le_refl _) (by intro k hk; cases hk)
  have HM : Hid (w1.ownsRow w.heap.size 3 1 (.slice (some ⟨w.heap.size, 0, none⟩) 0 (vs.length + 3)) 0 [] ∧ Below w.heap.size w w1 ∧ (∀ ad', ad = some ad' → ∀ j u, (intVs vs)[j]? = some u → w1.cell? (ad'.add j) = some u) ∧ (ad = none → vs.length = 0 ∧ c = 0)) := ⟨hown, hb1, h.arg hb1, hnil⟩
  clear hrun hown hgr hb1 h hnil
  go_enter Tryd.func9, Tryd.ntmps9
  go_wp2_with (first
    | (at_builtin; refine wpList_append_fits_any _ rfl (.tmp 9) (.tmp 10) 23 rfl w.heap.size 3 i0 1 Tryd.underlying23 hi0 hz1 w.heap.size 0 (vs.length + 3) [] rfl HM.out.1 ad vs.length c (intVs vs) rfl (by simp [intVs]) HM.out.2.2.2 HM.out.2.2.1 (fun u hu => by obtain ⟨x, _, rfl⟩ := List.mem_map.1 hu; rfl) (by omega) ?_; intro w2 ho2 hg2; simp only [Nat.zero_add, List.nil_append] at ho2 ⊢; have H2 : Hid (w2.ownsRow w.heap.size 3 1 (.slice (some ⟨w.heap.size, 0, none⟩) vs.length (vs.length + 3)) vs.length (intVs vs) ∧ Below w.heap.size w w2) := ⟨ho2, HM.out.2.1.grown hg2 HM.out.2.1.size (by intro k hk; cases hk; exact Nat.le_refl _)⟩; clear ho2 hg2)
    | (at_builtin; refine wpList_append_fits_any _ rfl (.tmp 11) (.tmp 15) 23 rfl w.heap.size 3 i0 1 Tryd.underlying23 hi0 hz1 w.heap.size vs.length (vs.length + 3) (intVs vs) rfl (ownsRow_below H2.out.1 ((Below.refl _ _).alloc (Nat.le_refl _) _)) (some ⟨w2.heap.size, 0, none⟩) 3 3 [.int .i64 m, .int .i64 m, .int .i64 m] rfl rfl (by intro e; cases e) (by intro ad' e j u hj; cases e; exact marks_cell w2 m j u hj) (by intro u hu; simp at hu; subst hu; rfl) (Nat.le_refl _) ?_; intro w3 ho3 hg3; have H3 : Hid (w3.ownsRow w.heap.size 3 1 (.slice (some ⟨w.heap.size, 0, none⟩) (vs.length + 3) (vs.length + 3)) (vs.length + 3) (intVs vs ++ [.int .i64 m, .int .i64 m, .int .i64 m]) ∧ Below w.heap.size w w3) := ⟨ho3, (H2.out.2.alloc H2.out.2.size _).grown hg3 (by have := H2.out.2.size; simp; omega) (by intro k hk; cases hk; exact Nat.le_refl _)⟩; clear ho3 hg3))
  go_ret
  refine ⟨_, rfl, ⟨w.heap.size, 0, vs.length + 3, rfl, Nat.le_refl _, fun j hj => ?_, fun j hj hj' => ?_⟩, H3.out.2⟩
  · have := H3.out.1.cells rfl j (.int .i64 (vs.getD j 0)) (by rw [List.getElem?_append_left (by simpa [intVs] using hj)]; simp [intVs, List.getD, hj])
    rwa [Addr.add_lit] at this
  · have := H3.out.1.cells rfl j (.int .i64 m) (by
      rw [List.getElem?_append_right (by simpa [intVs] using hj)]
      have e : j - (intVs vs).length = 0 ∨ j - (intVs vs).length = 1 ∨ j - (intVs vs).length = 2 := by simp [intVs]; omega
      rcases e with e | e | e <;> rw [e] <;> rfl)
    rwa [Addr.add_lit] at this
end Go.Proofs.YtikdidfgdiafoabDoor
namespace Go.Proofs.YtikdidfgdiafoabDoor
open Go.ChangeShapes Go.WideShapes Go.ChangeAt Go.RowKit

set_option maxRecDepth 20000 in
set_option maxHeartbeats 4000000 in
theorem runs_walk (hdoes : ∀ W, Ready W → Calls Tryd.prog 5 #[] W fun r w' => r = .returned (.bool true) ∧ Below W.heap.size W w') (a : List St) (vs is : List Int) (w : World) (ad va ia : Option Addr) (ac vc ic : Nat) (hr : Ready w) (hsl : St.Sl w a (.slice ad a.length ac)) (hb : St.bulkAll a ≤ 1048576) (hlv : vs.length ≤ 1048576) (hli : is.length ≤ 1048576)
    (hv : IntSl w vs (.slice va vs.length vc)) (hi : IntSl w is (.slice ia is.length ic)) (hvn : va = none → vs.length = 0 ∧ vc = 0) (hin : ia = none → is.length = 0 ∧ ic = 0) :
    Calls Tryd.prog 3 #[.slice ad a.length ac, .slice va vs.length vc, .slice ia is.length ic] w fun r w' => r = .returned (.bool true) ∧ Below w.heap.size w w' := by
  obtain ⟨cx, cy, hx⟩ := checkV_two a
  obtain ⟨cl, hcl⟩ : ∃ c, (decide (St.deepAll 0 a ≤ 300) && decide ((St.countAll a : Int) ≤ 2000)) = c := ⟨_, rfl⟩
  obtain ⟨m, hm⟩ : ∃ m, meanOf a vs is cx cy = m := ⟨_, rfl⟩
  have hmp := meanOf_puts a vs is cx cy
  rw [hm] at hmp
  obtain ⟨⟨fc, fk⟩, ms⟩ := m
  have HD : Hid (∀ W, Ready W → Calls Tryd.prog 5 #[] W fun r w' => r = .returned (.bool true) ∧ Below W.heap.size W w') := hdoes
  have HA : Hid ((Ready w ∧ St.Sl w a (.slice ad a.length ac)) ∧ (checkV a = .agg #[.int .i64 cx, .int .i64 cy] ∧ (decide (St.deepAll 0 a ≤ 300) && decide ((St.countAll a : Int) ≤ 2000)) = cl ∧ meanOf a vs is cx cy = ((fc, fk), ms) ∧ ms.vars.length ≤ 8 ∧ ms.puts.length ≤ 20000 ∧ ms.steps ≤ 20000) ∧ (IntSl w vs (.slice va vs.length vc) ∧ (va = none → vs.length = 0 ∧ vc = 0)) ∧ (IntSl w is (.slice ia is.length ic) ∧ (ia = none → is.length = 0 ∧ ic = 0))) := ⟨⟨hr, hsl⟩, ⟨hx, hcl, hm, hmp⟩, ⟨hv, hvn⟩, ⟨hi, hin⟩⟩
  clear hdoes hr hsl hx hcl hm hmp hv hvn hi hin
  cases cl with
  | false =>
    go_enter Tryd.func3, Tryd.ntmps3
    go_wp2_with (go_at_call 5; refine (HD.out w HA.out.1.1).mono ?_; rintro r w1 ⟨rfl, hb1⟩; have H1 : Hid (Below w.heap.size w w1) := hb1; clear hb1)
    go_wp2_with (go_at_call 6; refine (claims_b a w1 _ false hb (HA.out.1.2.below H1.out) HA.out.2.1.2.1).mono ?_; rintro r w2 ⟨rfl, hb2⟩; have H2 : Hid (Below w.heap.size w w2) := below_seq H1.out hb2; clear hb2)
    go_ret
    exact ⟨rfl, H2.out⟩
  | true =>
    go_enter Tryd.func3, Tryd.ntmps3
    go_wp2_with (go_at_call 5; refine (HD.out w HA.out.1.1).mono ?_; rintro r w1 ⟨rfl, hb1⟩; have H1 : Hid (Below w.heap.size w w1) := hb1; clear hb1)
    go_wp2_with (go_at_call 6; refine (claims_b a w1 _ true hb (HA.out.1.2.below H1.out) HA.out.2.1.2.1).mono ?_; rintro r w2 ⟨rfl, hb2⟩; have H2 : Hid (Below w.heap.size w w2) := below_seq H1.out hb2; clear hb2)
    go_wp2_with (go_at_call 7; refine (Mean_is w2 _ a va ia _ vc _ ic vs is cx cy (HA.out.1.2.below H2.out) hb HA.out.2.1.1 (HA.out.2.2.1.1.below H2.out) (HA.out.2.2.2.1.below H2.out)).mono ?_; intro r w3 h3; rw [HA.out.2.1.2.2.1] at h3; obtain ⟨vad, vn, vcap, pad, pn, pcap, rfl, H3⟩ := h3.open; clear h3)
    have H3' : Hid (Kept2 ((w3.alloc (.cells #[.slice vad vn vcap, .slice pad pn pcap, .int .i64 ms.steps] 28)).alloc (.cells #[.int .i64 fc, .int .i64 fk] 31)) w3.heap.size (.slice vad vn vcap) (.slice pad pn pcap) (.int .i64 ms.steps) (.int .i64 fc) (.int .i64 fk) ∧ Below w3.heap.size w3 ((w3.alloc (.cells #[.slice vad vn vcap, .slice pad pn pcap, .int .i64 ms.steps] 28)).alloc (.cells #[.int .i64 fc, .int .i64 fk] 31)) ∧ Below w.heap.size w ((w3.alloc (.cells #[.slice vad vn vcap, .slice pad pn pcap, .int .i64 ms.steps] 28)).alloc (.cells #[.int .i64 fc, .int .i64 fk] 31))) := by
      have h1 : Below w3.heap.size w3 ((w3.alloc (.cells #[.slice vad vn vcap, .slice pad pn pcap, .int .i64 ms.steps] 28)).alloc (.cells #[.int .i64 fc, .int .i64 fk] 31)) := ((Below.refl _ w3).alloc (Nat.le_refl _) _).alloc (by simp) _
      exact ⟨Kept2.made w3 _ _ _ _ _, h1, below_seq (below_seq H2.out H3.out.2.2.1) h1⟩
    generalize (w3.alloc (.cells #[.slice vad vn vcap, .slice pad pn pcap, .int .i64 ms.steps] 28)).alloc (.cells #[.int .i64 fc, .int .i64 fk] 31) = w3' at *
    go_wp2_with (go_at_call 8; refine (Twin_any (St.bulkAll a + 1) a w3' _ (Nat.lt_succ_self _) (by omega) (HA.out.1.2.below H3'.out.2.2)).mono ?_; rintro r w4 ⟨v4, bl, rfl, hsl4, hnd4, hb4⟩; obtain ⟨oad, oc, rfl, -⟩ := id hsl4.plain; have H4 : Hid ((St.SlQ (fun b => w3'.heap.size ≤ b) w4 a (.slice oad a.length oc) bl ∧ bl.Nodup) ∧ Below w3'.heap.size w3' w4 ∧ Below w.heap.size w w4) := ⟨⟨hsl4, hnd4⟩, hb4, below_seq H3'.out.2.2 hb4⟩; clear hsl4 hnd4 hb4)
    have PH : Phase 1 := trivial
    go_wp2_with (go_at_call 9; guard_hyp PH : Phase 1; clear PH; refine (Lend_any w4 vs (-9) va vc (by omega) (HA.out.2.2.1.1.below H4.out.2.2) HA.out.2.2.1.2).mono ?_; rintro r w5 ⟨v5, rfl, hl5, hb5⟩; have H5 : Hid (LentSl w5 vs (-9) v5 ∧ Below w4.heap.size w4 w5 ∧ Below w.heap.size w w5) := ⟨hl5, hb5, below_seq H4.out.2.2 hb5⟩; obtain ⟨lb, lo, lc, rfl, -⟩ := hl5; clear hb5; have PH : Phase 2 := trivial)
    go_wp2_with (go_at_call 9; guard_hyp PH : Phase 2; clear PH; refine (Lend_any w5 is (-9) ia ic (by omega) (HA.out.2.2.2.1.below H5.out.2.2) HA.out.2.2.2.2).mono ?_; rintro r w6 ⟨v6, rfl, hl6, hb6⟩; have H6 : Hid (LentSl w6 is (-9) v6 ∧ Below w5.heap.size w5 w6 ∧ Below w.heap.size w w6) := ⟨hl6, hb6, below_seq H5.out.2.2 hb6⟩; obtain ⟨kb, ko, kc, rfl, -⟩ := hl6; clear hb6)
    have HL : Hid ((Ready w6 ∧ St.Sl w6 a (.slice ad a.length ac) ∧ IntSl w6 vs (.slice va vs.length vc) ∧ IntSl w6 is (.slice ia is.length ic)) ∧ (St.SlQ (fun b => w3'.heap.size ≤ b) w6 a (.slice oad a.length oc) bl ∧ bl.Nodup) ∧ (LentSl w6 vs (-9) (.slice (some ⟨lb, lo, none⟩) vs.length lc) ∧ LentSl w6 is (-9) (.slice (some ⟨kb, ko, none⟩) is.length kc)) ∧ (IntSl w6 ms.vars (.slice vad vn vcap) ∧ PutSl w6 ms.puts (.slice pad pn pcap)) ∧ Kept2 w6 w3.heap.size (.slice vad vn vcap) (.slice pad pn pcap) (.int .i64 ms.steps) (.int .i64 fc) (.int .i64 fk)) := by
      have b46 := below_seq H5.out.2.1 H6.out.2.1
      have b36 := below_seq H4.out.2.1 b46
      have b06 := below_seq H3'.out.2.1 b36
      exact ⟨⟨HA.out.1.1.below H6.out.2.2, HA.out.1.2.below H6.out.2.2, HA.out.2.2.1.1.below H6.out.2.2, HA.out.2.2.2.1.below H6.out.2.2⟩, ⟨SlQ_below H4.out.1.1 b46, H4.out.1.2⟩, ⟨H5.out.1.below H6.out.2.1, H6.out.1⟩, ⟨H3.out.1.below b06, H3.out.2.1.below b06⟩, H3'.out.1.below b36⟩
    have H0 : Hid (Below w.heap.size w w6) := H6.out.2.2
    have HE : Hid (checkV a = .agg #[.int .i64 cx, .int .i64 cy] ∧ meanOf a vs is cx cy = ((fc, fk), ms) ∧ ms.vars.length ≤ 8 ∧ ms.puts.length ≤ 20000 ∧ ms.steps ≤ 20000) := ⟨HA.out.2.1.1, HA.out.2.1.2.2⟩
    clear H1 H2 H3 H3' H4 H5 H6 HA HD
    go_wp2_with fail
    go_loopw [32] (fun x wr => ∃ j : Nat, j ≤ 2 ∧ x = .int .i64 j ∧ Below w6.heap.size w6 wr) (fun x _ => 2 - (intOf x).toNat)
    case atStart => exact ⟨0, Nat.zero_le _, rfl, Below.refl _ _⟩
    case round =>
      obtain ⟨j, hj, rfl, hbr⟩ := hrel
      by_cases hlt : j < 2
      · have HB : Hid (Below w6.heap.size w6 wr) := hbr
        clear hbr
        go_wp2_with (go_at_call 10; refine (Run_is wr _ a _ _ _ _ _ _ vs is cx cy _ bl (HL.out.1.1.below HB.out) (SlQ_below HL.out.2.1.1 HB.out) HL.out.2.1.2 hb HE.out.1 (HL.out.2.2.1.1.plain.below HB.out) (HL.out.2.2.1.2.plain.below HB.out)).mono ?_; intro r w7 h7; rw [HE.out.2.1] at h7; obtain ⟨xad, xn, xcap, yad, yn, ycap, rfl, H7⟩ := h7.open; clear h7; have hk7 := HL.out.2.2.2.2.below (below_seq HB.out H7.out.2.2.1); obtain ⟨c1, f1, l1⟩ := cells_of (l := [_, _, _]) hk7.1; obtain ⟨c2, f2, l2⟩ := cells_of (l := [_, _]) hk7.2; have c10 := c1 0 _ rfl; have c11 := c1 1 _ rfl; have c12 := c1 2 _ rfl; have c20 := c2 0 _ rfl; have c21 := c2 1 _ rfl; clear c1 c2 f1 f2 hk7)
        have H8 : Hid (Kept2 ((w7.alloc (.cells #[.slice xad xn xcap, .slice yad yn ycap, .int .i64 ms.steps] 28)).alloc (.cells #[.int .i64 fc, .int .i64 fk] 31)) w7.heap.size (.slice xad xn xcap) (.slice yad yn ycap) (.int .i64 ms.steps) (.int .i64 fc) (.int .i64 fk) ∧ Below w7.heap.size w7 ((w7.alloc (.cells #[.slice xad xn xcap, .slice yad yn ycap, .int .i64 ms.steps] 28)).alloc (.cells #[.int .i64 fc, .int .i64 fk] 31)) ∧ Below w6.heap.size w6 ((w7.alloc (.cells #[.slice xad xn xcap, .slice yad yn ycap, .int .i64 ms.steps] 28)).alloc (.cells #[.int .i64 fc, .int .i64 fk] 31))) := by
          have h1 : Below w7.heap.size w7 ((w7.alloc (.cells #[.slice xad xn xcap, .slice yad yn ycap, .int .i64 ms.steps] 28)).alloc (.cells #[.int .i64 fc, .int .i64 fk] 31)) := ((Below.refl _ w7).alloc (Nat.le_refl _) _).alloc (by simp) _
          exact ⟨Kept2.made w7 _ _ _ _ _, h1, below_seq (below_seq HB.out H7.out.2.2.1) h1⟩
        clear c10 c11 c12 c20 c21 l1 l2
        generalize (w7.alloc (.cells #[.slice xad xn xcap, .slice yad yn ycap, .int .i64 ms.steps] 28)).alloc (.cells #[.int .i64 fc, .int .i64 fk] 31) = w8 at *
        go_wp2_with (go_at_call 11; refine (Ends_any w8 ms.vars ms.puts ms.steps _ _ _ _ (by have := HE.out.2.2.1; omega) (by have := HE.out.2.2.2.1; omega) (H7.out.1.below H8.out.2.1) (HL.out.2.2.2.1.1.below H8.out.2.2) (H7.out.2.1.below H8.out.2.1) (HL.out.2.2.2.1.2.below H8.out.2.2)).mono ?_; rintro r w9 ⟨rfl, hb9⟩; have H9 : Hid (Below w8.heap.size w8 w9) := hb9; clear hb9)
        go_wp2_with (go_at_call 12; refine (Bodies_any (St.bulkAll a + 1) a w9 _ _ (Nat.lt_succ_self _) (by omega) (HL.out.2.1.1.plain.below (below_seq H8.out.2.2 H9.out)) (HL.out.1.2.1.below (below_seq H8.out.2.2 H9.out))).mono ?_; rintro r w10 ⟨rfl, hb10⟩; have H10 : Hid (Below w8.heap.size w8 w10) := below_seq H9.out hb10; clear hb10)
        have PH : Phase 3 := trivial
        go_wp2_with (go_at_call 13; guard_hyp PH : Phase 3; clear PH; refine (Still_any w10 vs (-9) _ _ (by omega) (HL.out.2.2.1.1.below (below_seq H8.out.2.2 H10.out)) (HL.out.1.2.2.1.below (below_seq H8.out.2.2 H10.out))).mono ?_; rintro r w11 ⟨rfl, hb11⟩; have H11 : Hid (Below w8.heap.size w8 w11) := below_seq H10.out hb11; clear hb11; have PH : Phase 4 := trivial)
        go_wp2_with (go_at_call 13; guard_hyp PH : Phase 4; clear PH; refine (Still_any w11 is (-9) _ _ (by omega) (HL.out.2.2.1.2.below (below_seq H8.out.2.2 H11.out)) (HL.out.1.2.2.2.below (below_seq H8.out.2.2 H11.out))).mono ?_; rintro r w12 ⟨rfl, hb12⟩; have H12 : Hid (Below w8.heap.size w8 w12) := below_seq H11.out hb12; clear hb12; have hk12 := H8.out.1.below H12.out; obtain ⟨c1, f1, l1⟩ := cells_of (l := [_, _, _]) hk12.1; have c10 := c1 0 _ rfl; have c11 := c1 1 _ rfl; clear c1 f1 hk12)
        go_wp2_with (go_at_call 14; refine (H7.out.2.2.2 w12 (below_seq H8.out.2.1 H12.out)).mono ?_; rintro r w13 ⟨rfl, hb13, hc13, hp13⟩; have H13 : Hid (Below wr.heap.size w12 w13 ∧ Calls Tryd.prog 15 #[.slice yad yn ycap] w13 fun r W2 => r = .returned (.tuple #[]) ∧ Below wr.heap.size w13 W2) := ⟨hb13, hp13⟩; have d11 := (hc13 ⟨w7.heap.size, 1, none⟩ (Nat.le_refl _)).trans c11; clear hb13 hp13 hc13 c10 c11)
        go_wp2_with (go_at_call 15; refine H13.out.2.mono ?_; rintro r w14 ⟨rfl, hb14⟩; have H14 : Hid (Below wr.heap.size w13 w14) := hb14; clear hb14)
        have HR : Hid (Below w6.heap.size w6 w14) := by
          have h1 : Below wr.heap.size wr w12 := below_seq H7.out.2.2.1 (below_seq H8.out.2.1 H12.out)
          have h2 : Below wr.heap.size wr w14 := (h1.trans H13.out.1).trans H14.out
          exact below_seq HB.out h2
        go_roundw
        case rel => exact ⟨j + 1, by omega, by go_num, HR.out⟩
        case measure => simp [intOf]; omega
      · have hje : j = 2 := by omega
        subst hje
        go_wp2_with fail
        go_ret
        exact ⟨rfl, below_seq H0.out hbr⟩
end Go.Proofs.YtikdidfgdiafoabDoor
