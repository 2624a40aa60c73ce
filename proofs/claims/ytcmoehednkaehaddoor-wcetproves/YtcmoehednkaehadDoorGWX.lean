import Derived.Test.YtcmoehednkaehadDoorGWQ
import Derived.RangeFuncNested
import Derived.RangeFuncBound
import Derived.RangeFuncCalls
import Derived.RangeFuncLeaves
import Derived.Shelf.Abstract
import Derived.Shelf.RegionOpen
import Derived.OwnWalkIn
import Derived.TacticsInMore
import Derived.LoopNIn
import Derived.LoopIn
namespace Go.Proofs.YtcmoehednkaehadDoor
open Go.ChangeShapes Go.WideShapes Go.ChangeAt Go.RowKit

theorem rules1_any (w : World) (l : List In) (R : Nat → Int) (b1 b2 b3 k : Nat) (hg : GL l) (hk : k < l.length) (h0 : R l.length = 0) (hR : ∀ j, k < j → j ≤ l.length → 0 ≤ R j ∧ R j ≤ 1099511627776) (hkk : KindsIn w) (h : RulesAt w l R b1 b2 b3) :
    Calls Tryd.prog 71 #[.int .i64 k, .pointer (some ⟨b1, 0, none⟩), .pointer (some ⟨b2, 0, none⟩), .pointer (some ⟨b3, 0, none⟩)] w fun r w' => r = .returned (.int .i64 (ruleI l R (clF l) k)) ∧ Below w.heap.size w w' := by
  obtain ⟨iad, ic, i1, hI⟩ := h.img
  obtain ⟨p, f1, hT⟩ := h.frm
  obtain ⟨cb, d1, hC⟩ := h.cls
  have hf := hg.fwd.form k hk
  have hTl := tells_of k hg.len h0 hT
  have hj := hg.fwd.jump k hk
  have hs := hg.fwd.shut k hk
  have h13' := hg.shut k hk
  have hz := hR (k + 1) (by omega) (by omega)
  rcases hx : l.getD k in0 with ⟨op, a, b⟩
  rw [hx] at hf hj hs h13'
  have hc := costs_of hkk hf
  have hcl := cost_le hf false
  obtain ⟨fa, -, -, -, f13, -⟩ := form_a hf
  unfold ruleI
  rw [hx]
  dsimp only at *
  have hcd := hC k hk
  by_cases h14 : op = 14
  · subst h14
    rw [if_pos rfl]
    exact rules_14 w l R b1 b2 b3 k hg.len hk iad ic p cb a b i1 f1 d1 hI hx hc hTl
  rw [if_neg h14]
  by_cases h17 : op = 17
  · subst h17
    rw [if_pos rfl]
    exact rules_17 w l R b1 b2 b3 k hg.len hk iad ic p cb a b i1 f1 d1 hI hx hc hTl
  rw [if_neg h17]
  by_cases h11 : op = 11
  · subst h11
    rw [if_pos rfl]
    have hj := hj (.inl rfl)
    exact rules_11 w l R b1 b2 b3 k hg.len hk iad ic p cb a b a.toNat (by omega) hj.1 hj.2 (hR _ hj.1 hj.2) i1 f1 d1 hI hx hc hTl
  rw [if_neg h11]
  by_cases h12 : op = 12
  · subst h12
    rw [if_pos rfl]
    have hj := hj (.inr rfl)
    exact rules_12 w l R b1 b2 b3 k hg.len hk iad ic p cb a b a.toNat (by omega) hj.1 hj.2 hz (hR _ hj.1 hj.2) i1 f1 d1 hI hx hc hTl
  rw [if_neg h12]
  by_cases h13 : op = 13
  · subst h13
    rw [if_pos rfl]
    have hs := hs (.inl rfl)
    have h14q := h13' rfl
    have hf2 := hg.fwd.form (clF l k) hs.2
    rcases hx2 : l.getD (clF l k) in0 with ⟨op2, a2, b2v⟩
    rw [hx2] at hf2 h14q
    dsimp only at h14q
    subst h14q
    exact rules_13 w l R b1 b2 b3 k hg.len hk iad ic p cb a b (clF l k) a2 b2v (f13 rfl) hs.1 hs.2 hcd hz (hR _ (by omega) (by omega)) hx2 (costs_of hkk hf2) i1 f1 d1 hI hx hc hTl
  rw [if_neg h13]
  by_cases h16 : op = 16
  · subst h16
    rw [if_pos rfl]
    have hs := hs (.inr rfl)
    exact rules_16 w l R b1 b2 b3 k hg.len hk iad ic p cb a b (clF l k) hs.1 hs.2 hcd hz (hR _ (by omega) (by omega)) i1 f1 d1 hI hx hc hTl
  rw [if_neg h16]
  exact rules_else w l R b1 b2 b3 k hg.len hk iad ic p cb op a b h14 h17 h11 h12 h13 h16 _ rfl (by omega) hz i1 f1 d1 hI hx hc hTl

set_option maxRecDepth 20000 in
set_option maxHeartbeats 4000000 in
/-- What rules makes. -/
theorem rules_any (w : World) (l : List In) (iad : Option Addr) (ic p : Nat) (hg : GL l) (hI : InSl w l (.slice iad l.length ic)) :
    Calls Tryd.prog 36 #[.slice iad l.length ic, .func (Fn.func 69) #[] #[.pointer (some ⟨p, 0, none⟩)]] w fun r w' => ∃ b1 b2 b3, r = .returned (.func (Fn.func 71) #[] #[.pointer (some ⟨b1, 0, none⟩), .pointer (some ⟨b2, 0, none⟩), .pointer (some ⟨b3, 0, none⟩)]) ∧ w.heap.size ≤ b1 ∧ w.heap.size ≤ b2 ∧ w.heap.size ≤ b3 ∧
      w'.cell? ⟨b1, 0, none⟩ = some (.slice iad l.length ic) ∧ w'.cell? ⟨b2, 0, none⟩ = some (.func (Fn.func 69) #[] #[.pointer (some ⟨p, 0, none⟩)]) ∧ (∃ cb, w.heap.size ≤ cb ∧ w'.cell? ⟨b3, 0, none⟩ = some (.slice (some ⟨cb, 0, none⟩) l.length l.length) ∧ ∀ j, j < l.length → w'.cell? ⟨cb, j, none⟩ = some (.int .i64 (clF l j))) ∧ Below w.heap.size w w' := by
  have HI : Hid (InSl w l (.slice iad l.length ic)) := hI
  have HG : Hid (GL l) := hg
  clear hI hg
  go_enter Tryd.func36, Tryd.ntmps36
  have hB : Below w.heap.size w ((w.alloc (.cells #[.slice iad l.length ic] 22)).alloc (.cells #[.func (Fn.func 69) #[] #[.pointer (some ⟨p, 0, none⟩)]] 67)) := ((Below.refl _ _).alloc (Nat.le_refl _) _).alloc (by simp) _
  have HB : Hid _ := hB
  clear hB
  go_wp2_with (go_at_call 70; refine (closers_any _ l iad ic HG.out (HI.out.below HB.out)).mono ?_; rintro r w1 ⟨cb, hcb, rfl, hrow, hb1⟩; have H1 : Hid (_ ∧ _ ∧ _) := ⟨hcb, hrow, hb1⟩; have hsz : w.heap.size + 2 ≤ w1.heap.size := (by have := hb1.size; simp at this; omega); clear hcb hrow hb1)
  go_ret
  obtain ⟨hcb, hrow, hb1⟩ := H1.out
  have hb2 : Below w1.heap.size w1 (w1.alloc (.cells #[.slice (some ⟨cb, 0, none⟩) l.length l.length] 23)) := below_new _ _
  have hbb := below_seq hb1 hb2
  refine ⟨w.heap.size, w.heap.size + 1, w1.heap.size, rfl, Nat.le_refl _, by omega, by omega, below_cell hbb (by go_simp), below_cell hbb (by go_simp), ⟨cb, by simp at hcb; omega, by go_simp, fun j hj => ?_⟩, below_seq HB.out hbb⟩
  exact below_cell hb2 ((cells_of (l := natVs (clAt l l.length)) hrow).1 j _ (natVs_at _ _ (by rw [clAt_len]; exact hj)))

end Go.Proofs.YtcmoehednkaehadDoor
namespace Go.Proofs.YtcmoehednkaehadDoor
open Go.ChangeShapes Go.WideShapes Go.ChangeAt Go.RowKit

theorem check_zero {l : List In} (h : (checkI l).1 = 0) : checkI l = (0, 0) := by
  rw [← doc_check] at *
  unfold docI at *
  by_cases hl : 2000 < l.length
  · rw [if_pos hl] at h; simp at h
  rw [if_neg hl] at *
  rcases hf : scan (fun _ x => formErr x) l 0 with _ | ⟨c, k⟩
  rotate_left 1
  · rw [hf] at h; exact absurd h (scan_bad _ l 0 hf)
  rw [hf] at h
  dsimp only at *
  rcases hn : docNest l l 0 [] [] with ⟨c, k⟩ | ⟨_ | ⟨o, os⟩, rs⟩
  · rw [hn] at h; exact absurd h (docNest_bad l l 0 [] [] hn)
  rotate_left 1
  · rw [hn] at h
    dsimp only at h
    split at h <;> simp at h
  rw [hn] at h
  dsimp only at *
  rcases hj : scan (docJump l rs) l 0 with _ | ⟨c, k⟩
  rotate_left 1
  · rw [hj] at h; exact absurd h (scan_bad _ l 0 hj)
  rw [hj] at h
  dsimp only at *
  rcases hs : stackScan l 0 M0 with ⟨c, k⟩ | M
  · rw [hs] at h; exact absurd h (stackScan_bad l 0 M0 hs)
  · rw [hs] at h
    dsimp only at *
    split
    · rename_i e; rw [if_pos e] at h; simp at h
    · rfl

theorem field_37 (W : World) (a b : Int) : (Instr.field 37 (.agg #[.int .i64 a, .int .i64 b]) 0).run Tryd.prog W = .ok (.int .i64 a) W := by kernel_rfl

/-- Do the numbers show it? -/
structure PV (l : List In) (W : Int) (n : Nat) (R : Nat → Int) : Prop where
  ok : (checkI l).1 = 0
  len : n = l.length
  rng : ∀ j, j < n → 0 ≤ R j ∧ R j ≤ 1099511627776
  rul : ∀ k, k < n → ruleI l R (clF l) k ≤ R k
  top : R 0 ≤ W

set_option maxRecDepth 20000 in
set_option maxHeartbeats 4000000 in
theorem Proves_check (w : World) (l : List In) (iad : Option Addr) (ic : Nat) (W : Int) (rad : Option Addr) (rn rc : Nat) (hkk : KindsIn w) (hI : InSl w l (.slice iad l.length ic)) (c k : Int) (hc : checkI l = (c, k)) (h0 : ¬ c = 0) : Calls Tryd.prog 12 #[.slice iad l.length ic, .agg #[.int .i64 W, .slice rad rn rc]] w fun r w' => r = .returned (.bool false) ∧ Below w.heap.size w w' := by
  have hB := below_new w (.cells #[.int .i64 W, .slice rad rn rc] 31)
  have HC := Check_all _ l iad ic (hkk.below hB) (hI.below hB) c k hc
  have HB : Hid (Below w.heap.size w (w.alloc (.cells #[.int .i64 W, .slice rad rn rc] 31))) := hB
  have hcb : (c != 0) = true := by simpa using h0
  clear hB hkk hI hc
  have hfl := field_37
  go_enter Tryd.func12, Tryd.ntmps12
  go_wp2_with (go_at_call 32; refine HC.mono ?_; rintro r w1 ⟨rfl, hb1⟩; have H1 : Hid (Below w.heap.size w w1) := below_seq HB.out hb1; clear hb1 HC)
  go_ret
  exact ⟨rfl, H1.out⟩

set_option maxRecDepth 20000 in
set_option maxHeartbeats 4000000 in
theorem Proves_len (w : World) (l : List In) (iad : Option Addr) (ic : Nat) (W : Int) (rad : Option Addr) (rn rc : Nat) (hkk : KindsIn w) (hI : InSl w l (.slice iad l.length ic)) (hc : checkI l = (0, 0)) (h0 : ¬ rn = l.length) : Calls Tryd.prog 12 #[.slice iad l.length ic, .agg #[.int .i64 W, .slice rad rn rc]] w fun r w' => r = .returned (.bool false) ∧ Below w.heap.size w w' := by
  have hB := below_new w (.cells #[.int .i64 W, .slice rad rn rc] 31)
  have HC := Check_all _ l iad ic (hkk.below hB) (hI.below hB) 0 0 hc
  have HB : Hid (Below w.heap.size w (w.alloc (.cells #[.int .i64 W, .slice rad rn rc] 31))) := hB
  have hni : ¬ ((rn : Int) = (l.length : Int)) := by omega
  have hcb : ((rn : Int) != (l.length : Int)) = true := by simpa using hni
  clear hB hkk hI hc
  have hfl := field_37
  go_enter Tryd.func12, Tryd.ntmps12
  go_wp2_with (go_at_call 32; refine HC.mono ?_; rintro r w1 ⟨rfl, hb1⟩; have H1 : Hid (Below w.heap.size w w1) := below_seq HB.out hb1; have y1 : w1.cell? ⟨w.heap.size, 1, none⟩ = some (.slice rad rn rc) := below_cell hb1 (by go_simp); clear hb1 HC)
  go_ret
  exact ⟨rfl, H1.out⟩

set_option maxRecDepth 20000 in
set_option maxHeartbeats 8000000 in
theorem Proves_rest (w : World) (l : List In) (iad : Option Addr) (ic : Nat) (W : Int) (rad : Option Addr) (rc : Nat) (R : Nat → Int) (hkk : KindsIn w) (hI : InSl w l (.slice iad l.length ic)) (hc : checkI l = (0, 0)) (hrc : l.length ≤ rc) (hr : RowI w rad l.length R) (h0 : R l.length = 0) : Calls Tryd.prog 12 #[.slice iad l.length ic, .agg #[.int .i64 W, .slice rad l.length rc]] w fun r w' => ∃ v, r = .returned (.bool v) ∧ (v = true ↔ PV l W l.length R) ∧ Below w.heap.size w w' := by
  have hg := gl_of hc
  have hlen := hg.len
  have hB := below_new w (.cells #[.int .i64 W, .slice rad l.length rc] 31)
  have HC := Check_all _ l iad ic (hkk.below hB) (hI.below hB) 0 0 hc
  have HB : Hid (Below w.heap.size w (w.alloc (.cells #[.int .i64 W, .slice rad l.length rc] 31))) := hB
  have HK : Hid (KindsIn w ∧ InSl w l (.slice iad l.length ic) ∧ RowI w rad l.length R ∧ GL l ∧ checkI l = (0, 0)) := ⟨hkk, hI, hr, hg, hc⟩
  clear hB hkk hI hc hr hg
  have hfl := field_37
  go_enter Tryd.func12, Tryd.ntmps12
  go_wp2_with (go_at_call 32; refine HC.mono ?_; rintro r w1 ⟨rfl, hb1⟩; have H1 : Hid (Below w.heap.size w w1) := below_seq HB.out hb1; have y0 : w1.cell? ⟨w.heap.size, 0, none⟩ = some (.int .i64 W) := below_cell hb1 (by go_simp); have y1 : w1.cell? ⟨w.heap.size, 1, none⟩ = some (.slice rad l.length rc) := below_cell hb1 (by go_simp); have HO := contains_off w1 rad l.length rc R hlen hrc (HK.out.2.2.1.below H1.out); clear hb1 HC)
  by_cases hall : ∀ j, 0 ≤ j → j < 0 + l.length → 0 ≤ R j ∧ R j ≤ 1099511627776
  · rw [idxI_neg R l.length l.length 0 hall, show decide ((0 : Int) ≤ -1) = false from rfl] at HO
    have hall' : ∀ j, j < l.length → 0 ≤ R j ∧ R j ≤ 1099511627776 := fun j hj => hall j (Nat.zero_le _) (by omega)
    have HA : Hid (∀ j, j ≤ l.length → 0 ≤ R j ∧ R j ≤ 1099511627776) := fun j hj => by
      by_cases e : j = l.length
      · rw [e, h0]; omega
      · exact hall' j (by omega)
    clear hall hall'
    go_wp2_with (go_at_call 33; refine HO.mono ?_; rintro r w2 ⟨rfl, hb2⟩; have H2 : Hid (Below w.heap.size w w2) := below_seq H1.out hb2; have k0 := below_cell hb2 y0; have k1 := below_cell hb2 y1; have HT := told_any w2 rad l.length rc R hrc (HK.out.2.2.1.below H2.out); clear hb2 HO y0 y1)
    go_wp2_with (go_at_call 35; refine HT.mono ?_; rintro r w3 ⟨p, -, rfl, hta, hb3⟩; have H3 : Hid (Below w.heap.size w w3) := below_seq H2.out hb3; have m0 := below_cell hb3 k0; have m1 := below_cell hb3 k1; have HTA : Hid (ToldAt w3 p l.length R) := hta; have HR := rules_any w3 l iad ic p HK.out.2.2.2.1 (HK.out.2.1.below H3.out); clear hb3 hta HT k0 k1)
    go_wp2_with (go_at_call 36; refine HR.mono ?_; rintro r w4 ⟨b1, b2, b3, rfl, -, -, -, q1, q2, ⟨cb, -, q3, q4⟩, hb4⟩; have H4 : Hid (Below w.heap.size w w4) := below_seq H3.out hb4; have s0 := below_cell hb4 m0; have s1 := below_cell hb4 m1; have HRA : Hid (RulesAt w4 l R b1 b2 b3 ∧ ToldAt w4 p l.length R) := ⟨⟨⟨iad, ic, q1, HK.out.2.1.below (below_seq H3.out hb4)⟩, ⟨p, q2, HTA.out.below hb4⟩, ⟨cb, q3, q4⟩⟩, HTA.out.below hb4⟩; clear hb4 q1 q2 q3 q4 HR m0 m1)
    go_loopw [33] (fun i wr => ∃ j : Nat, j ≤ l.length ∧ i = .int .i64 j ∧ Below w4.heap.size w4 wr ∧ ∀ k, k < j → ruleI l R (clF l) k ≤ R k) (fun i _ => l.length - (intOf i).toNat)
    case atStart => exact ⟨0, Nat.zero_le _, rfl, Below.refl _ _, fun k hk => by omega⟩
    case round =>
      obtain ⟨j, hj, rfl, hb, hac⟩ := hrel
      have HBR : Hid (Below w4.heap.size w4 wr) := hb
      have HAC : Hid (∀ k, k < j → ruleI l R (clF l) k ≤ R k) := hac
      have t0 := below_cell hb s0
      have t1 := below_cell hb s1
      clear hac hb
      by_cases hjl : j < l.length
      · rcases HK.out.2.2.1.below (below_seq H4.out HBR.out) with h | ⟨rb, ro, rfl, hrow⟩
        · omega
        have y5 := hrow j hjl
        have HRU := rules1_any wr l R b1 b2 b3 j HK.out.2.2.2.1 hjl h0 (fun i _ h2 => HA.out i h2) (HK.out.1.below (below_seq H4.out HBR.out)) (HRA.out.1.below HBR.out)
        have hji : (j : Int) < (l.length : Int) := by omega
        clear hrow
        rcases hcmp : decide (R j < ruleI l R (clF l) j) with _ | _
        · have hle : ruleI l R (clF l) j ≤ R j := by simpa using hcmp
          have HLE : Hid (∀ k, k < j + 1 → ruleI l R (clF l) k ≤ R k) := fun k hk => by
            by_cases e : k = j
            · rw [e]; exact hle
            · exact HAC.out k (by omega)
          generalize ruleI l R (clF l) j = z at *
          generalize R j = y at *
          go_wp2_with (go_at_call 71; refine HRU.mono ?_; rintro r w5 ⟨rfl, hb5⟩; have H5 : Hid (Below w4.heap.size w4 w5) := below_seq HBR.out hb5; clear hb5 HRU)
          exact ⟨⟨j + 1, by omega, by simp, H5.out, HLE.out⟩, by simp [intOf]; omega⟩
        · have hlt : R j < ruleI l R (clF l) j := by simpa using hcmp
          have HLT : Hid (¬ PV l W l.length R) := fun h => absurd (h.rul j hjl) (by omega)
          generalize ruleI l R (clF l) j = z at *
          generalize R j = y at *
          go_wp2_with (go_at_call 71; refine HRU.mono ?_; rintro r w5 ⟨rfl, hb5⟩; have H5 : Hid (Below w4.heap.size w4 w5) := below_seq HBR.out hb5; clear hb5 HRU)
          go_ret
          exact ⟨_, rfl, ⟨fun h => (by cases h), fun h => absurd h HLT.out⟩, below_seq H4.out H5.out⟩
      · have hje : j = l.length := by omega
        subst hje
        have hT0 : ∀ W, Below w4.heap.size w4 W → Calls Tryd.prog 69 #[.int .i64 0, .pointer (some ⟨p, 0, none⟩)] W fun r w' => r = .returned (.int .i64 (R 0)) ∧ ∃ m, w' = W.drewN m := fun W hW => (told1_same W p l.length R 0 hlen (Nat.zero_le _) h0 (HRA.out.2.below hW)).mono fun _ _ ⟨h1, h2⟩ => ⟨h1, 0, h2⟩
        have HT0 : Hid _ := hT0
        clear hT0
        go_wp2_with fail
        go_quiet (first | (go_at_call 69; exact Calls.quiet_of (HT0.out _ (below_seq HBR.out (belowD _ _)))))
        go_wp2_with fail
        go_ret
        exact ⟨_, rfl, ⟨fun h => ⟨(by rw [HK.out.2.2.2.2]), rfl, fun j hj => HA.out j (by omega), HAC.out, (by simpa using h)⟩, fun h => (by simpa using h.top)⟩, below_seq H4.out (below_seq HBR.out (belowD _ _))⟩
  · have hp := idxI_pos R l.length l.length 0 hall
    rw [decide_eq_true hp] at HO
    clear hp
    go_wp2_with (go_at_call 33; refine HO.mono ?_; rintro r w2 ⟨rfl, hb2⟩; have H2 : Hid (Below w.heap.size w w2) := below_seq H1.out hb2; clear hb2 HO)
    go_ret
    exact ⟨false, rfl, ⟨fun h => (by cases h), fun h => absurd (fun j _ hj => h.rng j (by omega)) hall⟩, H2.out⟩

theorem Proves_any (w : World) (l : List In) (iad : Option Addr) (ic : Nat) (W : Int) (rad : Option Addr) (rn rc : Nat) (R : Nat → Int) (hkk : KindsIn w) (hI : InSl w l (.slice iad l.length ic)) (hrc : rn ≤ rc) (hr : RowI w rad rn R) (h0 : R rn = 0) : Calls Tryd.prog 12 #[.slice iad l.length ic, .agg #[.int .i64 W, .slice rad rn rc]] w fun r w' => ∃ v, r = .returned (.bool v) ∧ (v = true ↔ PV l W rn R) ∧ Below w.heap.size w w' := by
  rcases hc : checkI l with ⟨c, k⟩
  by_cases hz : c = 0
  · have hc0 : checkI l = (0, 0) := check_zero (by rw [hc]; exact hz)
    by_cases hn : rn = l.length
    · subst hn
      exact Proves_rest w l iad ic W rad rc R hkk hI hc0 hrc hr h0
    · exact (Proves_len w l iad ic W rad rn rc hkk hI hc0 hn).mono fun _ _ ⟨h1, h2⟩ => ⟨false, h1, ⟨fun h => (by cases h), fun h => absurd h.len hn⟩, h2⟩
  · exact (Proves_check w l iad ic W rad rn rc hkk hI c k hc hz).mono fun _ _ ⟨h1, h2⟩ => ⟨false, h1, ⟨fun h => (by cases h), fun h => absurd (by have := h.ok; rw [hc] at this; exact this) hz⟩, h2⟩

end Go.Proofs.YtcmoehednkaehadDoor
namespace Go.Proofs.YtcmoehednkaehadDoor
open Go.ChangeShapes Go.WideShapes Go.ChangeAt Go.RowKit Go.Shelf

/-- A number of an instruction. -/
abbrev At (l : List In) := { k : Nat // k < l.length }

/-- They come from the last one on. -/
def Dn (l : List In) (pre : List (At l)) : Prop := pre.map (fun x => x.1) = (List.range pre.length).map (fun i => l.length - 1 - i)

theorem Dn.nil (l : List In) : Dn l [] := rfl

theorem Dn.snoc {l : List In} {pre : List (At l)} {x : At l} (h : Dn l pre) (hx : x.1 = l.length - 1 - pre.length) : Dn l (pre ++ [x]) := by
  unfold Dn at *
  rw [List.map_append, h, List.length_append, List.length_singleton, List.range_succ, List.map_append]
  simp [hx]

theorem Dn.last {l : List In} {pre : List (At l)} {x : At l} (h : Dn l (pre ++ [x])) : Dn l pre ∧ x.1 = l.length - 1 - pre.length := by
  unfold Dn at *
  rw [List.map_append, List.length_append, List.length_singleton, List.range_succ, List.map_append] at h
  have := List.append_inj' h rfl
  exact ⟨this.1, by simpa using this.2⟩

def updR (R : Nat → Int) (k : Nat) (v : Int) : Nat → Int := fun j => if j = k then v else R j

/-- The numbers, when those have come. -/
def RF (l : List In) (pre : List (At l)) : Nat → Int := pre.foldl (fun R x => updR R x.1 (ruleI l R (clF l) x.1)) (fun _ => 0)

theorem RF_snoc (l : List In) (pre : List (At l)) (x : At l) : RF l (pre ++ [x]) = updR (RF l pre) x.1 (ruleI l (RF l pre) (clF l) x.1) := by simp [RF]

theorem RF_out (l : List In) (pre : List (At l)) {j : Nat} (hj : l.length ≤ j) : RF l pre j = 0 := by
  unfold RF
  have : ∀ (pre : List (At l)) (R : Nat → Int), R j = 0 → (pre.foldl (fun R x => updR R x.1 (ruleI l R (clF l) x.1)) R) j = 0 := by
    intro pre
    induction pre with
    | nil => intro R h; exact h
    | cons x r ih =>
      intro R h
      refine ih _ ?_
      show (if j = x.1 then _ else R j) = 0
      rw [if_neg (by have := x.2; omega)]
      exact h
  exact this pre _ rfl

theorem RF_rest {l : List In} : ∀ (d : Nat) (pre : List (At l)), pre.length = d → Dn l pre → d ≤ l.length → RF l pre = restAt l d
  | 0, pre, hd, _, _ => by
    rw [List.length_eq_zero_iff.1 hd]
    funext j
    rfl
  | d + 1, pre, hd, h, hl => by
    obtain ⟨ini, x, rfl⟩ : ∃ ini x, pre = ini ++ [x] := by
      rcases List.eq_nil_or_concat pre with h0 | ⟨a, b, h0⟩
      · rw [h0] at hd; simp at hd
      · exact ⟨a, b, by rw [h0]; simp⟩
    obtain ⟨h1, h2⟩ := h.last
    have hi : ini.length = d := by simpa using hd
    have ih := RF_rest d ini hi h1 (by omega)
    rw [RF_snoc, ih]
    funext j
    show (if j = x.1 then _ else _) = (if j = l.length - (d + 1) then _ else _)
    rw [hi] at h2
    by_cases e : j = x.1
    · subst e
      rw [if_pos rfl, if_pos (by omega)]
    · rw [if_neg e, if_neg (by omega)]

/-- What a round that goes on keeps. -/
def KpB (n₀ Bs : Nat) (v : Value) (A B : World) : Prop := Below n₀ A B ∧ (A.cell? ⟨Bs, 0, none⟩ = some v → B.cell? ⟨Bs, 0, none⟩ = some v)

theorem KpB.refl (n₀ Bs : Nat) (v : Value) (A : World) : KpB n₀ Bs v A A := ⟨Below.refl _ _, id⟩
theorem KpB.trans {n₀ Bs : Nat} {v : Value} {A B C : World} (h : KpB n₀ Bs v A B) (k : KpB n₀ Bs v B C) : KpB n₀ Bs v A C := ⟨h.1.trans k.1, fun e => k.2 (h.2 e)⟩
theorem KpB.put {n₀ Bs : Nat} {v : Value} {w : World} (hn : n₀ ≤ w.heap.size) (hB : Bs < w.heap.size) (W : World) (l : Nat) (o o' : Obj) (hl : w.heap.size ≤ l) (h : W.heap[l]? = some o) (hc : o.isCells = false) (hw : o.isWalk = false) : KpB n₀ Bs v W (W.putObj l o') := by
  refine ⟨belowK_b hn W l o o' hl h hc hw, fun e => ?_⟩
  have e2 : (W.putObj l o').heap[Bs]? = W.heap[Bs]? := World.putObj_heap_other (by omega)
  unfold World.cell? at *
  dsimp only at *
  rw [e2]
  exact e

def valAt (l : List In) (x : At l) : Value := (l.getD x.1 in0).val

def encB (l : List In) (x : At l) : Array Value := #[.int .i64 (x.1 : Int), valAt l x]

end Go.Proofs.YtcmoehednkaehadDoor
namespace Go.Proofs.YtcmoehednkaehadDoor
open Go.ChangeShapes Go.WideShapes Go.ChangeAt Go.RowKit Go.Shelf

attribute [local go_sem] Oper.semAt_some

set_option maxRecDepth 100000 in
set_option maxHeartbeats 2000000 in
/-- Backwards through a slice. -/
theorem back1_in (n : Nat) (hn : 1 ≤ n) (lp Bs n₀ ic : Nat) (iad : Option Addr) (l : List In) (hl : l.length ≤ 2000) (J Jx : List (At l) → World → Prop)
    (hY : ∀ pre x W, J pre W → pre.length < l.length → YieldAt Fence.wide (n - 1) Tryd.prog lp (encB l x) W fun e W' => (e = .returned (.bool true) ∧ J (pre ++ [x]) W' ∧ KpB n₀ Bs (.slice iad l.length ic) W W') ∨ (e = .returned (.bool false) ∧ Jx (pre ++ [x]) W'))
    (W : World) (hBs : W.cell? ⟨Bs, 0, none⟩ = some (.slice iad l.length ic))
    (hc : l = [] ∨ ∃ b o, iad = some ⟨b, o, none⟩ ∧ b < n₀ ∧ ∀ j, j < l.length → W.cell? ⟨b, o + j * 3, none⟩ = some (.int .i64 (l.getD j in0).op) ∧ W.cell? ⟨b, o + j * 3 + 1, none⟩ = some (.int .i64 (l.getD j in0).a) ∧ W.cell? ⟨b, o + j * 3 + 2, none⟩ = some (.int .i64 (l.getD j in0).b)) (h0 : J [] W) :
    CallsIn Fence.wide n Tryd.prog 78 #[.func (.yield lp) #[] #[], .pointer (some ⟨Bs, 0, none⟩)] W fun e W' => (∃ v, e = .returned v) ∧
      ((∃ ys, (Dn l ys ∧ ys.length = l.length) ∧ J ys W') ∨ (∃ pre, (Dn l pre ∧ pre.length ≤ l.length) ∧ Jx pre W')) := by
  refine callsIn_of_wp Tryd.func78 rfl trivial ?_ rfl
  simp only [Tryd.ntmps78, List.size_toArray, List.length_cons, List.length_nil, Nat.reduceAdd, Nat.reduceSub, Array.replicate_succ, Array.replicate_zero, List.push_toArray, List.append_toArray, List.nil_append, List.cons_append]
  gi_wp2
  gi_loopw [3] (fun i wr => ∃ (m : Nat) (pre : List (At l)), i = .int .i64 ((m : Int) - 1) ∧ pre.length + m = l.length ∧ Dn l pre ∧ J pre wr ∧ KpB n₀ Bs (.slice iad l.length ic) W wr) (fun i _ => (intOf i + 1).toNat)
  case atStart => exact ⟨l.length, [], rfl, by simp, Dn.nil l, h0, KpB.refl _ _ _ _⟩
  case round =>
    obtain ⟨m, pre, rfl, hm, hd, hJs, hkp⟩ := hrel
    have hBr := hkp.2 hBs
    rcases m with _ | m
    · rw [show ((0 : Nat) : Int) - 1 = -1 from rfl]
      gi_wp2
      go_end0
      exact ⟨⟨_, rfl⟩, .inl ⟨pre, ⟨hd, by omega⟩, hJs⟩⟩
    · have em : ((m + 1 : Nat) : Int) - 1 = (m : Int) := by omega
      rw [em]
      have hml : m < l.length := by omega
      have hmi : (m : Int) < (l.length : Int) := by omega
      rcases hc with hc | ⟨b, o, rfl, hb, hc⟩
      · rw [hc] at hml; simp at hml
      obtain ⟨c0, c1, c2⟩ := hc m hml
      have d0 := (hkp.1.cell (p := ⟨b, o + m * 3, none⟩) hb).trans c0
      have d1 := (hkp.1.cell (p := ⟨b, o + m * 3 + 1, none⟩) hb).trans c1
      have d2 := (hkp.1.cell (p := ⟨b, o + m * 3 + 2, none⟩) hb).trans c2
      obtain ⟨fn, tmps, assign, body, hy, hR⟩ := hY pre ⟨m, hml⟩ wr hJs (by omega)
      unfold encB valAt In.val at hy
      dsimp only at hy
      rcases hx : l.getD m in0 with ⟨op, xa, xb⟩
      rw [hx] at hy d0 d1 d2
      dsimp only at hy d0 d1 d2
      clear c0 c1 c2
      gi_wp2
      refine hR.mono ?_
      rintro e W3 (⟨rfl, hJ3, hk3⟩ | ⟨rfl, hJx3⟩)
      · gi_wp2
        go_roundw
        case rel => exact ⟨m, _, rfl, by simp; omega, hd.snoc (by show m = _; omega), hJ3, hkp.trans hk3⟩
        case measure => simp [intOf]
      · gi_wp2
        refine bodyPost_ret (results_none rfl _ _ _) rfl ?_
        exact ⟨⟨_, rfl⟩, .inr ⟨_, ⟨hd.snoc (by show m = _; omega), by simp; omega⟩, hJx3⟩⟩

/-- slices.Backward. -/
theorem back_any (w : World) (iad : Option Addr) (n ic : Nat) : Calls Tryd.prog 41 #[.slice iad n ic] w fun r w' => r = .returned (.func (Fn.func 78) #[] #[.pointer (some ⟨w.heap.size, 0, none⟩)]) ∧ w' = w.alloc (.cells #[.slice iad n ic] 22) := by
  go_enter Tryd.func41, Tryd.ntmps41
  go_wp2_with fail
  go_ret
  exact ⟨rfl, rfl⟩

theorem back_stops (n : Nat) (hn : 1 ≤ n) (Bs n₀ ic : Nat) (iad : Option Addr) (l : List In) (hl : l.length ≤ 2000) (w : World) (hBw : Bs < w.heap.size)
    (hBs : w.cell? ⟨Bs, 0, none⟩ = some (.slice iad l.length ic))
    (hc : l = [] ∨ ∃ b o, iad = some ⟨b, o, none⟩ ∧ b < n₀ ∧ ∀ j, j < l.length → w.cell? ⟨b, o + j * 3, none⟩ = some (.int .i64 (l.getD j in0).op) ∧ w.cell? ⟨b, o + j * 3 + 1, none⟩ = some (.int .i64 (l.getD j in0).a) ∧ w.cell? ⟨b, o + j * 3 + 2, none⟩ = some (.int .i64 (l.getD j in0).b)) :
    SeqStopsK Fence.wide n Tryd.prog 78 #[.pointer (some ⟨Bs, 0, none⟩)] (encB l) (KpB n₀ Bs (.slice iad l.length ic)) (fun ys => Dn l ys ∧ ys.length = l.length) (fun pre => Dn l pre ∧ pre.length ≤ l.length) l.length w := fun lp J Jx W hW _ _ hY h0 => by
  refine back1_in n hn lp Bs n₀ ic iad l hl J Jx hY W ((hW.cell (p := ⟨Bs, 0, none⟩) hBw).trans hBs) ?_ h0
  rcases hc with hc | ⟨b, o, e, hb, hc⟩
  · exact .inl hc
  · exact .inr ⟨b, o, e, hb, fun j hj => ⟨below_cell hW (hc j hj).1, below_cell hW (hc j hj).2.1, below_cell hW (hc j hj).2.2⟩⟩

end Go.Proofs.YtcmoehednkaehadDoor
namespace Go.Proofs.YtcmoehednkaehadDoor
open Go.ChangeShapes Go.WideShapes Go.ChangeAt Go.RowKit Go.Shelf

theorem An_ends {w : World} {g g' : Nat} {a0 a1 c k : Value} {a : Act} (h6 : w.heap[g]? = some (.cells #[a0, a1] 31 (0, 0))) (h7 : w.heap[g']? = some (.cells #[c, k] 37 (0, 0))) (h2 : a.tmps[2]?.getD undef = .pointer (some ⟨g, 0, none⟩)) (h3 : a.tmps[3]?.getD undef = .pointer (some ⟨g', 0, none⟩)) :
    (results Tryd.f17 a.tmps).run Tryd.prog w = .ok (.tuple #[.agg #[a0, a1], .agg #[c, k]]) w := by
  obtain ⟨c1, f1, l1⟩ := cells_of (l := [_, _]) h6
  have c10 := c1 0 _ rfl
  have c11 := c1 1 _ rfl
  obtain ⟨d1, e1, m1⟩ := cells_of (l := [_, _]) h7
  have d10 := d1 0 _ rfl
  have d11 := d1 1 _ rfl
  simp [results, Tryd.results17, go_sem, h2, h3, c10, c11, d10, d11]

theorem set_two {w : World} {g : Nat} {a b c d : Value} {T : TypeId} (h : w.heap[g]? = some (.cells #[a, b] T (0, 0))) : ((w.setCell ⟨g, 0, none⟩ c).setCell ⟨g, 1, none⟩ d).heap[g]? = some (.cells #[c, d] T (0, 0)) := by
  rw [setCell_at (setCell_at h)]
  simp

theorem other_two {w : World} {g k : Nat} (hk : k ≠ g) (c d : Value) : ((w.setCell ⟨g, 0, none⟩ c).setCell ⟨g, 1, none⟩ d).heap[k]? = w.heap[k]? :=
  (Below.heap_setCell _ _ _ _ hk).trans (Below.heap_setCell _ _ _ _ hk)

/-- What Analyse has laid, behind told. -/
structure A2 (w w2 : World) (n rb p : Nat) : Prop where
  bel : Below w.heap.size w w2
  k2 : w2.heap[w.heap.size]? = some (.cells #[.int .i64 0, .slice none 0 0] 31 (0, 0))
  k3 : w2.heap[w.heap.size + 1]? = some (.cells #[.int .i64 0, .int .i64 0] 37 (0, 0))
  kr : w2.heap[rb]? = some (.cells (intVs (List.replicate n 0)).toArray 3 (0, 0))
  c5 : w2.cell? ⟨rb + 1, 0, none⟩ = some (.slice (some ⟨rb, 0, none⟩) n n)
  cp : w2.cell? ⟨p, 0, none⟩ = some (.slice (some ⟨rb, 0, none⟩) n n)
  o1 : w.heap.size + 2 ≤ rb
  o2 : rb + 2 ≤ p

theorem A2.grow {w w2 w3 : World} {n rb p : Nat} (h : A2 w w2 n rb p) (hb : Below w2.heap.size w2 w3) : A2 w w3 n rb p := by
  have old : ∀ (k : Nat) (o : Obj), w2.heap[k]? = some o → w3.heap[k]? = some o := fun k o hk => (hb.block k (Array.getElem?_eq_some_iff.1 hk).1).trans hk
  exact ⟨below_seq h.bel hb, old _ _ h.k2, old _ _ h.k3, old _ _ h.kr, below_cell hb h.c5, below_cell hb h.cp, h.o1, h.o2⟩

theorem A2_of {w w1 w2 : World} {n p : Nat} {A : Obj} (h1 : Below w.heap.size w w1) (k2 : w1.heap[w.heap.size]? = some (.cells #[.int .i64 0, .slice none 0 0] 31 (0, 0))) (k3 : w1.heap[w.heap.size + 1]? = some (.cells #[.int .i64 0, .int .i64 0] 37 (0, 0))) (hs : w.heap.size + 2 ≤ w1.heap.size)
    (hp : (((w1.alloc A).alloc (.cells (intVs (List.replicate n 0)).toArray 3)).alloc (.cells #[.slice (some ⟨w1.heap.size + 1, 0, none⟩) n n] 23)).heap.size ≤ p) (cp : w2.cell? ⟨p, 0, none⟩ = some (.slice (some ⟨w1.heap.size + 1, 0, none⟩) n n))
    (hb : Below (((w1.alloc A).alloc (.cells (intVs (List.replicate n 0)).toArray 3)).alloc (.cells #[.slice (some ⟨w1.heap.size + 1, 0, none⟩) n n] 23)).heap.size (((w1.alloc A).alloc (.cells (intVs (List.replicate n 0)).toArray 3)).alloc (.cells #[.slice (some ⟨w1.heap.size + 1, 0, none⟩) n n] 23)) w2) : A2 w w2 n (w1.heap.size + 1) p := by
  have q1 := below_new w1 A
  have q2 := below_new (w1.alloc A) (.cells (intVs (List.replicate n 0)).toArray 3)
  have q3 := below_new ((w1.alloc A).alloc (.cells (intVs (List.replicate n 0)).toArray 3)) (.cells #[.slice (some ⟨w1.heap.size + 1, 0, none⟩) n n] 23)
  have q := below_seq q1 (below_seq q2 (below_seq q3 hb))
  have old : ∀ (k : Nat) (o : Obj), w1.heap[k]? = some o → w2.heap[k]? = some o := fun k o hk => (q.block k (Array.getElem?_eq_some_iff.1 hk).1).trans hk
  simp only [World.size_alloc] at hp
  refine ⟨below_seq h1 q, old _ _ k2, old _ _ k3, ?_, ?_, cp, by omega, by omega⟩
  · have e := heap_new (w1.alloc A) (.cells (intVs (List.replicate n 0)).toArray 3)
    rw [World.size_alloc] at e
    exact (((below_seq q3 hb).block (w1.heap.size + 1) (by simp)).trans e)
  · have e := heap_new ((w1.alloc A).alloc (.cells (intVs (List.replicate n 0)).toArray 3)) (.cells #[.slice (some ⟨w1.heap.size + 1, 0, none⟩) n n] 23)
    simp only [World.size_alloc] at e
    exact below_cell hb ((cells_of (l := [_]) e).1 0 _ rfl)

/-- All that it has laid ahead of its loop. -/
structure AB (w Wb : World) (l : List In) (iad : Option Addr) (ic rb p b1 b2 b3 cb g7 : Nat) : Prop where
  a2 : A2 w Wb l.length rb p
  kin : KindsIn w
  img : InSl w l (.slice iad l.length ic)
  c1 : Wb.cell? ⟨b1, 0, none⟩ = some (.slice iad l.length ic)
  c2 : Wb.cell? ⟨b2, 0, none⟩ = some (.func (Fn.func 69) #[] #[.pointer (some ⟨p, 0, none⟩)])
  c3 : Wb.cell? ⟨b3, 0, none⟩ = some (.slice (some ⟨cb, 0, none⟩) l.length l.length)
  cc : ∀ j, j < l.length → Wb.cell? ⟨cb, j, none⟩ = some (.int .i64 (clF l j))
  c7 : Wb.cell? ⟨g7, 0, none⟩ = some (.func (Fn.func 71) #[] #[.pointer (some ⟨b1, 0, none⟩), .pointer (some ⟨b2, 0, none⟩), .pointer (some ⟨b3, 0, none⟩)])
  cB : Wb.cell? ⟨g7 + 1, 0, none⟩ = some (.slice iad l.length ic)
  o1 : rb < b1 ∧ rb < b2 ∧ rb < b3 ∧ rb < cb ∧ rb < g7

theorem AB_of {w w2 w3 : World} {l : List In} {iad : Option Addr} {ic rb p b1 b2 b3 cb : Nat} (h : A2 w w2 l.length rb p) (hk : KindsIn w) (hI : InSl w l (.slice iad l.length ic)) (o1 : w2.heap.size ≤ b1) (o2 : w2.heap.size ≤ b2) (o3 : w2.heap.size ≤ b3)
    (c1 : w3.cell? ⟨b1, 0, none⟩ = some (.slice iad l.length ic)) (c2 : w3.cell? ⟨b2, 0, none⟩ = some (.func (Fn.func 69) #[] #[.pointer (some ⟨p, 0, none⟩)])) (oc : w2.heap.size ≤ cb) (c3 : w3.cell? ⟨b3, 0, none⟩ = some (.slice (some ⟨cb, 0, none⟩) l.length l.length)) (cc : ∀ j, j < l.length → w3.cell? ⟨cb, j, none⟩ = some (.int .i64 (clF l j))) (hb : Below w2.heap.size w2 w3) :
    AB w ((w3.alloc (.cells #[.func (Fn.func 71) #[] #[.pointer (some ⟨b1, 0, none⟩), .pointer (some ⟨b2, 0, none⟩), .pointer (some ⟨b3, 0, none⟩)]] 67)).alloc (.cells #[.slice iad l.length ic] 22)) l iad ic rb p b1 b2 b3 cb w3.heap.size := by
  have q1 := below_new w3 (.cells #[.func (Fn.func 71) #[] #[.pointer (some ⟨b1, 0, none⟩), .pointer (some ⟨b2, 0, none⟩), .pointer (some ⟨b3, 0, none⟩)]] 67)
  have q2 := below_new (w3.alloc (.cells #[.func (Fn.func 71) #[] #[.pointer (some ⟨b1, 0, none⟩), .pointer (some ⟨b2, 0, none⟩), .pointer (some ⟨b3, 0, none⟩)]] 67)) (.cells #[.slice iad l.length ic] 22)
  have q := below_seq q1 q2
  have hl : rb < w2.heap.size := (Array.getElem?_eq_some_iff.1 h.kr).1
  have hs := hb.size
  refine ⟨h.grow (below_seq hb q), hk, hI, below_cell q c1, below_cell q c2, below_cell q c3, fun j hj => below_cell q (cc j hj), ?_, ?_, by omega, by omega, by omega, by omega, by omega⟩
  · exact below_cell q2 ((cells_of (l := [_]) (heap_new w3 _)).1 0 _ rfl)
  · have e := heap_new (w3.alloc (.cells #[.func (Fn.func 71) #[] #[.pointer (some ⟨b1, 0, none⟩), .pointer (some ⟨b2, 0, none⟩), .pointer (some ⟨b3, 0, none⟩)]] 67)) (.cells #[.slice iad l.length ic] 22)
    rw [World.size_alloc] at e
    exact (cells_of (l := [_]) e).1 0 _ rfl

def rowV (R : Nat → Int) (n : Nat) : List Value := (List.range n).map fun j => .int .i64 (R j)

/-- Between two rounds. -/
structure AI (w Wb : World) (l : List In) (rb : Nat) (pre : List (At l)) (W : World) : Prop where
  bel : Below w.heap.size w W
  siz : Wb.heap.size ≤ W.heap.size
  oth : ∀ k, k < Wb.heap.size → k ≠ rb → W.heap[k]? = Wb.heap[k]?
  row : W.heap[rb]? = some (.cells (rowV (RF l pre) l.length).toArray 3 (0, 0))
  rng : ∀ j, 0 ≤ RF l pre j ∧ RF l pre j ≤ 1099511627776

/-- Where it has left its loop. -/
structure AX (w Wb : World) (l : List In) (pre : List (At l)) (W : World) : Prop where
  bel : Below w.heap.size w W
  siz : Wb.heap.size ≤ W.heap.size
  out : ∃ ini x, pre = ini ++ [x] ∧ (∀ j, RF l ini j ≤ 1099511627776) ∧ 1099511627776 < ruleI l (RF l ini) (clF l) x.1 ∧ W.heap[w.heap.size + 1]? = some (.cells #[.int .i64 3, .int .i64 x.1] 37 (0, 0))
  k2 : W.heap[w.heap.size]? = some (.cells #[.int .i64 0, .slice none 0 0] 31 (0, 0))

theorem AI.own {w Wb : World} {l : List In} {rb : Nat} (hrb : rb < Wb.heap.size) (hw : w.heap.size ≤ Wb.heap.size) : OwnFrom Wb.heap.size (AI w Wb l rb) := by
  intro pre W W' row h hg hr
  have hs := h.siz
  have hk : ∀ k, k < Wb.heap.size → W'.heap[k]? = W.heap[k]? := fun k hk => hg.block k (by omega) (fun e => by have := (hr k e.symm).1; omega)
  exact ⟨h.bel.grown hg h.bel.size (fun k e => by have := (hr k e).1; omega), Nat.le_trans hs hg.size, fun k k1 k2 => (hk k k1).trans (h.oth k k1 k2), (hk rb hrb).trans h.row, h.rng⟩

theorem AX.own {w Wb : World} {l : List In} (hw : w.heap.size + 2 ≤ Wb.heap.size) : OwnFrom Wb.heap.size (AX w Wb l) := by
  intro pre W W' row h hg hr
  have hs := h.siz
  have hk : ∀ k, k < Wb.heap.size → W'.heap[k]? = W.heap[k]? := fun k hk => hg.block k (by omega) (fun e => by have := (hr k e.symm).1; omega)
  obtain ⟨ini, x, e1, e2, e3, e4⟩ := h.out
  exact ⟨h.bel.grown hg h.bel.size (fun k e => by have := (hr k e).1; omega), Nat.le_trans hs hg.size, ⟨ini, x, e1, e2, e3, (hk _ (by omega)).trans e4⟩, (hk _ (by omega)).trans h.k2⟩

theorem AI.cell {w Wb W : World} {l : List In} {rb : Nat} {pre : List (At l)} (h : AI w Wb l rb pre W) {p : Addr} {v : Value} (hne : p.block ≠ rb) (hv : Wb.cell? p = some v) : W.cell? p = some v := by
  have := h.oth p.block (World.block_lt_of_cell? _ _ hv) hne
  unfold World.cell? at *
  rw [this]
  exact hv

theorem AI.at_ {w Wb W : World} {l : List In} {rb : Nat} {pre : List (At l)} (h : AI w Wb l rb pre W) {j : Nat} (hj : j < l.length) : W.cell? ⟨rb, j, none⟩ = some (.int .i64 (RF l pre j)) := (cells_of h.row).1 j _ (by simp [rowV, hj])

theorem AI.told {w Wb W : World} {l : List In} {iad : Option Addr} {ic rb p b1 b2 b3 cb g7 : Nat} {pre : List (At l)} (hB : AB w Wb l iad ic rb p b1 b2 b3 cb g7) (h : AI w Wb l rb pre W) : ToldAt W p l.length (RF l pre) :=
  ⟨_, _, h.cell (by have := hB.a2.o2; show p ≠ rb; omega) hB.a2.cp, Nat.le_refl _, .inr ⟨rb, 0, rfl, fun j hj => by rw [Nat.zero_add]; exact h.at_ hj⟩⟩

theorem AI.rules {w Wb W : World} {l : List In} {iad : Option Addr} {ic rb p b1 b2 b3 cb g7 : Nat} {pre : List (At l)} (hB : AB w Wb l iad ic rb p b1 b2 b3 cb g7) (h : AI w Wb l rb pre W) : RulesAt W l (RF l pre) b1 b2 b3 := by
  obtain ⟨o1, o2, o3, o4, o5⟩ := hB.o1
  exact ⟨⟨iad, ic, h.cell (by show b1 ≠ rb; omega) hB.c1, hB.img.below h.bel⟩, ⟨p, h.cell (by show b2 ≠ rb; omega) hB.c2, h.told hB⟩, ⟨cb, h.cell (by show b3 ≠ rb; omega) hB.c3, fun j hj => h.cell (by show cb ≠ rb; omega) (hB.cc j hj)⟩⟩

theorem AI.drew {w Wb W : World} {l : List In} {rb : Nat} {pre : List (At l)} (h : AI w Wb l rb pre W) : AI w Wb l rb pre W.drew := ⟨h.bel.drew, h.siz, h.oth, h.row, h.rng⟩

theorem AI.grow {w Wb W W' : World} {l : List In} {rb : Nat} {pre : List (At l)} (h : AI w Wb l rb pre W) (hb : Below W.heap.size W W') : AI w Wb l rb pre W' := by
  have hs := h.siz
  exact ⟨below_seq h.bel hb, Nat.le_trans hs hb.size, fun k k1 k2 => (hb.block k (by omega)).trans (h.oth k k1 k2), (hb.block rb (Array.getElem?_eq_some_iff.1 h.row).1).trans h.row, h.rng⟩

theorem AI.next {w Wb W : World} {l : List In} {rb : Nat} {pre : List (At l)} (h : AI w Wb l rb pre W) (hw : w.heap.size ≤ rb) (hg : GL l) (x : At l) (hz : ruleI l (RF l pre) (clF l) x.1 ≤ 1099511627776) : AI w Wb l rb (pre ++ [x]) (W.setCell ⟨rb, x.1, none⟩ (.int .i64 (ruleI l (RF l pre) (clF l) x.1))) := by
  refine ⟨h.bel.setCell (by show w.heap.size ≤ rb; exact hw) _, by simpa using h.siz, fun k k1 k2 => (Below.heap_setCell _ _ _ _ k2).trans (h.oth k k1 k2), ?_, fun j => ?_⟩
  · rw [setCell_at h.row, RF_snoc]
    congr 1
    have : (rowV (RF l pre) l.length).toArray.setIfInBounds x.1 (.int .i64 (ruleI l (RF l pre) (clF l) x.1)) = (rowV (updR (RF l pre) x.1 (ruleI l (RF l pre) (clF l) x.1)) l.length).toArray := by
      apply Array.ext
      · simp [rowV]
      · intro i h1 h2
        simp [rowV] at h2
        rw [Array.getElem_setIfInBounds (by simpa [rowV] using h2)]
        by_cases e : x.1 = i
        · rw [if_pos e]; simp [rowV, updR, e]
        · rw [if_neg e]; simp [rowV, updR]; exact fun e' => absurd e'.symm e
    rw [this]
  · rw [RF_snoc]
    unfold updR
    split
    · exact ⟨rule_pos hg.fwd x.2 (fun j => (h.rng j).1), hz⟩
    · exact h.rng j

theorem ins_at {w Wb : World} {l : List In} {iad : Option Addr} {ic : Nat} (h : InSl w l (.slice iad l.length ic)) (hb : Below w.heap.size w Wb) : l = [] ∨ ∃ b o, iad = some ⟨b, o, none⟩ ∧ b < w.heap.size ∧ ∀ j, j < l.length → Wb.cell? ⟨b, o + j * 3, none⟩ = some (.int .i64 (l.getD j in0).op) ∧ Wb.cell? ⟨b, o + j * 3 + 1, none⟩ = some (.int .i64 (l.getD j in0).a) ∧ Wb.cell? ⟨b, o + j * 3 + 2, none⟩ = some (.int .i64 (l.getD j in0).b) := by
  obtain ⟨ad', c', e', hrow⟩ := h
  cases e'
  rcases hrow with hrow | ⟨b, o, rfl, hrow⟩
  · exact .inl hrow
  by_cases hl : l = []
  · exact .inl hl
  · refine .inr ⟨b, o, rfl, World.block_lt_of_cell? _ _ (hrow 0 (List.length_pos_iff.2 hl)).1, fun j hj => ?_⟩
    exact ⟨below_cell hb (hrow j hj).1, below_cell hb (hrow j hj).2.1, below_cell hb (hrow j hj).2.2⟩

theorem AI_start {w Wb : World} {l : List In} {rb p : Nat} (h : A2 w Wb l.length rb p) : AI w Wb l rb [] Wb := by
  refine ⟨h.bel, Nat.le_refl _, fun _ _ _ => rfl, ?_, fun j => ⟨Int.le_refl _, by show (0 : Int) ≤ _; omega⟩⟩
  have e : rowV (RF l []) l.length = intVs (List.replicate l.length 0) := by
    apply List.ext_getElem
    · simp [rowV, intVs]
    · intro i h1 h2
      simp [rowV, intVs, RF]
  rw [e]
  exact h.kr

theorem keepSet {W : World} {g q : Nat} {v : Value} (hne : ¬ g = q) (h : W.cell? ⟨q, 0, none⟩ = some v) (a b : Value) : ((W.setCell ⟨g, 0, none⟩ a).setCell ⟨g, 1, none⟩ b).cell? ⟨q, 0, none⟩ = some v := by
  have e := other_two (w := W) (g := g) (k := q) (fun e => hne e.symm) a b
  unfold World.cell? at *
  dsimp only at *
  rw [e]
  exact h

theorem keepsO_below {W W' : World} (h : Below W.heap.size W W') : KeepsOthers W W' := ⟨h.size, fun k _ hk _ => (h.block k (Array.getElem?_eq_some_iff.1 hk).1).trans hk⟩

theorem an_fault {l : List In} {ini : List (At l)} {x : At l} (hd : Dn l (ini ++ [x])) (hl : (ini ++ [x]).length ≤ l.length) (h1 : ∀ j, RF l ini j ≤ 1099511627776) (h2 : 1099511627776 < ruleI l (RF l ini) (clF l) x.1) : 1099511627776 < restF l x.1 ∧ ∀ j, x.1 < j → restF l j ≤ 1099511627776 := by
  obtain ⟨hd', hx⟩ := hd.last
  have hl' : ini.length + 1 ≤ l.length := by simpa using hl
  have e := RF_rest ini.length ini rfl hd' (by omega)
  rw [e] at h1 h2
  constructor
  · rw [← restF_at x.2 (d := ini.length + 1) (by omega) (by omega)]
    show _ < (if x.1 = l.length - (ini.length + 1) then ruleI l (restAt l ini.length) (clF l) x.1 else _)
    rw [if_pos (by omega)]
    exact h2
  · intro j hj
    by_cases hjl : j < l.length
    · rw [← restF_at hjl (d := ini.length) (by omega) (by omega)]
      exact h1 j
    · rw [restF_out (by omega)]
      omega

/-- What Analyse answers, of an image that is right. -/
def AnP (l : List In) (w : World) (r : Ending) (w' : World) : Prop := Below w.heap.size w w' ∧ ((∃ k : Nat, k < l.length ∧ 1099511627776 < restF l k ∧ (∀ j, k < j → restF l j ≤ 1099511627776) ∧ r = .returned (.tuple #[.agg #[.int .i64 0, .slice none 0 0], .agg #[.int .i64 3, .int .i64 k]])) ∨
  ((∀ j, restF l j ≤ 1099511627776) ∧ ∃ rb, w.heap.size ≤ rb ∧ r = .returned (.tuple #[.agg #[.int .i64 (restF l 0), .slice (some ⟨rb, 0, none⟩) l.length l.length], .agg #[.int .i64 0, .int .i64 0]]) ∧ ∀ j, j < l.length → w'.cell? ⟨rb, j, none⟩ = some (.int .i64 (restF l j))))

theorem put_other {W : World} {D k : Nat} {o o' : Obj} (h : W.heap[k]? = some o) (hk : k ≠ D) : (W.putObj D o').heap[k]? = some o := (World.putObj_heap_other hk).trans h

theorem store_least (w : World) (b1 b2 b3 : Nat) : (store ⟨w.heap.size, 0, none⟩ (.func (Fn.func 71) #[] #[.pointer (some ⟨b1, 0, none⟩), .pointer (some ⟨b2, 0, none⟩), .pointer (some ⟨b3, 0, none⟩)])).run Tryd.prog (w.alloc (.cells #[.nilFunc] 67)) = .ok () (w.alloc (.cells #[.func (Fn.func 71) #[] #[.pointer (some ⟨b1, 0, none⟩), .pointer (some ⟨b2, 0, none⟩), .pointer (some ⟨b3, 0, none⟩)]] 67)) := by
  rw [run_store Tryd.prog _ _ (.func (Fn.func 71) #[] #[.pointer (some ⟨b1, 0, none⟩), .pointer (some ⟨b2, 0, none⟩), .pointer (some ⟨b3, 0, none⟩)]) .plain rfl]
  simp [go_sem]

set_option maxRecDepth 20000 in
theorem told_box (w : World) (ad : Option Addr) (n c : Nat) : Calls Tryd.prog 35 #[.slice ad n c] w fun r w' => ∃ p, w.heap.size ≤ p ∧ r = .returned (.func (Fn.func 69) #[] #[.pointer (some ⟨p, 0, none⟩)]) ∧ w'.cell? ⟨p, 0, none⟩ = some (.slice ad n c) ∧ Below w.heap.size w w' := by
  go_enter Tryd.func35, Tryd.ntmps35
  go_wp2_with fail
  go_ret
  exact ⟨_, Nat.le_refl _, rfl, by go_simp, below_new _ _⟩

set_option maxRecDepth 20000 in
set_option maxHeartbeats 4000000 in
theorem Analyse_bad (w : World) (l : List In) (iad : Option Addr) (ic : Nat) (hkk : KindsIn w) (hI : InSl w l (.slice iad l.length ic)) (c k : Int) (hc : checkI l = (c, k)) (h0 : ¬ c = 0) : Calls Tryd.prog 17 #[.slice iad l.length ic] w fun r w' => r = .returned (.tuple #[.agg #[.int .i64 0, .slice none 0 0], .agg #[.int .i64 c, .int .i64 k]]) ∧ Below w.heap.size w w' := by
  have hB : Below w.heap.size w ((w.alloc (.cells #[.int .i64 0, .slice none 0 0] 31)).alloc (.cells #[.int .i64 0, .int .i64 0] 37)) := ((Below.refl _ _).alloc (Nat.le_refl _) _).alloc (by simp) _
  have HC := Check_all _ l iad ic (hkk.below hB) (hI.below hB) c k hc
  have HB : Hid (Below w.heap.size w ((w.alloc (.cells #[.int .i64 0, .slice none 0 0] 31)).alloc (.cells #[.int .i64 0, .int .i64 0] 37))) := hB
  have hcb : (c != 0) = true := by simpa using h0
  have k2 : ((w.alloc (.cells #[.int .i64 0, .slice none 0 0] 31)).alloc (.cells #[.int .i64 0, .int .i64 0] 37)).heap[w.heap.size]? = some (.cells #[.int .i64 0, .slice none 0 0] 31 (0, 0)) := ((below_new _ _).block w.heap.size (by simp)).trans (heap_new _ _)
  have k3 : ((w.alloc (.cells #[.int .i64 0, .slice none 0 0] 31)).alloc (.cells #[.int .i64 0, .int .i64 0] 37)).heap[w.heap.size + 1]? = some (.cells #[.int .i64 0, .int .i64 0] 37 (0, 0)) := by have := heap_new (w.alloc (.cells #[.int .i64 0, .slice none 0 0] 31)) (.cells #[.int .i64 0, .int .i64 0] 37); rwa [World.size_alloc] at this
  have HK : Hid (_ ∧ _) := ⟨k2, k3⟩
  clear hB hkk hI hc k2 k3
  go_enter Tryd.func17, Tryd.ntmps17
  go_wp2_with (go_at_call 32; refine HC.mono ?_; rintro r w1 ⟨rfl, hb1⟩; have H1 : Hid (Below w.heap.size w w1) := below_seq HB.out hb1; have j2 := (hb1.block w.heap.size (by simp; omega)).trans HK.out.1; have j3 := (hb1.block (w.heap.size + 1) (by simp)).trans HK.out.2; obtain ⟨c1, f1, l1⟩ := cells_of (l := [_, _]) j2; obtain ⟨d1, e1, m1⟩ := cells_of (l := [_, _]) j3; have HJ : Hid (_ ∧ _) := ⟨j2, j3⟩; have c10 := c1 0 _ rfl; have c11 := c1 1 _ rfl; have d10 := d1 0 _ rfl; have d11 := d1 1 _ rfl; have f10 := f1 0; have f11 := f1 1; have e10 := e1 0; have e11 := e1 1; clear hb1 HC j2 j3 c1 f1 d1 e1)
  go_region
  all_goals go_wp2_with fail
  all_goals
    refine bodyPost_ret (An_ends (g := w.heap.size) (g' := w.heap.size + 1) (a0 := .int .i64 0) (a1 := .slice none 0 0) (c := .int .i64 c) (k := .int .i64 k) (((below_new _ _).block w.heap.size (by simp; omega)).trans ((other_two (by omega) _ _).trans (set_two HJ.out.1))) (((below_new _ _).block (w.heap.size + 1) (by simp; omega)).trans (set_two ((other_two (by omega) _ _).trans HJ.out.2))) rfl rfl) rfl ?_
    exact ⟨rfl, (((((H1.out.setCell (Nat.le_refl _) _).setCell (Nat.le_refl _) _).setCell (Nat.le_succ _) _).setCell (Nat.le_succ _) _).alloc (by simp; omega) _).drew⟩

end Go.Proofs.YtcmoehednkaehadDoor
