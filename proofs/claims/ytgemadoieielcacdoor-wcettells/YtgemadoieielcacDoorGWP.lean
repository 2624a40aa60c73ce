import Derived.Test.YtgemadoieielcacDoorGWQ
namespace Go.Proofs.YtgemadoieielcacDoor
open Go.ChangeShapes Go.WideShapes Go.ChangeAt Go.RowKit

theorem rules1_any (w : World) (l : List In) (R : Nat → Int) (b1 b2 b3 k : Nat) (hg : GL l) (hk : k < l.length) (h0 : R l.length = 0) (hR : ∀ j, k < j → j ≤ l.length → 0 ≤ R j ∧ R j ≤ 1099511627776) (hkk : KindsIn w) (h : RulesAt w l R b1 b2 b3) :
    Calls Tryd.prog 114 #[.int .i64 k, .pointer (some ⟨b1, 0, none⟩), .pointer (some ⟨b2, 0, none⟩), .pointer (some ⟨b3, 0, none⟩)] w fun r w' => r = .returned (.int .i64 (ruleI l R (clF l) k)) ∧ Below w.heap.size w w' := by
  obtain ⟨iad, ic, i1, hI⟩ := h.img
  obtain ⟨p, f1, hT⟩ := h.frm
  obtain ⟨cb, d1, hC⟩ := h.cls
  have hf := hg.fwd.form k hk
  have hTl := tells_of k hg.len h0 hT
  have hj := hg.fwd.jump k hk
  have hs := hg.fwd.shut k hk
  have h13' := hg.shut k hk
  have hz := hR (k + 1) (by omega) (by omega)
  rcases hx : l.getD k in0 with ⟨op, a, b⟩
  rw [hx] at hf hj hs h13'
  have hc := costs_of hkk hf
  have hcl := cost_le hf false
  obtain ⟨fa, -, -, -, f13, -⟩ := form_a hf
  unfold ruleI
  rw [hx]
  dsimp only at *
  have hcd := hC k hk
  by_cases h14 : op = 14
  · subst h14
    rw [if_pos rfl]
    exact rules_14 w l R b1 b2 b3 k hg.len hk iad ic p cb a b i1 f1 d1 hI hx hc hTl
  rw [if_neg h14]
  by_cases h17 : op = 17
  · subst h17
    rw [if_pos rfl]
    exact rules_17 w l R b1 b2 b3 k hg.len hk iad ic p cb a b i1 f1 d1 hI hx hc hTl
  rw [if_neg h17]
  by_cases h11 : op = 11
  · subst h11
    rw [if_pos rfl]
    have hj := hj (.inl rfl)
    exact rules_11 w l R b1 b2 b3 k hg.len hk iad ic p cb a b a.toNat (by omega) hj.1 hj.2 (hR _ hj.1 hj.2) i1 f1 d1 hI hx hc hTl
  rw [if_neg h11]
  by_cases h12 : op = 12
  · subst h12
    rw [if_pos rfl]
    have hj := hj (.inr rfl)
    exact rules_12 w l R b1 b2 b3 k hg.len hk iad ic p cb a b a.toNat (by omega) hj.1 hj.2 hz (hR _ hj.1 hj.2) i1 f1 d1 hI hx hc hTl
  rw [if_neg h12]
  by_cases h13 : op = 13
  · subst h13
    rw [if_pos rfl]
    have hs := hs (.inl rfl)
    have h14q := h13' rfl
    have hf2 := hg.fwd.form (clF l k) hs.2
    rcases hx2 : l.getD (clF l k) in0 with ⟨op2, a2, b2v⟩
    rw [hx2] at hf2 h14q
    dsimp only at h14q
    subst h14q
    exact rules_13 w l R b1 b2 b3 k hg.len hk iad ic p cb a b (clF l k) a2 b2v (f13 rfl) hs.1 hs.2 hcd hz (hR _ (by omega) (by omega)) hx2 (costs_of hkk hf2) i1 f1 d1 hI hx hc hTl
  rw [if_neg h13]
  by_cases h16 : op = 16
  · subst h16
    rw [if_pos rfl]
    have hs := hs (.inr rfl)
    exact rules_16 w l R b1 b2 b3 k hg.len hk iad ic p cb a b (clF l k) hs.1 hs.2 hcd hz (hR _ (by omega) (by omega)) i1 f1 d1 hI hx hc hTl
  rw [if_neg h16]
  exact rules_else w l R b1 b2 b3 k hg.len hk iad ic p cb op a b h14 h17 h11 h12 h13 h16 _ rfl (by omega) hz i1 f1 d1 hI hx hc hTl

set_option maxRecDepth 20000 in
set_option maxHeartbeats 4000000 in
/-- What rules makes. -/
theorem rules_any (w : World) (l : List In) (iad : Option Addr) (ic p : Nat) (hg : GL l) (hI : InSl w l (.slice iad l.length ic)) :
    Calls Tryd.prog 79 #[.slice iad l.length ic, .func (Fn.func 112) #[] #[.pointer (some ⟨p, 0, none⟩)]] w fun r w' => ∃ b1 b2 b3, r = .returned (.func (Fn.func 114) #[] #[.pointer (some ⟨b1, 0, none⟩), .pointer (some ⟨b2, 0, none⟩), .pointer (some ⟨b3, 0, none⟩)]) ∧ w.heap.size ≤ b1 ∧ w.heap.size ≤ b2 ∧ w.heap.size ≤ b3 ∧
      w'.cell? ⟨b1, 0, none⟩ = some (.slice iad l.length ic) ∧ w'.cell? ⟨b2, 0, none⟩ = some (.func (Fn.func 112) #[] #[.pointer (some ⟨p, 0, none⟩)]) ∧ (∃ cb, w.heap.size ≤ cb ∧ w'.cell? ⟨b3, 0, none⟩ = some (.slice (some ⟨cb, 0, none⟩) l.length l.length) ∧ ∀ j, j < l.length → w'.cell? ⟨cb, j, none⟩ = some (.int .i64 (clF l j))) ∧ Below w.heap.size w w' := by
  have HI : Hid (InSl w l (.slice iad l.length ic)) := hI
  have HG : Hid (GL l) := hg
  clear hI hg
  go_enter Tryd.func79, Tryd.ntmps79
  have hB : Below w.heap.size w ((w.alloc (.cells #[.slice iad l.length ic] 22)).alloc (.cells #[.func (Fn.func 112) #[] #[.pointer (some ⟨p, 0, none⟩)]] 144)) := ((Below.refl _ _).alloc (Nat.le_refl _) _).alloc (by simp) _
  have HB : Hid _ := hB
  clear hB
  go_wp2_with (go_at_call 113; refine (closers_any _ l iad ic HG.out (HI.out.below HB.out)).mono ?_; rintro r w1 ⟨cb, hcb, rfl, hrow, hb1⟩; have H1 : Hid (_ ∧ _ ∧ _) := ⟨hcb, hrow, hb1⟩; have hsz : w.heap.size + 2 ≤ w1.heap.size := (by have := hb1.size; simp at this; omega); clear hcb hrow hb1)
  go_ret
  obtain ⟨hcb, hrow, hb1⟩ := H1.out
  have hb2 : Below w1.heap.size w1 (w1.alloc (.cells #[.slice (some ⟨cb, 0, none⟩) l.length l.length] 23)) := below_new _ _
  have hbb := below_seq hb1 hb2
  refine ⟨w.heap.size, w.heap.size + 1, w1.heap.size, rfl, Nat.le_refl _, by omega, by omega, below_cell hbb (by go_simp), below_cell hbb (by go_simp), ⟨cb, by simp at hcb; omega, by go_simp, fun j hj => ?_⟩, below_seq HB.out hbb⟩
  exact below_cell hb2 ((cells_of (l := natVs (clAt l l.length)) hrow).1 j _ (natVs_at _ _ (by rw [clAt_len]; exact hj)))

end Go.Proofs.YtgemadoieielcacDoor
namespace Go.Proofs.YtgemadoieielcacDoor
open Go.ChangeShapes Go.WideShapes Go.ChangeAt Go.RowKit

theorem check_zero {l : List In} (h : (checkI l).1 = 0) : checkI l = (0, 0) := by
  rw [← doc_check] at *
  unfold docI at *
  by_cases hl : 2000 < l.length
  · rw [if_pos hl] at h; simp at h
  rw [if_neg hl] at *
  rcases hf : scan (fun _ x => formErr x) l 0 with _ | ⟨c, k⟩
  rotate_left 1
  · rw [hf] at h; exact absurd h (scan_bad _ l 0 hf)
  rw [hf] at h
  dsimp only at *
  rcases hn : docNest l l 0 [] [] with ⟨c, k⟩ | ⟨_ | ⟨o, os⟩, rs⟩
  · rw [hn] at h; exact absurd h (docNest_bad l l 0 [] [] hn)
  rotate_left 1
  · rw [hn] at h
    dsimp only at h
    split at h <;> simp at h
  rw [hn] at h
  dsimp only at *
  rcases hj : scan (docJump l rs) l 0 with _ | ⟨c, k⟩
  rotate_left 1
  · rw [hj] at h; exact absurd h (scan_bad _ l 0 hj)
  rw [hj] at h
  dsimp only at *
  rcases hs : stackScan l 0 M0 with ⟨c, k⟩ | M
  · rw [hs] at h; exact absurd h (stackScan_bad l 0 M0 hs)
  · rw [hs] at h
    dsimp only at *
    split
    · rename_i e; rw [if_pos e] at h; simp at h
    · rfl

theorem field_37 (W : World) (a b : Int) : (Instr.field 30 (.agg #[.int .i64 a, .int .i64 b]) 0).run Tryd.prog W = .ok (.int .i64 a) W := by kernel_rfl

/-- Do the numbers show it? -/
structure PV (l : List In) (W : Int) (n : Nat) (R : Nat → Int) : Prop where
  ok : (checkI l).1 = 0
  len : n = l.length
  rng : ∀ j, j < n → 0 ≤ R j ∧ R j ≤ 1099511627776
  rul : ∀ k, k < n → ruleI l R (clF l) k ≤ R k
  top : R 0 ≤ W

set_option maxRecDepth 20000 in
set_option maxHeartbeats 4000000 in
theorem Proves_check (w : World) (l : List In) (iad : Option Addr) (ic : Nat) (W : Int) (rad : Option Addr) (rn rc : Nat) (hkk : KindsIn w) (hI : InSl w l (.slice iad l.length ic)) (c k : Int) (hc : checkI l = (c, k)) (h0 : ¬ c = 0) : Calls Tryd.prog 75 #[.slice iad l.length ic, .agg #[.int .i64 W, .slice rad rn rc]] w fun r w' => r = .returned (.bool false) ∧ Below w.heap.size w w' := by
  have hB := below_new w (.cells #[.int .i64 W, .slice rad rn rc] 77)
  have HC := Check_all _ l iad ic (hkk.below hB) (hI.below hB) c k hc
  have HB : Hid (Below w.heap.size w (w.alloc (.cells #[.int .i64 W, .slice rad rn rc] 77))) := hB
  have hcb : (c != 0) = true := by simpa using h0
  clear hB hkk hI hc
  have hfl := field_37
  go_enter Tryd.func75, Tryd.ntmps75
  go_wp2_with (go_at_call 38; refine HC.mono ?_; rintro r w1 ⟨rfl, hb1⟩; have H1 : Hid (Below w.heap.size w w1) := below_seq HB.out hb1; clear hb1 HC)
  go_ret
  exact ⟨rfl, H1.out⟩

set_option maxRecDepth 20000 in
set_option maxHeartbeats 4000000 in
theorem Proves_len (w : World) (l : List In) (iad : Option Addr) (ic : Nat) (W : Int) (rad : Option Addr) (rn rc : Nat) (hkk : KindsIn w) (hI : InSl w l (.slice iad l.length ic)) (hc : checkI l = (0, 0)) (h0 : ¬ rn = l.length) : Calls Tryd.prog 75 #[.slice iad l.length ic, .agg #[.int .i64 W, .slice rad rn rc]] w fun r w' => r = .returned (.bool false) ∧ Below w.heap.size w w' := by
  have hB := below_new w (.cells #[.int .i64 W, .slice rad rn rc] 77)
  have HC := Check_all _ l iad ic (hkk.below hB) (hI.below hB) 0 0 hc
  have HB : Hid (Below w.heap.size w (w.alloc (.cells #[.int .i64 W, .slice rad rn rc] 77))) := hB
  have hni : ¬ ((rn : Int) = (l.length : Int)) := by omega
  have hcb : ((rn : Int) != (l.length : Int)) = true := by simpa using hni
  clear hB hkk hI hc
  have hfl := field_37
  go_enter Tryd.func75, Tryd.ntmps75
  go_wp2_with (go_at_call 38; refine HC.mono ?_; rintro r w1 ⟨rfl, hb1⟩; have H1 : Hid (Below w.heap.size w w1) := below_seq HB.out hb1; have y1 : w1.cell? ⟨w.heap.size, 1, none⟩ = some (.slice rad rn rc) := below_cell hb1 (by go_simp); clear hb1 HC)
  go_ret
  exact ⟨rfl, H1.out⟩

set_option maxRecDepth 20000 in
set_option maxHeartbeats 8000000 in
theorem Proves_rest (w : World) (l : List In) (iad : Option Addr) (ic : Nat) (W : Int) (rad : Option Addr) (rc : Nat) (R : Nat → Int) (hkk : KindsIn w) (hI : InSl w l (.slice iad l.length ic)) (hc : checkI l = (0, 0)) (hrc : l.length ≤ rc) (hr : RowI w rad l.length R) (h0 : R l.length = 0) : Calls Tryd.prog 75 #[.slice iad l.length ic, .agg #[.int .i64 W, .slice rad l.length rc]] w fun r w' => ∃ v, r = .returned (.bool v) ∧ (v = true ↔ PV l W l.length R) ∧ Below w.heap.size w w' := by
  have hg := gl_of hc
  have hlen := hg.len
  have hB := below_new w (.cells #[.int .i64 W, .slice rad l.length rc] 77)
  have HC := Check_all _ l iad ic (hkk.below hB) (hI.below hB) 0 0 hc
  have HB : Hid (Below w.heap.size w (w.alloc (.cells #[.int .i64 W, .slice rad l.length rc] 77))) := hB
  have HK : Hid (KindsIn w ∧ InSl w l (.slice iad l.length ic) ∧ RowI w rad l.length R ∧ GL l ∧ checkI l = (0, 0)) := ⟨hkk, hI, hr, hg, hc⟩
  clear hB hkk hI hc hr hg
  have hfl := field_37
  go_enter Tryd.func75, Tryd.ntmps75
  go_wp2_with (go_at_call 38; refine HC.mono ?_; rintro r w1 ⟨rfl, hb1⟩; have H1 : Hid (Below w.heap.size w w1) := below_seq HB.out hb1; have y0 : w1.cell? ⟨w.heap.size, 0, none⟩ = some (.int .i64 W) := below_cell hb1 (by go_simp); have y1 : w1.cell? ⟨w.heap.size, 1, none⟩ = some (.slice rad l.length rc) := below_cell hb1 (by go_simp); have HO := contains_off w1 rad l.length rc R hlen hrc (HK.out.2.2.1.below H1.out); clear hb1 HC)
  by_cases hall : ∀ j, 0 ≤ j → j < 0 + l.length → 0 ≤ R j ∧ R j ≤ 1099511627776
  · rw [idxI_neg R l.length l.length 0 hall, show decide ((0 : Int) ≤ -1) = false from rfl] at HO
    have hall' : ∀ j, j < l.length → 0 ≤ R j ∧ R j ≤ 1099511627776 := fun j hj => hall j (Nat.zero_le _) (by omega)
    have HA : Hid (∀ j, j ≤ l.length → 0 ≤ R j ∧ R j ≤ 1099511627776) := fun j hj => by
      by_cases e : j = l.length
      · rw [e, h0]; omega
      · exact hall' j (by omega)
    clear hall hall'
    go_wp2_with (go_at_call 109; refine HO.mono ?_; rintro r w2 ⟨rfl, hb2⟩; have H2 : Hid (Below w.heap.size w w2) := below_seq H1.out hb2; have k0 := below_cell hb2 y0; have k1 := below_cell hb2 y1; have HT := told_any w2 rad l.length rc R hrc (HK.out.2.2.1.below H2.out); clear hb2 HO y0 y1)
    go_wp2_with (go_at_call 78; refine HT.mono ?_; rintro r w3 ⟨p, -, rfl, hta, hb3⟩; have H3 : Hid (Below w.heap.size w w3) := below_seq H2.out hb3; have m0 := below_cell hb3 k0; have m1 := below_cell hb3 k1; have HTA : Hid (ToldAt w3 p l.length R) := hta; have HR := rules_any w3 l iad ic p HK.out.2.2.2.1 (HK.out.2.1.below H3.out); clear hb3 hta HT k0 k1)
    go_wp2_with (go_at_call 79; refine HR.mono ?_; rintro r w4 ⟨b1, b2, b3, rfl, -, -, -, q1, q2, ⟨cb, -, q3, q4⟩, hb4⟩; have H4 : Hid (Below w.heap.size w w4) := below_seq H3.out hb4; have s0 := below_cell hb4 m0; have s1 := below_cell hb4 m1; have HRA : Hid (RulesAt w4 l R b1 b2 b3 ∧ ToldAt w4 p l.length R) := ⟨⟨⟨iad, ic, q1, HK.out.2.1.below (below_seq H3.out hb4)⟩, ⟨p, q2, HTA.out.below hb4⟩, ⟨cb, q3, q4⟩⟩, HTA.out.below hb4⟩; clear hb4 q1 q2 q3 q4 HR m0 m1)
    go_loopw [33] (fun i wr => ∃ j : Nat, j ≤ l.length ∧ i = .int .i64 j ∧ Below w4.heap.size w4 wr ∧ ∀ k, k < j → ruleI l R (clF l) k ≤ R k) (fun i _ => l.length - (intOf i).toNat)
    case atStart => exact ⟨0, Nat.zero_le _, rfl, Below.refl _ _, fun k hk => by omega⟩
    case round =>
      obtain ⟨j, hj, rfl, hb, hac⟩ := hrel
      have HBR : Hid (Below w4.heap.size w4 wr) := hb
      have HAC : Hid (∀ k, k < j → ruleI l R (clF l) k ≤ R k) := hac
      have t0 := below_cell hb s0
      have t1 := below_cell hb s1
      clear hac hb
      by_cases hjl : j < l.length
      · rcases HK.out.2.2.1.below (below_seq H4.out HBR.out) with h | ⟨rb, ro, rfl, hrow⟩
        · omega
        have y5 := hrow j hjl
        have HRU := rules1_any wr l R b1 b2 b3 j HK.out.2.2.2.1 hjl h0 (fun i _ h2 => HA.out i h2) (HK.out.1.below (below_seq H4.out HBR.out)) (HRA.out.1.below HBR.out)
        have hji : (j : Int) < (l.length : Int) := by omega
        clear hrow
        rcases hcmp : decide (R j < ruleI l R (clF l) j) with _ | _
        · have hle : ruleI l R (clF l) j ≤ R j := by simpa using hcmp
          have HLE : Hid (∀ k, k < j + 1 → ruleI l R (clF l) k ≤ R k) := fun k hk => by
            by_cases e : k = j
            · rw [e]; exact hle
            · exact HAC.out k (by omega)
          generalize ruleI l R (clF l) j = z at *
          generalize R j = y at *
          go_wp2_with (go_at_call 114; refine HRU.mono ?_; rintro r w5 ⟨rfl, hb5⟩; have H5 : Hid (Below w4.heap.size w4 w5) := below_seq HBR.out hb5; clear hb5 HRU)
          exact ⟨⟨j + 1, by omega, by simp, H5.out, HLE.out⟩, by simp [intOf]; omega⟩
        · have hlt : R j < ruleI l R (clF l) j := by simpa using hcmp
          have HLT : Hid (¬ PV l W l.length R) := fun h => absurd (h.rul j hjl) (by omega)
          generalize ruleI l R (clF l) j = z at *
          generalize R j = y at *
          go_wp2_with (go_at_call 114; refine HRU.mono ?_; rintro r w5 ⟨rfl, hb5⟩; have H5 : Hid (Below w4.heap.size w4 w5) := below_seq HBR.out hb5; clear hb5 HRU)
          go_ret
          exact ⟨_, rfl, ⟨fun h => (by cases h), fun h => absurd h HLT.out⟩, below_seq H4.out H5.out⟩
      · have hje : j = l.length := by omega
        subst hje
        have hT0 : ∀ W, Below w4.heap.size w4 W → Calls Tryd.prog 112 #[.int .i64 0, .pointer (some ⟨p, 0, none⟩)] W fun r w' => r = .returned (.int .i64 (R 0)) ∧ ∃ m, w' = W.drewN m := fun W hW => (told1_same W p l.length R 0 hlen (Nat.zero_le _) h0 (HRA.out.2.below hW)).mono fun _ _ ⟨h1, h2⟩ => ⟨h1, 0, h2⟩
        have HT0 : Hid _ := hT0
        clear hT0
        go_wp2_with fail
        go_quiet (first | (go_at_call 112; exact Calls.quiet_of (HT0.out _ (below_seq HBR.out (belowD _ _)))))
        go_wp2_with fail
        go_ret
        exact ⟨_, rfl, ⟨fun h => ⟨(by rw [HK.out.2.2.2.2]), rfl, fun j hj => HA.out j (by omega), HAC.out, (by simpa using h)⟩, fun h => (by simpa using h.top)⟩, below_seq H4.out (below_seq HBR.out (belowD _ _))⟩
  · have hp := idxI_pos R l.length l.length 0 hall
    rw [decide_eq_true hp] at HO
    clear hp
    go_wp2_with (go_at_call 109; refine HO.mono ?_; rintro r w2 ⟨rfl, hb2⟩; have H2 : Hid (Below w.heap.size w w2) := below_seq H1.out hb2; clear hb2 HO)
    go_ret
    exact ⟨false, rfl, ⟨fun h => (by cases h), fun h => absurd (fun j _ hj => h.rng j (by omega)) hall⟩, H2.out⟩

theorem Proves_any (w : World) (l : List In) (iad : Option Addr) (ic : Nat) (W : Int) (rad : Option Addr) (rn rc : Nat) (R : Nat → Int) (hkk : KindsIn w) (hI : InSl w l (.slice iad l.length ic)) (hrc : rn ≤ rc) (hr : RowI w rad rn R) (h0 : R rn = 0) : Calls Tryd.prog 75 #[.slice iad l.length ic, .agg #[.int .i64 W, .slice rad rn rc]] w fun r w' => ∃ v, r = .returned (.bool v) ∧ (v = true ↔ PV l W rn R) ∧ Below w.heap.size w w' := by
  rcases hc : checkI l with ⟨c, k⟩
  by_cases hz : c = 0
  · have hc0 : checkI l = (0, 0) := check_zero (by rw [hc]; exact hz)
    by_cases hn : rn = l.length
    · subst hn
      exact Proves_rest w l iad ic W rad rc R hkk hI hc0 hrc hr h0
    · exact (Proves_len w l iad ic W rad rn rc hkk hI hc0 hn).mono fun _ _ ⟨h1, h2⟩ => ⟨false, h1, ⟨fun h => (by cases h), fun h => absurd h.len hn⟩, h2⟩
  · exact (Proves_check w l iad ic W rad rn rc hkk hI c k hc hz).mono fun _ _ ⟨h1, h2⟩ => ⟨false, h1, ⟨fun h => (by cases h), fun h => absurd (by have := h.ok; rw [hc] at this; exact this) hz⟩, h2⟩

end Go.Proofs.YtgemadoieielcacDoor
