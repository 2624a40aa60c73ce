import Derived.Test.YtcmoehednkaehadDoorXL
import Derived.Test.YtcmoehednkaehadDoorRI
namespace Go.Proofs.YtcmoehednkaehadDoor
open Go.ChangeShapes Go.WideShapes Go.ChangeAt Go.RowKit

theorem docNest_len {l : List In} : ∀ (r : List In) (j : Nat) (os : List Nat) (rs rs' : List (Nat × Nat)) (os' : List Nat), docNest l r j os rs = .inr (os', rs') → rs'.length ≤ rs.length + r.length
  | [], j, os, rs, rs', os', h => by
    rw [docNest] at h
    cases h
    simp
  | x :: r, j, os, rs, rs', os', h => by
    rw [docNest] at h
    split at h
    · cases h
    have := docNest_len r _ _ _ _ _ h
    split at this
    · simp at this ⊢; omega
    · simp at this ⊢; omega

set_option maxRecDepth 20000 in
set_option maxHeartbeats 4000000 in
theorem shown_check (w : World) (l : List In) (iad : Option Addr) (ic : Nat) (W : Int) (rad : Option Addr) (rn rc : Nat) (hI : InSl w l (.slice iad l.length ic)) (c k : Int) (hc : docI l = (c, k)) (h0 : ¬ c = 0) : Calls Tryd.prog 13 #[.slice iad l.length ic, .agg #[.int .i64 W, .slice rad rn rc]] w fun r w' => r = .returned (.bool false) ∧ Below w.heap.size w w' := by
  have hB := below_new w (.cells #[.int .i64 W, .slice rad rn rc] 31)
  have HC := ReadImage_any _ l iad ic (hI.below hB) c k hc
  have HB : Hid (Below w.heap.size w (w.alloc (.cells #[.int .i64 W, .slice rad rn rc] 31))) := hB
  have hcb : (c != 0) = true := by simpa using h0
  clear hB hI hc
  go_enter Tryd.func13, Tryd.ntmps13
  go_wp2_with (go_at_call 37; refine HC.mono ?_; rintro r w1 ⟨⟨p, rfl, -⟩, hb1⟩; have H1 : Hid (Below w.heap.size w w1) := below_seq HB.out hb1; clear hb1 HC)
  go_ret
  exact ⟨rfl, H1.out.alloc H1.out.size _⟩

set_option maxRecDepth 20000 in
set_option maxHeartbeats 4000000 in
theorem shown_len (w : World) (l : List In) (iad : Option Addr) (ic : Nat) (W : Int) (rad : Option Addr) (rn rc : Nat) (hI : InSl w l (.slice iad l.length ic)) (hc : docI l = (0, 0)) (h0 : ¬ rn = l.length) : Calls Tryd.prog 13 #[.slice iad l.length ic, .agg #[.int .i64 W, .slice rad rn rc]] w fun r w' => r = .returned (.bool false) ∧ Below w.heap.size w w' := by
  have hB := below_new w (.cells #[.int .i64 W, .slice rad rn rc] 31)
  have HC := ReadImage_any _ l iad ic (hI.below hB) 0 0 hc
  have HB : Hid (Below w.heap.size w (w.alloc (.cells #[.int .i64 W, .slice rad rn rc] 31))) := hB
  have hni : ¬ ((rn : Int) = (l.length : Int)) := by omega
  have hcb : ((rn : Int) != (l.length : Int)) = true := by simpa using hni
  clear hB hI hc
  go_enter Tryd.func13, Tryd.ntmps13
  go_wp2_with (go_at_call 37; refine HC.mono ?_; rintro r w1 ⟨⟨p, rfl, -⟩, hb1⟩; have H1 : Hid (Below w.heap.size w w1) := below_seq HB.out hb1; have y1 : w1.cell? ⟨w.heap.size, 1, none⟩ = some (.slice rad rn rc) := below_cell hb1 (by go_simp); have lw : w.heap.size < w1.heap.size := World.block_lt_of_cell? w1 _ y1; clear hb1 HC)
  go_ret
  exact ⟨rfl, H1.out.alloc H1.out.size _⟩

/-- What Shown answers. -/
def ShP (l : List In) (W : Int) (R : Nat → Int) (w : World) (r : Ending) (w' : World) : Prop := ∃ v, r = .returned (.bool v) ∧ (v = true ↔ PV l W l.length R) ∧ Below w.heap.size w w'

theorem keepY {w1 W W' : World} {g rb j : Nat} {v1 v2 : Value} (hb : Below W.heap.size W W') (h : Below w1.heap.size w1 W ∧ W.cell? ⟨g, 1, none⟩ = some v1 ∧ W.cell? ⟨rb, j, none⟩ = some v2) :
    Below w1.heap.size w1 W' ∧ W'.cell? ⟨g, 1, none⟩ = some v1 ∧ W'.cell? ⟨rb, j, none⟩ = some v2 :=
  ⟨below_seq h.1 hb, below_cell hb h.2.1, below_cell hb h.2.2⟩

set_option maxRecDepth 20000 in
set_option maxHeartbeats 8000000 in
theorem shown_rest (w : World) (l : List In) (iad : Option Addr) (ic : Nat) (W : Int) (rad : Option Addr) (rc : Nat) (R : Nat → Int) (hI : InSl w l (.slice iad l.length ic)) (hc : docI l = (0, 0)) (hr : RowI w rad l.length R) (h0 : R l.length = 0) : Calls Tryd.prog 13 #[.slice iad l.length ic, .agg #[.int .i64 W, .slice rad l.length rc]] w (ShP l W R w) := by
  have hc' : checkI l = (0, 0) := by rw [← doc_check]; exact hc
  have hg := gl_of hc'
  have hlen := hg.len
  have hB := below_new w (.cells #[.int .i64 W, .slice rad l.length rc] 31)
  have HC := ReadImage_any _ l iad ic (hI.below hB) 0 0 hc
  have HB : Hid (Below w.heap.size w (w.alloc (.cells #[.int .i64 W, .slice rad l.length rc] 31))) := hB
  have HK : Hid (RowI w rad l.length R ∧ GL l ∧ checkI l = (0, 0)) := ⟨hr, hg, hc'⟩
  clear hB hI hc hr hg hc'
  go_enter Tryd.func13, Tryd.ntmps13
  go_wp2_with (go_at_call 37; refine HC.mono ?_; rintro r w1 ⟨⟨p, rfl, him⟩, hb1⟩; obtain ⟨rs, hn, iv, hiv, mb, gv, rfl, i1, g1, hreg⟩ := him rfl; obtain ⟨jad, jc, rfl, hjv⟩ := hiv; have HM : Hid (docNest l l 0 [] [] = .inr ([], rs) ∧ InSl w1 l (.slice jad l.length jc) ∧ w1.cell? ⟨mb, 0, none⟩ = some (.slice jad l.length jc) ∧ w1.cell? ⟨mb, 1, none⟩ = some gv ∧ RegSl w1 rs gv) := ⟨hn, ⟨jad, jc, rfl, hjv⟩, i1, g1, hreg⟩; have H1 : Hid (Below w.heap.size w w1) := below_seq HB.out hb1; have y0 : w1.cell? ⟨w.heap.size, 0, none⟩ = some (.int .i64 W) := below_cell hb1 (by go_simp); have y1 : w1.cell? ⟨w.heap.size, 1, none⟩ = some (.slice rad l.length rc) := below_cell hb1 (by go_simp); have lw : w.heap.size < w1.heap.size := World.block_lt_of_cell? w1 _ y1; clear hb1 HC him hn hjv i1 g1 hreg)
  have hb2 := below_new w1 (.cells #[.int .i64 0, .int .i64 0] 37)
  have z0 := below_cell hb2 y0
  have z1 := below_cell hb2 y1
  have H2 : Hid (Below w1.heap.size w1 (w1.alloc (.cells #[.int .i64 0, .int .i64 0] 37))) := hb2
  generalize (w1.alloc (.cells #[.int .i64 0, .int .i64 0] 37)) = w2 at *
  clear y0 y1 hb2 lw
  go_loopw [31] (fun i wr => ∃ j : Nat, j ≤ l.length ∧ i = .int .i64 j ∧ wr = w2 ∧ ∀ k, k < j → 0 ≤ R k ∧ R k ≤ 1099511627776) (fun i _ => l.length - (intOf i).toNat)
  case atStart => exact ⟨0, Nat.zero_le _, rfl, rfl, fun k hk => by omega⟩
  case round =>
    obtain ⟨j, hj, rfl, hw, hac⟩ := hrel
    have hw' := hw.symm
    clear hw
    subst hw'
    have HA : Hid (∀ k, k < j → 0 ≤ R k ∧ R k ≤ 1099511627776) := hac
    clear hac
    by_cases hjl : j < l.length
    · rcases HK.out.1.below (below_seq H1.out H2.out) with h | ⟨rb, ro, rfl, hrow⟩
      · omega
      have y5 := hrow j hjl
      have hji : (j : Int) < (l.length : Int) := by omega
      have HN : Hid (∀ x, R j = x → 0 ≤ x → x ≤ 1099511627776 → ∀ k, k < j + 1 → 0 ≤ R k ∧ R k ≤ 1099511627776) := fun x hx h1 h2 k hk => by
        by_cases e : k = j
        · subst e; rw [hx]; exact ⟨h1, h2⟩
        · exact HA.out k (by omega)
      have HF : Hid (∀ x, R j = x → (x < 0 ∨ 1099511627776 < x) → ¬ PV l W l.length R) := fun x hx h hp => by
        have := hp.rng j hjl
        omega
      obtain ⟨x, hx⟩ : ∃ x, R j = x := ⟨_, rfl⟩
      rw [hx] at y5
      have HX : Hid (R j = x) := hx
      clear hrow hx
      by_cases h1 : x < 0
      · go_wp2_with fail
        go_ret
        unfold ShP
        exact ⟨false, rfl, ⟨fun h => (by cases h), fun h => absurd h (HF.out x HX.out (.inl h1))⟩, below_seq H1.out H2.out⟩
      by_cases h2 : 1099511627776 < x
      · go_wp2_with fail
        go_ret
        unfold ShP
        exact ⟨false, rfl, ⟨fun h => (by cases h), fun h => absurd h (HF.out x HX.out (.inr h2))⟩, below_seq H1.out H2.out⟩
      · have h1' : 0 ≤ x := by omega
        have h2' : x ≤ 1099511627776 := by omega
        go_wp2_with fail
        exact ⟨⟨j + 1, by omega, by simp, (by first | rfl | trivial), HN.out x HX.out h1' h2'⟩, by simp [intOf]; omega⟩
    · have hje : j = l.length := by omega
      subst hje
      have HAA : Hid (∀ j, j ≤ l.length → 0 ≤ R j ∧ R j ≤ 1099511627776) := fun j hj => by
        by_cases e : j = l.length
        · rw [e, h0]; omega
        · exact HA.out j (by omega)
      go_wp2_with fail
      go_loopw [44] (fun i wr' => ∃ j : Nat, j ≤ l.length ∧ i = .int .i64 j ∧ Below w2.heap.size w2 wr' ∧ ∀ k, k < j → ruleI l R (clF l) k ≤ R k) (fun i _ => l.length - (intOf i).toNat)
      case atStart => exact ⟨0, Nat.zero_le _, rfl, Below.refl _ _, fun k hk => by omega⟩
      case round =>
        obtain ⟨j, hj', rfl, hb, hac⟩ := hrel
        have HBR : Hid (Below w2.heap.size w2 wr ∧ ∀ k, k < j → ruleI l R (clF l) k ≤ R k) := ⟨hb, hac⟩
        have t0 := below_cell hb z0
        have t1 := below_cell hb z1
        clear hac hb
        have hbb : Below w.heap.size w wr := below_seq (below_seq H1.out H2.out) HBR.out.1
        have HS : Hid (Below w.heap.size w wr) := hbb
        by_cases hjl2 : j < l.length
        · rcases HK.out.1.below hbb with h | ⟨rb, ro, rfl, hrow⟩
          · omega
          have y5 := hrow j hjl2
          have hji : (j : Int) < (l.length : Int) := by omega
          have HLF : Hid (∀ W', Below wr.heap.size wr W' → Calls Tryd.prog 39 #[.pointer (some ⟨mb, 0, none⟩), .int .i64 j, .func (Fn.func 38) #[] #[.pointer (some ⟨w.heap.size, 0, none⟩)]] W' fun r w' => r = .returned (.int .i64 (ruleI l R (clF l) j)) ∧ Below W'.heap.size W' w') := fun W' hW' => by
            have hb1 : Below w1.heap.size w1 W' := below_seq H2.out (below_seq HBR.out.1 hW')
            obtain ⟨m1, m2, m3, m4, m5⟩ := HM.out
            refine left_any W' l R mb w.heap.size j rs gv jad jc HK.out.2.1 hjl2 h0 (fun i _ h2 => HAA.out i h2) m1 (below_cell hb1 m3) (m2.below hb1) (below_cell hb1 m4) ?_ (by have := docNest_len l 0 [] [] rs [] m1; simp at this; omega) ⟨_, _, below_cell hW' t1, HK.out.1.below (below_seq HS.out hW')⟩
            obtain ⟨ad, c, rfl, hrow⟩ := m5
            refine ⟨ad, c, rfl, ?_⟩
            rcases hrow with h | ⟨b, o, h1, h2⟩
            · exact .inl h
            · exact .inr ⟨b, o, h1, fun j hj => ⟨below_cell hb1 (h2 j hj).1, below_cell hb1 (h2 j hj).2⟩⟩
          clear hrow hbb
          rcases hcmp : decide (R j < ruleI l R (clF l) j) with _ | _
          · have hle : ruleI l R (clF l) j ≤ R j := by simpa using hcmp
            have HLE : Hid (∀ k, k < j + 1 → ruleI l R (clF l) k ≤ R k) := fun k hk => by
              by_cases e : k = j
              · rw [e]; exact hle
              · exact HBR.out.2 k (by omega)
            generalize ruleI l R (clF l) j = z at *
            generalize R j = y at *
            go_wp2_with fail
            go_region_held3 (fun w' => Below wr.heap.size wr w' ∧ w'.cell? ⟨w.heap.size, 1, none⟩ = some (.slice (some ⟨rb, ro, none⟩) l.length rc) ∧ w'.cell? ⟨rb, ro + j, none⟩ = some (.int .i64 y))
              (first | assumption | exact ⟨(Below.refl _ _).drew, t1, y5⟩)
              (first
                | (go_at_call 39; refine (HLF.out _ (And.left ‹Below wr.heap.size wr _ ∧ _›)).mono ?_; rintro r wc ⟨rfl, hbc⟩; have hSc := keepY hbc ‹Below wr.heap.size wr _ ∧ _›; clear hbc))
            all_goals
              obtain ⟨hB, -⟩ := ‹Below wr.heap.size wr _ ∧ _›
              have HB2 : Hid _ := below_seq HBR.out.1 hB
              clear hB
              go_wp2_with fail
              exact ⟨⟨j + 1, by omega, by simp, HB2.out, HLE.out⟩, by simp [intOf]; omega⟩
          · have hlt : R j < ruleI l R (clF l) j := by simpa using hcmp
            have HLT : Hid (¬ PV l W l.length R) := fun h => absurd (h.rul j hjl2) (by omega)
            generalize ruleI l R (clF l) j = z at *
            generalize R j = y at *
            go_wp2_with fail
            go_region_held3 (fun w' => Below wr.heap.size wr w' ∧ w'.cell? ⟨w.heap.size, 1, none⟩ = some (.slice (some ⟨rb, ro, none⟩) l.length rc) ∧ w'.cell? ⟨rb, ro + j, none⟩ = some (.int .i64 y))
              (first | assumption | exact ⟨(Below.refl _ _).drew, t1, y5⟩)
              (first
                | (go_at_call 39; refine (HLF.out _ (And.left ‹Below wr.heap.size wr _ ∧ _›)).mono ?_; rintro r wc ⟨rfl, hbc⟩; have hSc := keepY hbc ‹Below wr.heap.size wr _ ∧ _›; clear hbc))
            all_goals
              obtain ⟨hB, -⟩ := ‹Below wr.heap.size wr _ ∧ _›
              have HB2 : Hid _ := below_seq HS.out hB
              clear hB
              go_wp2_with fail
              go_ret
              unfold ShP
              exact ⟨false, rfl, ⟨fun h => (by cases h), fun h => absurd h HLT.out⟩, HB2.out⟩
        · have hje : j = l.length := by omega
          subst hje
          have hT0 : ∀ W', Below wr.heap.size wr W' → Calls Tryd.prog 38 #[.int .i64 0, .pointer (some ⟨w.heap.size, 0, none⟩)] W' fun r w' => r = .returned (.int .i64 (R 0)) ∧ ∃ m, w' = W'.drewN m := fun W' hW' => (shown1_same W' w.heap.size l.length R 0 hlen (Nat.zero_le _) h0 ⟨_, _, below_cell hW' t1, HK.out.1.below (below_seq HS.out hW')⟩).mono fun _ _ ⟨h1, h2⟩ => ⟨h1, 0, h2⟩
          have HT0 : Hid _ := hT0
          clear hT0 hbb
          go_wp2_with fail
          go_quiet (first | (go_at_call 38; exact Calls.quiet_of (HT0.out _ (belowD _ _))))
          go_wp2_with fail
          go_ret
          unfold ShP
          exact ⟨_, rfl, ⟨fun h => ⟨(by rw [HK.out.2.2]), rfl, fun j hj => HAA.out j (by omega), HBR.out.2, (by simpa using h)⟩, fun h => (by simpa using h.top)⟩, below_seq HS.out (belowD _ _)⟩

end Go.Proofs.YtcmoehednkaehadDoor
