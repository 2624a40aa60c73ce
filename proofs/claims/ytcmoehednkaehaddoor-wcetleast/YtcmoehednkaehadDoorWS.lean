import Derived.Test.YtcmoehednkaehadDoorWQ
namespace Go.Proofs.YtcmoehednkaehadDoor
open Go.ChangeShapes Go.WideShapes Go.ChangeAt Go.RowKit

theorem rules1_any (w : World) (l : List In) (R : Nat → Int) (b1 b2 b3 k : Nat) (hg : GL l) (hk : k < l.length) (h0 : R l.length = 0) (hR : ∀ j, k < j → j ≤ l.length → 0 ≤ R j ∧ R j ≤ 1099511627776) (hkk : KindsIn w) (h : RulesAt w l R b1 b2 b3) :
    Calls Tryd.prog 71 #[.int .i64 k, .pointer (some ⟨b1, 0, none⟩), .pointer (some ⟨b2, 0, none⟩), .pointer (some ⟨b3, 0, none⟩)] w fun r w' => r = .returned (.int .i64 (ruleI l R (clF l) k)) ∧ Below w.heap.size w w' := by
  obtain ⟨iad, ic, i1, hI⟩ := h.img
  obtain ⟨p, f1, hT⟩ := h.frm
  obtain ⟨cb, d1, hC⟩ := h.cls
  have hf := hg.fwd.form k hk
  have hTl := tells_of k hg.len h0 hT
  have hj := hg.fwd.jump k hk
  have hs := hg.fwd.shut k hk
  have h13' := hg.shut k hk
  have hz := hR (k + 1) (by omega) (by omega)
  rcases hx : l.getD k in0 with ⟨op, a, b⟩
  rw [hx] at hf hj hs h13'
  have hc := costs_of hkk hf
  have hcl := cost_le hf false
  obtain ⟨fa, -, -, -, f13, -⟩ := form_a hf
  unfold ruleI
  rw [hx]
  dsimp only at *
  have hcd := hC k hk
  by_cases h14 : op = 14
  · subst h14
    rw [if_pos rfl]
    exact rules_14 w l R b1 b2 b3 k hg.len hk iad ic p cb a b i1 f1 d1 hI hx hc hTl
  rw [if_neg h14]
  by_cases h17 : op = 17
  · subst h17
    rw [if_pos rfl]
    exact rules_17 w l R b1 b2 b3 k hg.len hk iad ic p cb a b i1 f1 d1 hI hx hc hTl
  rw [if_neg h17]
  by_cases h11 : op = 11
  · subst h11
    rw [if_pos rfl]
    have hj := hj (.inl rfl)
    exact rules_11 w l R b1 b2 b3 k hg.len hk iad ic p cb a b a.toNat (by omega) hj.1 hj.2 (hR _ hj.1 hj.2) i1 f1 d1 hI hx hc hTl
  rw [if_neg h11]
  by_cases h12 : op = 12
  · subst h12
    rw [if_pos rfl]
    have hj := hj (.inr rfl)
    exact rules_12 w l R b1 b2 b3 k hg.len hk iad ic p cb a b a.toNat (by omega) hj.1 hj.2 hz (hR _ hj.1 hj.2) i1 f1 d1 hI hx hc hTl
  rw [if_neg h12]
  by_cases h13 : op = 13
  · subst h13
    rw [if_pos rfl]
    have hs := hs (.inl rfl)
    have h14q := h13' rfl
    have hf2 := hg.fwd.form (clF l k) hs.2
    rcases hx2 : l.getD (clF l k) in0 with ⟨op2, a2, b2v⟩
    rw [hx2] at hf2 h14q
    dsimp only at h14q
    subst h14q
    exact rules_13 w l R b1 b2 b3 k hg.len hk iad ic p cb a b (clF l k) a2 b2v (f13 rfl) hs.1 hs.2 hcd hz (hR _ (by omega) (by omega)) hx2 (costs_of hkk hf2) i1 f1 d1 hI hx hc hTl
  rw [if_neg h13]
  by_cases h16 : op = 16
  · subst h16
    rw [if_pos rfl]
    have hs := hs (.inr rfl)
    exact rules_16 w l R b1 b2 b3 k hg.len hk iad ic p cb a b (clF l k) hs.1 hs.2 hcd hz (hR _ (by omega) (by omega)) i1 f1 d1 hI hx hc hTl
  rw [if_neg h16]
  exact rules_else w l R b1 b2 b3 k hg.len hk iad ic p cb op a b h14 h17 h11 h12 h13 h16 _ rfl (by omega) hz i1 f1 d1 hI hx hc hTl

set_option maxRecDepth 20000 in
set_option maxHeartbeats 4000000 in
/-- What rules makes. -/
theorem rules_any (w : World) (l : List In) (iad : Option Addr) (ic p : Nat) (hg : GL l) (hI : InSl w l (.slice iad l.length ic)) :
    Calls Tryd.prog 36 #[.slice iad l.length ic, .func (Fn.func 69) #[] #[.pointer (some ⟨p, 0, none⟩)]] w fun r w' => ∃ b1 b2 b3, r = .returned (.func (Fn.func 71) #[] #[.pointer (some ⟨b1, 0, none⟩), .pointer (some ⟨b2, 0, none⟩), .pointer (some ⟨b3, 0, none⟩)]) ∧ w.heap.size ≤ b1 ∧ w.heap.size ≤ b2 ∧ w.heap.size ≤ b3 ∧
      w'.cell? ⟨b1, 0, none⟩ = some (.slice iad l.length ic) ∧ w'.cell? ⟨b2, 0, none⟩ = some (.func (Fn.func 69) #[] #[.pointer (some ⟨p, 0, none⟩)]) ∧ (∃ cb, w.heap.size ≤ cb ∧ w'.cell? ⟨b3, 0, none⟩ = some (.slice (some ⟨cb, 0, none⟩) l.length l.length) ∧ ∀ j, j < l.length → w'.cell? ⟨cb, j, none⟩ = some (.int .i64 (clF l j))) ∧ Below w.heap.size w w' := by
  have HI : Hid (InSl w l (.slice iad l.length ic)) := hI
  have HG : Hid (GL l) := hg
  clear hI hg
  go_enter Tryd.func36, Tryd.ntmps36
  have hB : Below w.heap.size w ((w.alloc (.cells #[.slice iad l.length ic] 22)).alloc (.cells #[.func (Fn.func 69) #[] #[.pointer (some ⟨p, 0, none⟩)]] 67)) := ((Below.refl _ _).alloc (Nat.le_refl _) _).alloc (by simp) _
  have HB : Hid _ := hB
  clear hB
  go_wp2_with (go_at_call 70; refine (closers_any _ l iad ic HG.out (HI.out.below HB.out)).mono ?_; rintro r w1 ⟨cb, hcb, rfl, hrow, hb1⟩; have H1 : Hid (_ ∧ _ ∧ _) := ⟨hcb, hrow, hb1⟩; have hsz : w.heap.size + 2 ≤ w1.heap.size := (by have := hb1.size; simp at this; omega); clear hcb hrow hb1)
  go_ret
  obtain ⟨hcb, hrow, hb1⟩ := H1.out
  have hb2 : Below w1.heap.size w1 (w1.alloc (.cells #[.slice (some ⟨cb, 0, none⟩) l.length l.length] 23)) := below_new _ _
  have hbb := below_seq hb1 hb2
  refine ⟨w.heap.size, w.heap.size + 1, w1.heap.size, rfl, Nat.le_refl _, by omega, by omega, below_cell hbb (by go_simp), below_cell hbb (by go_simp), ⟨cb, by simp at hcb; omega, by go_simp, fun j hj => ?_⟩, below_seq HB.out hbb⟩
  exact below_cell hb2 ((cells_of (l := natVs (clAt l l.length)) hrow).1 j _ (natVs_at _ _ (by rw [clAt_len]; exact hj)))

end Go.Proofs.YtcmoehednkaehadDoor
