import Derived.Test.YtgemadoieielcacDoorGWY
import Derived.Test.YtgemadoieielcacDoorGWI
namespace Go.Proofs.YtgemadoieielcacDoor
open Go.ChangeShapes Go.WideShapes Go.ChangeAt Go.RowKit Go.Shelf

theorem pv_self {l : List In} (hc : checkI l = (0, 0)) (h : ∀ j, restF l j ≤ 1099511627776) : PV l (restF l 0) l.length (restF l) := by
  have hg := gl_of hc
  exact ⟨by rw [hc], rfl, fun j _ => ⟨restF_pos hg.fwd j, h j⟩, fun k hk => Int.le_of_eq (restF_rule hg.fwd hk).symm, Int.le_refl _⟩

theorem pv_least {l : List In} (hc : checkI l = (0, 0)) {W : Int} {n : Nat} {R : Nat → Int} (h0 : R n = 0) (h : PV l W n R) : restF l 0 ≤ W := by
  have hg := gl_of hc
  have hn := h.len
  subst hn
  exact Int.le_trans (restF_least hg.fwd (by rw [h0]; exact Int.le_refl _) h.rul l.length 0 (by omega) (Nat.zero_le _)) h.top

/-- What Analyse answers. -/
theorem Analyse_any (w : World) (l : List In) (iad : Option Addr) (ic : Nat) (hkk : KindsIn w) (hI : InSl w l (.slice iad l.length ic)) : Calls Tryd.prog 45 #[.slice iad l.length ic] w fun r w' =>
    (∃ c k : Int, ¬ c = 0 ∧ r = .returned (.tuple #[.agg #[.int .i64 0, .slice none 0 0], .agg #[.int .i64 c, .int .i64 k]]) ∧ Below w.heap.size w w') ∨
    (checkI l = (0, 0) ∧ (∀ j, restF l j ≤ 1099511627776) ∧ ∃ rb, r = .returned (.tuple #[.agg #[.int .i64 (restF l 0), .slice (some ⟨rb, 0, none⟩) l.length l.length], .agg #[.int .i64 0, .int .i64 0]]) ∧ (∀ j, j < l.length → w'.cell? ⟨rb, j, none⟩ = some (.int .i64 (restF l j))) ∧ Below w.heap.size w w') := by
  rcases hc : checkI l with ⟨c, k⟩
  by_cases hz : c = 0
  · have hc0 : checkI l = (0, 0) := check_zero (by rw [hc]; exact hz)
    refine (Analyse_good w l iad ic hkk hI hc0).mono ?_
    rintro r w' ⟨hb, ⟨k', h1, h2, h3, h4⟩ | ⟨h1, rb, h2, h3, h4⟩⟩
    · exact .inl ⟨3, k', by decide, h4, hb⟩
    · exact .inr ⟨by rw [← hc, hc0], h1, rb, h3, h4.1, hb⟩
  · exact (Analyse_bad w l iad ic hkk hI c k hc hz).mono fun _ _ ⟨h1, h2⟩ => .inl ⟨c, k, hz, h1, h2⟩

def cellVs : List In → List Value
  | [] => []
  | x :: t => .int .i64 x.op :: .int .i64 x.a :: .int .i64 x.b :: cellVs t

theorem cellVs_at : ∀ (l : List In) (j : Nat), j < l.length → (cellVs l)[j * 3]? = some (.int .i64 (l.getD j in0).op) ∧ (cellVs l)[j * 3 + 1]? = some (.int .i64 (l.getD j in0).a) ∧ (cellVs l)[j * 3 + 2]? = some (.int .i64 (l.getD j in0).b)
  | [], j, h => by simp at h
  | x :: t, 0, _ => ⟨rfl, rfl, rfl⟩
  | x :: t, j + 1, h => by
    have := cellVs_at t j (by simpa using h)
    rw [cellVs, show (j + 1) * 3 = j * 3 + 1 + 1 + 1 by omega, show j * 3 + 1 + 1 + 1 + 1 = (j * 3 + 1) + 1 + 1 + 1 by omega, show j * 3 + 1 + 1 + 1 + 2 = (j * 3 + 2) + 1 + 1 + 1 by omega]
    simpa using this

set_option maxRecDepth 20000 in
set_option maxHeartbeats 4000000 in
theorem image_any (w : World) : Calls Tryd.prog 20 #[] w fun r w' => ∃ b, r = .returned (.slice (some ⟨b, 0, none⟩) imageL.length 10) ∧ InSl w' imageL (.slice (some ⟨b, 0, none⟩) imageL.length 10) ∧ Below w.heap.size w w' := by
  go_enter Tryd.func20, Tryd.ntmps20
  go_wp2_with fail
  go_ret
  refine ⟨_, rfl, ?_, below_new _ _⟩
  refine ⟨_, _, rfl, .inr ⟨w.heap.size, 0, rfl, fun j hj => ?_⟩⟩
  have h := (cells_of (l := cellVs imageL) (heap_new w (.cells (cellVs imageL).toArray 35))).1
  obtain ⟨a0, a1, a2⟩ := cellVs_at imageL j hj
  rw [Nat.zero_add]
  exact ⟨h _ _ a0, h _ _ a1, h _ _ a2⟩

theorem rest_image : restF imageL 0 = 28 ∧ restF imageL 9 = 2 ∧ restF imageL 10 = 0 := by decide +kernel

theorem rest_small : ∀ j, j < 10 → restF imageL j ≤ 28 := by decide +kernel

theorem row_of {w : World} {l : List In} {rb : Nat} (h : ∀ j, j < l.length → w.cell? ⟨rb, j, none⟩ = some (.int .i64 (restF l j))) : RowI w (some ⟨rb, 0, none⟩) l.length (restF l) := .inr ⟨rb, 0, rfl, fun j hj => by rw [Nat.zero_add]; exact h j hj⟩

/-- What Proves says of the least numbers. -/
theorem Proves_self (w : World) (l : List In) (iad : Option Addr) (ic rb : Nat) (hkk : KindsIn w) (hI : InSl w l (.slice iad l.length ic)) (hc : checkI l = (0, 0)) (h : ∀ j, restF l j ≤ 1099511627776) (hr : ∀ j, j < l.length → w.cell? ⟨rb, j, none⟩ = some (.int .i64 (restF l j))) : Calls Tryd.prog 75 #[.slice iad l.length ic, .agg #[.int .i64 (restF l 0), .slice (some ⟨rb, 0, none⟩) l.length l.length]] w fun r w' => r = .returned (.bool true) ∧ Below w.heap.size w w' := by
  refine (Proves_any w l iad ic (restF l 0) _ l.length l.length (restF l) hkk hI (Nat.le_refl _) (row_of hr) (restF_out (Nat.le_refl _))).mono ?_
  rintro r w' ⟨v, rfl, hv, hb⟩
  rw [hv.2 (pv_self hc h)]
  exact ⟨rfl, hb⟩

theorem Proves_less (w : World) (l : List In) (iad : Option Addr) (ic : Nat) (W : Int) (rad : Option Addr) (rn rc : Nat) (R : Nat → Int) (hkk : KindsIn w) (hI : InSl w l (.slice iad l.length ic)) (hc : checkI l = (0, 0)) (hW : W < restF l 0) (hrc : rn ≤ rc) (hr : RowI w rad rn R) (h0 : R rn = 0) : Calls Tryd.prog 75 #[.slice iad l.length ic, .agg #[.int .i64 W, .slice rad rn rc]] w fun r w' => r = .returned (.bool false) ∧ Below w.heap.size w w' := by
  refine (Proves_any w l iad ic W rad rn rc R hkk hI hrc hr h0).mono ?_
  rintro r w' ⟨v, rfl, hv, hb⟩
  rcases v with _ | _
  · exact ⟨rfl, hb⟩
  · exact absurd (pv_least hc h0 (hv.1 rfl)) (by omega)

end Go.Proofs.YtgemadoieielcacDoor
namespace Go.Proofs.YtgemadoieielcacDoor
open Go.ChangeShapes Go.WideShapes Go.ChangeAt Go.RowKit

/-- What Analyse answers, by one fault. -/
def AnA (l : List In) (w : World) (r : Ending) (w' : World) : Prop := Below w.heap.size w w' ∧ (¬ (anF l).1 = 0 → r = .returned (.tuple #[.agg #[.int .i64 0, .slice none 0 0], .agg #[.int .i64 (anF l).1, .int .i64 (anF l).2]])) ∧
  ((anF l).1 = 0 → (∀ j, restF l j ≤ 1099511627776) ∧ ∃ rb, w.heap.size ≤ rb ∧ r = .returned (.tuple #[.agg #[.int .i64 (restF l 0), .slice (some ⟨rb, 0, none⟩) l.length l.length], .agg #[.int .i64 0, .int .i64 0]]) ∧ (∀ j, j < l.length → w'.cell? ⟨rb, j, none⟩ = some (.int .i64 (restF l j))) ∧ w'.heap[rb]? = some (.cells (rowV (restF l) l.length).toArray 3 (0, 0)))

theorem Analyse_an (w : World) (l : List In) (iad : Option Addr) (ic : Nat) (hkk : KindsIn w) (hI : InSl w l (.slice iad l.length ic)) : Calls Tryd.prog 45 #[.slice iad l.length ic] w (AnA l w) := by
  rcases hc : checkI l with ⟨c, k⟩
  by_cases hz : c = 0
  · have hc0 : checkI l = (0, 0) := check_zero (by rw [hc]; exact hz)
    refine (Analyse_good w l iad ic hkk hI hc0).mono ?_
    rintro r w' ⟨hb, ⟨k', h1, h2, h3, h4⟩ | ⟨h1, rb, h2, h3, h4, h5⟩⟩
    · have e := anF_bad hc0 h1 h2 h3
      exact ⟨hb, fun _ => by rw [e]; exact h4, fun h => by rw [e] at h; exact absurd h (by simp)⟩
    · have e := anF_good hc0 h1
      exact ⟨hb, fun h => absurd (by rw [e]) h, fun _ => ⟨h1, rb, h2, h3, h4, h5⟩⟩
  · have e := anF_check hc hz
    exact (Analyse_bad w l iad ic hkk hI c k hc hz).mono fun _ _ ⟨h1, h2⟩ => ⟨h2, fun _ => by rw [e]; exact h1, fun h => by rw [e] at h; exact absurd h hz⟩

/-- What Held and LockTimes answer. -/
def HdP (l : List In) (w : World) (r : Ending) (w' : World) : Prop := Below w.heap.size w w' ∧ (¬ (anF l).1 = 0 → r = .returned (.tuple #[.slice none 0 0, .agg #[.int .i64 (anF l).1, .int .i64 (anF l).2]])) ∧
  ((anF l).1 = 0 → ∃ hb, w.heap.size ≤ hb ∧ r = .returned (.tuple #[.slice (some ⟨hb, 0, none⟩) 4 4, .agg #[.int .i64 0, .int .i64 0]]) ∧ w'.heap[hb]? = some (.cells (heldV l l.length).toArray 3 (0, 0)))

theorem form16 {a b : Int} (h : formErr ⟨16, a, b⟩ = 0) : 0 ≤ a ∧ a ≤ 3 := by
  obtain ⟨h1, h2, h3, h4, h5, h6⟩ := form_op h
  simp [lowA, highA] at h3 h4
  omega

theorem Hd_ends {w : World} {g : Nat} {v c k : Value} {a : Act} (h7 : w.heap[g]? = some (.cells #[c, k] 30 (0, 0))) (h2 : a.tmps[2]?.getD undef = v) (h3 : a.tmps[3]?.getD undef = .pointer (some ⟨g, 0, none⟩)) :
    (results Tryd.f46 a.tmps).run Tryd.prog w = .ok (.tuple #[v, .agg #[c, k]]) w := by
  obtain ⟨d1, e1, m1⟩ := cells_of (l := [_, _]) h7
  have d10 := d1 0 _ rfl
  have d11 := d1 1 _ rfl
  simp [results, Tryd.results46, go_sem, h2, h3, d10, d11]

set_option maxRecDepth 20000 in
set_option maxHeartbeats 400000 in
theorem Held_bad (w : World) (l : List In) (iad : Option Addr) (ic : Nat) (hkk : KindsIn w) (hI : InSl w l (.slice iad l.length ic)) (h0 : ¬ (anF l).1 = 0) : Calls Tryd.prog 46 #[.slice iad l.length ic] w (HdP l w) := by
  have hB := below_new w (.cells #[.int .i64 0, .int .i64 0] 30)
  have HA := Analyse_an _ l iad ic (hkk.below hB) (hI.below hB)
  have HB : Hid (Below w.heap.size w (w.alloc (.cells #[.int .i64 0, .int .i64 0] 30)) ∧ (w.alloc (.cells #[.int .i64 0, .int .i64 0] 30)).heap[w.heap.size]? = some (.cells #[.int .i64 0, .int .i64 0] 30 (0, 0))) := ⟨hB, heap_new _ _⟩
  have hcb : ((anF l).1 != 0) = true := by simpa using h0
  clear hB hkk hI
  unfold HdP
  generalize hac : (anF l).1 = c at *
  generalize hak : (anF l).2 = k at *
  go_enter Tryd.func46, Tryd.ntmps46
  go_wp2_with (go_at_call 45; refine HA.mono ?_; rintro r w1 ⟨hb1, hr, -⟩; rw [hac, hak] at hr; obtain rfl := hr h0; have H1 : Hid (Below w.heap.size w w1 ∧ w1.heap[w.heap.size]? = some (.cells #[.int .i64 0, .int .i64 0] 30 (0, 0))) := ⟨below_seq HB.out.1 hb1, (hb1.block w.heap.size (by simp)).trans HB.out.2⟩; obtain ⟨d1, e1, m1⟩ := cells_of (l := [_, _]) H1.out.2; have d10 := d1 0 _ rfl; have d11 := d1 1 _ rfl; have e10 := e1 0; have e11 := e1 1; clear hb1 HA hr d1 e1)
  go_region
  all_goals go_wp2_with fail
  all_goals
    refine bodyPost_ret (Hd_ends (g := w.heap.size) (v := .slice none 0 0) (c := .int .i64 c) (k := .int .i64 k) (((below_new _ _).block w.heap.size (by have := H1.out.1.size; simp; omega)).trans (((below_new _ _).block w.heap.size (by simp; omega)).trans (set_two H1.out.2))) rfl rfl) rfl ?_
    exact ⟨((((H1.out.1.setCell (Nat.le_refl _) _).setCell (Nat.le_refl _) _).alloc (by have := H1.out.1.size; simp; omega) _).alloc (by have := H1.out.1.size; simp; omega) _).drew, fun _ => rfl, fun h => absurd h h0⟩

/-- Between two rounds of Held's loop. -/
structure HL (w2 : World) (g : Nat) (l : List In) (j : Nat) (wr : World) : Prop where
  ge : w2.heap.size = g
  bel : Below w2.heap.size w2 wr
  siz : g + 1 ≤ wr.heap.size
  blk : wr.heap[g]? = some (.cells (heldV l j).toArray 3 (0, 0))

theorem HL.grow {w2 wr w' : World} {g : Nat} {l : List In} {j : Nat} (h : HL w2 g l j wr) (hb : Below wr.heap.size wr w') : HL w2 g l j w' :=
  ⟨h.ge, below_seq h.bel hb, Nat.le_trans h.siz hb.size, (hb.block _ (by have := h.siz; omega)).trans h.blk⟩

theorem HL.other {w2 wr : World} {g : Nat} {l : List In} {j : Nat} (h : HL w2 g l j wr) (hx : ¬ (l.getD j in0).op = 16) : HL w2 g l (j + 1) wr := ⟨h.ge, h.bel, h.siz, by rw [heldV_other hx]; exact h.blk⟩

theorem HL.lock {w2 wr : World} {g : Nat} {l : List In} {j : Nat} (h : HL w2 g l j wr) (hx : (l.getD j in0).op = 16) (a : Nat) (ha : (l.getD j in0).a = a) (ha4 : a < 4) : HL w2 g l (j + 1) (wr.setCell ⟨g, a, none⟩ (.int .i64 (max (heldA l a j) (restF l (j + 1))))) := by
  refine ⟨h.ge, h.bel.setCell (by show w2.heap.size ≤ g; rw [h.ge]; exact Nat.le_refl _) _, by simpa using h.siz, ?_⟩
  rw [setCell_at h.blk, ← heldV_lock hx a ha ha4]
  simp

theorem HL.cell {w2 wr : World} {g : Nat} {l : List In} {j : Nat} (h : HL w2 g l j wr) (a : Nat) (ha4 : a < 4) : wr.cell? ⟨g, a, none⟩ = some (.int .i64 (heldA l a j)) := (cells_of h.blk).1 a _ (heldV_at l j a ha4)

theorem HL.drew {w2 wr : World} {g : Nat} {l : List In} {j : Nat} (h : HL w2 g l j wr) : HL w2 g l j wr.drew := ⟨h.ge, h.bel.drew, h.siz, h.blk⟩

set_option maxRecDepth 20000 in
set_option maxHeartbeats 400000 in
theorem Held_good (w : World) (l : List In) (iad : Option Addr) (ic : Nat) (hkk : KindsIn w) (hI : InSl w l (.slice iad l.length ic)) (h0 : (anF l).1 = 0) : Calls Tryd.prog 46 #[.slice iad l.length ic] w (HdP l w) := by
  have hB := below_new w (.cells #[.int .i64 0, .int .i64 0] 30)
  have HA := Analyse_an _ l iad ic (hkk.below hB) (hI.below hB)
  have HB : Hid (Below w.heap.size w (w.alloc (.cells #[.int .i64 0, .int .i64 0] 30)) ∧ (w.alloc (.cells #[.int .i64 0, .int .i64 0] 30)).heap[w.heap.size]? = some (.cells #[.int .i64 0, .int .i64 0] 30 (0, 0))) := ⟨hB, heap_new _ _⟩
  have hg := gl_of (anF_zero h0).1
  have hlen := hg.len
  have HG : Hid (GL l ∧ InSl w l (.slice iad l.length ic)) := ⟨hg, hI⟩
  have hmk : ∀ W : World, (Instr.makeSlice 23 (.int .i64 4) (.int .i64 4)).run Tryd.prog W = .ok (.slice (some ⟨W.heap.size, 0, none⟩) 4 4) (W.alloc (.cells #[.int .i64 0, .int .i64 0, .int .i64 0, .int .i64 0] 3)) := fun W => make_zeros 4 (by omega) W
  clear hB hkk hI hg
  go_enter Tryd.func46, Tryd.ntmps46
  go_wp2_with (go_at_call 45; refine HA.mono ?_; rintro r w1 ⟨hb1, -, hr⟩; obtain ⟨hall, rb, hrb, rfl, hrc, hrk⟩ := hr h0; have H1 : Hid (Below w.heap.size w w1 ∧ w1.heap[w.heap.size]? = some (.cells #[.int .i64 0, .int .i64 0] 30 (0, 0))) := ⟨below_seq HB.out.1 hb1, (hb1.block w.heap.size (by simp)).trans HB.out.2⟩; have HR : Hid ((∀ j, restF l j ≤ 1099511627776) ∧ ∀ j, j < l.length → w1.cell? ⟨rb, j, none⟩ = some (.int .i64 (restF l j))) := ⟨hall, hrc⟩; clear hb1 HA hr hall hrc hrk hrb)
  have hb2 : Below w1.heap.size w1 ((w1.alloc (.cells #[.int .i64 (restF l 0), .slice (some ⟨rb, 0, none⟩) l.length l.length] 77)).alloc (.cells #[.int .i64 0, .int .i64 0] 30)) := ((Below.refl _ _).alloc (Nat.le_refl _) _).alloc (by simp) _
  have y1 : ((w1.alloc (.cells #[.int .i64 (restF l 0), .slice (some ⟨rb, 0, none⟩) l.length l.length] 77)).alloc (.cells #[.int .i64 0, .int .i64 0] 30)).cell? ⟨w1.heap.size, 1, none⟩ = some (.slice (some ⟨rb, 0, none⟩) l.length l.length) := by go_simp
  have HS : Hid (HL ((w1.alloc (.cells #[.int .i64 (restF l 0), .slice (some ⟨rb, 0, none⟩) l.length l.length] 77)).alloc (.cells #[.int .i64 0, .int .i64 0] 30)) (w1.heap.size + 1 + 1) l 0 (((w1.alloc (.cells #[.int .i64 (restF l 0), .slice (some ⟨rb, 0, none⟩) l.length l.length] 77)).alloc (.cells #[.int .i64 0, .int .i64 0] 30)).alloc (.cells #[.int .i64 0, .int .i64 0, .int .i64 0, .int .i64 0] 3))) := ⟨by simp, below_new _ _, by simp, by have := heap_new ((w1.alloc (.cells #[.int .i64 (restF l 0), .slice (some ⟨rb, 0, none⟩) l.length l.length] 77)).alloc (.cells #[.int .i64 0, .int .i64 0] 30)) (.cells #[.int .i64 0, .int .i64 0, .int .i64 0, .int .i64 0] 3); simp only [World.size_alloc] at this; exact this⟩
  generalize ((w1.alloc (.cells #[.int .i64 (restF l 0), .slice (some ⟨rb, 0, none⟩) l.length l.length] 77)).alloc (.cells #[.int .i64 0, .int .i64 0] 30)) = w2 at *
  have HB2 : Hid (Below w1.heap.size w1 w2) := hb2
  generalize (w2.alloc (.cells #[.int .i64 0, .int .i64 0, .int .i64 0, .int .i64 0] 3)) = w3 at *
  clear hmk hb2 HB
  go_loopw [21] (fun i wr => ∃ j : Nat, j ≤ l.length ∧ i = .int .i64 j ∧ HL w2 (w1.heap.size + 1 + 1) l j wr) (fun i _ => l.length - (intOf i).toNat)
  case atStart => exact ⟨0, Nat.zero_le _, rfl, HS.out⟩
  case round =>
    clear HS
    obtain ⟨j, hj, rfl, hl⟩ := hrel
    have HLr : Hid (HL w2 (w1.heap.size + 1 + 1) l j wr) := hl
    by_cases hjl : j < l.length
    · have hji : (j : Int) < (l.length : Int) := by omega
      have hbel : Below w.heap.size w wr := below_seq H1.out.1 (below_seq HB2.out hl.bel)
      obtain ⟨ad', c', e', hrow⟩ := HG.out.2.below hbel
      cases e'
      rcases hrow with hrow | ⟨ib, io, rfl, hrow⟩
      · rw [hrow] at hjl; simp at hjl
      obtain ⟨c0, c1, c2⟩ := hrow j hjl
      have hf := HG.out.1.fwd.form j hjl
      have hs := HG.out.1.fwd.shut j hjl
      rcases hx : l.getD j in0 with ⟨op, a, b⟩
      rw [hx] at c0 c1 c2 hf hs
      dsimp only at c0 c1 c2 hf hs
      have hop : (l.getD j in0).op = op := by rw [hx]
      have hla : (l.getD j in0).a = a := by rw [hx]
      by_cases h16 : op = 16
      · subst h16
        obtain ⟨a0, a3⟩ := form16 hf
        obtain ⟨m, rfl⟩ : ∃ m : Nat, a = m := ⟨a.toNat, by omega⟩
        have hm4 : m < 4 := by omega
        have hs := hs (.inr rfl)
        have hj1 : j + 1 < l.length := by omega
        have hji1 : (j : Int) + 1 < (l.length : Int) := by omega
        have y2 := below_cell hl.bel y1
        have y3 := below_cell (below_seq HB2.out hl.bel) (HR.out.2 (j + 1) hj1)
        have y4 := hl.cell m hm4
        have y5 : wr.frozen? ⟨w1.heap.size + 1 + 1, m, none⟩ = false := (cells_of hl.blk).2.1 m
        have hmi : (m : Int) < 4 := by omega
        have lb2 : w1.heap.size < wr.heap.size := World.block_lt_of_cell? _ _ y2
        have lb3 : rb < wr.heap.size := World.block_lt_of_cell? _ _ y3
        have lb4 : w1.heap.size + 1 + 1 < wr.heap.size := World.block_lt_of_cell? _ _ y4
        have lib : ib < wr.heap.size := World.block_lt_of_cell? _ _ c0
        have HN : Hid (∀ x y, heldA l m j = x → restF l (j + 1) = y → HL w2 (w1.heap.size + 1 + 1) l (j + 1) ((wr.setCell ⟨w1.heap.size + 1 + 1, m, none⟩ (.int .i64 (if x < y then y else x))).alloc (.cells #[.int .i64 16, .int .i64 (m : Int), .int .i64 b] 35)).drew) := fun x y hx hy => by
          have e : (if x < y then y else x) = max x y := by rw [Int.max_def]; split <;> split <;> omega
          rw [e, ← hx, ← hy]
          exact ((HLr.out.lock hop m hla hm4).grow (below_new _ _)).drew
        clear hrow hx hf hs hl hop hla a0 a3
        obtain ⟨x, hx⟩ : ∃ x, heldA l m j = x := ⟨_, rfl⟩
        obtain ⟨y, hy⟩ : ∃ y, restF l (j + 1) = y := ⟨_, rfl⟩
        rw [hx] at y4
        rw [hy] at y3
        have HXY : Hid (heldA l m j = x ∧ restF l (j + 1) = y) := ⟨hx, hy⟩
        clear hx hy
        go_wp2_with fail
        go_region
        all_goals
          go_wp2_with fail
          exact ⟨⟨j + 1, by omega, by simp, HN.out x y HXY.out.1 HXY.out.2⟩, by simp [intOf]; omega⟩
      · have hob : (op == 16) = false := by simpa using h16
        have HN := (HLr.out.grow (below_new wr (.cells #[.int .i64 op, .int .i64 a, .int .i64 b] 35))).other (by rw [hop]; exact h16)
        have HN2 : Hid _ := HN
        clear HN hrow hx hf hs hl hop hla
        go_wp2_with fail
        exact ⟨⟨j + 1, by omega, by simp, HN2.out⟩, by simp [intOf]; omega⟩
    · have hje : j = l.length := by omega
      subst hje
      have k3 := ((below_seq HB2.out hl.bel).block w.heap.size (Array.getElem?_eq_some_iff.1 H1.out.2).1).trans H1.out.2
      obtain ⟨d2, e2, m2⟩ := cells_of (l := [_, _]) k3
      have d20 := d2 0 _ rfl
      have d21 := d2 1 _ rfl
      have e20 := e2 0
      have e21 := e2 1
      have HKK : Hid (_ ∧ w.heap.size + 1 ≤ w1.heap.size) := ⟨k3, (Array.getElem?_eq_some_iff.1 H1.out.2).1⟩
      clear hl d2 e2 k3
      go_wp2_with fail
      refine bodyPost_ret (Hd_ends (g := w.heap.size) (v := .slice (some ⟨w1.heap.size + 1 + 1, 0, none⟩) 4 4) (c := .int .i64 0) (k := .int .i64 0) (set_two HKK.out.1) rfl rfl) rfl ?_
      have hbel : Below w.heap.size w wr := below_seq H1.out.1 (below_seq HB2.out HLr.out.bel)
      exact ⟨(hbel.setCell (Nat.le_refl _) _).setCell (Nat.le_refl _) _, fun h => absurd h0 h, fun _ => ⟨_, by have := HKK.out.2; omega, rfl, (other_two (by have := HKK.out.2; omega) _ _).trans HLr.out.blk⟩⟩

end Go.Proofs.YtgemadoieielcacDoor
