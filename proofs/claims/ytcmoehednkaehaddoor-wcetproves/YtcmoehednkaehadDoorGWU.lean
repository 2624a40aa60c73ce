import Derived.Test.YtcmoehednkaehadDoorGWY
namespace Go.Proofs.YtcmoehednkaehadDoor
open Go.ChangeShapes Go.WideShapes Go.ChangeAt Go.RowKit Go.Shelf

theorem pv_self {l : List In} (hc : checkI l = (0, 0)) (h : ∀ j, restF l j ≤ 1099511627776) : PV l (restF l 0) l.length (restF l) := by
  have hg := gl_of hc
  exact ⟨by rw [hc], rfl, fun j _ => ⟨restF_pos hg.fwd j, h j⟩, fun k hk => Int.le_of_eq (restF_rule hg.fwd hk).symm, Int.le_refl _⟩

theorem pv_least {l : List In} (hc : checkI l = (0, 0)) {W : Int} {n : Nat} {R : Nat → Int} (h0 : R n = 0) (h : PV l W n R) : restF l 0 ≤ W := by
  have hg := gl_of hc
  have hn := h.len
  subst hn
  exact Int.le_trans (restF_least hg.fwd (by rw [h0]; exact Int.le_refl _) h.rul l.length 0 (by omega) (Nat.zero_le _)) h.top

/-- What Analyse answers. -/
theorem Analyse_any (w : World) (l : List In) (iad : Option Addr) (ic : Nat) (hkk : KindsIn w) (hI : InSl w l (.slice iad l.length ic)) : Calls Tryd.prog 17 #[.slice iad l.length ic] w fun r w' =>
    (∃ c k : Int, ¬ c = 0 ∧ r = .returned (.tuple #[.agg #[.int .i64 0, .slice none 0 0], .agg #[.int .i64 c, .int .i64 k]]) ∧ Below w.heap.size w w') ∨
    (checkI l = (0, 0) ∧ (∀ j, restF l j ≤ 1099511627776) ∧ ∃ rb, r = .returned (.tuple #[.agg #[.int .i64 (restF l 0), .slice (some ⟨rb, 0, none⟩) l.length l.length], .agg #[.int .i64 0, .int .i64 0]]) ∧ (∀ j, j < l.length → w'.cell? ⟨rb, j, none⟩ = some (.int .i64 (restF l j))) ∧ Below w.heap.size w w') := by
  rcases hc : checkI l with ⟨c, k⟩
  by_cases hz : c = 0
  · have hc0 : checkI l = (0, 0) := check_zero (by rw [hc]; exact hz)
    refine (Analyse_good w l iad ic hkk hI hc0).mono ?_
    rintro r w' ⟨hb, ⟨k', h1, h2, h3, h4⟩ | ⟨h1, rb, h2, h3, h4⟩⟩
    · exact .inl ⟨3, k', by decide, h4, hb⟩
    · exact .inr ⟨by rw [← hc, hc0], h1, rb, h3, h4, hb⟩
  · exact (Analyse_bad w l iad ic hkk hI c k hc hz).mono fun _ _ ⟨h1, h2⟩ => .inl ⟨c, k, hz, h1, h2⟩

def cellVs : List In → List Value
  | [] => []
  | x :: t => .int .i64 x.op :: .int .i64 x.a :: .int .i64 x.b :: cellVs t

theorem cellVs_at : ∀ (l : List In) (j : Nat), j < l.length → (cellVs l)[j * 3]? = some (.int .i64 (l.getD j in0).op) ∧ (cellVs l)[j * 3 + 1]? = some (.int .i64 (l.getD j in0).a) ∧ (cellVs l)[j * 3 + 2]? = some (.int .i64 (l.getD j in0).b)
  | [], j, h => by simp at h
  | x :: t, 0, _ => ⟨rfl, rfl, rfl⟩
  | x :: t, j + 1, h => by
    have := cellVs_at t j (by simpa using h)
    rw [cellVs, show (j + 1) * 3 = j * 3 + 1 + 1 + 1 by omega, show j * 3 + 1 + 1 + 1 + 1 = (j * 3 + 1) + 1 + 1 + 1 by omega, show j * 3 + 1 + 1 + 1 + 2 = (j * 3 + 2) + 1 + 1 + 1 by omega]
    simpa using this

set_option maxRecDepth 20000 in
set_option maxHeartbeats 4000000 in
theorem image_any (w : World) : Calls Tryd.prog 31 #[] w fun r w' => ∃ b, r = .returned (.slice (some ⟨b, 0, none⟩) imageL.length 10) ∧ InSl w' imageL (.slice (some ⟨b, 0, none⟩) imageL.length 10) ∧ Below w.heap.size w w' := by
  go_enter Tryd.func31, Tryd.ntmps31
  go_wp2_with fail
  go_ret
  refine ⟨_, rfl, ?_, below_new _ _⟩
  refine ⟨_, _, rfl, .inr ⟨w.heap.size, 0, rfl, fun j hj => ?_⟩⟩
  have h := (cells_of (l := cellVs imageL) (heap_new w (.cells (cellVs imageL).toArray 27))).1
  obtain ⟨a0, a1, a2⟩ := cellVs_at imageL j hj
  rw [Nat.zero_add]
  exact ⟨h _ _ a0, h _ _ a1, h _ _ a2⟩

theorem rest_image : restF imageL 0 = 28 ∧ restF imageL 9 = 2 ∧ restF imageL 10 = 0 := by decide +kernel

theorem rest_small : ∀ j, j < 10 → restF imageL j ≤ 28 := by decide +kernel

theorem row_of {w : World} {l : List In} {rb : Nat} (h : ∀ j, j < l.length → w.cell? ⟨rb, j, none⟩ = some (.int .i64 (restF l j))) : RowI w (some ⟨rb, 0, none⟩) l.length (restF l) := .inr ⟨rb, 0, rfl, fun j hj => by rw [Nat.zero_add]; exact h j hj⟩

/-- What Proves says of the least numbers. -/
theorem Proves_self (w : World) (l : List In) (iad : Option Addr) (ic rb : Nat) (hkk : KindsIn w) (hI : InSl w l (.slice iad l.length ic)) (hc : checkI l = (0, 0)) (h : ∀ j, restF l j ≤ 1099511627776) (hr : ∀ j, j < l.length → w.cell? ⟨rb, j, none⟩ = some (.int .i64 (restF l j))) : Calls Tryd.prog 12 #[.slice iad l.length ic, .agg #[.int .i64 (restF l 0), .slice (some ⟨rb, 0, none⟩) l.length l.length]] w fun r w' => r = .returned (.bool true) ∧ Below w.heap.size w w' := by
  refine (Proves_any w l iad ic (restF l 0) _ l.length l.length (restF l) hkk hI (Nat.le_refl _) (row_of hr) (restF_out (Nat.le_refl _))).mono ?_
  rintro r w' ⟨v, rfl, hv, hb⟩
  rw [hv.2 (pv_self hc h)]
  exact ⟨rfl, hb⟩

theorem Proves_less (w : World) (l : List In) (iad : Option Addr) (ic : Nat) (W : Int) (rad : Option Addr) (rn rc : Nat) (R : Nat → Int) (hkk : KindsIn w) (hI : InSl w l (.slice iad l.length ic)) (hc : checkI l = (0, 0)) (hW : W < restF l 0) (hrc : rn ≤ rc) (hr : RowI w rad rn R) (h0 : R rn = 0) : Calls Tryd.prog 12 #[.slice iad l.length ic, .agg #[.int .i64 W, .slice rad rn rc]] w fun r w' => r = .returned (.bool false) ∧ Below w.heap.size w w' := by
  refine (Proves_any w l iad ic W rad rn rc R hkk hI hrc hr h0).mono ?_
  rintro r w' ⟨v, rfl, hv, hb⟩
  rcases v with _ | _
  · exact ⟨rfl, hb⟩
  · exact absurd (pv_least hc h0 (hv.1 rfl)) (by omega)

end Go.Proofs.YtcmoehednkaehadDoor
