import Derived.Test.YtnkgbkkakokciaiDoorVM
import Derived.Test.YtnkgbkkakokciaiDoorVJ
import Derived.Test.YtnkgbkkakokciaiDoorVK
import Derived.Deep.CutRange
namespace Go.Proofs.YtnkgbkkakokciaiDoor
open Go.ChangeShapes Go.WideShapes Go.ChangeAt Go.RowKit

def noW : Wi := ⟨-9, 0⟩

/-- The blocks of the four faults. -/
structure VF (W3 X : World) (g4 g5 g7 g8 : Nat) (c1 d1 c2 d2 a7 b7 a8 b8 : Int) : Prop where
  bel : Below W3.heap.size W3 X
  h4 : X.heap[g4]? = some (.cells #[.int .i64 c1, .int .i64 d1] 30 (0, 0))
  h5 : X.heap[g5]? = some (.cells #[.int .i64 c2, .int .i64 d2] 30 (0, 0))
  h7 : X.heap[g7]? = some (.cells #[.int .i64 a7, .int .i64 b7] 30 (0, 0))
  h8 : X.heap[g8]? = some (.cells #[.int .i64 a8, .int .i64 b8] 30 (0, 0))
  lo : (W3.heap.size ≤ g7 ∧ W3.heap.size ≤ g8) ∧ g7 ≠ g8 ∧ g4 ≠ g7 ∧ g4 ≠ g8 ∧ g5 ≠ g7 ∧ g5 ≠ g8

section
variable {W3 X X' : World} {g4 g5 g7 g8 : Nat} {c1 d1 c2 d2 a7 b7 a8 b8 : Int}

theorem VF.grow (h : VF W3 X g4 g5 g7 g8 c1 d1 c2 d2 a7 b7 a8 b8) (hb : Below X.heap.size X X') : VF W3 X' g4 g5 g7 g8 c1 d1 c2 d2 a7 b7 a8 b8 :=
  ⟨below_seq h.bel hb, (hb.block _ (Array.getElem?_eq_some_iff.1 h.h4).1).trans h.h4, (hb.block _ (Array.getElem?_eq_some_iff.1 h.h5).1).trans h.h5, (hb.block _ (Array.getElem?_eq_some_iff.1 h.h7).1).trans h.h7, (hb.block _ (Array.getElem?_eq_some_iff.1 h.h8).1).trans h.h8, h.lo⟩

theorem two_other {g k : Nat} {a b : Value} (h : k ≠ g) : ((X.setCell ⟨g, 0, none⟩ a).setCell ⟨g, 1, none⟩ b).heap[k]? = X.heap[k]? := by
  rw [Below.heap_setCell _ _ _ _ (show k ≠ g from h), Below.heap_setCell _ _ _ _ (show k ≠ g from h)]

theorem VF.set7 (h : VF W3 X g4 g5 g7 g8 c1 d1 c2 d2 a7 b7 a8 b8) (a b : Int) : VF W3 ((X.setCell ⟨g7, 0, none⟩ (.int .i64 a)).setCell ⟨g7, 1, none⟩ (.int .i64 b)) g4 g5 g7 g8 c1 d1 c2 d2 a b a8 b8 := by
  obtain ⟨⟨l7, l8⟩, n1, n2, n3, n4, n5⟩ := h.lo
  exact ⟨(h.bel.setCell l7 _).setCell l7 _, (two_other n2).trans h.h4, (two_other n4).trans h.h5, set_two h.h7, (two_other n1.symm).trans h.h8, h.lo⟩

theorem VF.set8 (h : VF W3 X g4 g5 g7 g8 c1 d1 c2 d2 a7 b7 a8 b8) (a b : Int) : VF W3 ((X.setCell ⟨g8, 0, none⟩ (.int .i64 a)).setCell ⟨g8, 1, none⟩ (.int .i64 b)) g4 g5 g7 g8 c1 d1 c2 d2 a7 b7 a b := by
  obtain ⟨⟨l7, l8⟩, n1, n2, n3, n4, n5⟩ := h.lo
  exact ⟨(h.bel.setCell l8 _).setCell l8 _, (two_other n3).trans h.h4, (two_other n5).trans h.h5, (two_other n1).trans h.h7, set_two h.h8, h.lo⟩

theorem VF.cells (h : VF W3 X g4 g5 g7 g8 c1 d1 c2 d2 a7 b7 a8 b8) : (X.cell? ⟨g4, 0, none⟩ = some (.int .i64 c1) ∧ X.cell? ⟨g4, 1, none⟩ = some (.int .i64 d1) ∧ X.cell? ⟨g5, 0, none⟩ = some (.int .i64 c2) ∧ X.cell? ⟨g5, 1, none⟩ = some (.int .i64 d2)) ∧ (X.cell? ⟨g7, 0, none⟩ = some (.int .i64 a7) ∧ X.cell? ⟨g7, 1, none⟩ = some (.int .i64 b7) ∧ X.cell? ⟨g8, 0, none⟩ = some (.int .i64 a8) ∧ X.cell? ⟨g8, 1, none⟩ = some (.int .i64 b8)) ∧ (X.frozen? ⟨g7, 0, none⟩ = false ∧ X.frozen? ⟨g7, 1, none⟩ = false ∧ X.frozen? ⟨g8, 0, none⟩ = false ∧ X.frozen? ⟨g8, 1, none⟩ = false) ∧ (g4 < X.heap.size ∧ g5 < X.heap.size ∧ g7 < X.heap.size ∧ g8 < X.heap.size) := by
  obtain ⟨e4, -, l4⟩ := cells_of (l := [_, _]) h.h4
  obtain ⟨e5, -, l5⟩ := cells_of (l := [_, _]) h.h5
  obtain ⟨e7, f7, l7⟩ := cells_of (l := [_, _]) h.h7
  obtain ⟨e8, f8, l8⟩ := cells_of (l := [_, _]) h.h8
  exact ⟨⟨e4 0 _ rfl, e4 1 _ rfl, e5 0 _ rfl, e5 1 _ rfl⟩, ⟨e7 0 _ rfl, e7 1 _ rfl, e8 0 _ rfl, e8 1 _ rfl⟩, ⟨f7 0, f7 1, f8 0, f8 1⟩, l4, l5, l7, l8⟩
end

theorem supF_bad {n s k : Int} {l : List Wi} (h : frmF n l = (0, 0)) (hb : outT s = true ∨ outT k = true) : SupplyF n l s k = (0, 3, 0) := by
  have e : timesF n l [s, k] = (3, 0) := by
    unfold timesF
    rw [h, if_neg (by simp), if_pos (by rcases hb with e | e <;> simp [e])]
  unfold SupplyF
  rw [e, if_pos (by simp)]

theorem supF_good {n s k : Int} {l : List Wi} (h : frmF n l = (0, 0)) (h1 : outT s = false) (h2 : outT k = false) : SupplyF n l s k = (sup n l s.toNat k.toNat, 0, 0) := by
  have e : timesF n l [s, k] = (0, 0) := by
    unfold timesF
    rw [h, if_neg (by simp), if_neg (by simp [h1, h2])]
  unfold SupplyF
  rw [e, if_neg (by simp)]

theorem leF_bad {n k : Int} {l : List Wi} (h : frmF n l = (0, 0)) (hb : outT k = true) : LeastF n l k = (0, 3, 0) := by
  have e : timesF n l [k] = (3, 0) := by
    unfold timesF
    rw [h, if_neg (by simp), if_pos (by simp [hb])]
  unfold LeastF
  rw [e, if_pos (by simp)]

theorem leF_good {n k : Int} {l : List Wi} (h : frmF n l = (0, 0)) (h2 : outT k = false) : LeastF n l k = (leastF n l k.toNat, 0, 0) := by
  have e : timesF n l [k] = (0, 0) := by
    unfold timesF
    rw [h, if_neg (by simp), if_neg (by simp [h2])]
  unfold LeastF
  rw [e, if_neg (by simp)]

theorem bothF_wrong {n s k z y : Int} {l : List Wi} (h : frmF n l = (z, y)) (h0 : z ≠ 0) : SupplyF n l s k = (0, z, y) ∧ LeastF n l k = (0, z, y) := by
  have e : ∀ ts, timesF n l ts = (z, y) := fun ts => by
    unfold timesF
    rw [h, if_pos (by simpa using h0)]
  unfold SupplyF LeastF
  rw [e, e, if_pos (by simpa using h0), if_pos (by simpa using h0)]
  exact ⟨rfl, rfl⟩

inductive Ph (n : Nat) : Prop
  | mk : Ph n

/-- What the document's Lean answers at the last. -/
theorem Lean_q (w : World) (n k : Nat) (l : List Wi) (ad : Option Addr) (c : Nat) (hn : 1 ≤ n ∧ n ≤ 10000) (h20 : l.length ≤ 20) (hs : Srt n 0 l) (ht : k ≤ 20000) (hv : RowSl Wi.vals w l (.slice ad l.length c)) : Calls Tryd.prog 15 #[.int .i64 (n : Int), .slice ad l.length c, .int .i64 (k : Int)] w fun r w' => ∃ g, r = .returned (.slice (some ⟨g, 0, none⟩) (k + 1) (k + 1)) ∧ w'.cell? ⟨g, k, none⟩ = some (.int .i64 (leastF n l k)) ∧ Below w.heap.size w w' := by
  refine (Lean_any w n k l ad c hn h20 hs ht hv).mono ?_
  rintro r w' ⟨rfl, h⟩
  refine ⟨_, rfl, ?_, h.bel⟩
  rw [least_lean (by omega) hs]
  exact (h.at_ (by omega)).1

set_option maxRecDepth 20000 in
set_option maxHeartbeats 4000000 in
theorem supply_walk (w : World) (n s k : Int) (l : List Wi) (v : Value) (hg : WiAt w 0 0 noW) (hv : RowSl Wi.vals w l v) :
    Calls Tryd.prog 3 #[.int .i64 n, v, .int .i64 s, .int .i64 k] w fun r w' => r = .returned (.bool true) ∧ Below w.heap.size w w' := by
  obtain ⟨ad, c, rfl⟩ := hv.len
  have HV : Hid (WiAt w 0 0 noW ∧ RowSl Wi.vals w l (.slice ad l.length c)) := ⟨hg, hv⟩
  clear hg hv
  rcases hz : frmF n l with ⟨z, y⟩
  have HZ : Hid (frmF n l = (z, y)) := hz
  have HF : Hid (∀ (W : World) (v : Value), RowSl Wi.vals W l v → Calls Tryd.prog 8 #[.int .i64 n, v] W fun r w' => r = .returned (.agg #[.int .i64 z, .int .i64 y]) ∧ Below W.heap.size W w') := fun W v hv => by have := Frame_any W n l v hv; rw [hz] at this; exact this
  have HG : Hid (∀ (W : World) (v : Value), RowSl Wi.vals W l v → Calls Tryd.prog 7 #[.int .i64 n, v] W fun r w' => r = .returned (.agg #[.int .i64 z, .int .i64 y]) ∧ Below W.heap.size W w') := fun W v hv => by have := CheckFrame_any W n l v hv; rw [hz] at this; exact this
  have HO : Hid (∀ (W : World) (v : Value), RowSl Wi.vals W l v → Calls Tryd.prog 9 #[.int .i64 n, v, .int .i64 s] W fun r w' => r = .returned (.bool (decide (z = 0) && decide (0 ≤ s) && thr n l s)) ∧ Below W.heap.size W w') := fun W v hv => by have := Open_any W n s l v hv; rw [hz] at this; exact this
  clear hz
  rcases hq : SupplyF n l s k with ⟨q1, c1, d1⟩
  rcases hp : LeastF n l k with ⟨q2, c2, d2⟩
  have HQ : Hid (SupplyF n l s k = (q1, c1, d1) ∧ LeastF n l k = (q2, c2, d2)) := ⟨hq, hp⟩
  have HSu : Hid (∀ (W : World) (v : Value), RowSl Wi.vals W l v → Calls Tryd.prog 11 #[.int .i64 n, v, .int .i64 s, .int .i64 k] W fun r w' => r = .returned (.tuple #[.int .i64 q1, .agg #[.int .i64 c1, .int .i64 d1]]) ∧ Below W.heap.size W w') := fun W v hv => by have := Supply_any W n s k l v hv; rw [hq] at this; exact this
  have HLe : Hid (∀ (W : World) (v : Value), RowSl Wi.vals W l v → Calls Tryd.prog 12 #[.int .i64 n, v, .int .i64 k] W fun r w' => r = .returned (.tuple #[.int .i64 q2, .agg #[.int .i64 c2, .int .i64 d2]]) ∧ Below W.heap.size W w') := fun W v hv => by have := Least_any W n k l v hv; rw [hp] at this; exact this
  clear hq hp
  have HL := LendW_any
  have HT := StillW_any
  unfold Wi.val at HL HT
  go_enter Tryd.func3, Tryd.ntmps3
  go_upto_region 3 with (go_at_call 4; refine (opens_any _).mono ?_; rintro r w1 ⟨rfl, hb1⟩; have H1 : Hid (Below w.heap.size w w1) := hb1; clear hb1)
  by_cases hE : l.length ≤ 5000 ∧ (k ≤ 2000 ∨ 20000 < k) ∧ (n ≤ 2000 ∨ 10000 < n)
  rotate_left 1
  · have hl' : decide ((l.length : Int) ≤ 5000) = false ∨ (decide ((l.length : Int) ≤ 5000) = true ∧ 2000 < k ∧ k ≤ 20000) ∨ (decide ((l.length : Int) ≤ 5000) = true ∧ ¬ 2000 < k ∧ 2000 < n ∧ n ≤ 10000) ∨ (decide ((l.length : Int) ≤ 5000) = true ∧ 2000 < k ∧ ¬ k ≤ 20000 ∧ 2000 < n ∧ n ≤ 10000) := by
      simp only [decide_eq_false_iff_not, decide_eq_true_eq]
      omega
    clear hE
    rcases hl' with g1 | ⟨g1, g2, g3⟩ | ⟨g1, g2, g3, g4⟩ | ⟨g1, g2, g3, g4, g5⟩
    all_goals
      go_wp2_with (go_at_call 5; refine (few_any _ _).mono ?_; rintro r w5 ⟨rfl, rfl⟩; rw [g1])
      go_ret
      exact ⟨rfl, H1.out⟩
  have hl5 : l.length ≤ 5000 := hE.1
  go_cut [40] from 21 to 40 (fun x wx => x = .bool false ∧ wx = w1)
  case first =>
    have hl' : decide ((l.length : Int) ≤ 5000) = true := by simp; omega
    have hk : ¬ 2000 < k ∨ (2000 < k ∧ ¬ k ≤ 20000) := by omega
    have hn : ¬ 2000 < n ∨ (2000 < n ∧ ¬ n ≤ 10000) := by omega
    rcases hk with k1 | ⟨k1, k2⟩ <;> rcases hn with n1 | ⟨n1, n2⟩
    all_goals
      go_wp2_with (go_at_call 5; refine (few_any _ _).mono ?_; rintro r w5 ⟨rfl, rfl⟩; rw [hl'])
      go_meet
      case rel =>
        refine ⟨?_, rfl⟩
        first | rfl | (congr 1; simp; omega)
  case rest =>
    obtain ⟨rfl, hwx⟩ := hcut
    have hwx := hwx.symm
    subst hwx
    have hke : k ≤ 2000 ∨ 20000 < k := hE.2.1
    clear hE
    obtain ⟨e0, e1⟩ := HV.out.1
    have e0 := below_cell H1.out e0
    have e1 := below_cell H1.out e1
    simp only [noW] at e0 e1
    have HL1 := HL w1 l noW _ (by omega) (HV.out.2.below H1.out)
    simp only [noW] at HL1
    go_upto_region 7 with (first
      | (go_at_call 7; refine (HG.out _ _ (HV.out.2.below H2.out.1)).mono ?_; rintro r w3 ⟨rfl, hb3⟩; have H3 : Hid (Below w.heap.size w (w3.alloc (.cells #[.int .i64 z, .int .i64 y] 30)) ∧ Lent Wi.vals (w3.alloc (.cells #[.int .i64 z, .int .i64 y] 30)) l noW (.slice (some ⟨ub, uo, none⟩) l.length uc)) := ⟨below_seq (below_seq H2.out.1 hb3) (below_new _ _), (H2.out.2.below hb3).below (below_new _ _)⟩; clear hb3)
      | (go_at_call 6; refine HL1.mono ?_; rintro r w2 ⟨u2, rfl, hlent, hb2⟩; obtain ⟨ub, uo, uc, rfl, -⟩ := id hlent; have H2 : Hid (Below w.heap.size w w2 ∧ Lent Wi.vals w2 l noW (.slice (some ⟨ub, uo, none⟩) l.length uc)) := ⟨below_seq H1.out hb2, hlent⟩; clear hlent hb2 e0 e1))
    go_cut [71] from 47 to 71 (fun x wx => x = .bool false ∧ Hid (Below (w3.alloc (.cells #[.int .i64 z, .int .i64 y] 30)).heap.size (w3.alloc (.cells #[.int .i64 z, .int .i64 y] 30)) wx))
    case first =>
      by_cases h0 : z = 0
      · subst h0
        obtain ⟨hn, h20, hs, -⟩ := frmF_good HZ.out
        by_cases hs0 : 0 ≤ s
        · have hb1 : decide (0 ≤ s) = true := by simp [hs0]
          have HO2 : Hid (∀ (W : World) (v : Value), RowSl Wi.vals W l v → Calls Tryd.prog 9 #[.int .i64 n, v, .int .i64 s] W fun r w' => r = .returned (.bool (thr n l s)) ∧ Below W.heap.size W w') := fun W v hv => by have := HO.out W v hv; rw [hb1] at this; simpa using this
          have HTh : Hid (∀ W, Below w.heap.size w W → Calls Tryd.prog 10 #[.int .i64 n, .slice ad l.length c, .int .i64 s] W fun r w' => r = .returned (.bool (thr n l s)) ∧ Below W.heap.size W w') := fun W hW => There_any W n s l ad c hn h20 hs hs0 (HV.out.2.below hW)
          generalize thr n l s = tb at *
          refine wp_region_noPanic ?_
          refine wp_region_held_drew (S := fun w' => Below (w3.alloc (.cells #[.int .i64 0, .int .i64 y] 30)).heap.size (w3.alloc (.cells #[.int .i64 0, .int .i64 y] 30)) w' ∧ w'.cell? ⟨w3.heap.size, 0, none⟩ = some (.int .i64 0) ∧ w'.cell? ⟨w3.heap.size, 1, none⟩ = some (.int .i64 y)) (by kernel_rfl) ⟨(Below.refl _ _).drew, by go_simp, by go_simp⟩ (fun hHeld => ?_)
          refine take_at (i := 0) (n := 47) (v := ?_) rfl rfl (by kernel_rfl) (by kernel_rfl) (by kernel_rfl) (fun _ _ _ h => h) (Or.inl ⟨by rfl, ?_⟩) (by assumption) ?_
          rotate_left 1
          · intro wz hSw
            obtain ⟨k9, k0, k1⟩ := hSw
            first | (go_simp; done) | (go_simp; with_reducible rfl)
          simp only [List.set_cons_zero, List.set_cons_succ]
          refine take_at (i := 1) (n := 48) (v := ?_) rfl rfl (by kernel_rfl) (by kernel_rfl) (by kernel_rfl) (fun _ _ _ h => h) (Or.inl ⟨by rfl, ?_⟩) (by assumption) ?_
          rotate_left 1
          · intro wz hSw
            obtain ⟨k9, k0, k1⟩ := hSw
            first | (go_simp; done) | (go_simp; with_reducible rfl)
          simp only [List.set_cons_zero, List.set_cons_succ]
          refine take_at (i := 3) (n := 50) (v := ?_) rfl rfl (by kernel_rfl) (by kernel_rfl) (by kernel_rfl) (fun _ _ _ h => h) (Or.inl ⟨by rfl, ?_⟩) (by assumption) ?_
          rotate_left 1
          · intro wz hSw
            obtain ⟨k9, k0, k1⟩ := hSw
            first | (go_simp; done) | (go_simp; with_reducible rfl)
          simp only [List.set_cons_zero, List.set_cons_succ]
          refine wpAnyH_ready (rs := [2]) (by kernel_rfl) (by simp) ?_
          refine AllReadyH.cons rfl (fun K hK => ?_) AllReadyH.nil
          go_simp
          go_wp2_with (go_at_call 8; refine (HF.out _ _ (H3.out.2.plain.below hHeld.1)).mono ?_; rintro r wd ⟨rfl, hbd⟩)
          have hHeld := keepP hbd hHeld
          clear hbd
          refine hK.out _ _ hHeld (fun hHeld => ?_)
          clear hK K
          refine take_at (i := 4) (n := 51) (v := ?_) rfl rfl (by kernel_rfl) (by kernel_rfl) (by kernel_rfl) (fun _ _ _ h => h) (Or.inl ⟨by rfl, ?_⟩) (by assumption) ?_
          rotate_left 1
          · intro wz hSw
            obtain ⟨k9, k0, k1⟩ := hSw
            first | (go_simp; done) | (go_simp; with_reducible rfl)
          simp only [List.set_cons_zero, List.set_cons_succ]
          refine take_at (i := 5) (n := 52) (v := ?_) rfl rfl (by kernel_rfl) (by kernel_rfl) (by kernel_rfl) (fun _ _ _ h => h) (Or.inl ⟨by rfl, ?_⟩) (by assumption) ?_
          rotate_left 1
          · intro wz hSw
            obtain ⟨k9, k0, k1⟩ := hSw
            first | (go_simp; done) | (go_simp; with_reducible rfl)
          simp only [List.set_cons_zero, List.set_cons_succ]
          refine take_at (i := 6) (n := 53) (v := ?_) rfl rfl (by kernel_rfl) (by kernel_rfl) (by kernel_rfl) (fun _ _ _ h => h) (Or.inl ⟨by rfl, ?_⟩) (by assumption) ?_
          rotate_left 1
          · intro wz hSw
            obtain ⟨k9, k0, k1⟩ := hSw
            first | (go_simp; done) | (go_simp; with_reducible rfl)
          simp only [List.set_cons_zero, List.set_cons_succ]
          refine take_at (i := 7) (n := 54) (v := ?_) rfl rfl (by kernel_rfl) (by kernel_rfl) (by kernel_rfl) (fun _ _ _ h => h) (Or.inl ⟨by rfl, ?_⟩) (by assumption) ?_
          rotate_left 1
          · intro wz hSw
            obtain ⟨k9, k0, k1⟩ := hSw
            first | (go_simp; done) | (go_simp; with_reducible rfl)
          simp only [List.set_cons_zero, List.set_cons_succ]
          refine take_at (i := 8) (n := 55) (v := ?_) rfl rfl (by kernel_rfl) (by kernel_rfl) (by kernel_rfl) (fun _ _ _ h => h) (Or.inl ⟨by rfl, ?_⟩) (by assumption) ?_
          rotate_left 1
          · intro wz hSw
            obtain ⟨k9, k0, k1⟩ := hSw
            first | (go_simp; done) | (go_simp; with_reducible rfl)
          simp only [List.set_cons_zero, List.set_cons_succ]
          refine take_at (i := 10) (n := 57) (v := ?_) rfl rfl (by kernel_rfl) (by kernel_rfl) (by kernel_rfl) (fun _ _ _ h => h) (Or.inl ⟨by rfl, ?_⟩) (by assumption) ?_
          rotate_left 1
          · intro wz hSw
            obtain ⟨k9, k0, k1⟩ := hSw
            first | (go_simp; done) | (go_simp; with_reducible rfl)
          simp only [List.set_cons_zero, List.set_cons_succ]
          refine take_at (i := 11) (n := 58) (v := ?_) rfl rfl (by kernel_rfl) (by kernel_rfl) (by kernel_rfl) (fun _ _ _ h => h) (Or.inl ⟨by rfl, ?_⟩) (by assumption) ?_
          rotate_left 1
          · intro wz hSw
            obtain ⟨k9, k0, k1⟩ := hSw
            first | (go_simp; done) | (go_simp; with_reducible rfl)
          simp only [List.set_cons_zero, List.set_cons_succ]
          refine take_at (i := 12) (n := 59) (v := ?_) rfl rfl (by kernel_rfl) (by kernel_rfl) (by kernel_rfl) (fun _ _ _ h => h) (Or.inl ⟨by rfl, ?_⟩) (by assumption) ?_
          rotate_left 1
          · intro wz hSw
            obtain ⟨k9, k0, k1⟩ := hSw
            first | (go_simp; done) | (go_simp; with_reducible rfl)
          simp only [List.set_cons_zero, List.set_cons_succ]
          refine wpAnyH_ready (rs := [9]) (by kernel_rfl) (by simp) ?_
          refine AllReadyH.cons rfl (fun K hK => ?_) AllReadyH.nil
          go_simp
          go_wp2_with (go_at_call 9; refine (HO2.out _ _ (H3.out.2.plain.below hHeld.1)).mono ?_; rintro r wd ⟨rfl, hbd⟩)
          have hHeld := keepP hbd hHeld
          clear hbd
          refine hK.out _ _ hHeld (fun hHeld => ?_)
          clear hK K
          refine take_at (i := 13) (n := 60) (v := ?_) rfl rfl (by kernel_rfl) (by kernel_rfl) (by kernel_rfl) (fun _ _ _ h => h) (Or.inl ⟨by rfl, ?_⟩) (by assumption) ?_
          rotate_left 1
          · intro wz hSw
            obtain ⟨k9, k0, k1⟩ := hSw
            first | (go_simp; done) | (go_simp; with_reducible rfl)
          simp only [List.set_cons_zero, List.set_cons_succ]
          refine take_at (i := 14) (n := 61) (v := ?_) rfl rfl (by kernel_rfl) (by kernel_rfl) (by kernel_rfl) (fun _ _ _ h => h) (Or.inl ⟨by rfl, ?_⟩) (by assumption) ?_
          rotate_left 1
          · intro wz hSw
            obtain ⟨k9, k0, k1⟩ := hSw
            first | (go_simp; done) | (go_simp; with_reducible rfl)
          simp only [List.set_cons_zero, List.set_cons_succ]
          refine take_at (i := 15) (n := 62) (v := ?_) rfl rfl (by kernel_rfl) (by kernel_rfl) (by kernel_rfl) (fun _ _ _ h => h) (Or.inl ⟨by rfl, ?_⟩) (by assumption) ?_
          rotate_left 1
          · intro wz hSw
            obtain ⟨k9, k0, k1⟩ := hSw
            first | (go_simp; done) | (go_simp; with_reducible rfl)
          simp only [List.set_cons_zero, List.set_cons_succ]
          refine take_at (i := 16) (n := 63) (v := ?_) rfl rfl (by kernel_rfl) (by kernel_rfl) (by kernel_rfl) (fun _ _ _ h => h) (Or.inl ⟨by rfl, ?_⟩) (by assumption) ?_
          rotate_left 1
          · intro wz hSw
            obtain ⟨k9, k0, k1⟩ := hSw
            first | (go_simp; done) | (go_simp; with_reducible rfl)
          simp only [List.set_cons_zero, List.set_cons_succ]
          refine take_at (i := 17) (n := 64) (v := ?_) rfl rfl (by kernel_rfl) (by kernel_rfl) (by kernel_rfl) (fun _ _ _ h => h) (Or.inl ⟨by rfl, ?_⟩) (by assumption) ?_
          rotate_left 1
          · intro wz hSw
            obtain ⟨k9, k0, k1⟩ := hSw
            first | (go_simp; done) | (go_simp; with_reducible rfl)
          simp only [List.set_cons_zero, List.set_cons_succ]
          refine take_at (i := 18) (n := 65) (v := ?_) rfl rfl (by kernel_rfl) (by kernel_rfl) (by kernel_rfl) (fun _ _ _ h => h) (Or.inl ⟨by rfl, ?_⟩) (by assumption) ?_
          rotate_left 1
          · intro wz hSw
            obtain ⟨k9, k0, k1⟩ := hSw
            first | (go_simp; done) | (go_simp; with_reducible rfl)
          simp only [List.set_cons_zero, List.set_cons_succ]
          refine take_at (i := 19) (n := 66) (v := ?_) rfl rfl (by kernel_rfl) (by kernel_rfl) (by kernel_rfl) (fun _ _ _ h => h) (Or.inl ⟨by rfl, ?_⟩) (by assumption) ?_
          rotate_left 1
          · intro wz hSw
            obtain ⟨k9, k0, k1⟩ := hSw
            first | (go_simp; done) | (go_simp; with_reducible rfl)
          simp only [List.set_cons_zero, List.set_cons_succ]
          refine take_at (i := 20) (n := 67) (v := ?_) rfl rfl (by kernel_rfl) (by kernel_rfl) (by kernel_rfl) (fun _ _ _ h => h) (Or.inl ⟨by rfl, ?_⟩) (by assumption) ?_
          rotate_left 1
          · intro wz hSw
            obtain ⟨k9, k0, k1⟩ := hSw
            first | (go_simp; done) | (go_simp; with_reducible rfl)
          simp only [List.set_cons_zero, List.set_cons_succ]
          refine wpAnyH_ready (rs := [21]) (by kernel_rfl) (by simp) ?_
          refine AllReadyH.cons rfl (fun K hK => ?_) AllReadyH.nil
          go_simp
          go_wp2_with (go_at_call 10; refine (HTh.out _ (below_seq H3.out.1 hHeld.1)).mono ?_; rintro r wd ⟨rfl, hbd⟩)
          have hHeld := keepP hbd hHeld
          clear hbd
          refine hK.out _ _ hHeld (fun hHeld => ?_)
          clear hK K
          refine take_at (i := 22) (n := 69) (v := ?_) rfl rfl (by kernel_rfl) (by kernel_rfl) (by kernel_rfl) (fun _ _ _ h => h) (Or.inl ⟨by rfl, ?_⟩) (by assumption) ?_
          rotate_left 1
          · intro wz hSw
            obtain ⟨k9, k0, k1⟩ := hSw
            first | (go_simp; done) | (go_simp; with_reducible rfl)
          simp only [List.set_cons_zero, List.set_cons_succ]
          refine take_at (i := 23) (n := 70) (v := ?_) rfl rfl (by kernel_rfl) (by kernel_rfl) (by kernel_rfl) (fun _ _ _ h => h) (Or.inl ⟨by rfl, ?_⟩) (by assumption) ?_
          rotate_left 1
          · intro wz hSw
            obtain ⟨k9, k0, k1⟩ := hSw
            first | (go_simp; done) | (go_simp; with_reducible rfl)
          simp only [List.set_cons_zero, List.set_cons_succ]
          refine take_at (i := 24) (n := 71) (v := ?_) rfl rfl (by kernel_rfl) (by kernel_rfl) (by kernel_rfl) (fun _ _ _ h => h) (Or.inl ⟨by rfl, ?_⟩) (by assumption) ?_
          rotate_left 1
          · intro wz hSw
            obtain ⟨k9, k0, k1⟩ := hSw
            first | (go_simp; done) | (go_simp; with_reducible rfl)
          simp only [List.set_cons_zero, List.set_cons_succ]
          refine wpAnyH_done (by kernel_rfl) ?_ _
          refine NoPanic.normal ?_
          go_wp2_with fail
          go_meet
          case rel => exact ⟨rfl, hHeld.1⟩
        · have hb1 : decide (0 ≤ s) = false := by simp; omega
          have HO2 : Hid (∀ (W : World) (v : Value), RowSl Wi.vals W l v → Calls Tryd.prog 9 #[.int .i64 n, v, .int .i64 s] W fun r w' => r = .returned (.bool false) ∧ Below W.heap.size W w') := fun W v hv => by have := HO.out W v hv; rw [hb1] at this; simpa using this
          refine wp_region_noPanic ?_
          refine wp_region_held_drew (S := fun w' => Below (w3.alloc (.cells #[.int .i64 0, .int .i64 y] 30)).heap.size (w3.alloc (.cells #[.int .i64 0, .int .i64 y] 30)) w' ∧ w'.cell? ⟨w3.heap.size, 0, none⟩ = some (.int .i64 0) ∧ w'.cell? ⟨w3.heap.size, 1, none⟩ = some (.int .i64 y)) (by kernel_rfl) ⟨(Below.refl _ _).drew, by go_simp, by go_simp⟩ (fun hHeld => ?_)
          refine take_at (i := 0) (n := 47) (v := ?_) rfl rfl (by kernel_rfl) (by kernel_rfl) (by kernel_rfl) (fun _ _ _ h => h) (Or.inl ⟨by rfl, ?_⟩) (by assumption) ?_
          rotate_left 1
          · intro wz hSw
            obtain ⟨k9, k0, k1⟩ := hSw
            first | (go_simp; done) | (go_simp; with_reducible rfl)
          simp only [List.set_cons_zero, List.set_cons_succ]
          refine take_at (i := 1) (n := 48) (v := ?_) rfl rfl (by kernel_rfl) (by kernel_rfl) (by kernel_rfl) (fun _ _ _ h => h) (Or.inl ⟨by rfl, ?_⟩) (by assumption) ?_
          rotate_left 1
          · intro wz hSw
            obtain ⟨k9, k0, k1⟩ := hSw
            first | (go_simp; done) | (go_simp; with_reducible rfl)
          simp only [List.set_cons_zero, List.set_cons_succ]
          refine take_at (i := 3) (n := 50) (v := ?_) rfl rfl (by kernel_rfl) (by kernel_rfl) (by kernel_rfl) (fun _ _ _ h => h) (Or.inl ⟨by rfl, ?_⟩) (by assumption) ?_
          rotate_left 1
          · intro wz hSw
            obtain ⟨k9, k0, k1⟩ := hSw
            first | (go_simp; done) | (go_simp; with_reducible rfl)
          simp only [List.set_cons_zero, List.set_cons_succ]
          refine wpAnyH_ready (rs := [2]) (by kernel_rfl) (by simp) ?_
          refine AllReadyH.cons rfl (fun K hK => ?_) AllReadyH.nil
          go_simp
          go_wp2_with (go_at_call 8; refine (HF.out _ _ (H3.out.2.plain.below hHeld.1)).mono ?_; rintro r wd ⟨rfl, hbd⟩)
          have hHeld := keepP hbd hHeld
          clear hbd
          refine hK.out _ _ hHeld (fun hHeld => ?_)
          clear hK K
          refine take_at (i := 4) (n := 51) (v := ?_) rfl rfl (by kernel_rfl) (by kernel_rfl) (by kernel_rfl) (fun _ _ _ h => h) (Or.inl ⟨by rfl, ?_⟩) (by assumption) ?_
          rotate_left 1
          · intro wz hSw
            obtain ⟨k9, k0, k1⟩ := hSw
            first | (go_simp; done) | (go_simp; with_reducible rfl)
          simp only [List.set_cons_zero, List.set_cons_succ]
          refine take_at (i := 5) (n := 52) (v := ?_) rfl rfl (by kernel_rfl) (by kernel_rfl) (by kernel_rfl) (fun _ _ _ h => h) (Or.inl ⟨by rfl, ?_⟩) (by assumption) ?_
          rotate_left 1
          · intro wz hSw
            obtain ⟨k9, k0, k1⟩ := hSw
            first | (go_simp; done) | (go_simp; with_reducible rfl)
          simp only [List.set_cons_zero, List.set_cons_succ]
          refine take_at (i := 6) (n := 53) (v := ?_) rfl rfl (by kernel_rfl) (by kernel_rfl) (by kernel_rfl) (fun _ _ _ h => h) (Or.inl ⟨by rfl, ?_⟩) (by assumption) ?_
          rotate_left 1
          · intro wz hSw
            obtain ⟨k9, k0, k1⟩ := hSw
            first | (go_simp; done) | (go_simp; with_reducible rfl)
          simp only [List.set_cons_zero, List.set_cons_succ]
          refine take_at (i := 7) (n := 54) (v := ?_) rfl rfl (by kernel_rfl) (by kernel_rfl) (by kernel_rfl) (fun _ _ _ h => h) (Or.inl ⟨by rfl, ?_⟩) (by assumption) ?_
          rotate_left 1
          · intro wz hSw
            obtain ⟨k9, k0, k1⟩ := hSw
            first | (go_simp; done) | (go_simp; with_reducible rfl)
          simp only [List.set_cons_zero, List.set_cons_succ]
          refine take_at (i := 8) (n := 55) (v := ?_) rfl rfl (by kernel_rfl) (by kernel_rfl) (by kernel_rfl) (fun _ _ _ h => h) (Or.inl ⟨by rfl, ?_⟩) (by assumption) ?_
          rotate_left 1
          · intro wz hSw
            obtain ⟨k9, k0, k1⟩ := hSw
            first | (go_simp; done) | (go_simp; with_reducible rfl)
          simp only [List.set_cons_zero, List.set_cons_succ]
          refine take_at (i := 10) (n := 57) (v := ?_) rfl rfl (by kernel_rfl) (by kernel_rfl) (by kernel_rfl) (fun _ _ _ h => h) (Or.inl ⟨by rfl, ?_⟩) (by assumption) ?_
          rotate_left 1
          · intro wz hSw
            obtain ⟨k9, k0, k1⟩ := hSw
            first | (go_simp; done) | (go_simp; with_reducible rfl)
          simp only [List.set_cons_zero, List.set_cons_succ]
          refine take_at (i := 11) (n := 58) (v := ?_) rfl rfl (by kernel_rfl) (by kernel_rfl) (by kernel_rfl) (fun _ _ _ h => h) (Or.inl ⟨by rfl, ?_⟩) (by assumption) ?_
          rotate_left 1
          · intro wz hSw
            obtain ⟨k9, k0, k1⟩ := hSw
            first | (go_simp; done) | (go_simp; with_reducible rfl)
          simp only [List.set_cons_zero, List.set_cons_succ]
          refine take_at (i := 12) (n := 59) (v := ?_) rfl rfl (by kernel_rfl) (by kernel_rfl) (by kernel_rfl) (fun _ _ _ h => h) (Or.inl ⟨by rfl, ?_⟩) (by assumption) ?_
          rotate_left 1
          · intro wz hSw
            obtain ⟨k9, k0, k1⟩ := hSw
            first | (go_simp; done) | (go_simp; with_reducible rfl)
          simp only [List.set_cons_zero, List.set_cons_succ]
          refine wpAnyH_ready (rs := [9]) (by kernel_rfl) (by simp) ?_
          refine AllReadyH.cons rfl (fun K hK => ?_) AllReadyH.nil
          go_simp
          go_wp2_with (go_at_call 9; refine (HO2.out _ _ (H3.out.2.plain.below hHeld.1)).mono ?_; rintro r wd ⟨rfl, hbd⟩)
          have hHeld := keepP hbd hHeld
          clear hbd
          refine hK.out _ _ hHeld (fun hHeld => ?_)
          clear hK K
          refine take_at (i := 13) (n := 60) (v := ?_) rfl rfl (by kernel_rfl) (by kernel_rfl) (by kernel_rfl) (fun _ _ _ h => h) (Or.inl ⟨by rfl, ?_⟩) (by assumption) ?_
          rotate_left 1
          · intro wz hSw
            obtain ⟨k9, k0, k1⟩ := hSw
            first | (go_simp; done) | (go_simp; with_reducible rfl)
          simp only [List.set_cons_zero, List.set_cons_succ]
          refine take_at (i := 14) (n := 61) (v := ?_) rfl rfl (by kernel_rfl) (by kernel_rfl) (by kernel_rfl) (fun _ _ _ h => h) (Or.inl ⟨by rfl, ?_⟩) (by assumption) ?_
          rotate_left 1
          · intro wz hSw
            obtain ⟨k9, k0, k1⟩ := hSw
            first | (go_simp; done) | (go_simp; with_reducible rfl)
          simp only [List.set_cons_zero, List.set_cons_succ]
          refine take_at (i := 15) (n := 62) (v := ?_) rfl rfl (by kernel_rfl) (by kernel_rfl) (by kernel_rfl) (fun _ _ _ h => h) (Or.inl ⟨by rfl, ?_⟩) (by assumption) ?_
          rotate_left 1
          · intro wz hSw
            obtain ⟨k9, k0, k1⟩ := hSw
            first | (go_simp; done) | (go_simp; with_reducible rfl)
          simp only [List.set_cons_zero, List.set_cons_succ]
          refine take_at (i := 16) (n := 63) (v := ?_) rfl rfl (by kernel_rfl) (by kernel_rfl) (by kernel_rfl) (fun _ _ _ h => h) (Or.inl ⟨by rfl, ?_⟩) (by assumption) ?_
          rotate_left 1
          · intro wz hSw
            obtain ⟨k9, k0, k1⟩ := hSw
            first | (go_simp; done) | (go_simp; with_reducible rfl)
          simp only [List.set_cons_zero, List.set_cons_succ]
          refine take_at (i := 17) (n := 64) (v := ?_) rfl rfl (by kernel_rfl) (by kernel_rfl) (by kernel_rfl) (fun _ _ _ h => h) (Or.inl ⟨by rfl, ?_⟩) (by assumption) ?_
          rotate_left 1
          · intro wz hSw
            obtain ⟨k9, k0, k1⟩ := hSw
            first | (go_simp; done) | (go_simp; with_reducible rfl)
          simp only [List.set_cons_zero, List.set_cons_succ]
          refine take_at (i := 18) (n := 65) (v := undef) rfl rfl (by kernel_rfl) (by kernel_rfl) (by kernel_rfl) (fun _ _ _ h => h) (Or.inr ⟨by rfl, rfl⟩) (by assumption) ?_
          simp only [List.set_cons_zero, List.set_cons_succ]
          refine take_at (i := 19) (n := 66) (v := undef) rfl rfl (by kernel_rfl) (by kernel_rfl) (by kernel_rfl) (fun _ _ _ h => h) (Or.inr ⟨by rfl, rfl⟩) (by assumption) ?_
          simp only [List.set_cons_zero, List.set_cons_succ]
          refine take_at (i := 20) (n := 67) (v := undef) rfl rfl (by kernel_rfl) (by kernel_rfl) (by kernel_rfl) (fun _ _ _ h => h) (Or.inr ⟨by rfl, rfl⟩) (by assumption) ?_
          simp only [List.set_cons_zero, List.set_cons_succ]
          refine wpAnyH_ready (rs := [21]) (by kernel_rfl) (by simp) ?_
          refine AllReadyH.cons rfl (fun K hK => ?_) AllReadyH.nil
          go_simp
          refine hK.out _ _ hHeld (fun hHeld => ?_)
          clear hK K
          refine take_at (i := 22) (n := 69) (v := ?_) rfl rfl (by kernel_rfl) (by kernel_rfl) (by kernel_rfl) (fun _ _ _ h => h) (Or.inl ⟨by rfl, ?_⟩) (by assumption) ?_
          rotate_left 1
          · intro wz hSw
            obtain ⟨k9, k0, k1⟩ := hSw
            first | (go_simp; done) | (go_simp; with_reducible rfl)
          simp only [List.set_cons_zero, List.set_cons_succ]
          refine take_at (i := 23) (n := 70) (v := ?_) rfl rfl (by kernel_rfl) (by kernel_rfl) (by kernel_rfl) (fun _ _ _ h => h) (Or.inl ⟨by rfl, ?_⟩) (by assumption) ?_
          rotate_left 1
          · intro wz hSw
            obtain ⟨k9, k0, k1⟩ := hSw
            first | (go_simp; done) | (go_simp; with_reducible rfl)
          simp only [List.set_cons_zero, List.set_cons_succ]
          refine take_at (i := 24) (n := 71) (v := ?_) rfl rfl (by kernel_rfl) (by kernel_rfl) (by kernel_rfl) (fun _ _ _ h => h) (Or.inl ⟨by rfl, ?_⟩) (by assumption) ?_
          rotate_left 1
          · intro wz hSw
            obtain ⟨k9, k0, k1⟩ := hSw
            first | (go_simp; done) | (go_simp; with_reducible rfl)
          simp only [List.set_cons_zero, List.set_cons_succ]
          refine wpAnyH_done (by kernel_rfl) ?_ _
          refine NoPanic.normal ?_
          go_wp2_with fail
          go_meet
          case rel => exact ⟨rfl, hHeld.1⟩
      · have hb0 : decide (z = 0) = false := by simp [h0]
        have hb2 : (z == 0) = false := by simp [h0]
        have HO2 : Hid (∀ (W : World) (v : Value), RowSl Wi.vals W l v → Calls Tryd.prog 9 #[.int .i64 n, v, .int .i64 s] W fun r w' => r = .returned (.bool false) ∧ Below W.heap.size W w') := fun W v hv => by have := HO.out W v hv; rw [hb0] at this; simpa using this
        refine wp_region_noPanic ?_
        refine wp_region_held_drew (S := fun w' => Below (w3.alloc (.cells #[.int .i64 z, .int .i64 y] 30)).heap.size (w3.alloc (.cells #[.int .i64 z, .int .i64 y] 30)) w' ∧ w'.cell? ⟨w3.heap.size, 0, none⟩ = some (.int .i64 z) ∧ w'.cell? ⟨w3.heap.size, 1, none⟩ = some (.int .i64 y)) (by kernel_rfl) ⟨(Below.refl _ _).drew, by go_simp, by go_simp⟩ (fun hHeld => ?_)
        refine take_at (i := 0) (n := 47) (v := ?_) rfl rfl (by kernel_rfl) (by kernel_rfl) (by kernel_rfl) (fun _ _ _ h => h) (Or.inl ⟨by rfl, ?_⟩) (by assumption) ?_
        rotate_left 1
        · intro wz hSw
          obtain ⟨k9, k0, k1⟩ := hSw
          first | (go_simp; done) | (go_simp; with_reducible rfl)
        simp only [List.set_cons_zero, List.set_cons_succ]
        refine take_at (i := 1) (n := 48) (v := ?_) rfl rfl (by kernel_rfl) (by kernel_rfl) (by kernel_rfl) (fun _ _ _ h => h) (Or.inl ⟨by rfl, ?_⟩) (by assumption) ?_
        rotate_left 1
        · intro wz hSw
          obtain ⟨k9, k0, k1⟩ := hSw
          first | (go_simp; done) | (go_simp; with_reducible rfl)
        simp only [List.set_cons_zero, List.set_cons_succ]
        refine take_at (i := 3) (n := 50) (v := ?_) rfl rfl (by kernel_rfl) (by kernel_rfl) (by kernel_rfl) (fun _ _ _ h => h) (Or.inl ⟨by rfl, ?_⟩) (by assumption) ?_
        rotate_left 1
        · intro wz hSw
          obtain ⟨k9, k0, k1⟩ := hSw
          first | (go_simp; done) | (go_simp; with_reducible rfl)
        simp only [List.set_cons_zero, List.set_cons_succ]
        refine wpAnyH_ready (rs := [2]) (by kernel_rfl) (by simp) ?_
        refine AllReadyH.cons rfl (fun K hK => ?_) AllReadyH.nil
        go_simp
        go_wp2_with (go_at_call 8; refine (HF.out _ _ (H3.out.2.plain.below hHeld.1)).mono ?_; rintro r wd ⟨rfl, hbd⟩)
        have hHeld := keepP hbd hHeld
        clear hbd
        refine hK.out _ _ hHeld (fun hHeld => ?_)
        clear hK K
        refine take_at (i := 4) (n := 51) (v := ?_) rfl rfl (by kernel_rfl) (by kernel_rfl) (by kernel_rfl) (fun _ _ _ h => h) (Or.inl ⟨by rfl, ?_⟩) (by assumption) ?_
        rotate_left 1
        · intro wz hSw
          obtain ⟨k9, k0, k1⟩ := hSw
          first | (go_simp; done) | (go_simp; with_reducible rfl)
        simp only [List.set_cons_zero, List.set_cons_succ]
        refine take_at (i := 5) (n := 52) (v := ?_) rfl rfl (by kernel_rfl) (by kernel_rfl) (by kernel_rfl) (fun _ _ _ h => h) (Or.inl ⟨by rfl, ?_⟩) (by assumption) ?_
        rotate_left 1
        · intro wz hSw
          obtain ⟨k9, k0, k1⟩ := hSw
          first | (go_simp; done) | (go_simp; with_reducible rfl)
        simp only [List.set_cons_zero, List.set_cons_succ]
        refine take_at (i := 6) (n := 53) (v := ?_) rfl rfl (by kernel_rfl) (by kernel_rfl) (by kernel_rfl) (fun _ _ _ h => h) (Or.inl ⟨by rfl, ?_⟩) (by assumption) ?_
        rotate_left 1
        · intro wz hSw
          obtain ⟨k9, k0, k1⟩ := hSw
          first | (go_simp; done) | (go_simp; with_reducible rfl)
        simp only [List.set_cons_zero, List.set_cons_succ]
        refine take_at (i := 7) (n := 54) (v := ?_) rfl rfl (by kernel_rfl) (by kernel_rfl) (by kernel_rfl) (fun _ _ _ h => h) (Or.inl ⟨by rfl, ?_⟩) (by assumption) ?_
        rotate_left 1
        · intro wz hSw
          obtain ⟨k9, k0, k1⟩ := hSw
          first | (go_simp; done) | (go_simp; with_reducible rfl)
        simp only [List.set_cons_zero, List.set_cons_succ]
        refine take_at (i := 8) (n := 55) (v := ?_) rfl rfl (by kernel_rfl) (by kernel_rfl) (by kernel_rfl) (fun _ _ _ h => h) (Or.inl ⟨by rfl, ?_⟩) (by assumption) ?_
        rotate_left 1
        · intro wz hSw
          obtain ⟨k9, k0, k1⟩ := hSw
          first | (go_simp; done) | (go_simp; with_reducible rfl)
        simp only [List.set_cons_zero, List.set_cons_succ]
        refine take_at (i := 10) (n := 57) (v := ?_) rfl rfl (by kernel_rfl) (by kernel_rfl) (by kernel_rfl) (fun _ _ _ h => h) (Or.inl ⟨by rfl, ?_⟩) (by assumption) ?_
        rotate_left 1
        · intro wz hSw
          obtain ⟨k9, k0, k1⟩ := hSw
          first | (go_simp; done) | (go_simp; with_reducible rfl)
        simp only [List.set_cons_zero, List.set_cons_succ]
        refine take_at (i := 11) (n := 58) (v := ?_) rfl rfl (by kernel_rfl) (by kernel_rfl) (by kernel_rfl) (fun _ _ _ h => h) (Or.inl ⟨by rfl, ?_⟩) (by assumption) ?_
        rotate_left 1
        · intro wz hSw
          obtain ⟨k9, k0, k1⟩ := hSw
          first | (go_simp; done) | (go_simp; with_reducible rfl)
        simp only [List.set_cons_zero, List.set_cons_succ]
        refine take_at (i := 12) (n := 59) (v := ?_) rfl rfl (by kernel_rfl) (by kernel_rfl) (by kernel_rfl) (fun _ _ _ h => h) (Or.inl ⟨by rfl, ?_⟩) (by assumption) ?_
        rotate_left 1
        · intro wz hSw
          obtain ⟨k9, k0, k1⟩ := hSw
          first | (go_simp; done) | (go_simp; with_reducible rfl)
        simp only [List.set_cons_zero, List.set_cons_succ]
        refine wpAnyH_ready (rs := [9]) (by kernel_rfl) (by simp) ?_
        refine AllReadyH.cons rfl (fun K hK => ?_) AllReadyH.nil
        go_simp
        go_wp2_with (go_at_call 9; refine (HO2.out _ _ (H3.out.2.plain.below hHeld.1)).mono ?_; rintro r wd ⟨rfl, hbd⟩)
        have hHeld := keepP hbd hHeld
        clear hbd
        refine hK.out _ _ hHeld (fun hHeld => ?_)
        clear hK K
        refine take_at (i := 13) (n := 60) (v := ?_) rfl rfl (by kernel_rfl) (by kernel_rfl) (by kernel_rfl) (fun _ _ _ h => h) (Or.inl ⟨by rfl, ?_⟩) (by assumption) ?_
        rotate_left 1
        · intro wz hSw
          obtain ⟨k9, k0, k1⟩ := hSw
          first | (go_simp; done) | (go_simp; with_reducible rfl)
        simp only [List.set_cons_zero, List.set_cons_succ]
        refine take_at (i := 14) (n := 61) (v := undef) rfl rfl (by kernel_rfl) (by kernel_rfl) (by kernel_rfl) (fun _ _ _ h => h) (Or.inr ⟨by rfl, rfl⟩) (by assumption) ?_
        simp only [List.set_cons_zero, List.set_cons_succ]
        refine take_at (i := 15) (n := 62) (v := undef) rfl rfl (by kernel_rfl) (by kernel_rfl) (by kernel_rfl) (fun _ _ _ h => h) (Or.inr ⟨by rfl, rfl⟩) (by assumption) ?_
        simp only [List.set_cons_zero, List.set_cons_succ]
        refine take_at (i := 16) (n := 63) (v := ?_) rfl rfl (by kernel_rfl) (by kernel_rfl) (by kernel_rfl) (fun _ _ _ h => h) (Or.inl ⟨by rfl, ?_⟩) (by assumption) ?_
        rotate_left 1
        · intro wz hSw
          obtain ⟨k9, k0, k1⟩ := hSw
          first | (go_simp; done) | (go_simp; with_reducible rfl)
        simp only [List.set_cons_zero, List.set_cons_succ]
        refine take_at (i := 17) (n := 64) (v := ?_) rfl rfl (by kernel_rfl) (by kernel_rfl) (by kernel_rfl) (fun _ _ _ h => h) (Or.inl ⟨by rfl, ?_⟩) (by assumption) ?_
        rotate_left 1
        · intro wz hSw
          obtain ⟨k9, k0, k1⟩ := hSw
          first | (go_simp; done) | (go_simp; with_reducible rfl)
        simp only [List.set_cons_zero, List.set_cons_succ]
        refine take_at (i := 18) (n := 65) (v := undef) rfl rfl (by kernel_rfl) (by kernel_rfl) (by kernel_rfl) (fun _ _ _ h => h) (Or.inr ⟨by rfl, rfl⟩) (by assumption) ?_
        simp only [List.set_cons_zero, List.set_cons_succ]
        refine take_at (i := 19) (n := 66) (v := undef) rfl rfl (by kernel_rfl) (by kernel_rfl) (by kernel_rfl) (fun _ _ _ h => h) (Or.inr ⟨by rfl, rfl⟩) (by assumption) ?_
        simp only [List.set_cons_zero, List.set_cons_succ]
        refine take_at (i := 20) (n := 67) (v := undef) rfl rfl (by kernel_rfl) (by kernel_rfl) (by kernel_rfl) (fun _ _ _ h => h) (Or.inr ⟨by rfl, rfl⟩) (by assumption) ?_
        simp only [List.set_cons_zero, List.set_cons_succ]
        refine wpAnyH_ready (rs := [21]) (by kernel_rfl) (by simp) ?_
        refine AllReadyH.cons rfl (fun K hK => ?_) AllReadyH.nil
        go_simp
        refine hK.out _ _ hHeld (fun hHeld => ?_)
        clear hK K
        refine take_at (i := 22) (n := 69) (v := ?_) rfl rfl (by kernel_rfl) (by kernel_rfl) (by kernel_rfl) (fun _ _ _ h => h) (Or.inl ⟨by rfl, ?_⟩) (by assumption) ?_
        rotate_left 1
        · intro wz hSw
          obtain ⟨k9, k0, k1⟩ := hSw
          first | (go_simp; done) | (go_simp; with_reducible rfl)
        simp only [List.set_cons_zero, List.set_cons_succ]
        refine take_at (i := 23) (n := 70) (v := ?_) rfl rfl (by kernel_rfl) (by kernel_rfl) (by kernel_rfl) (fun _ _ _ h => h) (Or.inl ⟨by rfl, ?_⟩) (by assumption) ?_
        rotate_left 1
        · intro wz hSw
          obtain ⟨k9, k0, k1⟩ := hSw
          first | (go_simp; done) | (go_simp; with_reducible rfl)
        simp only [List.set_cons_zero, List.set_cons_succ]
        refine take_at (i := 24) (n := 71) (v := ?_) rfl rfl (by kernel_rfl) (by kernel_rfl) (by kernel_rfl) (fun _ _ _ h => h) (Or.inl ⟨by rfl, ?_⟩) (by assumption) ?_
        rotate_left 1
        · intro wz hSw
          obtain ⟨k9, k0, k1⟩ := hSw
          first | (go_simp; done) | (go_simp; with_reducible rfl)
        simp only [List.set_cons_zero, List.set_cons_succ]
        refine wpAnyH_done (by kernel_rfl) ?_ _
        refine NoPanic.normal ?_
        go_wp2_with fail
        go_meet
        case rel => exact ⟨rfl, hHeld.1⟩
    case rest =>
      obtain ⟨rfl, HC⟩ := hcut
      go_upto_region 11 with (first
        | (go_at_call 12; refine (HLe.out _ _ (H3.out.2.plain.below (below_seq HC.out H4.out))).mono ?_; rintro r w5 ⟨rfl, hb5⟩; have H5 : Hid (Below (w3.alloc (.cells #[.int .i64 z, .int .i64 y] 30)).heap.size (w3.alloc (.cells #[.int .i64 z, .int .i64 y] 30)) w5 ∧ w5.heap[w4.heap.size]? = some (.cells #[.int .i64 c1, .int .i64 d1] 30 (0, 0)) ∧ w4.heap.size < w5.heap.size ∧ (w3.alloc (.cells #[.int .i64 z, .int .i64 y] 30)).heap.size ≤ w4.heap.size) := ⟨below_seq (below_seq HC.out H4.out) hb5, (hb5.block _ (by simp)).trans (heap_alloc_new _ _), Nat.lt_of_lt_of_le (by simp) hb5.size, HB4.out⟩; clear hb5)
        | (go_at_call 11; refine (HSu.out _ _ (H3.out.2.plain.below HC.out)).mono ?_; rintro r w4 ⟨rfl, hb4⟩; have HB4 : Hid ((w3.alloc (.cells #[.int .i64 z, .int .i64 y] 30)).heap.size ≤ w4.heap.size) := Nat.le_trans HC.out.size hb4.size; have H4 : Hid (Below wc.heap.size wc (w4.alloc (.cells #[.int .i64 c1, .int .i64 d1] 30))) := below_seq hb4 (below_new _ _); clear hb4))
      have a0 : w5.cell? ⟨w3.heap.size, 0, none⟩ = some (.int .i64 z) ∧ w5.cell? ⟨w3.heap.size, 1, none⟩ = some (.int .i64 y) := by
        have hb := H5.out.1
        exact ⟨below_cell hb (by go_simp), below_cell hb (by go_simp)⟩
      have l35 : w3.heap.size < w5.heap.size := World.block_lt_of_cell? _ _ a0.1
      obtain ⟨a0, a1⟩ := a0
      go_cut [15, 16, 17, 18] from 87 to 88 (fun x y2 gx gy wx => (x = .int .i64 0 ∧ y2 = .int .i64 0) ∧ ∃ g7 g8, gx = .pointer (some ⟨g7, 0, none⟩) ∧ gy = .pointer (some ⟨g8, 0, none⟩) ∧ Hid (w5.heap.size < g7 ∧ w5.heap.size < g8 ∧ g7 ≠ g8) ∧ Hid (Below (w5.alloc (.cells #[.int .i64 c2, .int .i64 d2] 30)).heap.size (w5.alloc (.cells #[.int .i64 c2, .int .i64 d2] 30)) wx) ∧ wx.heap[g7]? = some (.cells #[.int .i64 z, .int .i64 y] 30 (0, 0)) ∧ wx.heap[g8]? = some (.cells #[.int .i64 z, .int .i64 y] 30 (0, 0)))
      case first =>
        have m1 : w3.heap.size < w5.heap.size + 1 := by omega
        have m2 : w3.heap.size < w5.heap.size + 1 + 1 := by omega
        have m3 : w3.heap.size < w5.heap.size + 2 := by omega
        have n1 : ¬ w3.heap.size = w5.heap.size := by omega
        have n2 : ¬ w3.heap.size = w5.heap.size + 1 := by omega
        have n3 : ¬ w3.heap.size = w5.heap.size + 1 + 1 := by omega
        go_region
        all_goals
          go_wp2_with fail
          go_meet
          case rel =>
            obtain ⟨p1, p2⟩ := two_new (w5.alloc (.cells #[.int .i64 c2, .int .i64 d2] 30)) (.cells #[.int .i64 z, .int .i64 y] 30) (.cells #[.int .i64 z, .int .i64 y] 30)
            have hb6 : Below (w5.alloc (.cells #[.int .i64 c2, .int .i64 d2] 30)).heap.size (w5.alloc (.cells #[.int .i64 c2, .int .i64 d2] 30)) (((((w5.alloc (.cells #[.int .i64 c2, .int .i64 d2] 30))).alloc (.cells #[.int .i64 z, .int .i64 y] 30)).alloc (.cells #[.int .i64 z, .int .i64 y] 30)).drew) := (below_seq (below_new _ _) (below_new _ _)).drew
            refine ⟨⟨rfl, rfl⟩, _, _, rfl, rfl, ⟨by first | omega | (simp; done) | (simp; omega), by first | omega | (simp; done) | (simp; omega), by first | omega | (simp; done) | (simp; omega)⟩, hb6, ?_, ?_⟩
            · first | simpa using p1 | simpa using p2
            · first | simpa using p2 | simpa using p1
      case rest =>
        obtain ⟨⟨rfl, rfl⟩, g7, g8, rfl, rfl, HN, HD, h7, h8⟩ := hcut
        have HA : VF (w3.alloc (.cells #[.int .i64 z, .int .i64 y] 30)) wc w4.heap.size w5.heap.size g7 g8 c1 d1 c2 d2 z y z y := by
          have hb6 : Below w5.heap.size w5 wc := below_seq (below_new _ _) HD.out
          refine ⟨below_seq H5.out.1 hb6, (hb6.block _ H5.out.2.2.1).trans H5.out.2.1, (HD.out.block _ (by simp)).trans (heap_alloc_new _ _), h7, h8, ?_⟩
          have hh := HN.out
          have hh5 := H5.out.2.2
          have hh6 := H5.out.1.size
          omega
        have HVF : Hid (VF (w3.alloc (.cells #[.int .i64 z, .int .i64 y] 30)) wc w4.heap.size w5.heap.size g7 g8 c1 d1 c2 d2 z y z y) := HA
        have b0 : wc.cell? ⟨w3.heap.size, 0, none⟩ = some (.int .i64 z) := below_cell (below_seq (below_new _ _) HD.out) a0
        have b1 : wc.cell? ⟨w3.heap.size, 1, none⟩ = some (.int .i64 y) := below_cell (below_seq (below_new _ _) HD.out) a1
        have l3 : w3.heap.size < wc.heap.size := World.block_lt_of_cell? _ _ b0
        obtain ⟨⟨v40, v41, v50, v51⟩, ⟨v70, v71, v80, v81⟩, ⟨x70, x71, x80, x81⟩, v4, v5, v7, v8⟩ := HA.cells
        obtain ⟨-, t1, t2, t3, t4, t5⟩ := HA.lo
        clear HA h7 h8
        by_cases h0 : z = 0
        rotate_left 1
        · obtain ⟨r1, r2⟩ := bothF_wrong (s := s) (k := k) HZ.out h0
          have r3 := r1.symm.trans HQ.out.1
          have r4 := r2.symm.trans HQ.out.2
          simp only [Prod.mk.injEq] at r3 r4
          obtain ⟨rfl, rfl, rfl⟩ := r3
          obtain ⟨rfl, r5, r6⟩ := r4
          subst r5 r6
          have hb2 : (z == 0) = false := by simp [h0]
          obtain ⟨e0, e1⟩ := HV.out.1
          have e0 := below_cell (below_seq H3.out.1 HVF.out.bel) e0
          have e1 := below_cell (below_seq H3.out.1 HVF.out.bel) e1
          simp only [noW] at e0 e1
          have HS := HT wc l noW _ _ (by omega) (H3.out.2.below HVF.out.bel) (HV.out.2.below (below_seq H3.out.1 HVF.out.bel))
          simp only [noW] at HS
          go_wp2_with (go_at_call 16; refine HS.mono ?_; rintro r w9 ⟨rfl, hb9⟩)
          go_ret
          exact ⟨rfl, below_seq (below_seq H3.out.1 HVF.out.bel) hb9⟩
        have hzz := HZ.out
        rw [h0] at hzz
        obtain ⟨hn, h20, hs, hy0⟩ := frmF_good hzz
        rw [hy0] at hzz
        subst h0 hy0
        have z7 : ¬ (0 = g7) := by have := HN.out; omega
        have z7' : ¬ (g7 = 0) := by have := HN.out; omega
        have z8 : ¬ (0 = g8) := by have := HN.out; omega
        have z8' : ¬ (g8 = 0) := by have := HN.out; omega
        have sc : s < 0 ∨ (¬ s < 0 ∧ 20000 < s) ∨ (¬ s < 0 ∧ ¬ 20000 < s) := by omega
        have kc : k < 0 ∨ (¬ k < 0 ∧ 20000 < k) ∨ (¬ k < 0 ∧ ¬ 20000 < k) := by omega
        rcases sc with s1 | ⟨s1, s2⟩ | ⟨s1, s2⟩ <;> rcases kc with k1 | ⟨k1, k2⟩ | ⟨k1, k2⟩
        · skip
          have os : outT s = true := by simp [outT, wthin]; omega
          have ok : outT k = true := by simp [outT, wthin]; omega
          have r3 := (supF_bad hzz (by first | exact .inl os | exact .inr ok)).symm.trans HQ.out.1
          have r4 := (leF_bad hzz ok).symm.trans HQ.out.2
          simp only [Prod.mk.injEq] at r3 r4
          obtain ⟨r31, r32, r33⟩ := r3
          obtain ⟨r41, r42, r43⟩ := r4
          subst r32 r33 r42 r43
          clear os ok
          subst r31 r41
          have PH : Ph 1 := .mk
          clear hn hs hzz h20
          have HV1 : Hid (∀ W, Below wc.heap.size wc W → VF (w3.alloc (.cells #[.int .i64 0, .int .i64 0] 30)) ((W.setCell ⟨g8, 0, none⟩ (.int .i64 3)).setCell ⟨g8, 1, none⟩ (.int .i64 0)) w4.heap.size w5.heap.size g7 g8 3 0 3 0 0 0 3 0) := fun W hW => (HVF.out.grow hW).set8 3 0
          go_wp2_with (first
            | (guard_hyp PH : Ph 3; go_at_call 16; have HS := HT _ l noW _ _ (by omega) (H3.out.2.below HY.out.bel) (HV.out.2.below (below_seq H3.out.1 HY.out.bel)); simp only [noW] at HS; refine HS.mono ?_; rintro r w9 ⟨rfl, hb9⟩; have H9 : Hid (Below w.heap.size w w9) := below_seq (below_seq H3.out.1 HY.out.bel) hb9; clear hb9 HS)
            | (guard_hyp PH : Ph 2; go_at_call 13; refine (F_any _ 3 0).mono ?_; rintro r w7 ⟨rfl, hb7⟩; have VY : Hid (VF (w3.alloc (.cells #[.int .i64 0, .int .i64 0] 30)) w7 w4.heap.size w5.heap.size g7 g8 3 0 3 0 0 0 3 0) := HX.out.grow hb7; have HY : Hid (VF (w3.alloc (.cells #[.int .i64 0, .int .i64 0] 30)) ((w7.setCell ⟨g7, 0, none⟩ (.int .i64 3)).setCell ⟨g7, 1, none⟩ (.int .i64 0)) w4.heap.size w5.heap.size g7 g8 3 0 3 0 3 0 3 0) := VY.out.set7 3 0; clear v40 v41 v50 v51 v70 v71 v80 v81 x70 x71 x80 x81 v4 v5 v7 v8 e0 e1 le0; obtain ⟨⟨v40, v41, v50, v51⟩, ⟨v70, v71, v80, v81⟩, ⟨x70, x71, x80, x81⟩, v4, v5, v7, v8⟩ := VY.out.cells; obtain ⟨e0, e1⟩ := HV.out.1; have e0 := below_cell (below_seq H3.out.1 VY.out.bel) e0; have e1 := below_cell (below_seq H3.out.1 VY.out.bel) e1; simp only [noW] at e0 e1; have le0 : 0 < w7.heap.size := World.block_lt_of_cell? _ _ e0; clear hb7 PH; have PH : Ph 3 := .mk)
            | (guard_hyp PH : Ph 1; go_at_call 13; refine (F_any _ 3 0).mono ?_; rintro r w6 ⟨rfl, hb6⟩; have VX : Hid (VF (w3.alloc (.cells #[.int .i64 0, .int .i64 0] 30)) w6 w4.heap.size w5.heap.size g7 g8 3 0 3 0 0 0 0 0) := HVF.out.grow hb6; have HX : Hid (VF (w3.alloc (.cells #[.int .i64 0, .int .i64 0] 30)) ((w6.setCell ⟨g8, 0, none⟩ (.int .i64 3)).setCell ⟨g8, 1, none⟩ (.int .i64 0)) w4.heap.size w5.heap.size g7 g8 3 0 3 0 0 0 3 0) := VX.out.set8 3 0; clear v40 v41 v50 v51 v70 v71 v80 v81 x70 x71 x80 x81 v4 v5 v7 v8; obtain ⟨⟨v40, v41, v50, v51⟩, ⟨v70, v71, v80, v81⟩, ⟨x70, x71, x80, x81⟩, v4, v5, v7, v8⟩ := VX.out.cells; obtain ⟨e0, e1⟩ := HV.out.1; have e0 := below_cell (below_seq H3.out.1 VX.out.bel) e0; have e1 := below_cell (below_seq H3.out.1 VX.out.bel) e1; simp only [noW] at e0 e1; have le0 : 0 < w6.heap.size := World.block_lt_of_cell? _ _ e0; clear hb6 PH HV1; have PH : Ph 2 := .mk))
          go_ret
          exact ⟨rfl, H9.out⟩
        · skip
          have os : outT s = true := by simp [outT, wthin]; omega
          have ok : outT k = true := by simp [outT, wthin]; omega
          have r3 := (supF_bad hzz (by first | exact .inl os | exact .inr ok)).symm.trans HQ.out.1
          have r4 := (leF_bad hzz ok).symm.trans HQ.out.2
          simp only [Prod.mk.injEq] at r3 r4
          obtain ⟨r31, r32, r33⟩ := r3
          obtain ⟨r41, r42, r43⟩ := r4
          subst r32 r33 r42 r43
          clear os ok
          subst r31 r41
          have PH : Ph 1 := .mk
          clear hn hs hzz h20
          have HV1 : Hid (∀ W, Below wc.heap.size wc W → VF (w3.alloc (.cells #[.int .i64 0, .int .i64 0] 30)) ((W.setCell ⟨g8, 0, none⟩ (.int .i64 3)).setCell ⟨g8, 1, none⟩ (.int .i64 0)) w4.heap.size w5.heap.size g7 g8 3 0 3 0 0 0 3 0) := fun W hW => (HVF.out.grow hW).set8 3 0
          go_wp2_with (first
            | (guard_hyp PH : Ph 3; go_at_call 16; have HS := HT _ l noW _ _ (by omega) (H3.out.2.below HY.out.bel) (HV.out.2.below (below_seq H3.out.1 HY.out.bel)); simp only [noW] at HS; refine HS.mono ?_; rintro r w9 ⟨rfl, hb9⟩; have H9 : Hid (Below w.heap.size w w9) := below_seq (below_seq H3.out.1 HY.out.bel) hb9; clear hb9 HS)
            | (guard_hyp PH : Ph 2; go_at_call 13; refine (F_any _ 3 0).mono ?_; rintro r w7 ⟨rfl, hb7⟩; have VY : Hid (VF (w3.alloc (.cells #[.int .i64 0, .int .i64 0] 30)) w7 w4.heap.size w5.heap.size g7 g8 3 0 3 0 0 0 3 0) := HX.out.grow hb7; have HY : Hid (VF (w3.alloc (.cells #[.int .i64 0, .int .i64 0] 30)) ((w7.setCell ⟨g7, 0, none⟩ (.int .i64 3)).setCell ⟨g7, 1, none⟩ (.int .i64 0)) w4.heap.size w5.heap.size g7 g8 3 0 3 0 3 0 3 0) := VY.out.set7 3 0; clear v40 v41 v50 v51 v70 v71 v80 v81 x70 x71 x80 x81 v4 v5 v7 v8 e0 e1 le0; obtain ⟨⟨v40, v41, v50, v51⟩, ⟨v70, v71, v80, v81⟩, ⟨x70, x71, x80, x81⟩, v4, v5, v7, v8⟩ := VY.out.cells; obtain ⟨e0, e1⟩ := HV.out.1; have e0 := below_cell (below_seq H3.out.1 VY.out.bel) e0; have e1 := below_cell (below_seq H3.out.1 VY.out.bel) e1; simp only [noW] at e0 e1; have le0 : 0 < w7.heap.size := World.block_lt_of_cell? _ _ e0; clear hb7 PH; have PH : Ph 3 := .mk)
            | (guard_hyp PH : Ph 1; go_at_call 13; refine (F_any _ 3 0).mono ?_; rintro r w6 ⟨rfl, hb6⟩; have VX : Hid (VF (w3.alloc (.cells #[.int .i64 0, .int .i64 0] 30)) w6 w4.heap.size w5.heap.size g7 g8 3 0 3 0 0 0 0 0) := HVF.out.grow hb6; have HX : Hid (VF (w3.alloc (.cells #[.int .i64 0, .int .i64 0] 30)) ((w6.setCell ⟨g8, 0, none⟩ (.int .i64 3)).setCell ⟨g8, 1, none⟩ (.int .i64 0)) w4.heap.size w5.heap.size g7 g8 3 0 3 0 0 0 3 0) := VX.out.set8 3 0; clear v40 v41 v50 v51 v70 v71 v80 v81 x70 x71 x80 x81 v4 v5 v7 v8; obtain ⟨⟨v40, v41, v50, v51⟩, ⟨v70, v71, v80, v81⟩, ⟨x70, x71, x80, x81⟩, v4, v5, v7, v8⟩ := VX.out.cells; obtain ⟨e0, e1⟩ := HV.out.1; have e0 := below_cell (below_seq H3.out.1 VX.out.bel) e0; have e1 := below_cell (below_seq H3.out.1 VX.out.bel) e1; simp only [noW] at e0 e1; have le0 : 0 < w6.heap.size := World.block_lt_of_cell? _ _ e0; clear hb6 PH HV1; have PH : Ph 2 := .mk))
          go_ret
          exact ⟨rfl, H9.out⟩
        · skip
          have os : outT s = true := by simp [outT, wthin]; omega
          have ok : outT k = false := by simp [outT, wthin]; omega
          have r3 := (supF_bad hzz (by first | exact .inl os | exact .inr ok)).symm.trans HQ.out.1
          have r4 := (leF_good hzz ok).symm.trans HQ.out.2
          simp only [Prod.mk.injEq] at r3 r4
          obtain ⟨r31, r32, r33⟩ := r3
          obtain ⟨r41, r42, r43⟩ := r4
          subst r32 r33 r42 r43
          clear os ok
          obtain ⟨kn, rfl⟩ : ∃ m : Nat, k = (m : Int) := ⟨k.toNat, by omega⟩
          obtain ⟨n', rfl⟩ : ∃ m : Nat, n = (m : Int) := ⟨n.toNat, by omega⟩
          simp only [Int.toNat_natCast] at r31 r41
          have HLn : Hid (∀ W, Below w.heap.size w W → Calls Tryd.prog 15 #[.int .i64 (n' : Int), .slice ad l.length c, .int .i64 (kn : Int)] W fun r w' => ∃ g, r = .returned (.slice (some ⟨g, 0, none⟩) (kn + 1) (kn + 1)) ∧ w'.cell? ⟨g, kn, none⟩ = some (.int .i64 q2) ∧ Below W.heap.size W w') := fun W hW => by rw [← r41]; exact Lean_q W n' kn l ad c (by omega) h20 hs (by omega) (HV.out.2.below hW)
          have hkk : (kn : Int) < (kn : Int) + 1 := by omega
          subst r31
          clear r41
          have PH : Ph 1 := .mk
          clear hn hs hzz h20
          have HV1 : Hid (∀ W, Below wc.heap.size wc W → VF (w3.alloc (.cells #[.int .i64 0, .int .i64 0] 30)) ((W.setCell ⟨g8, 0, none⟩ (.int .i64 3)).setCell ⟨g8, 1, none⟩ (.int .i64 0)) w4.heap.size w5.heap.size g7 g8 3 0 0 0 0 0 3 0) := fun W hW => (HVF.out.grow hW).set8 3 0
          go_wp2_with (first
            | (guard_hyp PH : Ph 3; go_at_call 16; have HS := HT _ l noW _ _ (by omega) (H3.out.2.below HY.out.bel) (HV.out.2.below (below_seq H3.out.1 HY.out.bel)); simp only [noW] at HS; refine HS.mono ?_; rintro r w9 ⟨rfl, hb9⟩; have H9 : Hid (Below w.heap.size w w9) := below_seq (below_seq H3.out.1 HY.out.bel) hb9; clear hb9 HS)
            | (guard_hyp PH : Ph 2; go_at_call 15; refine (HLn.out _ (below_seq H3.out.1 HX.out.bel)).mono ?_; rintro r w7 ⟨g, rfl, hgc, hb7⟩; have HY : Hid (VF (w3.alloc (.cells #[.int .i64 0, .int .i64 0] 30)) w7 w4.heap.size w5.heap.size g7 g8 3 0 0 0 0 0 3 0) := HX.out.grow hb7; clear v40 v41 v50 v51 v70 v71 v80 v81 x70 x71 x80 x81 v4 v5 v7 v8 e0 e1 le0; obtain ⟨⟨v40, v41, v50, v51⟩, ⟨v70, v71, v80, v81⟩, ⟨x70, x71, x80, x81⟩, v4, v5, v7, v8⟩ := HY.out.cells; obtain ⟨e0, e1⟩ := HV.out.1; have e0 := below_cell (below_seq H3.out.1 HY.out.bel) e0; have e1 := below_cell (below_seq H3.out.1 HY.out.bel) e1; simp only [noW] at e0 e1; have le0 : 0 < w7.heap.size := World.block_lt_of_cell? _ _ e0; clear hb7 PH; have PH : Ph 3 := .mk)
            | (guard_hyp PH : Ph 1; go_at_call 13; refine (F_any _ 3 0).mono ?_; rintro r w6 ⟨rfl, hb6⟩; have VX : Hid (VF (w3.alloc (.cells #[.int .i64 0, .int .i64 0] 30)) w6 w4.heap.size w5.heap.size g7 g8 3 0 0 0 0 0 0 0) := HVF.out.grow hb6; have HX : Hid (VF (w3.alloc (.cells #[.int .i64 0, .int .i64 0] 30)) ((w6.setCell ⟨g8, 0, none⟩ (.int .i64 3)).setCell ⟨g8, 1, none⟩ (.int .i64 0)) w4.heap.size w5.heap.size g7 g8 3 0 0 0 0 0 3 0) := VX.out.set8 3 0; clear v40 v41 v50 v51 v70 v71 v80 v81 x70 x71 x80 x81 v4 v5 v7 v8; obtain ⟨⟨v40, v41, v50, v51⟩, ⟨v70, v71, v80, v81⟩, ⟨x70, x71, x80, x81⟩, v4, v5, v7, v8⟩ := VX.out.cells; obtain ⟨e0, e1⟩ := HV.out.1; have e0 := below_cell (below_seq H3.out.1 VX.out.bel) e0; have e1 := below_cell (below_seq H3.out.1 VX.out.bel) e1; simp only [noW] at e0 e1; have le0 : 0 < w6.heap.size := World.block_lt_of_cell? _ _ e0; clear hb6 PH HV1; have PH : Ph 2 := .mk))
          go_ret
          exact ⟨rfl, H9.out⟩
        · skip
          have os : outT s = true := by simp [outT, wthin]; omega
          have ok : outT k = true := by simp [outT, wthin]; omega
          have r3 := (supF_bad hzz (by first | exact .inl os | exact .inr ok)).symm.trans HQ.out.1
          have r4 := (leF_bad hzz ok).symm.trans HQ.out.2
          simp only [Prod.mk.injEq] at r3 r4
          obtain ⟨r31, r32, r33⟩ := r3
          obtain ⟨r41, r42, r43⟩ := r4
          subst r32 r33 r42 r43
          clear os ok
          subst r31 r41
          have PH : Ph 1 := .mk
          clear hn hs hzz h20
          have HV1 : Hid (∀ W, Below wc.heap.size wc W → VF (w3.alloc (.cells #[.int .i64 0, .int .i64 0] 30)) ((W.setCell ⟨g8, 0, none⟩ (.int .i64 3)).setCell ⟨g8, 1, none⟩ (.int .i64 0)) w4.heap.size w5.heap.size g7 g8 3 0 3 0 0 0 3 0) := fun W hW => (HVF.out.grow hW).set8 3 0
          go_wp2_with (first
            | (guard_hyp PH : Ph 3; go_at_call 16; have HS := HT _ l noW _ _ (by omega) (H3.out.2.below HY.out.bel) (HV.out.2.below (below_seq H3.out.1 HY.out.bel)); simp only [noW] at HS; refine HS.mono ?_; rintro r w9 ⟨rfl, hb9⟩; have H9 : Hid (Below w.heap.size w w9) := below_seq (below_seq H3.out.1 HY.out.bel) hb9; clear hb9 HS)
            | (guard_hyp PH : Ph 2; go_at_call 13; refine (F_any _ 3 0).mono ?_; rintro r w7 ⟨rfl, hb7⟩; have VY : Hid (VF (w3.alloc (.cells #[.int .i64 0, .int .i64 0] 30)) w7 w4.heap.size w5.heap.size g7 g8 3 0 3 0 0 0 3 0) := HX.out.grow hb7; have HY : Hid (VF (w3.alloc (.cells #[.int .i64 0, .int .i64 0] 30)) ((w7.setCell ⟨g7, 0, none⟩ (.int .i64 3)).setCell ⟨g7, 1, none⟩ (.int .i64 0)) w4.heap.size w5.heap.size g7 g8 3 0 3 0 3 0 3 0) := VY.out.set7 3 0; clear v40 v41 v50 v51 v70 v71 v80 v81 x70 x71 x80 x81 v4 v5 v7 v8 e0 e1 le0; obtain ⟨⟨v40, v41, v50, v51⟩, ⟨v70, v71, v80, v81⟩, ⟨x70, x71, x80, x81⟩, v4, v5, v7, v8⟩ := VY.out.cells; obtain ⟨e0, e1⟩ := HV.out.1; have e0 := below_cell (below_seq H3.out.1 VY.out.bel) e0; have e1 := below_cell (below_seq H3.out.1 VY.out.bel) e1; simp only [noW] at e0 e1; have le0 : 0 < w7.heap.size := World.block_lt_of_cell? _ _ e0; clear hb7 PH; have PH : Ph 3 := .mk)
            | (guard_hyp PH : Ph 1; go_at_call 13; refine (F_any _ 3 0).mono ?_; rintro r w6 ⟨rfl, hb6⟩; have VX : Hid (VF (w3.alloc (.cells #[.int .i64 0, .int .i64 0] 30)) w6 w4.heap.size w5.heap.size g7 g8 3 0 3 0 0 0 0 0) := HVF.out.grow hb6; have HX : Hid (VF (w3.alloc (.cells #[.int .i64 0, .int .i64 0] 30)) ((w6.setCell ⟨g8, 0, none⟩ (.int .i64 3)).setCell ⟨g8, 1, none⟩ (.int .i64 0)) w4.heap.size w5.heap.size g7 g8 3 0 3 0 0 0 3 0) := VX.out.set8 3 0; clear v40 v41 v50 v51 v70 v71 v80 v81 x70 x71 x80 x81 v4 v5 v7 v8; obtain ⟨⟨v40, v41, v50, v51⟩, ⟨v70, v71, v80, v81⟩, ⟨x70, x71, x80, x81⟩, v4, v5, v7, v8⟩ := VX.out.cells; obtain ⟨e0, e1⟩ := HV.out.1; have e0 := below_cell (below_seq H3.out.1 VX.out.bel) e0; have e1 := below_cell (below_seq H3.out.1 VX.out.bel) e1; simp only [noW] at e0 e1; have le0 : 0 < w6.heap.size := World.block_lt_of_cell? _ _ e0; clear hb6 PH HV1; have PH : Ph 2 := .mk))
          go_ret
          exact ⟨rfl, H9.out⟩
        · skip
          have os : outT s = true := by simp [outT, wthin]; omega
          have ok : outT k = true := by simp [outT, wthin]; omega
          have r3 := (supF_bad hzz (by first | exact .inl os | exact .inr ok)).symm.trans HQ.out.1
          have r4 := (leF_bad hzz ok).symm.trans HQ.out.2
          simp only [Prod.mk.injEq] at r3 r4
          obtain ⟨r31, r32, r33⟩ := r3
          obtain ⟨r41, r42, r43⟩ := r4
          subst r32 r33 r42 r43
          clear os ok
          subst r31 r41
          have PH : Ph 1 := .mk
          clear hn hs hzz h20
          have HV1 : Hid (∀ W, Below wc.heap.size wc W → VF (w3.alloc (.cells #[.int .i64 0, .int .i64 0] 30)) ((W.setCell ⟨g8, 0, none⟩ (.int .i64 3)).setCell ⟨g8, 1, none⟩ (.int .i64 0)) w4.heap.size w5.heap.size g7 g8 3 0 3 0 0 0 3 0) := fun W hW => (HVF.out.grow hW).set8 3 0
          go_wp2_with (first
            | (guard_hyp PH : Ph 3; go_at_call 16; have HS := HT _ l noW _ _ (by omega) (H3.out.2.below HY.out.bel) (HV.out.2.below (below_seq H3.out.1 HY.out.bel)); simp only [noW] at HS; refine HS.mono ?_; rintro r w9 ⟨rfl, hb9⟩; have H9 : Hid (Below w.heap.size w w9) := below_seq (below_seq H3.out.1 HY.out.bel) hb9; clear hb9 HS)
            | (guard_hyp PH : Ph 2; go_at_call 13; refine (F_any _ 3 0).mono ?_; rintro r w7 ⟨rfl, hb7⟩; have VY : Hid (VF (w3.alloc (.cells #[.int .i64 0, .int .i64 0] 30)) w7 w4.heap.size w5.heap.size g7 g8 3 0 3 0 0 0 3 0) := HX.out.grow hb7; have HY : Hid (VF (w3.alloc (.cells #[.int .i64 0, .int .i64 0] 30)) ((w7.setCell ⟨g7, 0, none⟩ (.int .i64 3)).setCell ⟨g7, 1, none⟩ (.int .i64 0)) w4.heap.size w5.heap.size g7 g8 3 0 3 0 3 0 3 0) := VY.out.set7 3 0; clear v40 v41 v50 v51 v70 v71 v80 v81 x70 x71 x80 x81 v4 v5 v7 v8 e0 e1 le0; obtain ⟨⟨v40, v41, v50, v51⟩, ⟨v70, v71, v80, v81⟩, ⟨x70, x71, x80, x81⟩, v4, v5, v7, v8⟩ := VY.out.cells; obtain ⟨e0, e1⟩ := HV.out.1; have e0 := below_cell (below_seq H3.out.1 VY.out.bel) e0; have e1 := below_cell (below_seq H3.out.1 VY.out.bel) e1; simp only [noW] at e0 e1; have le0 : 0 < w7.heap.size := World.block_lt_of_cell? _ _ e0; clear hb7 PH; have PH : Ph 3 := .mk)
            | (guard_hyp PH : Ph 1; go_at_call 13; refine (F_any _ 3 0).mono ?_; rintro r w6 ⟨rfl, hb6⟩; have VX : Hid (VF (w3.alloc (.cells #[.int .i64 0, .int .i64 0] 30)) w6 w4.heap.size w5.heap.size g7 g8 3 0 3 0 0 0 0 0) := HVF.out.grow hb6; have HX : Hid (VF (w3.alloc (.cells #[.int .i64 0, .int .i64 0] 30)) ((w6.setCell ⟨g8, 0, none⟩ (.int .i64 3)).setCell ⟨g8, 1, none⟩ (.int .i64 0)) w4.heap.size w5.heap.size g7 g8 3 0 3 0 0 0 3 0) := VX.out.set8 3 0; clear v40 v41 v50 v51 v70 v71 v80 v81 x70 x71 x80 x81 v4 v5 v7 v8; obtain ⟨⟨v40, v41, v50, v51⟩, ⟨v70, v71, v80, v81⟩, ⟨x70, x71, x80, x81⟩, v4, v5, v7, v8⟩ := VX.out.cells; obtain ⟨e0, e1⟩ := HV.out.1; have e0 := below_cell (below_seq H3.out.1 VX.out.bel) e0; have e1 := below_cell (below_seq H3.out.1 VX.out.bel) e1; simp only [noW] at e0 e1; have le0 : 0 < w6.heap.size := World.block_lt_of_cell? _ _ e0; clear hb6 PH HV1; have PH : Ph 2 := .mk))
          go_ret
          exact ⟨rfl, H9.out⟩
        · skip
          have os : outT s = true := by simp [outT, wthin]; omega
          have ok : outT k = false := by simp [outT, wthin]; omega
          have r3 := (supF_bad hzz (by first | exact .inl os | exact .inr ok)).symm.trans HQ.out.1
          have r4 := (leF_good hzz ok).symm.trans HQ.out.2
          simp only [Prod.mk.injEq] at r3 r4
          obtain ⟨r31, r32, r33⟩ := r3
          obtain ⟨r41, r42, r43⟩ := r4
          subst r32 r33 r42 r43
          clear os ok
          obtain ⟨kn, rfl⟩ : ∃ m : Nat, k = (m : Int) := ⟨k.toNat, by omega⟩
          obtain ⟨n', rfl⟩ : ∃ m : Nat, n = (m : Int) := ⟨n.toNat, by omega⟩
          simp only [Int.toNat_natCast] at r31 r41
          have HLn : Hid (∀ W, Below w.heap.size w W → Calls Tryd.prog 15 #[.int .i64 (n' : Int), .slice ad l.length c, .int .i64 (kn : Int)] W fun r w' => ∃ g, r = .returned (.slice (some ⟨g, 0, none⟩) (kn + 1) (kn + 1)) ∧ w'.cell? ⟨g, kn, none⟩ = some (.int .i64 q2) ∧ Below W.heap.size W w') := fun W hW => by rw [← r41]; exact Lean_q W n' kn l ad c (by omega) h20 hs (by omega) (HV.out.2.below hW)
          have hkk : (kn : Int) < (kn : Int) + 1 := by omega
          subst r31
          clear r41
          have PH : Ph 1 := .mk
          clear hn hs hzz h20
          have HV1 : Hid (∀ W, Below wc.heap.size wc W → VF (w3.alloc (.cells #[.int .i64 0, .int .i64 0] 30)) ((W.setCell ⟨g8, 0, none⟩ (.int .i64 3)).setCell ⟨g8, 1, none⟩ (.int .i64 0)) w4.heap.size w5.heap.size g7 g8 3 0 0 0 0 0 3 0) := fun W hW => (HVF.out.grow hW).set8 3 0
          go_wp2_with (first
            | (guard_hyp PH : Ph 3; go_at_call 16; have HS := HT _ l noW _ _ (by omega) (H3.out.2.below HY.out.bel) (HV.out.2.below (below_seq H3.out.1 HY.out.bel)); simp only [noW] at HS; refine HS.mono ?_; rintro r w9 ⟨rfl, hb9⟩; have H9 : Hid (Below w.heap.size w w9) := below_seq (below_seq H3.out.1 HY.out.bel) hb9; clear hb9 HS)
            | (guard_hyp PH : Ph 2; go_at_call 15; refine (HLn.out _ (below_seq H3.out.1 HX.out.bel)).mono ?_; rintro r w7 ⟨g, rfl, hgc, hb7⟩; have HY : Hid (VF (w3.alloc (.cells #[.int .i64 0, .int .i64 0] 30)) w7 w4.heap.size w5.heap.size g7 g8 3 0 0 0 0 0 3 0) := HX.out.grow hb7; clear v40 v41 v50 v51 v70 v71 v80 v81 x70 x71 x80 x81 v4 v5 v7 v8 e0 e1 le0; obtain ⟨⟨v40, v41, v50, v51⟩, ⟨v70, v71, v80, v81⟩, ⟨x70, x71, x80, x81⟩, v4, v5, v7, v8⟩ := HY.out.cells; obtain ⟨e0, e1⟩ := HV.out.1; have e0 := below_cell (below_seq H3.out.1 HY.out.bel) e0; have e1 := below_cell (below_seq H3.out.1 HY.out.bel) e1; simp only [noW] at e0 e1; have le0 : 0 < w7.heap.size := World.block_lt_of_cell? _ _ e0; clear hb7 PH; have PH : Ph 3 := .mk)
            | (guard_hyp PH : Ph 1; go_at_call 13; refine (F_any _ 3 0).mono ?_; rintro r w6 ⟨rfl, hb6⟩; have VX : Hid (VF (w3.alloc (.cells #[.int .i64 0, .int .i64 0] 30)) w6 w4.heap.size w5.heap.size g7 g8 3 0 0 0 0 0 0 0) := HVF.out.grow hb6; have HX : Hid (VF (w3.alloc (.cells #[.int .i64 0, .int .i64 0] 30)) ((w6.setCell ⟨g8, 0, none⟩ (.int .i64 3)).setCell ⟨g8, 1, none⟩ (.int .i64 0)) w4.heap.size w5.heap.size g7 g8 3 0 0 0 0 0 3 0) := VX.out.set8 3 0; clear v40 v41 v50 v51 v70 v71 v80 v81 x70 x71 x80 x81 v4 v5 v7 v8; obtain ⟨⟨v40, v41, v50, v51⟩, ⟨v70, v71, v80, v81⟩, ⟨x70, x71, x80, x81⟩, v4, v5, v7, v8⟩ := VX.out.cells; obtain ⟨e0, e1⟩ := HV.out.1; have e0 := below_cell (below_seq H3.out.1 VX.out.bel) e0; have e1 := below_cell (below_seq H3.out.1 VX.out.bel) e1; simp only [noW] at e0 e1; have le0 : 0 < w6.heap.size := World.block_lt_of_cell? _ _ e0; clear hb6 PH HV1; have PH : Ph 2 := .mk))
          go_ret
          exact ⟨rfl, H9.out⟩
        · skip
          have os : outT s = false := by simp [outT, wthin]; omega
          have ok : outT k = true := by simp [outT, wthin]; omega
          have r3 := (supF_bad hzz (by first | exact .inl os | exact .inr ok)).symm.trans HQ.out.1
          have r4 := (leF_bad hzz ok).symm.trans HQ.out.2
          simp only [Prod.mk.injEq] at r3 r4
          obtain ⟨r31, r32, r33⟩ := r3
          obtain ⟨r41, r42, r43⟩ := r4
          subst r32 r33 r42 r43
          clear os ok
          subst r31 r41
          have PH : Ph 1 := .mk
          clear hn hs hzz h20
          have HV1 : Hid (∀ W, Below wc.heap.size wc W → VF (w3.alloc (.cells #[.int .i64 0, .int .i64 0] 30)) ((W.setCell ⟨g8, 0, none⟩ (.int .i64 3)).setCell ⟨g8, 1, none⟩ (.int .i64 0)) w4.heap.size w5.heap.size g7 g8 3 0 3 0 0 0 3 0) := fun W hW => (HVF.out.grow hW).set8 3 0
          go_wp2_with (first
            | (guard_hyp PH : Ph 3; go_at_call 16; have HS := HT _ l noW _ _ (by omega) (H3.out.2.below HY.out.bel) (HV.out.2.below (below_seq H3.out.1 HY.out.bel)); simp only [noW] at HS; refine HS.mono ?_; rintro r w9 ⟨rfl, hb9⟩; have H9 : Hid (Below w.heap.size w w9) := below_seq (below_seq H3.out.1 HY.out.bel) hb9; clear hb9 HS)
            | (guard_hyp PH : Ph 2; go_at_call 13; refine (F_any _ 3 0).mono ?_; rintro r w7 ⟨rfl, hb7⟩; have VY : Hid (VF (w3.alloc (.cells #[.int .i64 0, .int .i64 0] 30)) w7 w4.heap.size w5.heap.size g7 g8 3 0 3 0 0 0 3 0) := HX.out.grow hb7; have HY : Hid (VF (w3.alloc (.cells #[.int .i64 0, .int .i64 0] 30)) ((w7.setCell ⟨g7, 0, none⟩ (.int .i64 3)).setCell ⟨g7, 1, none⟩ (.int .i64 0)) w4.heap.size w5.heap.size g7 g8 3 0 3 0 3 0 3 0) := VY.out.set7 3 0; clear v40 v41 v50 v51 v70 v71 v80 v81 x70 x71 x80 x81 v4 v5 v7 v8 e0 e1 le0; obtain ⟨⟨v40, v41, v50, v51⟩, ⟨v70, v71, v80, v81⟩, ⟨x70, x71, x80, x81⟩, v4, v5, v7, v8⟩ := VY.out.cells; obtain ⟨e0, e1⟩ := HV.out.1; have e0 := below_cell (below_seq H3.out.1 VY.out.bel) e0; have e1 := below_cell (below_seq H3.out.1 VY.out.bel) e1; simp only [noW] at e0 e1; have le0 : 0 < w7.heap.size := World.block_lt_of_cell? _ _ e0; clear hb7 PH; have PH : Ph 3 := .mk)
            | (guard_hyp PH : Ph 1; go_at_call 13; refine (F_any _ 3 0).mono ?_; rintro r w6 ⟨rfl, hb6⟩; have VX : Hid (VF (w3.alloc (.cells #[.int .i64 0, .int .i64 0] 30)) w6 w4.heap.size w5.heap.size g7 g8 3 0 3 0 0 0 0 0) := HVF.out.grow hb6; have HX : Hid (VF (w3.alloc (.cells #[.int .i64 0, .int .i64 0] 30)) ((w6.setCell ⟨g8, 0, none⟩ (.int .i64 3)).setCell ⟨g8, 1, none⟩ (.int .i64 0)) w4.heap.size w5.heap.size g7 g8 3 0 3 0 0 0 3 0) := VX.out.set8 3 0; clear v40 v41 v50 v51 v70 v71 v80 v81 x70 x71 x80 x81 v4 v5 v7 v8; obtain ⟨⟨v40, v41, v50, v51⟩, ⟨v70, v71, v80, v81⟩, ⟨x70, x71, x80, x81⟩, v4, v5, v7, v8⟩ := VX.out.cells; obtain ⟨e0, e1⟩ := HV.out.1; have e0 := below_cell (below_seq H3.out.1 VX.out.bel) e0; have e1 := below_cell (below_seq H3.out.1 VX.out.bel) e1; simp only [noW] at e0 e1; have le0 : 0 < w6.heap.size := World.block_lt_of_cell? _ _ e0; clear hb6 PH HV1; have PH : Ph 2 := .mk))
          go_ret
          exact ⟨rfl, H9.out⟩
        · skip
          have os : outT s = false := by simp [outT, wthin]; omega
          have ok : outT k = true := by simp [outT, wthin]; omega
          have r3 := (supF_bad hzz (by first | exact .inl os | exact .inr ok)).symm.trans HQ.out.1
          have r4 := (leF_bad hzz ok).symm.trans HQ.out.2
          simp only [Prod.mk.injEq] at r3 r4
          obtain ⟨r31, r32, r33⟩ := r3
          obtain ⟨r41, r42, r43⟩ := r4
          subst r32 r33 r42 r43
          clear os ok
          subst r31 r41
          have PH : Ph 1 := .mk
          clear hn hs hzz h20
          have HV1 : Hid (∀ W, Below wc.heap.size wc W → VF (w3.alloc (.cells #[.int .i64 0, .int .i64 0] 30)) ((W.setCell ⟨g8, 0, none⟩ (.int .i64 3)).setCell ⟨g8, 1, none⟩ (.int .i64 0)) w4.heap.size w5.heap.size g7 g8 3 0 3 0 0 0 3 0) := fun W hW => (HVF.out.grow hW).set8 3 0
          go_wp2_with (first
            | (guard_hyp PH : Ph 3; go_at_call 16; have HS := HT _ l noW _ _ (by omega) (H3.out.2.below HY.out.bel) (HV.out.2.below (below_seq H3.out.1 HY.out.bel)); simp only [noW] at HS; refine HS.mono ?_; rintro r w9 ⟨rfl, hb9⟩; have H9 : Hid (Below w.heap.size w w9) := below_seq (below_seq H3.out.1 HY.out.bel) hb9; clear hb9 HS)
            | (guard_hyp PH : Ph 2; go_at_call 13; refine (F_any _ 3 0).mono ?_; rintro r w7 ⟨rfl, hb7⟩; have VY : Hid (VF (w3.alloc (.cells #[.int .i64 0, .int .i64 0] 30)) w7 w4.heap.size w5.heap.size g7 g8 3 0 3 0 0 0 3 0) := HX.out.grow hb7; have HY : Hid (VF (w3.alloc (.cells #[.int .i64 0, .int .i64 0] 30)) ((w7.setCell ⟨g7, 0, none⟩ (.int .i64 3)).setCell ⟨g7, 1, none⟩ (.int .i64 0)) w4.heap.size w5.heap.size g7 g8 3 0 3 0 3 0 3 0) := VY.out.set7 3 0; clear v40 v41 v50 v51 v70 v71 v80 v81 x70 x71 x80 x81 v4 v5 v7 v8 e0 e1 le0; obtain ⟨⟨v40, v41, v50, v51⟩, ⟨v70, v71, v80, v81⟩, ⟨x70, x71, x80, x81⟩, v4, v5, v7, v8⟩ := VY.out.cells; obtain ⟨e0, e1⟩ := HV.out.1; have e0 := below_cell (below_seq H3.out.1 VY.out.bel) e0; have e1 := below_cell (below_seq H3.out.1 VY.out.bel) e1; simp only [noW] at e0 e1; have le0 : 0 < w7.heap.size := World.block_lt_of_cell? _ _ e0; clear hb7 PH; have PH : Ph 3 := .mk)
            | (guard_hyp PH : Ph 1; go_at_call 13; refine (F_any _ 3 0).mono ?_; rintro r w6 ⟨rfl, hb6⟩; have VX : Hid (VF (w3.alloc (.cells #[.int .i64 0, .int .i64 0] 30)) w6 w4.heap.size w5.heap.size g7 g8 3 0 3 0 0 0 0 0) := HVF.out.grow hb6; have HX : Hid (VF (w3.alloc (.cells #[.int .i64 0, .int .i64 0] 30)) ((w6.setCell ⟨g8, 0, none⟩ (.int .i64 3)).setCell ⟨g8, 1, none⟩ (.int .i64 0)) w4.heap.size w5.heap.size g7 g8 3 0 3 0 0 0 3 0) := VX.out.set8 3 0; clear v40 v41 v50 v51 v70 v71 v80 v81 x70 x71 x80 x81 v4 v5 v7 v8; obtain ⟨⟨v40, v41, v50, v51⟩, ⟨v70, v71, v80, v81⟩, ⟨x70, x71, x80, x81⟩, v4, v5, v7, v8⟩ := VX.out.cells; obtain ⟨e0, e1⟩ := HV.out.1; have e0 := below_cell (below_seq H3.out.1 VX.out.bel) e0; have e1 := below_cell (below_seq H3.out.1 VX.out.bel) e1; simp only [noW] at e0 e1; have le0 : 0 < w6.heap.size := World.block_lt_of_cell? _ _ e0; clear hb6 PH HV1; have PH : Ph 2 := .mk))
          go_ret
          exact ⟨rfl, H9.out⟩
        · skip
          have os : outT s = false := by simp [outT, wthin]; omega
          have ok : outT k = false := by simp [outT, wthin]; omega
          have r3 := (supF_good hzz os ok).symm.trans HQ.out.1
          have r4 := (leF_good hzz ok).symm.trans HQ.out.2
          simp only [Prod.mk.injEq] at r3 r4
          obtain ⟨r31, r32, r33⟩ := r3
          obtain ⟨r41, r42, r43⟩ := r4
          subst r32 r33 r42 r43
          clear os ok
          obtain ⟨kn, rfl⟩ : ∃ m : Nat, k = (m : Int) := ⟨k.toNat, by omega⟩
          obtain ⟨n', rfl⟩ : ∃ m : Nat, n = (m : Int) := ⟨n.toNat, by omega⟩
          obtain ⟨sn, rfl⟩ : ∃ m : Nat, s = (m : Int) := ⟨s.toNat, by omega⟩
          simp only [Int.toNat_natCast] at r31 r41
          have HLn : Hid (∀ W, Below w.heap.size w W → Calls Tryd.prog 15 #[.int .i64 (n' : Int), .slice ad l.length c, .int .i64 (kn : Int)] W fun r w' => ∃ g, r = .returned (.slice (some ⟨g, 0, none⟩) (kn + 1) (kn + 1)) ∧ w'.cell? ⟨g, kn, none⟩ = some (.int .i64 q2) ∧ Below W.heap.size W w') := fun W hW => by rw [← r41]; exact Lean_q W n' kn l ad c (by omega) h20 hs (by omega) (HV.out.2.below hW)
          have hkk : (kn : Int) < (kn : Int) + 1 := by omega
          have HSo : Hid (∀ W, Below w.heap.size w W → Calls Tryd.prog 14 #[.int .i64 (n' : Int), .slice ad l.length c, .int .i64 (sn : Int), .int .i64 (kn : Int)] W fun r w' => r = .returned (.int .i64 q1) ∧ Below W.heap.size W w') := fun W hW => by rw [← r31]; exact SupplyOf_any W n' sn kn l ad c (by omega) h20 hs (by omega) (HV.out.2.below hW)
          clear r31 r41
          have PH : Ph 1 := .mk
          clear hn hs hzz h20
          go_wp2_with (first
            | (guard_hyp PH : Ph 3; go_at_call 16; have HS := HT _ l noW _ _ (by omega) (H3.out.2.below HY.out.bel) (HV.out.2.below (below_seq H3.out.1 HY.out.bel)); simp only [noW] at HS; refine HS.mono ?_; rintro r w9 ⟨rfl, hb9⟩; have H9 : Hid (Below w.heap.size w w9) := below_seq (below_seq H3.out.1 HY.out.bel) hb9; clear hb9 HS)
            | (guard_hyp PH : Ph 2; go_at_call 15; refine (HLn.out _ (below_seq H3.out.1 HX.out.bel)).mono ?_; rintro r w7 ⟨g, rfl, hgc, hb7⟩; have HY : Hid (VF (w3.alloc (.cells #[.int .i64 0, .int .i64 0] 30)) w7 w4.heap.size w5.heap.size g7 g8 0 0 0 0 0 0 0 0) := HX.out.grow hb7; clear v40 v41 v50 v51 v70 v71 v80 v81 x70 x71 x80 x81 v4 v5 v7 v8 e0 e1 le0; obtain ⟨⟨v40, v41, v50, v51⟩, ⟨v70, v71, v80, v81⟩, ⟨x70, x71, x80, x81⟩, v4, v5, v7, v8⟩ := HY.out.cells; obtain ⟨e0, e1⟩ := HV.out.1; have e0 := below_cell (below_seq H3.out.1 HY.out.bel) e0; have e1 := below_cell (below_seq H3.out.1 HY.out.bel) e1; simp only [noW] at e0 e1; have le0 : 0 < w7.heap.size := World.block_lt_of_cell? _ _ e0; clear hb7 PH; have PH : Ph 3 := .mk)
            | (guard_hyp PH : Ph 1; go_at_call 14; refine (HSo.out _ (below_seq H3.out.1 HVF.out.bel)).mono ?_; rintro r w6 ⟨rfl, hb6⟩; have HX : Hid (VF (w3.alloc (.cells #[.int .i64 0, .int .i64 0] 30)) w6 w4.heap.size w5.heap.size g7 g8 0 0 0 0 0 0 0 0) := HVF.out.grow hb6; clear v40 v41 v50 v51 v70 v71 v80 v81 x70 x71 x80 x81 v4 v5 v7 v8; obtain ⟨⟨v40, v41, v50, v51⟩, ⟨v70, v71, v80, v81⟩, ⟨x70, x71, x80, x81⟩, v4, v5, v7, v8⟩ := HX.out.cells; obtain ⟨e0, e1⟩ := HV.out.1; have e0 := below_cell (below_seq H3.out.1 HX.out.bel) e0; have e1 := below_cell (below_seq H3.out.1 HX.out.bel) e1; simp only [noW] at e0 e1; have le0 : 0 < w6.heap.size := World.block_lt_of_cell? _ _ e0; clear hb6 PH; have PH : Ph 2 := .mk))
          go_ret
          exact ⟨rfl, H9.out⟩
end Go.Proofs.YtnkgbkkakokciaiDoor
