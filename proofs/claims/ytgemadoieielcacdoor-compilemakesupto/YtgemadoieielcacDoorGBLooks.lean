import Derived.Test.YtgemadoieielcacDoorGCD
namespace Go.Proofs.YtgemadoieielcacDoor.B
open Go.ChangeShapes Go.WideShapes Go.ChangeAt Go.RowKit

set_option maxHeartbeats 1000000 in
theorem expr1_any (e : Ex) (k n : Int) (ad : Option Addr) (m ca p : Nat) (w : World) (hN : e.nodes ≤ 1048576) (hfm : FormsIn w) (hin : e.In w (.agg #[.int .i64 k, .int .i64 n, .slice ad m ca]))
    (h0 : w.cell? ⟨p, 0, none⟩ = some (.int .i64 k)) (h1 : w.cell? ⟨p, 1, none⟩ = some (.int .i64 n)) (h2 : w.cell? ⟨p, 2, none⟩ = some (.slice ad m ca)) :
    Calls Tryd.prog 154 #[.pointer (some ⟨p, 0, none⟩)] w fun r w' => r = .returned (.int .i64 (e.node 0).1) ∧ Below w.heap.size w w' := by
  have h1s : 5 < w.heap.size := World.block_lt_of_cell? _ _ (hfm 1 (by omega) (by omega)).1
  have hp : p < w.heap.size := World.block_lt_of_cell? _ _ h0
  have HH : Hid (_ ∧ _) := ⟨hfm, hin⟩
  clear hfm hin
  go_enter Tryd.func154, Tryd.ntmps154
  go_wp2_with (first
    | (go_at_call 155; refine (node_any _ e _ _ w.heap.size 0 (Nat.lt_succ_self _) (by omega) (by omega) (by omega) ?q1 ?q2 ?q3).mono ?_; rotate_left 3; rintro r w' ⟨rfl, hq', hb'⟩; have HB : Hid _ := hb'; clear hq' hb'))
  case q1 => exact heap_alloc_new w _
  case q2 => exact HH.out.1.but (by omega) (But.of_below (q := w.heap.size) ((Below.refl _ _).alloc (Nat.le_refl _) _))
  case q3 => exact HH.out.2.old.move fun b hb _ => ⟨by omega, Below.heap_alloc _ _ _ hb⟩
  go_ret
  refine ⟨rfl, ?_⟩
  have hb := HB.out
  exact ⟨hb.os, hb.tape, hb.output, by have := hb.size; simp at this; omega, fun k hk => (hb.block k (by simp; omega) (by omega)).trans (Below.heap_alloc _ _ _ hk)⟩

theorem ent39 (cp : Array Value) (w : World) : (callFunc 154 cp).run Tryd.prog w = .ok (.enter 154 cp) w := run_enter Tryd.func154 (by kernel_rfl) (by kernel_rfl) cp w
theorem ent38 (cp : Array Value) (w : World) : (callFunc 153 cp).run Tryd.prog w = .ok (.enter 153 cp) w := run_enter Tryd.func153 (by kernel_rfl) (by kernel_rfl) cp w
theorem ent41 (cp : Array Value) (w : World) : (callFunc 156 cp).run Tryd.prog w = .ok (.enter 156 cp) w := run_enter Tryd.func156 (by kernel_rfl) (by kernel_rfl) cp w

def condErr (ck : Int) (ca cb : Ex) : Int := if ck < 1 ∨ 4 < ck then 6 else if (ca.node 0).1 ≠ 0 then (ca.node 0).1 else (cb.node 0).1

theorem FormsIn.below {w w' : World} (h : FormsIn w) (hb : Below w.heap.size w w') : FormsIn w' := fun m h1 h2 => ⟨below_cell hb (h m h1 h2).1, below_cell hb (h m h1 h2).2⟩

def condR (b : Bool) (ca cb : Ex) : Int := if b = false then 6 else if (ca.node 0).1 ≠ 0 then (ca.node 0).1 else (cb.node 0).1

/-- The three looks of a condition. -/
theorem cond_looks (W : World) (g p1 p2 p3 p4 cap : Nat) (b : Bool) (ak an bk bn : Int) (aad bad : Option Addr) (am ac bm bc : Nat) (ca cb : Ex) (hN : ca.nodes ≤ 1048576 ∧ cb.nodes ≤ 1048576) (hfm : FormsIn W)
    (hca : ca.In W (.agg #[.int .i64 ak, .int .i64 an, .slice aad am ac])) (hcb : cb.In W (.agg #[.int .i64 bk, .int .i64 bn, .slice bad bm bc]))
    (g0 : W.cell? ⟨g, 0, none⟩ = some (.func (.func 151) #[] #[.pointer (some ⟨p1, 0, none⟩), .pointer (some ⟨p2, 0, none⟩)])) (g1 : W.cell? ⟨g, 1, none⟩ = some (.func (.func 154) #[] #[.pointer (some ⟨p3, 0, none⟩)])) (g2 : W.cell? ⟨g, 2, none⟩ = some (.func (.func 154) #[] #[.pointer (some ⟨p4, 0, none⟩)]))
    (c1 : W.cell? ⟨p1, 0, none⟩ = some (.bool b)) (c2 : W.cell? ⟨p2, 0, none⟩ = some (.int .i64 6))
    (c3 : W.cell? ⟨p3, 0, none⟩ = some (.int .i64 ak)) (c4 : W.cell? ⟨p3, 1, none⟩ = some (.int .i64 an)) (c5 : W.cell? ⟨p3, 2, none⟩ = some (.slice aad am ac))
    (c6 : W.cell? ⟨p4, 0, none⟩ = some (.int .i64 bk)) (c7 : W.cell? ⟨p4, 1, none⟩ = some (.int .i64 bn)) (c8 : W.cell? ⟨p4, 2, none⟩ = some (.slice bad bm bc)) :
    Calls Tryd.prog 136 #[.slice (some ⟨g, 0, none⟩) 3 cap] W fun e w' => e = .returned (.int .i64 (condR b ca cb)) ∧ Below W.heap.size W w' := by
  refine (first_any 3 (by omega) g cap (fun i => if i = 0 then 151 else 154) (fun i => if i = 0 then #[.pointer (some ⟨p1, 0, none⟩), .pointer (some ⟨p2, 0, none⟩)] else if i = 1 then #[.pointer (some ⟨p3, 0, none⟩)] else #[.pointer (some ⟨p4, 0, none⟩)])
    (fun i w => Below W.heap.size W w ∧ (0 < i → b = true) ∧ (1 < i → (ca.node 0).1 = 0) ∧ (2 < i → (cb.node 0).1 = 0))
    (fun c w => Below W.heap.size W w ∧ c = (condR b ca cb)) ?_ ?_ ?_ W ⟨Below.refl _ _, by omega, by omega, by omega⟩).mono ?_
  · intro i hi w hP
    match i, hi with
    | 0, _ => exact below_cell hP.1 g0
    | 1, _ => exact below_cell hP.1 g1
    | 2, _ => exact below_cell hP.1 g2
  · intro i hi w ⟨hP, h1, h2, h3⟩
    match i, hi with
    | 0, _ =>
      refine (needs1_any p1 p2 b 6 w (below_cell hP c1) (below_cell hP c2)).mono ?_
      rintro e w' ⟨rfl, rfl⟩
      refine ⟨_, rfl, ?_⟩
      cases b
      · exact .inr ⟨by simp, hP, by simp [condR]⟩
      · exact .inl ⟨by simp, hP, fun _ => rfl, by omega, by omega⟩
    | 1, _ =>
      have hb := h1 (by omega)
      subst hb
      refine (expr1_any ca ak an aad am ac p3 w hN.1 (hfm.below hP) (Ex.In.below hP _ hca) (below_cell hP c3) (below_cell hP c4) (below_cell hP c5)).mono ?_
      rintro e w' ⟨rfl, hb'⟩
      refine ⟨_, rfl, ?_⟩
      by_cases h0 : (ca.node 0).1 = 0
      · exact .inl ⟨h0, below_seq hP hb', fun _ => rfl, fun _ => h0, by omega⟩
      · exact .inr ⟨h0, below_seq hP hb', by simp [condR, h0]⟩
    | 2, _ =>
      have hb := h1 (by omega)
      have ha := h2 (by omega)
      subst hb
      refine (expr1_any cb bk bn bad bm bc p4 w hN.2 (hfm.below hP) (Ex.In.below hP _ hcb) (below_cell hP c6) (below_cell hP c7) (below_cell hP c8)).mono ?_
      rintro e w' ⟨rfl, hb'⟩
      refine ⟨_, rfl, ?_⟩
      by_cases h0 : (cb.node 0).1 = 0
      · exact .inl ⟨h0, below_seq hP hb', fun _ => rfl, fun _ => ha, fun _ => h0⟩
      · exact .inr ⟨h0, below_seq hP hb', by simp [condR, ha]⟩
  · intro i hi cp w
    match i, hi with
    | 0, _ => exact ent36 cp w
    | 1, _ => exact ent39 cp w
    | 2, _ => exact ent39 cp w
  · rintro e w' ⟨c, rfl, h⟩
    rcases h with ⟨rfl, hP, h1, h2, h3⟩ | ⟨_, hP, rfl⟩
    · have e1 := h1 (by omega)
      have e2 := h2 (by omega)
      have e3 := h3 (by omega)
      exact ⟨ret_int (by simp [condR, e1, e2, e3]), hP⟩
    · exact ⟨rfl, hP⟩

theorem keep_alloc8 {w X : World} {o : Obj} {p : Nat} {x0 x1 x2 x3 x4 x5 x6 : Value} (h : Below w.heap.size w X ∧ X.cell? ⟨p, 0, none⟩ = some x0 ∧ X.cell? ⟨p, 1, none⟩ = some x1 ∧ X.cell? ⟨p, 2, none⟩ = some x2 ∧ X.cell? ⟨p, 3, none⟩ = some x3 ∧ X.cell? ⟨p, 4, none⟩ = some x4 ∧ X.cell? ⟨p, 5, none⟩ = some x5 ∧ X.cell? ⟨p, 6, none⟩ = some x6) :
    Below w.heap.size w (X.alloc o) ∧ (X.alloc o).cell? ⟨p, 0, none⟩ = some x0 ∧ (X.alloc o).cell? ⟨p, 1, none⟩ = some x1 ∧ (X.alloc o).cell? ⟨p, 2, none⟩ = some x2 ∧ (X.alloc o).cell? ⟨p, 3, none⟩ = some x3 ∧ (X.alloc o).cell? ⟨p, 4, none⟩ = some x4 ∧ (X.alloc o).cell? ⟨p, 5, none⟩ = some x5 ∧ (X.alloc o).cell? ⟨p, 6, none⟩ = some x6 := by
  have hb : Below X.heap.size X (X.alloc o) := (Below.refl _ _).alloc (Nat.le_refl _) o
  exact ⟨h.1.alloc h.1.size o, below_cell hb h.2.1, below_cell hb h.2.2.1, below_cell hb h.2.2.2.1, below_cell hb h.2.2.2.2.1, below_cell hb h.2.2.2.2.2.1, below_cell hb h.2.2.2.2.2.2.1, below_cell hb h.2.2.2.2.2.2.2⟩

theorem keep_below8 {w X Y : World} {p : Nat} {x0 x1 x2 x3 x4 x5 x6 : Value} (h : Below w.heap.size w X ∧ X.cell? ⟨p, 0, none⟩ = some x0 ∧ X.cell? ⟨p, 1, none⟩ = some x1 ∧ X.cell? ⟨p, 2, none⟩ = some x2 ∧ X.cell? ⟨p, 3, none⟩ = some x3 ∧ X.cell? ⟨p, 4, none⟩ = some x4 ∧ X.cell? ⟨p, 5, none⟩ = some x5 ∧ X.cell? ⟨p, 6, none⟩ = some x6) (hb : Below X.heap.size X Y) :
    Below w.heap.size w Y ∧ Y.cell? ⟨p, 0, none⟩ = some x0 ∧ Y.cell? ⟨p, 1, none⟩ = some x1 ∧ Y.cell? ⟨p, 2, none⟩ = some x2 ∧ Y.cell? ⟨p, 3, none⟩ = some x3 ∧ Y.cell? ⟨p, 4, none⟩ = some x4 ∧ Y.cell? ⟨p, 5, none⟩ = some x5 ∧ Y.cell? ⟨p, 6, none⟩ = some x6 :=
  ⟨below_seq h.1 hb, below_cell hb h.2.1, below_cell hb h.2.2.1, below_cell hb h.2.2.2.1, below_cell hb h.2.2.2.2.1, below_cell hb h.2.2.2.2.2.1, below_cell hb h.2.2.2.2.2.2.1, below_cell hb h.2.2.2.2.2.2.2⟩

/-- One operation of a region that is taken first, its slot written out. -/
theorem take_at {P : Program} {md : Region.Mode} {ops : Array Oper} {Q : Exit → Act → World → Prop} {S : World → Prop} {i n : Nat} {oi : Oper} {v : Value} {fuel : Nat} {listed : Array Bool} {l : List Value} {ds : List Deferred} {w : World}
    (hi : ops[i]? = some oi) (hd : oi.dst = some n) (hs : Region.noSelect ops = true) (hf : Region.free md ops listed i = true) (hr : (Region.ready md ops listed).contains i = true)
    (hQ : ∀ c a w, Q (.panic c) (a.put oi.dst v) w → Q (.panic c) a w) (hy : YieldsIf P ops S oi v ⟨l.toArray, ds⟩) (hS : S w)
    (h : wpAnyH P md ops Q S fuel (listed.setIfInBounds i true) ⟨(l.set n v).toArray, ds⟩ w) : wpAnyH P md ops Q S (fuel + 1) listed ⟨l.toArray, ds⟩ w := by
  refine wpAnyH_take hi hs hf hr hQ hy hS ?_
  have e : Act.put ⟨l.toArray, ds⟩ oi.dst v = ⟨(l.set n v).toArray, ds⟩ := by rw [hd]; simp [Act.put]
  rw [e]
  exact h

set_option maxRecDepth 20000 in
set_option maxHeartbeats 2000000 in
theorem cond1_any (ck ak an bk bn : Int) (aad bad : Option Addr) (am ac bm bc p : Nat) (ca cb : Ex) (w : World) (hN : ca.nodes ≤ 1048576 ∧ cb.nodes ≤ 1048576) (hfm : FormsIn w)
    (hca : ca.In w (.agg #[.int .i64 ak, .int .i64 an, .slice aad am ac])) (hcb : cb.In w (.agg #[.int .i64 bk, .int .i64 bn, .slice bad bm bc]))
    (h0 : w.cell? ⟨p, 0, none⟩ = some (.int .i64 ck)) (h1 : w.cell? ⟨p, 1, none⟩ = some (.int .i64 ak)) (h2 : w.cell? ⟨p, 2, none⟩ = some (.int .i64 an)) (h3 : w.cell? ⟨p, 3, none⟩ = some (.slice aad am ac))
    (h4 : w.cell? ⟨p, 4, none⟩ = some (.int .i64 bk)) (h5 : w.cell? ⟨p, 5, none⟩ = some (.int .i64 bn)) (h6 : w.cell? ⟨p, 6, none⟩ = some (.slice bad bm bc)) :
    Calls Tryd.prog 156 #[.pointer (some ⟨p, 0, none⟩)] w fun r w' => r = .returned (.int .i64 (condErr ck ca cb)) ∧ Below w.heap.size w w' := by
  have HH : Hid (_ ∧ _ ∧ _) := ⟨hfm, hca, hcb⟩
  clear hfm hca hcb
  have hp : p < w.heap.size := World.block_lt_of_cell? _ _ h0
  by_cases hg : 1 ≤ ck
  · have hd : decide (1 ≤ ck) = true := decide_eq_true hg
    go_enter Tryd.func156, Tryd.ntmps156
    go_wp2_with fail
    go_region_held3 (fun w' => Below w.heap.size w w' ∧ w'.cell? ⟨p, 0, none⟩ = some (.int .i64 ck) ∧ w'.cell? ⟨p, 1, none⟩ = some (.int .i64 ak) ∧ w'.cell? ⟨p, 2, none⟩ = some (.int .i64 an) ∧ w'.cell? ⟨p, 3, none⟩ = some (.slice aad am ac) ∧ w'.cell? ⟨p, 4, none⟩ = some (.int .i64 bk) ∧ w'.cell? ⟨p, 5, none⟩ = some (.int .i64 bn) ∧ w'.cell? ⟨p, 6, none⟩ = some (.slice bad bm bc))
      (first | assumption | exact ⟨(Below.refl _ _).drew, h0, h1, h2, h3, h4, h5, h6⟩ | exact keep_alloc8 ‹Below w.heap.size w _ ∧ _› | exact keep_alloc8 (keep_alloc8 ‹Below w.heap.size w _ ∧ _›))
      (first
        | (go_at_call 137; refine (needs_any _ _ _).mono ?_; rintro r w1 ⟨rfl, rfl⟩)
        | (go_at_call_of 140 ak; refine (expr_any _ _ _ _ _ _).mono ?_; rintro r w1 ⟨rfl, rfl⟩)
        | (go_at_call_of 140 bk; refine (expr_any _ _ _ _ _ _).mono ?_; rintro r w1 ⟨rfl, rfl⟩)
        | (go_at_call 136; refine (cond_looks _ _ w.heap.size (w.heap.size + 1) (w.heap.size + 1 + 1) (w.heap.size + 1 + 1 + 1) _ (decide (ck ≤ 4)) ak an bk bn aad bad am ac bm bc ca cb hN (HH.out.1.below (And.left ‹Below w.heap.size w _ ∧ _›)) (Ex.In.below (And.left ‹Below w.heap.size w _ ∧ _›) _ HH.out.2.1) (Ex.In.below (And.left ‹Below w.heap.size w _ ∧ _›) _ HH.out.2.2) (by simp [go_sem]) (by simp [go_sem]) (by simp [go_sem]) (by simp [go_sem]) (by simp [go_sem]) (by simp [go_sem]) (by simp [go_sem]) (by simp [go_sem]) (by simp [go_sem]) (by simp [go_sem]) (by simp [go_sem])).mono ?_; rintro r w9 ⟨rfl, hb9⟩; have hS9 := keep_below8 ‹Below w.heap.size w _ ∧ _› hb9; clear hb9))
    all_goals
      go_wp2_with fail
      go_ret
      refine ⟨ret_int ?_, And.left ‹Below w.heap.size w _ ∧ _›⟩
      unfold condErr condR
      by_cases h4' : ck ≤ 4
      · rw [if_neg (by simpa using h4'), if_neg (show ¬ (ck < 1 ∨ 4 < ck) by omega)]
      · rw [if_pos (by simpa using h4'), if_pos (show ck < 1 ∨ 4 < ck by omega)]
  · have hd : decide (1 ≤ ck) = false := decide_eq_false hg
    have HG : Hid (¬ 1 ≤ ck) := hg
    clear hg
    go_enter Tryd.func156, Tryd.ntmps156
    go_wp2_with fail
    refine wp_region_held_drew (S := (fun w' => Below w.heap.size w w' ∧ w'.cell? ⟨p, 0, none⟩ = some (.int .i64 ck) ∧ w'.cell? ⟨p, 1, none⟩ = some (.int .i64 ak) ∧ w'.cell? ⟨p, 2, none⟩ = some (.int .i64 an) ∧ w'.cell? ⟨p, 3, none⟩ = some (.slice aad am ac) ∧ w'.cell? ⟨p, 4, none⟩ = some (.int .i64 bk) ∧ w'.cell? ⟨p, 5, none⟩ = some (.int .i64 bn) ∧ w'.cell? ⟨p, 6, none⟩ = some (.slice bad bm bc))) (by kernel_rfl) ⟨(Below.refl _ _).drew, h0, h1, h2, h3, h4, h5, h6⟩ (fun hHeld => ?_)
    refine take_at (i := 0) (n := 2) (v := ?_) rfl rfl (by kernel_rfl) (by kernel_rfl) (by kernel_rfl) (fun _ _ _ h => h) (Or.inl ⟨by rfl, ?_⟩) (by assumption) ?_
    rotate_left 1
    · intro w hSw
      first | (go_simp; done) | (go_simp; with_reducible rfl)
    simp only [List.set_cons_zero, List.set_cons_succ]
    refine take_at (i := 1) (n := 3) (v := ?_) rfl rfl (by kernel_rfl) (by kernel_rfl) (by kernel_rfl) (fun _ _ _ h => h) (Or.inl ⟨by rfl, ?_⟩) (by assumption) ?_
    rotate_left 1
    · intro w hSw
      first | (go_simp; done) | (go_simp; with_reducible rfl)
    simp only [List.set_cons_zero, List.set_cons_succ]
    refine take_at (i := 2) (n := 4) (v := ?_) rfl rfl (by kernel_rfl) (by kernel_rfl) (by kernel_rfl) (fun _ _ _ h => h) (Or.inl ⟨by rfl, ?_⟩) (by assumption) ?_
    rotate_left 1
    · intro w hSw
      first | (go_simp; done) | (go_simp; with_reducible rfl)
    simp only [List.set_cons_zero, List.set_cons_succ]
    refine take_at (i := 3) (n := 5) (v := ?_) rfl rfl (by kernel_rfl) (by kernel_rfl) (by kernel_rfl) (fun _ _ _ h => h) (Or.inl ⟨by rfl, ?_⟩) (by assumption) ?_
    rotate_left 1
    · intro w hSw
      first | (go_simp; done) | (go_simp; with_reducible rfl)
    simp only [List.set_cons_zero, List.set_cons_succ]
    refine take_at (i := 4) (n := 6) (v := undef) rfl rfl (by kernel_rfl) (by kernel_rfl) (by kernel_rfl) (fun _ _ _ h => h) (Or.inr ⟨by rfl, rfl⟩) (by assumption) ?_
    simp only [List.set_cons_zero, List.set_cons_succ]
    refine take_at (i := 5) (n := 7) (v := undef) rfl rfl (by kernel_rfl) (by kernel_rfl) (by kernel_rfl) (fun _ _ _ h => h) (Or.inr ⟨by rfl, rfl⟩) (by assumption) ?_
    simp only [List.set_cons_zero, List.set_cons_succ]
    refine take_at (i := 6) (n := 8) (v := undef) rfl rfl (by kernel_rfl) (by kernel_rfl) (by kernel_rfl) (fun _ _ _ h => h) (Or.inr ⟨by rfl, rfl⟩) (by assumption) ?_
    simp only [List.set_cons_zero, List.set_cons_succ]
    refine take_at (i := 7) (n := 9) (v := ?_) rfl rfl (by kernel_rfl) (by kernel_rfl) (by kernel_rfl) (fun _ _ _ h => h) (Or.inl ⟨by rfl, ?_⟩) (by assumption) ?_
    rotate_left 1
    · intro w hSw
      first | (go_simp; done) | (go_simp; with_reducible rfl)
    simp only [List.set_cons_zero, List.set_cons_succ]
    refine take_at (i := 9) (n := 11) (v := ?_) rfl rfl (by kernel_rfl) (by kernel_rfl) (by kernel_rfl) (fun _ _ _ h => h) (Or.inl ⟨by rfl, ?_⟩) (by assumption) ?_
    rotate_left 1
    · intro w hSw
      first | (go_simp; done) | (go_simp; with_reducible rfl)
    simp only [List.set_cons_zero, List.set_cons_succ]
    refine take_at (i := 10) (n := 12) (v := ?_) rfl rfl (by kernel_rfl) (by kernel_rfl) (by kernel_rfl) (fun _ _ _ h => h) (Or.inl ⟨by rfl, ?_⟩) (by assumption) ?_
    rotate_left 1
    · intro w hSw
      first | (go_simp; done) | (go_simp; with_reducible rfl)
    simp only [List.set_cons_zero, List.set_cons_succ]
    refine take_at (i := 12) (n := 14) (v := ?_) rfl rfl (by kernel_rfl) (by kernel_rfl) (by kernel_rfl) (fun _ _ _ h => h) (Or.inl ⟨by rfl, ?_⟩) (by assumption) ?_
    rotate_left 1
    · intro w hSw
      first | (go_simp; done) | (go_simp; with_reducible rfl)
    simp only [List.set_cons_zero, List.set_cons_succ]
    refine take_at (i := 13) (n := 15) (v := ?_) rfl rfl (by kernel_rfl) (by kernel_rfl) (by kernel_rfl) (fun _ _ _ h => h) (Or.inl ⟨by rfl, ?_⟩) (by assumption) ?_
    rotate_left 1
    · intro w hSw
      first | (go_simp; done) | (go_simp; with_reducible rfl)
    simp only [List.set_cons_zero, List.set_cons_succ]
    refine wpAnyH_ready (rs := [8]) (by kernel_rfl) (by simp) ?_
    refine AllReadyH.cons rfl (fun K hK => ?_) AllReadyH.nil
    go_simp
    go_wp2_with (go_at_call 137; refine (needs_any _ _ _).mono ?_; rintro r w1 ⟨rfl, rfl⟩)
    refine hK.out _ _ ?_ (fun hHeld => ?_)
    · first | assumption | exact keep_alloc8 ‹Below w.heap.size w _ ∧ _› | exact keep_alloc8 (keep_alloc8 ‹Below w.heap.size w _ ∧ _›)
    clear hK K
    refine wpAnyH_ready (rs := [11]) (by kernel_rfl) (by simp) ?_
    refine AllReadyH.cons rfl (fun K hK => ?_) AllReadyH.nil
    go_simp
    go_wp2_with (go_at_call 140; refine (expr_any _ _ _ _ _ _).mono ?_; rintro r w1 ⟨rfl, rfl⟩)
    refine hK.out _ _ ?_ (fun hHeld => ?_)
    · first | assumption | exact keep_alloc8 ‹Below w.heap.size w _ ∧ _› | exact keep_alloc8 (keep_alloc8 ‹Below w.heap.size w _ ∧ _›)
    clear hK K
    refine wpAnyH_ready (rs := [14]) (by kernel_rfl) (by simp) ?_
    refine AllReadyH.cons rfl (fun K hK => ?_) AllReadyH.nil
    go_simp
    go_wp2_with (go_at_call 140; refine (expr_any _ _ _ _ _ _).mono ?_; rintro r w1 ⟨rfl, rfl⟩)
    refine hK.out _ _ ?_ (fun hHeld => ?_)
    · first | assumption | exact keep_alloc8 ‹Below w.heap.size w _ ∧ _› | exact keep_alloc8 (keep_alloc8 ‹Below w.heap.size w _ ∧ _›)
    clear hK K
    refine wpAnyH_ready (rs := [15]) (by kernel_rfl) (by simp) ?_
    refine AllReadyH.cons rfl (fun K hK => ?_) AllReadyH.nil
    go_simp
    refine hK.out _ _ ?_ (fun hHeld => ?_)
    · first | assumption | exact keep_alloc8 ‹Below w.heap.size w _ ∧ _› | exact keep_alloc8 (keep_alloc8 ‹Below w.heap.size w _ ∧ _›)
    clear hK K
    refine wpAnyH_ready (rs := [16]) (by kernel_rfl) (by simp) ?_
    refine AllReadyH.cons rfl (fun K hK => ?_) AllReadyH.nil
    go_simp
    go_wp2_with (go_at_call 136; refine (cond_looks _ _ w.heap.size (w.heap.size + 1) (w.heap.size + 1 + 1) (w.heap.size + 1 + 1 + 1) _ false ak an bk bn aad bad am ac bm bc ca cb hN (HH.out.1.below (And.left ‹Below w.heap.size w _ ∧ _›)) (Ex.In.below (And.left ‹Below w.heap.size w _ ∧ _›) _ HH.out.2.1) (Ex.In.below (And.left ‹Below w.heap.size w _ ∧ _›) _ HH.out.2.2) (by simp [go_sem]) (by simp [go_sem]) (by simp [go_sem]) (by simp [go_sem]) (by simp [go_sem]) (by simp [go_sem]) (by simp [go_sem]) (by simp [go_sem]) (by simp [go_sem]) (by simp [go_sem]) (by simp [go_sem])).mono ?_; rintro r w9 ⟨rfl, hb9⟩; have hS9 := keep_below8 ‹Below w.heap.size w _ ∧ _› hb9; clear hb9)
    refine hK.out _ _ ?_ (fun hHeld => ?_)
    · first | assumption | exact keep_alloc8 ‹Below w.heap.size w _ ∧ _› | exact keep_alloc8 (keep_alloc8 ‹Below w.heap.size w _ ∧ _›)
    clear hK K
    refine take_at (i := 17) (n := 1) (v := ?_) rfl rfl (by kernel_rfl) (by kernel_rfl) (by kernel_rfl) (fun _ _ _ h => h) (Or.inl ⟨by rfl, ?_⟩) (by assumption) ?_
    rotate_left 1
    · intro w hSw
      first | (go_simp; done) | (go_simp; with_reducible rfl)
    simp only [List.set_cons_zero, List.set_cons_succ]
    refine wpAnyH_done (by kernel_rfl) ?_ _
    all_goals
      go_wp2_with fail
      go_ret
      refine ⟨ret_int ?_, And.left ‹Below w.heap.size w _ ∧ _›⟩
      have hg := HG.out
      unfold condErr condR
      rw [if_pos rfl, if_pos (by omega)]
end Go.Proofs.YtgemadoieielcacDoor.B
