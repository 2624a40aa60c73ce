import Derived.Test.YtikdidfgdiafoabDoorGInner
import Derived.Deep.DeepCutAuto
import Derived.Deep.CutRange
import Derived.Deep.RegionHeldLaw
import Derived.LaidMore
import Derived.ChangeArms
import Derived.OpenShut
import Derived.Test.YtikdidfgdiafoabDoorGSize
import Derived.Test.YtikdidfgdiafoabDoorGInnerQ
import Derived.Deep.RegionHeld3
import Derived.Deep.RegionWith
namespace Go.Proofs.YtikdidfgdiafoabDoor
open Go.ChangeShapes Go.WideShapes Go.ChangeAt Go.RowKit

/-- What the seven looks at a statement find, and how far the walk has come then. -/
def lookR (b0 b1 hv hc b4 b5 : Bool) (nE nC i : Int) (fin : Int × Int) : Int × Int :=
  if b0 = false then (3, i) else if b1 = false then (6, i) else if hv = true ∧ nE ≠ 0 then (nE, i) else if hc = true ∧ nC ≠ 0 then (nC, i) else if b4 = false then (2, i) else if b5 = false then (10, i) else fin

/-- The seven looks at a statement. -/
theorem stmt_looks (X : World) (g cap q0 r0 q1 r1 q4 r4 q5 r5 : Nat) (cE cC cI : Array Value) (b0 b1 hv hc b4 b5 : Bool) (nE nC i : Int) (fin : Int × Int) (wb B : Nat) (v : Value) (ar : List (Int × Int)) (hk : Wk X wb B i v ar)
    (g0 : X.cell? ⟨g, 0, none⟩ = some (.func (.func 60) #[] #[.pointer (some ⟨q0, 0, none⟩), .pointer (some ⟨r0, 0, none⟩)]))
    (g1 : X.cell? ⟨g, 1, none⟩ = some (.func (.func 60) #[] #[.pointer (some ⟨q1, 0, none⟩), .pointer (some ⟨r1, 0, none⟩)]))
    (g2 : X.cell? ⟨g, 2, none⟩ = some (if hv = true then .func (.func 63) #[] cE else .func (.func 62) #[] #[]))
    (g3 : X.cell? ⟨g, 3, none⟩ = some (if hc = true then .func (.func 65) #[] cC else .func (.func 62) #[] #[]))
    (g4 : X.cell? ⟨g, 4, none⟩ = some (.func (.func 60) #[] #[.pointer (some ⟨q4, 0, none⟩), .pointer (some ⟨r4, 0, none⟩)]))
    (g5 : X.cell? ⟨g, 5, none⟩ = some (.func (.func 60) #[] #[.pointer (some ⟨q5, 0, none⟩), .pointer (some ⟨r5, 0, none⟩)]))
    (g6 : X.cell? ⟨g, 6, none⟩ = some (.func (.func 66) #[] cI))
    (c0 : X.cell? ⟨q0, 0, none⟩ = some (.bool b0) ∧ X.cell? ⟨r0, 0, none⟩ = some (.int .i64 3)) (c1 : X.cell? ⟨q1, 0, none⟩ = some (.bool b1) ∧ X.cell? ⟨r1, 0, none⟩ = some (.int .i64 6))
    (c4 : X.cell? ⟨q4, 0, none⟩ = some (.bool b4) ∧ X.cell? ⟨r4, 0, none⟩ = some (.int .i64 2)) (c5 : X.cell? ⟨q5, 0, none⟩ = some (.bool b5) ∧ X.cell? ⟨r5, 0, none⟩ = some (.int .i64 10))
    (hE : ∀ w, Below X.heap.size X w → Calls Tryd.prog 63 cE w fun r w' => r = .returned (.int .i64 nE) ∧ Below w.heap.size w w')
    (hC : ∀ w, Below X.heap.size X w → Calls Tryd.prog 65 cC w fun r w' => r = .returned (.int .i64 nC) ∧ Below w.heap.size w w')
    (hI : ∀ w, Below X.heap.size X w → Calls Tryd.prog 66 cI w fun r w' => r = .returned (.int .i64 fin.1) ∧ ∃ v', Wk w' wb B fin.2 v' ar ∧ WR wb w w' v v') :
    Calls Tryd.prog 49 #[.slice (some ⟨g, 0, none⟩) 7 cap] X fun e w' => e = .returned (.int .i64 (lookR b0 b1 hv hc b4 b5 nE nC i fin).1) ∧ ∃ v', Wk w' wb B (lookR b0 b1 hv hc b4 b5 nE nC i fin).2 v' ar ∧ WR wb X w' v v' := by
  refine (first_any 7 (by omega) g cap (fun j => if j = 2 then (if hv = true then 63 else 62) else if j = 3 then (if hc = true then 65 else 62) else if j = 6 then 66 else 60)
    (fun j => if j = 0 then #[.pointer (some ⟨q0, 0, none⟩), .pointer (some ⟨r0, 0, none⟩)] else if j = 1 then #[.pointer (some ⟨q1, 0, none⟩), .pointer (some ⟨r1, 0, none⟩)] else if j = 2 then (if hv = true then cE else #[]) else if j = 3 then (if hc = true then cC else #[])
      else if j = 4 then #[.pointer (some ⟨q4, 0, none⟩), .pointer (some ⟨r4, 0, none⟩)] else if j = 5 then #[.pointer (some ⟨q5, 0, none⟩), .pointer (some ⟨r5, 0, none⟩)] else cI)
    (fun j w => (j ≤ 6 → Below X.heap.size X w ∧ (0 < j → b0 = true) ∧ (1 < j → b1 = true) ∧ (2 < j → ¬ (hv = true ∧ nE ≠ 0)) ∧ (3 < j → ¬ (hc = true ∧ nC ≠ 0)) ∧ (4 < j → b4 = true) ∧ (5 < j → b5 = true)) ∧
      (j = 7 → (lookR b0 b1 hv hc b4 b5 nE nC i fin).1 = 0 ∧ ∃ v', Wk w wb B (lookR b0 b1 hv hc b4 b5 nE nC i fin).2 v' ar ∧ WR wb X w v v'))
    (fun c w => c = (lookR b0 b1 hv hc b4 b5 nE nC i fin).1 ∧ ∃ v', Wk w wb B (lookR b0 b1 hv hc b4 b5 nE nC i fin).2 v' ar ∧ WR wb X w v v') ?_ ?_ ?_ X ⟨fun _ => ⟨Below.refl _ _, by omega, by omega, by omega, by omega, by omega, by omega⟩, by omega⟩).mono ?_
  · intro j hj w hP
    have hb := (hP.1 (by omega)).1
    match j, hj with
    | 0, _ => exact below_cell hb g0
    | 1, _ => exact below_cell hb g1
    | 2, _ => rw [below_cell hb g2]; cases hv <;> rfl
    | 3, _ => rw [below_cell hb g3]; cases hc <;> rfl
    | 4, _ => exact below_cell hb g4
    | 5, _ => exact below_cell hb g5
    | 6, _ => exact below_cell hb g6
  · intro j hj w hP
    obtain ⟨hb, p0, p1, p2, p3, p4, p5⟩ := hP.1 (by omega)
    have stop : ∀ (w' : World) (c : Int), Below X.heap.size X w' → lookR b0 b1 hv hc b4 b5 nE nC i fin = (c, i) → c = (lookR b0 b1 hv hc b4 b5 nE nC i fin).1 ∧ ∃ v', Wk w' wb B (lookR b0 b1 hv hc b4 b5 nE nC i fin).2 v' ar ∧ WR wb X w' v v' := by
      intro w' c hb' e
      rw [e]
      exact ⟨rfl, v, hk.below hb', WR.of_below hb'⟩
    match j, hj with
    | 0, _ =>
      refine (needs1_any q0 r0 b0 3 w (below_cell hb c0.1) (below_cell hb c0.2)).mono ?_
      rintro e w' ⟨rfl, rfl⟩
      refine ⟨_, rfl, ?_⟩
      cases b0
      · exact .inr ⟨by simp, stop _ _ hb (by simp [lookR])⟩
      · exact .inl ⟨by simp, fun _ => ⟨hb, fun _ => rfl, by omega, by omega, by omega, by omega, by omega⟩, by omega⟩
    | 1, _ =>
      have e0 := p0 (by omega)
      refine (needs1_any q1 r1 b1 6 w (below_cell hb c1.1) (below_cell hb c1.2)).mono ?_
      rintro e w' ⟨rfl, rfl⟩
      refine ⟨_, rfl, ?_⟩
      cases b1
      · exact .inr ⟨by simp, stop _ _ hb (by simp [lookR, e0])⟩
      · exact .inl ⟨by simp, fun _ => ⟨hb, fun _ => e0, fun _ => rfl, by omega, by omega, by omega, by omega⟩, by omega⟩
    | 2, _ =>
      have e0 := p0 (by omega)
      have e1 := p1 (by omega)
      cases hv
      · refine (only1_any w).mono ?_
        rintro e w' ⟨rfl, rfl⟩
        exact ⟨_, rfl, .inl ⟨rfl, fun _ => ⟨hb, fun _ => e0, fun _ => e1, by simp, by omega, by omega, by omega⟩, by omega⟩⟩
      · refine (hE w hb).mono ?_
        rintro e w' ⟨rfl, hb'⟩
        refine ⟨_, rfl, ?_⟩
        by_cases hz : nE = 0
        · exact .inl ⟨hz, fun _ => ⟨below_seq hb hb', fun _ => e0, fun _ => e1, by simp [hz], by omega, by omega, by omega⟩, by omega⟩
        · exact .inr ⟨hz, stop _ _ (below_seq hb hb') (by simp [lookR, e0, e1, hz])⟩
    | 3, _ =>
      have e0 := p0 (by omega)
      have e1 := p1 (by omega)
      have e2 := p2 (by omega)
      cases hc
      · refine (only1_any w).mono ?_
        rintro e w' ⟨rfl, rfl⟩
        exact ⟨_, rfl, .inl ⟨rfl, fun _ => ⟨hb, fun _ => e0, fun _ => e1, fun _ => e2, by simp, by omega, by omega⟩, by omega⟩⟩
      · refine (hC w hb).mono ?_
        rintro e w' ⟨rfl, hb'⟩
        refine ⟨_, rfl, ?_⟩
        by_cases hz : nC = 0
        · exact .inl ⟨hz, fun _ => ⟨below_seq hb hb', fun _ => e0, fun _ => e1, fun _ => e2, by simp [hz], by omega, by omega⟩, by omega⟩
        · exact .inr ⟨hz, stop _ _ (below_seq hb hb') (by rw [lookR, if_neg (by simp [e0]), if_neg (by simp [e1]), if_neg e2, if_pos ⟨rfl, hz⟩])⟩
    | 4, _ =>
      have e0 := p0 (by omega)
      have e1 := p1 (by omega)
      have e2 := p2 (by omega)
      have e3 := p3 (by omega)
      refine (needs1_any q4 r4 b4 2 w (below_cell hb c4.1) (below_cell hb c4.2)).mono ?_
      rintro e w' ⟨rfl, rfl⟩
      refine ⟨_, rfl, ?_⟩
      cases b4
      · exact .inr ⟨by simp, stop _ _ hb (by rw [lookR, if_neg (by simp [e0]), if_neg (by simp [e1]), if_neg e2, if_neg e3]; simp)⟩
      · exact .inl ⟨by simp, fun _ => ⟨hb, fun _ => e0, fun _ => e1, fun _ => e2, fun _ => e3, fun _ => rfl, by omega⟩, by omega⟩
    | 5, _ =>
      have e0 := p0 (by omega)
      have e1 := p1 (by omega)
      have e2 := p2 (by omega)
      have e3 := p3 (by omega)
      have e4 := p4 (by omega)
      refine (needs1_any q5 r5 b5 10 w (below_cell hb c5.1) (below_cell hb c5.2)).mono ?_
      rintro e w' ⟨rfl, rfl⟩
      refine ⟨_, rfl, ?_⟩
      cases b5
      · exact .inr ⟨by simp, stop _ _ hb (by rw [lookR, if_neg (by simp [e0]), if_neg (by simp [e1]), if_neg e2, if_neg e3, if_neg (by simp [e4])]; simp)⟩
      · exact .inl ⟨by simp, fun _ => ⟨hb, fun _ => e0, fun _ => e1, fun _ => e2, fun _ => e3, fun _ => e4, fun _ => rfl⟩, by omega⟩
    | 6, _ =>
      have e0 := p0 (by omega)
      have e1 := p1 (by omega)
      have e2 := p2 (by omega)
      have e3 := p3 (by omega)
      have e4 := p4 (by omega)
      have e5 := p5 (by omega)
      have eR : lookR b0 b1 hv hc b4 b5 nE nC i fin = fin := by rw [lookR, if_neg (by simp [e0]), if_neg (by simp [e1]), if_neg e2, if_neg e3, if_neg (by simp [e4]), if_neg (by simp [e5])]
      refine (hI w hb).mono ?_
      rintro e w' ⟨rfl, v', hk', hr'⟩
      refine ⟨_, rfl, ?_⟩
      have hw := (WR.of_below (wb := wb) (v := v) hb).trans hr'
      by_cases hz : fin.1 = 0
      · exact .inl ⟨hz, by omega, fun _ => ⟨by rw [eR]; exact hz, v', by rw [eR]; exact hk', hw⟩⟩
      · exact .inr ⟨hz, by rw [eR], v', by rw [eR]; exact hk', hw⟩
  · intro j hj cp w
    match j, hj with
    | 0, _ => exact ent36 cp w
    | 1, _ => exact ent36 cp w
    | 2, _ => cases hv; exact ent38 cp w; exact ent39 cp w
    | 3, _ => cases hc; exact ent38 cp w; exact ent41 cp w
    | 4, _ => exact ent36 cp w
    | 5, _ => exact ent36 cp w
    | 6, _ => exact ent42 cp w
  · rintro e w' ⟨c, rfl, h⟩
    rcases h with ⟨rfl, hP⟩ | ⟨_, rfl, h⟩
    · obtain ⟨e, v', hk', hr'⟩ := hP.2 rfl
      exact ⟨ret_int (by rw [e]), v', hk', hr'⟩
    · exact ⟨rfl, h⟩
end Go.Proofs.YtikdidfgdiafoabDoor
namespace Go.Proofs.YtikdidfgdiafoabDoor
open Go.ChangeShapes Go.WideShapes Go.ChangeAt Go.RowKit

theorem look_pure (P1 : Prop) [Decidable P1] (m hv hc inn lt6 k6 held : Bool) (nE nC i : Int) (fin : Int × Int) (E : Int)
    (hE : E = if ¬ P1 then 3 else if m = true then 6 else if hv = true ∧ nE ≠ 0 then nE else if hc = true ∧ nC ≠ 0 then nC else if inn = true ∧ ¬ (lt6 = true) then 2 else if k6 = true ∧ held = true then 10 else 0) :
    lookR (decide P1) (!m) hv hc (!inn || lt6) (!k6 || !held) nE nC i fin = if E ≠ 0 then (E, i) else fin := by
  unfold lookR
  by_cases h1 : P1
  · rw [if_neg (by simpa using h1)] at hE
    rw [if_neg (by simp [h1])]
    cases m
    · rw [if_neg (by simp)] at hE
      rw [if_neg (by simp)]
      by_cases h2 : hv = true ∧ nE ≠ 0
      · rw [if_pos h2] at hE
        rw [if_pos h2, hE, if_pos h2.2]
      · rw [if_neg h2] at hE
        rw [if_neg h2]
        by_cases h3 : hc = true ∧ nC ≠ 0
        · rw [if_pos h3] at hE
          rw [if_pos h3, hE, if_pos h3.2]
        · rw [if_neg h3] at hE
          rw [if_neg h3]
          cases inn <;> cases lt6 <;> cases k6 <;> cases held <;> simp at hE <;> simp [hE]
    · rw [if_pos rfl] at hE
      simp [hE]
  · rw [if_pos h1] at hE
    simp [h1, hE]

/-- The seven looks find what the walk is said to find. -/
theorem look_chk (k n : Int) (e : Ex) (ck : Int) (ca cb : Ex) (b l : List St) (ar : List (Int × Int)) (i : Int) (hk : ¬ (k < 1 ∨ 8 ≤ k)) :
    lookR (decide (lowN k ≤ n ∧ n ≤ highN k)) (!moreS (valK k) (conK k) (innK k) (othK k) (exNone e.k e.n e.a.length) ck (exNone ca.k ca.n ca.a.length) (exNone cb.k cb.n cb.a.length) b.length l.length) (valK k) (conK k)
      (!innK k || decide ((ar.length : Int) < 6)) (!decide (k = 6) || !decide ((6, n) ∈ ar)) (e.node 0).1 (condErr ck ca cb) (i + 1) (chk2 b l (ar ++ [(k, n)]) (i + 1)) = (St.mk k n e ck ca cb b l).chk ar i := by
  have hc : (St.mk k n e ck ca cb b l).chk ar i = if (St.mk k n e ck ca cb b l).perr ar ≠ 0 then ((St.mk k n e ck ca cb b l).perr ar, i + 1) else chk2 b l (ar ++ [(k, n)]) (i + 1) := by
    rw [St.chk]; rfl
  rw [hc]
  refine look_pure _ _ _ _ _ _ _ _ _ _ _ _ _ ?_
  show progErr k n (exNone e.k e.n e.a.length) (e.node 0).1 ck (exNone ca.k ca.n ca.a.length) (exNone cb.k cb.n cb.a.length) (condErr ck ca cb) b.length l.length ar.length (decide ((6, n) ∈ ar)) = _
  unfold progErr
  rw [if_neg hk]
  simp only [decide_eq_true_eq]

/-- A kind that is none. -/
theorem none_chk (k n : Int) (e : Ex) (ck : Int) (ca cb : Ex) (b l : List St) (ar : List (Int × Int)) (i : Int) (hk : k < 1 ∨ 8 ≤ k) : (St.mk k n e ck ca cb b l).chk ar i = (6, i + 1) := by
  have hp : (St.mk k n e ck ca cb b l).perr ar = 6 := by show progErr k n (exNone e.k e.n e.a.length) (e.node 0).1 ck (exNone ca.k ca.n ca.a.length) (exNone cb.k cb.n cb.a.length) (condErr ck ca cb) b.length l.length ar.length (decide ((6, n) ∈ ar)) = 6; unfold progErr; rw [if_pos hk]
  rw [St.chk, hp]
  rfl

/-- The table of statements' shapes. -/
def ShapesIn (w : World) : Prop := ∀ m : Nat, 1 ≤ m → m < 8 → w.cell? ⟨0, m * 6, none⟩ = some (.int .i64 (lowN m)) ∧ w.cell? ⟨0, m * 6 + 1, none⟩ = some (.int .i64 (highN m)) ∧ w.cell? ⟨0, m * 6 + 2, none⟩ = some (.bool (valK m)) ∧ w.cell? ⟨0, m * 6 + 3, none⟩ = some (.bool (conK m)) ∧
  w.cell? ⟨0, m * 6 + 4, none⟩ = some (.bool (innK m)) ∧ w.cell? ⟨0, m * 6 + 5, none⟩ = some (.bool (othK m))

theorem ShapesIn.below {B : Nat} {w w' : World} (h : ShapesIn w) (hB : 0 < B) (hb : Below B w w') : ShapesIn w' := fun m h1 h2 =>
  have k : ∀ o x, w.cell? ⟨0, o, none⟩ = some x → w'.cell? ⟨0, o, none⟩ = some x := fun _ _ hc => (World.cell?_of_block (hb.block 0 hB)).trans hc
  have t := h m h1 h2
  ⟨k _ _ t.1, k _ _ t.2.1, k _ _ t.2.2.1, k _ _ t.2.2.2.1, k _ _ t.2.2.2.2.1, k _ _ t.2.2.2.2.2⟩
end Go.Proofs.YtikdidfgdiafoabDoor
namespace Go.Proofs.YtikdidfgdiafoabDoor
open Go.ChangeShapes Go.WideShapes Go.ChangeAt Go.RowKit

/-- The walk one further. -/
theorem Wk.next {w : World} {wb B : Nat} {i : Int} {v : Value} {ar : List (Int × Int)} (h : Wk w wb B i v ar) (j : Int) : Wk (w.setCell ⟨wb, 0, none⟩ (.int .i64 j)) wb B j v ar ∧ WR wb w (w.setCell ⟨wb, 0, none⟩ (.int .i64 j)) v v := by
  obtain ⟨xs, ho, hac⟩ := h.owns
  refine ⟨⟨by simpa using setCell_at (i := 0) (u := .int .i64 j) h.blk, ⟨xs, ownsRow_setCell_below ho (by show wb < B; exact h.lt) _, hac⟩, h.lt, by rw [size_set]; exact h.le⟩, ⟨rfl, rfl, rfl, by rw [size_set]; exact Nat.le_refl _, fun k _ h1 _ => Below.heap_setCell _ _ _ _ (by simpa using h1), .inl rfl⟩⟩

theorem Wk.begun {w : World} {wb B : Nat} {i : Int} {v : Value} {ar : List (Int × Int)} (h : Wk w wb B i v ar) (o : Obj) (j : Int) : Wk ((w.setCell ⟨wb, 0, none⟩ (.int .i64 j)).alloc o) wb B j v ar ∧ WR wb w ((w.setCell ⟨wb, 0, none⟩ (.int .i64 j)).alloc o) v v :=
  have hb : Below (w.setCell ⟨wb, 0, none⟩ (.int .i64 j)).heap.size (w.setCell ⟨wb, 0, none⟩ (.int .i64 j)) ((w.setCell ⟨wb, 0, none⟩ (.int .i64 j)).alloc o) := (Below.refl _ _).alloc (Nat.le_refl _) o
  ⟨(h.next j).1.below hb, (h.next j).2.trans (WR.of_below hb)⟩

set_option maxRecDepth 20000 in
set_option maxHeartbeats 4000000 in
/-- A kind that is none. -/
theorem stmt_none (w : World) (wb B : Nat) (i : Int) (v : Value) (ar : List (Int × Int)) (hwk : Wk w wb B i v ar) (hi1 : -1 ≤ i) (hi2 : i ≤ 2097152)
    (k n ek en ck ak an bk bn : Int) (ead aad bad yad lad : Option Addr) (em ec am ac bm bc ym yc lm lc : Nat) (hk : k < 1 ∨ 8 ≤ k) :
    Calls Tryd.prog 46 #[.pointer (some ⟨wb, 0, none⟩), .agg #[.int .i64 k, .int .i64 n, .int .i64 ek, .int .i64 en, .slice ead em ec, .int .i64 ck, .int .i64 ak, .int .i64 an, .slice aad am ac, .int .i64 bk, .int .i64 bn, .slice bad bm bc, .slice yad ym yc, .slice lad lm lc]] w
      fun r w' => r = .returned (.int .i64 6) ∧ ∃ v', Wk w' wb B (i + 1) v' ar ∧ WR wb w w' v v' := by
  have b0 : w.cell? ⟨wb, 0, none⟩ = some (.int .i64 i) := by unfold World.cell?; rw [hwk.blk]; rfl
  have hf : ∀ j, w.frozen? ⟨wb, j, none⟩ = false := by intro j; unfold World.frozen?; rw [hwk.blk]; simp
  have hl : wb < w.heap.size := World.block_lt_of_cell? _ _ b0
  have HK : Hid (Wk w wb B i v ar) := hwk
  clear hwk
  by_cases h1 : k < 1
  · have hd : decide (k < 1) = true := decide_eq_true h1
    go_enter Tryd.func46, Tryd.ntmps46
    go_wp2_with fail
    go_ret
    exact ⟨rfl, v, HK.out.begun _ _⟩
  · have hd : decide (k < 1) = false := decide_eq_false h1
    have hd2 : decide (8 ≤ k) = true := decide_eq_true (by omega)
    go_enter Tryd.func46, Tryd.ntmps46
    go_wp2_with fail
    go_ret
    exact ⟨rfl, v, HK.out.begun _ _⟩
end Go.Proofs.YtikdidfgdiafoabDoor
namespace Go.Proofs.YtikdidfgdiafoabDoor
open Go.ChangeShapes Go.WideShapes Go.ChangeAt Go.RowKit

theorem needs_b (b : Bool) (c : Int) (w : World) : Calls Tryd.prog 50 #[.bool b, .int .i64 c] w fun r w' => ∃ q s, r = .returned (.func (.func 60) #[] #[.pointer (some ⟨q, 0, none⟩), .pointer (some ⟨s, 0, none⟩)]) ∧ (w'.cell? ⟨q, 0, none⟩ = some (.bool b) ∧ w'.cell? ⟨s, 0, none⟩ = some (.int .i64 c)) ∧ Below w.heap.size w w' := by
  refine (needs_any b c w).mono ?_
  rintro r w' ⟨rfl, rfl⟩
  exact ⟨_, _, rfl, ⟨by simp [go_sem], by simp [go_sem]⟩, ((Below.refl _ _).alloc (Nat.le_refl _) _).alloc (by simp) _⟩

theorem expr_b (k n : Int) (ad : Option Addr) (m c : Nat) (w : World) : Calls Tryd.prog 53 #[.agg #[.int .i64 k, .int .i64 n, .slice ad m c]] w fun r w' => ∃ p, r = .returned (.func (.func 63) #[] #[.pointer (some ⟨p, 0, none⟩)]) ∧
    (w'.cell? ⟨p, 0, none⟩ = some (.int .i64 k) ∧ w'.cell? ⟨p, 1, none⟩ = some (.int .i64 n) ∧ w'.cell? ⟨p, 2, none⟩ = some (.slice ad m c)) ∧ Below w.heap.size w w' := by
  refine (expr_any k n ad m c w).mono ?_
  rintro r w' ⟨rfl, rfl⟩
  exact ⟨_, rfl, ⟨by simp [go_sem], by simp [go_sem], by simp [go_sem]⟩, (Below.refl _ _).alloc (Nat.le_refl _) _⟩

theorem cond_b (ck ak an bk bn : Int) (aad bad : Option Addr) (am ac bm bc : Nat) (w : World) : Calls Tryd.prog 54 #[.agg #[.int .i64 ck, .int .i64 ak, .int .i64 an, .slice aad am ac, .int .i64 bk, .int .i64 bn, .slice bad bm bc]] w fun r w' =>
    ∃ p, r = .returned (.func (.func 65) #[] #[.pointer (some ⟨p, 0, none⟩)]) ∧ (w'.cell? ⟨p, 0, none⟩ = some (.int .i64 ck) ∧ w'.cell? ⟨p, 1, none⟩ = some (.int .i64 ak) ∧ w'.cell? ⟨p, 2, none⟩ = some (.int .i64 an) ∧ w'.cell? ⟨p, 3, none⟩ = some (.slice aad am ac) ∧
      w'.cell? ⟨p, 4, none⟩ = some (.int .i64 bk) ∧ w'.cell? ⟨p, 5, none⟩ = some (.int .i64 bn) ∧ w'.cell? ⟨p, 6, none⟩ = some (.slice bad bm bc)) ∧ Below w.heap.size w w' := by
  refine (cond_any ck ak an bk bn aad bad am ac bm bc w).mono ?_
  rintro r w' ⟨rfl, rfl⟩
  exact ⟨_, rfl, ⟨by simp [go_sem], by simp [go_sem], by simp [go_sem], by simp [go_sem], by simp [go_sem], by simp [go_sem], by simp [go_sem]⟩, (Below.refl _ _).alloc (Nat.le_refl _) _⟩

theorem only_b (b : Bool) (f : FuncId) (cs : Array Value) (w : World) : Calls Tryd.prog 52 #[.bool b, .func (.func f) #[] cs] w fun r w' => ∃ j ds, r = .returned (.func (.func j) #[] ds) ∧ Hid (Value.func (.func j) #[] ds = if b = true then .func (.func f) #[] cs else .func (.func 62) #[] #[]) ∧ w = w' := by
  refine (only_any b f cs w).mono ?_
  rintro r w' ⟨rfl, rfl⟩
  cases b
  · exact ⟨62, #[], rfl, rfl, rfl⟩
  · exact ⟨f, cs, rfl, rfl, rfl⟩

theorem inner_b (w : World) (wb : Nat) (sk sn ek en ck ak an bk bn : Int) (ead aad bad yad lad : Option Addr) (em ec am ac bm bc ly yc ll lc : Nat) :
    Calls Tryd.prog 56 #[.pointer (some ⟨wb, 0, none⟩), .agg #[.int .i64 sk, .int .i64 sn, .int .i64 ek, .int .i64 en, .slice ead em ec, .int .i64 ck, .int .i64 ak, .int .i64 an, .slice aad am ac, .int .i64 bk, .int .i64 bn, .slice bad bm bc, .slice yad ly yc, .slice lad ll lc]] w fun r w' =>
    ∃ p1 p2, r = .returned (.func (.func 66) #[] #[.pointer (some ⟨p1, 0, none⟩), .pointer (some ⟨p2, 0, none⟩)]) ∧ (w'.cell? ⟨p1, 0, none⟩ = some (.pointer (some ⟨wb, 0, none⟩)) ∧
      copyIs w' p2 (.int .i64 sk) (.int .i64 sn) (.int .i64 ek) (.int .i64 en) (.slice ead em ec) (.int .i64 ck) (.int .i64 ak) (.int .i64 an) (.slice aad am ac) (.int .i64 bk) (.int .i64 bn) (.slice bad bm bc) (.slice yad ly yc) (.slice lad ll lc) ∧ w.heap.size ≤ p1 ∧ w.heap.size ≤ p2) ∧ Below w.heap.size w w' := by
  refine (inner_any w wb sk sn ek en ck ak an bk bn ead aad bad yad lad em ec am ac bm bc ly yc ll lc).mono ?_
  rintro r w' ⟨rfl, rfl⟩
  refine ⟨_, _, rfl, ⟨by simp [go_sem], ?_, Nat.le_refl _, Nat.le_succ _⟩, ((Below.refl _ _).alloc (Nat.le_refl _) _).alloc (by simp) _⟩
  have := heap_alloc_new (w.alloc (.cells #[.pointer (some ⟨wb, 0, none⟩)] 98)) (.cells #[.int .i64 sk, .int .i64 sn, .int .i64 ek, .int .i64 en, .slice ead em ec, .int .i64 ck, .int .i64 ak, .int .i64 an, .slice aad am ac, .int .i64 bk, .int .i64 bn, .slice bad bm bc, .slice yad ly yc, .slice lad ll lc] 61)
  simpa [copyIs] using this

/-- What a statement's two copies hold: its own, and its shape's. -/
def SS (q1 q2 : Nat) (x0 x1 x2 x3 x4 x5 x6 x7 x8 x9 x10 x11 x12 x13 y0 y1 y2 y3 y4 y5 : Value) (w : World) : Prop :=
  copyIs w q1 x0 x1 x2 x3 x4 x5 x6 x7 x8 x9 x10 x11 x12 x13 ∧ w.heap[q2]? = some (.cells #[y0, y1, y2, y3, y4, y5] 105 (0, 0))

section
variable {q1 q2 : Nat} {x0 x1 x2 x3 x4 x5 x6 x7 x8 x9 x10 x11 x12 x13 y0 y1 y2 y3 y4 y5 : Value} {w w' : World}

theorem SS.of (h1 : w'.heap[q1]? = w.heap[q1]?) (h2 : w'.heap[q2]? = w.heap[q2]?) (h : SS q1 q2 x0 x1 x2 x3 x4 x5 x6 x7 x8 x9 x10 x11 x12 x13 y0 y1 y2 y3 y4 y5 w) : SS q1 q2 x0 x1 x2 x3 x4 x5 x6 x7 x8 x9 x10 x11 x12 x13 y0 y1 y2 y3 y4 y5 w' :=
  ⟨h1.trans h.1, h2.trans h.2⟩

theorem SS.lt (h : SS q1 q2 x0 x1 x2 x3 x4 x5 x6 x7 x8 x9 x10 x11 x12 x13 y0 y1 y2 y3 y4 y5 w) : q1 < w.heap.size ∧ q2 < w.heap.size :=
  ⟨(Array.getElem?_eq_some_iff.1 h.1).1, (Array.getElem?_eq_some_iff.1 h.2).1⟩

theorem SS.below (h : SS q1 q2 x0 x1 x2 x3 x4 x5 x6 x7 x8 x9 x10 x11 x12 x13 y0 y1 y2 y3 y4 y5 w) (hb : Below w.heap.size w w') : SS q1 q2 x0 x1 x2 x3 x4 x5 x6 x7 x8 x9 x10 x11 x12 x13 y0 y1 y2 y3 y4 y5 w' :=
  SS.of (hb.block _ h.lt.1) (hb.block _ h.lt.2) h

theorem SS.alloc (h : SS q1 q2 x0 x1 x2 x3 x4 x5 x6 x7 x8 x9 x10 x11 x12 x13 y0 y1 y2 y3 y4 y5 w) (o : Obj) : SS q1 q2 x0 x1 x2 x3 x4 x5 x6 x7 x8 x9 x10 x11 x12 x13 y0 y1 y2 y3 y4 y5 (w.alloc o) :=
  h.below ((Below.refl _ _).alloc (Nat.le_refl _) o)

theorem SS.x (h : SS q1 q2 x0 x1 x2 x3 x4 x5 x6 x7 x8 x9 x10 x11 x12 x13 y0 y1 y2 y3 y4 y5 w) : w.cell? ⟨q1, 0, none⟩ = some x0 ∧ w.cell? ⟨q1, 1, none⟩ = some x1 ∧ w.cell? ⟨q1, 2, none⟩ = some x2 ∧ w.cell? ⟨q1, 3, none⟩ = some x3 ∧ w.cell? ⟨q1, 4, none⟩ = some x4 ∧ w.cell? ⟨q1, 5, none⟩ = some x5 ∧ w.cell? ⟨q1, 6, none⟩ = some x6 ∧
    w.cell? ⟨q1, 7, none⟩ = some x7 ∧ w.cell? ⟨q1, 8, none⟩ = some x8 ∧ w.cell? ⟨q1, 9, none⟩ = some x9 ∧ w.cell? ⟨q1, 10, none⟩ = some x10 ∧ w.cell? ⟨q1, 11, none⟩ = some x11 ∧ w.cell? ⟨q1, 12, none⟩ = some x12 ∧ w.cell? ⟨q1, 13, none⟩ = some x13 := by
  obtain ⟨d0, d1, d2, d3, d4, d5, d6, d7, d8, d9, d10, d11, d12, d13, -⟩ := h.1.cell
  exact ⟨d0, d1, d2, d3, d4, d5, d6, d7, d8, d9, d10, d11, d12, d13⟩

theorem SS.y (h : SS q1 q2 x0 x1 x2 x3 x4 x5 x6 x7 x8 x9 x10 x11 x12 x13 y0 y1 y2 y3 y4 y5 w) : w.cell? ⟨q2, 0, none⟩ = some y0 ∧ w.cell? ⟨q2, 1, none⟩ = some y1 ∧ w.cell? ⟨q2, 2, none⟩ = some y2 ∧ w.cell? ⟨q2, 3, none⟩ = some y3 ∧ w.cell? ⟨q2, 4, none⟩ = some y4 ∧ w.cell? ⟨q2, 5, none⟩ = some y5 := by
  have h2 := h.2
  refine ⟨?_, ?_, ?_, ?_, ?_, ?_⟩ <;> (unfold World.cell?; rw [h2]; rfl)
end

set_option maxHeartbeats 1000000 in
/-- The seven looks, from what the calls that made them have left. -/
theorem stmt_end (w0 : World) (N : Nat) (hN : N ≤ 1048576) (hL : ListOk w0 N) (X w12 w17 w22 w28 w41 w52 w55 : World) (wb B : Nat) (i : Int) (v : Value) (ar : List (Int × Int)) (q0 s0 q1 s1 p2 p3 q4 s4 q5 s5 p6 p7 cap ty : Nat)
    (sk sn ek en ck ak an bk bn : Int) (ead aad bad yad lad : Option Addr) (em ec am ac bm bc yc lc : Nat) (e ca cb : Ex) (b l : List St) (b0 b1 hv hc b4 b5 : Bool) (f2 f3 : Value) (hf2 : f2 = if hv = true then .func (.func 63) #[] #[.pointer (some ⟨p2, 0, none⟩)] else .func (.func 62) #[] #[]) (hf3 : f3 = if hc = true then .func (.func 65) #[] #[.pointer (some ⟨p3, 0, none⟩)] else .func (.func 62) #[] #[])
    (hbk : e.nodes + ca.nodes + cb.nodes + St.bulkAll b + St.bulkAll l ≤ N) (hwb : w0.heap.size ≤ wb) (hB0 : Below w0.heap.size w0 X) (hfm : FormsIn w0)
    (he : e.In w0 (.agg #[.int .i64 ek, .int .i64 en, .slice ead em ec])) (hca : ca.In w0 (.agg #[.int .i64 ak, .int .i64 an, .slice aad am ac])) (hcb : cb.In w0 (.agg #[.int .i64 bk, .int .i64 bn, .slice bad bm bc]))
    (hy : St.Sl w0 b (.slice yad b.length yc)) (hl : St.Sl w0 l (.slice lad l.length lc)) (hwk : Wk X wb B i v ar) (hi1 : -1 ≤ i) (hi2 : i + (St.bulkAll b + St.bulkAll l : Nat) ≤ 2097152) (har : ar.length + 1 + (St.bulkAll b + St.bulkAll l) ≤ 2097152)
    (eX : Below X.heap.size X w55) (e12 : Below w12.heap.size w12 w55) (e17 : Below w17.heap.size w17 w55) (e22 : Below w22.heap.size w22 w55) (e28 : Below w28.heap.size w28 w55) (e41 : Below w41.heap.size w41 w55) (e52 : Below w52.heap.size w52 w55) (hx52 : X.heap.size ≤ w52.heap.size)
    (c0 : w12.cell? ⟨q0, 0, none⟩ = some (.bool b0) ∧ w12.cell? ⟨s0, 0, none⟩ = some (.int .i64 3)) (c1 : w17.cell? ⟨q1, 0, none⟩ = some (.bool b1) ∧ w17.cell? ⟨s1, 0, none⟩ = some (.int .i64 6))
    (c2 : w22.cell? ⟨p2, 0, none⟩ = some (.int .i64 ek) ∧ w22.cell? ⟨p2, 1, none⟩ = some (.int .i64 en) ∧ w22.cell? ⟨p2, 2, none⟩ = some (.slice ead em ec))
    (c3 : w28.cell? ⟨p3, 0, none⟩ = some (.int .i64 ck) ∧ w28.cell? ⟨p3, 1, none⟩ = some (.int .i64 ak) ∧ w28.cell? ⟨p3, 2, none⟩ = some (.int .i64 an) ∧ w28.cell? ⟨p3, 3, none⟩ = some (.slice aad am ac) ∧
      w28.cell? ⟨p3, 4, none⟩ = some (.int .i64 bk) ∧ w28.cell? ⟨p3, 5, none⟩ = some (.int .i64 bn) ∧ w28.cell? ⟨p3, 6, none⟩ = some (.slice bad bm bc))
    (c4 : w41.cell? ⟨q4, 0, none⟩ = some (.bool b4) ∧ w41.cell? ⟨s4, 0, none⟩ = some (.int .i64 2)) (c5 : w52.cell? ⟨q5, 0, none⟩ = some (.bool b5) ∧ w52.cell? ⟨s5, 0, none⟩ = some (.int .i64 10))
    (c6 : w55.cell? ⟨p6, 0, none⟩ = some (.pointer (some ⟨wb, 0, none⟩)) ∧
      copyIs w55 p7 (.int .i64 sk) (.int .i64 sn) (.int .i64 ek) (.int .i64 en) (.slice ead em ec) (.int .i64 ck) (.int .i64 ak) (.int .i64 an) (.slice aad am ac) (.int .i64 bk) (.int .i64 bn) (.slice bad bm bc) (.slice yad b.length yc) (.slice lad l.length lc) ∧ w52.heap.size ≤ p6 ∧ w52.heap.size ≤ p7) :
    Calls Tryd.prog 49 #[.slice (some ⟨w55.heap.size, 0, none⟩) 7 cap] (w55.alloc (.cells #[.func (.func 60) #[] #[.pointer (some ⟨q0, 0, none⟩), .pointer (some ⟨s0, 0, none⟩)], .func (.func 60) #[] #[.pointer (some ⟨q1, 0, none⟩), .pointer (some ⟨s1, 0, none⟩)],
        f2, f3,
        .func (.func 60) #[] #[.pointer (some ⟨q4, 0, none⟩), .pointer (some ⟨s4, 0, none⟩)], .func (.func 60) #[] #[.pointer (some ⟨q5, 0, none⟩), .pointer (some ⟨s5, 0, none⟩)], .func (.func 66) #[] #[.pointer (some ⟨p6, 0, none⟩), .pointer (some ⟨p7, 0, none⟩)]] ty))
      fun r w' => r = .returned (.int .i64 (lookR b0 b1 hv hc b4 b5 (e.node 0).1 (condErr ck ca cb) i (chk2 b l (ar ++ [(sk, sn)]) i)).1) ∧ ∃ v', Wk w' wb B (lookR b0 b1 hv hc b4 b5 (e.node 0).1 (condErr ck ca cb) i (chk2 b l (ar ++ [(sk, sn)]) i)).2 v' ar ∧ WR wb X w' v v' ∧ WR wb w55 w' v v' := by
  subst hf2 hf3
  generalize ho : (Obj.cells #[.func (.func 60) #[] #[.pointer (some ⟨q0, 0, none⟩), .pointer (some ⟨s0, 0, none⟩)], .func (.func 60) #[] #[.pointer (some ⟨q1, 0, none⟩), .pointer (some ⟨s1, 0, none⟩)],
        if hv = true then .func (.func 63) #[] #[.pointer (some ⟨p2, 0, none⟩)] else .func (.func 62) #[] #[], if hc = true then .func (.func 65) #[] #[.pointer (some ⟨p3, 0, none⟩)] else .func (.func 62) #[] #[],
        .func (.func 60) #[] #[.pointer (some ⟨q4, 0, none⟩), .pointer (some ⟨s4, 0, none⟩)], .func (.func 60) #[] #[.pointer (some ⟨q5, 0, none⟩), .pointer (some ⟨s5, 0, none⟩)], .func (.func 66) #[] #[.pointer (some ⟨p6, 0, none⟩), .pointer (some ⟨p7, 0, none⟩)]] ty) = o
  have en55 : Below w55.heap.size w55 (w55.alloc o) := (Below.refl _ _).alloc (Nat.le_refl _) o
  have new : ∀ j u, (match o with | .cells cs _ _ => cs[j]? | _ => none) = some u → (w55.alloc o).cell? ⟨w55.heap.size, j, none⟩ = some u := by
    intro j u hu
    subst ho
    unfold World.cell?
    rw [heap_alloc_new]
    simpa using hu
  have lowX : ∀ w', Below (w55.alloc o).heap.size (w55.alloc o) w' → Below X.heap.size X w' := fun w' h => below_seq (below_seq eX en55) h
  have low0 : ∀ w', Below (w55.alloc o).heap.size (w55.alloc o) w' → Below w0.heap.size w0 w' := fun w' h => hB0.trans ((lowX w' h).mono hB0.size)
  have far : ∀ p, w52.heap.size ≤ p → p ≠ wb ∧ some p ≠ v.ownBlock := fun p hp => by
    have h1 := hwk.lt
    have h2 := hwk.le
    refine ⟨by omega, fun e => ?_⟩
    have := (hwk.own_lt p e.symm).2
    omega
  refine (stmt_looks (w55.alloc o) w55.heap.size cap q0 s0 q1 s1 q4 s4 q5 s5 #[.pointer (some ⟨p2, 0, none⟩)] #[.pointer (some ⟨p3, 0, none⟩)] #[.pointer (some ⟨p6, 0, none⟩), .pointer (some ⟨p7, 0, none⟩)] b0 b1 hv hc b4 b5 (e.node 0).1 (condErr ck ca cb) i (chk2 b l (ar ++ [(sk, sn)]) i) wb B v ar
    (hwk.below (below_seq eX en55)) (new 0 _ (by subst ho; rfl)) (new 1 _ (by subst ho; rfl)) (new 2 _ (by subst ho; rfl)) (new 3 _ (by subst ho; rfl)) (new 4 _ (by subst ho; rfl)) (new 5 _ (by subst ho; rfl)) (new 6 _ (by subst ho; rfl))
    ⟨below_cell (below_seq e12 en55) c0.1, below_cell (below_seq e12 en55) c0.2⟩ ⟨below_cell (below_seq e17 en55) c1.1, below_cell (below_seq e17 en55) c1.2⟩ ⟨below_cell (below_seq e41 en55) c4.1, below_cell (below_seq e41 en55) c4.2⟩ ⟨below_cell (below_seq e52 en55) c5.1, below_cell (below_seq e52 en55) c5.2⟩ ?_ ?_ ?_).mono ?_
  · intro w' h
    have k := below_seq (below_seq e22 en55) h
    exact expr1_any e ek en ead em ec p2 w' (by omega) (fun m h1 h2 => ⟨(low0 w' h).cell (World.block_lt_of_cell? _ _ (hfm m h1 h2).1) |>.trans (hfm m h1 h2).1, (low0 w' h).cell (World.block_lt_of_cell? _ _ (hfm m h1 h2).2) |>.trans (hfm m h1 h2).2⟩) (he.below (low0 w' h)) (below_cell k c2.1) (below_cell k c2.2.1) (below_cell k c2.2.2)
  · intro w' h
    have k := below_seq (below_seq e28 en55) h
    exact cond1_any ck ak an bk bn aad bad am ac bm bc p3 ca cb w' ⟨by omega, by omega⟩ (hfm.below (low0 w' h)) (hca.below (low0 w' h)) (hcb.below (low0 w' h)) (below_cell k c3.1) (below_cell k c3.2.1) (below_cell k c3.2.2.1) (below_cell k c3.2.2.2.1) (below_cell k c3.2.2.2.2.1) (below_cell k c3.2.2.2.2.2.1) (below_cell k c3.2.2.2.2.2.2)
  · intro w' h
    have k := below_seq en55 h
    exact inner1_of_list w0 N hL w' wb B p6 p7 i v b l ar sk sn ek en ck ak an bk bn ead aad bad yad lad em ec am ac bm bc yc lc (by omega) hwb (low0 w' h) hy hl (hwk.below (lowX w' h)) hi1 hi2 har
      ((k.block _ c6.2.1.lt).trans c6.2.1) (below_cell k c6.1) (far _ c6.2.2.1) (far _ c6.2.2.2)
  · rintro r w' ⟨rfl, v', hk', hr'⟩
    exact ⟨rfl, v', hk', (WR.of_below (below_seq eX en55)).trans hr', (WR.of_below en55).trans hr'⟩
end Go.Proofs.YtikdidfgdiafoabDoor
namespace Go.Proofs.YtikdidfgdiafoabDoor
open Go.ChangeShapes Go.WideShapes Go.ChangeAt Go.RowKit

theorem gShapes : Tryd.prog.globalNamed "punctual/tongue.shapes" = some 0 := by kernel_rfl
theorem gForms : Tryd.prog.globalNamed "punctual/tongue.forms" = some 1 := by kernel_rfl
theorem tShapes : (Tryd.prog.globals[0]?).map (·.type) = some 106 := by kernel_rfl
theorem tForms : (Tryd.prog.globals[1]?).map (·.type) = some 121 := by kernel_rfl
theorem laidCellsF : Tryd.prog.cellsOf 120 = 2 := by kernel_rfl
theorem laidCells66 : Tryd.prog.cellsOf 105 = 6 := by kernel_rfl
theorem laidCells67 : Tryd.prog.cellsOf 106 = 48 := by kernel_rfl
theorem laidCells3 : Tryd.prog.cellsOf 3 = 1 := by kernel_rfl
theorem laidCells4 : Tryd.prog.cellsOf 4 = 1 := by kernel_rfl

section
variable {H : Type} {enc : TypeId × Value → H} {w : World} {base : Nat} {sp : Nat → Bool} {held : Bool}

theorem one_at {cs : List Value} {o k j : Nat} {c : Value} (hj : j < k) (h : (((cs.drop o).take k).drop j).take 1 = [c]) : cs[o + j]? = some c := by
  have h0 : ((((cs.drop o).take k).drop j).take 1)[0]? = some c := by rw [h]; rfl
  rw [List.getElem?_take_of_lt (by omega), List.getElem?_drop, List.getElem?_take_of_lt (by omega), List.getElem?_drop] at h0
  simpa using h0

theorem int_at {cs : List Value} {o k j n : Nat} {z : Int} {y : DataW H × List MemPlace} (hj : j < k) (h : DataW.trod enc Tryd.prog w base sp held n 3 ((((cs.drop o).take k).drop j).take 1) = some y) (hy : y.1 = .lit (.int .i64 z)) : cs[o + j]? = some (.int .i64 z) := by
  obtain ⟨m, h1, rfl, -⟩ := DataW.trod_int Tryd.underlying3 h
  simp at hy
  subst hy
  exact one_at hj h1

theorem bool_at {cs : List Value} {o k j n : Nat} {z : Bool} {y : DataW H × List MemPlace} (hj : j < k) (h : DataW.trod enc Tryd.prog w base sp held n 4 ((((cs.drop o).take k).drop j).take 1) = some y) (hy : y.1 = .lit (.bool z)) : cs[o + j]? = some (.bool z) := by
  obtain ⟨m, h1, rfl⟩ := DataW.trod_bool Tryd.underlying4 h
  simp at hy
  subst hy
  exact one_at hj h1

/-- A row of the table of statements' shapes. -/
theorem row66 {cs : List Value} {o n : Nat} {k0 k1 : Int} {b2 b3 b4 b5 : Bool} {y : DataW H × List MemPlace} (h : DataW.trod enc Tryd.prog w base sp held n 105 ((cs.drop o).take 6) = some y)
    (hy : y.1 = .agg [.lit (.int .i64 k0), .lit (.int .i64 k1), .lit (.bool b2), .lit (.bool b3), .lit (.bool b4), .lit (.bool b5)]) :
    cs[o]? = some (.int .i64 k0) ∧ cs[o + 1]? = some (.int .i64 k1) ∧ cs[o + 2]? = some (.bool b2) ∧ cs[o + 3]? = some (.bool b3) ∧ cs[o + 4]? = some (.bool b4) ∧ cs[o + 5]? = some (.bool b5) := by
  obtain ⟨xs, n1, rfl, rfl, -, hlen, hf⟩ := DataW.trod_struct Tryd.underlying105 h
  match xs, hlen with
  | [y0, y1, y2, y3, y4, y5], _ =>
    simp only [List.map_cons, List.map_nil, DataW.agg.injEq, List.cons.injEq, and_true] at hy
    obtain ⟨e0, e1, e2, e3, e4, e5⟩ := hy
    have f0 : DataW.trod enc Tryd.prog w base sp held n1 3 ((((cs.drop o).take 6).drop 0).take (Tryd.prog.cellsOf 3)) = some y0 := hf 0 _ rfl
    have f1 : DataW.trod enc Tryd.prog w base sp held n1 3 ((((cs.drop o).take 6).drop 1).take (Tryd.prog.cellsOf 3)) = some y1 := hf 1 _ rfl
    have f2 : DataW.trod enc Tryd.prog w base sp held n1 4 ((((cs.drop o).take 6).drop 2).take (Tryd.prog.cellsOf 4)) = some y2 := hf 2 _ rfl
    have f3 : DataW.trod enc Tryd.prog w base sp held n1 4 ((((cs.drop o).take 6).drop 3).take (Tryd.prog.cellsOf 4)) = some y3 := hf 3 _ rfl
    have f4 : DataW.trod enc Tryd.prog w base sp held n1 4 ((((cs.drop o).take 6).drop 4).take (Tryd.prog.cellsOf 4)) = some y4 := hf 4 _ rfl
    have f5 : DataW.trod enc Tryd.prog w base sp held n1 4 ((((cs.drop o).take 6).drop 5).take (Tryd.prog.cellsOf 4)) = some y5 := hf 5 _ rfl
    rw [laidCells3] at f0 f1
    rw [laidCells4] at f2 f3 f4 f5
    exact ⟨int_at (by omega) f0 e0, int_at (by omega) f1 e1, bool_at (by omega) f2 e2, bool_at (by omega) f3 e3, bool_at (by omega) f4 e4, bool_at (by omega) f5 e5⟩
/-- A row of the table of expressions' forms. -/
theorem rowF {cs : List Value} {o n : Nat} {k0 k1 : Int} {y : DataW H × List MemPlace} (h : DataW.trod enc Tryd.prog w base sp held n 120 ((cs.drop o).take 2) = some y) (hy : y.1 = .agg [.lit (.int .i64 k0), .lit (.int .i64 k1)]) :
    cs[o]? = some (.int .i64 k0) ∧ cs[o + 1]? = some (.int .i64 k1) := by
  obtain ⟨xs, n1, rfl, rfl, -, hlen, hf⟩ := DataW.trod_struct Tryd.underlying120 h
  match xs, hlen with
  | [y0, y1], _ =>
    simp only [List.map_cons, List.map_nil, DataW.agg.injEq, List.cons.injEq, and_true] at hy
    obtain ⟨e0, e1⟩ := hy
    have f0 : DataW.trod enc Tryd.prog w base sp held n1 3 ((((cs.drop o).take 2).drop 0).take (Tryd.prog.cellsOf 3)) = some y0 := hf 0 _ rfl
    have f1 : DataW.trod enc Tryd.prog w base sp held n1 3 ((((cs.drop o).take 2).drop 1).take (Tryd.prog.cellsOf 3)) = some y1 := hf 1 _ rfl
    rw [laidCells3] at f0 f1
    exact ⟨int_at (by omega) f0 e0, int_at (by omega) f1 e1⟩
end

/-- What the listed variables hold. -/
theorem of_laid {W : World} (h : laidMetH Tryd.prog Rows.meaningRunsUptoRow.laid W) : ShapesIn W ∧ FormsIn W := by
  rw [MakeChecks.laidMetH_plain _ _ _ (by kernel_rfl)] at h
  obtain ⟨ps, ⟨g0, t0, cs0, f0, p0, q0, hg0, ht0, hv0, hd0, ⟨g1, t1, cs1, f1, p1, q1, hg1, ht1, hv1, hd1, _, _⟩, _⟩, _, _⟩ := h
  obtain rfl := Option.some.inj (gShapes.symm.trans hg0)
  obtain rfl := Option.some.inj (gForms.symm.trans hg1)
  obtain rfl := Option.some.inj (tShapes.symm.trans ht0)
  obtain rfl := Option.some.inj (tForms.symm.trans ht1)
  have c0 : ∀ j, W.cell? ⟨0, j, none⟩ = cs0[j]? := World.var?_cell hg0 hv0
  have c1 : ∀ j, W.cell? ⟨1, j, none⟩ = cs1[j]? := World.var?_cell hg1 hv1
  obtain ⟨xs, m0, rfl, hx, -, hn, hel⟩ := DataW.trod_array Tryd.underlying106 hd0
  obtain ⟨zs, m1, rfl, hz, -, hnz, hez⟩ := DataW.trod_array Tryd.underlying121 hd1
  simp only [laidCells66] at hel
  simp only [laidCellsF] at hez
  match xs, hn with
  | [x0, x1, x2, x3, x4, x5, x6, x7], _ =>
    match zs, hnz with
    | [z0, z1, z2, z3, z4, z5, z6, z7], _ =>
      simp only [Rows.laid_punctual_tongue_shapes, Prod.mk.injEq, DataW.agg.injEq, List.map_cons, List.map_nil, List.cons.injEq, and_true] at hx
      simp only [Rows.laid_punctual_tongue_forms, Prod.mk.injEq, DataW.agg.injEq, List.map_cons, List.map_nil, List.cons.injEq, and_true] at hz
      obtain ⟨⟨ex0, ex1, ex2, ex3, ex4, ex5, ex6, ex7⟩, -⟩ := hx
      obtain ⟨⟨ez0, ez1, ez2, ez3, ez4, ez5, ez6, ez7⟩, -⟩ := hz
      have a0 : ∀ j u, cs0.toList[j]? = some u → W.cell? ⟨0, j, none⟩ = some u := fun j u hu => by rw [c0]; simpa using hu
      have a1 : ∀ j u, cs1.toList[j]? = some u → W.cell? ⟨1, j, none⟩ = some u := fun j u hu => by rw [c1]; simpa using hu
      refine ⟨fun m h1 h2 => ?_, fun m h1 h2 => ?_⟩
      · match m, h1, h2 with
        | 1, _, _ =>
          have r := row66 (o := 1 * 6) (show DataW.trod _ Tryd.prog W 0 _ _ m0 105 ((cs0.toList.drop (1 * 6)).take 6) = some x1 from hel 1 (by omega)) ex1.symm
          exact ⟨a0 _ _ r.1, a0 _ _ r.2.1, a0 _ _ r.2.2.1, a0 _ _ r.2.2.2.1, a0 _ _ r.2.2.2.2.1, a0 _ _ r.2.2.2.2.2⟩
        | 2, _, _ =>
          have r := row66 (o := 2 * 6) (show DataW.trod _ Tryd.prog W 0 _ _ m0 105 ((cs0.toList.drop (2 * 6)).take 6) = some x2 from hel 2 (by omega)) ex2.symm
          exact ⟨a0 _ _ r.1, a0 _ _ r.2.1, a0 _ _ r.2.2.1, a0 _ _ r.2.2.2.1, a0 _ _ r.2.2.2.2.1, a0 _ _ r.2.2.2.2.2⟩
        | 3, _, _ =>
          have r := row66 (o := 3 * 6) (show DataW.trod _ Tryd.prog W 0 _ _ m0 105 ((cs0.toList.drop (3 * 6)).take 6) = some x3 from hel 3 (by omega)) ex3.symm
          exact ⟨a0 _ _ r.1, a0 _ _ r.2.1, a0 _ _ r.2.2.1, a0 _ _ r.2.2.2.1, a0 _ _ r.2.2.2.2.1, a0 _ _ r.2.2.2.2.2⟩
        | 4, _, _ =>
          have r := row66 (o := 4 * 6) (show DataW.trod _ Tryd.prog W 0 _ _ m0 105 ((cs0.toList.drop (4 * 6)).take 6) = some x4 from hel 4 (by omega)) ex4.symm
          exact ⟨a0 _ _ r.1, a0 _ _ r.2.1, a0 _ _ r.2.2.1, a0 _ _ r.2.2.2.1, a0 _ _ r.2.2.2.2.1, a0 _ _ r.2.2.2.2.2⟩
        | 5, _, _ =>
          have r := row66 (o := 5 * 6) (show DataW.trod _ Tryd.prog W 0 _ _ m0 105 ((cs0.toList.drop (5 * 6)).take 6) = some x5 from hel 5 (by omega)) ex5.symm
          exact ⟨a0 _ _ r.1, a0 _ _ r.2.1, a0 _ _ r.2.2.1, a0 _ _ r.2.2.2.1, a0 _ _ r.2.2.2.2.1, a0 _ _ r.2.2.2.2.2⟩
        | 6, _, _ =>
          have r := row66 (o := 6 * 6) (show DataW.trod _ Tryd.prog W 0 _ _ m0 105 ((cs0.toList.drop (6 * 6)).take 6) = some x6 from hel 6 (by omega)) ex6.symm
          exact ⟨a0 _ _ r.1, a0 _ _ r.2.1, a0 _ _ r.2.2.1, a0 _ _ r.2.2.2.1, a0 _ _ r.2.2.2.2.1, a0 _ _ r.2.2.2.2.2⟩
        | 7, _, _ =>
          have r := row66 (o := 7 * 6) (show DataW.trod _ Tryd.prog W 0 _ _ m0 105 ((cs0.toList.drop (7 * 6)).take 6) = some x7 from hel 7 (by omega)) ex7.symm
          exact ⟨a0 _ _ r.1, a0 _ _ r.2.1, a0 _ _ r.2.2.1, a0 _ _ r.2.2.2.1, a0 _ _ r.2.2.2.2.1, a0 _ _ r.2.2.2.2.2⟩
      · match m, h1, h2 with
        | 1, _, _ =>
          have r := rowF (o := 1 * 2) (show DataW.trod _ Tryd.prog W 0 _ _ m1 120 ((cs1.toList.drop (1 * 2)).take 2) = some z1 from hez 1 (by omega)) ez1.symm
          exact ⟨a1 _ _ r.1, a1 _ _ r.2⟩
        | 2, _, _ =>
          have r := rowF (o := 2 * 2) (show DataW.trod _ Tryd.prog W 0 _ _ m1 120 ((cs1.toList.drop (2 * 2)).take 2) = some z2 from hez 2 (by omega)) ez2.symm
          exact ⟨a1 _ _ r.1, a1 _ _ r.2⟩
        | 3, _, _ =>
          have r := rowF (o := 3 * 2) (show DataW.trod _ Tryd.prog W 0 _ _ m1 120 ((cs1.toList.drop (3 * 2)).take 2) = some z3 from hez 3 (by omega)) ez3.symm
          exact ⟨a1 _ _ r.1, a1 _ _ r.2⟩
        | 4, _, _ =>
          have r := rowF (o := 4 * 2) (show DataW.trod _ Tryd.prog W 0 _ _ m1 120 ((cs1.toList.drop (4 * 2)).take 2) = some z4 from hez 4 (by omega)) ez4.symm
          exact ⟨a1 _ _ r.1, a1 _ _ r.2⟩
        | 5, _, _ =>
          have r := rowF (o := 5 * 2) (show DataW.trod _ Tryd.prog W 0 _ _ m1 120 ((cs1.toList.drop (5 * 2)).take 2) = some z5 from hez 5 (by omega)) ez5.symm
          exact ⟨a1 _ _ r.1, a1 _ _ r.2⟩
        | 6, _, _ =>
          have r := rowF (o := 6 * 2) (show DataW.trod _ Tryd.prog W 0 _ _ m1 120 ((cs1.toList.drop (6 * 2)).take 2) = some z6 from hez 6 (by omega)) ez6.symm
          exact ⟨a1 _ _ r.1, a1 _ _ r.2⟩
        | 7, _, _ =>
          have r := rowF (o := 7 * 2) (show DataW.trod _ Tryd.prog W 0 _ _ m1 120 ((cs1.toList.drop (7 * 2)).take 2) = some z7 from hez 7 (by omega)) ez7.symm
          exact ⟨a1 _ _ r.1, a1 _ _ r.2⟩
end Go.Proofs.YtikdidfgdiafoabDoor
namespace Go.Proofs.YtikdidfgdiafoabDoor
open Go.ChangeShapes Go.WideShapes Go.ChangeAt Go.RowKit

/-- Sixty-four bits, going round. -/
def wr (z : Int) : Int := wrap64 z

/-- What an operator makes of its operands. -/
def opVal (k n : Int) (vs is l : List Int) : Int :=
  if k = 1 then n else if k = 2 then vs.getD n.toNat 0 else if k = 3 then is.getD n.toNat 0 else if k = 4 then wr (-(l.getD 0 0))
  else if k = 5 then wr (l.getD 0 0 + l.getD 1 0) else if k = 6 then wr (l.getD 0 0 - l.getD 1 0) else wr (l.getD 0 0 * l.getD 1 0)

/- What an expression is. -/
mutual
def Ex.val (vs is : List Int) : Ex → Int
  | .mk k n a => opVal k n vs is (Ex.vals vs is a)
def Ex.vals (vs is : List Int) : List Ex → List Int
  | [] => []
  | x :: r => x.val vs is :: Ex.vals vs is r
end

/-- Does a condition hold? -/
def condVal (ck : Int) (x y : Int) : Bool := if ck = 1 then decide (x < y) else if ck = 2 then decide (x = y) else if ck = 3 then decide (x ≠ y) else decide (y ≤ x)

/-- A run, so far. -/
structure Ms where
  vars : List Int
  puts : List (Int × Int)
  steps : Nat

/-- Again and again, as long as it may. -/
def again (c : Ms → Bool) (f : Ms → Ms × Option Nat) : Nat → Ms → Ms × Option Nat
  | 0, s => (s, none)
  | n + 1, s => if c s then (match f s with | (s', some z) => (s', some z) | (s', none) => again c f n s') else (s, none)

def condOf (is : List Int) (ck : Int) (ca cb : Ex) (s : Ms) : Bool := condVal ck (ca.val s.vars is) (cb.val s.vars is)

/- What a statement does; told too: the number of the statement at which there was a step too many. -/
mutual
def St.run (is : List Int) : St → Nat → Ms → Ms × Option Nat
  | .mk k n e ck ca cb b l, at_, s =>
    if s.steps = 20000 then (s, some at_) else
    if k = 1 then ({ s with steps := s.steps + 1, vars := s.vars.set n.toNat (e.val s.vars is) }, none)
    else if k = 2 then ({ s with steps := s.steps + 1, puts := s.puts ++ [(n, e.val s.vars is)] }, none)
    else if k = 3 then (if condOf is ck ca cb s then St.runAll is b (at_ + 1) { s with steps := s.steps + 1 } else St.runAll is l (at_ + 1 + St.countAll b) { s with steps := s.steps + 1 })
    else if k = 4 then again (fun _ => true) (fun s => St.runAll is b (at_ + 1) s) n.toNat { s with steps := s.steps + 1 }
    else if k = 5 then again (condOf is ck ca cb) (fun s => St.runAll is b (at_ + 1) s) n.toNat { s with steps := s.steps + 1 }
    else if k = 6 then St.runAll is b (at_ + 1) { s with steps := s.steps + 1 }
    else ({ s with steps := s.steps + 1 }, none)
def St.runAll (is : List Int) : List St → Nat → Ms → Ms × Option Nat
  | [], _, s => (s, none)
  | x :: r, at_, s => match St.run is x at_ s with
    | (s', some z) => (s', some z)
    | (s', none) => St.runAll is r (at_ + x.count) s'
end

theorem again_nil (c : Ms → Bool) (is : List Int) (at_ : Nat) : ∀ (n : Nat) (s : Ms), again c (fun s => St.runAll is [] at_ s) n s = (s, none)
  | 0, s => rfl
  | n + 1, s => by
    unfold again
    by_cases h : c s
    · rw [if_pos h]
      simp only [St.runAll]
      exact again_nil c is at_ n s
    · rw [if_neg h]

/- What a run leaves of its kind: eight variables, never fewer steps. -/
theorem again_keep {c : Ms → Bool} {f : Ms → Ms × Option Nat} (hf : ∀ s, s.vars.length = 8 → (f s).1.vars.length = 8 ∧ (s.steps ≤ 20000 → (f s).1.steps ≤ 20000) ∧ s.steps ≤ (f s).1.steps) : ∀ (n : Nat) (s : Ms), s.vars.length = 8 → (again c f n s).1.vars.length = 8 ∧ (s.steps ≤ 20000 → (again c f n s).1.steps ≤ 20000) ∧ s.steps ≤ (again c f n s).1.steps
  | 0, s, h => ⟨h, id, Nat.le_refl _⟩
  | n + 1, s, h => by
    unfold again
    by_cases hc : c s
    · rw [if_pos hc]
      have h1 := hf s h
      rcases hr : f s with ⟨s', _ | z⟩
      · rw [hr] at h1
        have h2 := again_keep (c := c) hf n s' h1.1
        exact ⟨h2.1, fun h => h2.2.1 (h1.2.1 h), Nat.le_trans h1.2.2 h2.2.2⟩
      · rw [hr] at h1
        exact h1
    · rw [if_neg hc]
      exact ⟨h, id, Nat.le_refl _⟩

mutual
theorem St.run_keep (is : List Int) : ∀ (x : St) (at_ : Nat) (s : Ms), s.vars.length = 8 → (St.run is x at_ s).1.vars.length = 8 ∧ (s.steps ≤ 20000 → (St.run is x at_ s).1.steps ≤ 20000) ∧ s.steps ≤ (St.run is x at_ s).1.steps
  | .mk k n e ck ca cb b l, at_, s, h => by
    unfold St.run
    by_cases h0 : s.steps = 20000
    · rw [if_pos h0]; exact ⟨h, id, Nat.le_refl _⟩
    rw [if_neg h0]
    have next : ∀ (r : Ms × Option Nat) (t : Ms), t.steps = s.steps + 1 → (r.1.vars.length = 8 ∧ (t.steps ≤ 20000 → r.1.steps ≤ 20000) ∧ t.steps ≤ r.1.steps) → (r.1.vars.length = 8 ∧ (s.steps ≤ 20000 → r.1.steps ≤ 20000) ∧ s.steps ≤ r.1.steps) :=
      fun r t ht ⟨a, b, c⟩ => ⟨a, fun h => b (by omega), by omega⟩
    split
    · exact ⟨by simpa using h, fun h => by simp only; omega, by simp only; omega⟩
    split
    · exact ⟨h, fun h => by simp only; omega, by simp only; omega⟩
    split
    · split
      · exact next _ _ rfl (St.runAll_keep is b _ { s with steps := s.steps + 1 } h)
      · exact next _ _ rfl (St.runAll_keep is l _ { s with steps := s.steps + 1 } h)
    split
    · exact next _ _ rfl (again_keep (fun s hs => St.runAll_keep is b _ s hs) _ { s with steps := s.steps + 1 } h)
    split
    · exact next _ _ rfl (again_keep (fun s hs => St.runAll_keep is b _ s hs) _ { s with steps := s.steps + 1 } h)
    split
    · exact next _ _ rfl (St.runAll_keep is b _ { s with steps := s.steps + 1 } h)
    · exact ⟨h, fun h => by simp only; omega, by simp only; omega⟩
theorem St.runAll_keep (is : List Int) : ∀ (a : List St) (at_ : Nat) (s : Ms), s.vars.length = 8 → (St.runAll is a at_ s).1.vars.length = 8 ∧ (s.steps ≤ 20000 → (St.runAll is a at_ s).1.steps ≤ 20000) ∧ s.steps ≤ (St.runAll is a at_ s).1.steps
  | [], at_, s, h => by unfold St.runAll; exact ⟨h, id, Nat.le_refl _⟩
  | x :: r, at_, s, h => by
    have h1 := St.run_keep is x at_ s h
    unfold St.runAll
    rcases hr : St.run is x at_ s with ⟨s', _ | z⟩
    · rw [hr] at h1
      have h2 := St.runAll_keep is r (at_ + x.count) s' h1.1
      exact ⟨h2.1, fun h => h2.2.1 (h1.2.1 h), Nat.le_trans h1.2.2 h2.2.2⟩
    · rw [hr] at h1
      exact h1
end

/-- One body behind another is both. -/
theorem St.runAll_append (is : List Int) : ∀ (a b : List St) (at_ : Nat) (s : Ms), St.runAll is (a ++ b) at_ s = match St.runAll is a at_ s with | (s', some z) => (s', some z) | (s', none) => St.runAll is b (at_ + St.countAll a) s'
  | [], b, at_, s => by simp [St.runAll, St.countAll]
  | x :: r, b, at_, s => by
    simp only [List.cons_append, St.runAll]
    rcases hr : St.run is x at_ s with ⟨s', _ | z⟩
    · simp only
      rw [St.runAll_append is r b (at_ + x.count) s']
      simp [St.countAll, Nat.add_assoc]
    · rfl
end Go.Proofs.YtikdidfgdiafoabDoor
namespace Go.Proofs.YtikdidfgdiafoabDoor

theorem again_puts {c : Ms → Bool} {f : Ms → Ms × Option Nat} (hf : ∀ s, s.puts.length ≤ s.steps → (f s).1.puts.length ≤ (f s).1.steps) : ∀ (n : Nat) (s : Ms), s.puts.length ≤ s.steps → (again c f n s).1.puts.length ≤ (again c f n s).1.steps
  | 0, s, h => h
  | n + 1, s, h => by
    unfold again
    by_cases hc : c s
    · rw [if_pos hc]
      have h1 := hf s h
      rcases hr : f s with ⟨s', _ | z⟩
      · rw [hr] at h1
        exact again_puts (c := c) hf n s' h1
      · rw [hr] at h1
        exact h1
    · rw [if_neg hc]
      exact h

mutual
theorem St.run_puts (is : List Int) : ∀ (x : St) (at_ : Nat) (s : Ms), s.puts.length ≤ s.steps → (St.run is x at_ s).1.puts.length ≤ (St.run is x at_ s).1.steps
  | .mk k n e ck ca cb b l, at_, s, h => by
    unfold St.run
    by_cases h0 : s.steps = 20000
    · rw [if_pos h0]; exact h
    rw [if_neg h0]
    have hn : ({ s with steps := s.steps + 1 } : Ms).puts.length ≤ ({ s with steps := s.steps + 1 } : Ms).steps := by simp only; omega
    split
    · exact hn
    split
    · simp; omega
    split
    · split
      · exact St.runAll_puts is b _ _ hn
      · exact St.runAll_puts is l _ _ hn
    split
    · exact again_puts (fun s hs => St.runAll_puts is b _ s hs) _ _ hn
    split
    · exact again_puts (fun s hs => St.runAll_puts is b _ s hs) _ _ hn
    split
    · exact St.runAll_puts is b _ _ hn
    · exact hn
theorem St.runAll_puts (is : List Int) : ∀ (a : List St) (at_ : Nat) (s : Ms), s.puts.length ≤ s.steps → (St.runAll is a at_ s).1.puts.length ≤ (St.runAll is a at_ s).1.steps
  | [], at_, s, h => by unfold St.runAll; exact h
  | x :: r, at_, s, h => by
    have h1 := St.run_puts is x at_ s h
    unfold St.runAll
    rcases hr : St.run is x at_ s with ⟨s', _ | z⟩
    · rw [hr] at h1
      exact St.runAll_puts is r (at_ + x.count) s' h1
    · rw [hr] at h1
      exact h1
end

/-- What is left of a loop. -/
def loopRest (c : Ms → Bool) (f : Ms → Ms × Option Nat) (m : Nat) : Ms × Option Nat → Ms × Option Nat
  | (s, none) => again c f m s
  | (s, some z) => (s, some z)

theorem loopRest_step {c : Ms → Bool} {f : Ms → Ms × Option Nat} {m : Nat} {s : Ms} (hc : c s = true) : loopRest c f (m + 1) (s, none) = loopRest c f m (f s) := by
  show again c f (m + 1) s = _
  rw [again, if_pos hc]
  rcases f s with ⟨s', _ | z⟩ <;> rfl

theorem loopRest_stop {c : Ms → Bool} {f : Ms → Ms × Option Nat} {m : Nat} {s : Ms} (hc : c s = false) : loopRest c f m (s, none) = (s, none) := by
  show again c f m s = _
  cases m with
  | zero => rfl
  | succ m => rw [again, if_neg (by simp [hc])]

theorem loopRest_zero {c : Ms → Bool} {f : Ms → Ms × Option Nat} (r : Ms × Option Nat) : loopRest c f 0 r = r := by
  rcases r with ⟨s, _ | z⟩ <;> rfl
end Go.Proofs.YtikdidfgdiafoabDoor
namespace Go.Proofs.YtikdidfgdiafoabDoor
open Go.ChangeShapes Go.WideShapes Go.ChangeAt Go.RowKit

/-- A statement at its number: where its Else begins, and what is behind it. -/
structure Nd where
  s : St
  o : Nat
  n : Nat

mutual
def St.num : St → Nat → List Nd
  | .mk k n e ck ca cb b l, at_ => ⟨.mk k n e ck ca cb b l, at_ + 1 + St.countAll b, at_ + 1 + St.countAll b + St.countAll l⟩ :: (St.numAll b (at_ + 1) ++ St.numAll l (at_ + 1 + St.countAll b))
def St.numAll : List St → Nat → List Nd
  | [], _ => []
  | x :: r, at_ => St.num x at_ ++ St.numAll r (at_ + x.count)
end

mutual
theorem St.num_length : ∀ (x : St) (at_ : Nat), (St.num x at_).length = x.count
  | .mk k n e ck ca cb b l, at_ => by
    unfold St.num St.count
    simp only [List.length_cons, List.length_append, St.numAll_length b, St.numAll_length l]
    omega
theorem St.numAll_length : ∀ (a : List St) (at_ : Nat), (St.numAll a at_).length = St.countAll a
  | [], at_ => by simp [St.numAll, St.countAll]
  | x :: r, at_ => by
    unfold St.numAll St.countAll
    simp only [List.length_append, St.num_length x, St.numAll_length r]
end

theorem numAll_take : ∀ (a : List St) (j : Nat) (h : j < a.length) (at_ : Nat), St.numAll (a.take (j + 1)) at_ = St.numAll (a.take j) at_ ++ St.num a[j] (at_ + St.countAll (a.take j))
  | [], j, h, _ => by simp at h
  | x :: r, 0, h, at_ => by simp [St.numAll, St.countAll]
  | x :: r, j + 1, h, at_ => by
    have := numAll_take r j (by simpa using h) (at_ + x.count)
    simp only [List.take_succ_cons, St.numAll, List.getElem_cons_succ, St.countAll, List.append_assoc]
    rw [this, Nat.add_assoc]

/-- Numbered statements as the cells of a row. -/
def Nd.Cells (w0 : World) : List Nd → List Value → Prop
  | [], xs => xs = []
  | f :: r, xs => ∃ x : Nat → Value, ∃ ys, xs = [x 0, x 1, x 2, x 3, x 4, x 5, x 6, x 7, x 8, x 9, x 10, x 11, x 12, x 13, .int .i64 f.o, .int .i64 f.n] ++ ys ∧ f.s.In w0 (stVal x) ∧ Nd.Cells w0 r ys

theorem Nd.Cells.append {w0 : World} : ∀ (a b : List Nd) {xs ys : List Value}, Nd.Cells w0 a xs → Nd.Cells w0 b ys → Nd.Cells w0 (a ++ b) (xs ++ ys)
  | [], b, xs, ys, h, h' => by unfold Nd.Cells at h; subst h; exact h'
  | e :: r, b, xs, ys, h, h' => by
    obtain ⟨x, zs, rfl, h1, h3⟩ := h
    exact ⟨x, zs ++ ys, by simp, h1, Nd.Cells.append r b h3 h'⟩

theorem Nd.Cells.len {w0 : World} : ∀ (a : List Nd) {xs : List Value}, Nd.Cells w0 a xs → xs.length = a.length * 16
  | [], _, h => by unfold Nd.Cells at h; subst h; rfl
  | e :: r, xs, h => by
    obtain ⟨x, zs, rfl, h1, h3⟩ := h
    have := Nd.Cells.len r h3
    simp; omega

theorem Nd.Cells.split {w0 : World} : ∀ (a b : List Nd) {xs : List Value}, Nd.Cells w0 (a ++ b) xs → ∃ ys zs, xs = ys ++ zs ∧ Nd.Cells w0 a ys ∧ Nd.Cells w0 b zs
  | [], b, xs, h => ⟨[], xs, rfl, rfl, h⟩
  | e :: r, b, xs, h => by
    obtain ⟨x, zs, rfl, h1, h3⟩ := h
    obtain ⟨ys, zs', rfl, g1, g2⟩ := Nd.Cells.split r b h3
    exact ⟨_, zs', by simp, ⟨x, ys, rfl, h1, g1⟩, g2⟩

theorem set_mid {α : Type} (ys zs : List α) (i : Nat) (u : α) : (ys ++ zs).set (ys.length + i) u = ys ++ zs.set i u := by
  rw [List.set_append, if_neg (by omega), Nat.add_sub_cancel_left]

theorem Nd.Cells.setO {w0 : World} {a b : List Nd} {f : Nd} {xs : List Value} (h : Nd.Cells w0 (a ++ f :: b) xs) (o : Nat) : Nd.Cells w0 (a ++ ⟨f.s, o, f.n⟩ :: b) (xs.set (a.length * 16 + 14) (.int .i64 o)) := by
  obtain ⟨ys, zs, rfl, h1, x, zs', rfl, h2, h3⟩ := Nd.Cells.split a (f :: b) h
  rw [← h1.len, set_mid]
  exact Nd.Cells.append a _ h1 ⟨x, zs', by simp, h2, h3⟩

theorem Nd.Cells.setN {w0 : World} {a b : List Nd} {f : Nd} {xs : List Value} (h : Nd.Cells w0 (a ++ f :: b) xs) (n : Nat) : Nd.Cells w0 (a ++ ⟨f.s, f.o, n⟩ :: b) (xs.set (a.length * 16 + 15) (.int .i64 n)) := by
  obtain ⟨ys, zs, rfl, h1, x, zs', rfl, h2, h3⟩ := Nd.Cells.split a (f :: b) h
  rw [← h1.len, set_mid]
  exact Nd.Cells.append a _ h1 ⟨x, zs', by simp, h2, h3⟩

/-- The cells of one entry. -/
theorem Nd.Cells.at {w0 : World} {a b : List Nd} {f : Nd} {xs : List Value} (h : Nd.Cells w0 (a ++ f :: b) xs) : ∃ x : Nat → Value, f.s.In w0 (stVal x) ∧ (∀ i, i < 14 → xs[a.length * 16 + i]? = some (x i)) ∧ xs[a.length * 16 + 14]? = some (.int .i64 f.o) ∧ xs[a.length * 16 + 15]? = some (.int .i64 f.n) := by
  obtain ⟨ys, zs, rfl, h1, x, zs', rfl, h2, h3⟩ := Nd.Cells.split a (f :: b) h
  have at_ : ∀ i u, ([x 0, x 1, x 2, x 3, x 4, x 5, x 6, x 7, x 8, x 9, x 10, x 11, x 12, x 13, .int .i64 f.o, .int .i64 f.n] ++ zs')[i]? = some u → (ys ++ ([x 0, x 1, x 2, x 3, x 4, x 5, x 6, x 7, x 8, x 9, x 10, x 11, x 12, x 13, .int .i64 f.o, .int .i64 f.n] ++ zs'))[a.length * 16 + i]? = some u := by
    intro i u hu
    rw [← h1.len, List.getElem?_append_right (by omega), show ys.length + i - ys.length = i by omega]
    exact hu
  refine ⟨x, h2, fun i hi => at_ i _ ?_, at_ 14 _ rfl, at_ 15 _ rfl⟩
  match i, hi with
  | 0, _ | 1, _ | 2, _ | 3, _ | 4, _ | 5, _ | 6, _ | 7, _ | 8, _ | 9, _ | 10, _ | 11, _ | 12, _ | 13, _ => rfl

/-- A row that has grown. -/
structure GR (w w' : World) (v v' : Value) : Prop where
  os : w'.os = w.os
  tape : w'.tape = w.tape
  output : w'.output = w.output
  size : w.heap.size ≤ w'.heap.size
  block : ∀ k, k < w.heap.size → some k ≠ v.ownBlock → w'.heap[k]? = w.heap[k]?
  own : v'.ownBlock = v.ownBlock ∨ ∀ k, v'.ownBlock = some k → w.heap.size ≤ k

theorem GR.refl (w : World) (v : Value) : GR w w v v := ⟨rfl, rfl, rfl, Nat.le_refl _, fun _ _ _ => rfl, .inl rfl⟩

theorem GR.trans {a b c : World} {u v x : Value} (h : GR a b u v) (h' : GR b c v x) : GR a c u x := by
  refine ⟨h'.os.trans h.os, h'.tape.trans h.tape, h'.output.trans h.output, Nat.le_trans h.size h'.size, fun k hk h2 => ?_, ?_⟩
  · refine (h'.block k (by have := h.size; omega) fun e => ?_).trans (h.block k hk h2)
    rcases h.own with ho | ho
    · exact h2 (e.trans ho)
    · have := ho k e.symm; omega
  · rcases h'.own with ho' | ho'
    · rw [ho']; exact h.own
    · right; intro k hk; have := ho' k hk; have := h.size; omega

theorem GR.of_below {a b : World} {v : Value} (h : Below a.heap.size a b) : GR a b v v := ⟨h.os, h.tape, h.output, h.size, fun k hk _ => h.block k hk, .inl rfl⟩

theorem GR.of_grown {w w' : World} {v v' : Value} (hg : w.grownBy w' v.ownBlock) (hv : v'.ownBlock = v.ownBlock ∨ ∀ k, v'.ownBlock = some k → w.heap.size ≤ k) : GR w w' v v' :=
  ⟨hg.os, hg.tape, hg.output, hg.size, fun k hk h => World.grownBy.block hg k hk h, hv⟩

theorem GR.low {w0 w w' : World} {v v' : Value} {B n : Nat} {xs : List Value} (h : GR w w' v v') (ho : w.ownsRow B 83 16 v n xs) (hB : w0.heap.size ≤ B) (hb : Below w0.heap.size w0 w) : Below w0.heap.size w0 w' :=
  hb.trans ⟨h.os, h.tape, h.output, h.size, fun k hk => h.block k (by have := hb.size; omega) fun e => by have := (ho.lt k e.symm).1; omega⟩

/-- A block that is not the row's before is not the row's behind. -/
theorem GR.off {w w' : World} {v v' : Value} (h : GR w w' v v') {p : Nat} (hl : p < w.heap.size) (hq : some p ≠ v.ownBlock) : some p ≠ v'.ownBlock := by
  intro e
  rcases h.own with ho | ho
  · exact hq (e.trans ho)
  · have := ho p e.symm; omega
end Go.Proofs.YtikdidfgdiafoabDoor
namespace Go.Proofs.YtikdidfgdiafoabDoor
open Go.ChangeShapes Go.WideShapes Go.ChangeAt Go.RowKit

/- An expression that can be reckoned. -/
mutual
def Ex.Ok : Ex → Prop
  | .mk k n a => Ex.OkAll a ∧ ((k = 1 ∧ a = []) ∨ (k = 2 ∧ 0 ≤ n ∧ n ≤ 7 ∧ a = []) ∨ (k = 3 ∧ 0 ≤ n ∧ n ≤ 3 ∧ a = []) ∨ (k = 4 ∧ a.length = 1) ∨ ((k = 5 ∨ k = 6 ∨ k = 7) ∧ a.length = 2))
def Ex.OkAll : List Ex → Prop
  | [] => True
  | x :: r => x.Ok ∧ Ex.OkAll r
end

/-- A run's variables and inputs. -/
structure ValIs (w : World) (rb : Nat) (vs is : List Int) : Prop where
  vars : ∃ vb vc, w.cell? ⟨rb, 0, none⟩ = some (.slice (some ⟨vb, 0, none⟩) 8 vc) ∧ vs.length = 8 ∧ ∀ j, j < 8 → w.cell? ⟨vb, j, none⟩ = some (.int .i64 (vs.getD j 0))
  ins : ∃ ib io ic, w.cell? ⟨rb, 3, none⟩ = some (.slice (some ⟨ib, io, none⟩) 4 ic) ∧ ∀ j, j < 4 → w.cell? ⟨ib, io + j, none⟩ = some (.int .i64 (is.getD j 0))

theorem ValIs.below {w w' : World} {rb : Nat} {vs is : List Int} (h : ValIs w rb vs is) (hb : Below w.heap.size w w') : ValIs w' rb vs is := by
  obtain ⟨vb, vc, h1, h2, h3⟩ := h.vars
  obtain ⟨ib, io, ic, h4, h5⟩ := h.ins
  exact ⟨⟨vb, vc, below_cell hb h1, h2, fun j hj => below_cell hb (h3 j hj)⟩, ⟨ib, io, ic, below_cell hb h4, fun j hj => below_cell hb (h5 j hj)⟩⟩

set_option maxRecDepth 20000 in
set_option maxHeartbeats 2000000 in
/-- A number. -/
theorem value_1 (rb : Nat) (n : Int) (ad : Option Addr) (m c : Nat) (w : World) : Calls Tryd.prog 57 #[.pointer (some ⟨rb, 0, none⟩), .agg #[.int .i64 1, .int .i64 n, .slice ad m c]] w fun r w' => r = .returned (.int .i64 n) ∧ Below w.heap.size w w' := by
  go_enter Tryd.func57, Tryd.ntmps57
  go_wp2_with fail
  go_ret
  exact ⟨rfl, (Below.refl _ _).alloc (Nat.le_refl _) _⟩

set_option maxRecDepth 20000 in
set_option maxHeartbeats 2000000 in
/-- A variable. -/
theorem value_2 (rb : Nat) (n : Nat) (hn : n ≤ 7) (ad : Option Addr) (m c : Nat) (vs is : List Int) (w : World) (hv : ValIs w rb vs is) : Calls Tryd.prog 57 #[.pointer (some ⟨rb, 0, none⟩), .agg #[.int .i64 2, .int .i64 n, .slice ad m c]] w fun r w' => r = .returned (.int .i64 (vs.getD n 0)) ∧ Below w.heap.size w w' := by
  obtain ⟨vb, vc, h1, h2, h3⟩ := hv.vars
  have h4 := h3 n (by omega)
  have hr : rb < w.heap.size := World.block_lt_of_cell? _ _ h1
  have hvb : vb < w.heap.size := World.block_lt_of_cell? _ _ h4
  generalize vs.getD n 0 = z at *
  clear h3 hv h2
  go_enter Tryd.func57, Tryd.ntmps57
  go_wp2_with fail
  go_region
  all_goals
    go_wp2_with fail
    go_ret
    exact ⟨rfl, ((Below.refl _ _).alloc (Nat.le_refl _) _).drew⟩

set_option maxRecDepth 20000 in
set_option maxHeartbeats 2000000 in
/-- An input. -/
theorem value_3 (rb : Nat) (n : Nat) (hn : n ≤ 3) (ad : Option Addr) (m c : Nat) (vs is : List Int) (w : World) (hv : ValIs w rb vs is) : Calls Tryd.prog 57 #[.pointer (some ⟨rb, 0, none⟩), .agg #[.int .i64 3, .int .i64 n, .slice ad m c]] w fun r w' => r = .returned (.int .i64 (is.getD n 0)) ∧ Below w.heap.size w w' := by
  obtain ⟨ib, io, ic, h1, h3⟩ := hv.ins
  have h4 := h3 n (by omega)
  have hr : rb < w.heap.size := World.block_lt_of_cell? _ _ h1
  have hvb : ib < w.heap.size := World.block_lt_of_cell? _ _ h4
  generalize is.getD n 0 = z at *
  clear h3 hv
  go_enter Tryd.func57, Tryd.ntmps57
  go_wp2_with fail
  go_region
  all_goals
    go_wp2_with fail
    go_ret
    exact ⟨rfl, ((Below.refl _ _).alloc (Nat.le_refl _) _).drew⟩
end Go.Proofs.YtikdidfgdiafoabDoor
namespace Go.Proofs.YtikdidfgdiafoabDoor
open Go.ChangeShapes Go.WideShapes Go.ChangeAt Go.RowKit

theorem keep7 {W X Y : World} {p b o : Nat} {xk x x0 x1 x2 y0 y1 y2 : Value} (hb : Below X.heap.size X Y) (h : Below W.heap.size W X ∧ X.cell? ⟨p, 0, none⟩ = some xk ∧ X.cell? ⟨p, 2, none⟩ = some x ∧ X.cell? ⟨b, o, none⟩ = some x0 ∧ X.cell? ⟨b, o + 1, none⟩ = some x1 ∧ X.cell? ⟨b, o + 2, none⟩ = some x2 ∧ X.cell? ⟨b, o + 3, none⟩ = some y0 ∧ X.cell? ⟨b, o + 4, none⟩ = some y1 ∧ X.cell? ⟨b, o + 5, none⟩ = some y2) :
    Below W.heap.size W Y ∧ Y.cell? ⟨p, 0, none⟩ = some xk ∧ Y.cell? ⟨p, 2, none⟩ = some x ∧ Y.cell? ⟨b, o, none⟩ = some x0 ∧ Y.cell? ⟨b, o + 1, none⟩ = some x1 ∧ Y.cell? ⟨b, o + 2, none⟩ = some x2 ∧ Y.cell? ⟨b, o + 3, none⟩ = some y0 ∧ Y.cell? ⟨b, o + 4, none⟩ = some y1 ∧ Y.cell? ⟨b, o + 5, none⟩ = some y2 :=
  ⟨below_seq h.1 hb, below_cell hb h.2.1, below_cell hb h.2.2.1, below_cell hb h.2.2.2.1, below_cell hb h.2.2.2.2.1, below_cell hb h.2.2.2.2.2.1, below_cell hb h.2.2.2.2.2.2.1, below_cell hb h.2.2.2.2.2.2.2.1, below_cell hb h.2.2.2.2.2.2.2.2⟩

/-- What is known of the expressions that lie deeper. -/
def ValOk (rb : Nat) (vs is : List Int) (N : Nat) : Prop := ∀ (e : Ex) (w : World) (v : Value), e.nodes < N → N ≤ 1048577 → e.Ok → ValIs w rb vs is → e.In w v →
  Calls Tryd.prog 57 #[.pointer (some ⟨rb, 0, none⟩), v] w fun r w' => r = .returned (.int .i64 (e.val vs is)) ∧ Below w.heap.size w w'

set_option maxRecDepth 20000 in
set_option maxHeartbeats 2000000 in
theorem value_4 (rb : Nat) (vs is : List Int) (N : Nat) (ih : ValOk rb vs is N) (n : Int) (x : Ex) (b o c : Nat) (w : World) (hn : x.nodes < N) (hN : N ≤ 1048577) (hok : x.Ok) (hv : ValIs w rb vs is) (hr : Ex.Row w [x] b o) :
    Calls Tryd.prog 57 #[.pointer (some ⟨rb, 0, none⟩), .agg #[.int .i64 4, .int .i64 n, .slice (some ⟨b, o, none⟩) 1 c]] w fun r w' => r = .returned (.int .i64 (wr (-(x.val vs is)))) ∧ Below w.heap.size w w' := by
  obtain ⟨k0, n0, ad0, m0, c0, d0, d1, d2, hin⟩ := hr.shape (j := 0) (by simp)
  simp only [Nat.zero_mul, Nat.add_zero, List.getElem_cons_zero] at d0 d1 d2 hin
  have hb0 : b < w.heap.size := World.block_lt_of_cell? _ _ d0
  have HH : Hid (ValOk rb vs is N ∧ x.Ok ∧ ValIs w rb vs is ∧ x.In w (.agg #[.int .i64 k0, .int .i64 n0, .slice ad0 m0 c0])) := ⟨ih, hok, hv, hin⟩
  clear ih hok hv hr hin
  go_enter Tryd.func57, Tryd.ntmps57
  go_wp2_with (go_at_call 57; refine (HH.out.1 x _ _ hn hN HH.out.2.1 (HH.out.2.2.1.below ((Below.refl _ _).alloc (Nat.le_refl _) _)) (HH.out.2.2.2.below ((Below.refl _ _).alloc (Nat.le_refl _) _))).mono ?_; rintro r w1 ⟨rfl, hb1⟩; have HB1 : Hid _ := hb1; clear hb1)
  go_ret
  exact ⟨ret_int (by simp [wr]), below_seq ((Below.refl _ _).alloc (Nat.le_refl _) _) HB1.out⟩

set_option maxRecDepth 20000 in
set_option maxHeartbeats 4000000 in
theorem value_5 (rb : Nat) (vs is : List Int) (N : Nat) (ih : ValOk rb vs is N) (k n : Int) (hk : k = 5 ∨ k = 6 ∨ k = 7) (x y : Ex) (b o c : Nat) (w : World) (hn : x.nodes < N) (hn' : y.nodes < N) (hN : N ≤ 1048577) (hok : x.Ok) (hok' : y.Ok) (hv : ValIs w rb vs is) (hr : Ex.Row w [x, y] b o) :
    Calls Tryd.prog 57 #[.pointer (some ⟨rb, 0, none⟩), .agg #[.int .i64 k, .int .i64 n, .slice (some ⟨b, o, none⟩) 2 c]] w fun r w' => r = .returned (.int .i64 (if k = 5 then wr (x.val vs is + y.val vs is) else if k = 6 then wr (x.val vs is - y.val vs is) else wr (x.val vs is * y.val vs is))) ∧ Below w.heap.size w w' := by
  obtain ⟨k0, n0, ad0, m0, c0, d0, d1, d2, hin⟩ := hr.shape (j := 0) (by simp)
  obtain ⟨k1, n1, ad1, m1, c1, e0, e1, e2, hin'⟩ := hr.shape (j := 1) (by simp)
  simp only [Nat.zero_mul, Nat.add_zero, List.getElem_cons_zero, Nat.one_mul, List.getElem_cons_succ, Nat.add_assoc, Nat.reduceAdd] at d0 d1 d2 hin e0 e1 e2 hin'
  have hb0 : b < w.heap.size := World.block_lt_of_cell? _ _ d0
  have HH : Hid (ValOk rb vs is N ∧ x.Ok ∧ ValIs w rb vs is ∧ x.In w (.agg #[.int .i64 k0, .int .i64 n0, .slice ad0 m0 c0]) ∧ y.Ok ∧ y.In w (.agg #[.int .i64 k1, .int .i64 n1, .slice ad1 m1 c1])) := ⟨ih, hok, hv, hin, hok', hin'⟩
  clear ih hok hv hr hin hok' hin'
  rcases hk with rfl | rfl | rfl
  · go_enter Tryd.func57, Tryd.ntmps57
    go_wp2_with fail
    go_region_held3 (fun w' => Below w.heap.size w w' ∧ w'.cell? ⟨w.heap.size, 0, none⟩ = some (.int .i64 5) ∧ w'.cell? ⟨w.heap.size, 2, none⟩ = some (.slice (some ⟨b, o, none⟩) 2 c) ∧ w'.cell? ⟨b, o, none⟩ = some (.int .i64 k0) ∧ w'.cell? ⟨b, o + 1, none⟩ = some (.int .i64 n0) ∧ w'.cell? ⟨b, o + 2, none⟩ = some (.slice ad0 m0 c0) ∧ w'.cell? ⟨b, o + 3, none⟩ = some (.int .i64 k1) ∧ w'.cell? ⟨b, o + 4, none⟩ = some (.int .i64 n1) ∧ w'.cell? ⟨b, o + 5, none⟩ = some (.slice ad1 m1 c1))
      (first | assumption | (refine ⟨((Below.refl _ _).alloc (Nat.le_refl _) _).drew, ?_, ?_, ?_, ?_, ?_, ?_, ?_, ?_⟩ <;> simp [go_sem, *, World.cell?_alloc_some]))
      (first
        | (go_at_call_of 57 k0; refine (HH.out.1 x _ _ hn hN HH.out.2.1 (HH.out.2.2.1.below (And.left ‹Below w.heap.size w _ ∧ _›)) (HH.out.2.2.2.1.below (And.left ‹Below w.heap.size w _ ∧ _›))).mono ?_; rintro r w1 ⟨rfl, hb1⟩; have hS1 := keep7 hb1 ‹Below w.heap.size w _ ∧ _›; clear hb1)
        | (go_at_call_of 57 k1; refine (HH.out.1 y _ _ hn' hN HH.out.2.2.2.2.1 (HH.out.2.2.1.below (And.left ‹Below w.heap.size w _ ∧ _›)) (HH.out.2.2.2.2.2.below (And.left ‹Below w.heap.size w _ ∧ _›))).mono ?_; rintro r w2 ⟨rfl, hb2⟩; have hS2 := keep7 hb2 ‹Below w.heap.size w _ ∧ _›; clear hb2))
    obtain ⟨hB, c0', -⟩ := ‹Below w.heap.size w _ ∧ _›
    have HB : Hid _ := hB
    clear hB
    go_wp2_with fail
    go_ret
    exact ⟨ret_int (by simp [wr]), HB.out⟩
  · go_enter Tryd.func57, Tryd.ntmps57
    go_wp2_with fail
    go_region_held3 (fun w' => Below w.heap.size w w' ∧ w'.cell? ⟨w.heap.size, 0, none⟩ = some (.int .i64 6) ∧ w'.cell? ⟨w.heap.size, 2, none⟩ = some (.slice (some ⟨b, o, none⟩) 2 c) ∧ w'.cell? ⟨b, o, none⟩ = some (.int .i64 k0) ∧ w'.cell? ⟨b, o + 1, none⟩ = some (.int .i64 n0) ∧ w'.cell? ⟨b, o + 2, none⟩ = some (.slice ad0 m0 c0) ∧ w'.cell? ⟨b, o + 3, none⟩ = some (.int .i64 k1) ∧ w'.cell? ⟨b, o + 4, none⟩ = some (.int .i64 n1) ∧ w'.cell? ⟨b, o + 5, none⟩ = some (.slice ad1 m1 c1))
      (first | assumption | (refine ⟨((Below.refl _ _).alloc (Nat.le_refl _) _).drew, ?_, ?_, ?_, ?_, ?_, ?_, ?_, ?_⟩ <;> simp [go_sem, *, World.cell?_alloc_some]))
      (first
        | (go_at_call_of 57 k0; refine (HH.out.1 x _ _ hn hN HH.out.2.1 (HH.out.2.2.1.below (And.left ‹Below w.heap.size w _ ∧ _›)) (HH.out.2.2.2.1.below (And.left ‹Below w.heap.size w _ ∧ _›))).mono ?_; rintro r w1 ⟨rfl, hb1⟩; have hS1 := keep7 hb1 ‹Below w.heap.size w _ ∧ _›; clear hb1)
        | (go_at_call_of 57 k1; refine (HH.out.1 y _ _ hn' hN HH.out.2.2.2.2.1 (HH.out.2.2.1.below (And.left ‹Below w.heap.size w _ ∧ _›)) (HH.out.2.2.2.2.2.below (And.left ‹Below w.heap.size w _ ∧ _›))).mono ?_; rintro r w2 ⟨rfl, hb2⟩; have hS2 := keep7 hb2 ‹Below w.heap.size w _ ∧ _›; clear hb2))
    obtain ⟨hB, c0', -⟩ := ‹Below w.heap.size w _ ∧ _›
    have HB : Hid _ := hB
    clear hB
    go_wp2_with fail
    go_ret
    exact ⟨ret_int (by simp [wr]), HB.out⟩
  · go_enter Tryd.func57, Tryd.ntmps57
    go_wp2_with fail
    go_region_held3 (fun w' => Below w.heap.size w w' ∧ w'.cell? ⟨w.heap.size, 0, none⟩ = some (.int .i64 7) ∧ w'.cell? ⟨w.heap.size, 2, none⟩ = some (.slice (some ⟨b, o, none⟩) 2 c) ∧ w'.cell? ⟨b, o, none⟩ = some (.int .i64 k0) ∧ w'.cell? ⟨b, o + 1, none⟩ = some (.int .i64 n0) ∧ w'.cell? ⟨b, o + 2, none⟩ = some (.slice ad0 m0 c0) ∧ w'.cell? ⟨b, o + 3, none⟩ = some (.int .i64 k1) ∧ w'.cell? ⟨b, o + 4, none⟩ = some (.int .i64 n1) ∧ w'.cell? ⟨b, o + 5, none⟩ = some (.slice ad1 m1 c1))
      (first | assumption | (refine ⟨((Below.refl _ _).alloc (Nat.le_refl _) _).drew, ?_, ?_, ?_, ?_, ?_, ?_, ?_, ?_⟩ <;> simp [go_sem, *, World.cell?_alloc_some]))
      (first
        | (go_at_call_of 57 k0; refine (HH.out.1 x _ _ hn hN HH.out.2.1 (HH.out.2.2.1.below (And.left ‹Below w.heap.size w _ ∧ _›)) (HH.out.2.2.2.1.below (And.left ‹Below w.heap.size w _ ∧ _›))).mono ?_; rintro r w1 ⟨rfl, hb1⟩; have hS1 := keep7 hb1 ‹Below w.heap.size w _ ∧ _›; clear hb1)
        | (go_at_call_of 57 k1; refine (HH.out.1 y _ _ hn' hN HH.out.2.2.2.2.1 (HH.out.2.2.1.below (And.left ‹Below w.heap.size w _ ∧ _›)) (HH.out.2.2.2.2.2.below (And.left ‹Below w.heap.size w _ ∧ _›))).mono ?_; rintro r w2 ⟨rfl, hb2⟩; have hS2 := keep7 hb2 ‹Below w.heap.size w _ ∧ _›; clear hb2))
    obtain ⟨hB, c0', -⟩ := ‹Below w.heap.size w _ ∧ _›
    have HB : Hid _ := hB
    clear hB
    go_wp2_with fail
    go_ret
    exact ⟨ret_int (by simp [wr]), HB.out⟩
end Go.Proofs.YtikdidfgdiafoabDoor
