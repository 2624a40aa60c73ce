import Derived.Test.YtgemadoieielcacDoorGBInner
import Derived.Deep.DeepCutAuto
import Derived.Deep.CutRange
import Derived.Deep.RegionHeldLaw
import Derived.Test.YtgemadoieielcacDoorGBFirst
import Derived.LaidEql
import Derived.MapKept
import Derived.Test.YtgemadoieielcacDoorGBSize
import Derived.Deep.LoopGhost
import Derived.WalkSmall
namespace Go.Proofs.YtgemadoieielcacDoor.B
open Go.ChangeShapes Go.WideShapes Go.ChangeAt Go.RowKit

/-- What the seven looks at a statement find, and how far the walk has come then. -/
def lookR (b0 b1 hv hc b4 b5 : Bool) (nE nC i : Int) (fin : Int × Int) : Int × Int :=
  if b0 = false then (3, i) else if b1 = false then (6, i) else if hv = true ∧ nE ≠ 0 then (nE, i) else if hc = true ∧ nC ≠ 0 then (nC, i) else if b4 = false then (2, i) else if b5 = false then (10, i) else fin

/-- The seven looks at a statement. -/
theorem stmt_looks (X : World) (g cap q0 r0 q1 r1 q4 r4 q5 r5 : Nat) (cE cC cI : Array Value) (b0 b1 hv hc b4 b5 : Bool) (nE nC i : Int) (fin : Int × Int) (wb B : Nat) (v : Value) (ar : List (Int × Int)) (hk : Wk X wb B i v ar)
    (g0 : X.cell? ⟨g, 0, none⟩ = some (.func (.func 151) #[] #[.pointer (some ⟨q0, 0, none⟩), .pointer (some ⟨r0, 0, none⟩)]))
    (g1 : X.cell? ⟨g, 1, none⟩ = some (.func (.func 151) #[] #[.pointer (some ⟨q1, 0, none⟩), .pointer (some ⟨r1, 0, none⟩)]))
    (g2 : X.cell? ⟨g, 2, none⟩ = some (if hv = true then .func (.func 154) #[] cE else .func (.func 153) #[] #[]))
    (g3 : X.cell? ⟨g, 3, none⟩ = some (if hc = true then .func (.func 156) #[] cC else .func (.func 153) #[] #[]))
    (g4 : X.cell? ⟨g, 4, none⟩ = some (.func (.func 151) #[] #[.pointer (some ⟨q4, 0, none⟩), .pointer (some ⟨r4, 0, none⟩)]))
    (g5 : X.cell? ⟨g, 5, none⟩ = some (.func (.func 151) #[] #[.pointer (some ⟨q5, 0, none⟩), .pointer (some ⟨r5, 0, none⟩)]))
    (g6 : X.cell? ⟨g, 6, none⟩ = some (.func (.func 157) #[] cI))
    (c0 : X.cell? ⟨q0, 0, none⟩ = some (.bool b0) ∧ X.cell? ⟨r0, 0, none⟩ = some (.int .i64 3)) (c1 : X.cell? ⟨q1, 0, none⟩ = some (.bool b1) ∧ X.cell? ⟨r1, 0, none⟩ = some (.int .i64 6))
    (c4 : X.cell? ⟨q4, 0, none⟩ = some (.bool b4) ∧ X.cell? ⟨r4, 0, none⟩ = some (.int .i64 2)) (c5 : X.cell? ⟨q5, 0, none⟩ = some (.bool b5) ∧ X.cell? ⟨r5, 0, none⟩ = some (.int .i64 10))
    (hE : ∀ w, Below X.heap.size X w → Calls Tryd.prog 154 cE w fun r w' => r = .returned (.int .i64 nE) ∧ Below w.heap.size w w')
    (hC : ∀ w, Below X.heap.size X w → Calls Tryd.prog 156 cC w fun r w' => r = .returned (.int .i64 nC) ∧ Below w.heap.size w w')
    (hI : ∀ w, Below X.heap.size X w → Calls Tryd.prog 157 cI w fun r w' => r = .returned (.int .i64 fin.1) ∧ ∃ v', Wk w' wb B fin.2 v' ar ∧ WR wb w w' v v') :
    Calls Tryd.prog 136 #[.slice (some ⟨g, 0, none⟩) 7 cap] X fun e w' => e = .returned (.int .i64 (lookR b0 b1 hv hc b4 b5 nE nC i fin).1) ∧ ∃ v', Wk w' wb B (lookR b0 b1 hv hc b4 b5 nE nC i fin).2 v' ar ∧ WR wb X w' v v' := by
  refine (first_any 7 (by omega) g cap (fun j => if j = 2 then (if hv = true then 154 else 153) else if j = 3 then (if hc = true then 156 else 153) else if j = 6 then 157 else 151)
    (fun j => if j = 0 then #[.pointer (some ⟨q0, 0, none⟩), .pointer (some ⟨r0, 0, none⟩)] else if j = 1 then #[.pointer (some ⟨q1, 0, none⟩), .pointer (some ⟨r1, 0, none⟩)] else if j = 2 then (if hv = true then cE else #[]) else if j = 3 then (if hc = true then cC else #[])
      else if j = 4 then #[.pointer (some ⟨q4, 0, none⟩), .pointer (some ⟨r4, 0, none⟩)] else if j = 5 then #[.pointer (some ⟨q5, 0, none⟩), .pointer (some ⟨r5, 0, none⟩)] else cI)
    (fun j w => (j ≤ 6 → Below X.heap.size X w ∧ (0 < j → b0 = true) ∧ (1 < j → b1 = true) ∧ (2 < j → ¬ (hv = true ∧ nE ≠ 0)) ∧ (3 < j → ¬ (hc = true ∧ nC ≠ 0)) ∧ (4 < j → b4 = true) ∧ (5 < j → b5 = true)) ∧
      (j = 7 → (lookR b0 b1 hv hc b4 b5 nE nC i fin).1 = 0 ∧ ∃ v', Wk w wb B (lookR b0 b1 hv hc b4 b5 nE nC i fin).2 v' ar ∧ WR wb X w v v'))
    (fun c w => c = (lookR b0 b1 hv hc b4 b5 nE nC i fin).1 ∧ ∃ v', Wk w wb B (lookR b0 b1 hv hc b4 b5 nE nC i fin).2 v' ar ∧ WR wb X w v v') ?_ ?_ ?_ X ⟨fun _ => ⟨Below.refl _ _, by omega, by omega, by omega, by omega, by omega, by omega⟩, by omega⟩).mono ?_
  · intro j hj w hP
    have hb := (hP.1 (by omega)).1
    match j, hj with
    | 0, _ => exact below_cell hb g0
    | 1, _ => exact below_cell hb g1
    | 2, _ => rw [below_cell hb g2]; cases hv <;> rfl
    | 3, _ => rw [below_cell hb g3]; cases hc <;> rfl
    | 4, _ => exact below_cell hb g4
    | 5, _ => exact below_cell hb g5
    | 6, _ => exact below_cell hb g6
  · intro j hj w hP
    obtain ⟨hb, p0, p1, p2, p3, p4, p5⟩ := hP.1 (by omega)
    have stop : ∀ (w' : World) (c : Int), Below X.heap.size X w' → lookR b0 b1 hv hc b4 b5 nE nC i fin = (c, i) → c = (lookR b0 b1 hv hc b4 b5 nE nC i fin).1 ∧ ∃ v', Wk w' wb B (lookR b0 b1 hv hc b4 b5 nE nC i fin).2 v' ar ∧ WR wb X w' v v' := by
      intro w' c hb' e
      rw [e]
      exact ⟨rfl, v, hk.below hb', WR.of_below hb'⟩
    match j, hj with
    | 0, _ =>
      refine (needs1_any q0 r0 b0 3 w (below_cell hb c0.1) (below_cell hb c0.2)).mono ?_
      rintro e w' ⟨rfl, rfl⟩
      refine ⟨_, rfl, ?_⟩
      cases b0
      · exact .inr ⟨by simp, stop _ _ hb (by simp [lookR])⟩
      · exact .inl ⟨by simp, fun _ => ⟨hb, fun _ => rfl, by omega, by omega, by omega, by omega, by omega⟩, by omega⟩
    | 1, _ =>
      have e0 := p0 (by omega)
      refine (needs1_any q1 r1 b1 6 w (below_cell hb c1.1) (below_cell hb c1.2)).mono ?_
      rintro e w' ⟨rfl, rfl⟩
      refine ⟨_, rfl, ?_⟩
      cases b1
      · exact .inr ⟨by simp, stop _ _ hb (by simp [lookR, e0])⟩
      · exact .inl ⟨by simp, fun _ => ⟨hb, fun _ => e0, fun _ => rfl, by omega, by omega, by omega, by omega⟩, by omega⟩
    | 2, _ =>
      have e0 := p0 (by omega)
      have e1 := p1 (by omega)
      cases hv
      · refine (only1_any w).mono ?_
        rintro e w' ⟨rfl, rfl⟩
        exact ⟨_, rfl, .inl ⟨rfl, fun _ => ⟨hb, fun _ => e0, fun _ => e1, by simp, by omega, by omega, by omega⟩, by omega⟩⟩
      · refine (hE w hb).mono ?_
        rintro e w' ⟨rfl, hb'⟩
        refine ⟨_, rfl, ?_⟩
        by_cases hz : nE = 0
        · exact .inl ⟨hz, fun _ => ⟨below_seq hb hb', fun _ => e0, fun _ => e1, by simp [hz], by omega, by omega, by omega⟩, by omega⟩
        · exact .inr ⟨hz, stop _ _ (below_seq hb hb') (by simp [lookR, e0, e1, hz])⟩
    | 3, _ =>
      have e0 := p0 (by omega)
      have e1 := p1 (by omega)
      have e2 := p2 (by omega)
      cases hc
      · refine (only1_any w).mono ?_
        rintro e w' ⟨rfl, rfl⟩
        exact ⟨_, rfl, .inl ⟨rfl, fun _ => ⟨hb, fun _ => e0, fun _ => e1, fun _ => e2, by simp, by omega, by omega⟩, by omega⟩⟩
      · refine (hC w hb).mono ?_
        rintro e w' ⟨rfl, hb'⟩
        refine ⟨_, rfl, ?_⟩
        by_cases hz : nC = 0
        · exact .inl ⟨hz, fun _ => ⟨below_seq hb hb', fun _ => e0, fun _ => e1, fun _ => e2, by simp [hz], by omega, by omega⟩, by omega⟩
        · exact .inr ⟨hz, stop _ _ (below_seq hb hb') (by rw [lookR, if_neg (by simp [e0]), if_neg (by simp [e1]), if_neg e2, if_pos ⟨rfl, hz⟩])⟩
    | 4, _ =>
      have e0 := p0 (by omega)
      have e1 := p1 (by omega)
      have e2 := p2 (by omega)
      have e3 := p3 (by omega)
      refine (needs1_any q4 r4 b4 2 w (below_cell hb c4.1) (below_cell hb c4.2)).mono ?_
      rintro e w' ⟨rfl, rfl⟩
      refine ⟨_, rfl, ?_⟩
      cases b4
      · exact .inr ⟨by simp, stop _ _ hb (by rw [lookR, if_neg (by simp [e0]), if_neg (by simp [e1]), if_neg e2, if_neg e3]; simp)⟩
      · exact .inl ⟨by simp, fun _ => ⟨hb, fun _ => e0, fun _ => e1, fun _ => e2, fun _ => e3, fun _ => rfl, by omega⟩, by omega⟩
    | 5, _ =>
      have e0 := p0 (by omega)
      have e1 := p1 (by omega)
      have e2 := p2 (by omega)
      have e3 := p3 (by omega)
      have e4 := p4 (by omega)
      refine (needs1_any q5 r5 b5 10 w (below_cell hb c5.1) (below_cell hb c5.2)).mono ?_
      rintro e w' ⟨rfl, rfl⟩
      refine ⟨_, rfl, ?_⟩
      cases b5
      · exact .inr ⟨by simp, stop _ _ hb (by rw [lookR, if_neg (by simp [e0]), if_neg (by simp [e1]), if_neg e2, if_neg e3, if_neg (by simp [e4])]; simp)⟩
      · exact .inl ⟨by simp, fun _ => ⟨hb, fun _ => e0, fun _ => e1, fun _ => e2, fun _ => e3, fun _ => e4, fun _ => rfl⟩, by omega⟩
    | 6, _ =>
      have e0 := p0 (by omega)
      have e1 := p1 (by omega)
      have e2 := p2 (by omega)
      have e3 := p3 (by omega)
      have e4 := p4 (by omega)
      have e5 := p5 (by omega)
      have eR : lookR b0 b1 hv hc b4 b5 nE nC i fin = fin := by rw [lookR, if_neg (by simp [e0]), if_neg (by simp [e1]), if_neg e2, if_neg e3, if_neg (by simp [e4]), if_neg (by simp [e5])]
      refine (hI w hb).mono ?_
      rintro e w' ⟨rfl, v', hk', hr'⟩
      refine ⟨_, rfl, ?_⟩
      have hw := (WR.of_below (wb := wb) (v := v) hb).trans hr'
      by_cases hz : fin.1 = 0
      · exact .inl ⟨hz, by omega, fun _ => ⟨by rw [eR]; exact hz, v', by rw [eR]; exact hk', hw⟩⟩
      · exact .inr ⟨hz, by rw [eR], v', by rw [eR]; exact hk', hw⟩
  · intro j hj cp w
    match j, hj with
    | 0, _ => exact ent36 cp w
    | 1, _ => exact ent36 cp w
    | 2, _ => cases hv; exact ent38 cp w; exact ent39 cp w
    | 3, _ => cases hc; exact ent38 cp w; exact ent41 cp w
    | 4, _ => exact ent36 cp w
    | 5, _ => exact ent36 cp w
    | 6, _ => exact ent42 cp w
  · rintro e w' ⟨c, rfl, h⟩
    rcases h with ⟨rfl, hP⟩ | ⟨_, rfl, h⟩
    · obtain ⟨e, v', hk', hr'⟩ := hP.2 rfl
      exact ⟨ret_int (by rw [e]), v', hk', hr'⟩
    · exact ⟨rfl, h⟩
end Go.Proofs.YtgemadoieielcacDoor.B
namespace Go.Proofs.YtgemadoieielcacDoor.B
open Go.ChangeShapes Go.WideShapes Go.ChangeAt Go.RowKit

theorem look_pure (P1 : Prop) [Decidable P1] (m hv hc inn lt6 k6 held : Bool) (nE nC i : Int) (fin : Int × Int) (E : Int)
    (hE : E = if ¬ P1 then 3 else if m = true then 6 else if hv = true ∧ nE ≠ 0 then nE else if hc = true ∧ nC ≠ 0 then nC else if inn = true ∧ ¬ (lt6 = true) then 2 else if k6 = true ∧ held = true then 10 else 0) :
    lookR (decide P1) (!m) hv hc (!inn || lt6) (!k6 || !held) nE nC i fin = if E ≠ 0 then (E, i) else fin := by
  unfold lookR
  by_cases h1 : P1
  · rw [if_neg (by simpa using h1)] at hE
    rw [if_neg (by simp [h1])]
    cases m
    · rw [if_neg (by simp)] at hE
      rw [if_neg (by simp)]
      by_cases h2 : hv = true ∧ nE ≠ 0
      · rw [if_pos h2] at hE
        rw [if_pos h2, hE, if_pos h2.2]
      · rw [if_neg h2] at hE
        rw [if_neg h2]
        by_cases h3 : hc = true ∧ nC ≠ 0
        · rw [if_pos h3] at hE
          rw [if_pos h3, hE, if_pos h3.2]
        · rw [if_neg h3] at hE
          rw [if_neg h3]
          cases inn <;> cases lt6 <;> cases k6 <;> cases held <;> simp at hE <;> simp [hE]
    · rw [if_pos rfl] at hE
      simp [hE]
  · rw [if_pos h1] at hE
    simp [h1, hE]

/-- The seven looks find what the walk is said to find. -/
theorem look_chk (k n : Int) (e : Ex) (ck : Int) (ca cb : Ex) (b l : List St) (ar : List (Int × Int)) (i : Int) (hk : ¬ (k < 1 ∨ 8 ≤ k)) :
    lookR (decide (lowN k ≤ n ∧ n ≤ highN k)) (!moreS (valK k) (conK k) (innK k) (othK k) (exNone e.k e.n e.a.length) ck (exNone ca.k ca.n ca.a.length) (exNone cb.k cb.n cb.a.length) b.length l.length) (valK k) (conK k)
      (!innK k || decide ((ar.length : Int) < 6)) (!decide (k = 6) || !decide ((6, n) ∈ ar)) (e.node 0).1 (condErr ck ca cb) (i + 1) (chk2 b l (ar ++ [(k, n)]) (i + 1)) = (St.mk k n e ck ca cb b l).chk ar i := by
  have hc : (St.mk k n e ck ca cb b l).chk ar i = if (St.mk k n e ck ca cb b l).perr ar ≠ 0 then ((St.mk k n e ck ca cb b l).perr ar, i + 1) else chk2 b l (ar ++ [(k, n)]) (i + 1) := by
    rw [St.chk]; rfl
  rw [hc]
  refine look_pure _ _ _ _ _ _ _ _ _ _ _ _ _ ?_
  show progErr k n (exNone e.k e.n e.a.length) (e.node 0).1 ck (exNone ca.k ca.n ca.a.length) (exNone cb.k cb.n cb.a.length) (condErr ck ca cb) b.length l.length ar.length (decide ((6, n) ∈ ar)) = _
  unfold progErr
  rw [if_neg hk]
  simp only [decide_eq_true_eq]

/-- A kind that is none. -/
theorem none_chk (k n : Int) (e : Ex) (ck : Int) (ca cb : Ex) (b l : List St) (ar : List (Int × Int)) (i : Int) (hk : k < 1 ∨ 8 ≤ k) : (St.mk k n e ck ca cb b l).chk ar i = (6, i + 1) := by
  have hp : (St.mk k n e ck ca cb b l).perr ar = 6 := by show progErr k n (exNone e.k e.n e.a.length) (e.node 0).1 ck (exNone ca.k ca.n ca.a.length) (exNone cb.k cb.n cb.a.length) (condErr ck ca cb) b.length l.length ar.length (decide ((6, n) ∈ ar)) = 6; unfold progErr; rw [if_pos hk]
  rw [St.chk, hp]
  rfl

/-- The table of statements' shapes. -/
def ShapesIn (w : World) : Prop := ∀ m : Nat, 1 ≤ m → m < 8 → w.cell? ⟨2, m * 6, none⟩ = some (.int .i64 (lowN m)) ∧ w.cell? ⟨2, m * 6 + 1, none⟩ = some (.int .i64 (highN m)) ∧ w.cell? ⟨2, m * 6 + 2, none⟩ = some (.bool (valK m)) ∧ w.cell? ⟨2, m * 6 + 3, none⟩ = some (.bool (conK m)) ∧
  w.cell? ⟨2, m * 6 + 4, none⟩ = some (.bool (innK m)) ∧ w.cell? ⟨2, m * 6 + 5, none⟩ = some (.bool (othK m))

theorem ShapesIn.below {B : Nat} {w w' : World} (h : ShapesIn w) (hB : 2 < B) (hb : Below B w w') : ShapesIn w' := fun m h1 h2 =>
  have k : ∀ o x, w.cell? ⟨2, o, none⟩ = some x → w'.cell? ⟨2, o, none⟩ = some x := fun _ _ hc => (World.cell?_of_block (hb.block 2 hB)).trans hc
  have t := h m h1 h2
  ⟨k _ _ t.1, k _ _ t.2.1, k _ _ t.2.2.1, k _ _ t.2.2.2.1, k _ _ t.2.2.2.2.1, k _ _ t.2.2.2.2.2⟩
end Go.Proofs.YtgemadoieielcacDoor.B
namespace Go.Proofs.YtgemadoieielcacDoor.B
open Go.ChangeShapes Go.WideShapes Go.ChangeAt Go.RowKit

/-- The walk one further. -/
theorem Wk.next {w : World} {wb B : Nat} {i : Int} {v : Value} {ar : List (Int × Int)} (h : Wk w wb B i v ar) (j : Int) : Wk (w.setCell ⟨wb, 0, none⟩ (.int .i64 j)) wb B j v ar ∧ WR wb w (w.setCell ⟨wb, 0, none⟩ (.int .i64 j)) v v := by
  obtain ⟨xs, ho, hac⟩ := h.owns
  refine ⟨⟨by simpa using setCell_at (i := 0) (u := .int .i64 j) h.blk, ⟨xs, ownsRow_setCell_below ho (by show wb < B; exact h.lt) _, hac⟩, h.lt, by rw [size_set]; exact h.le⟩, ⟨rfl, rfl, rfl, by rw [size_set]; exact Nat.le_refl _, fun k _ h1 _ => Below.heap_setCell _ _ _ _ (by simpa using h1), .inl rfl⟩⟩

theorem Wk.begun {w : World} {wb B : Nat} {i : Int} {v : Value} {ar : List (Int × Int)} (h : Wk w wb B i v ar) (o : Obj) (j : Int) : Wk ((w.setCell ⟨wb, 0, none⟩ (.int .i64 j)).alloc o) wb B j v ar ∧ WR wb w ((w.setCell ⟨wb, 0, none⟩ (.int .i64 j)).alloc o) v v :=
  have hb : Below (w.setCell ⟨wb, 0, none⟩ (.int .i64 j)).heap.size (w.setCell ⟨wb, 0, none⟩ (.int .i64 j)) ((w.setCell ⟨wb, 0, none⟩ (.int .i64 j)).alloc o) := (Below.refl _ _).alloc (Nat.le_refl _) o
  ⟨(h.next j).1.below hb, (h.next j).2.trans (WR.of_below hb)⟩

set_option maxRecDepth 20000 in
set_option maxHeartbeats 4000000 in
/-- A kind that is none. -/
theorem stmt_none (w : World) (wb B : Nat) (i : Int) (v : Value) (ar : List (Int × Int)) (hwk : Wk w wb B i v ar) (hi1 : -1 ≤ i) (hi2 : i ≤ 2097152)
    (k n ek en ck ak an bk bn : Int) (ead aad bad yad lad : Option Addr) (em ec am ac bm bc ym yc lm lc : Nat) (hk : k < 1 ∨ 8 ≤ k) :
    Calls Tryd.prog 120 #[.pointer (some ⟨wb, 0, none⟩), .agg #[.int .i64 k, .int .i64 n, .int .i64 ek, .int .i64 en, .slice ead em ec, .int .i64 ck, .int .i64 ak, .int .i64 an, .slice aad am ac, .int .i64 bk, .int .i64 bn, .slice bad bm bc, .slice yad ym yc, .slice lad lm lc]] w
      fun r w' => r = .returned (.int .i64 6) ∧ ∃ v', Wk w' wb B (i + 1) v' ar ∧ WR wb w w' v v' := by
  have b0 : w.cell? ⟨wb, 0, none⟩ = some (.int .i64 i) := by unfold World.cell?; rw [hwk.blk]; rfl
  have hf : ∀ j, w.frozen? ⟨wb, j, none⟩ = false := by intro j; unfold World.frozen?; rw [hwk.blk]; simp
  have hl : wb < w.heap.size := World.block_lt_of_cell? _ _ b0
  have HK : Hid (Wk w wb B i v ar) := hwk
  clear hwk
  by_cases h1 : k < 1
  · have hd : decide (k < 1) = true := decide_eq_true h1
    go_enter Tryd.func120, Tryd.ntmps120
    go_wp2_with fail
    go_ret
    exact ⟨rfl, v, HK.out.begun _ _⟩
  · have hd : decide (k < 1) = false := decide_eq_false h1
    have hd2 : decide (8 ≤ k) = true := decide_eq_true (by omega)
    go_enter Tryd.func120, Tryd.ntmps120
    go_wp2_with fail
    go_ret
    exact ⟨rfl, v, HK.out.begun _ _⟩
end Go.Proofs.YtgemadoieielcacDoor.B
namespace Go.Proofs.YtgemadoieielcacDoor.B
open Go.ChangeShapes Go.WideShapes Go.ChangeAt Go.RowKit

theorem needs_b (b : Bool) (c : Int) (w : World) : Calls Tryd.prog 137 #[.bool b, .int .i64 c] w fun r w' => ∃ q s, r = .returned (.func (.func 151) #[] #[.pointer (some ⟨q, 0, none⟩), .pointer (some ⟨s, 0, none⟩)]) ∧ (w'.cell? ⟨q, 0, none⟩ = some (.bool b) ∧ w'.cell? ⟨s, 0, none⟩ = some (.int .i64 c)) ∧ Below w.heap.size w w' := by
  refine (needs_any b c w).mono ?_
  rintro r w' ⟨rfl, rfl⟩
  exact ⟨_, _, rfl, ⟨by simp [go_sem], by simp [go_sem]⟩, ((Below.refl _ _).alloc (Nat.le_refl _) _).alloc (by simp) _⟩

theorem expr_b (k n : Int) (ad : Option Addr) (m c : Nat) (w : World) : Calls Tryd.prog 140 #[.agg #[.int .i64 k, .int .i64 n, .slice ad m c]] w fun r w' => ∃ p, r = .returned (.func (.func 154) #[] #[.pointer (some ⟨p, 0, none⟩)]) ∧
    (w'.cell? ⟨p, 0, none⟩ = some (.int .i64 k) ∧ w'.cell? ⟨p, 1, none⟩ = some (.int .i64 n) ∧ w'.cell? ⟨p, 2, none⟩ = some (.slice ad m c)) ∧ Below w.heap.size w w' := by
  refine (expr_any k n ad m c w).mono ?_
  rintro r w' ⟨rfl, rfl⟩
  exact ⟨_, rfl, ⟨by simp [go_sem], by simp [go_sem], by simp [go_sem]⟩, (Below.refl _ _).alloc (Nat.le_refl _) _⟩

theorem cond_b (ck ak an bk bn : Int) (aad bad : Option Addr) (am ac bm bc : Nat) (w : World) : Calls Tryd.prog 141 #[.agg #[.int .i64 ck, .int .i64 ak, .int .i64 an, .slice aad am ac, .int .i64 bk, .int .i64 bn, .slice bad bm bc]] w fun r w' =>
    ∃ p, r = .returned (.func (.func 156) #[] #[.pointer (some ⟨p, 0, none⟩)]) ∧ (w'.cell? ⟨p, 0, none⟩ = some (.int .i64 ck) ∧ w'.cell? ⟨p, 1, none⟩ = some (.int .i64 ak) ∧ w'.cell? ⟨p, 2, none⟩ = some (.int .i64 an) ∧ w'.cell? ⟨p, 3, none⟩ = some (.slice aad am ac) ∧
      w'.cell? ⟨p, 4, none⟩ = some (.int .i64 bk) ∧ w'.cell? ⟨p, 5, none⟩ = some (.int .i64 bn) ∧ w'.cell? ⟨p, 6, none⟩ = some (.slice bad bm bc)) ∧ Below w.heap.size w w' := by
  refine (cond_any ck ak an bk bn aad bad am ac bm bc w).mono ?_
  rintro r w' ⟨rfl, rfl⟩
  exact ⟨_, rfl, ⟨by simp [go_sem], by simp [go_sem], by simp [go_sem], by simp [go_sem], by simp [go_sem], by simp [go_sem], by simp [go_sem]⟩, (Below.refl _ _).alloc (Nat.le_refl _) _⟩

theorem only_b (b : Bool) (f : FuncId) (cs : Array Value) (w : World) : Calls Tryd.prog 139 #[.bool b, .func (.func f) #[] cs] w fun r w' => ∃ j ds, r = .returned (.func (.func j) #[] ds) ∧ Hid (Value.func (.func j) #[] ds = if b = true then .func (.func f) #[] cs else .func (.func 153) #[] #[]) ∧ w = w' := by
  refine (only_any b f cs w).mono ?_
  rintro r w' ⟨rfl, rfl⟩
  cases b
  · exact ⟨153, #[], rfl, rfl, rfl⟩
  · exact ⟨f, cs, rfl, rfl, rfl⟩

theorem inner_b (w : World) (wb : Nat) (sk sn ek en ck ak an bk bn : Int) (ead aad bad yad lad : Option Addr) (em ec am ac bm bc ly yc ll lc : Nat) :
    Calls Tryd.prog 143 #[.pointer (some ⟨wb, 0, none⟩), .agg #[.int .i64 sk, .int .i64 sn, .int .i64 ek, .int .i64 en, .slice ead em ec, .int .i64 ck, .int .i64 ak, .int .i64 an, .slice aad am ac, .int .i64 bk, .int .i64 bn, .slice bad bm bc, .slice yad ly yc, .slice lad ll lc]] w fun r w' =>
    ∃ p1 p2, r = .returned (.func (.func 157) #[] #[.pointer (some ⟨p1, 0, none⟩), .pointer (some ⟨p2, 0, none⟩)]) ∧ (w'.cell? ⟨p1, 0, none⟩ = some (.pointer (some ⟨wb, 0, none⟩)) ∧
      copyIs w' p2 (.int .i64 sk) (.int .i64 sn) (.int .i64 ek) (.int .i64 en) (.slice ead em ec) (.int .i64 ck) (.int .i64 ak) (.int .i64 an) (.slice aad am ac) (.int .i64 bk) (.int .i64 bn) (.slice bad bm bc) (.slice yad ly yc) (.slice lad ll lc) ∧ w.heap.size ≤ p1 ∧ w.heap.size ≤ p2) ∧ Below w.heap.size w w' := by
  refine (inner_any w wb sk sn ek en ck ak an bk bn ead aad bad yad lad em ec am ac bm bc ly yc ll lc).mono ?_
  rintro r w' ⟨rfl, rfl⟩
  refine ⟨_, _, rfl, ⟨by simp [go_sem], ?_, Nat.le_refl _, Nat.le_succ _⟩, ((Below.refl _ _).alloc (Nat.le_refl _) _).alloc (by simp) _⟩
  have := heap_alloc_new (w.alloc (.cells #[.pointer (some ⟨wb, 0, none⟩)] 190)) (.cells #[.int .i64 sk, .int .i64 sn, .int .i64 ek, .int .i64 en, .slice ead em ec, .int .i64 ck, .int .i64 ak, .int .i64 an, .slice aad am ac, .int .i64 bk, .int .i64 bn, .slice bad bm bc, .slice yad ly yc, .slice lad ll lc] 123)
  simpa [copyIs] using this

/-- What a statement's two copies hold: its own, and its shape's. -/
def SS (q1 q2 : Nat) (x0 x1 x2 x3 x4 x5 x6 x7 x8 x9 x10 x11 x12 x13 y0 y1 y2 y3 y4 y5 : Value) (w : World) : Prop :=
  copyIs w q1 x0 x1 x2 x3 x4 x5 x6 x7 x8 x9 x10 x11 x12 x13 ∧ w.heap[q2]? = some (.cells #[y0, y1, y2, y3, y4, y5] 203 (0, 0))

section
variable {q1 q2 : Nat} {x0 x1 x2 x3 x4 x5 x6 x7 x8 x9 x10 x11 x12 x13 y0 y1 y2 y3 y4 y5 : Value} {w w' : World}

theorem SS.of (h1 : w'.heap[q1]? = w.heap[q1]?) (h2 : w'.heap[q2]? = w.heap[q2]?) (h : SS q1 q2 x0 x1 x2 x3 x4 x5 x6 x7 x8 x9 x10 x11 x12 x13 y0 y1 y2 y3 y4 y5 w) : SS q1 q2 x0 x1 x2 x3 x4 x5 x6 x7 x8 x9 x10 x11 x12 x13 y0 y1 y2 y3 y4 y5 w' :=
  ⟨h1.trans h.1, h2.trans h.2⟩

theorem SS.lt (h : SS q1 q2 x0 x1 x2 x3 x4 x5 x6 x7 x8 x9 x10 x11 x12 x13 y0 y1 y2 y3 y4 y5 w) : q1 < w.heap.size ∧ q2 < w.heap.size :=
  ⟨(Array.getElem?_eq_some_iff.1 h.1).1, (Array.getElem?_eq_some_iff.1 h.2).1⟩

theorem SS.below (h : SS q1 q2 x0 x1 x2 x3 x4 x5 x6 x7 x8 x9 x10 x11 x12 x13 y0 y1 y2 y3 y4 y5 w) (hb : Below w.heap.size w w') : SS q1 q2 x0 x1 x2 x3 x4 x5 x6 x7 x8 x9 x10 x11 x12 x13 y0 y1 y2 y3 y4 y5 w' :=
  SS.of (hb.block _ h.lt.1) (hb.block _ h.lt.2) h

theorem SS.alloc (h : SS q1 q2 x0 x1 x2 x3 x4 x5 x6 x7 x8 x9 x10 x11 x12 x13 y0 y1 y2 y3 y4 y5 w) (o : Obj) : SS q1 q2 x0 x1 x2 x3 x4 x5 x6 x7 x8 x9 x10 x11 x12 x13 y0 y1 y2 y3 y4 y5 (w.alloc o) :=
  h.below ((Below.refl _ _).alloc (Nat.le_refl _) o)

theorem SS.x (h : SS q1 q2 x0 x1 x2 x3 x4 x5 x6 x7 x8 x9 x10 x11 x12 x13 y0 y1 y2 y3 y4 y5 w) : w.cell? ⟨q1, 0, none⟩ = some x0 ∧ w.cell? ⟨q1, 1, none⟩ = some x1 ∧ w.cell? ⟨q1, 2, none⟩ = some x2 ∧ w.cell? ⟨q1, 3, none⟩ = some x3 ∧ w.cell? ⟨q1, 4, none⟩ = some x4 ∧ w.cell? ⟨q1, 5, none⟩ = some x5 ∧ w.cell? ⟨q1, 6, none⟩ = some x6 ∧
    w.cell? ⟨q1, 7, none⟩ = some x7 ∧ w.cell? ⟨q1, 8, none⟩ = some x8 ∧ w.cell? ⟨q1, 9, none⟩ = some x9 ∧ w.cell? ⟨q1, 10, none⟩ = some x10 ∧ w.cell? ⟨q1, 11, none⟩ = some x11 ∧ w.cell? ⟨q1, 12, none⟩ = some x12 ∧ w.cell? ⟨q1, 13, none⟩ = some x13 := by
  obtain ⟨d0, d1, d2, d3, d4, d5, d6, d7, d8, d9, d10, d11, d12, d13, -⟩ := h.1.cell
  exact ⟨d0, d1, d2, d3, d4, d5, d6, d7, d8, d9, d10, d11, d12, d13⟩

theorem SS.y (h : SS q1 q2 x0 x1 x2 x3 x4 x5 x6 x7 x8 x9 x10 x11 x12 x13 y0 y1 y2 y3 y4 y5 w) : w.cell? ⟨q2, 0, none⟩ = some y0 ∧ w.cell? ⟨q2, 1, none⟩ = some y1 ∧ w.cell? ⟨q2, 2, none⟩ = some y2 ∧ w.cell? ⟨q2, 3, none⟩ = some y3 ∧ w.cell? ⟨q2, 4, none⟩ = some y4 ∧ w.cell? ⟨q2, 5, none⟩ = some y5 := by
  have h2 := h.2
  refine ⟨?_, ?_, ?_, ?_, ?_, ?_⟩ <;> (unfold World.cell?; rw [h2]; rfl)
end

set_option maxHeartbeats 1000000 in
/-- The seven looks, from what the calls that made them have left. -/
theorem stmt_end (w0 : World) (N : Nat) (hN : N ≤ 1048576) (hL : ListOk w0 N) (X w12 w17 w22 w28 w41 w52 w55 : World) (wb B : Nat) (i : Int) (v : Value) (ar : List (Int × Int)) (q0 s0 q1 s1 p2 p3 q4 s4 q5 s5 p6 p7 cap ty : Nat)
    (sk sn ek en ck ak an bk bn : Int) (ead aad bad yad lad : Option Addr) (em ec am ac bm bc yc lc : Nat) (e ca cb : Ex) (b l : List St) (b0 b1 hv hc b4 b5 : Bool) (f2 f3 : Value) (hf2 : f2 = if hv = true then .func (.func 154) #[] #[.pointer (some ⟨p2, 0, none⟩)] else .func (.func 153) #[] #[]) (hf3 : f3 = if hc = true then .func (.func 156) #[] #[.pointer (some ⟨p3, 0, none⟩)] else .func (.func 153) #[] #[])
    (hbk : e.nodes + ca.nodes + cb.nodes + St.bulkAll b + St.bulkAll l ≤ N) (hwb : w0.heap.size ≤ wb) (hB0 : Below w0.heap.size w0 X) (hfm : FormsIn w0)
    (he : e.In w0 (.agg #[.int .i64 ek, .int .i64 en, .slice ead em ec])) (hca : ca.In w0 (.agg #[.int .i64 ak, .int .i64 an, .slice aad am ac])) (hcb : cb.In w0 (.agg #[.int .i64 bk, .int .i64 bn, .slice bad bm bc]))
    (hy : St.Sl w0 b (.slice yad b.length yc)) (hl : St.Sl w0 l (.slice lad l.length lc)) (hwk : Wk X wb B i v ar) (hi1 : -1 ≤ i) (hi2 : i + (St.bulkAll b + St.bulkAll l : Nat) ≤ 2097152) (har : ar.length + 1 + (St.bulkAll b + St.bulkAll l) ≤ 2097152)
    (eX : Below X.heap.size X w55) (e12 : Below w12.heap.size w12 w55) (e17 : Below w17.heap.size w17 w55) (e22 : Below w22.heap.size w22 w55) (e28 : Below w28.heap.size w28 w55) (e41 : Below w41.heap.size w41 w55) (e52 : Below w52.heap.size w52 w55) (hx52 : X.heap.size ≤ w52.heap.size)
    (c0 : w12.cell? ⟨q0, 0, none⟩ = some (.bool b0) ∧ w12.cell? ⟨s0, 0, none⟩ = some (.int .i64 3)) (c1 : w17.cell? ⟨q1, 0, none⟩ = some (.bool b1) ∧ w17.cell? ⟨s1, 0, none⟩ = some (.int .i64 6))
    (c2 : w22.cell? ⟨p2, 0, none⟩ = some (.int .i64 ek) ∧ w22.cell? ⟨p2, 1, none⟩ = some (.int .i64 en) ∧ w22.cell? ⟨p2, 2, none⟩ = some (.slice ead em ec))
    (c3 : w28.cell? ⟨p3, 0, none⟩ = some (.int .i64 ck) ∧ w28.cell? ⟨p3, 1, none⟩ = some (.int .i64 ak) ∧ w28.cell? ⟨p3, 2, none⟩ = some (.int .i64 an) ∧ w28.cell? ⟨p3, 3, none⟩ = some (.slice aad am ac) ∧
      w28.cell? ⟨p3, 4, none⟩ = some (.int .i64 bk) ∧ w28.cell? ⟨p3, 5, none⟩ = some (.int .i64 bn) ∧ w28.cell? ⟨p3, 6, none⟩ = some (.slice bad bm bc))
    (c4 : w41.cell? ⟨q4, 0, none⟩ = some (.bool b4) ∧ w41.cell? ⟨s4, 0, none⟩ = some (.int .i64 2)) (c5 : w52.cell? ⟨q5, 0, none⟩ = some (.bool b5) ∧ w52.cell? ⟨s5, 0, none⟩ = some (.int .i64 10))
    (c6 : w55.cell? ⟨p6, 0, none⟩ = some (.pointer (some ⟨wb, 0, none⟩)) ∧
      copyIs w55 p7 (.int .i64 sk) (.int .i64 sn) (.int .i64 ek) (.int .i64 en) (.slice ead em ec) (.int .i64 ck) (.int .i64 ak) (.int .i64 an) (.slice aad am ac) (.int .i64 bk) (.int .i64 bn) (.slice bad bm bc) (.slice yad b.length yc) (.slice lad l.length lc) ∧ w52.heap.size ≤ p6 ∧ w52.heap.size ≤ p7) :
    Calls Tryd.prog 136 #[.slice (some ⟨w55.heap.size, 0, none⟩) 7 cap] (w55.alloc (.cells #[.func (.func 151) #[] #[.pointer (some ⟨q0, 0, none⟩), .pointer (some ⟨s0, 0, none⟩)], .func (.func 151) #[] #[.pointer (some ⟨q1, 0, none⟩), .pointer (some ⟨s1, 0, none⟩)],
        f2, f3,
        .func (.func 151) #[] #[.pointer (some ⟨q4, 0, none⟩), .pointer (some ⟨s4, 0, none⟩)], .func (.func 151) #[] #[.pointer (some ⟨q5, 0, none⟩), .pointer (some ⟨s5, 0, none⟩)], .func (.func 157) #[] #[.pointer (some ⟨p6, 0, none⟩), .pointer (some ⟨p7, 0, none⟩)]] ty))
      fun r w' => r = .returned (.int .i64 (lookR b0 b1 hv hc b4 b5 (e.node 0).1 (condErr ck ca cb) i (chk2 b l (ar ++ [(sk, sn)]) i)).1) ∧ ∃ v', Wk w' wb B (lookR b0 b1 hv hc b4 b5 (e.node 0).1 (condErr ck ca cb) i (chk2 b l (ar ++ [(sk, sn)]) i)).2 v' ar ∧ WR wb X w' v v' ∧ WR wb w55 w' v v' := by
  subst hf2 hf3
  generalize ho : (Obj.cells #[.func (.func 151) #[] #[.pointer (some ⟨q0, 0, none⟩), .pointer (some ⟨s0, 0, none⟩)], .func (.func 151) #[] #[.pointer (some ⟨q1, 0, none⟩), .pointer (some ⟨s1, 0, none⟩)],
        if hv = true then .func (.func 154) #[] #[.pointer (some ⟨p2, 0, none⟩)] else .func (.func 153) #[] #[], if hc = true then .func (.func 156) #[] #[.pointer (some ⟨p3, 0, none⟩)] else .func (.func 153) #[] #[],
        .func (.func 151) #[] #[.pointer (some ⟨q4, 0, none⟩), .pointer (some ⟨s4, 0, none⟩)], .func (.func 151) #[] #[.pointer (some ⟨q5, 0, none⟩), .pointer (some ⟨s5, 0, none⟩)], .func (.func 157) #[] #[.pointer (some ⟨p6, 0, none⟩), .pointer (some ⟨p7, 0, none⟩)]] ty) = o
  have en55 : Below w55.heap.size w55 (w55.alloc o) := (Below.refl _ _).alloc (Nat.le_refl _) o
  have new : ∀ j u, (match o with | .cells cs _ _ => cs[j]? | _ => none) = some u → (w55.alloc o).cell? ⟨w55.heap.size, j, none⟩ = some u := by
    intro j u hu
    subst ho
    unfold World.cell?
    rw [heap_alloc_new]
    simpa using hu
  have lowX : ∀ w', Below (w55.alloc o).heap.size (w55.alloc o) w' → Below X.heap.size X w' := fun w' h => below_seq (below_seq eX en55) h
  have low0 : ∀ w', Below (w55.alloc o).heap.size (w55.alloc o) w' → Below w0.heap.size w0 w' := fun w' h => hB0.trans ((lowX w' h).mono hB0.size)
  have far : ∀ p, w52.heap.size ≤ p → p ≠ wb ∧ some p ≠ v.ownBlock := fun p hp => by
    have h1 := hwk.lt
    have h2 := hwk.le
    refine ⟨by omega, fun e => ?_⟩
    have := (hwk.own_lt p e.symm).2
    omega
  refine (stmt_looks (w55.alloc o) w55.heap.size cap q0 s0 q1 s1 q4 s4 q5 s5 #[.pointer (some ⟨p2, 0, none⟩)] #[.pointer (some ⟨p3, 0, none⟩)] #[.pointer (some ⟨p6, 0, none⟩), .pointer (some ⟨p7, 0, none⟩)] b0 b1 hv hc b4 b5 (e.node 0).1 (condErr ck ca cb) i (chk2 b l (ar ++ [(sk, sn)]) i) wb B v ar
    (hwk.below (below_seq eX en55)) (new 0 _ (by subst ho; rfl)) (new 1 _ (by subst ho; rfl)) (new 2 _ (by subst ho; rfl)) (new 3 _ (by subst ho; rfl)) (new 4 _ (by subst ho; rfl)) (new 5 _ (by subst ho; rfl)) (new 6 _ (by subst ho; rfl))
    ⟨below_cell (below_seq e12 en55) c0.1, below_cell (below_seq e12 en55) c0.2⟩ ⟨below_cell (below_seq e17 en55) c1.1, below_cell (below_seq e17 en55) c1.2⟩ ⟨below_cell (below_seq e41 en55) c4.1, below_cell (below_seq e41 en55) c4.2⟩ ⟨below_cell (below_seq e52 en55) c5.1, below_cell (below_seq e52 en55) c5.2⟩ ?_ ?_ ?_).mono ?_
  · intro w' h
    have k := below_seq (below_seq e22 en55) h
    exact expr1_any e ek en ead em ec p2 w' (by omega) (fun m h1 h2 => ⟨(low0 w' h).cell (World.block_lt_of_cell? _ _ (hfm m h1 h2).1) |>.trans (hfm m h1 h2).1, (low0 w' h).cell (World.block_lt_of_cell? _ _ (hfm m h1 h2).2) |>.trans (hfm m h1 h2).2⟩) (he.below (low0 w' h)) (below_cell k c2.1) (below_cell k c2.2.1) (below_cell k c2.2.2)
  · intro w' h
    have k := below_seq (below_seq e28 en55) h
    exact cond1_any ck ak an bk bn aad bad am ac bm bc p3 ca cb w' ⟨by omega, by omega⟩ (hfm.below (low0 w' h)) (hca.below (low0 w' h)) (hcb.below (low0 w' h)) (below_cell k c3.1) (below_cell k c3.2.1) (below_cell k c3.2.2.1) (below_cell k c3.2.2.2.1) (below_cell k c3.2.2.2.2.1) (below_cell k c3.2.2.2.2.2.1) (below_cell k c3.2.2.2.2.2.2)
  · intro w' h
    have k := below_seq en55 h
    exact inner1_of_list w0 N hL w' wb B p6 p7 i v b l ar sk sn ek en ck ak an bk bn ead aad bad yad lad em ec am ac bm bc yc lc (by omega) hwb (low0 w' h) hy hl (hwk.below (lowX w' h)) hi1 hi2 har
      ((k.block _ c6.2.1.lt).trans c6.2.1) (below_cell k c6.1) (far _ c6.2.2.1) (far _ c6.2.2.2)
  · rintro r w' ⟨rfl, v', hk', hr'⟩
    exact ⟨rfl, v', hk', (WR.of_below (below_seq eX en55)).trans hr', (WR.of_below en55).trans hr'⟩
end Go.Proofs.YtgemadoieielcacDoor.B
namespace Go.Proofs.YtgemadoieielcacDoor.B
open Go.ChangeShapes Go.WideShapes Go.ChangeAt Go.RowKit

/-- What a map keyed by addresses of statements holds, as a list. -/
def MapIs (w : World) (B : Nat) (L : List (Addr × Int)) : Prop :=
  (∃ es clock, w.heap[B]? = some (.map es clock) ∧ es.toList.map (fun e => (e.key, e.val)) = L.map (fun x => (Value.pointer (some x.1), Value.int .i64 x.2))) ∧ ∀ x ∈ L, rowBlk w x.1.block

theorem und45 : Tryd.prog.underlying 185 = some (.map 188 3) := by kernel_rfl
theorem und48 : Tryd.prog.underlying 188 = some (.pointer 123) := by kernel_rfl
theorem info34' : ∃ i, Tryd.prog.info? 123 = some i ∧ i.size = 14 := by
  have : (Tryd.prog.info? 123).map (fun i => i.size) = some 14 := by kernel_rfl
  cases h : Tryd.prog.info? 123 with
  | none => rw [h] at this; cases this
  | some i => rw [h] at this; exact ⟨i, rfl, by simpa using this⟩

theorem run_equal_ptr {w : World} {a b : Addr} (ha : rowBlk w a.block) (hb : rowBlk w b.block) :
    (Op.equal 188 (.pointer (some a)) (.pointer (some b))).run Tryd.prog w = .ok (decide (a = b)) w := by
  obtain ⟨ca, ha⟩ := ha
  obtain ⟨cb, hb⟩ := hb
  obtain ⟨i, hi, hs⟩ := info34'
  unfold Op.equal
  show (Op.equalIn (9999 + 1) 188 _ _).run _ _ = _
  unfold Op.equalIn
  by_cases hab : a = b
  · subst hab
    simp [run_underlying und48, sizeOf, typeInfo, hi, hs, run_sameAddr_same, Result.andThen]
  · simp [run_underlying und48, sizeOf, typeInfo, hi, hs, run_sameAddr_other w hab ha hb, Result.andThen, hab]

/-- Where a key lies in a list, and what is there. -/
def findAt (a : Addr) : List (Addr × Int) → Nat → Option (Nat × Int)
  | [], _ => none
  | x :: r, i => if a = x.1 then some (i, x.2) else findAt a r (i + 1)

theorem run_findAsking {w : World} {a : Addr} (ha : rowBlk w a.block) : ∀ (es : List MapEntry) (L : List (Addr × Int)) (i : Nat), es.map (fun e => (e.key, e.val)) = L.map (fun x => (Value.pointer (some x.1), Value.int .i64 x.2)) → (∀ x ∈ L, rowBlk w x.1.block) →
    (Instr.findAsking 188 (.pointer (some a)) es i).run Tryd.prog w = .ok ((findAt a L i).map fun y => (y.1, .int .i64 y.2)) w
  | [], [], _, _, _ => rfl
  | [], _ :: _, _, h, _ => by simp at h
  | _ :: _, [], _, h, _ => by simp at h
  | e :: es, x :: L, i, h, hb => by
    simp only [List.map_cons, List.cons.injEq, Prod.mk.injEq] at h
    obtain ⟨⟨hk, hv⟩, h⟩ := h
    have ih := run_findAsking ha es L (i + 1) h (fun y hy => hb y (List.mem_cons_of_mem _ hy))
    unfold Instr.findAsking findAt
    rw [hk, hv]
    have heq := run_equal_ptr ha (hb x List.mem_cons_self)
    by_cases hax : a = x.1
    · simp [hax, Result.andThen] at heq ⊢
      simp [heq]
    · simp [heq, hax, ih, Result.andThen]

theorem run_findKey_ptr {w : World} {a : Addr} (ha : rowBlk w a.block) (es : List MapEntry) (L : List (Addr × Int)) (h : es.map (fun e => (e.key, e.val)) = L.map (fun x => (Value.pointer (some x.1), Value.int .i64 x.2))) (hb : ∀ x ∈ L, rowBlk w x.1.block) :
    (Instr.findKey 188 (.pointer (some a)) es).run Tryd.prog w = .ok ((findAt a L 0).map fun y => (y.1, .int .i64 y.2)) w := by
  unfold Instr.findKey
  cases es with
  | nil =>
    cases L with
    | nil => simp [run_underlying und48, Instr.findNow, findAt, Result.andThen]
    | cons _ _ => simp at h
  | cons e es =>
    have := run_findAsking ha (e :: es) L 0 h hb
    have hn : Instr.findNow (.pointer 123) (.pointer (some a)) (e :: es) 0 = none := by
      unfold Instr.findNow
      simp [Instr.sameNow]
    simp [run_underlying und48, hn, this, Result.andThen]

theorem run_checkKey_ptr {w : World} {a : Addr} (e : Bool) : (Instr.checkKey e 10000 188 (.pointer (some a))).run Tryd.prog w = .ok () w := by
  show (Instr.checkKey e (9999 + 1) 188 (.pointer (some a))).run Tryd.prog w = .ok () w
  unfold Instr.checkKey
  simp [run_underlying und48, Result.andThen]

theorem findAt_lookup (a : Addr) : ∀ (L : List (Addr × Int)) (i : Nat), (findAt a L i).map (·.2) = L.lookup a
  | [], _ => rfl
  | x :: r, i => by
    unfold findAt
    by_cases h : a = x.1
    · simp [h, List.lookup]
    · have h' : (a == x.1) = false := by simpa using h
      simp [h, List.lookup, h', findAt_lookup a r (i + 1)]

/-- The map as a function. -/
def MapF (w : World) (B : Nat) (M : Addr → Option Int) : Prop := ∃ L, MapIs w B L ∧ ∀ a, L.lookup a = M a

theorem run_lookup_ok {w : World} {B : Nat} {M : Addr → Option Int} {a : Addr} (h : MapF w B M) (ha : rowBlk w a.block) :
    (Instr.lookup 185 (.map (some B)) (.pointer (some a)) true).run Tryd.prog w = .ok (.tuple #[.int .i64 ((M a).getD 0), .bool (M a).isSome]) w := by
  obtain ⟨L, ⟨⟨es, clock, hh, hes⟩, hb⟩, hM⟩ := h
  have h1 := run_findKey_ptr ha es.toList L hes hb
  have h2 := findAt_lookup a L 0
  rw [hM] at h2
  unfold Instr.lookup
  cases hf : findAt a L 0 with
  | none => simp [hf] at h1 h2; simp [run_underlying und45, Go.MapKept.run_getObj_map hh, run_checkKey_ptr, h1, ← h2, Result.andThen]
  | some y => simp [hf] at h1 h2; simp [run_underlying und45, Go.MapKept.run_getObj_map hh, run_checkKey_ptr, h1, ← h2, Result.andThen]

theorem run_lookup_plain {w : World} {B : Nat} {M : Addr → Option Int} {a : Addr} (h : MapF w B M) (ha : rowBlk w a.block) :
    (Instr.lookup 185 (.map (some B)) (.pointer (some a)) false).run Tryd.prog w = .ok (.int .i64 ((M a).getD 0)) w := by
  obtain ⟨L, ⟨⟨es, clock, hh, hes⟩, hb⟩, hM⟩ := h
  have h1 := run_findKey_ptr ha es.toList L hes hb
  have h2 := findAt_lookup a L 0
  rw [hM] at h2
  unfold Instr.lookup
  cases hf : findAt a L 0 with
  | none => simp [hf] at h1 h2; simp [run_underlying und45, Go.MapKept.run_getObj_map hh, run_checkKey_ptr, h1, ← h2, Result.andThen]
  | some y => simp [hf] at h1 h2; simp [run_underlying und45, Go.MapKept.run_getObj_map hh, run_checkKey_ptr, h1, ← h2, Result.andThen]

/-- w' is w but for what block B holds, and the sizes. -/
structure ButAt (B : Nat) (w w' : World) : Prop where
  os : w'.os = w.os
  tape : w'.tape = w.tape
  output : w'.output = w.output
  size : w'.heap.size = w.heap.size
  block : ∀ k, k ≠ B → w'.heap[k]? = w.heap[k]?

theorem ButAt.below {B : Nat} {w w' : World} (h : ButAt B w w') : Below B w w' := ⟨h.os, h.tape, h.output, Nat.le_of_eq h.size.symm, fun k hk => h.block k (by omega)⟩

theorem ButAt.rowBlk {B g : Nat} {w w' : World} {es : Array MapEntry} {c : Nat} (h : ButAt B w w') (hB : w.heap[B]? = some (.map es c)) (hb : rowBlk w g) : rowBlk w' g := by
  obtain ⟨cur, hc⟩ := hb
  exact ⟨cur, (h.block g (fun e => by subst e; rw [hB] at hc; cases hc)).trans hc⟩

def putAt (a : Addr) (z : Int) : List (Addr × Int) → List (Addr × Int)
  | [] => [(a, z)]
  | x :: r => if a = x.1 then (a, z) :: r else x :: putAt a z r

theorem putAt_none {a : Addr} {z : Int} : ∀ (L : List (Addr × Int)) (i : Nat), findAt a L i = none → putAt a z L = L ++ [(a, z)]
  | [], _, _ => rfl
  | x :: r, i, h => by
    unfold findAt at h
    unfold putAt
    by_cases hx : a = x.1
    · simp [hx] at h
    · simp [hx] at h ⊢
      exact putAt_none r (i + 1) h

theorem putAt_some {a : Addr} {z c : Int} : ∀ (L : List (Addr × Int)) (i k : Nat), findAt a L i = some (k, c) → i ≤ k ∧ k - i < L.length ∧ L[k - i]? = some (a, c) ∧ putAt a z L = L.set (k - i) (a, z)
  | [], _, _, h => by simp [findAt] at h
  | x :: r, i, k, h => by
    unfold findAt at h
    unfold putAt
    by_cases hx : a = x.1
    · simp [hx] at h
      obtain ⟨rfl, rfl⟩ := h
      subst hx
      simp
    · simp [hx] at h
      obtain ⟨h1, h2, h3, h4⟩ := putAt_some (z := z) r (i + 1) k h
      have e : k - i = (k - (i + 1)) + 1 := by omega
      rw [e]
      refine ⟨by omega, by simp; omega, by simpa using h3, by simp [hx, h4]⟩

theorem lookup_at (b : Addr) (x : Addr × Int) (r : List (Addr × Int)) : (x :: r).lookup b = if b = x.1 then some x.2 else r.lookup b := by
  obtain ⟨k, v⟩ := x
  by_cases h : b = k
  · subst h; simp
  · have h' : (b == k) = false := by simpa using h
    simp [List.lookup, h', h]

theorem putAt_lookup {a b : Addr} {z : Int} : ∀ (L : List (Addr × Int)), (putAt a z L).lookup b = if b = a then some z else L.lookup b
  | [] => by
    unfold putAt
    rw [lookup_at]
  | x :: r => by
    unfold putAt
    by_cases hx : a = x.1
    · rw [if_pos hx, lookup_at, lookup_at]
      by_cases h : b = a
      · rw [if_pos h, if_pos h]
      · rw [if_neg h, if_neg h, if_neg (by rw [← hx]; exact h)]
    · rw [if_neg hx, lookup_at, lookup_at, putAt_lookup r]
      by_cases hb : b = x.1
      · rw [if_pos hb, if_pos hb, if_neg (fun e : b = a => hx (by rw [← e]; exact hb))]
      · rw [if_neg hb, if_neg hb]

theorem putAt_mem {a : Addr} {z : Int} : ∀ (L : List (Addr × Int)) (x : Addr × Int), x ∈ putAt a z L → x = (a, z) ∨ x ∈ L
  | [], x, h => by simp [putAt] at h; exact .inl h
  | y :: r, x, h => by
    unfold putAt at h
    by_cases hx : a = y.1
    · simp [hx] at h
      rcases h with h | h
      · left; rw [h, hx]
      · exact .inr (List.mem_cons_of_mem _ h)
    · simp [hx] at h
      rcases h with h | h
      · exact .inr (h ▸ List.mem_cons_self)
      · rcases putAt_mem r x h with h | h
        · exact .inl h
        · exact .inr (List.mem_cons_of_mem _ h)

theorem run_mapUpdate_ptr {w : World} {B : Nat} {M : Addr → Option Int} {a : Addr} {z : Int} (h : MapF w B M) (ha : rowBlk w a.block) :
    ∃ w', (Instr.mapUpdate 185 (.map (some B)) (.pointer (some a)) (.int .i64 z)).run Tryd.prog w = .ok () w' ∧ MapF w' B (fun b => if b = a then some z else M b) ∧ ButAt B w w' := by
  obtain ⟨L, ⟨⟨es, clock, hh, hes⟩, hb⟩, hM⟩ := h
  have h1 := run_findKey_ptr ha es.toList L hes hb
  have hlt : B < w.heap.size := (Array.getElem?_eq_some_iff.1 hh).1
  have but : ∀ o, ButAt B w { w with heap := w.heap.setIfInBounds B o } := fun o => ⟨rfl, rfl, rfl, by simp, fun k hk => by
    show (w.heap.setIfInBounds B o)[k]? = _
    rw [Array.getElem?_setIfInBounds, if_neg (fun e => hk e.symm)]⟩
  have at' : ∀ o, ({ w with heap := w.heap.setIfInBounds B o } : World).heap[B]? = some o := fun o => by
    show (w.heap.setIfInBounds B o)[B]? = _
    rw [Array.getElem?_setIfInBounds, if_pos rfl, if_pos hlt]
  have fin : ∀ es' clock', es'.toList.map (fun e => (e.key, e.val)) = (putAt a z L).map (fun x => (Value.pointer (some x.1), Value.int .i64 x.2)) →
      MapF { w with heap := w.heap.setIfInBounds B (.map es' clock') } B (fun b => if b = a then some z else M b) := by
    intro es' clock' he
    refine ⟨putAt a z L, ⟨⟨es', clock', at' _, he⟩, fun x hx => ?_⟩, fun b => by rw [putAt_lookup, hM]⟩
    have : rowBlk w x.1.block := by
      rcases putAt_mem L x hx with rfl | hx
      · exact ha
      · exact hb x hx
    exact (but _).rowBlk hh this
  unfold Instr.mapUpdate
  cases hf : findAt a L 0 with
  | none =>
    simp [hf] at h1
    refine ⟨{ w with heap := w.heap.setIfInBounds B (.map (es.push { key := .pointer (some a), val := .int .i64 z, born := clock }) (clock + 1)) }, by simp [run_underlying und45, Go.MapKept.run_getObj_map hh, run_checkKey_ptr, h1, Go.MapKept.run_setObj_map _ hh, Result.andThen], ?_, but _⟩
    refine fin _ _ ?_
    rw [putAt_none L 0 hf]
    simp [hes]
  | some y =>
    obtain ⟨k, c⟩ := y
    simp [hf] at h1
    obtain ⟨-, hk, hat, hput⟩ := putAt_some (z := z) L 0 k hf
    simp only [Nat.sub_zero] at hk hat hput
    have hlen : es.toList.length = L.length := by simpa using congrArg List.length hes
    have hk' : k < es.size := by rw [← Array.length_toList]; omega
    have hkey : es[k].key = .pointer (some a) := by
      have := congrArg (fun l => l[k]?) hes
      simp [hat, hk'] at this
      exact this.1
    have hstay : (Instr.keyThatStays es[k].key (.pointer (some a))).run Tryd.prog w = .ok (.pointer (some a)) w := by
      rw [hkey]
      simp [Instr.keyThatStays, Instr.sameBits]
    have hge : es[k]? = some es[k] := by simp [hk']
    refine ⟨{ w with heap := w.heap.setIfInBounds B (.map (es.modify k fun e => { e with key := .pointer (some a), val := .int .i64 z }) clock) }, by simp [run_underlying und45, Go.MapKept.run_getObj_map hh, run_checkKey_ptr, h1, hk', hstay, Go.MapKept.run_setObj_map _ hh, Result.andThen], ?_, but _⟩
    refine fin _ _ ?_
    rw [hput, List.map_set, ← hes]
    apply List.ext_getElem?
    intro m
    simp only [Array.toList_modify, List.getElem?_map, List.getElem?_modify, List.getElem?_set, List.length_map, Array.length_toList]
    by_cases hm : k = m
    · subst hm
      simp [hk']
    · simp [hm]
end Go.Proofs.YtgemadoieielcacDoor.B
namespace Go.Proofs.YtgemadoieielcacDoor.B
open Go.ChangeShapes Go.WideShapes Go.ChangeAt Go.RowKit

/-- A statement as Count sees it: where it lies, and what lies within it. -/
inductive AT where
  | mk (ad : Addr) (b l : List AT)

def AT.ad : AT → Addr | .mk ad _ _ => ad
def AT.b : AT → List AT | .mk _ b _ => b
def AT.l : AT → List AT | .mk _ _ l => l

mutual
def AT.count : AT → Nat
  | .mk _ b l => 1 + AT.countAll b + AT.countAll l
def AT.countAll : List AT → Nat
  | [] => 0
  | x :: r => x.count + AT.countAll r
end

def AT.inner (t : AT) : Int := AT.countAll t.b + AT.countAll t.l
theorem AT.ad_mk (ad : Addr) (b l : List AT) : (AT.mk ad b l).ad = ad := rfl
theorem AT.b_mk (ad : Addr) (b l : List AT) : (AT.mk ad b l).b = b := rfl
theorem AT.l_mk (ad : Addr) (b l : List AT) : (AT.mk ad b l).l = l := rfl
theorem AT.inner_mk (ad : Addr) (b l : List AT) : (AT.mk ad b l).inner = (AT.countAll b : Int) + (AT.countAll l : Int) := rfl
def AT.full (t : AT) : Bool := decide (0 < t.b.length + t.l.length)
def AT.kids (ts : List AT) : List AT := ts.filter AT.full

mutual
def AT.addrs : AT → List Addr
  | .mk ad b l => ad :: (AT.addrsAll b ++ AT.addrsAll l)
def AT.addrsAll : List AT → List Addr
  | [] => []
  | x :: r => x.addrs ++ AT.addrsAll r
end

mutual
def AT.cost : AT → Nat
  | .mk _ b l => 2 + AT.costAll b + AT.costAll l
def AT.costAll : List AT → Nat
  | [] => 0
  | x :: r => x.cost + AT.costAll r
end

def upd (M : Addr → Option Int) (a : Addr) (z : Int) : Addr → Option Int := fun b => if b = a then some z else M b

/-- So many steps lead to the end. -/
def Reach (F : (Addr → Option Int) → Prop) : Nat → List AT → (Addr → Option Int) → Prop
  | _, [], M => F M
  | 0, _ :: _, _ => False
  | n + 1, t :: st, M =>
    (M t.ad = none ∧ (∀ k ∈ t.b ++ t.l, upd M t.ad 9223372036854775807 k.ad = none) ∧ Reach F n ((AT.kids t.l).reverse ++ ((AT.kids t.b).reverse ++ t :: st)) (upd M t.ad 9223372036854775807)) ∨
    ((∃ c, M t.ad = some c) ∧ (∀ k ∈ t.b ++ t.l, (M k.ad).getD 0 = k.inner) ∧ Reach F n st (upd M t.ad t.inner))

theorem Reach.succ (F : (Addr → Option Int) → Prop) : ∀ (n : Nat) (st : List AT) (M : Addr → Option Int), Reach F n st M → Reach F (n + 1) st M
  | n, [], M, h => by unfold Reach at h ⊢; exact h
  | 0, _ :: _, _, h => by unfold Reach at h; exact h.elim
  | n + 1, t :: st, M, h => by
    unfold Reach at h
    unfold Reach
    rcases h with ⟨h1, h2, h3⟩ | ⟨h1, h2, h3⟩
    · exact .inl ⟨h1, h2, Reach.succ F n _ _ h3⟩
    · exact .inr ⟨h1, h2, Reach.succ F n _ _ h3⟩

theorem Reach.more (F : (Addr → Option Int) → Prop) (n : Nat) : ∀ (m : Nat) (st : List AT) (M : Addr → Option Int), Reach F n st M → Reach F (n + m) st M
  | 0, _, _, h => h
  | m + 1, st, M, h => Reach.succ F (n + m) st M (Reach.more F n m st M h)

theorem AT.ad_mem (t : AT) : t.ad ∈ t.addrs := by
  cases t
  unfold AT.addrs AT.ad
  simp

theorem AT.mem_addrsAll : ∀ (ts : List AT) (t : AT), t ∈ ts → ∀ a ∈ t.addrs, a ∈ AT.addrsAll ts
  | x :: r, t, h, a, ha => by
    unfold AT.addrsAll
    rcases List.mem_cons.1 h with rfl | h
    · exact List.mem_append_left _ ha
    · exact List.mem_append_right _ (AT.mem_addrsAll r t h a ha)

theorem AT.kids_mem {ts : List AT} {t : AT} (h : t ∈ AT.kids ts) : t ∈ ts := (List.mem_filter.1 h).1

theorem AT.empty_inner {t : AT} (h : t.full = false) : t.inner = 0 := by
  obtain ⟨ad, b, l⟩ := t
  have h' : ¬ 0 < b.length + l.length := of_decide_eq_false h
  have hb : b = [] := List.eq_nil_of_length_eq_zero (by omega)
  have hl : l = [] := List.eq_nil_of_length_eq_zero (by omega)
  subst hb hl
  rw [AT.inner_mk]
  simp [AT.countAll]

mutual
theorem Reach.one (F : (Addr → Option Int) → Prop) : ∀ (t : AT), t.full = true → t.addrs.Nodup → ∀ (n : Nat) (st : List AT) (M : Addr → Option Int), (∀ a ∈ t.addrs, M a = none) →
    (∀ M', M' t.ad = some t.inner → (∀ a, a ∉ t.addrs → M' a = M a) → Reach F n st M') → Reach F (n + t.cost) (t :: st) M
  | .mk ad b l, _, hnd, n, st, M, hM, hK => by
    have e : n + (AT.mk ad b l).cost = (((n + 1) + AT.costAll b) + AT.costAll l) + 1 := by simp only [AT.cost]; omega
    rw [e]
    unfold AT.addrs at hnd hM hK
    simp only [AT.ad_mk, AT.inner_mk] at hK
    rw [List.nodup_cons, List.nodup_append] at hnd
    obtain ⟨h1, h2, h3, h4⟩ := hnd
    have hb : ∀ a ∈ AT.addrsAll b, a ≠ ad ∧ M a = none := fun a ha => ⟨fun e => h1 (by rw [← e]; simp [ha]), hM a (by simp [ha])⟩
    have hl : ∀ a ∈ AT.addrsAll l, a ≠ ad ∧ M a = none := fun a ha => ⟨fun e => h1 (by rw [← e]; simp [ha]), hM a (by simp [ha])⟩
    show Reach F (((n + 1 + AT.costAll b) + AT.costAll l) + 1) (AT.mk ad b l :: st) M
    unfold Reach
    left
    simp only [AT.ad_mk, AT.b_mk, AT.l_mk]
    refine ⟨hM ad (by simp), ?_, ?_⟩
    · intro k hk
      have : k.ad ≠ ad ∧ M k.ad = none := by
        rcases List.mem_append.1 hk with hk | hk
        · exact hb _ (AT.mem_addrsAll b k hk _ k.ad_mem)
        · exact hl _ (AT.mem_addrsAll l k hk _ k.ad_mem)
      unfold upd
      rw [if_neg this.1]
      exact this.2
    · refine Reach.all F l h3 _ _ _ (fun a ha => by unfold upd; rw [if_neg (hl a ha).1]; exact (hl a ha).2) fun M1 q1 q2 => ?_
      refine Reach.all F b h2 _ _ _ (fun a ha => ?_) fun M2 r1 r2 => ?_
      · rw [q2 a (fun h => h4 a ha a h rfl)]
        unfold upd
        rw [if_neg (hb a ha).1]
        exact (hb a ha).2
      · have had : M2 ad = some 9223372036854775807 := by
          rw [r2 ad (fun h => h1 (by simp [h])), q2 ad (fun h => h1 (by simp [h]))]
          simp [upd]
        unfold Reach
        right
        simp only [AT.ad_mk, AT.b_mk, AT.l_mk, AT.inner_mk]
        refine ⟨⟨_, had⟩, fun k hk => ?_, ?_⟩
        · rcases List.mem_append.1 hk with hk | hk
          · exact r1 k hk
          · rw [r2 k.ad (fun h => h4 _ h _ (AT.mem_addrsAll l k hk _ k.ad_mem) rfl)]
            exact q1 k hk
        · refine hK _ (by simp [upd]) fun a ha => ?_
          simp at ha
          unfold upd
          rw [if_neg ha.1, r2 a ha.2.1, q2 a ha.2.2]
          simp [upd, ha.1]
theorem Reach.all (F : (Addr → Option Int) → Prop) : ∀ (ts : List AT), (AT.addrsAll ts).Nodup → ∀ (n : Nat) (st : List AT) (M : Addr → Option Int), (∀ a ∈ AT.addrsAll ts, M a = none) →
    (∀ M', (∀ t ∈ ts, (M' t.ad).getD 0 = t.inner) → (∀ a, a ∉ AT.addrsAll ts → M' a = M a) → Reach F n st M') → Reach F (n + AT.costAll ts) ((AT.kids ts).reverse ++ st) M
  | [], _, n, st, M, _, hK => by
    simp only [AT.costAll, AT.kids, List.filter_nil, List.reverse_nil, List.nil_append]
    exact hK M (by simp) (fun _ _ => rfl)
  | t :: r, hnd, n, st, M, hM, hK => by
    unfold AT.addrsAll at hnd hM hK
    rw [List.nodup_append] at hnd
    obtain ⟨h1, h2, h3⟩ := hnd
    have e : n + AT.costAll (t :: r) = (n + t.cost) + AT.costAll r := by simp only [AT.costAll]; omega
    rw [e]
    have tl : ∀ M1, (∀ k ∈ r, (M1 k.ad).getD 0 = k.inner) → (∀ a, a ∉ AT.addrsAll r → M1 a = M a) → Reach F (n + t.cost) ((AT.kids [t]).reverse ++ st) M1 := by
      intro M1 q1 q2
      have hnone : ∀ a ∈ t.addrs, M1 a = none := fun a ha => by rw [q2 a (fun h => h3 a ha a h rfl)]; exact hM a (by simp [ha])
      have rest : ∀ M', (M' t.ad).getD 0 = t.inner → (∀ a, a ∉ t.addrs → M' a = M1 a) → Reach F n st M' := by
        intro M' p1 p2
        refine hK M' (fun k hk => ?_) (fun a ha => ?_)
        · rcases List.mem_cons.1 hk with rfl | hk
          · exact p1
          · rw [p2 k.ad (fun h => h3 _ h _ (AT.mem_addrsAll r k hk _ k.ad_mem) rfl)]
            exact q1 k hk
        · simp at ha
          rw [p2 a ha.1, q2 a ha.2]
      by_cases hf : t.full = true
      · simp only [AT.kids, List.filter_cons, hf, if_true, List.filter_nil, List.reverse_cons, List.reverse_nil, List.nil_append, List.cons_append]
        exact Reach.one F t hf h1 n st M1 hnone fun M' p1 p2 => rest M' (by rw [p1]; rfl) p2
      · have hf' : t.full = false := by simpa using hf
        simp only [AT.kids, List.filter_cons, hf', Bool.false_eq_true, if_false, List.filter_nil, List.reverse_nil, List.nil_append]
        have := rest M1 (by rw [hnone _ t.ad_mem, AT.empty_inner hf']; rfl) (fun _ _ => rfl)
        exact Reach.more F _ _ _ _ this
    have hk : (AT.kids (t :: r)).reverse ++ st = (AT.kids r).reverse ++ ((AT.kids [t]).reverse ++ st) := by
      simp only [AT.kids, List.filter_cons, List.filter_nil]
      split <;> simp
    rw [hk]
    exact Reach.all F r h2 _ _ _ (fun a ha => hM a (by simp [ha])) tl
end
end Go.Proofs.YtgemadoieielcacDoor.B
namespace Go.Proofs.YtgemadoieielcacDoor.B
open Go.ChangeShapes Go.WideShapes Go.ChangeAt Go.RowKit

mutual
def AT.In (w : World) : AT → Prop
  | .mk ad b l => rowBlk w ad.block ∧
      (∃ x c, w.cell? ⟨ad.block, ad.off + 12, none⟩ = some (.slice x b.length c) ∧ (b = [] ∨ ∃ g, x = some ⟨g, 0, none⟩ ∧ AT.Row w b g 0)) ∧
      (∃ x c, w.cell? ⟨ad.block, ad.off + 13, none⟩ = some (.slice x l.length c) ∧ (l = [] ∨ ∃ g, x = some ⟨g, 0, none⟩ ∧ AT.Row w l g 0))
def AT.Row (w : World) : List AT → Nat → Nat → Prop
  | [], _, _ => True
  | t :: r, g, o => t.ad = ⟨g, o, none⟩ ∧ AT.In w t ∧ AT.Row w r g (o + 14)
end
def AT.Sl (w : World) (ts : List AT) (v : Value) : Prop := ∃ x c, v = .slice x ts.length c ∧ (ts = [] ∨ ∃ g, x = some ⟨g, 0, none⟩ ∧ AT.Row w ts g 0)

theorem rowBlk.below {w w' : World} {g : Nat} (h : rowBlk w g) (hb : Below w.heap.size w w') : rowBlk w' g := by
  obtain ⟨cur, hc⟩ := h
  exact ⟨cur, (hb.block g (Array.getElem?_eq_some_iff.1 hc).1).trans hc⟩

mutual
theorem AT.In.below {w w' : World} (hb : Below w.heap.size w w') : ∀ (t : AT), t.In w → t.In w'
  | .mk ad b l, h => by
    unfold AT.In at h ⊢
    obtain ⟨h0, ⟨x, c, h1, h2⟩, ⟨y, d, h3, h4⟩⟩ := h
    refine ⟨h0.below hb, ⟨x, c, below_cell hb h1, ?_⟩, ⟨y, d, below_cell hb h3, ?_⟩⟩
    · rcases h2 with h | ⟨g, hg, h⟩
      · exact .inl h
      · exact .inr ⟨g, hg, AT.Row.below hb b h⟩
    · rcases h4 with h | ⟨g, hg, h⟩
      · exact .inl h
      · exact .inr ⟨g, hg, AT.Row.below hb l h⟩
theorem AT.Row.below {w w' : World} (hb : Below w.heap.size w w') : ∀ (ts : List AT) {g o : Nat}, AT.Row w ts g o → AT.Row w' ts g o
  | [], _, _, _ => by unfold AT.Row; trivial
  | t :: r, g, o, h => by
    unfold AT.Row at h ⊢
    exact ⟨h.1, AT.In.below hb t h.2.1, AT.Row.below hb r h.2.2⟩
end

theorem AT.Sl.below {w w' : World} (hb : Below w.heap.size w w') {ts : List AT} {v : Value} (h : AT.Sl w ts v) : AT.Sl w' ts v := by
  obtain ⟨x, c, hv, h⟩ := h
  refine ⟨x, c, hv, ?_⟩
  rcases h with h | ⟨g, hg, h⟩
  · exact .inl h
  · exact .inr ⟨g, hg, h.below hb⟩

theorem AT.Row.get {w : World} : ∀ (ts : List AT) {g o : Nat}, AT.Row w ts g o → ∀ (j : Nat) (t : AT), ts[j]? = some t → t.ad = ⟨g, o + j * 14, none⟩ ∧ t.In w
  | [], _, _, _, _, _, h => by simp at h
  | t :: r, g, o, h, 0, x, hx => by
    unfold AT.Row at h
    simp at hx
    subst hx
    simpa using ⟨h.1, h.2.1⟩
  | t :: r, g, o, h, j + 1, x, hx => by
    unfold AT.Row at h
    have := AT.Row.get r h.2.2 j x (by simpa using hx)
    rwa [show o + 14 + j * 14 = o + (j + 1) * 14 by omega] at this

theorem AT.Row.all {w : World} {ts : List AT} {g o : Nat} (h : AT.Row w ts g o) : ∀ t ∈ ts, t.In w := by
  intro t ht
  obtain ⟨j, hj, rfl⟩ := List.getElem_of_mem ht
  exact (AT.Row.get ts h j ts[j] (by simp [hj])).2

theorem AT.In.parts {w : World} {t : AT} (h : t.In w) : rowBlk w t.ad.block ∧ (∃ x c, w.cell? ⟨t.ad.block, t.ad.off + 12, none⟩ = some (.slice x t.b.length c) ∧ AT.Sl w t.b (.slice x t.b.length c)) ∧
    (∃ x c, w.cell? ⟨t.ad.block, t.ad.off + 13, none⟩ = some (.slice x t.l.length c) ∧ AT.Sl w t.l (.slice x t.l.length c)) := by
  obtain ⟨ad, b, l⟩ := t
  unfold AT.In at h
  obtain ⟨h0, ⟨x, c, h1, h2⟩, ⟨y, d, h3, h4⟩⟩ := h
  exact ⟨h0, ⟨x, c, h1, ⟨x, c, rfl, h2⟩⟩, ⟨y, d, h3, ⟨y, d, rfl, h4⟩⟩⟩

/- From rows each in a block of its own to what Count sees. -/
mutual
theorem St.InQ.seen {p : Nat → Prop} {w : World} : ∀ (s : St) {x : Nat → Value} {bl : List Nat} {g o : Nat}, (∀ j, j < 14 → w.cell? ⟨g, o + j, none⟩ = some (x j)) → s.InQ p w (stVal x) bl → rowBlk w g → bl.Nodup → g ∉ bl →
    ∃ t : AT, t.ad = ⟨g, o, none⟩ ∧ t.In w ∧ t.count = s.count ∧ t.addrs.Nodup ∧ ∀ a ∈ t.addrs, a = ⟨g, o, none⟩ ∨ a.block ∈ bl
  | .mk k n e ck ca cb b l, x, bl, g, o, hx, h, hg, hnd, hni => by
    unfold St.InQ at h
    obtain ⟨e0, e1, e2, a0, a1, a2, b0, b1, b2, sb, sl, hv, -, -, -, q1, q2, hq, ⟨ad, c, h4, h5⟩, ⟨ad', c', h6, h7⟩⟩ := h
    subst hq
    unfold stVal at hv
    simp only [Value.agg.injEq, Array.mk.injEq, List.cons.injEq, and_true] at hv
    obtain ⟨-, -, -, -, -, -, -, -, -, -, -, -, v12, v13⟩ := hv
    rw [List.nodup_append] at hnd
    obtain ⟨n1, n2, n3⟩ := hnd
    obtain ⟨tb, c12, s12, k12, m12, z12⟩ : ∃ ts : List AT, ts.length = b.length ∧ (ts = [] ∨ ∃ g, ad = some ⟨g, 0, none⟩ ∧ AT.Row w ts g 0) ∧ AT.countAll ts = St.countAll b ∧ (AT.addrsAll ts).Nodup ∧ ∀ a ∈ AT.addrsAll ts, a.block ∈ q1 := by
      rcases h5 with ⟨rfl, rfl⟩ | ⟨hne, g', q, hg', hp, rfl, hr⟩
      · exact ⟨[], rfl, .inl rfl, by simp [AT.countAll, St.countAll], by simp [AT.addrsAll], by simp [AT.addrsAll]⟩
      · rw [List.nodup_cons] at n1
        obtain ⟨ts, r1, r2, r3, r4, r5⟩ := St.RowQ.seen b hr hp.2 n1.2 n1.1
        refine ⟨ts, r2, .inr ⟨g', hg', r1⟩, r3, r4, fun a ha => ?_⟩
        rcases r5 a ha with h | h
        · simp [h.1]
        · exact List.mem_cons_of_mem _ h
    obtain ⟨tl, c13, s13, k13, m13, z13⟩ : ∃ ts : List AT, ts.length = l.length ∧ (ts = [] ∨ ∃ g, ad' = some ⟨g, 0, none⟩ ∧ AT.Row w ts g 0) ∧ AT.countAll ts = St.countAll l ∧ (AT.addrsAll ts).Nodup ∧ ∀ a ∈ AT.addrsAll ts, a.block ∈ q2 := by
      rcases h7 with ⟨rfl, rfl⟩ | ⟨hne, g', q, hg', hp, rfl, hr⟩
      · exact ⟨[], rfl, .inl rfl, by simp [AT.countAll, St.countAll], by simp [AT.addrsAll], by simp [AT.addrsAll]⟩
      · rw [List.nodup_cons] at n2
        obtain ⟨ts, r1, r2, r3, r4, r5⟩ := St.RowQ.seen l hr hp.2 n2.2 n2.1
        refine ⟨ts, r2, .inr ⟨g', hg', r1⟩, r3, r4, fun a ha => ?_⟩
        rcases r5 a ha with h | h
        · simp [h.1]
        · exact List.mem_cons_of_mem _ h
    refine ⟨.mk ⟨g, o, none⟩ tb tl, rfl, ?_, by simp only [AT.count, St.count, k12, k13], ?_, ?_⟩
    · unfold AT.In
      refine ⟨hg, ⟨ad, c, ?_, s12⟩, ⟨ad', c', ?_, s13⟩⟩
      · rw [c12, ← h4, ← v12]; exact hx 12 (by omega)
      · rw [c13, ← h6, ← v13]; exact hx 13 (by omega)
    · unfold AT.addrs
      rw [List.nodup_cons, List.nodup_append]
      refine ⟨fun h => ?_, m12, m13, fun a ha a' ha' e => ?_⟩
      · rcases List.mem_append.1 h with h | h
        · exact hni (List.mem_append_left _ (z12 _ h))
        · exact hni (List.mem_append_right _ (z13 _ h))
      · subst e
        exact n3 _ (z12 _ ha) _ (z13 _ ha') rfl
    · unfold AT.addrs
      intro a ha
      rcases List.mem_cons.1 ha with h | h
      · exact .inl h
      · rcases List.mem_append.1 h with h | h
        · exact .inr (List.mem_append_left _ (z12 _ h))
        · exact .inr (List.mem_append_right _ (z13 _ h))
theorem St.RowQ.seen {p : Nat → Prop} {w : World} : ∀ (a : List St) {g o : Nat} {bl : List Nat}, St.RowQ p w a g o bl → rowBlk w g → bl.Nodup → g ∉ bl →
    ∃ ts : List AT, AT.Row w ts g o ∧ ts.length = a.length ∧ AT.countAll ts = St.countAll a ∧ (AT.addrsAll ts).Nodup ∧ ∀ x ∈ AT.addrsAll ts, (x.block = g ∧ o ≤ x.off) ∨ x.block ∈ bl
  | [], _, _, _, _, _, _, _ => ⟨[], by unfold AT.Row; trivial, rfl, by simp [AT.countAll, St.countAll], by simp [AT.addrsAll], by simp [AT.addrsAll]⟩
  | s :: r, g, o, bl, h, hg, hnd, hni => by
    unfold St.RowQ at h
    obtain ⟨q1, q2, hq, ⟨x, h0, h3⟩, h4⟩ := h
    subst hq
    rw [List.nodup_append] at hnd
    obtain ⟨n1, n2, n3⟩ := hnd
    obtain ⟨t, t1, t2, t3, t4, t5⟩ := St.InQ.seen s h0 h3 hg n1 (fun h => hni (List.mem_append_left _ h))
    obtain ⟨ts, r1, r2, r3, r4, r5⟩ := St.RowQ.seen r h4 hg n2 (fun h => hni (List.mem_append_right _ h))
    refine ⟨t :: ts, by unfold AT.Row; exact ⟨t1, t2, r1⟩, by simp [r2], by simp only [AT.countAll, St.countAll, t3, r3], ?_, ?_⟩
    · unfold AT.addrsAll
      rw [List.nodup_append]
      refine ⟨t4, r4, fun a ha a' ha' e => ?_⟩
      subst e
      rcases t5 a ha with h | h
      · rcases r5 a ha' with h' | h'
        · rw [h] at h'; simp at h'; omega
        · rw [h] at h'; exact hni (List.mem_append_right _ h')
      · rcases r5 a ha' with h' | h'
        · rw [h'.1] at h; exact hni (List.mem_append_left _ h)
        · exact n3 _ h _ h' rfl
    · unfold AT.addrsAll
      intro a ha
      rcases List.mem_append.1 ha with h | h
      · rcases t5 a h with h | h
        · left; rw [h]; exact ⟨rfl, Nat.le_refl _⟩
        · exact .inr (List.mem_append_left _ h)
      · rcases r5 a h with h | h
        · left; exact ⟨h.1, by omega⟩
        · exact .inr (List.mem_append_right _ h)
end

theorem St.SlQ.seen {p : Nat → Prop} {w : World} {a : List St} {v : Value} {bl : List Nat} (h : St.SlQ p w a v bl) (hnd : bl.Nodup) : ∃ ts : List AT, AT.Sl w ts v ∧ AT.countAll ts = St.countAll a ∧ (AT.addrsAll ts).Nodup := by
  obtain ⟨ad, c, hv, h⟩ := h
  rcases h with ⟨rfl, rfl⟩ | ⟨hne, g, q, hg, hp, rfl, hr⟩
  · exact ⟨[], ⟨ad, c, hv, .inl rfl⟩, by simp [AT.countAll, St.countAll], by simp [AT.addrsAll]⟩
  · rw [List.nodup_cons] at hnd
    obtain ⟨ts, r1, r2, r3, r4, -⟩ := hr.seen a hp.2 hnd.2 hnd.1
    exact ⟨ts, ⟨ad, c, by rw [r2]; exact hv, .inr ⟨g, hg, r1⟩⟩, r3, r4⟩
end Go.Proofs.YtgemadoieielcacDoor.B
namespace Go.Proofs.YtgemadoieielcacDoor.B
open Go.ChangeShapes Go.WideShapes Go.ChangeAt Go.RowKit

theorem plus_any (a b : Int) (w : World) (ha : 0 ≤ a) (hb : 0 ≤ b) (hab : a + b ≤ 4611686018427387904) : Calls Tryd.prog 117 #[.int .i64 a, .int .i64 b] w fun r w' => r = .returned (.int .i64 (a + b)) ∧ w' = w := by
  go_enter Tryd.func117, Tryd.ntmps117
  go_wp2
  all_goals go_ret
  exact ⟨rfl, rfl⟩

def AT.innerAll : List AT → Int
  | [] => 0
  | t :: r => t.inner + AT.innerAll r

theorem AT.count_inner (t : AT) : (t.count : Int) = 1 + t.inner := by
  obtain ⟨ad, b, l⟩ := t
  rw [AT.inner_mk]
  simp only [AT.count]
  omega

theorem AT.inner_nonneg (t : AT) : 0 ≤ t.inner := by
  obtain ⟨ad, b, l⟩ := t
  rw [AT.inner_mk]
  omega

theorem AT.countAll_inner : ∀ ts : List AT, (AT.countAll ts : Int) = ts.length + AT.innerAll ts
  | [] => by simp [AT.countAll, AT.innerAll]
  | t :: r => by
    have := AT.count_inner t
    have := AT.countAll_inner r
    simp only [AT.countAll, AT.innerAll, List.length_cons]
    omega

theorem AT.innerAll_nonneg : ∀ ts : List AT, 0 ≤ AT.innerAll ts
  | [] => by simp [AT.innerAll]
  | t :: r => by
    have := AT.inner_nonneg t
    have := AT.innerAll_nonneg r
    simp only [AT.innerAll]
    omega

theorem AT.innerAll_at {a : List AT} {j : Nat} (h : j < a.length) : AT.innerAll (a.drop j) = a[j].inner + AT.innerAll (a.drop (j + 1)) := by
  rw [drop_at h, AT.innerAll]

set_option maxHeartbeats 1000000 in
theorem size_any (ts : List AT) (w : World) (v : Value) (B : Nat) (M : Addr → Option Int) (hsl : AT.Sl w ts v) (hm : MapF w B M) (hc : AT.countAll ts ≤ 1048576) (hin : ∀ t ∈ ts, (M t.ad).getD 0 = t.inner) :
    Calls Tryd.prog 118 #[v, .map (some B)] w fun r w' => r = .returned (.int .i64 (AT.countAll ts)) ∧ w' = w := by
  obtain ⟨x, c, rfl, hrow⟩ := hsl
  have HR : Hid (ts = [] ∨ ∃ g, x = some ⟨g, 0, none⟩ ∧ AT.Row w ts g 0) := hrow
  have HM : Hid (_ ∧ _) := ⟨hm, hin⟩
  have hci := AT.countAll_inner ts
  have hi0 := AT.innerAll_nonneg ts
  clear hrow hm hin
  go_enter Tryd.func118, Tryd.ntmps118
  go_wp2_with fail
  go_loop [5, 6, 11] (fun n _ i => ∃ (j : Nat) (d : Int), j ≤ ts.length ∧ i = .int .i64 j ∧ n = .int .i64 d ∧ 0 ≤ d ∧ d + AT.innerAll (ts.drop j) = AT.countAll ts) (fun _ _ i => ts.length - (intOf i).toNat)
  case atStart => exact ⟨0, ts.length, Nat.zero_le _, rfl, rfl, by omega, by simp; omega⟩
  case round =>
    obtain ⟨j, d, hj, rfl, rfl, hd, hdd⟩ := hrel
    by_cases hlt : j < ts.length
    · rcases HR.out with h | ⟨g, hx, hrow⟩
      · subst h; simp at hlt
      subst hx
      have hget := AT.Row.get ts hrow j ts[j] (by simp [hlt])
      have h1 := AT.innerAll_at hlt
      have h2 := AT.innerAll_nonneg (ts.drop (j + 1))
      have h3 := AT.inner_nonneg ts[j]
      have hlk := run_lookup_plain HM.out.1 (AT.In.parts hget.2).1
      rw [hget.1, ← hget.1, HM.out.2 ts[j] (by simp), hget.1] at hlk
      rw [show (0 + j * 14) = j * 14 by omega] at hlk
      rw [h1] at hdd
      clear h1 hget hrow
      generalize ts[j].inner = y at *
      have HD : Hid (d + (y + AT.innerAll (ts.drop (j + 1))) = AT.countAll ts) := hdd
      have hdy : d + y ≤ 1048576 := by omega
      clear hdd
      go_wp2_with (go_at_call 117; refine (plus_any _ _ _ (by omega) (by omega) (by omega)).mono ?_; rintro e w' ⟨rfl, rfl⟩)
      go_round
      case rel => have := HD.out; exact ⟨j + 1, d + y, by omega, by go_num, rfl, by omega, by omega⟩
      case measure => simp [intOf]; omega
    · go_wp2_with fail
      go_ret
      rw [List.drop_of_length_le (by omega), AT.innerAll] at hdd
      exact ⟨ret_int (by omega), rfl⟩
end Go.Proofs.YtgemadoieielcacDoor.B
namespace Go.Proofs.YtgemadoieielcacDoor.B
open Go.ChangeShapes Go.WideShapes Go.ChangeAt Go.RowKit

theorem info48 : (Tryd.prog.info? 188).map (fun i => (i.zero, i.size, i.bytes)) = some (some (.pointer none), 1, 8) := by kernel_rfl

theorem MapF.carry {w w' : World} {B : Nat} {M : Addr → Option Int} (h : MapF w B M) (hB : w'.heap[B]? = w.heap[B]?) (hr : ∀ g, rowBlk w g → rowBlk w' g) : MapF w' B M := by
  obtain ⟨L, ⟨⟨es, clock, hh, hes⟩, hb⟩, hM⟩ := h
  exact ⟨L, ⟨⟨es, clock, hB.trans hh, hes⟩, fun x hx => hr _ (hb x hx)⟩, hM⟩

theorem MapF.lt {w : World} {B : Nat} {M : Addr → Option Int} (h : MapF w B M) : B < w.heap.size := by
  obtain ⟨L, ⟨⟨es, clock, hh, hes⟩, hb⟩, hM⟩ := h
  exact (Array.getElem?_eq_some_iff.1 hh).1

theorem MapF.below {w w' : World} {B : Nat} {M : Addr → Option Int} (h : MapF w B M) (hb : Below w.heap.size w w') : MapF w' B M :=
  h.carry (hb.block _ h.lt) fun _ hg => hg.below hb

theorem MapF.grown {w w' : World} {B n : Nat} {M : Addr → Option Int} {v : Value} {xs : List Value} (h : MapF w B M) (ho : w.ownsRow (B + 1) 188 1 v n xs) (hg : w.grownBy w' v.ownBlock) : MapF w' B M := by
  refine h.carry (hg.block B h.lt fun e => ?_) fun g hr => ?_
  · have := (ho.lt B e.symm).1; omega
  · obtain ⟨cur, hc⟩ := hr
    refine ⟨cur, (hg.block g (Array.getElem?_eq_some_iff.1 hc).1 fun e => ?_).trans hc⟩
    rcases ho.2 with ⟨rfl, _⟩ | ⟨k, cap, cur', rfl, _, hh, _⟩
    · simp [Value.ownBlock] at e
    · simp [Value.ownBlock] at e
      subst e
      rw [hc] at hh
      simp at hh

theorem below_drewN' {w : World} {n : Nat} : Below w.heap.size w (w.drewN n) := ⟨rfl, rfl, rfl, Nat.le_refl _, fun _ _ => rfl⟩

def ptrs (ts : List AT) : List Value := ts.map fun t => .pointer (some t.ad)

theorem kids_take {ts : List AT} {j : Nat} (h : j < ts.length) : AT.kids (ts.take (j + 1)) = AT.kids (ts.take j) ++ (if ts[j].full then [ts[j]] else []) := by
  rw [List.take_succ_eq_append_getElem h]
  unfold AT.kids
  rw [List.filter_append]
  simp [List.filter_cons]

theorem kids_le (ts : List AT) (j : Nat) : (AT.kids (ts.take j)).length ≤ j := by
  unfold AT.kids
  have := List.length_filter_le AT.full (ts.take j)
  have := List.length_take_le j ts
  omega

theorem length_le_countAll : ∀ ts : List AT, ts.length ≤ AT.countAll ts
  | [] => by simp
  | ⟨ad, b, l⟩ :: r => by
    have := length_le_countAll r
    simp only [AT.countAll, AT.count, List.length_cons]
    omega

theorem count_le_countAll : ∀ (ts : List AT) (j : Nat) (t : AT), ts[j]? = some t → t.count ≤ AT.countAll ts
  | [], _, _, h => by simp at h
  | e :: r, 0, x, h => by simp at h; subst h; simp only [AT.countAll]; omega
  | e :: r, j + 1, x, h => by have := count_le_countAll r j x (by simpa using h); simp only [AT.countAll]; omega

theorem parts_le_count (t : AT) : t.b.length + t.l.length + 1 ≤ t.count ∧ AT.countAll t.b + AT.countAll t.l + 1 ≤ t.count := by
  obtain ⟨ad, b, l⟩ := t
  have := length_le_countAll b
  have := length_le_countAll l
  rw [AT.b_mk, AT.l_mk]
  simp only [AT.count]
  omega

set_option maxHeartbeats 2000000 in
theorem appendUnmet_any (ts : List AT) (w0 w : World) (v lv : Value) (n : Nat) (xs : List Value) (M : Addr → Option Int) (hB : Below w0.heap.size w0 w) (hsl : AT.Sl w0 ts lv) (hm : MapF w w0.heap.size M)
    (hown : w.ownsRow (w0.heap.size + 1) 188 1 v n xs) (hun : ∀ t ∈ ts, M t.ad = none) (hn : n + ts.length ≤ 4194304) (hc : AT.countAll ts ≤ 1048576) :
    Calls Tryd.prog 116 #[v, lv, .map (some w0.heap.size)] w fun r w' => ∃ v', r = .returned v' ∧ w'.ownsRow (w0.heap.size + 1) 188 1 v' (n + (AT.kids ts).length) (xs ++ ptrs (AT.kids ts)) ∧ MapF w' w0.heap.size M ∧ Below w0.heap.size w0 w' := by
  obtain ⟨x, c, rfl, hrow⟩ := hsl
  have HR : Hid (ts = [] ∨ ∃ g, x = some ⟨g, 0, none⟩ ∧ AT.Row w0 ts g 0) := hrow
  have HM : Hid (_ ∧ _ ∧ _) := ⟨hm, hown, hB⟩
  have HU : Hid (∀ t ∈ ts, M t.ad = none) := hun
  clear hrow hm hown hB hun
  obtain ⟨i0, hi, hz0, hz1, hz2⟩ := info_parts info48
  go_enter Tryd.func116, Tryd.ntmps116
  go_wp2_with fail
  go_loopw [0, 7, 8, 9, 10, 13] (fun u _ _ _ _ i wr => ∃ (j : Nat), j ≤ ts.length ∧ i = .int .i64 j ∧ wr.ownsRow (w0.heap.size + 1) 188 1 u (n + (AT.kids (ts.take j)).length) (xs ++ ptrs (AT.kids (ts.take j))) ∧ MapF wr w0.heap.size M ∧ Below w0.heap.size w0 wr) (fun _ _ _ _ _ i _ => ts.length - (intOf i).toNat)
  case atStart => exact ⟨0, Nat.zero_le _, rfl, by simpa [AT.kids, ptrs] using HM.out.2.1, HM.out.1, HM.out.2.2⟩
  case round =>
    obtain ⟨j, hj, rfl, hown, hm, hb⟩ := hrel
    by_cases hlt : j < ts.length
    · rcases HR.out with h | ⟨g, hx, hrow⟩
      · subst h; simp at hlt
      subst hx
      have hget := AT.Row.get ts (AT.Row.below hb _ hrow) j ts[j] (by simp [hlt])
      have hkt := kids_take hlt
      have hkl := kids_le ts j
      have hpl := (parts_le_count ts[j]).1
      have hpc := count_le_countAll ts j ts[j] (by simp [hlt])
      have hpl : ts[j].b.length + ts[j].l.length ≤ 1048576 := by omega
      clear hpc
      have hp := AT.In.parts hget.2
      have hlk := run_lookup_ok hm hp.1
      rw [HU.out ts[j] (by simp)] at hlk
      rw [hget.1] at hlk hp
      rw [show (0 + j * 14) = j * 14 by omega] at hlk hp
      obtain ⟨hblk, ⟨x1, c1, e1, -⟩, ⟨x2, c2, e2, -⟩⟩ := hp
      simp only [Option.getD_none, Option.isSome_none] at hlk
      have had : Hid (ts[j].ad = ⟨g, j * 14, none⟩) := by have := hget.1; rwa [show (0 + j * 14) = j * 14 by omega] at this
      dsimp only at e1 e2
      have HK : Hid (_ ∧ _ ∧ _ ∧ _) := ⟨hown, hm, hb, hkt⟩
      clear hown hm hb hkt hget hrow hblk
      by_cases hf : ts[j].full = true
      · have hf' : 0 < ts[j].b.length + ts[j].l.length := of_decide_eq_true hf
        generalize ts[j].b.length = lb at *
        generalize ts[j].l.length = ll at *
        have hfi : (0 : Int) < (lb : Int) + (ll : Int) := by omega
        have hwl : IntKind.i64.wrap ((lb : Int) + (ll : Int)) = (lb : Int) + (ll : Int) := wrap_in _ (by omega)
        go_wp2_with fail
        go_quiet (fail)
        go_wp2_with (first
          | (at_builtin; refine append_mine _ rfl (.tmp 41) (.tmp 43) 186 rfl (w0.heap.size + 1) 188 i0 _ 1 8 Tryd.underlying186 hi hz0 hz1 hz2 rfl (by decide) _ (n + (AT.kids (ts.take j)).length) (xs ++ ptrs (AT.kids (ts.take j))) rfl ?qo ⟨wr.heap.size, 0, none⟩ 1 1 [.pointer (some ⟨g, j * 14, none⟩)] rfl rfl ?qc ?q1 (by decide) ?q3 ?q4 ?q5 ?_; rotate_left 6; intro v3 w3 hown3 hg3 hv3; have HI3 : Hid (_ ∧ _ ∧ _) := ⟨hown3, hg3, hv3⟩; clear hown3 hg3 hv3))
        case qo => exact ownsRow_below HK.out.1 (below_seq below_drewN' ((Below.refl _ _).alloc (Nat.le_refl _) _))
        case qc => exact fresh_cells (wr.drewN nq) _ 188
        case q1 => intro u hu; simp at hu; subst hu; rfl
        case q3 => unfold maxLen; omega
        case q4 => omega
        case q5 => have := HK.out.2.1.lt; simp; omega
        have hbw : Below wr.heap.size wr ((wr.drewN nq).alloc (.cells #[.pointer (some ⟨g, j * 14, none⟩)] 188)) := below_seq below_drewN' ((Below.refl _ _).alloc (Nat.le_refl _) _)
        have ho2 := ownsRow_below HK.out.1 hbw
        go_roundw
        case rel =>
          refine ⟨j + 1, by omega, by go_num, ?_, ?_, ?_⟩
          · rw [HK.out.2.2.2, if_pos hf, List.length_append]
            have h3 := HI3.out.1
            unfold ptrs at h3 ⊢
            rw [List.map_append, ← List.append_assoc, ← Nat.add_assoc]
            simp only [List.map_cons, List.map_nil, had.out]
            exact h3
          · exact (HK.out.2.1.below hbw).grown ho2 HI3.out.2.1
          · have h1 := (below_seq HK.out.2.2.1 hbw)
            exact h1.grown HI3.out.2.1 h1.size fun k hk => by have := (ho2.lt k hk).1; omega
        case measure => simp [intOf]; omega
      · have hf' : ts[j].b.length + ts[j].l.length = 0 := by have := of_decide_eq_false (by simpa using hf : ts[j].full = false); omega
        generalize ts[j].b.length = lb at *
        generalize ts[j].l.length = ll at *
        have hlb : lb = 0 := by omega
        have hll : ll = 0 := by omega
        subst hlb hll
        go_wp2_with fail
        go_quiet (fail)
        go_wp2_with fail
        go_roundw
        case rel =>
          refine ⟨j + 1, by omega, by go_num, ?_, ?_, ?_⟩
          · rw [HK.out.2.2.2, if_neg hf, List.append_nil]
            exact ownsRow_below HK.out.1 below_drewN'
          · exact HK.out.2.1.below below_drewN'
          · exact HK.out.2.2.1.trans (below_drewN'.mono HK.out.2.2.1.size)
        case measure => simp [intOf]; omega
    · go_wp2_with fail
      go_ret
      rw [List.take_of_length_le (by omega)] at hown
      exact ⟨_, rfl, hown, hm, hb⟩
end Go.Proofs.YtgemadoieielcacDoor.B
namespace Go.Proofs.YtgemadoieielcacDoor.B
open Go.ChangeShapes Go.WideShapes Go.ChangeAt Go.RowKit

theorem Reach.length_le (F : (Addr → Option Int) → Prop) : ∀ (n : Nat) (st : List AT) (M : Addr → Option Int), Reach F n st M → st.length ≤ n
  | _, [], _, _ => by simp
  | 0, _ :: _, _, h => by unfold Reach at h; exact h.elim
  | n + 1, t :: st, M, h => by
    unfold Reach at h
    rcases h with ⟨h1, h2, h3⟩ | ⟨h1, h2, h3⟩
    · have := Reach.length_le F n _ _ h3; simp at this ⊢; omega
    · have := Reach.length_le F n _ _ h3; simp at this ⊢; omega

mutual
theorem AT.cost_eq : ∀ t : AT, t.cost = 2 * t.count
  | .mk _ b l => by have := AT.costAll_eq b; have := AT.costAll_eq l; simp only [AT.cost, AT.count]; omega
theorem AT.costAll_eq : ∀ ts : List AT, AT.costAll ts = 2 * AT.countAll ts
  | [] => by simp [AT.costAll, AT.countAll]
  | t :: r => by have := AT.cost_eq t; have := AT.costAll_eq r; simp only [AT.costAll, AT.countAll]; omega
end

/-- What is known of a statement on the stack. -/
def Good (w : World) (t : AT) : Prop := t.In w ∧ t.count ≤ 1048576 ∧ t.ad.spot = none

theorem Sl_good {w : World} {ts : List AT} {v : Value} (h : AT.Sl w ts v) (hc : AT.countAll ts ≤ 1048576) : ∀ t ∈ ts, Good w t := by
  intro t ht
  obtain ⟨j, hj, rfl⟩ := List.getElem_of_mem ht
  obtain ⟨x, c, -, h⟩ := h
  rcases h with h | ⟨g, -, h⟩
  · subst h; simp at hj
  · have h1 := AT.Row.get ts h j ts[j] (by simp [hj])
    have h2 := count_le_countAll ts j ts[j] (by simp [hj])
    exact ⟨h1.2, by omega, by rw [h1.1]⟩

theorem MapF_made (w : World) : MapF (w.alloc (.map #[] 0)) w.heap.size (fun _ => none) :=
  ⟨[], ⟨⟨#[], 0, heap_alloc_new w _, rfl⟩, fun x hx => by simp at hx⟩, fun _ => rfl⟩

theorem ownsRow_but {w w' : World} {B base n size : Nat} {e : TypeId} {v : Value} {xs : List Value} (h : w.ownsRow base e size v n xs) (hB : B < base) (hb : ButAt B w w') : w'.ownsRow base e size v n xs := by
  refine h.kept (row := some B) ⟨hb.os, hb.tape, hb.output, Nat.le_of_eq hb.size.symm, fun k hk hne => hb.block k (fun e => hne (by rw [e]))⟩ (.inr fun e => ?_)
  have := (h.lt B e).1
  omega

theorem kids_le' (ts : List AT) : (AT.kids ts).length ≤ ts.length := List.length_filter_le _ _

set_option maxHeartbeats 4000000 in
theorem Count_any (ts : List AT) (w : World) (v : Value) (hsl : AT.Sl w ts v) (hnd : (AT.addrsAll ts).Nodup) (hc : AT.countAll ts ≤ 1048576) :
    Calls Tryd.prog 93 #[v] w fun r w' => r = .returned (.int .i64 (AT.countAll ts)) ∧ Below w.heap.size w w' := by
  have hRe : Reach (fun M => ∀ t ∈ ts, (M t.ad).getD 0 = t.inner) (0 + AT.costAll ts) ((AT.kids ts).reverse ++ []) (fun _ => none) :=
    Reach.all _ ts hnd 0 [] _ (fun _ _ => rfl) fun M' h1 _ => by unfold Reach; exact h1
  rw [List.append_nil, Nat.zero_add] at hRe
  have hce := AT.costAll_eq ts
  have hgood := Sl_good hsl hc
  have hll := length_le_countAll ts
  have HH : Hid (_ ∧ _ ∧ _) := ⟨hsl, hRe, hgood⟩
  clear hsl hRe hgood hnd
  have hmm := @run_makeMap Tryd.prog
  have hB1 : Below w.heap.size w (w.alloc (.map #[] 0)) := (Below.refl _ _).alloc (Nat.le_refl _) _
  have HB1 : Hid _ := hB1
  clear hB1
  go_enter Tryd.func93, Tryd.ntmps93
  go_wp2_with (first
    | (go_at_call 116; refine (appendUnmet_any ts w _ _ _ 0 [] (fun _ => none) HB1.out HH.out.1 (MapF_made w) (World.ownsRow_nil _ _ _ _) (fun _ _ => rfl) (by omega) hc).mono ?_; rintro e w1 ⟨v1, rfl, ho1, hm1, hb1⟩; have H1 : Hid (_ ∧ _ ∧ _) := ⟨ho1, hm1, hb1⟩; clear ho1 hm1 hb1))
  go_loopg [4, 5, 6, 7] (AT.costAll ts) (fun k u _ _ _ wr => ∃ (st : List AT) (M : Addr → Option Int), Reach (fun M => ∀ t ∈ ts, (M t.ad).getD 0 = t.inner) k st M ∧ k ≤ AT.costAll ts ∧ wr.ownsRow (w.heap.size + 1) 188 1 u st.length (ptrs st.reverse) ∧ MapF wr w.heap.size M ∧ (∀ t ∈ st, Good w t) ∧ Below w.heap.size w wr)
  case atStart =>
    refine ⟨(AT.kids ts).reverse, fun _ => none, HH.out.2.1, Nat.le_refl _, ?_, H1.out.2.1, fun t ht => HH.out.2.2 t (AT.kids_mem (by simpa using ht)), H1.out.2.2⟩
    simpa using H1.out.1
  case round =>
    obtain ⟨st, M, hre, hk, hown, hm, hgood, hb⟩ := hrel
    cases st with
    | nil =>
      have hF : ∀ t ∈ ts, (M t.ad).getD 0 = t.inner := by unfold Reach at hre; exact hre
      have hu : ∃ ad c, u4 = .slice ad 0 c := by
        rcases hown.2 with ⟨rfl, _⟩ | ⟨g, cap, cur, rfl, _⟩
        · exact ⟨_, _, rfl⟩
        · exact ⟨_, _, rfl⟩
      obtain ⟨ad, c, rfl⟩ := hu
      have HE : Hid (_ ∧ _ ∧ _) := ⟨hF, hm, hb⟩
      clear hF hm hb hown hgood hre
      go_wp2_with (first
        | (go_at_call 118; refine (size_any ts _ _ _ M (HH.out.1.below HE.out.2.2) HE.out.2.1 hc HE.out.1).mono ?_; rintro e w' ⟨rfl, rfl⟩))
      go_ret
      exact ⟨rfl, HE.out.2.2⟩
    | cons t st =>
      have hlen := Reach.length_le _ _ _ _ hre
      obtain ⟨g, cap, rfl, hgB, hcells⟩ := getCell hown (by simp)
      have htop := hcells st.length (.pointer (some t.ad)) (by simp [ptrs])
      rw [show (0 + st.length) = st.length by omega] at htop
      obtain ⟨hin, hct, hsp⟩ := hgood t List.mem_cons_self
      have hp := AT.In.parts hin
      have hgr : ∀ t ∈ st, Good w t := fun t ht => hgood t (List.mem_cons_of_mem _ ht)
      have hbl := parts_le_count t
      obtain ⟨⟨tg, tof, tsp⟩, hta⟩ : ∃ a, t.ad = a := ⟨_, rfl⟩
      have hsp' : tsp = none := by rw [hta] at hsp; exact hsp
      subst hsp'
      rw [hta] at htop hp
      obtain ⟨hblk, ⟨x1, c1, e1, s1⟩, ⟨x2, c2, e2, s2⟩⟩ := hp
      dsimp only at e1 e2 hblk
      have htl : tg < w.heap.size := World.block_lt_of_cell? _ _ e1
      have hblk := hblk.below hb
      have hlk := run_lookup_ok (a := ⟨tg, tof, none⟩) hm hblk
      simp only [List.length_cons] at hown hcells hlen
      have h21 : st.length + 1 ≤ 2097152 := by omega
      have hcap : st.length + 1 ≤ cap := by
        rcases hown.2 with ⟨h, _⟩ | ⟨g', cap', cur, h, _, _, h', _⟩
        · cases h
        · cases h; exact h'
      cases gk with
      | zero => omega
      | succ n =>
        unfold Reach at hre
        rw [hta] at hre
        rcases hre with ⟨h1, h2, h3⟩ | ⟨⟨cc, h1⟩, h2, h3⟩
        · rw [h1] at hlk
          simp only [Option.getD_none, Option.isSome_none] at hlk
          obtain ⟨wu, hup, hm1, hbut⟩ := run_mapUpdate_ptr (a := ⟨tg, tof, none⟩) (z := 9223372036854775807) hm hblk
          have hbu : Below w.heap.size w wu := hb.trans hbut.below
          have d1 := below_cell hbu e1
          have hku := ownsRow_but hown (by omega) hbut
          have HK : Hid (_ ∧ _ ∧ _ ∧ _ ∧ _ ∧ _ ∧ _) := ⟨hku, hbu, hgr, h2, h3, hm1, hgood⟩
          have HS : Hid (_ ∧ _ ∧ _ ∧ _) := ⟨s1, s2, e1, e2⟩
          clear hown hb hgr h2 h3 hm hm1 hbut hgood hcells hbu hku s1 s2 e1 e2 hblk hin h1
          have hkb := kids_le' t.b
          have hkl := kids_le' t.l
          go_wp2_with (first
            | (go_at_call_of 116 x1; refine (appendUnmet_any t.b w _ _ _ (st.length + 1) (ptrs (t :: st).reverse) (upd M ⟨tg, tof, none⟩ 9223372036854775807) HK.out.2.1 HS.out.1 HK.out.2.2.2.2.2.1 HK.out.1 (fun k hk => HK.out.2.2.2.1 k (List.mem_append_left _ hk)) (by omega) (by omega)).mono ?_; rintro e w2 ⟨v2, rfl, ho2, hm2, hb2⟩; have d2 := below_cell hb2 HS.out.2.2.2; have H2 : Hid (_ ∧ _ ∧ _) := ⟨ho2, hm2, hb2⟩; clear ho2 hm2 hb2)
            | (go_at_call_of 116 x2; refine (appendUnmet_any t.l w _ _ _ (st.length + 1 + (AT.kids t.b).length) (ptrs (t :: st).reverse ++ ptrs (AT.kids t.b)) (upd M ⟨tg, tof, none⟩ 9223372036854775807) H2.out.2.2 HS.out.2.1 H2.out.2.1 H2.out.1 (fun k hk => HK.out.2.2.2.1 k (List.mem_append_right _ hk)) (by omega) (by omega)).mono ?_; rintro e w3 ⟨v3, rfl, ho3, hm3, hb3⟩; have H3 : Hid (_ ∧ _ ∧ _) := ⟨ho3, hm3, hb3⟩; clear ho3 hm3 hb3))
          go_roundg n
          case measure => omega
          case rel =>
            refine ⟨(AT.kids t.l).reverse ++ ((AT.kids t.b).reverse ++ t :: st), upd M ⟨tg, tof, none⟩ 9223372036854775807, HK.out.2.2.2.2.1, by omega, ?_, H3.out.2.1, ?_, H3.out.2.2⟩
            · have h := H3.out.1
              unfold ptrs at h ⊢
              have e1 : ((AT.kids t.l).reverse ++ ((AT.kids t.b).reverse ++ t :: st)).length = st.length + 1 + (AT.kids t.b).length + (AT.kids t.l).length := by simp; omega
              rw [e1]
              simpa [List.map_append] using h
            · intro k hk
              have g1 := Sl_good HS.out.1 (by omega)
              have g2 := Sl_good HS.out.2.1 (by omega)
              rcases List.mem_append.1 hk with hk | hk
              · exact g2 k (AT.kids_mem (by simpa using hk))
              · rcases List.mem_append.1 hk with hk | hk
                · exact g1 k (AT.kids_mem (by simpa using hk))
                · exact HK.out.2.2.2.2.2.2 k hk
        · rw [h1] at hlk
          simp only [Option.getD_some, Option.isSome_some] at hlk
          have hmd : MapF wr.drew w.heap.size M := hm.below (Below.refl _ _).drew
          have hbd : Below w.heap.size w wr.drew := hb.drew
          obtain ⟨wu, hup, hm1, hbut⟩ := run_mapUpdate_ptr (a := ⟨tg, tof, none⟩) (z := (AT.countAll t.b : Int) + (AT.countAll t.l : Int)) hmd (hblk.below (Below.refl _ _).drew)
          have hbu : Below w.heap.size w wu := hbd.trans hbut.below
          have d1 := below_cell hb e1
          have d2 := below_cell hb e2
          have u1 := below_cell hbu e1
          have u2 := below_cell hbu e2
          have hku := ownsRow_but (ownsRow_below hown (Below.refl _ _).drew) (by omega) hbut
          have HK : Hid (_ ∧ _ ∧ _ ∧ _ ∧ _ ∧ _) := ⟨hku, hbu, hgr, h2, h3, hm1⟩
          have HS : Hid (_ ∧ _ ∧ _ ∧ _) := ⟨s1, s2, hmd, hbd⟩
          clear hown hb hgr h2 h3 hm hm1 hbut hgood hcells hbu hku s1 s2 e1 e2 hblk hin h1 hmd hbd
          go_wp2_with fail
          go_region_held3 (fun w' => w'.cell? ⟨tg, tof + 12, none⟩ = some (.slice x1 t.b.length c1) ∧ w'.cell? ⟨tg, tof + 13, none⟩ = some (.slice x2 t.l.length c2))
            (first | exact ⟨d1, d2⟩ | exact ⟨u1, u2⟩)
            (first
              | (go_at_call_of 118 x1; refine (size_any t.b _ _ _ M (HS.out.1.below HS.out.2.2.2) HS.out.2.2.1 (by omega) (fun k hk => HK.out.2.2.2.1 k (List.mem_append_left _ hk))).mono ?_; rintro e w' ⟨rfl, rfl⟩)
              | (go_at_call_of 118 x2; refine (size_any t.l _ _ _ M (HS.out.2.1.below HS.out.2.2.2) HS.out.2.2.1 (by omega) (fun k hk => HK.out.2.2.2.1 k (List.mem_append_right _ hk))).mono ?_; rintro e w' ⟨rfl, rfl⟩)
              | (go_at_call 117; refine (plus_any _ _ _ (by omega) (by omega) (by omega)).mono ?_; rintro e w' ⟨rfl, rfl⟩))
          all_goals
            go_wp2_with fail
            go_roundg n
            case measure => omega
            case rel =>
              refine ⟨st, _, HK.out.2.2.2.2.1, by omega, ?_, HK.out.2.2.2.2.2, HK.out.2.2.1, HK.out.2.1⟩
              have h := HK.out.1
              rw [List.reverse_cons, ptrs, List.map_append] at h
              exact ownsRow_pop (by simp [ptrs]) h
end Go.Proofs.YtgemadoieielcacDoor.B
namespace Go.Proofs.YtgemadoieielcacDoor.B
open Go.ChangeShapes Go.WideShapes Go.ChangeAt Go.RowKit

/-- The cell of the answer. -/
theorem ans_cells {w : World} {g : Nat} {x y : Value} (h : w.heap[g]? = some (.cells #[x, y] 30 (0, 0))) : w.cell? ⟨g, 0, none⟩ = some x ∧ w.cell? ⟨g, 1, none⟩ = some y ∧ (∀ j, w.frozen? ⟨g, j, none⟩ = false) ∧ g < w.heap.size := by
  refine ⟨?_, ?_, ?_, (Array.getElem?_eq_some_iff.1 h).1⟩
  · unfold World.cell?; rw [h]; rfl
  · unfold World.cell?; rw [h]; rfl
  · intro j; unfold World.frozen?; rw [h]; simp

theorem three_below {w w1 : World} {o1 o2 o3 : Obj} (h : Below w.heap.size w w1) : Below w.heap.size w (((w1.alloc o1).alloc o2).alloc o3) := by
  have hs := h.size
  exact ((h.alloc hs o1).alloc (by simp; omega) o2).alloc (by simp; omega) o3

theorem three_old {w1 : World} {o1 o2 o3 : Obj} {g : Nat} {o : Option Obj} (hg : g < w1.heap.size) (h : w1.heap[g]? = o) : (((w1.alloc o1).alloc o2).alloc o3).heap[g]? = o := by
  rw [Below.heap_alloc _ _ _ (by simp; omega), Below.heap_alloc _ _ _ (by simp; omega), Below.heap_alloc _ _ _ hg, h]

/-- The walk at its start. -/
theorem three_wk {w1 : World} {o2 o3 : Obj} : Wk (((w1.alloc (.cells #[.int .i64 (-1), .slice none 0 0] 159)).alloc o2).alloc o3) w1.heap.size (w1.heap.size + 1) (-1) (.slice none 0 0) [] := by
  refine ⟨?_, ⟨[], World.ownsRow_nil _ _ _ _, rfl⟩, by omega, by simp⟩
  rw [Below.heap_alloc _ _ _ (by simp; omega), Below.heap_alloc _ _ _ (by simp)]
  exact heap_alloc_new w1 _

set_option maxRecDepth 20000 in
set_option maxHeartbeats 2000000 in
theorem Check_of_list (a : List St) (w : World) (v : Value) (p : Nat → Prop) (bl : List Nat) (hsl : St.SlQ p w a v bl) (hnd : bl.Nodup) (hN : St.bulkAll a ≤ 1048576) (hL : ListOk w 1048576) :
    Calls Tryd.prog 59 #[v] w fun r w' => r = .returned (if 200 < St.countAll a then .agg #[.int .i64 2, .int .i64 0] else .agg #[.int .i64 (firstErr (St.flatAll a 0 []) 0).1, .int .i64 (firstErr (St.flatAll a 0 []) 0).2]) ∧ Below w.heap.size w w' := by
  obtain ⟨ts, hts, hct, hnd'⟩ := hsl.seen hnd
  have hp := hsl.plain
  obtain ⟨ad, c, rfl, -⟩ := id hp
  have hcl := St.countAll_le a
  have hB1 : Below w.heap.size w (w.alloc (.cells #[.int .i64 0, .int .i64 0] 30)) := (Below.refl _ _).alloc (Nat.le_refl _) _
  have HH : Hid (AT.Sl w ts (.slice ad a.length c) ∧ (AT.addrsAll ts).Nodup ∧ St.Sl w a (.slice ad a.length c) ∧ ListOk w 1048576 ∧ Below w.heap.size w (w.alloc (.cells #[.int .i64 0, .int .i64 0] 30)) ∧ AT.countAll ts = St.countAll a) := ⟨hts, hnd', hp, hL, hB1, hct⟩
  clear hts hnd' hp hL hB1 hsl hnd hct
  by_cases h200 : 200 < St.countAll a
  · have hd : decide (200 < (St.countAll a : Int)) = true := decide_eq_true (by omega)
    rw [if_pos h200]
    go_enter Tryd.func59, Tryd.ntmps59
    go_wp2_with (first
      | (go_at_call 93; refine (Count_any ts _ _ (HH.out.1.below HH.out.2.2.2.2.1) HH.out.2.1 (by have := HH.out.2.2.2.2.2; omega)).mono ?_; rintro r w1 ⟨rfl, hb1⟩; rw [HH.out.2.2.2.2.2]; obtain ⟨k0, k1, kf, kl⟩ := ans_cells ((hb1.block w.heap.size (by simp)).trans (heap_alloc_new w _)); have HB : Hid _ := hb1; clear hb1))
    exact bodyPost_ret (v := .agg #[.int .i64 2, .int .i64 0]) (by simp [results, Tryd.results59, go_sem, k0, k1]) rfl ⟨rfl, ((below_seq HH.out.2.2.2.2.1 HB.out).setCell (by simp) _).setCell (by simp) _⟩
  · have hd : decide (200 < (St.countAll a : Int)) = false := decide_eq_false (by omega)
    rw [if_neg h200, chk_body]
    have hen := ent22
    by_cases hz : (St.chkAll a [] (-1)).1 = 0
    · rw [if_neg (by simpa using hz)]
      go_enter Tryd.func59, Tryd.ntmps59
      go_wp2_with (first
        | (go_at_call 93; refine (Count_any ts _ _ (HH.out.1.below HH.out.2.2.2.2.1) HH.out.2.1 (by have := HH.out.2.2.2.2.2; omega)).mono ?_; rintro r w1 ⟨rfl, hb1⟩; rw [HH.out.2.2.2.2.2]; have HK : Hid (w1.heap[w.heap.size]? = some (.cells #[.int .i64 0, .int .i64 0] 30 (0, 0))) := (hb1.block w.heap.size (by simp)).trans (heap_alloc_new w _); obtain ⟨k0, k1, kf, kl⟩ := ans_cells HK.out; have HB : Hid _ := hb1; clear hb1)
        | (go_at_call 94; refine (list_any _ _ _ _ _).mono ?_; rintro r w2 ⟨rfl, rfl⟩))
      have hs1 : w.heap.size < w1.heap.size := kl
      have hwb : Below w.heap.size w (((w1.alloc (.cells #[.int .i64 (-1), .slice none 0 0] 159)).alloc (.cells #[.pointer (some ⟨w1.heap.size, 0, none⟩)] 190)).alloc (.cells #[.slice ad a.length c] 63)) := three_below (below_seq HH.out.2.2.2.2.1 HB.out)
      refine (HH.out.2.2.2.1 a _ w1.heap.size (w1.heap.size + 1) (w1.heap.size + 1 + 1) (w1.heap.size + 1) (-1) (.slice none 0 0) (.slice ad a.length c) [] hN (by omega) hwb HH.out.2.2.1 three_wk (by omega) (by omega) (by simp; omega) (by simp [go_sem]) (by simp [go_sem]) (by omega) (by simp [Value.ownBlock])).mono ?_
      rintro r w3 ⟨rfl, v3, hk3, hr3⟩
      have hk0 : (((w1.alloc (.cells #[.int .i64 (-1), .slice none 0 0] 159)).alloc (.cells #[.pointer (some ⟨w1.heap.size, 0, none⟩)] 190)).alloc (.cells #[.slice ad a.length c] 63)).heap[w.heap.size]? = some (.cells #[.int .i64 0, .int .i64 0] 30 (0, 0)) := three_old hs1 HK.out
      obtain ⟨m0, m1, mf, ml⟩ := ans_cells ((hr3.block w.heap.size (by simp; omega) (by omega) (by simp [Value.ownBlock])).trans hk0)
      have mb : w3.cell? ⟨w1.heap.size, 0, none⟩ = some (.int .i64 (St.chkAll a [] (-1)).2) := by unfold World.cell?; rw [hk3.blk]; rfl
      have hlow := hr3.low three_wk (by omega) hwb
      have HL : Hid (Below w.heap.size w w3) := hlow
      clear hk3 hr3 hk0 hwb hlow k0 k1 kf
      go_wp2_with fail
      exact bodyPost_ret (v := .agg #[.int .i64 0, .int .i64 0]) (by simp [results, Tryd.results59, go_sem, m0, m1]) rfl ⟨rfl, (HL.out.setCell (by simp) _).setCell (by simp) _⟩
    · have hz' : ((St.chkAll a [] (-1)).1 != 0) = true := by simpa using hz
      rw [if_pos hz]
      go_enter Tryd.func59, Tryd.ntmps59
      go_wp2_with (first
        | (go_at_call 93; refine (Count_any ts _ _ (HH.out.1.below HH.out.2.2.2.2.1) HH.out.2.1 (by have := HH.out.2.2.2.2.2; omega)).mono ?_; rintro r w1 ⟨rfl, hb1⟩; rw [HH.out.2.2.2.2.2]; have HK : Hid (w1.heap[w.heap.size]? = some (.cells #[.int .i64 0, .int .i64 0] 30 (0, 0))) := (hb1.block w.heap.size (by simp)).trans (heap_alloc_new w _); obtain ⟨k0, k1, kf, kl⟩ := ans_cells HK.out; have HB : Hid _ := hb1; clear hb1)
        | (go_at_call 94; refine (list_any _ _ _ _ _).mono ?_; rintro r w2 ⟨rfl, rfl⟩))
      have hs1 : w.heap.size < w1.heap.size := kl
      have hwb : Below w.heap.size w (((w1.alloc (.cells #[.int .i64 (-1), .slice none 0 0] 159)).alloc (.cells #[.pointer (some ⟨w1.heap.size, 0, none⟩)] 190)).alloc (.cells #[.slice ad a.length c] 63)) := three_below (below_seq HH.out.2.2.2.2.1 HB.out)
      refine (HH.out.2.2.2.1 a _ w1.heap.size (w1.heap.size + 1) (w1.heap.size + 1 + 1) (w1.heap.size + 1) (-1) (.slice none 0 0) (.slice ad a.length c) [] hN (by omega) hwb HH.out.2.2.1 three_wk (by omega) (by omega) (by simp; omega) (by simp [go_sem]) (by simp [go_sem]) (by omega) (by simp [Value.ownBlock])).mono ?_
      rintro r w3 ⟨rfl, v3, hk3, hr3⟩
      have hk0 : (((w1.alloc (.cells #[.int .i64 (-1), .slice none 0 0] 159)).alloc (.cells #[.pointer (some ⟨w1.heap.size, 0, none⟩)] 190)).alloc (.cells #[.slice ad a.length c] 63)).heap[w.heap.size]? = some (.cells #[.int .i64 0, .int .i64 0] 30 (0, 0)) := three_old hs1 HK.out
      obtain ⟨m0, m1, mf, ml⟩ := ans_cells ((hr3.block w.heap.size (by simp; omega) (by omega) (by simp [Value.ownBlock])).trans hk0)
      have mb : w3.cell? ⟨w1.heap.size, 0, none⟩ = some (.int .i64 (St.chkAll a [] (-1)).2) := by unfold World.cell?; rw [hk3.blk]; rfl
      have hlow := hr3.low three_wk (by omega) hwb
      have HL : Hid (Below w.heap.size w w3) := hlow
      clear hk3 hr3 hk0 hwb hlow k0 k1 kf
      go_wp2_with fail
      exact bodyPost_ret (v := .agg #[.int .i64 (St.chkAll a [] (-1)).1, .int .i64 (St.chkAll a [] (-1)).2]) (by simp [results, Tryd.results59, go_sem, m0, m1]) rfl ⟨rfl, (HL.out.setCell (by simp) _).setCell (by simp) _⟩
end Go.Proofs.YtgemadoieielcacDoor.B
