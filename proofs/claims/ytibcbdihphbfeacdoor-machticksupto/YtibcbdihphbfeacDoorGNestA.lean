import Derived.Test.YtibcbdihphbfeacDoorRows
import Derived.WalkKit
import Derived.ProofKit
import Derived.OpenShut
import Derived.Handy
import Derived.Deep.QuietTactic
import Derived.BigQuiet
import Derived.Deep.RegionHeld3
import Derived.LaidMore
import Derived.ChangeArms
import Derived.Maps.OwnSet
import Derived.Maps.Views
import Derived.Laws.AppendOwnNone
namespace Go.Proofs.YtibcbdihphbfeacDoor
open Go.ChangeShapes Go.WideShapes Go.ChangeAt Go.RowKit
structure In where
 op : Int
 a : Int
 b : Int
def In.val (x : In) : Value := .agg #[.int .i64 x.op, .int .i64 x.a, .int .i64 x.b]
def in0 : In := ⟨0, 0, 0⟩
theorem below_cell {w w' : World} (hb : Below w.heap.size w w') {p : Addr} {v : Value} (h : w.cell? p = some v) : w'.cell? p = some v :=
 (hb.cell (World.block_lt_of_cell? w p h)).trans h
theorem below_seq {a b c : World} (h : Below a.heap.size a b) (h' : Below b.heap.size b c) : Below a.heap.size a c := h.trans (h'.mono h.size)
theorem below_new (w : World) (o : Obj) : Below w.heap.size w (w.alloc o) := (Below.refl _ w).alloc (Nat.le_refl _) o
def InSl (w : World) (l : List In) (v : Value) : Prop := ∃ ad c, v = .slice ad l.length c ∧ (l = [] ∨ ∃ b o, ad = some ⟨b, o, none⟩ ∧ ∀ j, j < l.length → w.cell? ⟨b, o + j * 3, none⟩ = some (.int .i64 (l.getD j in0).op) ∧ w.cell? ⟨b, o + j * 3 + 1, none⟩ = some (.int .i64 (l.getD j in0).a) ∧ w.cell? ⟨b, o + j * 3 + 2, none⟩ = some (.int .i64 (l.getD j in0).b))
theorem InSl.below {w w' : World} {l : List In} {v : Value} (h : InSl w l v) (hb : Below w.heap.size w w') : InSl w' l v := by
 obtain ⟨ad, c, h1, h2⟩ := h
 refine ⟨ad, c, h1, ?_⟩
 rcases h2 with h2 | ⟨b, o, h2, h3⟩
 ·exact .inl h2
 ·exact .inr ⟨b, o, h2, fun j hj => ⟨below_cell hb (h3 j hj).1, below_cell hb (h3 j hj).2.1, below_cell hb (h3 j hj).2.2⟩⟩
/- The table of kinds: the least A, the greatest A, the greatest B, what is taken, what is put. -/
def lowA (m : Nat) : Int := if m = 18 then 1 else 0
def highA (m : Nat) : Int := [0, 999999999, 7, 7, 0, 0, 0, 0, 0, 3, 3, 2000, 2000, 7, 7, 7, 3, 3, 1000].getD m 0
def highB (m : Nat) : Int := if m = 13 then 1000 else if m = 14 then 2000 else 0
def takesOf (m : Nat) : Int := [0, 0, 0, 1, 2, 2, 2, 2, 2, 0, 1, 0, 1, 0, 0, 0, 0, 0, 0].getD m 0
def putsOf (m : Nat) : Int := [0, 1, 1, 0, 1, 1, 1, 1, 1, 1, 0, 0, 0, 0, 0, 0, 0, 0, 0].getD m 0
def tickOf (m : Nat) : Int := [0, 1, 1, 1, 1, 1, 3, 1, 1, 2, 2, 2, 1, 1, 1, 1, 1, 1, 0].getD m 0
def KindsIn (w : World) : Prop := ∀ m : Nat, 1 ≤ m → m ≤ 18 → w.cell? ⟨1, m * 6, none⟩ = some (.int .i64 (lowA m)) ∧ w.cell? ⟨1, m * 6 + 1, none⟩ = some (.int .i64 (highA m)) ∧ w.cell? ⟨1, m * 6 + 2, none⟩ = some (.int .i64 (highB m)) ∧ w.cell? ⟨1, m * 6 + 3, none⟩ = some (.int .i64 (takesOf m)) ∧ w.cell? ⟨1, m * 6 + 4, none⟩ = some (.int .i64 (putsOf m)) ∧ w.cell? ⟨1, m * 6 + 5, none⟩ = some (.int .i64 (tickOf m))
theorem KindsIn.below {w w' : World} (h : KindsIn w) (hb : Below w.heap.size w w') : KindsIn w' := fun m h1 h2 =>
 ⟨below_cell hb (h m h1 h2).1, below_cell hb (h m h1 h2).2.1, below_cell hb (h m h1 h2).2.2.1, below_cell hb (h m h1 h2).2.2.2.1, below_cell hb (h m h1 h2).2.2.2.2.1, below_cell hb (h m h1 h2).2.2.2.2.2⟩
def formErr (x : In) : Int := if x.op < 1 ∨ 18 < x.op then 6 else if x.a < lowA x.op.toNat ∨ highA x.op.toNat < x.a ∨ x.b < 0 ∨ highB x.op.toNat < x.b then 3 else 0
set_option maxRecDepth 20000 in
set_option maxHeartbeats 4000000 in
theorem isIns_no (w : World) (op a b : Int) (h : op < 1 ∨ 18 < op) : Calls Tryd.prog 52 #[.agg #[.int .i64 op, .int .i64 a, .int .i64 b]] w fun r w' => r = .returned (.bool false) ∧ Below w.heap.size w w' := by
 rcases h with h | h
 ·go_enter Tryd.func52, Tryd.ntmps52
  go_wp2_with fail
  go_ret
  exact ⟨rfl, below_new _ _⟩
 ·have h1 : 1 ≤ op := by omega
  have h2 : ¬ op ≤ 18 := by omega
  have e1 : decide (1 ≤ op) = true := by simpa using h1
  have e2 : decide (op ≤ 18) = false := by simpa using h
  go_enter Tryd.func52, Tryd.ntmps52
  go_wp2_with fail
  go_ret
  exact ⟨rfl, below_new _ _⟩
set_option maxRecDepth 20000 in
set_option maxHeartbeats 4000000 in
theorem isIns_yes (w : World) (op a b : Int) (h1 : 1 ≤ op) (h2 : op ≤ 18) : Calls Tryd.prog 52 #[.agg #[.int .i64 op, .int .i64 a, .int .i64 b]] w fun r w' => r = .returned (.bool true) ∧ Below w.heap.size w w' := by
 have e1 : decide (1 ≤ op) = true := by simpa using h1
 have e2 : decide (op ≤ 18) = true := by simpa using h2
 go_enter Tryd.func52, Tryd.ntmps52
 go_wp2_with fail
 go_ret
 exact ⟨rfl, below_new _ _⟩
theorem gKinds : Tryd.prog.globalNamed "punctual/mach.kinds" = some 1 := by kernel_rfl
theorem gNo : Tryd.prog.globalNamed "punctual/punctuallaw.noIns" = some 0 := by kernel_rfl
theorem tKinds : (Tryd.prog.globals[1]?).map (·.type) = some 105 := by kernel_rfl
theorem tNo : (Tryd.prog.globals[0]?).map (·.type) = some 35 := by kernel_rfl
theorem laidCells104 : Tryd.prog.cellsOf 104 = 6 := by kernel_rfl
theorem laidCells3 : Tryd.prog.cellsOf 3 = 1 := by kernel_rfl
section
variable {H : Type} {enc : TypeId × Value → H} {w : World} {base : Nat} {sp : Nat → Bool} {held : Bool}
theorem one_at {cs : List Value} {o k j : Nat} {c : Value} (hj : j < k) (h : (((cs.drop o).take k).drop j).take 1 = [c]) : cs[o + j]? = some c := by
 have h0 : ((((cs.drop o).take k).drop j).take 1)[0]? = some c := by rw [h]; rfl
 rw [List.getElem?_take_of_lt (by omega), List.getElem?_drop, List.getElem?_take_of_lt (by omega), List.getElem?_drop] at h0
 simpa using h0
theorem int_at {cs : List Value} {o k j n : Nat} {z : Int} {y : DataW H × List MemPlace} (hj : j < k) (h : DataW.trod enc Tryd.prog w base sp held n 3 ((((cs.drop o).take k).drop j).take 1) = some y) (hy : y.1 = .lit (.int .i64 z)) : cs[o + j]? = some (.int .i64 z) := by
 obtain ⟨m, h1, rfl, -⟩ := DataW.trod_int Tryd.underlying3 h
 simp at hy
 subst hy
 exact one_at hj h1
theorem row104 {cs : List Value} {o n : Nat} {k0 k1 k2 k3 k4 k5 : Int} {y : DataW H × List MemPlace} (h : DataW.trod enc Tryd.prog w base sp held n 104 ((cs.drop o).take 6) = some y)
  (hy : y.1 = .agg [.lit (.int .i64 k0), .lit (.int .i64 k1), .lit (.int .i64 k2), .lit (.int .i64 k3), .lit (.int .i64 k4), .lit (.int .i64 k5)]) :
  cs[o]? = some (.int .i64 k0) ∧ cs[o + 1]? = some (.int .i64 k1) ∧ cs[o + 2]? = some (.int .i64 k2) ∧ cs[o + 3]? = some (.int .i64 k3) ∧ cs[o + 4]? = some (.int .i64 k4) ∧ cs[o + 5]? = some (.int .i64 k5) := by
 obtain ⟨xs, n1, rfl, rfl, -, hlen, hf⟩ := DataW.trod_struct Tryd.underlying104 h
 match xs, hlen with
 | [y0, y1, y2, y3, y4, y5], _ =>
  simp only [List.map_cons, List.map_nil, DataW.agg.injEq, List.cons.injEq, and_true] at hy
  obtain ⟨e0, e1, e2, e3, e4, e5⟩ := hy
  have f0 : DataW.trod enc Tryd.prog w base sp held n1 3 ((((cs.drop o).take 6).drop 0).take (Tryd.prog.cellsOf 3)) = some y0 := hf 0 _ rfl
  have f1 : DataW.trod enc Tryd.prog w base sp held n1 3 ((((cs.drop o).take 6).drop 1).take (Tryd.prog.cellsOf 3)) = some y1 := hf 1 _ rfl
  have f2 : DataW.trod enc Tryd.prog w base sp held n1 3 ((((cs.drop o).take 6).drop 2).take (Tryd.prog.cellsOf 3)) = some y2 := hf 2 _ rfl
  have f3 : DataW.trod enc Tryd.prog w base sp held n1 3 ((((cs.drop o).take 6).drop 3).take (Tryd.prog.cellsOf 3)) = some y3 := hf 3 _ rfl
  have f4 : DataW.trod enc Tryd.prog w base sp held n1 3 ((((cs.drop o).take 6).drop 4).take (Tryd.prog.cellsOf 3)) = some y4 := hf 4 _ rfl
  have f5 : DataW.trod enc Tryd.prog w base sp held n1 3 ((((cs.drop o).take 6).drop 5).take (Tryd.prog.cellsOf 3)) = some y5 := hf 5 _ rfl
  rw [laidCells3] at f0 f1 f2 f3 f4 f5
  exact ⟨int_at (by omega) f0 e0, int_at (by omega) f1 e1, int_at (by omega) f2 e2, int_at (by omega) f3 e3, int_at (by omega) f4 e4, int_at (by omega) f5 e5⟩
theorem int_one {cs : List Value} {o n : Nat} {z : Int} {y : DataW H × List MemPlace} (h : DataW.trod enc Tryd.prog w base sp held n 3 ((cs.drop o).take 1) = some y) (hy : y.1 = .lit (.int .i64 z)) : cs[o]? = some (.int .i64 z) := by
 obtain ⟨m, h1, rfl, -⟩ := DataW.trod_int Tryd.underlying3 h
 simp at hy
 subst hy
 have h0 : ((cs.drop o).take 1)[0]? = some (.int .i64 m) := by rw [h1]; rfl
 rw [List.getElem?_take_of_lt (by omega), List.getElem?_drop] at h0
 simpa using h0
end
theorem of_laid {W : World} (h : laidMetH Tryd.prog Rows.machRunsUptoRow.laid W) : KindsIn W ∧ W.cell? ⟨0, 0, none⟩ = some (.int .i64 (-1)) ∧ W.cell? ⟨0, 1, none⟩ = some (.int .i64 (-2)) ∧ W.cell? ⟨0, 2, none⟩ = some (.int .i64 (-3)) := by
 rw [MakeChecks.laidMetH_plain _ _ _ (by kernel_rfl)] at h
 obtain ⟨ps, ⟨g0, t0, cs0, f0, p0, q0, hg0, ht0, hv0, hd0, ⟨g1, t1, cs1, f1, p1, q1, hg1, ht1, hv1, hd1, _, _⟩, _⟩, _, _⟩ := h
 obtain rfl := Option.some.inj (gKinds.symm.trans hg0)
 obtain rfl := Option.some.inj (gNo.symm.trans hg1)
 obtain rfl := Option.some.inj (tKinds.symm.trans ht0)
 obtain rfl := Option.some.inj (tNo.symm.trans ht1)
 have c0 : ∀ j, W.cell? ⟨1, j, none⟩ = cs0[j]? := World.var?_cell hg0 hv0
 have c1 : ∀ j, W.cell? ⟨0, j, none⟩ = cs1[j]? := World.var?_cell hg1 hv1
 refine ⟨?_, ?_⟩
 ·obtain ⟨xs, m0, rfl, hx, -, hn, hel⟩ := DataW.trod_array Tryd.underlying105 hd0
  simp only [laidCells104] at hel
  match xs, hn with
  | [x0, x1, x2, x3, x4, x5, x6, x7, x8, x9, x10, x11, x12, x13, x14, x15, x16, x17, x18], _ =>
   simp only [Rows.laid_punctual_mach_kinds, Prod.mk.injEq, DataW.agg.injEq, List.map_cons, List.map_nil, List.cons.injEq, and_true] at hx
   obtain ⟨⟨e0, e1, e2, e3, e4, e5, e6, e7, e8, e9, e10, e11, e12, e13, e14, e15, e16, e17, e18⟩, -⟩ := hx
   have a0 : ∀ j u, cs0.toList[j]? = some u → W.cell? ⟨1, j, none⟩ = some u := fun j u hu => by rw [c0]; simpa using hu
   intro m h1 h2
   have h : m = 1 ∨ m = 2 ∨ m = 3 ∨ m = 4 ∨ m = 5 ∨ m = 6 ∨ m = 7 ∨ m = 8 ∨ m = 9 ∨ m = 10 ∨ m = 11 ∨ m = 12 ∨ m = 13 ∨ m = 14 ∨ m = 15 ∨ m = 16 ∨ m = 17 ∨ m = 18 := by omega
   rcases h with rfl | rfl | rfl | rfl | rfl | rfl | rfl | rfl | rfl | rfl | rfl | rfl | rfl | rfl | rfl | rfl | rfl | rfl
   ·obtain ⟨r0, r1, r2, r3, r4, r5⟩ := row104 (o := 1 * 6) (show DataW.trod _ Tryd.prog W 0 _ _ m0 104 ((cs0.toList.drop (1 * 6)).take 6) = some x1 from hel 1 (by omega)) e1.symm
    exact ⟨a0 _ _ r0, a0 _ _ r1, a0 _ _ r2, a0 _ _ r3, a0 _ _ r4, a0 _ _ r5⟩
   ·obtain ⟨r0, r1, r2, r3, r4, r5⟩ := row104 (o := 2 * 6) (show DataW.trod _ Tryd.prog W 0 _ _ m0 104 ((cs0.toList.drop (2 * 6)).take 6) = some x2 from hel 2 (by omega)) e2.symm
    exact ⟨a0 _ _ r0, a0 _ _ r1, a0 _ _ r2, a0 _ _ r3, a0 _ _ r4, a0 _ _ r5⟩
   ·obtain ⟨r0, r1, r2, r3, r4, r5⟩ := row104 (o := 3 * 6) (show DataW.trod _ Tryd.prog W 0 _ _ m0 104 ((cs0.toList.drop (3 * 6)).take 6) = some x3 from hel 3 (by omega)) e3.symm
    exact ⟨a0 _ _ r0, a0 _ _ r1, a0 _ _ r2, a0 _ _ r3, a0 _ _ r4, a0 _ _ r5⟩
   ·obtain ⟨r0, r1, r2, r3, r4, r5⟩ := row104 (o := 4 * 6) (show DataW.trod _ Tryd.prog W 0 _ _ m0 104 ((cs0.toList.drop (4 * 6)).take 6) = some x4 from hel 4 (by omega)) e4.symm
    exact ⟨a0 _ _ r0, a0 _ _ r1, a0 _ _ r2, a0 _ _ r3, a0 _ _ r4, a0 _ _ r5⟩
   ·obtain ⟨r0, r1, r2, r3, r4, r5⟩ := row104 (o := 5 * 6) (show DataW.trod _ Tryd.prog W 0 _ _ m0 104 ((cs0.toList.drop (5 * 6)).take 6) = some x5 from hel 5 (by omega)) e5.symm
    exact ⟨a0 _ _ r0, a0 _ _ r1, a0 _ _ r2, a0 _ _ r3, a0 _ _ r4, a0 _ _ r5⟩
   ·obtain ⟨r0, r1, r2, r3, r4, r5⟩ := row104 (o := 6 * 6) (show DataW.trod _ Tryd.prog W 0 _ _ m0 104 ((cs0.toList.drop (6 * 6)).take 6) = some x6 from hel 6 (by omega)) e6.symm
    exact ⟨a0 _ _ r0, a0 _ _ r1, a0 _ _ r2, a0 _ _ r3, a0 _ _ r4, a0 _ _ r5⟩
   ·obtain ⟨r0, r1, r2, r3, r4, r5⟩ := row104 (o := 7 * 6) (show DataW.trod _ Tryd.prog W 0 _ _ m0 104 ((cs0.toList.drop (7 * 6)).take 6) = some x7 from hel 7 (by omega)) e7.symm
    exact ⟨a0 _ _ r0, a0 _ _ r1, a0 _ _ r2, a0 _ _ r3, a0 _ _ r4, a0 _ _ r5⟩
   ·obtain ⟨r0, r1, r2, r3, r4, r5⟩ := row104 (o := 8 * 6) (show DataW.trod _ Tryd.prog W 0 _ _ m0 104 ((cs0.toList.drop (8 * 6)).take 6) = some x8 from hel 8 (by omega)) e8.symm
    exact ⟨a0 _ _ r0, a0 _ _ r1, a0 _ _ r2, a0 _ _ r3, a0 _ _ r4, a0 _ _ r5⟩
   ·obtain ⟨r0, r1, r2, r3, r4, r5⟩ := row104 (o := 9 * 6) (show DataW.trod _ Tryd.prog W 0 _ _ m0 104 ((cs0.toList.drop (9 * 6)).take 6) = some x9 from hel 9 (by omega)) e9.symm
    exact ⟨a0 _ _ r0, a0 _ _ r1, a0 _ _ r2, a0 _ _ r3, a0 _ _ r4, a0 _ _ r5⟩
   ·obtain ⟨r0, r1, r2, r3, r4, r5⟩ := row104 (o := 10 * 6) (show DataW.trod _ Tryd.prog W 0 _ _ m0 104 ((cs0.toList.drop (10 * 6)).take 6) = some x10 from hel 10 (by omega)) e10.symm
    exact ⟨a0 _ _ r0, a0 _ _ r1, a0 _ _ r2, a0 _ _ r3, a0 _ _ r4, a0 _ _ r5⟩
   ·obtain ⟨r0, r1, r2, r3, r4, r5⟩ := row104 (o := 11 * 6) (show DataW.trod _ Tryd.prog W 0 _ _ m0 104 ((cs0.toList.drop (11 * 6)).take 6) = some x11 from hel 11 (by omega)) e11.symm
    exact ⟨a0 _ _ r0, a0 _ _ r1, a0 _ _ r2, a0 _ _ r3, a0 _ _ r4, a0 _ _ r5⟩
   ·obtain ⟨r0, r1, r2, r3, r4, r5⟩ := row104 (o := 12 * 6) (show DataW.trod _ Tryd.prog W 0 _ _ m0 104 ((cs0.toList.drop (12 * 6)).take 6) = some x12 from hel 12 (by omega)) e12.symm
    exact ⟨a0 _ _ r0, a0 _ _ r1, a0 _ _ r2, a0 _ _ r3, a0 _ _ r4, a0 _ _ r5⟩
   ·obtain ⟨r0, r1, r2, r3, r4, r5⟩ := row104 (o := 13 * 6) (show DataW.trod _ Tryd.prog W 0 _ _ m0 104 ((cs0.toList.drop (13 * 6)).take 6) = some x13 from hel 13 (by omega)) e13.symm
    exact ⟨a0 _ _ r0, a0 _ _ r1, a0 _ _ r2, a0 _ _ r3, a0 _ _ r4, a0 _ _ r5⟩
   ·obtain ⟨r0, r1, r2, r3, r4, r5⟩ := row104 (o := 14 * 6) (show DataW.trod _ Tryd.prog W 0 _ _ m0 104 ((cs0.toList.drop (14 * 6)).take 6) = some x14 from hel 14 (by omega)) e14.symm
    exact ⟨a0 _ _ r0, a0 _ _ r1, a0 _ _ r2, a0 _ _ r3, a0 _ _ r4, a0 _ _ r5⟩
   ·obtain ⟨r0, r1, r2, r3, r4, r5⟩ := row104 (o := 15 * 6) (show DataW.trod _ Tryd.prog W 0 _ _ m0 104 ((cs0.toList.drop (15 * 6)).take 6) = some x15 from hel 15 (by omega)) e15.symm
    exact ⟨a0 _ _ r0, a0 _ _ r1, a0 _ _ r2, a0 _ _ r3, a0 _ _ r4, a0 _ _ r5⟩
   ·obtain ⟨r0, r1, r2, r3, r4, r5⟩ := row104 (o := 16 * 6) (show DataW.trod _ Tryd.prog W 0 _ _ m0 104 ((cs0.toList.drop (16 * 6)).take 6) = some x16 from hel 16 (by omega)) e16.symm
    exact ⟨a0 _ _ r0, a0 _ _ r1, a0 _ _ r2, a0 _ _ r3, a0 _ _ r4, a0 _ _ r5⟩
   ·obtain ⟨r0, r1, r2, r3, r4, r5⟩ := row104 (o := 17 * 6) (show DataW.trod _ Tryd.prog W 0 _ _ m0 104 ((cs0.toList.drop (17 * 6)).take 6) = some x17 from hel 17 (by omega)) e17.symm
    exact ⟨a0 _ _ r0, a0 _ _ r1, a0 _ _ r2, a0 _ _ r3, a0 _ _ r4, a0 _ _ r5⟩
   ·obtain ⟨r0, r1, r2, r3, r4, r5⟩ := row104 (o := 18 * 6) (show DataW.trod _ Tryd.prog W 0 _ _ m0 104 ((cs0.toList.drop (18 * 6)).take 6) = some x18 from hel 18 (by omega)) e18.symm
    exact ⟨a0 _ _ r0, a0 _ _ r1, a0 _ _ r2, a0 _ _ r3, a0 _ _ r4, a0 _ _ r5⟩
 ·have a1 : ∀ j u, cs1.toList[j]? = some u → W.cell? ⟨0, j, none⟩ = some u := fun j u hu => by rw [c1]; simpa using hu
  obtain ⟨xs, n1, rfl, hx, -, hlen, hf⟩ := DataW.trod_struct Tryd.underlying35 hd1
  match xs, hlen with
  | [y0, y1, y2], _ =>
   simp only [Rows.laid_punctual_punctuallaw_noIns, Prod.mk.injEq, DataW.agg.injEq, List.map_cons, List.map_nil, List.cons.injEq, and_true] at hx
   obtain ⟨⟨e0, e1, e2⟩, -⟩ := hx
   have f0 : DataW.trod _ Tryd.prog W 0 _ _ n1 3 ((cs1.toList.drop 0).take (Tryd.prog.cellsOf 3)) = some y0 := hf 0 _ rfl
   have f1 : DataW.trod _ Tryd.prog W 0 _ _ n1 3 ((cs1.toList.drop 1).take (Tryd.prog.cellsOf 3)) = some y1 := hf 1 _ rfl
   have f2 : DataW.trod _ Tryd.prog W 0 _ _ n1 3 ((cs1.toList.drop 2).take (Tryd.prog.cellsOf 3)) = some y2 := hf 2 _ rfl
   rw [laidCells3] at f0 f1 f2
   exact ⟨a1 _ _ (int_one f0 e0.symm), a1 _ _ (int_one f1 e1.symm), a1 _ _ (int_one f2 e2.symm)⟩
theorem cells35 : Tryd.prog.cellsOf 35 = 3 := by kernel_rfl
section
variable {H : Type} {enc : TypeId × Value → H} {w : World} {sp : Nat → Bool} {held : Bool}
theorem plain_addr {w : World} {a : Addr} {v : Value} (h : w.cell? a = some v) : a = ⟨a.block, a.off, none⟩ := by
 obtain ⟨b, o, s⟩ := a
 cases s with
 | none => rfl
 | some x =>
  exfalso
  unfold World.cell? at h
  simp at h
  split at h <;> simp_all
theorem add_plain' (g o n : Nat) : (⟨g, o, none⟩ : Addr).add n = ⟨g, o + n, none⟩ := by
 unfold Addr.add
 by_cases h : n = 0
 ·subst h; rfl
 ·simp [h]
theorem cells_at {g o n : Nat} {cs : List Value} (h : w.cells? 0 ⟨g, o, none⟩ n = some cs) : cs.length = n ∧ ∀ i, i < n → w.cell? ⟨g, o + i, none⟩ = cs[i]? := by
 obtain ⟨-, h1, h2⟩ := World.cells?_some h
 refine ⟨h1, fun i hi => ?_⟩
 rw [← h2 i hi, add_plain']
theorem ins_one {n : Nat} {cs : List Value} {y : DataW H × List MemPlace} (hl : cs.length = 3) (h : DataW.trod enc Tryd.prog w 0 sp held n 35 cs = some y) : ∃ op a b : Int, cs = [.int .i64 op, .int .i64 a, .int .i64 b] := by
 match cs, hl with
 | [c0, c1, c2], _ =>
  obtain ⟨xs, n1, rfl, -, -, hlen, hf⟩ := DataW.trod_struct Tryd.underlying35 h
  match xs, hlen with
  | [y0, y1, y2], _ =>
   have f0 : DataW.trod enc Tryd.prog w 0 sp held n1 3 ((([c0, c1, c2] : List Value).drop 0).take (Tryd.prog.cellsOf 3)) = some y0 := hf 0 _ rfl
   have f1 : DataW.trod enc Tryd.prog w 0 sp held n1 3 ((([c0, c1, c2] : List Value).drop 1).take (Tryd.prog.cellsOf 3)) = some y1 := hf 1 _ rfl
   have f2 : DataW.trod enc Tryd.prog w 0 sp held n1 3 ((([c0, c1, c2] : List Value).drop 2).take (Tryd.prog.cellsOf 3)) = some y2 := hf 2 _ rfl
   rw [laidCells3] at f0 f1 f2
   obtain ⟨k0, e0, -, -⟩ := DataW.trod_int Tryd.underlying3 (show DataW.trod enc Tryd.prog w 0 sp held n1 3 [c0] = some y0 from f0)
   obtain ⟨k1, e1, -, -⟩ := DataW.trod_int Tryd.underlying3 (show DataW.trod enc Tryd.prog w 0 sp held n1 3 [c1] = some y1 from f1)
   obtain ⟨k2, e2, -, -⟩ := DataW.trod_int Tryd.underlying3 (show DataW.trod enc Tryd.prog w 0 sp held n1 3 [c2] = some y2 from f2)
   simp only [List.cons.injEq, and_true] at e0 e1 e2
   exact ⟨k0, k1, k2, by rw [e0, e1, e2]⟩
theorem ins_row {n : Nat} (g : Nat) : ∀ (elems : List (DataW H × List MemPlace)) (o : Nat),
  (∀ i, i < elems.length → (w.cells? 0 ⟨g, o + i * 3, none⟩ 3).bind (DataW.trod enc Tryd.prog w 0 sp held n 35) = elems[i]?) →
  ∃ l : List In, l.length = elems.length ∧ ∀ j, j < l.length → w.cell? ⟨g, o + j * 3, none⟩ = some (.int .i64 (l.getD j in0).op) ∧ w.cell? ⟨g, o + j * 3 + 1, none⟩ = some (.int .i64 (l.getD j in0).a) ∧ w.cell? ⟨g, o + j * 3 + 2, none⟩ = some (.int .i64 (l.getD j in0).b)
 | [], o, _ => ⟨[], rfl, fun j hj => by simp at hj⟩
 | y :: r, o, h => by
  have h0 := h 0 (by simp)
  simp only [Nat.zero_mul, Nat.add_zero, List.getElem?_cons_zero] at h0
  obtain ⟨cs, hc, ht⟩ := Option.bind_eq_some_iff.1 h0
  obtain ⟨hlen, hcell⟩ := cells_at hc
  obtain ⟨op, a, b, rfl⟩ := ins_one hlen ht
  have k0 := hcell 0 (by omega)
  have k1 := hcell 1 (by omega)
  have k2 := hcell 2 (by omega)
  obtain ⟨l, hl, hrow⟩ := ins_row g r (o + 3) (fun i hi => by
   have := h (i + 1) (by simp; omega)
   rw [show o + (i + 1) * 3 = o + 3 + i * 3 by omega] at this
   simpa using this)
  refine ⟨⟨op, a, b⟩ :: l, by simp [hl], fun j hj => ?_⟩
  cases j with
  | zero => exact ⟨by simpa using k0, by simpa using k1, by simpa using k2⟩
  | succ j =>
   obtain ⟨q0, q1, q2⟩ := hrow j (by simpa using hj)
   rw [show o + (j + 1) * 3 = o + 3 + j * 3 by omega]
   exact ⟨by simpa using q0, by simpa using q1, by simpa using q2⟩
theorem InSl.of_trod {ad : Option Addr} {n c : Nat} {d : DataW H} {ps : List MemPlace} (h : DataW.Trod enc Tryd.prog w 0 sp held 22 (.slice ad n c) d ps) : ∃ l : List In, n = l.length ∧ InSl w l (.slice ad n c) ∧ (ad = none → l.length = 0 ∧ c = 0) := by
 obtain ⟨q, hq⟩ := h
 have hcs : (Value.slice ad n c).cells.toList = [.slice ad n c] := rfl
 rw [hcs] at hq
 rcases DataW.trod_slice Tryd.underlying22 hq with ⟨h1, -⟩ | ⟨a, len, cap, elems, rest, n2, -, h1, -, -, -, -, hle, hel, -, -⟩
 ·simp only [List.cons.injEq, and_true, Value.slice.injEq] at h1
  obtain ⟨rfl, rfl, rfl⟩ := h1
  exact ⟨[], rfl, ⟨_, _, rfl, .inl rfl⟩, fun _ => ⟨rfl, rfl⟩⟩
 ·simp only [List.cons.injEq, and_true, Value.slice.injEq] at h1
  obtain ⟨rfl, rfl, rfl⟩ := h1
  subst hle
  simp only [cells35] at hel
  cases elems with
  | nil => exact ⟨[], rfl, ⟨_, _, rfl, .inl rfl⟩, fun e => by cases e⟩
  | cons z r =>
   have hz := hel 0 (by simp)
   obtain ⟨cs0, hc0, ht0⟩ := Option.bind_eq_some_iff.1 hz
   obtain ⟨-, hlen0, hpl⟩ := World.cells?_some hc0
   obtain ⟨op, x, b, rfl⟩ := ins_one hlen0 (by simpa using ht0)
   have hpa := plain_addr (w := w) (a := a) (v := .int .i64 op) (by simpa [Addr.add] using hpl 0 (by omega))
   obtain ⟨l, hl, hrow⟩ := ins_row (n := n2) a.block (z :: r) a.off (fun i hi => by
    have := hel i hi
    rw [hpa, add_plain'] at this
    exact this)
   exact ⟨l, hl.symm, ⟨some a, c, by rw [hl], .inr ⟨a.block, a.off, by rw [← hpa], hrow⟩⟩, fun e => by cases e⟩
end
def opens (l : List In) (os : List Nat) (op a : Int) : Option Nat := os.find? fun o => decide ((l.getD o in0).op = op) && decide ((l.getD o in0).a = a)
def beginOf : Option Nat → Int
 | some o => (o : Int) + 1
 | none => 0
theorem opens_yes {l : List In} {z : Nat} {r : List Nat} {op a : Int} (h : (l.getD z in0).op = op ∧ (l.getD z in0).a = a) : opens l (z :: r) op a = some z := by
 unfold opens
 rw [List.find?_cons_of_pos (by simpa using h)]
theorem opens_no {l : List In} {z : Nat} {r : List Nat} {op a : Int} (h : ¬ ((l.getD z in0).op = op ∧ (l.getD z in0).a = a)) : opens l (z :: r) op a = opens l r op a := by
 unfold opens
 rw [List.find?_cons_of_neg (by simpa using h)]
structure RgAt (w : World) (rb : Nat) (l : List In) (os : List Nat) (iv ov nv : Value) : Prop where
 blk : w.heap[rb]? = some (.cells #[iv, ov, nv] 122 (0, 0))
 img : InSl w l iv
 opn : ∃ ad c, ov = .slice ad os.length c ∧ (os = [] ∨ ∃ b o, ad = some ⟨b, o, none⟩ ∧ ∀ j, j < os.length → w.cell? ⟨b, o + j, none⟩ = some (.int .i64 ((os.getD j 0 : Nat) + 1)))
 low : ∀ o ∈ os, o < l.length
theorem cells_of {w : World} {g : Nat} {l : List Value} {T : TypeId} (h : w.heap[g]? = some (.cells l.toArray T (0, 0))) : (∀ j u, l[j]? = some u → w.cell? ⟨g, j, none⟩ = some u) ∧ (∀ j, w.frozen? ⟨g, j, none⟩ = false) ∧ g < w.heap.size := by
 refine ⟨fun j u hj => ?_, fun j => ?_, (Array.getElem?_eq_some_iff.1 h).1⟩
 ·unfold World.cell?; rw [h]; simpa using hj
 ·unfold World.frozen?; rw [h]; simp
set_option maxRecDepth 20000 in
set_option maxHeartbeats 4000000 in
theorem innermost_any (w : World) (rb : Nat) (l : List In) (os : List Nat) (iv ov nv : Value) (h : RgAt w rb l os iv ov nv) (ho : os.length ≤ 4194304) :
  Calls Tryd.prog 89 #[.pointer (some ⟨rb, 0, none⟩)] w fun r w' => r = .returned (.int .i64 (beginOf os.getLast?)) ∧ Below w.heap.size w w' := by
 obtain ⟨ad, c, rfl, hrow⟩ := h.opn
 obtain ⟨cs, fs, lt⟩ := cells_of (l := [_, _, _]) h.blk
 have c1 := cs 1 _ rfl
 clear cs fs
 by_cases h0 : os = []
 ·subst h0
  clear hrow
  go_enter Tryd.func89, Tryd.ntmps89
  go_wp2_with fail
  go_ret
  exact ⟨rfl, Below.refl _ _⟩
 ·rcases hrow with h1 | ⟨b, o, rfl, hrow⟩
  ·exact absurd h1 h0
  have hpos : 0 < os.length := List.length_pos_iff.2 h0
  have hlast : os.getLast? = some (os.getD (os.length - 1) 0) := by
   rw [List.getLast?_eq_getElem?, List.getD_eq_getElem?_getD, List.getElem?_eq_getElem (by omega)]
   rfl
  have k := hrow (os.length - 1) (by omega)
  rw [hlast]
  show Calls _ _ _ _ fun r w' => r = .returned (.int .i64 ((os.getD (os.length - 1) 0 : Nat) + 1)) ∧ _
  have hne : ¬ ((os.length : Int) = 0) := by omega
  have hnb : ((os.length : Int) == 0) = false := by simpa using hne
  generalize ((os.getD (os.length - 1) 0 : Nat) : Int) + 1 = z at *
  clear hrow hlast
  generalize hn : os.length = n at *
  obtain ⟨n', rfl⟩ : ∃ n', n = n' + 1 := ⟨n - 1, by omega⟩
  simp only [Nat.add_sub_cancel] at k
  go_enter Tryd.func89, Tryd.ntmps89
  go_wp2_with fail
  go_region
  go_wp2_with fail
  go_ret
  exact ⟨rfl, (Below.refl _ _).drew⟩
set_option maxRecDepth 20000 in
set_option maxHeartbeats 4000000 in
theorem begins_any (w : World) (rb : Nat) (l : List In) (os : List Nat) (iv ov nv : Value) (op a : Int) (h : RgAt w rb l os iv ov nv) (hl : l.length ≤ 4194304) (ho : os.length ≤ 4194304) :
  Calls Tryd.prog 90 #[.pointer (some ⟨rb, 0, none⟩), .int .i64 op, .int .i64 a] w fun r w' => r = .returned (.int .i64 (beginOf (opens l os op a))) ∧ Below w.heap.size w w' := by
 have HR : Hid (RgAt w rb l os iv ov nv) := h
 obtain ⟨ad, c, rfl, hrow⟩ := h.opn
 obtain ⟨iad, ic, rfl, himg⟩ := h.img
 obtain ⟨cs, fs, lt⟩ := cells_of (l := [_, _, _]) h.blk
 have c0 := cs 0 _ rfl
 have c1 := cs 1 _ rfl
 have HI : Hid (_ ∧ _) := ⟨hrow, himg⟩
 have HC : Hid (_ ∧ _) := ⟨c0, c1⟩
 clear cs fs hrow himg h c0
 obtain ⟨res, hres⟩ : ∃ res, beginOf (opens l os op a) = res := ⟨_, rfl⟩
 rw [hres]
 have HS : Hid (beginOf (opens l os op a) = res) := hres
 clear hres
 go_enter Tryd.func90, Tryd.ntmps90
 go_wp2_with fail
 go_loopw [8, 9, 15] (fun _ _ i wr => ∃ j : Nat, j ≤ os.length ∧ i = .int .i64 j ∧ opens l (os.drop j) op a = opens l os op a ∧ Below w.heap.size w wr) (fun _ _ i _ => os.length - (intOf i).toNat)
 case atStart => exact ⟨0, Nat.zero_le _, rfl, rfl, Below.refl _ _⟩
 case round =>
  obtain ⟨j, hj, rfl, hop, hb⟩ := hrel
  by_cases hlt : j < os.length
  ·rcases HI.out.1 with h | ⟨b, o, had, hrow⟩
   ·rw [h] at hlt; simp at hlt
   subst had
   have hmem : os.getD j 0 ∈ os := by rw [List.getD_eq_getElem?_getD, List.getElem?_eq_getElem hlt]; exact List.getElem_mem hlt
   have hlow := HR.out.low _ hmem
   rcases HI.out.2 with h | ⟨b', o', had', himg⟩
   ·rw [h] at hlow; simp at hlow
   subst had'
   have k := below_cell hb (hrow j hlt)
   have q0 := below_cell hb (himg _ hlow).1
   have q1 := below_cell hb (himg _ hlow).2.1
   have q2 := below_cell hb (himg _ hlow).2.2
   have c0 := below_cell hb HC.out.1
   have hdrop : os.drop j = os.getD j 0 :: os.drop (j + 1) := by
    rw [List.getD_eq_getElem?_getD, List.getElem?_eq_getElem hlt]
    exact List.drop_eq_getElem_cons hlt
   rw [hdrop] at hop
   generalize os.getD j 0 = z at *
   have HO : Hid (opens l (z :: os.drop (j + 1)) op a = opens l os op a ∧ Below w.heap.size w wr) := ⟨hop, hb⟩
   clear hop hb hrow himg hdrop hmem
   have HY : Hid (((l.getD z in0).op = op ∧ (l.getD z in0).a = a → res = (z : Int) + 1) ∧ (¬ ((l.getD z in0).op = op ∧ (l.getD z in0).a = a) → opens l (os.drop (j + 1)) op a = opens l os op a)) := ⟨fun h => by rw [← HS.out, ← HO.out.1, opens_yes h]; rfl, fun h => by rw [← HO.out.1, opens_no h]⟩
   generalize l.getD z in0 = y at *
   obtain ⟨yo, ya, yb⟩ := y
   dsimp only at q0 q1 q2
   by_cases e1 : yo = op
   ·subst e1
    by_cases e2 : ya = a
    ·subst e2
     have e := HY.out.1 ⟨rfl, rfl⟩
     subst e
     go_wp2_with fail
     go_ret
     exact ⟨rfl, HO.out.2.alloc HO.out.2.size _⟩
    ·have f2 : (ya == a) = false := by simpa using e2
     go_wp2_with fail
     go_roundw
     case rel => exact ⟨j + 1, by omega, by go_num, HY.out.2 (fun h => e2 h.2), HO.out.2.alloc HO.out.2.size _⟩
     case measure => simp [intOf]; omega
   ·have f1 : (yo == op) = false := by simpa using e1
    go_wp2_with fail
    go_roundw
    case rel => exact ⟨j + 1, by omega, by go_num, HY.out.2 (fun h => e1 h.1), HO.out.2.alloc HO.out.2.size _⟩
    case measure => simp [intOf]; omega
  ·have hje : j = os.length := by omega
   subst hje
   have e : res = 0 := by rw [← HS.out, ← hop, List.drop_length]; rfl
   subst e
   go_wp2_with fail
   go_ret
   exact ⟨rfl, hb⟩
set_option maxRecDepth 20000 in
set_option maxHeartbeats 4000000 in
theorem ofRegion_any (w : World) (op : Int) : Calls Tryd.prog 91 #[.int .i64 op] w fun r w' => r = .returned (.int .i64 (if op = 13 then 9 else 10)) ∧ w' = w := by
 by_cases h : op = 13
 ·subst h
  go_enter Tryd.func91, Tryd.ntmps91
  go_wp2_with fail
  go_ret
  exact ⟨rfl, rfl⟩
 ·rw [if_neg h]
  have hb : (op == 13) = false := by simpa using h
  go_enter Tryd.func91, Tryd.ntmps91
  go_wp2_with fail
  go_ret
  exact ⟨rfl, rfl⟩
theorem F_any (e k : Int) (w : World) : Calls Tryd.prog 24 #[.int .i64 e, .int .i64 k] w fun r w' => r = .returned (.agg #[.int .i64 e, .int .i64 k]) ∧ Below w.heap.size w w' := by
 go_enter Tryd.func24, Tryd.ntmps24
 go_wp2
 exact bodyPost_ret (v := .agg #[.int .i64 e, .int .i64 k]) (by simp [results, Tryd.results24, go_sem]) rfl ⟨rfl, (Below.refl _ _).alloc (Nat.le_refl _) _⟩
def PosSl (w : World) (os : List Nat) (v : Value) : Prop := ∃ ad c, v = .slice ad os.length c ∧ (os = [] ∨ ∃ b o, ad = some ⟨b, o, none⟩ ∧ ∀ j, j < os.length → w.cell? ⟨b, o + j, none⟩ = some (.int .i64 ((os.getD j 0 : Nat) + 1)))
set_option maxRecDepth 20000 in
set_option maxHeartbeats 4000000 in
theorem index_any (w : World) (os : List Nat) (v : Value) (at_ : Nat) (h : PosSl w os v) (ho : os.length ≤ 4194304) :
  Calls Tryd.prog 114 #[v, .int .i64 ((at_ : Int) + 1)] w fun r w' => (∃ z : Int, r = .returned (.int .i64 z) ∧ (at_ ∈ os → 0 ≤ z) ∧ (at_ ∉ os → z < 0)) ∧ Below w.heap.size w w' := by
 obtain ⟨ad, c, rfl, hrow⟩ := h
 have HI : Hid _ := hrow
 clear hrow
 go_enter Tryd.func114, Tryd.ntmps114
 go_wp2_with fail
 go_loopw [5, 8] (fun _ i wr => ∃ j : Nat, j ≤ os.length ∧ i = .int .i64 j ∧ at_ ∉ os.take j ∧ Below w.heap.size w wr) (fun _ i _ => os.length - (intOf i).toNat)
 case atStart => exact ⟨0, Nat.zero_le _, rfl, by simp, Below.refl _ _⟩
 case round =>
  obtain ⟨j, hj, rfl, hno, hb⟩ := hrel
  by_cases hlt : j < os.length
  ·rcases HI.out with h | ⟨b, o, had, hrow⟩
   ·rw [h] at hlt; simp at hlt
   subst had
   have k := below_cell hb (hrow j hlt)
   have hg : os.getD j 0 = os[j] := by rw [List.getD_eq_getElem?_getD, List.getElem?_eq_getElem hlt]; rfl
   have htake : os.take (j + 1) = os.take j ++ [os.getD j 0] := by rw [hg]; exact List.take_succ_eq_append_getElem hlt
   have hmem : os.getD j 0 ∈ os := by rw [hg]; exact List.getElem_mem hlt
   have HT : Hid ((os.getD j 0 ∈ os ∧ os.take (j + 1) = os.take j ++ [os.getD j 0]) ∧ at_ ∉ os.take j ∧ Below w.heap.size w wr) := ⟨⟨hmem, htake⟩, hno, hb⟩
   clear hrow hg htake hmem hno hb
   generalize os.getD j 0 = z at *
   by_cases e : at_ = z
   ·subst e
    have f : (((at_ : Int) + 1) == ((at_ : Int) + 1)) = true := by simp
    go_wp2_with fail
    go_ret
    exact ⟨⟨j, rfl, fun _ => by omega, fun h => absurd HT.out.1.1 h⟩, HT.out.2.2⟩
   ·have e' : ¬ ((at_ : Int) + 1 = (z : Int) + 1) := by omega
    have e'' : ¬ ((at_ : Int) = (z : Int)) := by omega
    have f : (((at_ : Int) + 1) == ((z : Int) + 1)) = false := by simpa using e''
    go_wp2_with fail
    go_roundw
    case rel => exact ⟨j + 1, by omega, by go_num, by rw [HT.out.1.2]; simp [e, HT.out.2.1], HT.out.2.2⟩
    case measure => simp [intOf]; omega
  ·have hje : j = os.length := by omega
   subst hje
   rw [List.take_length] at hno
   go_wp2_with fail
   go_ret
   exact ⟨⟨-1, rfl, fun h => absurd h hno, fun _ => by omega⟩, hb⟩
set_option maxRecDepth 20000 in
set_option maxHeartbeats 4000000 in
theorem contains_any (w : World) (os : List Nat) (v : Value) (at_ : Nat) (h : PosSl w os v) (ho : os.length ≤ 4194304) :
  Calls Tryd.prog 92 #[v, .int .i64 ((at_ : Int) + 1)] w fun r w' => r = .returned (.bool (decide (at_ ∈ os))) ∧ Below w.heap.size w w' := by
 have HI : Hid (PosSl w os v) := h
 obtain ⟨ad, c, rfl, -⟩ := h
 obtain ⟨res, hres⟩ : ∃ res, decide (at_ ∈ os) = res := ⟨_, rfl⟩
 rw [hres]
 have HS : Hid (decide (at_ ∈ os) = res) := hres
 clear hres
 go_enter Tryd.func92, Tryd.ntmps92
 go_wp2_with (go_at_call 114; refine (index_any w os _ at_ HI.out ho).mono ?_; rintro r w1 ⟨⟨z, rfl, h1, h2⟩, hb⟩; have H1 : Hid ((at_ ∈ os → 0 ≤ z) ∧ (at_ ∉ os → z < 0) ∧ Below w.heap.size w w1) := ⟨h1, h2, hb⟩; clear h1 h2 hb)
 go_ret
 refine ⟨?_, H1.out.2.2⟩
 have e : decide (0 ≤ z) = res := by
  rw [← HS.out]
  by_cases hm : at_ ∈ os
  ·have := H1.out.1 hm; simp [hm, this]
  ·have := H1.out.2.1 hm; simp [hm]; omega
 exact congrArg (fun b => Ending.returned (Value.bool b)) e
def IntSl (w : World) (vs : List Int) (v : Value) : Prop := ∃ ad c, v = .slice ad vs.length c ∧ (vs = [] ∨ ∃ b o, ad = some ⟨b, o, none⟩ ∧ ∀ j, j < vs.length → w.cell? ⟨b, o + j, none⟩ = some (.int .i64 (vs.getD j 0)))
def waysOf (k : Nat) (x : In) : List Int := if x.op = 11 then [x.a] else if x.op = 12 then [x.a, (k : Int) + 1] else if x.op = 14 then [x.b, (k : Int) + 1] else [(k : Int) + 1]
theorem one_sl (w : World) (z : Int) : IntSl (w.alloc (.cells #[.int .i64 z] 3)) [z] (.slice (some ⟨w.heap.size, 0, none⟩) 1 1) := by
 refine ⟨_, _, rfl, .inr ⟨w.heap.size, 0, rfl, fun j hj => ?_⟩⟩
 have h := (cells_of (l := [.int .i64 z]) (heap_alloc_new w (.cells #[.int .i64 z] 3))).1
 have hj' : j < 1 := hj
 have : j = 0 := by omega
 subst this
 exact h 0 _ rfl
theorem two_sl (w : World) (z y : Int) : IntSl (w.alloc (.cells #[.int .i64 z, .int .i64 y] 3)) [z, y] (.slice (some ⟨w.heap.size, 0, none⟩) 2 2) := by
 refine ⟨_, _, rfl, .inr ⟨w.heap.size, 0, rfl, fun j hj => ?_⟩⟩
 have h := (cells_of (l := [.int .i64 z, .int .i64 y]) (heap_alloc_new w (.cells #[.int .i64 z, .int .i64 y] 3))).1
 have hj' : j < 2 := hj
 have : j = 0 ∨ j = 1 := by omega
 rcases this with rfl | rfl
 ·exact h 0 _ rfl
 ·exact h 1 _ rfl
theorem one_sl' (w : World) (o : Obj) (z : Int) : IntSl ((w.alloc o).alloc (.cells #[.int .i64 z] 3)) [z] (.slice (some ⟨w.heap.size + 1, 0, none⟩) 1 1) := by
 have := one_sl (w.alloc o) z
 rwa [show (w.alloc o).heap.size = w.heap.size + 1 by simp] at this
theorem two_sl' (w : World) (o : Obj) (z y : Int) : IntSl ((w.alloc o).alloc (.cells #[.int .i64 z, .int .i64 y] 3)) [z, y] (.slice (some ⟨w.heap.size + 1, 0, none⟩) 2 2) := by
 have := two_sl (w.alloc o) z y
 rwa [show (w.alloc o).heap.size = w.heap.size + 1 by simp] at this
set_option maxRecDepth 20000 in
set_option maxHeartbeats 4000000 in
theorem ways_any (w : World) (k : Nat) (x : In) (hk : k ≤ 4194304) : Calls Tryd.prog 71 #[.int .i64 k, x.val] w fun r w' => (∃ v, r = .returned v ∧ IntSl w' (waysOf k x) v) ∧ Below w.heap.size w w' := by
 obtain ⟨op, a, b⟩ := x
 show Calls Tryd.prog 71 #[.int .i64 k, .agg #[.int .i64 op, .int .i64 a, .int .i64 b]] w _
 unfold waysOf
 dsimp only
 by_cases h1 : op = 11
 ·subst h1
  rw [if_pos rfl]
  go_enter Tryd.func71, Tryd.ntmps71
  go_wp2_with fail
  go_ret
  exact ⟨⟨_, rfl, one_sl' _ _ _⟩, (below_new _ _).alloc (by simp) _⟩
 rw [if_neg h1]
 by_cases h2 : op = 12
 ·subst h2
  rw [if_pos rfl]
  go_enter Tryd.func71, Tryd.ntmps71
  go_wp2_with fail
  go_ret
  exact ⟨⟨_, rfl, two_sl' _ _ _ _⟩, (below_new _ _).alloc (by simp) _⟩
 rw [if_neg h2]
 by_cases h3 : op = 14
 ·subst h3
  rw [if_pos rfl]
  go_enter Tryd.func71, Tryd.ntmps71
  go_wp2_with fail
  go_ret
  exact ⟨⟨_, rfl, two_sl' _ _ _ _⟩, (below_new _ _).alloc (by simp) _⟩
 rw [if_neg h3]
 have f1 : (op == 11) = false := by simpa using h1
 have f2 : (op == 12) = false := by simpa using h2
 have f3 : (op == 14) = false := by simpa using h3
 go_enter Tryd.func71, Tryd.ntmps71
 go_wp2_with fail
 go_ret
 exact ⟨⟨_, rfl, one_sl' _ _ _⟩, (below_new _ _).alloc (by simp) _⟩
theorem infoI : (Tryd.prog.info? 3).map (fun i => (i.zero, i.size, i.bytes)) = some (some (.int .i64 0), 1, 8) := by kernel_rfl
def HtAt (w : World) (mb N : Nat) (M : Int → Option Int) : Prop := ∃ D : DataW Unit, w.ownsMap Tryd.prog 3 (plainElem Tryd.prog 3) mb N D ∧ ∀ z : Int, Maps.has D (.int .i64 z) = (M z).isSome ∧ D.atKey (.int .i64 z) (.lit (.int .i64 0)) = .lit (.int .i64 ((M z).getD 0))
def setH (M : Int → Option Int) (z v : Int) : Int → Option Int := fun y => if y = z then some v else M y
theorem wf_int {z : Int} (h : -9223372036854775808 ≤ z ∧ z ≤ 9223372036854775807) : (Lit.int .i64 z).wf = true := by
 have h1 : IntKind.i64.min = -9223372036854775808 := by decide
 have h2 : IntKind.i64.max = 9223372036854775807 := by decide
 simp [Lit.wf, h1, h2]
 omega
theorem zero3 (w : World) : (zeroValue 3).run Tryd.prog w = .ok (.int .i64 0) w := by
 obtain ⟨i0, hi0, hz0, hz1, hz2⟩ := info_parts infoI
 simp [zeroValue, typeInfo, hi0, hz0]
theorem HtAt.made (w : World) : HtAt (w.alloc (.map #[] 0)) w.heap.size 0 (fun _ => none) :=
 ⟨.map [], World.ownsMap_made w _ _ _, fun _ => ⟨rfl, rfl⟩⟩
theorem HtAt.look {w : World} {mb N : Nat} {M : Int → Option Int} (h : HtAt w mb N M) {z : Int} (hz : -9223372036854775808 ≤ z ∧ z ≤ 9223372036854775807) :
  (Instr.lookup 98 (.map (some mb)) (.int .i64 z) true).run Tryd.prog w = .ok (.tuple #[.int .i64 ((M z).getD 0), .bool (M z).isSome]) w := by
 obtain ⟨D, ho, hM⟩ := h
 obtain ⟨v, ps, hrun, hv⟩ := ho.look_ok (t := 98) (e := 3) (Maps.int_keyed Tryd.underlying3) Tryd.underlying98 (zero3 w) (plainElem_int Tryd.underlying3 (wf_int (by omega))) (Maps.keyOf_int_mk Tryd.underlying3 (wf_int hz))
 rw [(hM z).2] at hv
 obtain ⟨c, rfl, hc, -⟩ := plainElem_int_inv Tryd.underlying3 hv
 simp only [Prod.mk.injEq, DataW.lit.injEq, Lit.int.injEq, true_and] at hc
 rw [(hM z).1] at hrun
 rw [hrun, ← hc.1]
theorem HtAt.look1 {w : World} {mb N : Nat} {M : Int → Option Int} (h : HtAt w mb N M) {z : Int} (hz : -9223372036854775808 ≤ z ∧ z ≤ 9223372036854775807) :
  (Instr.lookup 98 (.map (some mb)) (.int .i64 z) false).run Tryd.prog w = .ok (.int .i64 ((M z).getD 0)) w := by
 obtain ⟨D, ho, hM⟩ := h
 obtain ⟨c, hrun, hat, -⟩ := ho.lookup_int (t := 98) (e := 3) (Maps.int_keyed Tryd.underlying3) Tryd.underlying98 Tryd.underlying3 (zero3 w) (Maps.keyOf_int_mk Tryd.underlying3 (wf_int hz))
 rw [(hM z).2] at hat
 simp only [DataW.lit.injEq, Lit.int.injEq, true_and] at hat
 rw [hrun, hat]
theorem HtAt.set {w : World} {mb N : Nat} {M : Int → Option Int} (h : HtAt w mb N M) (hN : N < 1048576) {z v : Int} (hz : -9223372036854775808 ≤ z ∧ z ≤ 9223372036854775807) (hv : -9223372036854775808 ≤ v ∧ v ≤ 9223372036854775807) :
  ∃ w', (Instr.mapUpdate 98 (.map (some mb)) (.int .i64 z) (.int .i64 v)).run Tryd.prog w = .ok () w' ∧ HtAt w' mb (N + 1) (setH M z v) ∧ w.grownBy w' (some mb) := by
 obtain ⟨D, ho, hM⟩ := h
 obtain ⟨w', hrun, ho', hg⟩ := ho.update (t := 98) (e := 3) (Maps.int_keyed Tryd.underlying3) Tryd.underlying98 (by unfold maxLen; omega) (Maps.keyOf_int_mk Tryd.underlying3 (wf_int hz)) (plainElem_int Tryd.underlying3 (wf_int hv))
 refine ⟨w', hrun, ⟨_, ho', fun y => ?_⟩, hg⟩
 unfold setH
 by_cases hy : y = z
 ·subst hy
  rw [if_pos rfl]
  exact ⟨Maps.has_put_same (k := .int .i64 y) ho.isMap trivial _, Maps.atKey_put_same (k := .int .i64 y) ho.isMap trivial _ _⟩
 ·rw [if_neg hy]
  have hne : (Lit.int .i64 y) ≠ (Lit.int .i64 z) := by simpa using hy
  exact ⟨(Maps.has_put_other hne _).trans (hM y).1, (Maps.atKey_put_other hne _ _).trans (hM y).2⟩
theorem HtAt.below {w w' : World} {mb N : Nat} {M : Int → Option Int} (h : HtAt w mb N M) (hb : Below w.heap.size w w') : HtAt w' mb N M := by
 obtain ⟨D, ⟨es, clock, h1, r⟩, hM⟩ := h
 exact ⟨D, ⟨es, clock, (hb.block mb (Array.getElem?_eq_some_iff.1 h1).1).trans h1, r⟩, hM⟩
theorem HtAt.same {w w' : World} {mb N : Nat} {M : Int → Option Int} (h : HtAt w mb N M) (hb : w'.heap[mb]? = w.heap[mb]?) : HtAt w' mb N M := by
 obtain ⟨D, ⟨es, clock, h1, r⟩, hM⟩ := h
 exact ⟨D, ⟨es, clock, hb.trans h1, r⟩, hM⟩
def intVs (l : List Int) : List Value := l.map fun z => .int .i64 z
def posVs (os : List Nat) : List Value := os.map fun (o : Nat) => Value.int .i64 ((o : Int) + 1)
structure NS (w0 wF w : World) (rb wb B : Nat) (l : List In) (iv : Value) (os : List Nat) (ov : Value) (ws : List Int) : Prop where
 blk : w.heap[rb]? = some (.cells #[iv, ov, .slice (some ⟨wb, 0, none⟩) (l.length + 1) (l.length + 1)] 122 (0, 0))
 img : InSl w0 l iv
 bel : Below w0.heap.size w0 w
 own : w.ownsRow B 3 1 ov os.length (posVs os)
 wth : w.heap[wb]? = some (.cells (intVs ws).toArray 3 (0, 0))
 len : ws.length = l.length + 1
 low : ∀ o ∈ os, o < l.length
 ord : (w0.heap.size ≤ rb ∧ w0.heap.size ≤ wb) ∧ rb ≠ wb ∧ rb < B ∧ wb < B
 bas : B ≤ w.heap.size
 fix : ∀ j, j < B → j ≠ rb → j ≠ wb → w.heap[j]? = wF.heap[j]?
theorem owns_value {w : World} {v : Value} {base n : Nat} {xs : List Value} {e : TypeId} {size : Nat} (h : w.ownsRow base e size v n xs) : ∃ ad cap, v = .slice ad n cap := by
 rcases h.2 with ⟨rfl, rfl⟩ | ⟨g, cap, cur, rfl, _⟩
 ·exact ⟨_, _, rfl⟩
 ·exact ⟨_, _, rfl⟩
theorem posVs_at (os : List Nat) (j : Nat) (h : j < os.length) : (posVs os)[j]? = some (.int .i64 ((os.getD j 0 : Nat) + 1)) := by
 simp [posVs, List.getD, h]
theorem pos_of_own {w : World} {B : Nat} {ov : Value} {os : List Nat} (h : w.ownsRow B 3 1 ov os.length (posVs os)) : PosSl w os ov := by
 obtain ⟨ad, cap, rfl⟩ := owns_value h
 refine ⟨ad, cap, rfl, ?_⟩
 by_cases h0 : os = []
 ·exact .inl h0
 obtain ⟨-, ⟨e, he⟩ | ⟨g, cap', cur, e, -, hg, -, -, -, ht⟩⟩ := h
 ·exact absurd (List.length_eq_zero_iff.1 he) h0
 cases e
 refine .inr ⟨g, 0, rfl, fun j hj => ?_⟩
 have h1 := posVs_at os j hj
 rw [← ht, List.getElem?_take, if_pos (by omega)] at h1
 unfold World.cell?
 rw [hg]
 simpa using h1
theorem NS.rg {w0 wF w : World} {rb wb B : Nat} {l : List In} {iv : Value} {os : List Nat} {ov : Value} {ws : List Int} (h : NS w0 wF w rb wb B l iv os ov ws) : RgAt w rb l os iv ov (.slice (some ⟨wb, 0, none⟩) (l.length + 1) (l.length + 1)) :=
 ⟨h.blk, h.img.below h.bel, pos_of_own h.own, h.low⟩
theorem ownsRow_same {w w' : World} {B n size : Nat} {e : TypeId} {v : Value} {xs : List Value} (h : w.ownsRow B e size v n xs) (hs : ∀ k, B ≤ k → k < w.heap.size → w'.heap[k]? = w.heap[k]?) : w'.ownsRow B e size v n xs := by
 obtain ⟨hl, h | ⟨g, cap, cur, he, hb, hg, hr⟩⟩ := h
 ·exact ⟨hl, .inl h⟩
 ·exact ⟨hl, .inr ⟨g, cap, cur, he, hb, (hs g hb (Array.getElem?_eq_some_iff.1 hg).1).trans hg, hr⟩⟩
theorem setCell_at {w : World} {g i : Nat} {cs : Array Value} {t : TypeId} {fr : Nat × Nat} {u : Value} (h : w.heap[g]? = some (.cells cs t fr)) : (w.setCell ⟨g, i, none⟩ u).heap[g]? = some (.cells (cs.setIfInBounds i u) t fr) := by
 have hlt : g < w.heap.size := (Array.getElem?_eq_some_iff.1 h).1
 have h' : w.heap[g] = .cells cs t fr := by simpa [Array.getElem?_eq_getElem hlt] using h
 show (w.heap.modify g _)[g]? = _
 rw [Array.getElem?_eq_getElem (by simpa using hlt), Array.getElem_modify_self, h']
 rfl
section
variable {w0 wF w w' : World} {rb wb B : Nat} {l : List In} {iv : Value} {os : List Nat} {ov : Value} {ws : List Int}
theorem NS.grow (h : NS w0 wF w rb wb B l iv os ov ws) (hb : Below w.heap.size w w') : NS w0 wF w' rb wb B l iv os ov ws := by
 have old : ∀ (k : Nat) (o : Obj), w.heap[k]? = some o → w'.heap[k]? = some o := fun k o hk => (hb.block k (Array.getElem?_eq_some_iff.1 hk).1).trans hk
 exact ⟨old _ _ h.blk, h.img, below_seq h.bel hb, ownsRow_same h.own (fun k _ hk => hb.block k hk), old _ _ h.wth, h.len, h.low, h.ord, Nat.le_trans h.bas hb.size, fun j h1 h2 h3 => (hb.block j (Nat.lt_of_lt_of_le h1 h.bas)).trans (h.fix j h1 h2 h3)⟩
theorem NS.setW (h : NS w0 wF w rb wb B l iv os ov ws) (k : Nat) (z : Int) : NS w0 wF (w.setCell ⟨wb, k, none⟩ (.int .i64 z)) rb wb B l iv os ov (ws.set k z) := by
 obtain ⟨⟨o1, o1'⟩, o2, o3, o4⟩ := h.ord
 refine ⟨(Below.heap_setCell _ _ _ _ (by show rb ≠ wb; omega)).trans h.blk, h.img, h.bel.setCell (by show w0.heap.size ≤ wb; omega) _, ownsRow_same h.own (fun j hj _ => Below.heap_setCell _ _ _ _ (by show j ≠ wb; omega)), ?_, by rw [List.length_set]; exact h.len, h.low, h.ord, by simpa using h.bas, fun j h1 h2 h3 => (Below.heap_setCell _ _ _ _ h3).trans (h.fix j h1 h2 h3)⟩
 rw [setCell_at h.wth]
 simp [intVs, List.map_set]
theorem NS.push (h : NS w0 wF w rb wb B l iv os ov ws) {ov' : Value} {os' : List Nat} (hg : w.grownBy w' ov.ownBlock) (ho : w'.ownsRow B 3 1 ov' os'.length (posVs os')) (hlow : ∀ o ∈ os', o < l.length) : NS w0 wF (w'.setCell ⟨rb, 1, none⟩ ov') rb wb B l iv os' ov' ws := by
 obtain ⟨⟨o1, o1'⟩, o2, o3, o4⟩ := h.ord
 have lr : rb < w.heap.size := (Array.getElem?_eq_some_iff.1 h.blk).1
 have lw : wb < w.heap.size := (Array.getElem?_eq_some_iff.1 h.wth).1
 have nb : ∀ k, k < B → ov.ownBlock ≠ some k := fun k hk e => by have := (h.own.lt k e).1; omega
 have b1 : w'.heap[rb]? = w.heap[rb]? := hg.block rb lr (fun e => nb rb (by omega) e.symm)
 have b2 : w'.heap[wb]? = w.heap[wb]? := hg.block wb lw (fun e => nb wb (by omega) e.symm)
 refine ⟨?_, h.img, (h.bel.grown hg h.bel.size (fun k hk => by have := (h.own.lt k hk).1; omega)).setCell (by show w0.heap.size ≤ rb; omega) _, ownsRow_same ho (fun j hj _ => Below.heap_setCell _ _ _ _ (by show j ≠ rb; omega)), (Below.heap_setCell _ _ _ _ (by show wb ≠ rb; omega)).trans (b2.trans h.wth), h.len, hlow, h.ord, by have := h.bas; have := hg.size; simp; omega, fun j k1 k2 k3 => (Below.heap_setCell _ _ _ _ k2).trans ((hg.block j (Nat.lt_of_lt_of_le k1 h.bas) (fun e => nb j k1 e.symm)).trans (h.fix j k1 k2 k3))⟩
 rw [setCell_at (b1.trans h.blk)]
 simp
end
theorem NS.rebase {w0 wF w : World} {rb wb B : Nat} {l : List In} {iv : Value} {ws : List Int} (h : NS w0 wF w rb wb B l iv [] (.slice none 0 0) ws) {B' : Nat} (h1 : B ≤ B') (h2 : B' ≤ w.heap.size) : NS w0 w w rb wb B' l iv [] (.slice none 0 0) ws :=
 ⟨h.blk, h.img, h.bel, World.ownsRow_nil _ _ _ _, h.wth, h.len, h.low, ⟨h.ord.1, h.ord.2.1, by have := h.ord; omega, by have := h.ord; omega⟩, h2, fun _ _ _ _ => rfl⟩
theorem posVs_append (a b : List Nat) : posVs (a ++ b) = posVs a ++ posVs b := by simp [posVs]
theorem ownsRow_shrink {w : World} {B : Nat} {ad : Option Addr} {c : Nat} {os : List Nat} {n : Nat} (h : w.ownsRow B 3 1 (.slice ad (n + 1) c) os.length (posVs os)) (hn : os.length = n + 1) : w.ownsRow B 3 1 (.slice ad n c) os.dropLast.length (posVs os.dropLast) := by
 have hd : os.dropLast.length = n := by simp [hn]
 obtain ⟨hl, ⟨e, he⟩ | ⟨g, cap, cur, e, hb, hg, hc, hm, hs, ht⟩⟩ := h
 ·omega
 ·simp only [Value.slice.injEq] at e
  obtain ⟨rfl, -, rfl⟩ := e
  refine ⟨by simp [posVs], .inr ⟨g, c, cur, by rw [hd], hb, hg, by omega, hm, hs, ?_⟩⟩
  have e2 : posVs os.dropLast = (posVs os).take (os.dropLast.length * 1) := by
   rw [hd, Nat.mul_one]
   unfold posVs
   rw [← List.map_take, List.dropLast_eq_take, hn]
   rfl
  rw [e2, ← ht, List.take_take]
  congr 1
  omega
def nestOf (l : List In) (k : Nat) (x : In) (os : List Nat) : Int × List Nat :=
 if x.op = 13 ∨ x.op = 16 then (if opens l os x.op x.a ≠ none then (if x.op = 13 then 9 else 10, os) else (0, os ++ [k]))
 else if x.op = 14 then (if os = [] ∨ beginOf (opens l os 13 x.a) ≠ beginOf os.getLast? ∨ x.b ≠ beginOf os.getLast? then (9, os) else (0, os.dropLast))
 else if x.op = 17 then (if os = [] ∨ beginOf (opens l os 16 x.a) ≠ beginOf os.getLast? then (10, os) else (0, os.dropLast))
 else if x.op = 15 then (if opens l os 13 x.a = none then (9, os) else (0, os))
 else (0, os)
theorem append_two {P : Program} (w : World) (base base' : Nat) (t ty e : TypeId) (i : TypeInfo) (z : Value) (size bytes : Nat) (ht : P.underlying t = some (.slice e)) (hi : P.info? e = some i) (hz : i.zero = some z)
  (hsize : i.size = size) (hby : i.bytes = bytes) (hzs : z.cells.size = size) (hsz : 0 < size) (v : Value) (n : Nat) (xs : List Value) (hown : w.ownsRow base e size v n xs)
  (x : Value) (m : Nat) (ys : List Value) (hx : w.ownsRow base' e size x m ys) (h1c : ∀ u ∈ ys, u.oneCell' = true) (b1 : n + m ≤ maxLen) (b2 : (n + m) * bytes ≤ 140737488355328) (hbase : base ≤ w.heap.size) :
  ∃ v' w', (Builtin.append_ #[t, t] ty #[v, x]).run P w = .ok v' w' ∧ w'.ownsRow base e size v' (n + m) (xs ++ ys) ∧ w.grownBy w' v.ownBlock ∧ (v'.ownBlock = v.ownBlock ∨ ∀ k, v'.ownBlock = some k → w.heap.size ≤ k) := by
 have up : ∀ (v' : Value) (w' : World), w'.ownsRow w.heap.size e size v' (n + m) (xs ++ ys) → w'.ownsRow base e size v' (n + m) (xs ++ ys) := by
  intro v' w' ho
  obtain ⟨q1, q2⟩ := ho
  refine ⟨q1, ?_⟩
  rcases q2 with q2 | ⟨g, cap, cur, hv, hb, r⟩
  ·exact .inl q2
  ·exact .inr ⟨g, cap, cur, hv, Nat.le_trans hbase hb, r⟩
 have hx' := hx
 rcases hx' with ⟨hl, ⟨rfl, rfl⟩ | ⟨g, cap, cur, rfl, hb, hgg, hcap, hcm, hcs, htk⟩⟩
 ·have hys : ys = [] := List.eq_nil_of_length_eq_zero (by simpa using hl)
  subst hys
  refine ⟨v, w, run_append_owned_none w base t ty e i size ht hi v n xs hown, by simpa using hown, ⟨rfl, rfl, rfl, Nat.le_refl _, fun _ _ _ => rfl⟩, .inl rfl⟩
 ·have hc := hx.cells rfl
  have hown' := hown
  rcases hown' with ⟨hl', ⟨rfl, rfl⟩ | ⟨g', cap', cur', rfl, hb', hgg', hcap', hcm', hcs', htk'⟩⟩
  ·have hxs : xs = [] := List.eq_nil_of_length_eq_zero (by simpa using hl')
   subst hxs
   obtain ⟨v', w', r1, r2, r3, -⟩ := run_append_own (P := P) w w.heap.size t ty e i z size bytes ht hi hz hsize hby hzs hsz (.slice none 0 0) 0 [] (World.ownsRow_nil w _ e size) ⟨g, 0, none⟩ m cap ys hl hc h1c b1 b2 (Nat.le_refl _)
   exact ⟨v', w', r1, up v' w' r2, r3, .inr fun k hk => (r2.lt k hk).1⟩
  ·by_cases hr : n + m ≤ cap'
   ·obtain ⟨w', r1, r2, r3⟩ := run_append_fits (P := P) w base t ty e i size ht hi hsize g' n cap' xs hown ⟨g, 0, none⟩ m cap ys hl hc h1c hr
    exact ⟨_, w', r1, r2, r3, .inl rfl⟩
   ·obtain ⟨v', w', r1, r2, r3⟩ := run_append_arg_grows (P := P) w t ty e i z size bytes ht hi hz hsize hby hzs hsz ⟨g', 0, none⟩ n cap' xs hl' (hown.cells rfl) ⟨g, 0, none⟩ m cap ys hl hc (by omega) b1 b2
    exact ⟨v', w', r1, up v' w' r2, ⟨r3.os, r3.tape, r3.output, r3.size, fun k hk _ => r3.block k hk (by simp)⟩, .inr fun k hk => (r2.lt k hk).1⟩
theorem append_known {P : Program} {w : World} {ops : Array Oper} {rest : List Oper} {o : Oper} {a : Act} {Q : Exit → Act → World → Prop} (hgd : o.guard = none) (s x : Operand) (t : TypeId)
  (ho : o.op = .call { callee := .builtin .append, args := #[s, x], argTypes := #[t, t] }) {v u v' : Value} {w' : World} (hs : a.eval s = v) (hx : a.eval x = u)
  (hrun : (Builtin.append_ #[t, t] o.type #[v, u]).run P w = .ok v' w') (h : wpList P ops Q rest (a.put o.dst v') w') : wpList P ops Q (o :: rest) a w := by
 refine wpList_plain hgd fun K hK => ?_
 unfold Oper.wp
 simp [execOp, ho, resolve, invoke, builtin, hs, hx, hrun, Result.andThen]
 exact hK _ _ h
theorem info3 : (Tryd.prog.info? 3).map (fun i => (i.zero, i.size, i.bytes)) = some (some (.int .i64 0), 1, 8) := by kernel_rfl
def putWays (bh : Int) : List Int → (Int → Option Int) → Int × (Int → Option Int)
 | [], M => (0, M)
 | t :: r, M => if M t ≠ none ∧ M t ≠ some bh then (8, M) else putWays bh r (setH M t bh)
def stackStep (M : Int → Option Int) (k : Nat) (x : In) : Int × (Int → Option Int) :=
 match M k with
 | none => (7, M)
 | some h => if h < takesOf x.op.toNat ∨ 20 < h - takesOf x.op.toNat + putsOf x.op.toNat then (8, M) else putWays (h - takesOf x.op.toNat + putsOf x.op.toNat) (waysOf k x) M
theorem takes_le {m : Nat} (h2 : m ≤ 18) : 0 ≤ takesOf m ∧ takesOf m ≤ 2 ∧ 0 ≤ putsOf m ∧ putsOf m ≤ 1 := by
 have : m = 0 ∨ m = 1 ∨ m = 2 ∨ m = 3 ∨ m = 4 ∨ m = 5 ∨ m = 6 ∨ m = 7 ∨ m = 8 ∨ m = 9 ∨ m = 10 ∨ m = 11 ∨ m = 12 ∨ m = 13 ∨ m = 14 ∨ m = 15 ∨ m = 16 ∨ m = 17 ∨ m = 18 := by omega
 rcases this with rfl | rfl | rfl | rfl | rfl | rfl | rfl | rfl | rfl | rfl | rfl | rfl | rfl | rfl | rfl | rfl | rfl | rfl | rfl <;> decide
set_option maxRecDepth 20000 in
set_option maxHeartbeats 4000000 in
theorem stack1_none (w : World) (fb mb N : Nat) (M : Int → Option Int) (k : Nat) (op a b : Int) (hf : w.cell? ⟨fb, 0, none⟩ = some (.map (some mb))) (hM : HtAt w mb N M) (hk : k ≤ 2000) (hh : M k = none) :
  Calls Tryd.prog 94 #[.int .i64 k, .agg #[.int .i64 op, .int .i64 a, .int .i64 b], .pointer (some ⟨fb, 0, none⟩)] w fun r w' => r = .returned (.int .i64 7) ∧ Below w.heap.size w w' := by
 have lf : fb < w.heap.size := World.block_lt_of_cell? w _ hf
 have hlook := (hM.below (below_new w (.cells #[.int .i64 op, .int .i64 a, .int .i64 b] 35))).look (z := k) (by omega)
 rw [hh] at hlook
 simp only [Option.getD_none, Option.isSome_none] at hlook
 go_enter Tryd.func94, Tryd.ntmps94
 go_wp2_with fail
 go_ret
 exact ⟨rfl, below_new _ _⟩
set_option maxRecDepth 20000 in
set_option maxHeartbeats 4000000 in
theorem stack1_bad (w : World) (fb mb N : Nat) (M : Int → Option Int) (k m : Nat) (a b : Int) (hkk : KindsIn w) (hf : w.cell? ⟨fb, 0, none⟩ = some (.map (some mb))) (hM : HtAt w mb N M) (hk : k ≤ 2000) (h1 : 1 ≤ m) (h2 : m ≤ 18) (h : Int) (hh : M k = some h) (hr : 0 ≤ h ∧ h ≤ 20) (hbad : h < takesOf m ∨ 20 < h - takesOf m + putsOf m) :
  Calls Tryd.prog 94 #[.int .i64 k, .agg #[.int .i64 m, .int .i64 a, .int .i64 b], .pointer (some ⟨fb, 0, none⟩)] w fun r w' => r = .returned (.int .i64 8) ∧ Below w.heap.size w w' := by
 have lf : fb < w.heap.size := World.block_lt_of_cell? w _ hf
 have hlook := (hM.below (below_new w (.cells #[.int .i64 m, .int .i64 a, .int .i64 b] 35))).look (z := k) (by omega)
 rw [hh] at hlook
 simp only [Option.getD_some, Option.isSome_some] at hlook
 obtain ⟨k0, k1, k2, k3, k4, k5⟩ := hkk m h1 h2
 have l1 : 1 < w.heap.size := World.block_lt_of_cell? w _ k0
 obtain ⟨t1, t2, t3, t4⟩ := takes_le h2
 generalize takesOf m = tk at *
 generalize putsOf m = pt at *
 clear hkk hM
 by_cases hb1 : h < tk
 ·go_enter Tryd.func94, Tryd.ntmps94
  go_wp2_with fail
  go_ret
  exact ⟨rfl, (below_new _ _).alloc (by simp) _⟩
 ·have hb2 : 20 < h - tk + pt := by omega
  go_enter Tryd.func94, Tryd.ntmps94
  go_wp2_with fail
  go_ret
  exact ⟨rfl, (below_new _ _).alloc (by simp) _⟩
theorem grown_trans {w w' w'' : World} {row : Option Nat} (h : w.grownBy w' row) (h' : w'.grownBy w'' row) : w.grownBy w'' row :=
 ⟨h'.os.trans h.os, h'.tape.trans h.tape, h'.output.trans h.output, Nat.le_trans h.size h'.size, fun k hk hr => (h'.block k (Nat.lt_of_lt_of_le hk h.size) hr).trans (h.block k hk hr)⟩
theorem HtAt.mono {w : World} {mb N N' : Nat} {M : Int → Option Int} (h : HtAt w mb N M) (hn : N ≤ N') : HtAt w mb N' M := by
 obtain ⟨D, h1, h2⟩ := h
 exact ⟨D, h1.mono hn, h2⟩
theorem not_map {w : World} {b o mb N : Nat} {v : Value} {M : Int → Option Int} (h : w.cell? ⟨b, o, none⟩ = some v) (hM : HtAt w mb N M) : b ≠ mb := by
 obtain ⟨D, ⟨es, clock, h1, -⟩, -⟩ := hM
 intro e
 subst e
 unfold World.cell? at h
 rw [h1] at h
 simp at h
set_option maxRecDepth 20000 in
set_option maxHeartbeats 4000000 in
theorem stack1_good (w : World) (fb mb N : Nat) (M : Int → Option Int) (k m : Nat) (a b : Int) (hkk : KindsIn w) (hf : w.cell? ⟨fb, 0, none⟩ = some (.map (some mb))) (hM : HtAt w mb N M) (hk : k ≤ 2000) (h1 : 1 ≤ m) (h2 : m ≤ 18) (h : Int) (hh : M k = some h) (hr : 0 ≤ h ∧ h ≤ 20) (hg1 : takesOf m ≤ h) (hg2 : h - takesOf m + putsOf m ≤ 20) (bh : Int) (hbh : h - takesOf m + putsOf m = bh) (ts : List Int) (hts : waysOf k ⟨m, a, b⟩ = ts) (hlow : ∀ t ∈ ts, 0 ≤ t ∧ t ≤ 1000000) (hN : N ≤ 100000) (hlen : ts.length ≤ 2) (c : Int) (M' : Int → Option Int) (hp : putWays bh ts M = (c, M')) :
  Calls Tryd.prog 94 #[.int .i64 k, .agg #[.int .i64 m, .int .i64 a, .int .i64 b], .pointer (some ⟨fb, 0, none⟩)] w fun r w' => r = .returned (.int .i64 c) ∧ w.grownBy w' (some mb) ∧ HtAt w' mb (N + 2) M' := by
 have lf : fb < w.heap.size := World.block_lt_of_cell? w _ hf
 have hlook := (hM.below (below_new w (.cells #[.int .i64 m, .int .i64 a, .int .i64 b] 35))).look (z := k) (by omega)
 rw [hh] at hlook
 simp only [Option.getD_some, Option.isSome_some] at hlook
 obtain ⟨k0, k1, k2, k3, k4, k5⟩ := hkk m h1 h2
 have l1 : 1 < w.heap.size := World.block_lt_of_cell? w _ k0
 obtain ⟨t1, t2, t3, t4⟩ := takes_le h2
 generalize takesOf m = tk at *
 generalize putsOf m = pt at *
 have HM : Hid (HtAt w mb N M) := hM
 have HT : Hid (waysOf k ⟨m, a, b⟩ = ts ∧ (∀ t ∈ ts, 0 ≤ t ∧ t ≤ 1000000) ∧ putWays bh ts M = (c, M')) := ⟨hts, hlow, hp⟩
 clear hkk hM hts hlow hp
 go_enter Tryd.func94, Tryd.ntmps94
 go_wp2_with (go_at_call 71; refine (ways_any _ k ⟨m, a, b⟩ (by omega)).mono ?_; rw [HT.out.1]; rintro r w3 ⟨⟨v3, rfl, hsl⟩, hb3⟩; obtain ⟨tad, tc, rfl, hrow⟩ := hsl; have H3 : Hid (Below _ _ w3 ∧ (ts = [] ∨ ∃ b o, tad = some ⟨b, o, none⟩ ∧ ∀ j, j < ts.length → w3.cell? ⟨b, o + j, none⟩ = some (.int .i64 (ts.getD j 0)))) := ⟨hb3, hrow⟩; clear hrow hb3)
 have H4 : Hid (HtAt w3 mb N M ∧ w3.cell? ⟨fb, 0, none⟩ = some (.map (some mb)) ∧ w.grownBy w3 (some mb)) := by
  have hb : Below w.heap.size w w3 := below_seq ((below_new _ _).alloc (by simp) _) H3.out.1
  exact ⟨HM.out.below hb, below_cell hb hf, ⟨hb.os, hb.tape, hb.output, hb.size, fun j hj _ => hb.block j hj⟩⟩
 go_loopw [11, 12, 13, 45] (fun _ _ _ i wr => ∃ (j : Nat) (M1 : Int → Option Int), j ≤ ts.length ∧ i = .int .i64 j ∧ putWays bh (ts.drop j) M1 = (c, M') ∧ HtAt wr mb (N + j) M1 ∧ w3.grownBy wr (some mb)) (fun _ _ _ i _ => ts.length - (intOf i).toNat)
 case atStart => exact ⟨0, M, Nat.zero_le _, rfl, HT.out.2.2, H4.out.1, ⟨rfl, rfl, rfl, Nat.le_refl _, fun _ _ _ => rfl⟩⟩
 case round =>
  obtain ⟨j, M1, hj, rfl, hput, hht, hgr⟩ := hrel
  by_cases hlt : j < ts.length
  ·rcases H3.out.2 with hx | ⟨b', o', had, hrow⟩
   ·rw [hx] at hlt; simp at hlt
   subst had
   have q := hgr.cell (hrow j hlt) (by simpa using not_map (hrow j hlt) H4.out.1)
   have qf := hgr.cell H4.out.2.1 (by simpa using not_map H4.out.2.1 H4.out.1)
   have hget : ts.getD j 0 = ts[j] := by rw [List.getD_eq_getElem?_getD, List.getElem?_eq_getElem hlt]; rfl
   have hmem := HT.out.2.1 (ts.getD j 0) (by rw [hget]; exact List.getElem_mem hlt)
   have hdrop : ts.drop j = ts.getD j 0 :: ts.drop (j + 1) := by rw [hget]; exact List.drop_eq_getElem_cons hlt
   rw [hdrop] at hput
   generalize ts.getD j 0 = t at *
   have hl2 := hht.look (z := t) (by omega)
   have HP : Hid (putWays bh (t :: ts.drop (j + 1)) M1 = (c, M') ∧ HtAt wr mb (N + j) M1 ∧ w3.grownBy wr (some mb)) := ⟨hput, hht, hgr⟩
   clear hput hht hgr hrow hget hdrop
   cases hm1 : M1 t with
   | none =>
    rw [hm1] at hl2
    simp only [Option.getD_none, Option.isSome_none] at hl2
    have hp2 : putWays bh (ts.drop (j + 1)) (setH M1 t bh) = (c, M') := by
     have := HP.out.1
     unfold putWays at this
     rw [if_neg (by simp [hm1])] at this
     exact this
    obtain ⟨w5, hrun, hset, hg5⟩ := HP.out.2.1.set (by omega) (z := t) (v := bh) (by omega) (by omega)
    have HS : Hid (putWays bh (ts.drop (j + 1)) (setH M1 t bh) = (c, M') ∧ HtAt w5 mb (N + j + 1) (setH M1 t bh) ∧ wr.grownBy w5 (some mb)) := ⟨hp2, hset, hg5⟩
    clear hp2 hset hg5
    go_wp2_with fail
    go_roundw
    case rel => exact ⟨j + 1, setH M1 t bh, by omega, by go_num, HS.out.1, HS.out.2.1, grown_trans HP.out.2.2 HS.out.2.2⟩
    case measure => simp [intOf]; omega
   | some o =>
    rw [hm1] at hl2
    simp only [Option.getD_some, Option.isSome_some] at hl2
    by_cases ho : o = bh
    ·subst ho
     have hp2 : putWays o (ts.drop (j + 1)) (setH M1 t o) = (c, M') := by
      have := HP.out.1
      unfold putWays at this
      rw [if_neg (by simp [hm1])] at this
      exact this
     obtain ⟨w5, hrun, hset, hg5⟩ := HP.out.2.1.set (by omega) (z := t) (v := o) (by omega) (by omega)
     have HS : Hid (putWays o (ts.drop (j + 1)) (setH M1 t o) = (c, M') ∧ HtAt w5 mb (N + j + 1) (setH M1 t o) ∧ wr.grownBy w5 (some mb)) := ⟨hp2, hset, hg5⟩
     clear hp2 hset hg5
     go_wp2_with fail
     go_roundw
     case rel => exact ⟨j + 1, setH M1 t o, by omega, by go_num, HS.out.1, HS.out.2.1, grown_trans HP.out.2.2 HS.out.2.2⟩
     case measure => simp [intOf]; omega
    ·have hob : (o != bh) = true := by simpa using ho
     have e : c = 8 ∧ M' = M1 := by
      have := HP.out.1
      unfold putWays at this
      rw [if_pos (by simp [hm1, ho])] at this
      simpa [eq_comm] using this
     obtain ⟨rfl, rfl⟩ := e
     go_wp2_with fail
     go_ret
     exact ⟨rfl, grown_trans H4.out.2.2 HP.out.2.2, HP.out.2.1.mono (by omega)⟩
  ·have hje : j = ts.length := by omega
   subst hje
   rw [List.drop_length] at hput
   have e : c = 0 ∧ M' = M1 := by simpa [putWays, eq_comm] using hput
   obtain ⟨rfl, rfl⟩ := e
   have HP : Hid (HtAt wr mb (N + ts.length) M' ∧ w3.grownBy wr (some mb)) := ⟨hht, hgr⟩
   clear hht hgr hput
   go_wp2_with fail
   go_ret
   exact ⟨rfl, grown_trans H4.out.2.2 HP.out.2, HP.out.1.mono (by omega)⟩
set_option maxRecDepth 20000 in
set_option maxHeartbeats 4000000 in
theorem nested_other (w0 wF w : World) (rb wb B : Nat) (l : List In) (iv : Value) (os : List Nat) (ov : Value) (ws : List Int) (k : Nat) (op a b : Int) (h : NS w0 wF w rb wb B l iv os ov ws) (hk : k < l.length) (_hl : l.length ≤ 2000) (ho : os.length ≤ 2000) (h13 : op ≠ 13) (h16 : op ≠ 16) (h14 : op ≠ 14) (h17 : op ≠ 17) (h15 : op ≠ 15) :
  Calls Tryd.prog 62 #[.pointer (some ⟨rb, 0, none⟩), .int .i64 k, .agg #[.int .i64 op, .int .i64 a, .int .i64 b]] w fun r w' => r = .returned (.int .i64 0) ∧ ∃ ov', NS w0 wF w' rb wb B l iv os ov' (ws.set k (beginOf os.getLast?)) := by
 obtain ⟨oad, oc, rfl⟩ := owns_value h.own
 have hkw : k < ws.length := by rw [h.len]; omega
 have lr : rb < w.heap.size := (Array.getElem?_eq_some_iff.1 h.blk).1
 have lw : wb < w.heap.size := (Array.getElem?_eq_some_iff.1 h.wth).1
 have lo := h.ord.2.1
 have n1 : ¬ w.heap.size = wb := by omega
 have n2 : ¬ rb = wb := by omega
 have n3 : ¬ w.heap.size = rb := by omega
 have H0 : Hid (NS w0 wF w rb wb B l iv os (.slice oad os.length oc) ws) := h
 clear h
 generalize hin : beginOf os.getLast? = inn
 have HIN : Hid (beginOf os.getLast? = inn) := hin
 have f13 : (op == 13) = false := by simpa using h13
 have f16 : (op == 16) = false := by simpa using h16
 have f14 : (op == 14) = false := by simpa using h14
 have f17 : (op == 17) = false := by simpa using h17
 have f15 : (op == 15) = false := by simpa using h15
 go_enter Tryd.func62, Tryd.ntmps62
 go_wp2_with (go_at_call 89; refine (innermost_any _ rb l os _ _ _ ((H0.out.grow (below_new _ _)).rg) (by omega)).mono ?_; rintro r w1 ⟨rfl, hb1⟩; have c0 : w1.cell? ⟨w.heap.size, 0, none⟩ = some (.int .i64 op) := below_cell hb1 (by go_simp); have c1 : w1.cell? ⟨w.heap.size, 1, none⟩ = some (.int .i64 a) := below_cell hb1 (by go_simp); have c2 : w1.cell? ⟨w.heap.size, 2, none⟩ = some (.int .i64 b) := below_cell hb1 (by go_simp); have H1 : Hid (NS w0 wF w1 rb wb B l iv os (.slice oad os.length oc) ws) := H0.out.grow (below_seq (below_new _ _) hb1); obtain ⟨cs, fs, lt1⟩ := cells_of (l := [_, _, _]) H1.out.blk; have k0 := cs 0 _ rfl; have k1 := cs 1 _ rfl; have k2 := cs 2 _ rfl; have fr1 := fs 1; obtain ⟨ds, es, lt2⟩ := cells_of (l := intVs ws) H1.out.wth; have kw := ds k (.int .i64 (ws.getD k 0)) (by simp [intVs, List.getD, hkw]); have fw := es k; have lx : w.heap.size < w1.heap.size := World.block_lt_of_cell? w1 _ c0; clear hb1 cs fs ds es; rw [hin]; clear hin)
 go_ret
 exact ⟨rfl, _, H1.out.setW k inn⟩
set_option maxRecDepth 20000 in
set_option maxHeartbeats 4000000 in
theorem nested_stop_no (w0 wF w : World) (rb wb B : Nat) (l : List In) (iv : Value) (os : List Nat) (ov : Value) (ws : List Int) (k : Nat) (a b : Int) (h : NS w0 wF w rb wb B l iv os ov ws) (hk : k < l.length) (hl : l.length ≤ 2000) (ho : os.length ≤ 2000) (hq : opens l os 13 a = none) :
  Calls Tryd.prog 62 #[.pointer (some ⟨rb, 0, none⟩), .int .i64 k, .agg #[.int .i64 15, .int .i64 a, .int .i64 b]] w fun r w' => r = .returned (.int .i64 9) ∧ ∃ ov', NS w0 wF w' rb wb B l iv os ov' (ws.set k (beginOf os.getLast?)) := by
 obtain ⟨oad, oc, rfl⟩ := owns_value h.own
 have hkw : k < ws.length := by rw [h.len]; omega
 have lr : rb < w.heap.size := (Array.getElem?_eq_some_iff.1 h.blk).1
 have lw : wb < w.heap.size := (Array.getElem?_eq_some_iff.1 h.wth).1
 have lo := h.ord.2.1
 have n1 : ¬ w.heap.size = wb := by omega
 have n2 : ¬ rb = wb := by omega
 have n3 : ¬ w.heap.size = rb := by omega
 have H0 : Hid (NS w0 wF w rb wb B l iv os (.slice oad os.length oc) ws) := h
 clear h
 generalize hin : beginOf os.getLast? = inn
 have HIN : Hid (beginOf os.getLast? = inn) := hin
 go_enter Tryd.func62, Tryd.ntmps62
 go_wp2_with (go_at_call 89; refine (innermost_any _ rb l os _ _ _ ((H0.out.grow (below_new _ _)).rg) (by omega)).mono ?_; rintro r w1 ⟨rfl, hb1⟩; have c0 : w1.cell? ⟨w.heap.size, 0, none⟩ = some (.int .i64 15) := below_cell hb1 (by go_simp); have c1 : w1.cell? ⟨w.heap.size, 1, none⟩ = some (.int .i64 a) := below_cell hb1 (by go_simp); have c2 : w1.cell? ⟨w.heap.size, 2, none⟩ = some (.int .i64 b) := below_cell hb1 (by go_simp); have H1 : Hid (NS w0 wF w1 rb wb B l iv os (.slice oad os.length oc) ws) := H0.out.grow (below_seq (below_new _ _) hb1); obtain ⟨cs, fs, lt1⟩ := cells_of (l := [_, _, _]) H1.out.blk; have k0 := cs 0 _ rfl; have k1 := cs 1 _ rfl; have k2 := cs 2 _ rfl; have fr1 := fs 1; obtain ⟨ds, es, lt2⟩ := cells_of (l := intVs ws) H1.out.wth; have kw := ds k (.int .i64 (ws.getD k 0)) (by simp [intVs, List.getD, hkw]); have fw := es k; have lx : w.heap.size < w1.heap.size := World.block_lt_of_cell? w1 _ c0; clear hb1 cs fs ds es; rw [hin]; clear hin)
 go_wp2_with (go_at_call 90; refine (begins_any _ rb l os _ _ _ 13 a ((H1.out.setW k inn).rg) (by omega) (by omega)).mono ?_; rw [hq]; rintro r w3 ⟨rfl, hb3⟩; have H3 : Hid (NS w0 wF w3 rb wb B l iv os (.slice oad os.length oc) (ws.set k inn)) := (H1.out.setW k inn).grow hb3; replace c0 : w3.cell? ⟨w.heap.size, 0, none⟩ = some (.int .i64 15) := below_cell hb3 (by go_simp); replace c1 : w3.cell? ⟨w.heap.size, 1, none⟩ = some (.int .i64 a) := below_cell hb3 (by go_simp); replace c2 : w3.cell? ⟨w.heap.size, 2, none⟩ = some (.int .i64 b) := below_cell hb3 (by go_simp); obtain ⟨cs, fs, lt3⟩ := cells_of (l := [_, _, _]) H3.out.blk; replace k0 := cs 0 _ rfl; replace k1 := cs 1 _ rfl; replace k2 := cs 2 _ rfl; replace fr1 := fs 1; clear hb3 cs fs kw fw; dsimp only [beginOf])
 go_ret
 exact ⟨rfl, _, H3.out⟩
set_option maxRecDepth 20000 in
set_option maxHeartbeats 4000000 in
theorem nested_stop_yes (w0 wF w : World) (rb wb B : Nat) (l : List In) (iv : Value) (os : List Nat) (ov : Value) (ws : List Int) (k : Nat) (a b : Int) (h : NS w0 wF w rb wb B l iv os ov ws) (hk : k < l.length) (hl : l.length ≤ 2000) (ho : os.length ≤ 2000) (q : Nat) (hq : opens l os 13 a = some q) :
  Calls Tryd.prog 62 #[.pointer (some ⟨rb, 0, none⟩), .int .i64 k, .agg #[.int .i64 15, .int .i64 a, .int .i64 b]] w fun r w' => r = .returned (.int .i64 0) ∧ ∃ ov', NS w0 wF w' rb wb B l iv os ov' (ws.set k (beginOf os.getLast?)) := by
 obtain ⟨oad, oc, rfl⟩ := owns_value h.own
 have hkw : k < ws.length := by rw [h.len]; omega
 have lr : rb < w.heap.size := (Array.getElem?_eq_some_iff.1 h.blk).1
 have lw : wb < w.heap.size := (Array.getElem?_eq_some_iff.1 h.wth).1
 have lo := h.ord.2.1
 have n1 : ¬ w.heap.size = wb := by omega
 have n2 : ¬ rb = wb := by omega
 have n3 : ¬ w.heap.size = rb := by omega
 have H0 : Hid (NS w0 wF w rb wb B l iv os (.slice oad os.length oc) ws) := h
 clear h
 generalize hin : beginOf os.getLast? = inn
 have HIN : Hid (beginOf os.getLast? = inn) := hin
 have hz : ¬ ((q : Int) + 1 = 0) := by omega
 have hzb : (((q : Int) + 1) == 0) = false := by simpa using hz
 go_enter Tryd.func62, Tryd.ntmps62
 go_wp2_with (go_at_call 89; refine (innermost_any _ rb l os _ _ _ ((H0.out.grow (below_new _ _)).rg) (by omega)).mono ?_; rintro r w1 ⟨rfl, hb1⟩; have c0 : w1.cell? ⟨w.heap.size, 0, none⟩ = some (.int .i64 15) := below_cell hb1 (by go_simp); have c1 : w1.cell? ⟨w.heap.size, 1, none⟩ = some (.int .i64 a) := below_cell hb1 (by go_simp); have c2 : w1.cell? ⟨w.heap.size, 2, none⟩ = some (.int .i64 b) := below_cell hb1 (by go_simp); have H1 : Hid (NS w0 wF w1 rb wb B l iv os (.slice oad os.length oc) ws) := H0.out.grow (below_seq (below_new _ _) hb1); obtain ⟨cs, fs, lt1⟩ := cells_of (l := [_, _, _]) H1.out.blk; have k0 := cs 0 _ rfl; have k1 := cs 1 _ rfl; have k2 := cs 2 _ rfl; have fr1 := fs 1; obtain ⟨ds, es, lt2⟩ := cells_of (l := intVs ws) H1.out.wth; have kw := ds k (.int .i64 (ws.getD k 0)) (by simp [intVs, List.getD, hkw]); have fw := es k; have lx : w.heap.size < w1.heap.size := World.block_lt_of_cell? w1 _ c0; clear hb1 cs fs ds es; rw [hin]; clear hin)
 go_wp2_with (go_at_call 90; refine (begins_any _ rb l os _ _ _ 13 a ((H1.out.setW k inn).rg) (by omega) (by omega)).mono ?_; rw [hq]; rintro r w3 ⟨rfl, hb3⟩; have H3 : Hid (NS w0 wF w3 rb wb B l iv os (.slice oad os.length oc) (ws.set k inn)) := (H1.out.setW k inn).grow hb3; replace c0 : w3.cell? ⟨w.heap.size, 0, none⟩ = some (.int .i64 15) := below_cell hb3 (by go_simp); replace c1 : w3.cell? ⟨w.heap.size, 1, none⟩ = some (.int .i64 a) := below_cell hb3 (by go_simp); replace c2 : w3.cell? ⟨w.heap.size, 2, none⟩ = some (.int .i64 b) := below_cell hb3 (by go_simp); obtain ⟨cs, fs, lt3⟩ := cells_of (l := [_, _, _]) H3.out.blk; replace k0 := cs 0 _ rfl; replace k1 := cs 1 _ rfl; replace k2 := cs 2 _ rfl; replace fr1 := fs 1; clear hb3 cs fs kw fw; dsimp only [beginOf])
 go_ret
 exact ⟨rfl, _, H3.out⟩
end Go.Proofs.YtibcbdihphbfeacDoor
