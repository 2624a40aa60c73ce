import Derived.Test.YtgemadoieielcacDoorRows
import Derived.WalkKit
import Derived.ProofKit
import Derived.OpenShut
import Derived.Handy
import Derived.Deep.QuietTactic
import Derived.BigQuiet
import Derived.Deep.RegionHeld3
import Derived.LaidMore
import Derived.ChangeArms
namespace Go.Proofs.YtgemadoieielcacDoor
open Go.ChangeShapes Go.WideShapes Go.ChangeAt Go.RowKit

/-- An instruction. -/
structure In where
  op : Int
  a : Int
  b : Int

def In.val (x : In) : Value := .agg #[.int .i64 x.op, .int .i64 x.a, .int .i64 x.b]

def in0 : In := ⟨0, 0, 0⟩

theorem below_cell {w w' : World} (hb : Below w.heap.size w w') {p : Addr} {v : Value} (h : w.cell? p = some v) : w'.cell? p = some v :=
  (hb.cell (World.block_lt_of_cell? w p h)).trans h

theorem below_seq {a b c : World} (h : Below a.heap.size a b) (h' : Below b.heap.size b c) : Below a.heap.size a c := h.trans (h'.mono h.size)

theorem below_new (w : World) (o : Obj) : Below w.heap.size w (w.alloc o) := (Below.refl _ w).alloc (Nat.le_refl _) o

/-- A slice of instructions, wherever. -/
def InSl (w : World) (l : List In) (v : Value) : Prop := ∃ ad c, v = .slice ad l.length c ∧ (l = [] ∨ ∃ b o, ad = some ⟨b, o, none⟩ ∧ ∀ j, j < l.length → w.cell? ⟨b, o + j * 3, none⟩ = some (.int .i64 (l.getD j in0).op) ∧ w.cell? ⟨b, o + j * 3 + 1, none⟩ = some (.int .i64 (l.getD j in0).a) ∧ w.cell? ⟨b, o + j * 3 + 2, none⟩ = some (.int .i64 (l.getD j in0).b))

theorem InSl.below {w w' : World} {l : List In} {v : Value} (h : InSl w l v) (hb : Below w.heap.size w w') : InSl w' l v := by
  obtain ⟨ad, c, h1, h2⟩ := h
  refine ⟨ad, c, h1, ?_⟩
  rcases h2 with h2 | ⟨b, o, h2, h3⟩
  · exact .inl h2
  · exact .inr ⟨b, o, h2, fun j hj => ⟨below_cell hb (h3 j hj).1, below_cell hb (h3 j hj).2.1, below_cell hb (h3 j hj).2.2⟩⟩

/- The table of kinds: the least A, the greatest A, the greatest B, what is taken, what is put. -/
def lowA (m : Nat) : Int := if m = 18 then 1 else 0
def highA (m : Nat) : Int := [0, 999999999, 7, 7, 0, 0, 0, 0, 0, 3, 3, 2000, 2000, 7, 7, 7, 3, 3, 1000].getD m 0
def highB (m : Nat) : Int := if m = 13 then 1000 else if m = 14 then 2000 else 0
def takesOf (m : Nat) : Int := [0, 0, 0, 1, 2, 2, 2, 2, 2, 0, 1, 0, 1, 0, 0, 0, 0, 0, 0].getD m 0
def putsOf (m : Nat) : Int := [0, 1, 1, 0, 1, 1, 1, 1, 1, 1, 0, 0, 0, 0, 0, 0, 0, 0, 0].getD m 0
def tickOf (m : Nat) : Int := [0, 1, 1, 1, 1, 1, 3, 1, 1, 2, 2, 2, 1, 1, 1, 1, 1, 1, 0].getD m 0

def KindsIn (w : World) : Prop := ∀ m : Nat, 1 ≤ m → m ≤ 18 → w.cell? ⟨1, m * 6, none⟩ = some (.int .i64 (lowA m)) ∧ w.cell? ⟨1, m * 6 + 1, none⟩ = some (.int .i64 (highA m)) ∧ w.cell? ⟨1, m * 6 + 2, none⟩ = some (.int .i64 (highB m)) ∧ w.cell? ⟨1, m * 6 + 3, none⟩ = some (.int .i64 (takesOf m)) ∧ w.cell? ⟨1, m * 6 + 4, none⟩ = some (.int .i64 (putsOf m)) ∧ w.cell? ⟨1, m * 6 + 5, none⟩ = some (.int .i64 (tickOf m))

theorem KindsIn.below {w w' : World} (h : KindsIn w) (hb : Below w.heap.size w w') : KindsIn w' := fun m h1 h2 =>
  ⟨below_cell hb (h m h1 h2).1, below_cell hb (h m h1 h2).2.1, below_cell hb (h m h1 h2).2.2.1, below_cell hb (h m h1 h2).2.2.2.1, below_cell hb (h m h1 h2).2.2.2.2.1, below_cell hb (h m h1 h2).2.2.2.2.2⟩

/-- What is wrong with an instruction by itself. -/
def formErr (x : In) : Int := if x.op < 1 ∨ 18 < x.op then 6 else if x.a < lowA x.op.toNat ∨ highA x.op.toNat < x.a ∨ x.b < 0 ∨ highB x.op.toNat < x.b then 3 else 0

set_option maxRecDepth 20000 in
set_option maxHeartbeats 4000000 in
theorem isIns_no (w : World) (op a b : Int) (h : op < 1 ∨ 18 < op) : Calls Tryd.prog 58 #[.agg #[.int .i64 op, .int .i64 a, .int .i64 b]] w fun r w' => r = .returned (.bool false) ∧ Below w.heap.size w w' := by
  rcases h with h | h
  · go_enter Tryd.func58, Tryd.ntmps58
    go_wp2_with fail
    go_ret
    exact ⟨rfl, below_new _ _⟩
  · have h1 : 1 ≤ op := by omega
    have h2 : ¬ op ≤ 18 := by omega
    have e1 : decide (1 ≤ op) = true := by simpa using h1
    have e2 : decide (op ≤ 18) = false := by simpa using h
    go_enter Tryd.func58, Tryd.ntmps58
    go_wp2_with fail
    go_ret
    exact ⟨rfl, below_new _ _⟩

set_option maxRecDepth 20000 in
set_option maxHeartbeats 4000000 in
theorem isIns_yes (w : World) (op a b : Int) (h1 : 1 ≤ op) (h2 : op ≤ 18) : Calls Tryd.prog 58 #[.agg #[.int .i64 op, .int .i64 a, .int .i64 b]] w fun r w' => r = .returned (.bool true) ∧ Below w.heap.size w w' := by
  have e1 : decide (1 ≤ op) = true := by simpa using h1
  have e2 : decide (op ≤ 18) = true := by simpa using h2
  go_enter Tryd.func58, Tryd.ntmps58
  go_wp2_with fail
  go_ret
  exact ⟨rfl, below_new _ _⟩
end Go.Proofs.YtgemadoieielcacDoor
namespace Go.Proofs.YtgemadoieielcacDoor
open Go.ChangeShapes Go.WideShapes Go.ChangeAt Go.RowKit

theorem gKinds : Tryd.prog.globalNamed "punctual/mach.kinds" = some 1 := by kernel_rfl
theorem tKinds : (Tryd.prog.globals[1]?).map (·.type) = some 112 := by kernel_rfl
theorem laidCells104 : Tryd.prog.cellsOf 111 = 6 := by kernel_rfl
theorem laidCells3 : Tryd.prog.cellsOf 3 = 1 := by kernel_rfl

section
variable {H : Type} {enc : TypeId × Value → H} {w : World} {base : Nat} {sp : Nat → Bool} {held : Bool}

theorem one_at {cs : List Value} {o k j : Nat} {c : Value} (hj : j < k) (h : (((cs.drop o).take k).drop j).take 1 = [c]) : cs[o + j]? = some c := by
  have h0 : ((((cs.drop o).take k).drop j).take 1)[0]? = some c := by rw [h]; rfl
  rw [List.getElem?_take_of_lt (by omega), List.getElem?_drop, List.getElem?_take_of_lt (by omega), List.getElem?_drop] at h0
  simpa using h0

theorem int_at {cs : List Value} {o k j n : Nat} {z : Int} {y : DataW H × List MemPlace} (hj : j < k) (h : DataW.trod enc Tryd.prog w base sp held n 3 ((((cs.drop o).take k).drop j).take 1) = some y) (hy : y.1 = .lit (.int .i64 z)) : cs[o + j]? = some (.int .i64 z) := by
  obtain ⟨m, h1, rfl, -⟩ := DataW.trod_int Tryd.underlying3 h
  simp at hy
  subst hy
  exact one_at hj h1

/-- A row of the table of kinds. -/
theorem row104 {cs : List Value} {o n : Nat} {k0 k1 k2 k3 k4 k5 : Int} {y : DataW H × List MemPlace} (h : DataW.trod enc Tryd.prog w base sp held n 111 ((cs.drop o).take 6) = some y)
    (hy : y.1 = .agg [.lit (.int .i64 k0), .lit (.int .i64 k1), .lit (.int .i64 k2), .lit (.int .i64 k3), .lit (.int .i64 k4), .lit (.int .i64 k5)]) :
    cs[o]? = some (.int .i64 k0) ∧ cs[o + 1]? = some (.int .i64 k1) ∧ cs[o + 2]? = some (.int .i64 k2) ∧ cs[o + 3]? = some (.int .i64 k3) ∧ cs[o + 4]? = some (.int .i64 k4) ∧ cs[o + 5]? = some (.int .i64 k5) := by
  obtain ⟨xs, n1, rfl, rfl, -, hlen, hf⟩ := DataW.trod_struct Tryd.underlying111 h
  match xs, hlen with
  | [y0, y1, y2, y3, y4, y5], _ =>
    simp only [List.map_cons, List.map_nil, DataW.agg.injEq, List.cons.injEq, and_true] at hy
    obtain ⟨e0, e1, e2, e3, e4, e5⟩ := hy
    have f0 : DataW.trod enc Tryd.prog w base sp held n1 3 ((((cs.drop o).take 6).drop 0).take (Tryd.prog.cellsOf 3)) = some y0 := hf 0 _ rfl
    have f1 : DataW.trod enc Tryd.prog w base sp held n1 3 ((((cs.drop o).take 6).drop 1).take (Tryd.prog.cellsOf 3)) = some y1 := hf 1 _ rfl
    have f2 : DataW.trod enc Tryd.prog w base sp held n1 3 ((((cs.drop o).take 6).drop 2).take (Tryd.prog.cellsOf 3)) = some y2 := hf 2 _ rfl
    have f3 : DataW.trod enc Tryd.prog w base sp held n1 3 ((((cs.drop o).take 6).drop 3).take (Tryd.prog.cellsOf 3)) = some y3 := hf 3 _ rfl
    have f4 : DataW.trod enc Tryd.prog w base sp held n1 3 ((((cs.drop o).take 6).drop 4).take (Tryd.prog.cellsOf 3)) = some y4 := hf 4 _ rfl
    have f5 : DataW.trod enc Tryd.prog w base sp held n1 3 ((((cs.drop o).take 6).drop 5).take (Tryd.prog.cellsOf 3)) = some y5 := hf 5 _ rfl
    rw [laidCells3] at f0 f1 f2 f3 f4 f5
    exact ⟨int_at (by omega) f0 e0, int_at (by omega) f1 e1, int_at (by omega) f2 e2, int_at (by omega) f3 e3, int_at (by omega) f4 e4, int_at (by omega) f5 e5⟩
end

end Go.Proofs.YtgemadoieielcacDoor
namespace Go.Proofs.YtgemadoieielcacDoor
open Go.ChangeShapes Go.WideShapes Go.ChangeAt Go.RowKit

theorem cells35 : Tryd.prog.cellsOf 35 = 3 := by kernel_rfl

section
variable {H : Type} {enc : TypeId × Value → H} {w : World} {sp : Nat → Bool} {held : Bool}

/-- A cell that is there lies at a plain address. -/
theorem plain_addr {w : World} {a : Addr} {v : Value} (h : w.cell? a = some v) : a = ⟨a.block, a.off, none⟩ := by
  obtain ⟨b, o, s⟩ := a
  cases s with
  | none => rfl
  | some x =>
    exfalso
    unfold World.cell? at h
    simp at h
    split at h <;> simp_all

theorem add_plain' (g o n : Nat) : (⟨g, o, none⟩ : Addr).add n = ⟨g, o + n, none⟩ := by
  unfold Addr.add
  by_cases h : n = 0
  · subst h; rfl
  · simp [h]

theorem cells_at {g o n : Nat} {cs : List Value} (h : w.cells? 0 ⟨g, o, none⟩ n = some cs) : cs.length = n ∧ ∀ i, i < n → w.cell? ⟨g, o + i, none⟩ = cs[i]? := by
  obtain ⟨-, h1, h2⟩ := World.cells?_some h
  refine ⟨h1, fun i hi => ?_⟩
  rw [← h2 i hi, add_plain']

/-- An instruction that can be read. -/
theorem ins_one {n : Nat} {cs : List Value} {y : DataW H × List MemPlace} (hl : cs.length = 3) (h : DataW.trod enc Tryd.prog w 0 sp held n 35 cs = some y) : ∃ op a b : Int, cs = [.int .i64 op, .int .i64 a, .int .i64 b] := by
  match cs, hl with
  | [c0, c1, c2], _ =>
    obtain ⟨xs, n1, rfl, -, -, hlen, hf⟩ := DataW.trod_struct Tryd.underlying35 h
    match xs, hlen with
    | [y0, y1, y2], _ =>
      have f0 : DataW.trod enc Tryd.prog w 0 sp held n1 3 ((([c0, c1, c2] : List Value).drop 0).take (Tryd.prog.cellsOf 3)) = some y0 := hf 0 _ rfl
      have f1 : DataW.trod enc Tryd.prog w 0 sp held n1 3 ((([c0, c1, c2] : List Value).drop 1).take (Tryd.prog.cellsOf 3)) = some y1 := hf 1 _ rfl
      have f2 : DataW.trod enc Tryd.prog w 0 sp held n1 3 ((([c0, c1, c2] : List Value).drop 2).take (Tryd.prog.cellsOf 3)) = some y2 := hf 2 _ rfl
      rw [laidCells3] at f0 f1 f2
      obtain ⟨k0, e0, -, -⟩ := DataW.trod_int Tryd.underlying3 (show DataW.trod enc Tryd.prog w 0 sp held n1 3 [c0] = some y0 from f0)
      obtain ⟨k1, e1, -, -⟩ := DataW.trod_int Tryd.underlying3 (show DataW.trod enc Tryd.prog w 0 sp held n1 3 [c1] = some y1 from f1)
      obtain ⟨k2, e2, -, -⟩ := DataW.trod_int Tryd.underlying3 (show DataW.trod enc Tryd.prog w 0 sp held n1 3 [c2] = some y2 from f2)
      simp only [List.cons.injEq, and_true] at e0 e1 e2
      exact ⟨k0, k1, k2, by rw [e0, e1, e2]⟩

theorem ins_row {n : Nat} (g : Nat) : ∀ (elems : List (DataW H × List MemPlace)) (o : Nat),
    (∀ i, i < elems.length → (w.cells? 0 ⟨g, o + i * 3, none⟩ 3).bind (DataW.trod enc Tryd.prog w 0 sp held n 35) = elems[i]?) →
    ∃ l : List In, l.length = elems.length ∧ ∀ j, j < l.length → w.cell? ⟨g, o + j * 3, none⟩ = some (.int .i64 (l.getD j in0).op) ∧ w.cell? ⟨g, o + j * 3 + 1, none⟩ = some (.int .i64 (l.getD j in0).a) ∧ w.cell? ⟨g, o + j * 3 + 2, none⟩ = some (.int .i64 (l.getD j in0).b)
  | [], o, _ => ⟨[], rfl, fun j hj => by simp at hj⟩
  | y :: r, o, h => by
    have h0 := h 0 (by simp)
    simp only [Nat.zero_mul, Nat.add_zero, List.getElem?_cons_zero] at h0
    obtain ⟨cs, hc, ht⟩ := Option.bind_eq_some_iff.1 h0
    obtain ⟨hlen, hcell⟩ := cells_at hc
    obtain ⟨op, a, b, rfl⟩ := ins_one hlen ht
    have k0 := hcell 0 (by omega)
    have k1 := hcell 1 (by omega)
    have k2 := hcell 2 (by omega)
    obtain ⟨l, hl, hrow⟩ := ins_row g r (o + 3) (fun i hi => by
      have := h (i + 1) (by simp; omega)
      rw [show o + (i + 1) * 3 = o + 3 + i * 3 by omega] at this
      simpa using this)
    refine ⟨⟨op, a, b⟩ :: l, by simp [hl], fun j hj => ?_⟩
    cases j with
    | zero => exact ⟨by simpa using k0, by simpa using k1, by simpa using k2⟩
    | succ j =>
      obtain ⟨q0, q1, q2⟩ := hrow j (by simpa using hj)
      rw [show o + (j + 1) * 3 = o + 3 + j * 3 by omega]
      exact ⟨by simpa using q0, by simpa using q1, by simpa using q2⟩

/-- A slice of instructions that can be read. -/
theorem InSl.of_trod {ad : Option Addr} {n c : Nat} {d : DataW H} {ps : List MemPlace} (h : DataW.Trod enc Tryd.prog w 0 sp held 22 (.slice ad n c) d ps) : ∃ l : List In, n = l.length ∧ InSl w l (.slice ad n c) ∧ (ad = none → l.length = 0 ∧ c = 0) := by
  obtain ⟨q, hq⟩ := h
  have hcs : (Value.slice ad n c).cells.toList = [.slice ad n c] := rfl
  rw [hcs] at hq
  rcases DataW.trod_slice Tryd.underlying22 hq with ⟨h1, -⟩ | ⟨a, len, cap, elems, rest, n2, -, h1, -, -, -, -, hle, hel, -, -⟩
  · simp only [List.cons.injEq, and_true, Value.slice.injEq] at h1
    obtain ⟨rfl, rfl, rfl⟩ := h1
    exact ⟨[], rfl, ⟨_, _, rfl, .inl rfl⟩, fun _ => ⟨rfl, rfl⟩⟩
  · simp only [List.cons.injEq, and_true, Value.slice.injEq] at h1
    obtain ⟨rfl, rfl, rfl⟩ := h1
    subst hle
    simp only [cells35] at hel
    cases elems with
    | nil => exact ⟨[], rfl, ⟨_, _, rfl, .inl rfl⟩, fun e => by cases e⟩
    | cons z r =>
      have hz := hel 0 (by simp)
      obtain ⟨cs0, hc0, ht0⟩ := Option.bind_eq_some_iff.1 hz
      obtain ⟨-, hlen0, hpl⟩ := World.cells?_some hc0
      obtain ⟨op, x, b, rfl⟩ := ins_one hlen0 (by simpa using ht0)
      have hpa := plain_addr (w := w) (a := a) (v := .int .i64 op) (by simpa [Addr.add] using hpl 0 (by omega))
      obtain ⟨l, hl, hrow⟩ := ins_row (n := n2) a.block (z :: r) a.off (fun i hi => by
        have := hel i hi
        rw [hpa, add_plain'] at this
        exact this)
      exact ⟨l, hl.symm, ⟨some a, c, by rw [hl], .inr ⟨a.block, a.off, by rw [← hpa], hrow⟩⟩, fun e => by cases e⟩
end
end Go.Proofs.YtgemadoieielcacDoor
namespace Go.Proofs.YtgemadoieielcacDoor
open Go.ChangeShapes Go.WideShapes Go.ChangeAt Go.RowKit

theorem gNo : Tryd.prog.globalNamed "punctual/punctuallaw.noIns" = some 0 := by kernel_rfl
theorem tNo : (Tryd.prog.globals[0]?).map (·.type) = some 35 := by kernel_rfl

section
variable {H : Type} {enc : TypeId × Value → H} {w : World} {base : Nat} {sp : Nat → Bool} {held : Bool}

theorem int_one {cs : List Value} {o n : Nat} {z : Int} {y : DataW H × List MemPlace} (h : DataW.trod enc Tryd.prog w base sp held n 3 ((cs.drop o).take 1) = some y) (hy : y.1 = .lit (.int .i64 z)) : cs[o]? = some (.int .i64 z) := by
  obtain ⟨m, h1, rfl, -⟩ := DataW.trod_int Tryd.underlying3 h
  simp at hy
  subst hy
  have h0 : ((cs.drop o).take 1)[0]? = some (.int .i64 m) := by rw [h1]; rfl
  rw [List.getElem?_take_of_lt (by omega), List.getElem?_drop] at h0
  simpa using h0
end

/-- What the listed variables hold. -/
theorem of_laid2 {W : World} (h : laidMetH Tryd.prog Rows.wcetTellsRow.laid W) : KindsIn W ∧ W.cell? ⟨0, 0, none⟩ = some (.int .i64 (-1)) ∧ W.cell? ⟨0, 1, none⟩ = some (.int .i64 (-2)) ∧ W.cell? ⟨0, 2, none⟩ = some (.int .i64 (-3)) := by
  rw [MakeChecks.laidMetH_plain _ _ _ (by kernel_rfl)] at h
  obtain ⟨ps, ⟨g0, t0, cs0, f0, p0, q0, hg0, ht0, hv0, hd0, ⟨g1, t1, cs1, f1, p1, q1, hg1, ht1, hv1, hd1, _, _⟩, _⟩, _, _⟩ := h
  obtain rfl := Option.some.inj (gKinds.symm.trans hg0)
  obtain rfl := Option.some.inj (gNo.symm.trans hg1)
  obtain rfl := Option.some.inj (tKinds.symm.trans ht0)
  obtain rfl := Option.some.inj (tNo.symm.trans ht1)
  have c0 : ∀ j, W.cell? ⟨1, j, none⟩ = cs0[j]? := World.var?_cell hg0 hv0
  have c1 : ∀ j, W.cell? ⟨0, j, none⟩ = cs1[j]? := World.var?_cell hg1 hv1
  refine ⟨?_, ?_⟩
  · obtain ⟨xs, m0, rfl, hx, -, hn, hel⟩ := DataW.trod_array Tryd.underlying112 hd0
    simp only [laidCells104] at hel
    match xs, hn with
    | [x0, x1, x2, x3, x4, x5, x6, x7, x8, x9, x10, x11, x12, x13, x14, x15, x16, x17, x18], _ =>
      simp only [Rows.laid_punctual_mach_kinds, Prod.mk.injEq, DataW.agg.injEq, List.map_cons, List.map_nil, List.cons.injEq, and_true] at hx
      obtain ⟨⟨e0, e1, e2, e3, e4, e5, e6, e7, e8, e9, e10, e11, e12, e13, e14, e15, e16, e17, e18⟩, -⟩ := hx
      have a0 : ∀ j u, cs0.toList[j]? = some u → W.cell? ⟨1, j, none⟩ = some u := fun j u hu => by rw [c0]; simpa using hu
      intro m h1 h2
      have h : m = 1 ∨ m = 2 ∨ m = 3 ∨ m = 4 ∨ m = 5 ∨ m = 6 ∨ m = 7 ∨ m = 8 ∨ m = 9 ∨ m = 10 ∨ m = 11 ∨ m = 12 ∨ m = 13 ∨ m = 14 ∨ m = 15 ∨ m = 16 ∨ m = 17 ∨ m = 18 := by omega
      rcases h with rfl | rfl | rfl | rfl | rfl | rfl | rfl | rfl | rfl | rfl | rfl | rfl | rfl | rfl | rfl | rfl | rfl | rfl
      · obtain ⟨r0, r1, r2, r3, r4, r5⟩ := row104 (o := 1 * 6) (show DataW.trod _ Tryd.prog W 0 _ _ m0 111 ((cs0.toList.drop (1 * 6)).take 6) = some x1 from hel 1 (by omega)) e1.symm
        exact ⟨a0 _ _ r0, a0 _ _ r1, a0 _ _ r2, a0 _ _ r3, a0 _ _ r4, a0 _ _ r5⟩
      · obtain ⟨r0, r1, r2, r3, r4, r5⟩ := row104 (o := 2 * 6) (show DataW.trod _ Tryd.prog W 0 _ _ m0 111 ((cs0.toList.drop (2 * 6)).take 6) = some x2 from hel 2 (by omega)) e2.symm
        exact ⟨a0 _ _ r0, a0 _ _ r1, a0 _ _ r2, a0 _ _ r3, a0 _ _ r4, a0 _ _ r5⟩
      · obtain ⟨r0, r1, r2, r3, r4, r5⟩ := row104 (o := 3 * 6) (show DataW.trod _ Tryd.prog W 0 _ _ m0 111 ((cs0.toList.drop (3 * 6)).take 6) = some x3 from hel 3 (by omega)) e3.symm
        exact ⟨a0 _ _ r0, a0 _ _ r1, a0 _ _ r2, a0 _ _ r3, a0 _ _ r4, a0 _ _ r5⟩
      · obtain ⟨r0, r1, r2, r3, r4, r5⟩ := row104 (o := 4 * 6) (show DataW.trod _ Tryd.prog W 0 _ _ m0 111 ((cs0.toList.drop (4 * 6)).take 6) = some x4 from hel 4 (by omega)) e4.symm
        exact ⟨a0 _ _ r0, a0 _ _ r1, a0 _ _ r2, a0 _ _ r3, a0 _ _ r4, a0 _ _ r5⟩
      · obtain ⟨r0, r1, r2, r3, r4, r5⟩ := row104 (o := 5 * 6) (show DataW.trod _ Tryd.prog W 0 _ _ m0 111 ((cs0.toList.drop (5 * 6)).take 6) = some x5 from hel 5 (by omega)) e5.symm
        exact ⟨a0 _ _ r0, a0 _ _ r1, a0 _ _ r2, a0 _ _ r3, a0 _ _ r4, a0 _ _ r5⟩
      · obtain ⟨r0, r1, r2, r3, r4, r5⟩ := row104 (o := 6 * 6) (show DataW.trod _ Tryd.prog W 0 _ _ m0 111 ((cs0.toList.drop (6 * 6)).take 6) = some x6 from hel 6 (by omega)) e6.symm
        exact ⟨a0 _ _ r0, a0 _ _ r1, a0 _ _ r2, a0 _ _ r3, a0 _ _ r4, a0 _ _ r5⟩
      · obtain ⟨r0, r1, r2, r3, r4, r5⟩ := row104 (o := 7 * 6) (show DataW.trod _ Tryd.prog W 0 _ _ m0 111 ((cs0.toList.drop (7 * 6)).take 6) = some x7 from hel 7 (by omega)) e7.symm
        exact ⟨a0 _ _ r0, a0 _ _ r1, a0 _ _ r2, a0 _ _ r3, a0 _ _ r4, a0 _ _ r5⟩
      · obtain ⟨r0, r1, r2, r3, r4, r5⟩ := row104 (o := 8 * 6) (show DataW.trod _ Tryd.prog W 0 _ _ m0 111 ((cs0.toList.drop (8 * 6)).take 6) = some x8 from hel 8 (by omega)) e8.symm
        exact ⟨a0 _ _ r0, a0 _ _ r1, a0 _ _ r2, a0 _ _ r3, a0 _ _ r4, a0 _ _ r5⟩
      · obtain ⟨r0, r1, r2, r3, r4, r5⟩ := row104 (o := 9 * 6) (show DataW.trod _ Tryd.prog W 0 _ _ m0 111 ((cs0.toList.drop (9 * 6)).take 6) = some x9 from hel 9 (by omega)) e9.symm
        exact ⟨a0 _ _ r0, a0 _ _ r1, a0 _ _ r2, a0 _ _ r3, a0 _ _ r4, a0 _ _ r5⟩
      · obtain ⟨r0, r1, r2, r3, r4, r5⟩ := row104 (o := 10 * 6) (show DataW.trod _ Tryd.prog W 0 _ _ m0 111 ((cs0.toList.drop (10 * 6)).take 6) = some x10 from hel 10 (by omega)) e10.symm
        exact ⟨a0 _ _ r0, a0 _ _ r1, a0 _ _ r2, a0 _ _ r3, a0 _ _ r4, a0 _ _ r5⟩
      · obtain ⟨r0, r1, r2, r3, r4, r5⟩ := row104 (o := 11 * 6) (show DataW.trod _ Tryd.prog W 0 _ _ m0 111 ((cs0.toList.drop (11 * 6)).take 6) = some x11 from hel 11 (by omega)) e11.symm
        exact ⟨a0 _ _ r0, a0 _ _ r1, a0 _ _ r2, a0 _ _ r3, a0 _ _ r4, a0 _ _ r5⟩
      · obtain ⟨r0, r1, r2, r3, r4, r5⟩ := row104 (o := 12 * 6) (show DataW.trod _ Tryd.prog W 0 _ _ m0 111 ((cs0.toList.drop (12 * 6)).take 6) = some x12 from hel 12 (by omega)) e12.symm
        exact ⟨a0 _ _ r0, a0 _ _ r1, a0 _ _ r2, a0 _ _ r3, a0 _ _ r4, a0 _ _ r5⟩
      · obtain ⟨r0, r1, r2, r3, r4, r5⟩ := row104 (o := 13 * 6) (show DataW.trod _ Tryd.prog W 0 _ _ m0 111 ((cs0.toList.drop (13 * 6)).take 6) = some x13 from hel 13 (by omega)) e13.symm
        exact ⟨a0 _ _ r0, a0 _ _ r1, a0 _ _ r2, a0 _ _ r3, a0 _ _ r4, a0 _ _ r5⟩
      · obtain ⟨r0, r1, r2, r3, r4, r5⟩ := row104 (o := 14 * 6) (show DataW.trod _ Tryd.prog W 0 _ _ m0 111 ((cs0.toList.drop (14 * 6)).take 6) = some x14 from hel 14 (by omega)) e14.symm
        exact ⟨a0 _ _ r0, a0 _ _ r1, a0 _ _ r2, a0 _ _ r3, a0 _ _ r4, a0 _ _ r5⟩
      · obtain ⟨r0, r1, r2, r3, r4, r5⟩ := row104 (o := 15 * 6) (show DataW.trod _ Tryd.prog W 0 _ _ m0 111 ((cs0.toList.drop (15 * 6)).take 6) = some x15 from hel 15 (by omega)) e15.symm
        exact ⟨a0 _ _ r0, a0 _ _ r1, a0 _ _ r2, a0 _ _ r3, a0 _ _ r4, a0 _ _ r5⟩
      · obtain ⟨r0, r1, r2, r3, r4, r5⟩ := row104 (o := 16 * 6) (show DataW.trod _ Tryd.prog W 0 _ _ m0 111 ((cs0.toList.drop (16 * 6)).take 6) = some x16 from hel 16 (by omega)) e16.symm
        exact ⟨a0 _ _ r0, a0 _ _ r1, a0 _ _ r2, a0 _ _ r3, a0 _ _ r4, a0 _ _ r5⟩
      · obtain ⟨r0, r1, r2, r3, r4, r5⟩ := row104 (o := 17 * 6) (show DataW.trod _ Tryd.prog W 0 _ _ m0 111 ((cs0.toList.drop (17 * 6)).take 6) = some x17 from hel 17 (by omega)) e17.symm
        exact ⟨a0 _ _ r0, a0 _ _ r1, a0 _ _ r2, a0 _ _ r3, a0 _ _ r4, a0 _ _ r5⟩
      · obtain ⟨r0, r1, r2, r3, r4, r5⟩ := row104 (o := 18 * 6) (show DataW.trod _ Tryd.prog W 0 _ _ m0 111 ((cs0.toList.drop (18 * 6)).take 6) = some x18 from hel 18 (by omega)) e18.symm
        exact ⟨a0 _ _ r0, a0 _ _ r1, a0 _ _ r2, a0 _ _ r3, a0 _ _ r4, a0 _ _ r5⟩
  · have a1 : ∀ j u, cs1.toList[j]? = some u → W.cell? ⟨0, j, none⟩ = some u := fun j u hu => by rw [c1]; simpa using hu
    obtain ⟨xs, n1, rfl, hx, -, hlen, hf⟩ := DataW.trod_struct Tryd.underlying35 hd1
    match xs, hlen with
    | [y0, y1, y2], _ =>
      simp only [Rows.laid_punctual_punctuallaw_noIns, Prod.mk.injEq, DataW.agg.injEq, List.map_cons, List.map_nil, List.cons.injEq, and_true] at hx
      obtain ⟨⟨e0, e1, e2⟩, -⟩ := hx
      have f0 : DataW.trod _ Tryd.prog W 0 _ _ n1 3 ((cs1.toList.drop 0).take (Tryd.prog.cellsOf 3)) = some y0 := hf 0 _ rfl
      have f1 : DataW.trod _ Tryd.prog W 0 _ _ n1 3 ((cs1.toList.drop 1).take (Tryd.prog.cellsOf 3)) = some y1 := hf 1 _ rfl
      have f2 : DataW.trod _ Tryd.prog W 0 _ _ n1 3 ((cs1.toList.drop 2).take (Tryd.prog.cellsOf 3)) = some y2 := hf 2 _ rfl
      rw [laidCells3] at f0 f1 f2
      exact ⟨a1 _ _ (int_one f0 e0.symm), a1 _ _ (int_one f1 e1.symm), a1 _ _ (int_one f2 e2.symm)⟩
end Go.Proofs.YtgemadoieielcacDoor
namespace Go.Proofs.YtgemadoieielcacDoor
open Go.ChangeShapes Go.WideShapes Go.ChangeAt Go.RowKit

/-- The open region, the outermost first, that such an instruction has opened. -/
def opens (l : List In) (os : List Nat) (op a : Int) : Option Nat := os.find? fun o => decide ((l.getD o in0).op = op) && decide ((l.getD o in0).a = a)

def beginOf : Option Nat → Int
  | some o => (o : Int) + 1
  | none => 0

theorem opens_yes {l : List In} {z : Nat} {r : List Nat} {op a : Int} (h : (l.getD z in0).op = op ∧ (l.getD z in0).a = a) : opens l (z :: r) op a = some z := by
  unfold opens
  rw [List.find?_cons_of_pos (by simpa using h)]

theorem opens_no {l : List In} {z : Nat} {r : List Nat} {op a : Int} (h : ¬ ((l.getD z in0).op = op ∧ (l.getD z in0).a = a)) : opens l (z :: r) op a = opens l r op a := by
  unfold opens
  rw [List.find?_cons_of_neg (by simpa using h)]

/-- What the looks at regions know: a block of three slices. -/
structure RgAt (w : World) (rb : Nat) (l : List In) (os : List Nat) (iv ov nv : Value) : Prop where
  blk : w.heap[rb]? = some (.cells #[iv, ov, nv] 129 (0, 0))
  img : InSl w l iv
  opn : ∃ ad c, ov = .slice ad os.length c ∧ (os = [] ∨ ∃ b o, ad = some ⟨b, o, none⟩ ∧ ∀ j, j < os.length → w.cell? ⟨b, o + j, none⟩ = some (.int .i64 ((os.getD j 0 : Nat) + 1)))
  low : ∀ o ∈ os, o < l.length

theorem cells_of {w : World} {g : Nat} {l : List Value} {T : TypeId} (h : w.heap[g]? = some (.cells l.toArray T (0, 0))) : (∀ j u, l[j]? = some u → w.cell? ⟨g, j, none⟩ = some u) ∧ (∀ j, w.frozen? ⟨g, j, none⟩ = false) ∧ g < w.heap.size := by
  refine ⟨fun j u hj => ?_, fun j => ?_, (Array.getElem?_eq_some_iff.1 h).1⟩
  · unfold World.cell?; rw [h]; simpa using hj
  · unfold World.frozen?; rw [h]; simp

set_option maxRecDepth 20000 in
set_option maxHeartbeats 4000000 in
theorem innermost_any (w : World) (rb : Nat) (l : List In) (os : List Nat) (iv ov nv : Value) (h : RgAt w rb l os iv ov nv) (ho : os.length ≤ 4194304) :
    Calls Tryd.prog 101 #[.pointer (some ⟨rb, 0, none⟩)] w fun r w' => r = .returned (.int .i64 (beginOf os.getLast?)) ∧ Below w.heap.size w w' := by
  obtain ⟨ad, c, rfl, hrow⟩ := h.opn
  obtain ⟨cs, fs, lt⟩ := cells_of (l := [_, _, _]) h.blk
  have c1 := cs 1 _ rfl
  clear cs fs
  by_cases h0 : os = []
  · subst h0
    clear hrow
    go_enter Tryd.func101, Tryd.ntmps101
    go_wp2_with fail
    go_ret
    exact ⟨rfl, Below.refl _ _⟩
  · rcases hrow with h1 | ⟨b, o, rfl, hrow⟩
    · exact absurd h1 h0
    have hpos : 0 < os.length := List.length_pos_iff.2 h0
    have hlast : os.getLast? = some (os.getD (os.length - 1) 0) := by
      rw [List.getLast?_eq_getElem?, List.getD_eq_getElem?_getD, List.getElem?_eq_getElem (by omega)]
      rfl
    have k := hrow (os.length - 1) (by omega)
    rw [hlast]
    show Calls _ _ _ _ fun r w' => r = .returned (.int .i64 ((os.getD (os.length - 1) 0 : Nat) + 1)) ∧ _
    have hne : ¬ ((os.length : Int) = 0) := by omega
    have hnb : ((os.length : Int) == 0) = false := by simpa using hne
    generalize ((os.getD (os.length - 1) 0 : Nat) : Int) + 1 = z at *
    clear hrow hlast
    generalize hn : os.length = n at *
    obtain ⟨n', rfl⟩ : ∃ n', n = n' + 1 := ⟨n - 1, by omega⟩
    simp only [Nat.add_sub_cancel] at k
    go_enter Tryd.func101, Tryd.ntmps101
    go_wp2_with fail
    go_region
    go_wp2_with fail
    go_ret
    exact ⟨rfl, (Below.refl _ _).drew⟩

set_option maxRecDepth 20000 in
set_option maxHeartbeats 4000000 in
theorem begins_any (w : World) (rb : Nat) (l : List In) (os : List Nat) (iv ov nv : Value) (op a : Int) (h : RgAt w rb l os iv ov nv) (hl : l.length ≤ 4194304) (ho : os.length ≤ 4194304) :
    Calls Tryd.prog 102 #[.pointer (some ⟨rb, 0, none⟩), .int .i64 op, .int .i64 a] w fun r w' => r = .returned (.int .i64 (beginOf (opens l os op a))) ∧ Below w.heap.size w w' := by
  have HR : Hid (RgAt w rb l os iv ov nv) := h
  obtain ⟨ad, c, rfl, hrow⟩ := h.opn
  obtain ⟨iad, ic, rfl, himg⟩ := h.img
  obtain ⟨cs, fs, lt⟩ := cells_of (l := [_, _, _]) h.blk
  have c0 := cs 0 _ rfl
  have c1 := cs 1 _ rfl
  have HI : Hid (_ ∧ _) := ⟨hrow, himg⟩
  have HC : Hid (_ ∧ _) := ⟨c0, c1⟩
  clear cs fs hrow himg h c0
  obtain ⟨res, hres⟩ : ∃ res, beginOf (opens l os op a) = res := ⟨_, rfl⟩
  rw [hres]
  have HS : Hid (beginOf (opens l os op a) = res) := hres
  clear hres
  go_enter Tryd.func102, Tryd.ntmps102
  go_wp2_with fail
  go_loopw [8, 9, 15] (fun _ _ i wr => ∃ j : Nat, j ≤ os.length ∧ i = .int .i64 j ∧ opens l (os.drop j) op a = opens l os op a ∧ Below w.heap.size w wr) (fun _ _ i _ => os.length - (intOf i).toNat)
  case atStart => exact ⟨0, Nat.zero_le _, rfl, rfl, Below.refl _ _⟩
  case round =>
    obtain ⟨j, hj, rfl, hop, hb⟩ := hrel
    by_cases hlt : j < os.length
    · rcases HI.out.1 with h | ⟨b, o, had, hrow⟩
      · rw [h] at hlt; simp at hlt
      subst had
      have hmem : os.getD j 0 ∈ os := by rw [List.getD_eq_getElem?_getD, List.getElem?_eq_getElem hlt]; exact List.getElem_mem hlt
      have hlow := HR.out.low _ hmem
      rcases HI.out.2 with h | ⟨b', o', had', himg⟩
      · rw [h] at hlow; simp at hlow
      subst had'
      have k := below_cell hb (hrow j hlt)
      have q0 := below_cell hb (himg _ hlow).1
      have q1 := below_cell hb (himg _ hlow).2.1
      have q2 := below_cell hb (himg _ hlow).2.2
      have c0 := below_cell hb HC.out.1
      have hdrop : os.drop j = os.getD j 0 :: os.drop (j + 1) := by
        rw [List.getD_eq_getElem?_getD, List.getElem?_eq_getElem hlt]
        exact List.drop_eq_getElem_cons hlt
      rw [hdrop] at hop
      generalize os.getD j 0 = z at *
      have HO : Hid (opens l (z :: os.drop (j + 1)) op a = opens l os op a ∧ Below w.heap.size w wr) := ⟨hop, hb⟩
      clear hop hb hrow himg hdrop hmem
      have HY : Hid (((l.getD z in0).op = op ∧ (l.getD z in0).a = a → res = (z : Int) + 1) ∧ (¬ ((l.getD z in0).op = op ∧ (l.getD z in0).a = a) → opens l (os.drop (j + 1)) op a = opens l os op a)) := ⟨fun h => by rw [← HS.out, ← HO.out.1, opens_yes h]; rfl, fun h => by rw [← HO.out.1, opens_no h]⟩
      generalize l.getD z in0 = y at *
      obtain ⟨yo, ya, yb⟩ := y
      dsimp only at q0 q1 q2
      by_cases e1 : yo = op
      · subst e1
        by_cases e2 : ya = a
        · subst e2
          have e := HY.out.1 ⟨rfl, rfl⟩
          subst e
          go_wp2_with fail
          go_ret
          exact ⟨rfl, HO.out.2.alloc HO.out.2.size _⟩
        · have f2 : (ya == a) = false := by simpa using e2
          go_wp2_with fail
          go_roundw
          case rel => exact ⟨j + 1, by omega, by go_num, HY.out.2 (fun h => e2 h.2), HO.out.2.alloc HO.out.2.size _⟩
          case measure => simp [intOf]; omega
      · have f1 : (yo == op) = false := by simpa using e1
        go_wp2_with fail
        go_roundw
        case rel => exact ⟨j + 1, by omega, by go_num, HY.out.2 (fun h => e1 h.1), HO.out.2.alloc HO.out.2.size _⟩
        case measure => simp [intOf]; omega
    · have hje : j = os.length := by omega
      subst hje
      have e : res = 0 := by rw [← HS.out, ← hop, List.drop_length]; rfl
      subst e
      go_wp2_with fail
      go_ret
      exact ⟨rfl, hb⟩

set_option maxRecDepth 20000 in
set_option maxHeartbeats 4000000 in
theorem ofRegion_any (w : World) (op : Int) : Calls Tryd.prog 103 #[.int .i64 op] w fun r w' => r = .returned (.int .i64 (if op = 13 then 9 else 10)) ∧ w' = w := by
  by_cases h : op = 13
  · subst h
    go_enter Tryd.func103, Tryd.ntmps103
    go_wp2_with fail
    go_ret
    exact ⟨rfl, rfl⟩
  · rw [if_neg h]
    have hb : (op == 13) = false := by simpa using h
    go_enter Tryd.func103, Tryd.ntmps103
    go_wp2_with fail
    go_ret
    exact ⟨rfl, rfl⟩

theorem F_any (e k : Int) (w : World) : Calls Tryd.prog 25 #[.int .i64 e, .int .i64 k] w fun r w' => r = .returned (.agg #[.int .i64 e, .int .i64 k]) ∧ Below w.heap.size w w' := by
  go_enter Tryd.func25, Tryd.ntmps25
  go_wp2
  exact bodyPost_ret (v := .agg #[.int .i64 e, .int .i64 k]) (by simp [results, Tryd.results25, go_sem]) rfl ⟨rfl, (Below.refl _ _).alloc (Nat.le_refl _) _⟩

/-- A slice of positions, one more than each. -/
def PosSl (w : World) (os : List Nat) (v : Value) : Prop := ∃ ad c, v = .slice ad os.length c ∧ (os = [] ∨ ∃ b o, ad = some ⟨b, o, none⟩ ∧ ∀ j, j < os.length → w.cell? ⟨b, o + j, none⟩ = some (.int .i64 ((os.getD j 0 : Nat) + 1)))

set_option maxRecDepth 20000 in
set_option maxHeartbeats 4000000 in
/-- slices.Index, of a position: is it there? -/
theorem index_any (w : World) (os : List Nat) (v : Value) (at_ : Nat) (h : PosSl w os v) (ho : os.length ≤ 4194304) :
    Calls Tryd.prog 133 #[v, .int .i64 ((at_ : Int) + 1)] w fun r w' => (∃ z : Int, r = .returned (.int .i64 z) ∧ (at_ ∈ os → 0 ≤ z) ∧ (at_ ∉ os → z < 0)) ∧ Below w.heap.size w w' := by
  obtain ⟨ad, c, rfl, hrow⟩ := h
  have HI : Hid _ := hrow
  clear hrow
  go_enter Tryd.func133, Tryd.ntmps133
  go_wp2_with fail
  go_loopw [5, 8] (fun _ i wr => ∃ j : Nat, j ≤ os.length ∧ i = .int .i64 j ∧ at_ ∉ os.take j ∧ Below w.heap.size w wr) (fun _ i _ => os.length - (intOf i).toNat)
  case atStart => exact ⟨0, Nat.zero_le _, rfl, by simp, Below.refl _ _⟩
  case round =>
    obtain ⟨j, hj, rfl, hno, hb⟩ := hrel
    by_cases hlt : j < os.length
    · rcases HI.out with h | ⟨b, o, had, hrow⟩
      · rw [h] at hlt; simp at hlt
      subst had
      have k := below_cell hb (hrow j hlt)
      have hg : os.getD j 0 = os[j] := by rw [List.getD_eq_getElem?_getD, List.getElem?_eq_getElem hlt]; rfl
      have htake : os.take (j + 1) = os.take j ++ [os.getD j 0] := by rw [hg]; exact List.take_succ_eq_append_getElem hlt
      have hmem : os.getD j 0 ∈ os := by rw [hg]; exact List.getElem_mem hlt
      have HT : Hid ((os.getD j 0 ∈ os ∧ os.take (j + 1) = os.take j ++ [os.getD j 0]) ∧ at_ ∉ os.take j ∧ Below w.heap.size w wr) := ⟨⟨hmem, htake⟩, hno, hb⟩
      clear hrow hg htake hmem hno hb
      generalize os.getD j 0 = z at *
      by_cases e : at_ = z
      · subst e
        have f : (((at_ : Int) + 1) == ((at_ : Int) + 1)) = true := by simp
        go_wp2_with fail
        go_ret
        exact ⟨⟨j, rfl, fun _ => by omega, fun h => absurd HT.out.1.1 h⟩, HT.out.2.2⟩
      · have e' : ¬ ((at_ : Int) + 1 = (z : Int) + 1) := by omega
        have e'' : ¬ ((at_ : Int) = (z : Int)) := by omega
        have f : (((at_ : Int) + 1) == ((z : Int) + 1)) = false := by simpa using e''
        go_wp2_with fail
        go_roundw
        case rel => exact ⟨j + 1, by omega, by go_num, by rw [HT.out.1.2]; simp [e, HT.out.2.1], HT.out.2.2⟩
        case measure => simp [intOf]; omega
    · have hje : j = os.length := by omega
      subst hje
      rw [List.take_length] at hno
      go_wp2_with fail
      go_ret
      exact ⟨⟨-1, rfl, fun h => absurd h hno, fun _ => by omega⟩, hb⟩

set_option maxRecDepth 20000 in
set_option maxHeartbeats 4000000 in
/-- slices.Contains, of a position. -/
theorem contains_any (w : World) (os : List Nat) (v : Value) (at_ : Nat) (h : PosSl w os v) (ho : os.length ≤ 4194304) :
    Calls Tryd.prog 104 #[v, .int .i64 ((at_ : Int) + 1)] w fun r w' => r = .returned (.bool (decide (at_ ∈ os))) ∧ Below w.heap.size w w' := by
  have HI : Hid (PosSl w os v) := h
  obtain ⟨ad, c, rfl, -⟩ := h
  obtain ⟨res, hres⟩ : ∃ res, decide (at_ ∈ os) = res := ⟨_, rfl⟩
  rw [hres]
  have HS : Hid (decide (at_ ∈ os) = res) := hres
  clear hres
  go_enter Tryd.func104, Tryd.ntmps104
  go_wp2_with (go_at_call 133; refine (index_any w os _ at_ HI.out ho).mono ?_; rintro r w1 ⟨⟨z, rfl, h1, h2⟩, hb⟩; have H1 : Hid ((at_ ∈ os → 0 ≤ z) ∧ (at_ ∉ os → z < 0) ∧ Below w.heap.size w w1) := ⟨h1, h2, hb⟩; clear h1 h2 hb)
  go_ret
  refine ⟨?_, H1.out.2.2⟩
  have e : decide (0 ≤ z) = res := by
    rw [← HS.out]
    by_cases hm : at_ ∈ os
    · have := H1.out.1 hm; simp [hm, this]
    · have := H1.out.2.1 hm; simp [hm]; omega
  exact congrArg (fun b => Ending.returned (Value.bool b)) e
end Go.Proofs.YtgemadoieielcacDoor
