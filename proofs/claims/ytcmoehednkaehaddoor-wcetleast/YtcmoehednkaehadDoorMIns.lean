import Derived.Test.YtcmoehednkaehadDoorRows
import Derived.WalkKit
import Derived.ProofKit
import Derived.OpenShut
import Derived.Handy
import Derived.Deep.QuietTactic
import Derived.BigQuiet
import Derived.Deep.RegionHeld3
namespace Go.Proofs.YtcmoehednkaehadDoor
open Go.ChangeShapes Go.WideShapes Go.ChangeAt Go.RowKit

/-- An instruction. -/
structure In where
  op : Int
  a : Int
  b : Int

def In.val (x : In) : Value := .agg #[.int .i64 x.op, .int .i64 x.a, .int .i64 x.b]

def in0 : In := ⟨0, 0, 0⟩

theorem below_cell {w w' : World} (hb : Below w.heap.size w w') {p : Addr} {v : Value} (h : w.cell? p = some v) : w'.cell? p = some v :=
  (hb.cell (World.block_lt_of_cell? w p h)).trans h

theorem below_seq {a b c : World} (h : Below a.heap.size a b) (h' : Below b.heap.size b c) : Below a.heap.size a c := h.trans (h'.mono h.size)

theorem below_new (w : World) (o : Obj) : Below w.heap.size w (w.alloc o) := (Below.refl _ w).alloc (Nat.le_refl _) o

/-- A slice of instructions, wherever. -/
def InSl (w : World) (l : List In) (v : Value) : Prop := ∃ ad c, v = .slice ad l.length c ∧ (l = [] ∨ ∃ b o, ad = some ⟨b, o, none⟩ ∧ ∀ j, j < l.length → w.cell? ⟨b, o + j * 3, none⟩ = some (.int .i64 (l.getD j in0).op) ∧ w.cell? ⟨b, o + j * 3 + 1, none⟩ = some (.int .i64 (l.getD j in0).a) ∧ w.cell? ⟨b, o + j * 3 + 2, none⟩ = some (.int .i64 (l.getD j in0).b))

theorem InSl.below {w w' : World} {l : List In} {v : Value} (h : InSl w l v) (hb : Below w.heap.size w w') : InSl w' l v := by
  obtain ⟨ad, c, h1, h2⟩ := h
  refine ⟨ad, c, h1, ?_⟩
  rcases h2 with h2 | ⟨b, o, h2, h3⟩
  · exact .inl h2
  · exact .inr ⟨b, o, h2, fun j hj => ⟨below_cell hb (h3 j hj).1, below_cell hb (h3 j hj).2.1, below_cell hb (h3 j hj).2.2⟩⟩

/- The table of kinds: the least A, the greatest A, the greatest B, what is taken, what is put. -/
def lowA (m : Nat) : Int := if m = 18 then 1 else 0
def highA (m : Nat) : Int := [0, 999999999, 7, 7, 0, 0, 0, 0, 0, 3, 3, 2000, 2000, 7, 7, 7, 3, 3, 1000].getD m 0
def highB (m : Nat) : Int := if m = 13 then 1000 else if m = 14 then 2000 else 0
def takesOf (m : Nat) : Int := [0, 0, 0, 1, 2, 2, 2, 2, 2, 0, 1, 0, 1, 0, 0, 0, 0, 0, 0].getD m 0
def putsOf (m : Nat) : Int := [0, 1, 1, 0, 1, 1, 1, 1, 1, 1, 0, 0, 0, 0, 0, 0, 0, 0, 0].getD m 0
def tickOf (m : Nat) : Int := [0, 1, 1, 1, 1, 1, 3, 1, 1, 2, 2, 2, 1, 1, 1, 1, 1, 1, 0].getD m 0

def KindsIn (w : World) : Prop := ∀ m : Nat, 1 ≤ m → m ≤ 18 → w.cell? ⟨2, m * 6, none⟩ = some (.int .i64 (lowA m)) ∧ w.cell? ⟨2, m * 6 + 1, none⟩ = some (.int .i64 (highA m)) ∧ w.cell? ⟨2, m * 6 + 2, none⟩ = some (.int .i64 (highB m)) ∧ w.cell? ⟨2, m * 6 + 3, none⟩ = some (.int .i64 (takesOf m)) ∧ w.cell? ⟨2, m * 6 + 4, none⟩ = some (.int .i64 (putsOf m)) ∧ w.cell? ⟨2, m * 6 + 5, none⟩ = some (.int .i64 (tickOf m))

theorem KindsIn.below {w w' : World} (h : KindsIn w) (hb : Below w.heap.size w w') : KindsIn w' := fun m h1 h2 =>
  ⟨below_cell hb (h m h1 h2).1, below_cell hb (h m h1 h2).2.1, below_cell hb (h m h1 h2).2.2.1, below_cell hb (h m h1 h2).2.2.2.1, below_cell hb (h m h1 h2).2.2.2.2.1, below_cell hb (h m h1 h2).2.2.2.2.2⟩

/-- What is wrong with an instruction by itself. -/
def formErr (x : In) : Int := if x.op < 1 ∨ 18 < x.op then 6 else if x.a < lowA x.op.toNat ∨ highA x.op.toNat < x.a ∨ x.b < 0 ∨ highB x.op.toNat < x.b then 3 else 0

set_option maxRecDepth 20000 in
set_option maxHeartbeats 4000000 in
theorem isIns_no (w : World) (op a b : Int) (h : op < 1 ∨ 18 < op) : Calls Tryd.prog 81 #[.agg #[.int .i64 op, .int .i64 a, .int .i64 b]] w fun r w' => r = .returned (.bool false) ∧ Below w.heap.size w w' := by
  rcases h with h | h
  · go_enter Tryd.func81, Tryd.ntmps81
    go_wp2_with fail
    go_ret
    exact ⟨rfl, below_new _ _⟩
  · have h1 : 1 ≤ op := by omega
    have h2 : ¬ op ≤ 18 := by omega
    have e1 : decide (1 ≤ op) = true := by simpa using h1
    have e2 : decide (op ≤ 18) = false := by simpa using h
    go_enter Tryd.func81, Tryd.ntmps81
    go_wp2_with fail
    go_ret
    exact ⟨rfl, below_new _ _⟩

set_option maxRecDepth 20000 in
set_option maxHeartbeats 4000000 in
theorem isIns_yes (w : World) (op a b : Int) (h1 : 1 ≤ op) (h2 : op ≤ 18) : Calls Tryd.prog 81 #[.agg #[.int .i64 op, .int .i64 a, .int .i64 b]] w fun r w' => r = .returned (.bool true) ∧ Below w.heap.size w w' := by
  have e1 : decide (1 ≤ op) = true := by simpa using h1
  have e2 : decide (op ≤ 18) = true := by simpa using h2
  go_enter Tryd.func81, Tryd.ntmps81
  go_wp2_with fail
  go_ret
  exact ⟨rfl, below_new _ _⟩
end Go.Proofs.YtcmoehednkaehadDoor
