import Derived.Test.YtcejfmmcdagnoacDoorRows
import Derived.WalkKit
import Derived.ProofKit
import Derived.OpenShut
import Derived.Handy
import Derived.Deep.QuietTactic
import Derived.BigQuiet
import Derived.Deep.RegionHeld3
namespace Go.Proofs.YtcejfmmcdagnoacDoor
open Go.ChangeShapes Go.WideShapes Go.ChangeAt Go.RowKit

theorem gKinds : Tryd.prog.globalNamed "punctual/mach.kinds" = some 1 := by kernel_rfl

def tickOf (m : Nat) : Int := [0, 1, 1, 1, 1, 1, 3, 1, 1, 2, 2, 2, 1, 1, 1, 1, 1, 1, 0].getD m 0

/-- The ticks in the table of the instructions' kinds. -/
def KindsIn (w : World) : Prop := ∀ m : Nat, 1 ≤ m → m ≤ 18 → w.cell? ⟨1, m * 6 + 5, none⟩ = some (.int .i64 (tickOf m))

theorem below_cell {w w' : World} (hb : Below w.heap.size w w') {p : Addr} {v : Value} (h : w.cell? p = some v) : w'.cell? p = some v :=
  (hb.cell (World.block_lt_of_cell? w p h)).trans h

theorem below_seq {a b c : World} (h : Below a.heap.size a b) (h' : Below b.heap.size b c) : Below a.heap.size a c := h.trans (h'.mono h.size)

theorem KindsIn.below {w w' : World} (h : KindsIn w) (hb : Below w.heap.size w w') : KindsIn w' := fun m h1 h2 => below_cell hb (h m h1 h2)

def costOf (op a : Int) (ov : Bool) : Int :=
  if op < 1 ∨ 18 < op then 1 else if op = 18 then a else if (op = 12 ∨ op = 14) ∧ ov = true then 2 else tickOf op.toNat

theorem below_new (w : World) (o : Obj) : Below w.heap.size w (w.alloc o) := (Below.refl _ w).alloc (Nat.le_refl _) o

set_option maxRecDepth 20000 in
set_option maxHeartbeats 4000000 in
theorem isIns_no (w : World) (op a b : Int) (h : op < 1 ∨ 18 < op) : Calls Tryd.prog 41 #[.agg #[.int .i64 op, .int .i64 a, .int .i64 b]] w fun r w' => r = .returned (.bool false) ∧ Below w.heap.size w w' := by
  rcases h with h | h
  · go_enter Tryd.func41, Tryd.ntmps41
    go_wp2_with fail
    go_ret
    exact ⟨rfl, below_new _ _⟩
  · have h1 : 1 ≤ op := by omega
    have h2 : ¬ op ≤ 18 := by omega
    have e1 : decide (1 ≤ op) = true := by simpa using h1
    have e2 : decide (op ≤ 18) = false := by simpa using h
    go_enter Tryd.func41, Tryd.ntmps41
    go_wp2_with fail
    go_ret
    exact ⟨rfl, below_new _ _⟩

set_option maxRecDepth 20000 in
set_option maxHeartbeats 4000000 in
theorem isIns_yes (w : World) (op a b : Int) (h1 : 1 ≤ op) (h2 : op ≤ 18) : Calls Tryd.prog 41 #[.agg #[.int .i64 op, .int .i64 a, .int .i64 b]] w fun r w' => r = .returned (.bool true) ∧ Below w.heap.size w w' := by
  have e1 : decide (1 ≤ op) = true := by simpa using h1
  have e2 : decide (op ≤ 18) = true := by simpa using h2
  go_enter Tryd.func41, Tryd.ntmps41
  go_wp2_with fail
  go_ret
  exact ⟨rfl, below_new _ _⟩

set_option maxRecDepth 20000 in
set_option maxHeartbeats 4000000 in
theorem Cost_no (w : World) (op a b : Int) (ov : Bool) (h : op < 1 ∨ 18 < op) : Calls Tryd.prog 25 #[.agg #[.int .i64 op, .int .i64 a, .int .i64 b], .bool ov] w fun r w' => r = .returned (.int .i64 1) ∧ Below w.heap.size w w' := by
  go_enter Tryd.func25, Tryd.ntmps25
  go_wp2_with (go_at_call 41; refine (isIns_no _ op a b h).mono ?_; rintro r w1 ⟨rfl, hb1⟩; have H1 : Hid (Below _ _ w1) := hb1; clear hb1)
  go_ret
  exact ⟨rfl, below_seq (below_new _ _) H1.out⟩

set_option maxRecDepth 20000 in
set_option maxHeartbeats 4000000 in
theorem Cost_1 (w : World) (hk : KindsIn w) (a b : Int) (ov : Bool) : Calls Tryd.prog 25 #[.agg #[.int .i64 1, .int .i64 a, .int .i64 b], .bool ov] w fun r w' => r = .returned (.int .i64 1) ∧ Below w.heap.size w w' := by
  have H0 : Hid (KindsIn w) := hk
  clear hk
  go_enter Tryd.func25, Tryd.ntmps25
  go_wp2_with (go_at_call 41; refine (isIns_yes _ 1 a b (by decide) (by decide)).mono ?_; rintro r w1 ⟨rfl, hb1⟩; have H1 : Hid (Below w.heap.size w w1) := below_seq (below_new _ _) hb1; have c0 : w1.cell? ⟨w.heap.size, 0, none⟩ = some (.int .i64 1) := below_cell hb1 (by go_simp); have c1 : w1.cell? ⟨w.heap.size, 1, none⟩ = some (.int .i64 a) := below_cell hb1 (by go_simp); have c2 : w1.cell? ⟨w.heap.size, 2, none⟩ = some (.int .i64 b) := below_cell hb1 (by go_simp); have k : w1.cell? ⟨1, 11, none⟩ = some (.int .i64 1) := below_cell H1.out (H0.out 1 (by decide) (by decide)); clear hb1)
  go_ret
  exact ⟨rfl, H1.out⟩

set_option maxRecDepth 20000 in
set_option maxHeartbeats 4000000 in
theorem Ticks_1 (w : World) (a b : Int) (ov : Bool) : Calls Tryd.prog 26 #[.agg #[.int .i64 1, .int .i64 a, .int .i64 b], .bool ov] w fun r w' => r = .returned (.int .i64 1) ∧ Below w.heap.size w w' := by
  cases ov with
  | false =>
    go_enter Tryd.func26, Tryd.ntmps26
    go_wp2_with fail
    go_ret
    exact ⟨rfl, below_new _ _⟩
  | true =>
    go_enter Tryd.func26, Tryd.ntmps26
    go_wp2_with fail
    go_ret
    exact ⟨rfl, below_new _ _⟩

set_option maxRecDepth 20000 in
set_option maxHeartbeats 4000000 in
theorem Cost_2 (w : World) (hk : KindsIn w) (a b : Int) (ov : Bool) : Calls Tryd.prog 25 #[.agg #[.int .i64 2, .int .i64 a, .int .i64 b], .bool ov] w fun r w' => r = .returned (.int .i64 1) ∧ Below w.heap.size w w' := by
  have H0 : Hid (KindsIn w) := hk
  clear hk
  go_enter Tryd.func25, Tryd.ntmps25
  go_wp2_with (go_at_call 41; refine (isIns_yes _ 2 a b (by decide) (by decide)).mono ?_; rintro r w1 ⟨rfl, hb1⟩; have H1 : Hid (Below w.heap.size w w1) := below_seq (below_new _ _) hb1; have c0 : w1.cell? ⟨w.heap.size, 0, none⟩ = some (.int .i64 2) := below_cell hb1 (by go_simp); have c1 : w1.cell? ⟨w.heap.size, 1, none⟩ = some (.int .i64 a) := below_cell hb1 (by go_simp); have c2 : w1.cell? ⟨w.heap.size, 2, none⟩ = some (.int .i64 b) := below_cell hb1 (by go_simp); have k : w1.cell? ⟨1, 17, none⟩ = some (.int .i64 1) := below_cell H1.out (H0.out 2 (by decide) (by decide)); clear hb1)
  go_ret
  exact ⟨rfl, H1.out⟩

set_option maxRecDepth 20000 in
set_option maxHeartbeats 4000000 in
theorem Ticks_2 (w : World) (a b : Int) (ov : Bool) : Calls Tryd.prog 26 #[.agg #[.int .i64 2, .int .i64 a, .int .i64 b], .bool ov] w fun r w' => r = .returned (.int .i64 1) ∧ Below w.heap.size w w' := by
  cases ov with
  | false =>
    go_enter Tryd.func26, Tryd.ntmps26
    go_wp2_with fail
    go_ret
    exact ⟨rfl, below_new _ _⟩
  | true =>
    go_enter Tryd.func26, Tryd.ntmps26
    go_wp2_with fail
    go_ret
    exact ⟨rfl, below_new _ _⟩

set_option maxRecDepth 20000 in
set_option maxHeartbeats 4000000 in
theorem Cost_3 (w : World) (hk : KindsIn w) (a b : Int) (ov : Bool) : Calls Tryd.prog 25 #[.agg #[.int .i64 3, .int .i64 a, .int .i64 b], .bool ov] w fun r w' => r = .returned (.int .i64 1) ∧ Below w.heap.size w w' := by
  have H0 : Hid (KindsIn w) := hk
  clear hk
  go_enter Tryd.func25, Tryd.ntmps25
  go_wp2_with (go_at_call 41; refine (isIns_yes _ 3 a b (by decide) (by decide)).mono ?_; rintro r w1 ⟨rfl, hb1⟩; have H1 : Hid (Below w.heap.size w w1) := below_seq (below_new _ _) hb1; have c0 : w1.cell? ⟨w.heap.size, 0, none⟩ = some (.int .i64 3) := below_cell hb1 (by go_simp); have c1 : w1.cell? ⟨w.heap.size, 1, none⟩ = some (.int .i64 a) := below_cell hb1 (by go_simp); have c2 : w1.cell? ⟨w.heap.size, 2, none⟩ = some (.int .i64 b) := below_cell hb1 (by go_simp); have k : w1.cell? ⟨1, 23, none⟩ = some (.int .i64 1) := below_cell H1.out (H0.out 3 (by decide) (by decide)); clear hb1)
  go_ret
  exact ⟨rfl, H1.out⟩

set_option maxRecDepth 20000 in
set_option maxHeartbeats 4000000 in
theorem Ticks_3 (w : World) (a b : Int) (ov : Bool) : Calls Tryd.prog 26 #[.agg #[.int .i64 3, .int .i64 a, .int .i64 b], .bool ov] w fun r w' => r = .returned (.int .i64 1) ∧ Below w.heap.size w w' := by
  cases ov with
  | false =>
    go_enter Tryd.func26, Tryd.ntmps26
    go_wp2_with fail
    go_ret
    exact ⟨rfl, below_new _ _⟩
  | true =>
    go_enter Tryd.func26, Tryd.ntmps26
    go_wp2_with fail
    go_ret
    exact ⟨rfl, below_new _ _⟩

set_option maxRecDepth 20000 in
set_option maxHeartbeats 4000000 in
theorem Cost_4 (w : World) (hk : KindsIn w) (a b : Int) (ov : Bool) : Calls Tryd.prog 25 #[.agg #[.int .i64 4, .int .i64 a, .int .i64 b], .bool ov] w fun r w' => r = .returned (.int .i64 1) ∧ Below w.heap.size w w' := by
  have H0 : Hid (KindsIn w) := hk
  clear hk
  go_enter Tryd.func25, Tryd.ntmps25
  go_wp2_with (go_at_call 41; refine (isIns_yes _ 4 a b (by decide) (by decide)).mono ?_; rintro r w1 ⟨rfl, hb1⟩; have H1 : Hid (Below w.heap.size w w1) := below_seq (below_new _ _) hb1; have c0 : w1.cell? ⟨w.heap.size, 0, none⟩ = some (.int .i64 4) := below_cell hb1 (by go_simp); have c1 : w1.cell? ⟨w.heap.size, 1, none⟩ = some (.int .i64 a) := below_cell hb1 (by go_simp); have c2 : w1.cell? ⟨w.heap.size, 2, none⟩ = some (.int .i64 b) := below_cell hb1 (by go_simp); have k : w1.cell? ⟨1, 29, none⟩ = some (.int .i64 1) := below_cell H1.out (H0.out 4 (by decide) (by decide)); clear hb1)
  go_ret
  exact ⟨rfl, H1.out⟩

set_option maxRecDepth 20000 in
set_option maxHeartbeats 4000000 in
theorem Ticks_4 (w : World) (a b : Int) (ov : Bool) : Calls Tryd.prog 26 #[.agg #[.int .i64 4, .int .i64 a, .int .i64 b], .bool ov] w fun r w' => r = .returned (.int .i64 1) ∧ Below w.heap.size w w' := by
  cases ov with
  | false =>
    go_enter Tryd.func26, Tryd.ntmps26
    go_wp2_with fail
    go_ret
    exact ⟨rfl, below_new _ _⟩
  | true =>
    go_enter Tryd.func26, Tryd.ntmps26
    go_wp2_with fail
    go_ret
    exact ⟨rfl, below_new _ _⟩

set_option maxRecDepth 20000 in
set_option maxHeartbeats 4000000 in
theorem Cost_5 (w : World) (hk : KindsIn w) (a b : Int) (ov : Bool) : Calls Tryd.prog 25 #[.agg #[.int .i64 5, .int .i64 a, .int .i64 b], .bool ov] w fun r w' => r = .returned (.int .i64 1) ∧ Below w.heap.size w w' := by
  have H0 : Hid (KindsIn w) := hk
  clear hk
  go_enter Tryd.func25, Tryd.ntmps25
  go_wp2_with (go_at_call 41; refine (isIns_yes _ 5 a b (by decide) (by decide)).mono ?_; rintro r w1 ⟨rfl, hb1⟩; have H1 : Hid (Below w.heap.size w w1) := below_seq (below_new _ _) hb1; have c0 : w1.cell? ⟨w.heap.size, 0, none⟩ = some (.int .i64 5) := below_cell hb1 (by go_simp); have c1 : w1.cell? ⟨w.heap.size, 1, none⟩ = some (.int .i64 a) := below_cell hb1 (by go_simp); have c2 : w1.cell? ⟨w.heap.size, 2, none⟩ = some (.int .i64 b) := below_cell hb1 (by go_simp); have k : w1.cell? ⟨1, 35, none⟩ = some (.int .i64 1) := below_cell H1.out (H0.out 5 (by decide) (by decide)); clear hb1)
  go_ret
  exact ⟨rfl, H1.out⟩

set_option maxRecDepth 20000 in
set_option maxHeartbeats 4000000 in
theorem Ticks_5 (w : World) (a b : Int) (ov : Bool) : Calls Tryd.prog 26 #[.agg #[.int .i64 5, .int .i64 a, .int .i64 b], .bool ov] w fun r w' => r = .returned (.int .i64 1) ∧ Below w.heap.size w w' := by
  cases ov with
  | false =>
    go_enter Tryd.func26, Tryd.ntmps26
    go_wp2_with fail
    go_ret
    exact ⟨rfl, below_new _ _⟩
  | true =>
    go_enter Tryd.func26, Tryd.ntmps26
    go_wp2_with fail
    go_ret
    exact ⟨rfl, below_new _ _⟩

set_option maxRecDepth 20000 in
set_option maxHeartbeats 4000000 in
theorem Cost_6 (w : World) (hk : KindsIn w) (a b : Int) (ov : Bool) : Calls Tryd.prog 25 #[.agg #[.int .i64 6, .int .i64 a, .int .i64 b], .bool ov] w fun r w' => r = .returned (.int .i64 3) ∧ Below w.heap.size w w' := by
  have H0 : Hid (KindsIn w) := hk
  clear hk
  go_enter Tryd.func25, Tryd.ntmps25
  go_wp2_with (go_at_call 41; refine (isIns_yes _ 6 a b (by decide) (by decide)).mono ?_; rintro r w1 ⟨rfl, hb1⟩; have H1 : Hid (Below w.heap.size w w1) := below_seq (below_new _ _) hb1; have c0 : w1.cell? ⟨w.heap.size, 0, none⟩ = some (.int .i64 6) := below_cell hb1 (by go_simp); have c1 : w1.cell? ⟨w.heap.size, 1, none⟩ = some (.int .i64 a) := below_cell hb1 (by go_simp); have c2 : w1.cell? ⟨w.heap.size, 2, none⟩ = some (.int .i64 b) := below_cell hb1 (by go_simp); have k : w1.cell? ⟨1, 41, none⟩ = some (.int .i64 3) := below_cell H1.out (H0.out 6 (by decide) (by decide)); clear hb1)
  go_ret
  exact ⟨rfl, H1.out⟩

set_option maxRecDepth 20000 in
set_option maxHeartbeats 4000000 in
theorem Ticks_6 (w : World) (a b : Int) (ov : Bool) : Calls Tryd.prog 26 #[.agg #[.int .i64 6, .int .i64 a, .int .i64 b], .bool ov] w fun r w' => r = .returned (.int .i64 3) ∧ Below w.heap.size w w' := by
  cases ov with
  | false =>
    go_enter Tryd.func26, Tryd.ntmps26
    go_wp2_with fail
    go_ret
    exact ⟨rfl, below_new _ _⟩
  | true =>
    go_enter Tryd.func26, Tryd.ntmps26
    go_wp2_with fail
    go_ret
    exact ⟨rfl, below_new _ _⟩

set_option maxRecDepth 20000 in
set_option maxHeartbeats 4000000 in
theorem Cost_7 (w : World) (hk : KindsIn w) (a b : Int) (ov : Bool) : Calls Tryd.prog 25 #[.agg #[.int .i64 7, .int .i64 a, .int .i64 b], .bool ov] w fun r w' => r = .returned (.int .i64 1) ∧ Below w.heap.size w w' := by
  have H0 : Hid (KindsIn w) := hk
  clear hk
  go_enter Tryd.func25, Tryd.ntmps25
  go_wp2_with (go_at_call 41; refine (isIns_yes _ 7 a b (by decide) (by decide)).mono ?_; rintro r w1 ⟨rfl, hb1⟩; have H1 : Hid (Below w.heap.size w w1) := below_seq (below_new _ _) hb1; have c0 : w1.cell? ⟨w.heap.size, 0, none⟩ = some (.int .i64 7) := below_cell hb1 (by go_simp); have c1 : w1.cell? ⟨w.heap.size, 1, none⟩ = some (.int .i64 a) := below_cell hb1 (by go_simp); have c2 : w1.cell? ⟨w.heap.size, 2, none⟩ = some (.int .i64 b) := below_cell hb1 (by go_simp); have k : w1.cell? ⟨1, 47, none⟩ = some (.int .i64 1) := below_cell H1.out (H0.out 7 (by decide) (by decide)); clear hb1)
  go_ret
  exact ⟨rfl, H1.out⟩

set_option maxRecDepth 20000 in
set_option maxHeartbeats 4000000 in
theorem Ticks_7 (w : World) (a b : Int) (ov : Bool) : Calls Tryd.prog 26 #[.agg #[.int .i64 7, .int .i64 a, .int .i64 b], .bool ov] w fun r w' => r = .returned (.int .i64 1) ∧ Below w.heap.size w w' := by
  cases ov with
  | false =>
    go_enter Tryd.func26, Tryd.ntmps26
    go_wp2_with fail
    go_ret
    exact ⟨rfl, below_new _ _⟩
  | true =>
    go_enter Tryd.func26, Tryd.ntmps26
    go_wp2_with fail
    go_ret
    exact ⟨rfl, below_new _ _⟩

set_option maxRecDepth 20000 in
set_option maxHeartbeats 4000000 in
theorem Cost_8 (w : World) (hk : KindsIn w) (a b : Int) (ov : Bool) : Calls Tryd.prog 25 #[.agg #[.int .i64 8, .int .i64 a, .int .i64 b], .bool ov] w fun r w' => r = .returned (.int .i64 1) ∧ Below w.heap.size w w' := by
  have H0 : Hid (KindsIn w) := hk
  clear hk
  go_enter Tryd.func25, Tryd.ntmps25
  go_wp2_with (go_at_call 41; refine (isIns_yes _ 8 a b (by decide) (by decide)).mono ?_; rintro r w1 ⟨rfl, hb1⟩; have H1 : Hid (Below w.heap.size w w1) := below_seq (below_new _ _) hb1; have c0 : w1.cell? ⟨w.heap.size, 0, none⟩ = some (.int .i64 8) := below_cell hb1 (by go_simp); have c1 : w1.cell? ⟨w.heap.size, 1, none⟩ = some (.int .i64 a) := below_cell hb1 (by go_simp); have c2 : w1.cell? ⟨w.heap.size, 2, none⟩ = some (.int .i64 b) := below_cell hb1 (by go_simp); have k : w1.cell? ⟨1, 53, none⟩ = some (.int .i64 1) := below_cell H1.out (H0.out 8 (by decide) (by decide)); clear hb1)
  go_ret
  exact ⟨rfl, H1.out⟩

set_option maxRecDepth 20000 in
set_option maxHeartbeats 4000000 in
theorem Ticks_8 (w : World) (a b : Int) (ov : Bool) : Calls Tryd.prog 26 #[.agg #[.int .i64 8, .int .i64 a, .int .i64 b], .bool ov] w fun r w' => r = .returned (.int .i64 1) ∧ Below w.heap.size w w' := by
  cases ov with
  | false =>
    go_enter Tryd.func26, Tryd.ntmps26
    go_wp2_with fail
    go_ret
    exact ⟨rfl, below_new _ _⟩
  | true =>
    go_enter Tryd.func26, Tryd.ntmps26
    go_wp2_with fail
    go_ret
    exact ⟨rfl, below_new _ _⟩

set_option maxRecDepth 20000 in
set_option maxHeartbeats 4000000 in
theorem Cost_9 (w : World) (hk : KindsIn w) (a b : Int) (ov : Bool) : Calls Tryd.prog 25 #[.agg #[.int .i64 9, .int .i64 a, .int .i64 b], .bool ov] w fun r w' => r = .returned (.int .i64 2) ∧ Below w.heap.size w w' := by
  have H0 : Hid (KindsIn w) := hk
  clear hk
  go_enter Tryd.func25, Tryd.ntmps25
  go_wp2_with (go_at_call 41; refine (isIns_yes _ 9 a b (by decide) (by decide)).mono ?_; rintro r w1 ⟨rfl, hb1⟩; have H1 : Hid (Below w.heap.size w w1) := below_seq (below_new _ _) hb1; have c0 : w1.cell? ⟨w.heap.size, 0, none⟩ = some (.int .i64 9) := below_cell hb1 (by go_simp); have c1 : w1.cell? ⟨w.heap.size, 1, none⟩ = some (.int .i64 a) := below_cell hb1 (by go_simp); have c2 : w1.cell? ⟨w.heap.size, 2, none⟩ = some (.int .i64 b) := below_cell hb1 (by go_simp); have k : w1.cell? ⟨1, 59, none⟩ = some (.int .i64 2) := below_cell H1.out (H0.out 9 (by decide) (by decide)); clear hb1)
  go_ret
  exact ⟨rfl, H1.out⟩

set_option maxRecDepth 20000 in
set_option maxHeartbeats 4000000 in
theorem Ticks_9 (w : World) (a b : Int) (ov : Bool) : Calls Tryd.prog 26 #[.agg #[.int .i64 9, .int .i64 a, .int .i64 b], .bool ov] w fun r w' => r = .returned (.int .i64 2) ∧ Below w.heap.size w w' := by
  cases ov with
  | false =>
    go_enter Tryd.func26, Tryd.ntmps26
    go_wp2_with fail
    go_ret
    exact ⟨rfl, below_new _ _⟩
  | true =>
    go_enter Tryd.func26, Tryd.ntmps26
    go_wp2_with fail
    go_ret
    exact ⟨rfl, below_new _ _⟩

set_option maxRecDepth 20000 in
set_option maxHeartbeats 4000000 in
theorem Cost_10 (w : World) (hk : KindsIn w) (a b : Int) (ov : Bool) : Calls Tryd.prog 25 #[.agg #[.int .i64 10, .int .i64 a, .int .i64 b], .bool ov] w fun r w' => r = .returned (.int .i64 2) ∧ Below w.heap.size w w' := by
  have H0 : Hid (KindsIn w) := hk
  clear hk
  go_enter Tryd.func25, Tryd.ntmps25
  go_wp2_with (go_at_call 41; refine (isIns_yes _ 10 a b (by decide) (by decide)).mono ?_; rintro r w1 ⟨rfl, hb1⟩; have H1 : Hid (Below w.heap.size w w1) := below_seq (below_new _ _) hb1; have c0 : w1.cell? ⟨w.heap.size, 0, none⟩ = some (.int .i64 10) := below_cell hb1 (by go_simp); have c1 : w1.cell? ⟨w.heap.size, 1, none⟩ = some (.int .i64 a) := below_cell hb1 (by go_simp); have c2 : w1.cell? ⟨w.heap.size, 2, none⟩ = some (.int .i64 b) := below_cell hb1 (by go_simp); have k : w1.cell? ⟨1, 65, none⟩ = some (.int .i64 2) := below_cell H1.out (H0.out 10 (by decide) (by decide)); clear hb1)
  go_ret
  exact ⟨rfl, H1.out⟩

set_option maxRecDepth 20000 in
set_option maxHeartbeats 4000000 in
theorem Ticks_10 (w : World) (a b : Int) (ov : Bool) : Calls Tryd.prog 26 #[.agg #[.int .i64 10, .int .i64 a, .int .i64 b], .bool ov] w fun r w' => r = .returned (.int .i64 2) ∧ Below w.heap.size w w' := by
  cases ov with
  | false =>
    go_enter Tryd.func26, Tryd.ntmps26
    go_wp2_with fail
    go_ret
    exact ⟨rfl, below_new _ _⟩
  | true =>
    go_enter Tryd.func26, Tryd.ntmps26
    go_wp2_with fail
    go_ret
    exact ⟨rfl, below_new _ _⟩

set_option maxRecDepth 20000 in
set_option maxHeartbeats 4000000 in
theorem Cost_11 (w : World) (hk : KindsIn w) (a b : Int) (ov : Bool) : Calls Tryd.prog 25 #[.agg #[.int .i64 11, .int .i64 a, .int .i64 b], .bool ov] w fun r w' => r = .returned (.int .i64 2) ∧ Below w.heap.size w w' := by
  have H0 : Hid (KindsIn w) := hk
  clear hk
  go_enter Tryd.func25, Tryd.ntmps25
  go_wp2_with (go_at_call 41; refine (isIns_yes _ 11 a b (by decide) (by decide)).mono ?_; rintro r w1 ⟨rfl, hb1⟩; have H1 : Hid (Below w.heap.size w w1) := below_seq (below_new _ _) hb1; have c0 : w1.cell? ⟨w.heap.size, 0, none⟩ = some (.int .i64 11) := below_cell hb1 (by go_simp); have c1 : w1.cell? ⟨w.heap.size, 1, none⟩ = some (.int .i64 a) := below_cell hb1 (by go_simp); have c2 : w1.cell? ⟨w.heap.size, 2, none⟩ = some (.int .i64 b) := below_cell hb1 (by go_simp); have k : w1.cell? ⟨1, 71, none⟩ = some (.int .i64 2) := below_cell H1.out (H0.out 11 (by decide) (by decide)); clear hb1)
  go_ret
  exact ⟨rfl, H1.out⟩

set_option maxRecDepth 20000 in
set_option maxHeartbeats 4000000 in
theorem Ticks_11 (w : World) (a b : Int) (ov : Bool) : Calls Tryd.prog 26 #[.agg #[.int .i64 11, .int .i64 a, .int .i64 b], .bool ov] w fun r w' => r = .returned (.int .i64 2) ∧ Below w.heap.size w w' := by
  cases ov with
  | false =>
    go_enter Tryd.func26, Tryd.ntmps26
    go_wp2_with fail
    go_ret
    exact ⟨rfl, below_new _ _⟩
  | true =>
    go_enter Tryd.func26, Tryd.ntmps26
    go_wp2_with fail
    go_ret
    exact ⟨rfl, below_new _ _⟩

set_option maxRecDepth 20000 in
set_option maxHeartbeats 4000000 in
theorem Cost_12 (w : World) (hk : KindsIn w) (a b : Int) (ov : Bool) : Calls Tryd.prog 25 #[.agg #[.int .i64 12, .int .i64 a, .int .i64 b], .bool ov] w fun r w' => r = .returned (.int .i64 (if ov then 2 else 1)) ∧ Below w.heap.size w w' := by
  have H0 : Hid (KindsIn w) := hk
  clear hk
  cases ov with
  | false =>
    go_enter Tryd.func25, Tryd.ntmps25
    go_wp2_with (go_at_call 41; refine (isIns_yes _ 12 a b (by decide) (by decide)).mono ?_; rintro r w1 ⟨rfl, hb1⟩; have H1 : Hid (Below w.heap.size w w1) := below_seq (below_new _ _) hb1; have c0 : w1.cell? ⟨w.heap.size, 0, none⟩ = some (.int .i64 12) := below_cell hb1 (by go_simp); have c1 : w1.cell? ⟨w.heap.size, 1, none⟩ = some (.int .i64 a) := below_cell hb1 (by go_simp); have c2 : w1.cell? ⟨w.heap.size, 2, none⟩ = some (.int .i64 b) := below_cell hb1 (by go_simp); have k : w1.cell? ⟨1, 77, none⟩ = some (.int .i64 1) := below_cell H1.out (H0.out 12 (by decide) (by decide)); clear hb1)
    go_ret
    exact ⟨rfl, H1.out⟩
  | true =>
    go_enter Tryd.func25, Tryd.ntmps25
    go_wp2_with (go_at_call 41; refine (isIns_yes _ 12 a b (by decide) (by decide)).mono ?_; rintro r w1 ⟨rfl, hb1⟩; have H1 : Hid (Below w.heap.size w w1) := below_seq (below_new _ _) hb1; have c0 : w1.cell? ⟨w.heap.size, 0, none⟩ = some (.int .i64 12) := below_cell hb1 (by go_simp); have c1 : w1.cell? ⟨w.heap.size, 1, none⟩ = some (.int .i64 a) := below_cell hb1 (by go_simp); have c2 : w1.cell? ⟨w.heap.size, 2, none⟩ = some (.int .i64 b) := below_cell hb1 (by go_simp); have k : w1.cell? ⟨1, 77, none⟩ = some (.int .i64 1) := below_cell H1.out (H0.out 12 (by decide) (by decide)); clear hb1)
    go_ret
    exact ⟨rfl, H1.out⟩

set_option maxRecDepth 20000 in
set_option maxHeartbeats 4000000 in
theorem Ticks_12 (w : World) (a b : Int) (ov : Bool) : Calls Tryd.prog 26 #[.agg #[.int .i64 12, .int .i64 a, .int .i64 b], .bool ov] w fun r w' => r = .returned (.int .i64 (if ov then 2 else 1)) ∧ Below w.heap.size w w' := by
  cases ov with
  | false =>
    go_enter Tryd.func26, Tryd.ntmps26
    go_wp2_with fail
    go_ret
    exact ⟨rfl, below_new _ _⟩
  | true =>
    go_enter Tryd.func26, Tryd.ntmps26
    go_wp2_with fail
    go_ret
    exact ⟨rfl, below_new _ _⟩

set_option maxRecDepth 20000 in
set_option maxHeartbeats 4000000 in
theorem Cost_13 (w : World) (hk : KindsIn w) (a b : Int) (ov : Bool) : Calls Tryd.prog 25 #[.agg #[.int .i64 13, .int .i64 a, .int .i64 b], .bool ov] w fun r w' => r = .returned (.int .i64 1) ∧ Below w.heap.size w w' := by
  have H0 : Hid (KindsIn w) := hk
  clear hk
  go_enter Tryd.func25, Tryd.ntmps25
  go_wp2_with (go_at_call 41; refine (isIns_yes _ 13 a b (by decide) (by decide)).mono ?_; rintro r w1 ⟨rfl, hb1⟩; have H1 : Hid (Below w.heap.size w w1) := below_seq (below_new _ _) hb1; have c0 : w1.cell? ⟨w.heap.size, 0, none⟩ = some (.int .i64 13) := below_cell hb1 (by go_simp); have c1 : w1.cell? ⟨w.heap.size, 1, none⟩ = some (.int .i64 a) := below_cell hb1 (by go_simp); have c2 : w1.cell? ⟨w.heap.size, 2, none⟩ = some (.int .i64 b) := below_cell hb1 (by go_simp); have k : w1.cell? ⟨1, 83, none⟩ = some (.int .i64 1) := below_cell H1.out (H0.out 13 (by decide) (by decide)); clear hb1)
  go_ret
  exact ⟨rfl, H1.out⟩

set_option maxRecDepth 20000 in
set_option maxHeartbeats 4000000 in
theorem Ticks_13 (w : World) (a b : Int) (ov : Bool) : Calls Tryd.prog 26 #[.agg #[.int .i64 13, .int .i64 a, .int .i64 b], .bool ov] w fun r w' => r = .returned (.int .i64 1) ∧ Below w.heap.size w w' := by
  cases ov with
  | false =>
    go_enter Tryd.func26, Tryd.ntmps26
    go_wp2_with fail
    go_ret
    exact ⟨rfl, below_new _ _⟩
  | true =>
    go_enter Tryd.func26, Tryd.ntmps26
    go_wp2_with fail
    go_ret
    exact ⟨rfl, below_new _ _⟩

set_option maxRecDepth 20000 in
set_option maxHeartbeats 4000000 in
theorem Cost_14 (w : World) (hk : KindsIn w) (a b : Int) (ov : Bool) : Calls Tryd.prog 25 #[.agg #[.int .i64 14, .int .i64 a, .int .i64 b], .bool ov] w fun r w' => r = .returned (.int .i64 (if ov then 2 else 1)) ∧ Below w.heap.size w w' := by
  have H0 : Hid (KindsIn w) := hk
  clear hk
  cases ov with
  | false =>
    go_enter Tryd.func25, Tryd.ntmps25
    go_wp2_with (go_at_call 41; refine (isIns_yes _ 14 a b (by decide) (by decide)).mono ?_; rintro r w1 ⟨rfl, hb1⟩; have H1 : Hid (Below w.heap.size w w1) := below_seq (below_new _ _) hb1; have c0 : w1.cell? ⟨w.heap.size, 0, none⟩ = some (.int .i64 14) := below_cell hb1 (by go_simp); have c1 : w1.cell? ⟨w.heap.size, 1, none⟩ = some (.int .i64 a) := below_cell hb1 (by go_simp); have c2 : w1.cell? ⟨w.heap.size, 2, none⟩ = some (.int .i64 b) := below_cell hb1 (by go_simp); have k : w1.cell? ⟨1, 89, none⟩ = some (.int .i64 1) := below_cell H1.out (H0.out 14 (by decide) (by decide)); clear hb1)
    go_ret
    exact ⟨rfl, H1.out⟩
  | true =>
    go_enter Tryd.func25, Tryd.ntmps25
    go_wp2_with (go_at_call 41; refine (isIns_yes _ 14 a b (by decide) (by decide)).mono ?_; rintro r w1 ⟨rfl, hb1⟩; have H1 : Hid (Below w.heap.size w w1) := below_seq (below_new _ _) hb1; have c0 : w1.cell? ⟨w.heap.size, 0, none⟩ = some (.int .i64 14) := below_cell hb1 (by go_simp); have c1 : w1.cell? ⟨w.heap.size, 1, none⟩ = some (.int .i64 a) := below_cell hb1 (by go_simp); have c2 : w1.cell? ⟨w.heap.size, 2, none⟩ = some (.int .i64 b) := below_cell hb1 (by go_simp); have k : w1.cell? ⟨1, 89, none⟩ = some (.int .i64 1) := below_cell H1.out (H0.out 14 (by decide) (by decide)); clear hb1)
    go_ret
    exact ⟨rfl, H1.out⟩

set_option maxRecDepth 20000 in
set_option maxHeartbeats 4000000 in
theorem Ticks_14 (w : World) (a b : Int) (ov : Bool) : Calls Tryd.prog 26 #[.agg #[.int .i64 14, .int .i64 a, .int .i64 b], .bool ov] w fun r w' => r = .returned (.int .i64 (if ov then 2 else 1)) ∧ Below w.heap.size w w' := by
  cases ov with
  | false =>
    go_enter Tryd.func26, Tryd.ntmps26
    go_wp2_with fail
    go_ret
    exact ⟨rfl, below_new _ _⟩
  | true =>
    go_enter Tryd.func26, Tryd.ntmps26
    go_wp2_with fail
    go_ret
    exact ⟨rfl, below_new _ _⟩

set_option maxRecDepth 20000 in
set_option maxHeartbeats 4000000 in
theorem Cost_15 (w : World) (hk : KindsIn w) (a b : Int) (ov : Bool) : Calls Tryd.prog 25 #[.agg #[.int .i64 15, .int .i64 a, .int .i64 b], .bool ov] w fun r w' => r = .returned (.int .i64 1) ∧ Below w.heap.size w w' := by
  have H0 : Hid (KindsIn w) := hk
  clear hk
  go_enter Tryd.func25, Tryd.ntmps25
  go_wp2_with (go_at_call 41; refine (isIns_yes _ 15 a b (by decide) (by decide)).mono ?_; rintro r w1 ⟨rfl, hb1⟩; have H1 : Hid (Below w.heap.size w w1) := below_seq (below_new _ _) hb1; have c0 : w1.cell? ⟨w.heap.size, 0, none⟩ = some (.int .i64 15) := below_cell hb1 (by go_simp); have c1 : w1.cell? ⟨w.heap.size, 1, none⟩ = some (.int .i64 a) := below_cell hb1 (by go_simp); have c2 : w1.cell? ⟨w.heap.size, 2, none⟩ = some (.int .i64 b) := below_cell hb1 (by go_simp); have k : w1.cell? ⟨1, 95, none⟩ = some (.int .i64 1) := below_cell H1.out (H0.out 15 (by decide) (by decide)); clear hb1)
  go_ret
  exact ⟨rfl, H1.out⟩

set_option maxRecDepth 20000 in
set_option maxHeartbeats 4000000 in
theorem Ticks_15 (w : World) (a b : Int) (ov : Bool) : Calls Tryd.prog 26 #[.agg #[.int .i64 15, .int .i64 a, .int .i64 b], .bool ov] w fun r w' => r = .returned (.int .i64 1) ∧ Below w.heap.size w w' := by
  cases ov with
  | false =>
    go_enter Tryd.func26, Tryd.ntmps26
    go_wp2_with fail
    go_ret
    exact ⟨rfl, below_new _ _⟩
  | true =>
    go_enter Tryd.func26, Tryd.ntmps26
    go_wp2_with fail
    go_ret
    exact ⟨rfl, below_new _ _⟩

set_option maxRecDepth 20000 in
set_option maxHeartbeats 4000000 in
theorem Cost_16 (w : World) (hk : KindsIn w) (a b : Int) (ov : Bool) : Calls Tryd.prog 25 #[.agg #[.int .i64 16, .int .i64 a, .int .i64 b], .bool ov] w fun r w' => r = .returned (.int .i64 1) ∧ Below w.heap.size w w' := by
  have H0 : Hid (KindsIn w) := hk
  clear hk
  go_enter Tryd.func25, Tryd.ntmps25
  go_wp2_with (go_at_call 41; refine (isIns_yes _ 16 a b (by decide) (by decide)).mono ?_; rintro r w1 ⟨rfl, hb1⟩; have H1 : Hid (Below w.heap.size w w1) := below_seq (below_new _ _) hb1; have c0 : w1.cell? ⟨w.heap.size, 0, none⟩ = some (.int .i64 16) := below_cell hb1 (by go_simp); have c1 : w1.cell? ⟨w.heap.size, 1, none⟩ = some (.int .i64 a) := below_cell hb1 (by go_simp); have c2 : w1.cell? ⟨w.heap.size, 2, none⟩ = some (.int .i64 b) := below_cell hb1 (by go_simp); have k : w1.cell? ⟨1, 101, none⟩ = some (.int .i64 1) := below_cell H1.out (H0.out 16 (by decide) (by decide)); clear hb1)
  go_ret
  exact ⟨rfl, H1.out⟩

set_option maxRecDepth 20000 in
set_option maxHeartbeats 4000000 in
theorem Ticks_16 (w : World) (a b : Int) (ov : Bool) : Calls Tryd.prog 26 #[.agg #[.int .i64 16, .int .i64 a, .int .i64 b], .bool ov] w fun r w' => r = .returned (.int .i64 1) ∧ Below w.heap.size w w' := by
  cases ov with
  | false =>
    go_enter Tryd.func26, Tryd.ntmps26
    go_wp2_with fail
    go_ret
    exact ⟨rfl, below_new _ _⟩
  | true =>
    go_enter Tryd.func26, Tryd.ntmps26
    go_wp2_with fail
    go_ret
    exact ⟨rfl, below_new _ _⟩

set_option maxRecDepth 20000 in
set_option maxHeartbeats 4000000 in
theorem Cost_17 (w : World) (hk : KindsIn w) (a b : Int) (ov : Bool) : Calls Tryd.prog 25 #[.agg #[.int .i64 17, .int .i64 a, .int .i64 b], .bool ov] w fun r w' => r = .returned (.int .i64 1) ∧ Below w.heap.size w w' := by
  have H0 : Hid (KindsIn w) := hk
  clear hk
  go_enter Tryd.func25, Tryd.ntmps25
  go_wp2_with (go_at_call 41; refine (isIns_yes _ 17 a b (by decide) (by decide)).mono ?_; rintro r w1 ⟨rfl, hb1⟩; have H1 : Hid (Below w.heap.size w w1) := below_seq (below_new _ _) hb1; have c0 : w1.cell? ⟨w.heap.size, 0, none⟩ = some (.int .i64 17) := below_cell hb1 (by go_simp); have c1 : w1.cell? ⟨w.heap.size, 1, none⟩ = some (.int .i64 a) := below_cell hb1 (by go_simp); have c2 : w1.cell? ⟨w.heap.size, 2, none⟩ = some (.int .i64 b) := below_cell hb1 (by go_simp); have k : w1.cell? ⟨1, 107, none⟩ = some (.int .i64 1) := below_cell H1.out (H0.out 17 (by decide) (by decide)); clear hb1)
  go_ret
  exact ⟨rfl, H1.out⟩

set_option maxRecDepth 20000 in
set_option maxHeartbeats 4000000 in
theorem Ticks_17 (w : World) (a b : Int) (ov : Bool) : Calls Tryd.prog 26 #[.agg #[.int .i64 17, .int .i64 a, .int .i64 b], .bool ov] w fun r w' => r = .returned (.int .i64 1) ∧ Below w.heap.size w w' := by
  cases ov with
  | false =>
    go_enter Tryd.func26, Tryd.ntmps26
    go_wp2_with fail
    go_ret
    exact ⟨rfl, below_new _ _⟩
  | true =>
    go_enter Tryd.func26, Tryd.ntmps26
    go_wp2_with fail
    go_ret
    exact ⟨rfl, below_new _ _⟩

set_option maxRecDepth 20000 in
set_option maxHeartbeats 4000000 in
theorem Cost_18 (w : World) (hk : KindsIn w) (a b : Int) (ov : Bool) : Calls Tryd.prog 25 #[.agg #[.int .i64 18, .int .i64 a, .int .i64 b], .bool ov] w fun r w' => r = .returned (.int .i64 a) ∧ Below w.heap.size w w' := by
  have H0 : Hid (KindsIn w) := hk
  clear hk
  go_enter Tryd.func25, Tryd.ntmps25
  go_wp2_with (go_at_call 41; refine (isIns_yes _ 18 a b (by decide) (by decide)).mono ?_; rintro r w1 ⟨rfl, hb1⟩; have H1 : Hid (Below w.heap.size w w1) := below_seq (below_new _ _) hb1; have c0 : w1.cell? ⟨w.heap.size, 0, none⟩ = some (.int .i64 18) := below_cell hb1 (by go_simp); have c1 : w1.cell? ⟨w.heap.size, 1, none⟩ = some (.int .i64 a) := below_cell hb1 (by go_simp); have c2 : w1.cell? ⟨w.heap.size, 2, none⟩ = some (.int .i64 b) := below_cell hb1 (by go_simp); have k : w1.cell? ⟨1, 113, none⟩ = some (.int .i64 0) := below_cell H1.out (H0.out 18 (by decide) (by decide)); clear hb1)
  go_ret
  exact ⟨rfl, H1.out⟩

set_option maxRecDepth 20000 in
set_option maxHeartbeats 4000000 in
theorem Ticks_18 (w : World) (a b : Int) (ov : Bool) : Calls Tryd.prog 26 #[.agg #[.int .i64 18, .int .i64 a, .int .i64 b], .bool ov] w fun r w' => r = .returned (.int .i64 a) ∧ Below w.heap.size w w' := by
  cases ov with
  | false =>
    go_enter Tryd.func26, Tryd.ntmps26
    go_wp2_with fail
    go_ret
    exact ⟨rfl, below_new _ _⟩
  | true =>
    go_enter Tryd.func26, Tryd.ntmps26
    go_wp2_with fail
    go_ret
    exact ⟨rfl, below_new _ _⟩

def Phase (_ : Nat) : Prop := True

/-- What an instruction takes. -/
def Alike (w : World) (op : Int) : Prop := ∀ (a b : Int) (ov : Bool), ∃ z : Int, (∀ W, Below w.heap.size w W → Calls Tryd.prog 25 #[.agg #[.int .i64 op, .int .i64 a, .int .i64 b], .bool ov] W fun r w' => r = .returned (.int .i64 z) ∧ Below W.heap.size W w') ∧ (∀ W, Calls Tryd.prog 26 #[.agg #[.int .i64 op, .int .i64 a, .int .i64 b], .bool ov] W fun r w' => r = .returned (.int .i64 z) ∧ Below W.heap.size W w')

theorem alike (w : World) (hk : KindsIn w) (op : Int) (h1 : 1 ≤ op) (h2 : op ≤ 18) : Alike w op := by
  have h : op = 1 ∨ op = 2 ∨ op = 3 ∨ op = 4 ∨ op = 5 ∨ op = 6 ∨ op = 7 ∨ op = 8 ∨ op = 9 ∨ op = 10 ∨ op = 11 ∨ op = 12 ∨ op = 13 ∨ op = 14 ∨ op = 15 ∨ op = 16 ∨ op = 17 ∨ op = 18 := by omega
  rcases h with rfl | rfl | rfl | rfl | rfl | rfl | rfl | rfl | rfl | rfl | rfl | rfl | rfl | rfl | rfl | rfl | rfl | rfl
  · exact fun a b ov => ⟨_, fun W hW => Cost_1 W (hk.below hW) a b ov, fun W => Ticks_1 W a b ov⟩
  · exact fun a b ov => ⟨_, fun W hW => Cost_2 W (hk.below hW) a b ov, fun W => Ticks_2 W a b ov⟩
  · exact fun a b ov => ⟨_, fun W hW => Cost_3 W (hk.below hW) a b ov, fun W => Ticks_3 W a b ov⟩
  · exact fun a b ov => ⟨_, fun W hW => Cost_4 W (hk.below hW) a b ov, fun W => Ticks_4 W a b ov⟩
  · exact fun a b ov => ⟨_, fun W hW => Cost_5 W (hk.below hW) a b ov, fun W => Ticks_5 W a b ov⟩
  · exact fun a b ov => ⟨_, fun W hW => Cost_6 W (hk.below hW) a b ov, fun W => Ticks_6 W a b ov⟩
  · exact fun a b ov => ⟨_, fun W hW => Cost_7 W (hk.below hW) a b ov, fun W => Ticks_7 W a b ov⟩
  · exact fun a b ov => ⟨_, fun W hW => Cost_8 W (hk.below hW) a b ov, fun W => Ticks_8 W a b ov⟩
  · exact fun a b ov => ⟨_, fun W hW => Cost_9 W (hk.below hW) a b ov, fun W => Ticks_9 W a b ov⟩
  · exact fun a b ov => ⟨_, fun W hW => Cost_10 W (hk.below hW) a b ov, fun W => Ticks_10 W a b ov⟩
  · exact fun a b ov => ⟨_, fun W hW => Cost_11 W (hk.below hW) a b ov, fun W => Ticks_11 W a b ov⟩
  · exact fun a b ov => ⟨_, fun W hW => Cost_12 W (hk.below hW) a b ov, fun W => Ticks_12 W a b ov⟩
  · exact fun a b ov => ⟨_, fun W hW => Cost_13 W (hk.below hW) a b ov, fun W => Ticks_13 W a b ov⟩
  · exact fun a b ov => ⟨_, fun W hW => Cost_14 W (hk.below hW) a b ov, fun W => Ticks_14 W a b ov⟩
  · exact fun a b ov => ⟨_, fun W hW => Cost_15 W (hk.below hW) a b ov, fun W => Ticks_15 W a b ov⟩
  · exact fun a b ov => ⟨_, fun W hW => Cost_16 W (hk.below hW) a b ov, fun W => Ticks_16 W a b ov⟩
  · exact fun a b ov => ⟨_, fun W hW => Cost_17 W (hk.below hW) a b ov, fun W => Ticks_17 W a b ov⟩
  · exact fun a b ov => ⟨_, fun W hW => Cost_18 W (hk.below hW) a b ov, fun W => Ticks_18 W a b ov⟩

end Go.Proofs.YtcejfmmcdagnoacDoor
