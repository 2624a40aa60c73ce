import Derived.Test.YtgemadoieielcacDoorGXS
import Derived.Test.YtgemadoieielcacDoorGWR
namespace Go.Proofs.YtgemadoieielcacDoor
open Go.ChangeShapes Go.WideShapes Go.ChangeAt Go.RowKit

/-- What the document's closure tells. -/
def TellsD (w : World) (p : Nat) (k : Nat) (n : Nat) (R : Nat → Int) : Prop := ∀ W, Below w.heap.size w W → ∀ j : Nat, k < j → j ≤ n → Calls Tryd.prog 77 #[.int .i64 j, .pointer (some ⟨p, 0, none⟩)] W fun r w' => r = .returned (.int .i64 (R j)) ∧ w' = W

theorem tellsD_of {w : World} {p n : Nat} {R : Nat → Int} (k : Nat) (hn : n ≤ 2000) (ht : ShAt w p k n R) : TellsD w p k n R := fun W hW j hkj hj => worst1_same W p k n R j hn hkj hj (ht.below hW)

def TicksD (w : World) (op a b : Int) : Prop := ∀ W, Below w.heap.size w W → ∀ o, Calls Tryd.prog 29 #[.agg #[.int .i64 op, .int .i64 a, .int .i64 b], .bool o] W fun r w' => r = .returned (.int .i64 (costI ⟨op, a, b⟩ o)) ∧ Below W.heap.size W w'

theorem ticksD_of {w : World} {op a b : Int} (hf : formErr ⟨op, a, b⟩ = 0) : TicksD w op a b := fun W _ o => ticks_any W ⟨op, a, b⟩ o hf

def ClosesD (w : World) (mb k : Nat) (q : Int) : Prop := ∀ W, Below w.heap.size w W → Calls Tryd.prog 111 #[.pointer (some ⟨mb, 0, none⟩), .int .i64 k] W fun r w' => r = .returned (.int .i64 q) ∧ Below W.heap.size W w'

theorem keepX {w1 W W' : World} {g : Nat} {v0 v1 v2 : Value} (hb : Below W.heap.size W W') (h : Below w1.heap.size w1 W ∧ W.cell? ⟨g, 0, none⟩ = some v0 ∧ W.cell? ⟨g, 1, none⟩ = some v1 ∧ W.cell? ⟨g, 2, none⟩ = some v2) :
    Below w1.heap.size w1 W' ∧ W'.cell? ⟨g, 0, none⟩ = some v0 ∧ W'.cell? ⟨g, 1, none⟩ = some v1 ∧ W'.cell? ⟨g, 2, none⟩ = some v2 :=
  ⟨below_seq h.1 hb, below_cell hb h.2.1, below_cell hb h.2.2.1, below_cell hb h.2.2.2⟩

set_option maxRecDepth 20000 in
set_option maxHeartbeats 8000000 in
theorem left_14 (w : World) (l : List In) (R : Nat → Int) (mb p k : Nat) (hl : l.length ≤ 2000) (hk : k < l.length) (iad : Option Addr) (ic : Nat) (a b : Int) 
    (i1 : w.cell? ⟨mb, 0, none⟩ = some (.slice iad l.length ic)) (hI : InSl w l (.slice iad l.length ic)) (hx : l.getD k in0 = ⟨14, a, b⟩) (hT : TellsD w p k l.length R) (_hz : 0 ≤ R (k + 1) ∧ R (k + 1) ≤ 1099511627776) :
    Calls Tryd.prog 76 #[.pointer (some ⟨mb, 0, none⟩), .int .i64 k, .func (Fn.func 77) #[] #[.pointer (some ⟨p, 0, none⟩)]] w fun r w' => r = .returned (.int .i64 (0)) ∧ Below w.heap.size w w' := by
  obtain ⟨ad', c', e', hrow⟩ := hI
  cases e'
  rcases hrow with hrow | ⟨ib, io, rfl, hrow⟩
  · rw [hrow] at hk; simp at hk
  obtain ⟨c0, c1, c2⟩ := hrow k hk
  rw [hx] at c0 c1 c2
  dsimp only at c0 c1 c2
  have hki : (k : Int) < (l.length : Int) := by omega
  have lb1 : mb < w.heap.size := World.block_lt_of_cell? _ _ i1
  have lib : ib < w.heap.size := World.block_lt_of_cell? _ _ c0
  have HT : Hid (TellsD w p k l.length R) := hT
  have H0 : Hid (Below w.heap.size w (w.alloc (.cells #[.int .i64 14, .int .i64 a, .int .i64 b] 35))) := below_new _ _
  have hT1 : ∀ W, Below w.heap.size w W → Calls Tryd.prog 77 #[.int .i64 ((k : Int) + 1), .pointer (some ⟨p, 0, none⟩)] W fun r w' => r = .returned (.int .i64 (R (k + 1))) ∧ w' = W := fun W hW => HT.out W hW (k + 1) (by omega) (by omega)
  clear hT hrow hx
  generalize R (k + 1) = z at *
  have HT1 : Hid _ := hT1
  clear hT1
  go_enter Tryd.func76, Tryd.ntmps76
  go_wp2_with (go_at_call 77; refine (HT1.out _ H0.out).mono ?_; clear HT1; rintro r w1 ⟨rfl, rfl⟩)
  go_ret
  exact ⟨rfl, H0.out⟩

set_option maxRecDepth 20000 in
set_option maxHeartbeats 8000000 in
theorem left_17 (w : World) (l : List In) (R : Nat → Int) (mb p k : Nat) (hl : l.length ≤ 2000) (hk : k < l.length) (iad : Option Addr) (ic : Nat) (a b : Int) 
    (i1 : w.cell? ⟨mb, 0, none⟩ = some (.slice iad l.length ic)) (hI : InSl w l (.slice iad l.length ic)) (hx : l.getD k in0 = ⟨17, a, b⟩) (hT : TellsD w p k l.length R) (_hz : 0 ≤ R (k + 1) ∧ R (k + 1) ≤ 1099511627776) :
    Calls Tryd.prog 76 #[.pointer (some ⟨mb, 0, none⟩), .int .i64 k, .func (Fn.func 77) #[] #[.pointer (some ⟨p, 0, none⟩)]] w fun r w' => r = .returned (.int .i64 (1)) ∧ Below w.heap.size w w' := by
  obtain ⟨ad', c', e', hrow⟩ := hI
  cases e'
  rcases hrow with hrow | ⟨ib, io, rfl, hrow⟩
  · rw [hrow] at hk; simp at hk
  obtain ⟨c0, c1, c2⟩ := hrow k hk
  rw [hx] at c0 c1 c2
  dsimp only at c0 c1 c2
  have hki : (k : Int) < (l.length : Int) := by omega
  have lb1 : mb < w.heap.size := World.block_lt_of_cell? _ _ i1
  have lib : ib < w.heap.size := World.block_lt_of_cell? _ _ c0
  have HT : Hid (TellsD w p k l.length R) := hT
  have H0 : Hid (Below w.heap.size w (w.alloc (.cells #[.int .i64 17, .int .i64 a, .int .i64 b] 35))) := below_new _ _
  have hT1 : ∀ W, Below w.heap.size w W → Calls Tryd.prog 77 #[.int .i64 ((k : Int) + 1), .pointer (some ⟨p, 0, none⟩)] W fun r w' => r = .returned (.int .i64 (R (k + 1))) ∧ w' = W := fun W hW => HT.out W hW (k + 1) (by omega) (by omega)
  clear hT hrow hx
  generalize R (k + 1) = z at *
  have HT1 : Hid _ := hT1
  clear hT1
  go_enter Tryd.func76, Tryd.ntmps76
  go_wp2_with (go_at_call 77; refine (HT1.out _ H0.out).mono ?_; clear HT1; rintro r w1 ⟨rfl, rfl⟩)
  go_ret
  exact ⟨rfl, H0.out⟩

set_option maxRecDepth 20000 in
set_option maxHeartbeats 8000000 in
theorem left_11 (w : World) (l : List In) (R : Nat → Int) (mb p k : Nat) (hl : l.length ≤ 2000) (hk : k < l.length) (iad : Option Addr) (ic : Nat) (a b : Int) (q : Nat) (hq : a = q) (hqk : k < q) (hql : q ≤ l.length) (hy : 0 ≤ R q ∧ R q ≤ 1099511627776)
    (i1 : w.cell? ⟨mb, 0, none⟩ = some (.slice iad l.length ic)) (hI : InSl w l (.slice iad l.length ic)) (hx : l.getD k in0 = ⟨11, a, b⟩) (hT : TellsD w p k l.length R) (_hz : 0 ≤ R (k + 1) ∧ R (k + 1) ≤ 1099511627776) :
    Calls Tryd.prog 76 #[.pointer (some ⟨mb, 0, none⟩), .int .i64 k, .func (Fn.func 77) #[] #[.pointer (some ⟨p, 0, none⟩)]] w fun r w' => r = .returned (.int .i64 (2 + R q)) ∧ Below w.heap.size w w' := by
  subst hq
  obtain ⟨ad', c', e', hrow⟩ := hI
  cases e'
  rcases hrow with hrow | ⟨ib, io, rfl, hrow⟩
  · rw [hrow] at hk; simp at hk
  obtain ⟨c0, c1, c2⟩ := hrow k hk
  rw [hx] at c0 c1 c2
  dsimp only at c0 c1 c2
  have hki : (k : Int) < (l.length : Int) := by omega
  have lb1 : mb < w.heap.size := World.block_lt_of_cell? _ _ i1
  have lib : ib < w.heap.size := World.block_lt_of_cell? _ _ c0
  have HT : Hid (TellsD w p k l.length R) := hT
  have H0 : Hid (Below w.heap.size w (w.alloc (.cells #[.int .i64 11, .int .i64 q, .int .i64 b] 35))) := below_new _ _
  have hT1 : ∀ W, Below w.heap.size w W → Calls Tryd.prog 77 #[.int .i64 ((k : Int) + 1), .pointer (some ⟨p, 0, none⟩)] W fun r w' => r = .returned (.int .i64 (R (k + 1))) ∧ w' = W := fun W hW => HT.out W hW (k + 1) (by omega) (by omega)
  clear hT hrow hx
  generalize R (k + 1) = z at *
  have HT1 : Hid _ := hT1
  clear hT1
  have hT2 : ∀ W, Below w.heap.size w W → Calls Tryd.prog 77 #[.int .i64 (q : Int), .pointer (some ⟨p, 0, none⟩)] W fun r w' => r = .returned (.int .i64 (R q)) ∧ w' = W := fun W hW => HT.out W hW q (by omega) (by omega)
  generalize R q = y at *
  have HT2 : Hid _ := hT2
  clear hT2
  go_enter Tryd.func76, Tryd.ntmps76
  go_wp2_with (go_at_call 77; refine (HT1.out _ H0.out).mono ?_; clear HT1; rintro r w1 ⟨rfl, rfl⟩)
  go_wp2_with (go_at_call 77; refine (HT2.out _ H0.out).mono ?_; rintro r w1 ⟨rfl, rfl⟩)
  go_ret
  exact ⟨rfl, H0.out⟩

set_option maxRecDepth 20000 in
set_option maxHeartbeats 8000000 in
theorem left_12 (w : World) (l : List In) (R : Nat → Int) (mb p k : Nat) (hl : l.length ≤ 2000) (hk : k < l.length) (iad : Option Addr) (ic : Nat) (a b : Int) (q : Nat) (hq : a = q) (hqk : k < q) (hql : q ≤ l.length) (hy : 0 ≤ R q ∧ R q ≤ 1099511627776)
    (i1 : w.cell? ⟨mb, 0, none⟩ = some (.slice iad l.length ic)) (hI : InSl w l (.slice iad l.length ic)) (hx : l.getD k in0 = ⟨12, a, b⟩) (hT : TellsD w p k l.length R) (hz : 0 ≤ R (k + 1) ∧ R (k + 1) ≤ 1099511627776) :
    Calls Tryd.prog 76 #[.pointer (some ⟨mb, 0, none⟩), .int .i64 k, .func (Fn.func 77) #[] #[.pointer (some ⟨p, 0, none⟩)]] w fun r w' => r = .returned (.int .i64 (max (2 + R q) (1 + R (k + 1)))) ∧ Below w.heap.size w w' := by
  subst hq
  obtain ⟨ad', c', e', hrow⟩ := hI
  cases e'
  rcases hrow with hrow | ⟨ib, io, rfl, hrow⟩
  · rw [hrow] at hk; simp at hk
  obtain ⟨c0, c1, c2⟩ := hrow k hk
  rw [hx] at c0 c1 c2
  dsimp only at c0 c1 c2
  have hki : (k : Int) < (l.length : Int) := by omega
  have lb1 : mb < w.heap.size := World.block_lt_of_cell? _ _ i1
  have lib : ib < w.heap.size := World.block_lt_of_cell? _ _ c0
  have HT : Hid (TellsD w p k l.length R) := hT
  have H0 : Hid (Below w.heap.size w (w.alloc (.cells #[.int .i64 12, .int .i64 q, .int .i64 b] 35))) := below_new _ _
  have hT1 : ∀ W, Below w.heap.size w W → Calls Tryd.prog 77 #[.int .i64 ((k : Int) + 1), .pointer (some ⟨p, 0, none⟩)] W fun r w' => r = .returned (.int .i64 (R (k + 1))) ∧ w' = W := fun W hW => HT.out W hW (k + 1) (by omega) (by omega)
  clear hT hrow hx
  generalize R (k + 1) = z at *
  have HT1 : Hid _ := hT1
  clear hT1
  have hT2 : ∀ W, Below w.heap.size w W → Calls Tryd.prog 77 #[.int .i64 (q : Int), .pointer (some ⟨p, 0, none⟩)] W fun r w' => r = .returned (.int .i64 (R q)) ∧ w' = W := fun W hW => HT.out W hW q (by omega) (by omega)
  generalize R q = y at *
  have HT2 : Hid _ := hT2
  clear hT2
  go_enter Tryd.func76, Tryd.ntmps76
  go_wp2_with (go_at_call 77; refine (HT1.out _ H0.out).mono ?_; clear HT1; rintro r w1 ⟨rfl, rfl⟩)
  go_wp2_with (go_at_call 77; refine (HT2.out _ H0.out).mono ?_; rintro r w1 ⟨rfl, rfl⟩)
  all_goals
    go_ret
    first
      | (rw [show max (2 + y) (1 + z) = 1 + z by omega]; exact ⟨rfl, H0.out⟩)
      | (rw [show max (2 + y) (1 + z) = 2 + y by omega]; exact ⟨rfl, H0.out⟩)

set_option maxRecDepth 20000 in
set_option maxHeartbeats 8000000 in
theorem left_16 (w : World) (l : List In) (R : Nat → Int) (mb p k : Nat) (hl : l.length ≤ 2000) (hk : k < l.length) (iad : Option Addr) (ic : Nat) (a b : Int) (q : Nat) (hqk : k < q) (hql : q < l.length) (hC : ClosesD w mb k q) (hy : 0 ≤ R (q + 1) ∧ R (q + 1) ≤ 1099511627776)
    (i1 : w.cell? ⟨mb, 0, none⟩ = some (.slice iad l.length ic)) (hI : InSl w l (.slice iad l.length ic)) (hx : l.getD k in0 = ⟨16, a, b⟩) (hT : TellsD w p k l.length R) (hz : 0 ≤ R (k + 1) ∧ R (k + 1) ≤ 1099511627776) :
    Calls Tryd.prog 76 #[.pointer (some ⟨mb, 0, none⟩), .int .i64 k, .func (Fn.func 77) #[] #[.pointer (some ⟨p, 0, none⟩)]] w fun r w' => r = .returned (.int .i64 (1 + R (k + 1) + R (q + 1))) ∧ Below w.heap.size w w' := by
  obtain ⟨ad', c', e', hrow⟩ := hI
  cases e'
  rcases hrow with hrow | ⟨ib, io, rfl, hrow⟩
  · rw [hrow] at hk; simp at hk
  obtain ⟨c0, c1, c2⟩ := hrow k hk
  rw [hx] at c0 c1 c2
  dsimp only at c0 c1 c2
  have hki : (k : Int) < (l.length : Int) := by omega
  have lb1 : mb < w.heap.size := World.block_lt_of_cell? _ _ i1
  have lib : ib < w.heap.size := World.block_lt_of_cell? _ _ c0
  have HT : Hid (TellsD w p k l.length R) := hT
  have H0 : Hid (Below w.heap.size w (w.alloc (.cells #[.int .i64 16, .int .i64 a, .int .i64 b] 35))) := below_new _ _
  have hT1 : ∀ W, Below w.heap.size w W → Calls Tryd.prog 77 #[.int .i64 ((k : Int) + 1), .pointer (some ⟨p, 0, none⟩)] W fun r w' => r = .returned (.int .i64 (R (k + 1))) ∧ w' = W := fun W hW => HT.out W hW (k + 1) (by omega) (by omega)
  clear hT hrow hx
  generalize R (k + 1) = z at *
  have HT1 : Hid _ := hT1
  clear hT1
  have hT3 : ∀ W, Below w.heap.size w W → Calls Tryd.prog 77 #[.int .i64 ((q : Int) + 1), .pointer (some ⟨p, 0, none⟩)] W fun r w' => r = .returned (.int .i64 (R (q + 1))) ∧ w' = W := fun W hW => HT.out W hW (q + 1) (by omega) (by omega)
  generalize R (q + 1) = y at *
  have HT3 : Hid _ := hT3
  have HC : Hid (ClosesD w mb k q) := hC
  clear hT3 hC
  go_enter Tryd.func76, Tryd.ntmps76
  go_wp2_with (go_at_call 77; refine (HT1.out _ H0.out).mono ?_; clear HT1; rintro r w1 ⟨rfl, rfl⟩)
  go_wp2_with (go_at_call 111; refine (HC.out _ H0.out).mono ?_; rintro r w2 ⟨rfl, hb2⟩; have H2 : Hid (Below w.heap.size w w2) := below_seq H0.out hb2; clear hb2)
  go_wp2_with (go_at_call 77; refine (HT3.out _ H2.out).mono ?_; rintro r w3 ⟨rfl, rfl⟩)
  go_ret
  exact ⟨rfl, H2.out⟩

set_option maxRecDepth 20000 in
set_option maxHeartbeats 8000000 in
theorem left_else (w : World) (l : List In) (R : Nat → Int) (mb p k : Nat) (hl : l.length ≤ 2000) (hk : k < l.length) (iad : Option Addr) (ic : Nat) (op : Int) (a b : Int) (h14 : ¬ op = 14) (h17 : ¬ op = 17) (h11 : ¬ op = 11) (h12 : ¬ op = 12) (h13 : ¬ op = 13) (h16 : ¬ op = 16) (t : Int) (hcv : costI ⟨op, a, b⟩ false = t) (ht : 0 ≤ t ∧ t ≤ 1000) (hC : TicksD w op a b)
    (i1 : w.cell? ⟨mb, 0, none⟩ = some (.slice iad l.length ic)) (hI : InSl w l (.slice iad l.length ic)) (hx : l.getD k in0 = ⟨op, a, b⟩) (hT : TellsD w p k l.length R) (hz : 0 ≤ R (k + 1) ∧ R (k + 1) ≤ 1099511627776) :
    Calls Tryd.prog 76 #[.pointer (some ⟨mb, 0, none⟩), .int .i64 k, .func (Fn.func 77) #[] #[.pointer (some ⟨p, 0, none⟩)]] w fun r w' => r = .returned (.int .i64 (t + R (k + 1))) ∧ Below w.heap.size w w' := by
  obtain ⟨ad', c', e', hrow⟩ := hI
  cases e'
  rcases hrow with hrow | ⟨ib, io, rfl, hrow⟩
  · rw [hrow] at hk; simp at hk
  obtain ⟨c0, c1, c2⟩ := hrow k hk
  rw [hx] at c0 c1 c2
  dsimp only at c0 c1 c2
  have hki : (k : Int) < (l.length : Int) := by omega
  have lb1 : mb < w.heap.size := World.block_lt_of_cell? _ _ i1
  have lib : ib < w.heap.size := World.block_lt_of_cell? _ _ c0
  have HT : Hid (TellsD w p k l.length R) := hT
  have H0 : Hid (Below w.heap.size w (w.alloc (.cells #[.int .i64 op, .int .i64 a, .int .i64 b] 35))) := below_new _ _
  have hT1 : ∀ W, Below w.heap.size w W → Calls Tryd.prog 77 #[.int .i64 ((k : Int) + 1), .pointer (some ⟨p, 0, none⟩)] W fun r w' => r = .returned (.int .i64 (R (k + 1))) ∧ w' = W := fun W hW => HT.out W hW (k + 1) (by omega) (by omega)
  clear hT hrow hx
  generalize R (k + 1) = z at *
  have HT1 : Hid _ := hT1
  clear hT1
  have HC : Hid (TicksD w op a b) := hC
  clear hC
  go_enter Tryd.func76, Tryd.ntmps76
  go_wp2_with (go_at_call 77; refine (HT1.out _ H0.out).mono ?_; clear HT1; rintro r w1 ⟨rfl, rfl⟩)
  go_wp2_with (go_at_call 29; refine (HC.out _ H0.out false).mono ?_; rw [hcv]; rintro r w2 ⟨rfl, hb2⟩; have H2 : Hid (Below w.heap.size w w2) := below_seq H0.out hb2; clear hb2)
  go_ret
  exact ⟨rfl, H2.out⟩

set_option maxRecDepth 20000 in
set_option maxHeartbeats 8000000 in
theorem left_13 (w : World) (l : List In) (R : Nat → Int) (mb p k : Nat) (hl : l.length ≤ 2000) (hk : k < l.length) (iad : Option Addr) (ic : Nat) (a b : Int) (hb : 0 ≤ b ∧ b ≤ 1000) (q : Nat) (hqk : k < q) (hql : q < l.length) (hC : ClosesD w mb k q) (hy : 0 ≤ R (q + 1) ∧ R (q + 1) ≤ 1099511627776)
    (i1 : w.cell? ⟨mb, 0, none⟩ = some (.slice iad l.length ic)) (hI : InSl w l (.slice iad l.length ic)) (hx : l.getD k in0 = ⟨13, a, b⟩) (hT : TellsD w p k l.length R) (hz : 0 ≤ R (k + 1) ∧ R (k + 1) ≤ 1099511627776) :
    Calls Tryd.prog 76 #[.pointer (some ⟨mb, 0, none⟩), .int .i64 k, .func (Fn.func 77) #[] #[.pointer (some ⟨p, 0, none⟩)]] w fun r w' => r = .returned (.int .i64 (1 + ((b + 1) * R (k + 1) + b * 2 + 1) + R (q + 1))) ∧ Below w.heap.size w w' := by
  obtain ⟨ad', c', e', hrow⟩ := hI
  cases e'
  rcases hrow with hrow | ⟨ib, io, rfl, hrow⟩
  · rw [hrow] at hk; simp at hk
  obtain ⟨c0, c1, c2⟩ := hrow k hk
  rw [hx] at c0 c1 c2
  dsimp only at c0 c1 c2
  have hki : (k : Int) < (l.length : Int) := by omega
  have lb1 : mb < w.heap.size := World.block_lt_of_cell? _ _ i1
  have lib : ib < w.heap.size := World.block_lt_of_cell? _ _ c0
  have HT : Hid (TellsD w p k l.length R) := hT
  have H0 : Hid (Below w.heap.size w (w.alloc (.cells #[.int .i64 13, .int .i64 a, .int .i64 b] 35))) := below_new _ _
  have hT1 : ∀ W, Below w.heap.size w W → Calls Tryd.prog 77 #[.int .i64 ((k : Int) + 1), .pointer (some ⟨p, 0, none⟩)] W fun r w' => r = .returned (.int .i64 (R (k + 1))) ∧ w' = W := fun W hW => HT.out W hW (k + 1) (by omega) (by omega)
  clear hT hrow hx
  generalize R (k + 1) = z at *
  have HT1 : Hid _ := hT1
  clear hT1
  have hT3 : ∀ W, Below w.heap.size w W → Calls Tryd.prog 77 #[.int .i64 ((q : Int) + 1), .pointer (some ⟨p, 0, none⟩)] W fun r w' => r = .returned (.int .i64 (R (q + 1))) ∧ w' = W := fun W hW => HT.out W hW (q + 1) (by omega) (by omega)
  generalize R (q + 1) = y at *
  have HT3 : Hid _ := hT3
  have HC : Hid (ClosesD w mb k q) := hC
  clear hT3 hC
  have hm1 : 0 ≤ (b + 1) * z := Int.mul_nonneg (by omega) hz.1
  have hm2 : (b + 1) * z ≤ 1001 * 1099511627776 := Int.le_trans (Int.mul_le_mul_of_nonneg_left hz.2 (by omega)) (Int.mul_le_mul_of_nonneg_right (by omega) (by omega))
  have hw0 : IntKind.i64.wrap (b + 1) = b + 1 := by rw [IntKind.wrap_i64]; omega
  have hw1 : IntKind.i64.wrap ((b + 1) * z) = (b + 1) * z := by rw [IntKind.wrap_i64]; omega
  have hw2 : IntKind.i64.wrap (1 + (b + 1) * z) = 1 + (b + 1) * z := by rw [IntKind.wrap_i64]; omega
  have hw3 : IntKind.i64.wrap (2 * b) = 2 * b := by rw [IntKind.wrap_i64]; omega
  have hw4 : IntKind.i64.wrap (1 + (b + 1) * z + 2 * b) = 1 + (b + 1) * z + 2 * b := by rw [IntKind.wrap_i64]; omega
  have hw5 : IntKind.i64.wrap (1 + (b + 1) * z + 2 * b + 1) = 1 + (b + 1) * z + 2 * b + 1 := by rw [IntKind.wrap_i64]; omega
  have hw6 : IntKind.i64.wrap (1 + (b + 1) * z + 2 * b + 1 + y) = 1 + (b + 1) * z + 2 * b + 1 + y := by rw [IntKind.wrap_i64]; omega
  have hw7 : IntKind.i64.wrap ((q : Int) + 1) = (q : Int) + 1 := by rw [IntKind.wrap_i64]; omega
  go_enter Tryd.func76, Tryd.ntmps76
  go_wp2_with (go_at_call 77; refine (HT1.out _ H0.out).mono ?_; clear HT1; rintro r w1 ⟨rfl, rfl⟩)
  have x0 : (w.alloc (.cells #[.int .i64 13, .int .i64 a, .int .i64 b] 35)).cell? ⟨w.heap.size, 0, none⟩ = some (.int .i64 13) := by go_simp
  have x1 : (w.alloc (.cells #[.int .i64 13, .int .i64 a, .int .i64 b] 35)).cell? ⟨w.heap.size, 1, none⟩ = some (.int .i64 a) := by go_simp
  have x2 : (w.alloc (.cells #[.int .i64 13, .int .i64 a, .int .i64 b] 35)).cell? ⟨w.heap.size, 2, none⟩ = some (.int .i64 b) := by go_simp
  generalize w.alloc (.cells #[.int .i64 13, .int .i64 a, .int .i64 b] 35) = w1 at *
  go_region_held3 (fun w' => Below w1.heap.size w1 w' ∧ w'.cell? ⟨w.heap.size, 0, none⟩ = some (.int .i64 13) ∧ w'.cell? ⟨w.heap.size, 1, none⟩ = some (.int .i64 a) ∧ w'.cell? ⟨w.heap.size, 2, none⟩ = some (.int .i64 b))
    (first | assumption | exact ⟨(Below.refl _ _).drew, x0, x1, x2⟩)
    (first
      | (go_at_call 111; refine (HC.out _ (below_seq H0.out (And.left ‹Below w1.heap.size w1 _ ∧ _›))).mono ?_; rintro r wc ⟨rfl, hbc⟩; have hSc := keepX hbc ‹Below w1.heap.size w1 _ ∧ _›; clear hbc)
      | (go_at_call 77; refine (HT3.out _ (below_seq H0.out (And.left ‹Below w1.heap.size w1 _ ∧ _›))).mono ?_; rintro r wd ⟨rfl, rfl⟩))
  all_goals
    obtain ⟨hB, -⟩ := ‹Below w1.heap.size w1 _ ∧ _›
    have HB : Hid _ := below_seq H0.out hB
    clear hB
    go_wp2_with fail
    go_ret
    rw [show 1 + ((b + 1) * z + b * 2 + 1) + y = 1 + (b + 1) * z + 2 * b + 1 + y by omega]
    exact ⟨rfl, HB.out⟩

theorem left_any (w : World) (l : List In) (R : Nat → Int) (mb p k : Nat) (rs : List (Nat × Nat)) (gv : Value) (iad : Option Addr) (ic : Nat) (hg : GL l) (hk : k < l.length) (hR : ∀ j, k < j → j ≤ l.length → 0 ≤ R j ∧ R j ≤ 1099511627776)
    (hn : docNest l l 0 [] [] = .inr ([], rs)) (i1 : w.cell? ⟨mb, 0, none⟩ = some (.slice iad l.length ic)) (hI : InSl w l (.slice iad l.length ic)) (g1 : w.cell? ⟨mb, 1, none⟩ = some gv) (hr : RegSl w rs gv) (hrl : rs.length ≤ 1000000) (hS : ShAt w p k l.length R) :
    Calls Tryd.prog 76 #[.pointer (some ⟨mb, 0, none⟩), .int .i64 k, .func (Fn.func 77) #[] #[.pointer (some ⟨p, 0, none⟩)]] w fun r w' => r = .returned (.int .i64 (ruleI l R (clF l) k)) ∧ Below w.heap.size w w' := by
  have hf := hg.fwd.form k hk
  have hTl := tellsD_of k hg.len hS
  have hj := hg.fwd.jump k hk
  have hs := hg.fwd.shut k hk
  have hfc := find_cl hg hn hk
  have hz := hR (k + 1) (by omega) (by omega)
  have hC : ∀ q : Int, findR k rs = q → ClosesD w mb k q := fun q hq W hW => by
    rw [← hq]
    obtain ⟨ad, c, rfl, hrow⟩ := hr
    refine closes_any W mb k rs _ (below_cell hW g1) ⟨ad, c, rfl, ?_⟩ hrl
    rcases hrow with h | ⟨b, o, h1, h2⟩
    · exact .inl h
    · exact .inr ⟨b, o, h1, fun j hj => ⟨below_cell hW (h2 j hj).1, below_cell hW (h2 j hj).2⟩⟩
  rcases hx : l.getD k in0 with ⟨op, a, b⟩
  rw [hx] at hf hj hs hfc
  have hc := ticksD_of (w := w) hf
  have hcl := cost_le hf false
  obtain ⟨fa, -, -, -, f13, -⟩ := form_a hf
  unfold ruleI
  rw [hx]
  dsimp only at *
  by_cases h14 : op = 14
  · subst h14
    rw [if_pos rfl]
    exact left_14 w l R mb p k hg.len hk iad ic a b i1 hI hx hTl hz
  rw [if_neg h14]
  by_cases h17 : op = 17
  · subst h17
    rw [if_pos rfl]
    exact left_17 w l R mb p k hg.len hk iad ic a b i1 hI hx hTl hz
  rw [if_neg h17]
  by_cases h11 : op = 11
  · subst h11
    rw [if_pos rfl]
    have hj := hj (.inl rfl)
    exact left_11 w l R mb p k hg.len hk iad ic a b a.toNat (by omega) hj.1 hj.2 (hR _ hj.1 hj.2) i1 hI hx hTl hz
  rw [if_neg h11]
  by_cases h12 : op = 12
  · subst h12
    rw [if_pos rfl]
    have hj := hj (.inr rfl)
    exact left_12 w l R mb p k hg.len hk iad ic a b a.toNat (by omega) hj.1 hj.2 (hR _ hj.1 hj.2) i1 hI hx hTl hz
  rw [if_neg h12]
  by_cases h13 : op = 13
  · subst h13
    rw [if_pos rfl]
    have hs := hs (.inl rfl)
    exact left_13 w l R mb p k hg.len hk iad ic a b (f13 rfl) (clF l k) hs.1 hs.2 (hC _ (hfc (.inl rfl))) (hR _ (by omega) (by omega)) i1 hI hx hTl hz
  rw [if_neg h13]
  by_cases h16 : op = 16
  · subst h16
    rw [if_pos rfl]
    have hs := hs (.inr rfl)
    exact left_16 w l R mb p k hg.len hk iad ic a b (clF l k) hs.1 hs.2 (hC _ (hfc (.inr rfl))) (hR _ (by omega) (by omega)) i1 hI hx hTl hz
  rw [if_neg h16]
  exact left_else w l R mb p k hg.len hk iad ic op a b h14 h17 h11 h12 h13 h16 _ rfl (by omega) hc i1 hI hx hTl hz

end Go.Proofs.YtgemadoieielcacDoor
