import Derived.Test.YtgemadoieielcacDoorGWB
namespace Go.Proofs.YtgemadoieielcacDoor
open Go.ChangeShapes Go.WideShapes Go.ChangeAt Go.RowKit

/-- What rules knows. -/
structure RulesAt (w : World) (l : List In) (R : Nat → Int) (b1 b2 b3 : Nat) : Prop where
  img : ∃ ad c, w.cell? ⟨b1, 0, none⟩ = some (.slice ad l.length c) ∧ InSl w l (.slice ad l.length c)
  frm : ∃ p, w.cell? ⟨b2, 0, none⟩ = some (.func (Fn.func 112) #[] #[.pointer (some ⟨p, 0, none⟩)]) ∧ ToldAt w p l.length R
  cls : ∃ cb, w.cell? ⟨b3, 0, none⟩ = some (.slice (some ⟨cb, 0, none⟩) l.length l.length) ∧ ∀ j, j < l.length → w.cell? ⟨cb, j, none⟩ = some (.int .i64 (clF l j))

theorem RulesAt.below {w w' : World} {l : List In} {R : Nat → Int} {b1 b2 b3 : Nat} (h : RulesAt w l R b1 b2 b3) (hb : Below w.heap.size w w') : RulesAt w' l R b1 b2 b3 := by
  obtain ⟨ad, c, h1, h2⟩ := h.img
  obtain ⟨p, h3, h4⟩ := h.frm
  obtain ⟨cb, h5, h6⟩ := h.cls
  exact ⟨⟨ad, c, below_cell hb h1, h2.below hb⟩, ⟨p, below_cell hb h3, h4.below hb⟩, ⟨cb, below_cell hb h5, fun j hj => below_cell hb (h6 j hj)⟩⟩

theorem keepS {w1 W W' : World} {g b2 : Nat} {v0 v1 v2 f : Value} (hb : Below W.heap.size W W') (h : Below w1.heap.size w1 W ∧ W.cell? ⟨g, 0, none⟩ = some v0 ∧ W.cell? ⟨g, 1, none⟩ = some v1 ∧ W.cell? ⟨g, 2, none⟩ = some v2 ∧ W.cell? ⟨b2, 0, none⟩ = some f) :
    Below w1.heap.size w1 W' ∧ W'.cell? ⟨g, 0, none⟩ = some v0 ∧ W'.cell? ⟨g, 1, none⟩ = some v1 ∧ W'.cell? ⟨g, 2, none⟩ = some v2 ∧ W'.cell? ⟨b2, 0, none⟩ = some f :=
  ⟨below_seq h.1 hb, below_cell hb h.2.1, below_cell hb h.2.2.1, below_cell hb h.2.2.2.1, below_cell hb h.2.2.2.2⟩

theorem belowD (w : World) (n : Nat) : Below w.heap.size w (w.drewN n) := ⟨rfl, rfl, rfl, Nat.le_refl _, fun _ _ => rfl⟩

/-- What from tells, from the numbers further below. -/
def Tells (w : World) (p : Nat) (k : Nat) (n : Nat) (R : Nat → Int) : Prop := ∀ W, Below w.heap.size w W → ∀ j : Nat, k < j → j ≤ n → Calls Tryd.prog 112 #[.int .i64 j, .pointer (some ⟨p, 0, none⟩)] W fun r w' => r = .returned (.int .i64 (R j)) ∧ w' = W

theorem tells_of {w : World} {p n : Nat} {R : Nat → Int} (k : Nat) (hn : n ≤ 2000) (h0 : R n = 0) (ht : ToldAt w p n R) : Tells w p k n R := fun W hW j _ hj => told1_same W p n R j hn hj h0 (ht.below hW)

/-- What an instruction takes. -/
def Costs (w : World) (op a b : Int) : Prop := ∀ W, Below w.heap.size w W → ∀ o, Calls Tryd.prog 28 #[.agg #[.int .i64 op, .int .i64 a, .int .i64 b], .bool o] W fun r w' => r = .returned (.int .i64 (costI ⟨op, a, b⟩ o)) ∧ Below W.heap.size W w'

theorem costs_of {w : World} {op a b : Int} (hk : KindsIn w) (hf : formErr ⟨op, a, b⟩ = 0) : Costs w op a b := fun W hW o => cost_any W ⟨op, a, b⟩ o (hk.below hW) hf

set_option maxRecDepth 20000 in
set_option maxHeartbeats 8000000 in
theorem rules_14 (w : World) (l : List In) (R : Nat → Int) (b1 b2 b3 : Nat) (k : Nat) (hl : l.length ≤ 2000) (hk : k < l.length) (iad : Option Addr) (ic p cb : Nat) (a b : Int) 
    (i1 : w.cell? ⟨b1, 0, none⟩ = some (.slice iad l.length ic)) (f1 : w.cell? ⟨b2, 0, none⟩ = some (.func (Fn.func 112) #[] #[.pointer (some ⟨p, 0, none⟩)])) (d1 : w.cell? ⟨b3, 0, none⟩ = some (.slice (some ⟨cb, 0, none⟩) l.length l.length))
    (hI : InSl w l (.slice iad l.length ic)) (hx : l.getD k in0 = ⟨14, a, b⟩) (hC : Costs w 14 a b) (hT : Tells w p k l.length R) :
    Calls Tryd.prog 114 #[.int .i64 k, .pointer (some ⟨b1, 0, none⟩), .pointer (some ⟨b2, 0, none⟩), .pointer (some ⟨b3, 0, none⟩)] w fun r w' => r = .returned (.int .i64 0) ∧ Below w.heap.size w w' := by
  obtain ⟨ad', c', e', hrow⟩ := hI
  cases e'
  rcases hrow with hrow | ⟨ib, io, rfl, hrow⟩
  · rw [hrow] at hk; simp at hk
  obtain ⟨c0, c1, c2⟩ := hrow k hk
  rw [hx] at c0 c1 c2
  dsimp only at c0 c1 c2
  have hki : (k : Int) < (l.length : Int) := by omega
  have lb1 : b1 < w.heap.size := World.block_lt_of_cell? _ _ i1
  have lb2 : b2 < w.heap.size := World.block_lt_of_cell? _ _ f1
  have lb3 : b3 < w.heap.size := World.block_lt_of_cell? _ _ d1
  have lib : ib < w.heap.size := World.block_lt_of_cell? _ _ c0
  have HC : Hid (Costs w 14 a b) := hC
  have HT : Hid (Tells w p k l.length R) := hT
  have H0 : Hid (Below w.heap.size w (w.alloc (.cells #[.int .i64 14, .int .i64 a, .int .i64 b] 35))) := below_new _ _
  clear hC hT hrow hx
  go_enter Tryd.func114, Tryd.ntmps114
  go_wp2_with (go_at_call 28; refine (HC.out _ H0.out false).mono ?_; rw [show costI ⟨14, a, b⟩ false = 1 from rfl]; rintro r w1 ⟨rfl, hb1⟩; have H1 : Hid (Below w.heap.size w w1) := below_seq H0.out hb1; have x0 : w1.cell? ⟨w.heap.size, 0, none⟩ = some (.int .i64 14) := below_cell hb1 (by go_simp); have x1 : w1.cell? ⟨w.heap.size, 1, none⟩ = some (.int .i64 a) := below_cell hb1 (by go_simp); have x2 : w1.cell? ⟨w.heap.size, 2, none⟩ = some (.int .i64 b) := below_cell hb1 (by go_simp); have g1 := below_cell H1.out i1; have g2 := below_cell H1.out f1; have g3 := below_cell H1.out d1; have lx : w.heap.size < w1.heap.size := World.block_lt_of_cell? w1 _ x0; clear hb1)
  go_ret
  exact ⟨rfl, H1.out⟩

set_option maxRecDepth 20000 in
set_option maxHeartbeats 8000000 in
theorem rules_17 (w : World) (l : List In) (R : Nat → Int) (b1 b2 b3 : Nat) (k : Nat) (hl : l.length ≤ 2000) (hk : k < l.length) (iad : Option Addr) (ic p cb : Nat) (a b : Int) 
    (i1 : w.cell? ⟨b1, 0, none⟩ = some (.slice iad l.length ic)) (f1 : w.cell? ⟨b2, 0, none⟩ = some (.func (Fn.func 112) #[] #[.pointer (some ⟨p, 0, none⟩)])) (d1 : w.cell? ⟨b3, 0, none⟩ = some (.slice (some ⟨cb, 0, none⟩) l.length l.length))
    (hI : InSl w l (.slice iad l.length ic)) (hx : l.getD k in0 = ⟨17, a, b⟩) (hC : Costs w 17 a b) (hT : Tells w p k l.length R) :
    Calls Tryd.prog 114 #[.int .i64 k, .pointer (some ⟨b1, 0, none⟩), .pointer (some ⟨b2, 0, none⟩), .pointer (some ⟨b3, 0, none⟩)] w fun r w' => r = .returned (.int .i64 1) ∧ Below w.heap.size w w' := by
  obtain ⟨ad', c', e', hrow⟩ := hI
  cases e'
  rcases hrow with hrow | ⟨ib, io, rfl, hrow⟩
  · rw [hrow] at hk; simp at hk
  obtain ⟨c0, c1, c2⟩ := hrow k hk
  rw [hx] at c0 c1 c2
  dsimp only at c0 c1 c2
  have hki : (k : Int) < (l.length : Int) := by omega
  have lb1 : b1 < w.heap.size := World.block_lt_of_cell? _ _ i1
  have lb2 : b2 < w.heap.size := World.block_lt_of_cell? _ _ f1
  have lb3 : b3 < w.heap.size := World.block_lt_of_cell? _ _ d1
  have lib : ib < w.heap.size := World.block_lt_of_cell? _ _ c0
  have HC : Hid (Costs w 17 a b) := hC
  have HT : Hid (Tells w p k l.length R) := hT
  have H0 : Hid (Below w.heap.size w (w.alloc (.cells #[.int .i64 17, .int .i64 a, .int .i64 b] 35))) := below_new _ _
  clear hC hT hrow hx
  go_enter Tryd.func114, Tryd.ntmps114
  go_wp2_with (go_at_call 28; refine (HC.out _ H0.out false).mono ?_; rw [show costI ⟨17, a, b⟩ false = 1 from rfl]; rintro r w1 ⟨rfl, hb1⟩; have H1 : Hid (Below w.heap.size w w1) := below_seq H0.out hb1; have x0 : w1.cell? ⟨w.heap.size, 0, none⟩ = some (.int .i64 17) := below_cell hb1 (by go_simp); have x1 : w1.cell? ⟨w.heap.size, 1, none⟩ = some (.int .i64 a) := below_cell hb1 (by go_simp); have x2 : w1.cell? ⟨w.heap.size, 2, none⟩ = some (.int .i64 b) := below_cell hb1 (by go_simp); have g1 := below_cell H1.out i1; have g2 := below_cell H1.out f1; have g3 := below_cell H1.out d1; have lx : w.heap.size < w1.heap.size := World.block_lt_of_cell? w1 _ x0; clear hb1)
  go_ret
  exact ⟨rfl, H1.out⟩

set_option maxRecDepth 20000 in
set_option maxHeartbeats 8000000 in
theorem rules_else (w : World) (l : List In) (R : Nat → Int) (b1 b2 b3 : Nat) (k : Nat) (hl : l.length ≤ 2000) (hk : k < l.length) (iad : Option Addr) (ic p cb : Nat) (op : Int) (a b : Int) (h14 : ¬ op = 14) (h17 : ¬ op = 17) (h11 : ¬ op = 11) (h12 : ¬ op = 12) (h13 : ¬ op = 13) (h16 : ¬ op = 16) (t : Int) (hcv : costI ⟨op, a, b⟩ false = t) (ht : 0 ≤ t ∧ t ≤ 1000) (hz : 0 ≤ R (k + 1) ∧ R (k + 1) ≤ 1099511627776)
    (i1 : w.cell? ⟨b1, 0, none⟩ = some (.slice iad l.length ic)) (f1 : w.cell? ⟨b2, 0, none⟩ = some (.func (Fn.func 112) #[] #[.pointer (some ⟨p, 0, none⟩)])) (d1 : w.cell? ⟨b3, 0, none⟩ = some (.slice (some ⟨cb, 0, none⟩) l.length l.length))
    (hI : InSl w l (.slice iad l.length ic)) (hx : l.getD k in0 = ⟨op, a, b⟩) (hC : Costs w op a b) (hT : Tells w p k l.length R) :
    Calls Tryd.prog 114 #[.int .i64 k, .pointer (some ⟨b1, 0, none⟩), .pointer (some ⟨b2, 0, none⟩), .pointer (some ⟨b3, 0, none⟩)] w fun r w' => r = .returned (.int .i64 (t + R (k + 1))) ∧ Below w.heap.size w w' := by
  obtain ⟨ad', c', e', hrow⟩ := hI
  cases e'
  rcases hrow with hrow | ⟨ib, io, rfl, hrow⟩
  · rw [hrow] at hk; simp at hk
  obtain ⟨c0, c1, c2⟩ := hrow k hk
  rw [hx] at c0 c1 c2
  dsimp only at c0 c1 c2
  have hki : (k : Int) < (l.length : Int) := by omega
  have lb1 : b1 < w.heap.size := World.block_lt_of_cell? _ _ i1
  have lb2 : b2 < w.heap.size := World.block_lt_of_cell? _ _ f1
  have lb3 : b3 < w.heap.size := World.block_lt_of_cell? _ _ d1
  have lib : ib < w.heap.size := World.block_lt_of_cell? _ _ c0
  have HC : Hid (Costs w op a b) := hC
  have HT : Hid (Tells w p k l.length R) := hT
  have H0 : Hid (Below w.heap.size w (w.alloc (.cells #[.int .i64 op, .int .i64 a, .int .i64 b] 35))) := below_new _ _
  clear hC hT hrow hx
  go_enter Tryd.func114, Tryd.ntmps114
  have hT1 : ∀ W, Below w.heap.size w W → Calls Tryd.prog 112 #[.int .i64 ((k : Int) + 1), .pointer (some ⟨p, 0, none⟩)] W fun r w' => r = .returned (.int .i64 (R (k + 1))) ∧ w' = W := fun W hW => HT.out W hW (k + 1) (by omega) (by omega)
  generalize R (k + 1) = z at *
  have HT1 : Hid _ := hT1
  clear hT1
  go_wp2_with (go_at_call 28; refine (HC.out _ H0.out false).mono ?_; rw [show costI ⟨op, a, b⟩ false = t from hcv]; rintro r w1 ⟨rfl, hb1⟩; have H1 : Hid (Below w.heap.size w w1) := below_seq H0.out hb1; have x0 : w1.cell? ⟨w.heap.size, 0, none⟩ = some (.int .i64 op) := below_cell hb1 (by go_simp); have x1 : w1.cell? ⟨w.heap.size, 1, none⟩ = some (.int .i64 a) := below_cell hb1 (by go_simp); have x2 : w1.cell? ⟨w.heap.size, 2, none⟩ = some (.int .i64 b) := below_cell hb1 (by go_simp); have g1 := below_cell H1.out i1; have g2 := below_cell H1.out f1; have g3 := below_cell H1.out d1; have lx : w.heap.size < w1.heap.size := World.block_lt_of_cell? w1 _ x0; clear hb1)
  go_wp2_with (go_at_call 112; refine (HT1.out _ H1.out).mono ?_; rintro r w2 ⟨rfl, rfl⟩)
  go_ret
  exact ⟨rfl, H1.out⟩

set_option maxRecDepth 20000 in
set_option maxHeartbeats 8000000 in
theorem rules_11 (w : World) (l : List In) (R : Nat → Int) (b1 b2 b3 : Nat) (k : Nat) (hl : l.length ≤ 2000) (hk : k < l.length) (iad : Option Addr) (ic p cb : Nat) (a b : Int) (q : Nat) (hq : a = q) (hqk : k < q) (hql : q ≤ l.length) (hz : 0 ≤ R q ∧ R q ≤ 1099511627776)
    (i1 : w.cell? ⟨b1, 0, none⟩ = some (.slice iad l.length ic)) (f1 : w.cell? ⟨b2, 0, none⟩ = some (.func (Fn.func 112) #[] #[.pointer (some ⟨p, 0, none⟩)])) (d1 : w.cell? ⟨b3, 0, none⟩ = some (.slice (some ⟨cb, 0, none⟩) l.length l.length))
    (hI : InSl w l (.slice iad l.length ic)) (hx : l.getD k in0 = ⟨11, a, b⟩) (hC : Costs w 11 a b) (hT : Tells w p k l.length R) :
    Calls Tryd.prog 114 #[.int .i64 k, .pointer (some ⟨b1, 0, none⟩), .pointer (some ⟨b2, 0, none⟩), .pointer (some ⟨b3, 0, none⟩)] w fun r w' => r = .returned (.int .i64 (2 + R q)) ∧ Below w.heap.size w w' := by
  subst hq
  obtain ⟨ad', c', e', hrow⟩ := hI
  cases e'
  rcases hrow with hrow | ⟨ib, io, rfl, hrow⟩
  · rw [hrow] at hk; simp at hk
  obtain ⟨c0, c1, c2⟩ := hrow k hk
  rw [hx] at c0 c1 c2
  dsimp only at c0 c1 c2
  have hki : (k : Int) < (l.length : Int) := by omega
  have lb1 : b1 < w.heap.size := World.block_lt_of_cell? _ _ i1
  have lb2 : b2 < w.heap.size := World.block_lt_of_cell? _ _ f1
  have lb3 : b3 < w.heap.size := World.block_lt_of_cell? _ _ d1
  have lib : ib < w.heap.size := World.block_lt_of_cell? _ _ c0
  have HC : Hid (Costs w 11 q b) := hC
  have HT : Hid (Tells w p k l.length R) := hT
  have H0 : Hid (Below w.heap.size w (w.alloc (.cells #[.int .i64 11, .int .i64 q, .int .i64 b] 35))) := below_new _ _
  clear hC hT hrow hx
  go_enter Tryd.func114, Tryd.ntmps114
  have hT1 : ∀ W, Below w.heap.size w W → Calls Tryd.prog 112 #[.int .i64 (q : Int), .pointer (some ⟨p, 0, none⟩)] W fun r w' => r = .returned (.int .i64 (R q)) ∧ w' = W := fun W hW => HT.out W hW q (by omega) (by omega)
  generalize R q = z at *
  have HT1 : Hid _ := hT1
  clear hT1
  go_wp2_with (go_at_call 28; refine (HC.out _ H0.out false).mono ?_; rw [show costI ⟨11, q, b⟩ false = 2 from rfl]; rintro r w1 ⟨rfl, hb1⟩; have H1 : Hid (Below w.heap.size w w1) := below_seq H0.out hb1; have x0 : w1.cell? ⟨w.heap.size, 0, none⟩ = some (.int .i64 11) := below_cell hb1 (by go_simp); have x1 : w1.cell? ⟨w.heap.size, 1, none⟩ = some (.int .i64 q) := below_cell hb1 (by go_simp); have x2 : w1.cell? ⟨w.heap.size, 2, none⟩ = some (.int .i64 b) := below_cell hb1 (by go_simp); have g1 := below_cell H1.out i1; have g2 := below_cell H1.out f1; have g3 := below_cell H1.out d1; have lx : w.heap.size < w1.heap.size := World.block_lt_of_cell? w1 _ x0; clear hb1)
  go_wp2_with (go_at_call 112; refine (HT1.out _ H1.out).mono ?_; rintro r w2 ⟨rfl, rfl⟩)
  go_ret
  exact ⟨rfl, H1.out⟩

set_option maxRecDepth 20000 in
set_option maxHeartbeats 8000000 in
theorem rules_16 (w : World) (l : List In) (R : Nat → Int) (b1 b2 b3 : Nat) (k : Nat) (hl : l.length ≤ 2000) (hk : k < l.length) (iad : Option Addr) (ic p cb : Nat) (a b : Int) (q : Nat) (hqk : k < q) (hql : q < l.length) (hq : w.cell? ⟨cb, k, none⟩ = some (.int .i64 q)) (hz : 0 ≤ R (k + 1) ∧ R (k + 1) ≤ 1099511627776) (hy : 0 ≤ R (q + 1) ∧ R (q + 1) ≤ 1099511627776)
    (i1 : w.cell? ⟨b1, 0, none⟩ = some (.slice iad l.length ic)) (f1 : w.cell? ⟨b2, 0, none⟩ = some (.func (Fn.func 112) #[] #[.pointer (some ⟨p, 0, none⟩)])) (d1 : w.cell? ⟨b3, 0, none⟩ = some (.slice (some ⟨cb, 0, none⟩) l.length l.length))
    (hI : InSl w l (.slice iad l.length ic)) (hx : l.getD k in0 = ⟨16, a, b⟩) (hC : Costs w 16 a b) (hT : Tells w p k l.length R) :
    Calls Tryd.prog 114 #[.int .i64 k, .pointer (some ⟨b1, 0, none⟩), .pointer (some ⟨b2, 0, none⟩), .pointer (some ⟨b3, 0, none⟩)] w fun r w' => r = .returned (.int .i64 (1 + R (k + 1) + R (q + 1))) ∧ Below w.heap.size w w' := by
  obtain ⟨ad', c', e', hrow⟩ := hI
  cases e'
  rcases hrow with hrow | ⟨ib, io, rfl, hrow⟩
  · rw [hrow] at hk; simp at hk
  obtain ⟨c0, c1, c2⟩ := hrow k hk
  rw [hx] at c0 c1 c2
  dsimp only at c0 c1 c2
  have hki : (k : Int) < (l.length : Int) := by omega
  have lb1 : b1 < w.heap.size := World.block_lt_of_cell? _ _ i1
  have lb2 : b2 < w.heap.size := World.block_lt_of_cell? _ _ f1
  have lb3 : b3 < w.heap.size := World.block_lt_of_cell? _ _ d1
  have lib : ib < w.heap.size := World.block_lt_of_cell? _ _ c0
  have HC : Hid (Costs w 16 a b) := hC
  have HT : Hid (Tells w p k l.length R) := hT
  have H0 : Hid (Below w.heap.size w (w.alloc (.cells #[.int .i64 16, .int .i64 a, .int .i64 b] 35))) := below_new _ _
  clear hC hT hrow hx
  go_enter Tryd.func114, Tryd.ntmps114
  have hT1 : ∀ W, Below w.heap.size w W → Calls Tryd.prog 112 #[.int .i64 ((k : Int) + 1), .pointer (some ⟨p, 0, none⟩)] W fun r w' => r = .returned (.int .i64 (R (k + 1))) ∧ ∃ m, w' = W.drewN m := fun W hW => (HT.out W hW (k + 1) (by omega) (by omega)).mono fun _ _ ⟨h1, h2⟩ => ⟨h1, 0, h2⟩
  have hT2 : ∀ W, Below w.heap.size w W → Calls Tryd.prog 112 #[.int .i64 ((q : Int) + 1), .pointer (some ⟨p, 0, none⟩)] W fun r w' => r = .returned (.int .i64 (R (q + 1))) ∧ ∃ m, w' = W.drewN m := fun W hW => (HT.out W hW (q + 1) (by omega) (by omega)).mono fun _ _ ⟨h1, h2⟩ => ⟨h1, 0, h2⟩
  generalize R (k + 1) = z at *
  generalize R (q + 1) = y at *
  have HT1 : Hid _ := hT1
  have HT2 : Hid _ := hT2
  clear hT1 hT2
  go_wp2_with (go_at_call 28; refine (HC.out _ H0.out false).mono ?_; rw [show costI ⟨16, a, b⟩ false = 1 from rfl]; rintro r w1 ⟨rfl, hb1⟩; have H1 : Hid (Below w.heap.size w w1) := below_seq H0.out hb1; have x0 : w1.cell? ⟨w.heap.size, 0, none⟩ = some (.int .i64 16) := below_cell hb1 (by go_simp); have x1 : w1.cell? ⟨w.heap.size, 1, none⟩ = some (.int .i64 a) := below_cell hb1 (by go_simp); have x2 : w1.cell? ⟨w.heap.size, 2, none⟩ = some (.int .i64 b) := below_cell hb1 (by go_simp); have g1 := below_cell H1.out i1; have g2 := below_cell H1.out f1; have g3 := below_cell H1.out d1; have lx : w.heap.size < w1.heap.size := World.block_lt_of_cell? w1 _ x0; clear hb1)
  have hq1 := below_cell H1.out hq
  go_quiet (first
    | (go_at_call_of 112 q; exact Calls.quiet_of (HT2.out _ (below_seq H1.out (belowD _ _))))
    | (go_at_call 112; exact Calls.quiet_of (HT1.out _ (below_seq H1.out (belowD _ _)))))
  go_wp2_with fail
  go_ret
  exact ⟨rfl, below_seq H1.out (belowD _ _)⟩

end Go.Proofs.YtgemadoieielcacDoor
