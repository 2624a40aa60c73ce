import Derived.Test.YtgemadoieielcacDoorGWR
namespace Go.Proofs.YtgemadoieielcacDoor
open Go.ChangeShapes Go.WideShapes Go.ChangeAt Go.RowKit

theorem keepT {w1 W W' : World} {g b2 g9 : Nat} {v0 v1 v2 f u0 u1 u2 : Value} (hb : Below W.heap.size W W') (h : Below w1.heap.size w1 W ∧ W.cell? ⟨g, 0, none⟩ = some v0 ∧ W.cell? ⟨g, 1, none⟩ = some v1 ∧ W.cell? ⟨g, 2, none⟩ = some v2 ∧ W.cell? ⟨b2, 0, none⟩ = some f ∧ W.cell? ⟨g9, 0, none⟩ = some u0 ∧ W.cell? ⟨g9, 1, none⟩ = some u1 ∧ W.cell? ⟨g9, 2, none⟩ = some u2) :
    Below w1.heap.size w1 W' ∧ W'.cell? ⟨g, 0, none⟩ = some v0 ∧ W'.cell? ⟨g, 1, none⟩ = some v1 ∧ W'.cell? ⟨g, 2, none⟩ = some v2 ∧ W'.cell? ⟨b2, 0, none⟩ = some f ∧ W'.cell? ⟨g9, 0, none⟩ = some u0 ∧ W'.cell? ⟨g9, 1, none⟩ = some u1 ∧ W'.cell? ⟨g9, 2, none⟩ = some u2 :=
  ⟨below_seq h.1 hb, below_cell hb h.2.1, below_cell hb h.2.2.1, below_cell hb h.2.2.2.1, below_cell hb h.2.2.2.2.1, below_cell hb h.2.2.2.2.2.1, below_cell hb h.2.2.2.2.2.2.1, below_cell hb h.2.2.2.2.2.2.2⟩

set_option maxRecDepth 20000 in
set_option maxHeartbeats 8000000 in
theorem rules_12 (w : World) (l : List In) (R : Nat → Int) (b1 b2 b3 : Nat) (k : Nat) (hl : l.length ≤ 2000) (hk : k < l.length) (iad : Option Addr) (ic p cb : Nat) (a b : Int) (q : Nat) (hq : a = q) (hqk : k < q) (hql : q ≤ l.length) (hz : 0 ≤ R (k + 1) ∧ R (k + 1) ≤ 1099511627776) (hy : 0 ≤ R q ∧ R q ≤ 1099511627776)
    (i1 : w.cell? ⟨b1, 0, none⟩ = some (.slice iad l.length ic)) (f1 : w.cell? ⟨b2, 0, none⟩ = some (.func (Fn.func 112) #[] #[.pointer (some ⟨p, 0, none⟩)])) (d1 : w.cell? ⟨b3, 0, none⟩ = some (.slice (some ⟨cb, 0, none⟩) l.length l.length))
    (hI : InSl w l (.slice iad l.length ic)) (hx : l.getD k in0 = ⟨12, a, b⟩) (hC : Costs w 12 a b) (hT : Tells w p k l.length R) :
    Calls Tryd.prog 114 #[.int .i64 k, .pointer (some ⟨b1, 0, none⟩), .pointer (some ⟨b2, 0, none⟩), .pointer (some ⟨b3, 0, none⟩)] w fun r w' => r = .returned (.int .i64 (max (2 + R q) (1 + R (k + 1)))) ∧ Below w.heap.size w w' := by
  subst hq
  obtain ⟨ad', c', e', hrow⟩ := hI
  cases e'
  rcases hrow with hrow | ⟨ib, io, rfl, hrow⟩
  · rw [hrow] at hk; simp at hk
  obtain ⟨c0, c1, c2⟩ := hrow k hk
  rw [hx] at c0 c1 c2
  dsimp only at c0 c1 c2
  have hki : (k : Int) < (l.length : Int) := by omega
  have lb1 : b1 < w.heap.size := World.block_lt_of_cell? _ _ i1
  have lb2 : b2 < w.heap.size := World.block_lt_of_cell? _ _ f1
  have lb3 : b3 < w.heap.size := World.block_lt_of_cell? _ _ d1
  have lib : ib < w.heap.size := World.block_lt_of_cell? _ _ c0
  have HC : Hid (Costs w 12 q b) := hC
  have HT : Hid (Tells w p k l.length R) := hT
  have H0 : Hid (Below w.heap.size w (w.alloc (.cells #[.int .i64 12, .int .i64 q, .int .i64 b] 35))) := below_new _ _
  clear hC hT hrow hx
  go_enter Tryd.func114, Tryd.ntmps114
  have hT1 : ∀ W, Below w.heap.size w W → Calls Tryd.prog 112 #[.int .i64 ((k : Int) + 1), .pointer (some ⟨p, 0, none⟩)] W fun r w' => r = .returned (.int .i64 (R (k + 1))) ∧ w' = W := fun W hW => HT.out W hW (k + 1) (by omega) (by omega)
  have hT2 : ∀ W, Below w.heap.size w W → Calls Tryd.prog 112 #[.int .i64 (q : Int), .pointer (some ⟨p, 0, none⟩)] W fun r w' => r = .returned (.int .i64 (R q)) ∧ w' = W := fun W hW => HT.out W hW q (by omega) (by omega)
  generalize R (k + 1) = z at *
  generalize R q = y at *
  have HT1 : Hid _ := hT1
  have HT2 : Hid _ := hT2
  clear hT1 hT2 HT
  have hw1 : IntKind.i64.wrap (2 + y) = 2 + y := by rw [IntKind.wrap_i64]; omega
  have hw2 : IntKind.i64.wrap (1 + z) = 1 + z := by rw [IntKind.wrap_i64]; omega
  go_wp2_with (go_at_call 28; refine (HC.out _ H0.out false).mono ?_; rw [show costI ⟨12, q, b⟩ false = 1 from rfl]; rintro r w1 ⟨rfl, hb1⟩; have H1 : Hid (Below w.heap.size w w1) := below_seq H0.out hb1; have x0 : w1.cell? ⟨w.heap.size, 0, none⟩ = some (.int .i64 12) := below_cell hb1 (by go_simp); have x1 : w1.cell? ⟨w.heap.size, 1, none⟩ = some (.int .i64 q) := below_cell hb1 (by go_simp); have x2 : w1.cell? ⟨w.heap.size, 2, none⟩ = some (.int .i64 b) := below_cell hb1 (by go_simp); have g1 := below_cell H1.out i1; have g2 := below_cell H1.out f1; have g3 := below_cell H1.out d1; have lx : w.heap.size < w1.heap.size := World.block_lt_of_cell? w1 _ x0; clear hb1)
  go_region_held3 (fun w' => Below w1.heap.size w1 w' ∧ w'.cell? ⟨w.heap.size, 0, none⟩ = some (.int .i64 12) ∧ w'.cell? ⟨w.heap.size, 1, none⟩ = some (.int .i64 q) ∧ w'.cell? ⟨w.heap.size, 2, none⟩ = some (.int .i64 b) ∧ w'.cell? ⟨b2, 0, none⟩ = some (.func (Fn.func 112) #[] #[.pointer (some ⟨p, 0, none⟩)]))
    (first | assumption | exact ⟨(Below.refl _ _).drew, x0, x1, x2, g2⟩)
    (first
      | (go_at_call 28; refine (HC.out _ (below_seq H1.out (And.left ‹Below w1.heap.size w1 _ ∧ _›)) true).mono ?_; rw [show costI ⟨12, q, b⟩ true = 2 from rfl]; rintro r wc ⟨rfl, hbc⟩; have hSc := keepS hbc ‹Below w1.heap.size w1 _ ∧ _›; clear hbc)
      | (go_at_call_of 112 q; refine (HT2.out _ (below_seq H1.out (And.left ‹Below w1.heap.size w1 _ ∧ _›))).mono ?_; rintro r wd ⟨rfl, rfl⟩)
      | (go_at_call 112; refine (HT1.out _ (below_seq H1.out (And.left ‹Below w1.heap.size w1 _ ∧ _›))).mono ?_; rintro r wd ⟨rfl, rfl⟩))
  all_goals
    obtain ⟨hB, -⟩ := ‹Below w1.heap.size w1 _ ∧ _›
    have HB : Hid _ := hB
    clear hB
    go_wp2_with fail
    all_goals
      go_ret
      first
        | (rw [show max (2 + y) (1 + z) = 1 + z by omega]; exact ⟨rfl, below_seq H1.out HB.out⟩)
        | (rw [show max (2 + y) (1 + z) = 2 + y by omega]; exact ⟨rfl, below_seq H1.out HB.out⟩)

set_option maxRecDepth 20000 in
set_option maxHeartbeats 8000000 in
theorem rules_13 (w : World) (l : List In) (R : Nat → Int) (b1 b2 b3 : Nat) (k : Nat) (hl : l.length ≤ 2000) (hk : k < l.length) (iad : Option Addr) (ic p cb : Nat) (a b : Int) (q : Nat) (a2 b2v : Int) (hb : 0 ≤ b ∧ b ≤ 1000) (hqk : k < q) (hql : q < l.length) (hq : w.cell? ⟨cb, k, none⟩ = some (.int .i64 q)) (hz : 0 ≤ R (k + 1) ∧ R (k + 1) ≤ 1099511627776) (hy : 0 ≤ R (q + 1) ∧ R (q + 1) ≤ 1099511627776) (hx2 : l.getD q in0 = ⟨14, a2, b2v⟩) (hC2 : Costs w 14 a2 b2v)
    (i1 : w.cell? ⟨b1, 0, none⟩ = some (.slice iad l.length ic)) (f1 : w.cell? ⟨b2, 0, none⟩ = some (.func (Fn.func 112) #[] #[.pointer (some ⟨p, 0, none⟩)])) (d1 : w.cell? ⟨b3, 0, none⟩ = some (.slice (some ⟨cb, 0, none⟩) l.length l.length))
    (hI : InSl w l (.slice iad l.length ic)) (hx : l.getD k in0 = ⟨13, a, b⟩) (hC : Costs w 13 a b) (hT : Tells w p k l.length R) :
    Calls Tryd.prog 114 #[.int .i64 k, .pointer (some ⟨b1, 0, none⟩), .pointer (some ⟨b2, 0, none⟩), .pointer (some ⟨b3, 0, none⟩)] w fun r w' => r = .returned (.int .i64 (1 + ((b + 1) * R (k + 1) + b * 2 + 1) + R (q + 1))) ∧ Below w.heap.size w w' := by
  obtain ⟨ad', c', e', hrow⟩ := hI
  cases e'
  rcases hrow with hrow | ⟨ib, io, rfl, hrow⟩
  · rw [hrow] at hk; simp at hk
  obtain ⟨c0, c1, c2⟩ := hrow k hk
  rw [hx] at c0 c1 c2
  dsimp only at c0 c1 c2
  have hki : (k : Int) < (l.length : Int) := by omega
  have lb1 : b1 < w.heap.size := World.block_lt_of_cell? _ _ i1
  have lb2 : b2 < w.heap.size := World.block_lt_of_cell? _ _ f1
  have lb3 : b3 < w.heap.size := World.block_lt_of_cell? _ _ d1
  have lib : ib < w.heap.size := World.block_lt_of_cell? _ _ c0
  have HC : Hid (Costs w 13 a b) := hC
  have HT : Hid (Tells w p k l.length R) := hT
  have H0 : Hid (Below w.heap.size w (w.alloc (.cells #[.int .i64 13, .int .i64 a, .int .i64 b] 35))) := below_new _ _
  obtain ⟨y0, y1, y2⟩ := hrow q hql
  rw [hx2] at y0 y1 y2
  dsimp only at y0 y1 y2
  have HC2 : Hid (Costs w 14 a2 b2v) := hC2
  have hqi : (q : Int) < (l.length : Int) := by omega
  clear hC hT hrow hx hx2 hC2
  go_enter Tryd.func114, Tryd.ntmps114
  have hT1 : ∀ W, Below w.heap.size w W → Calls Tryd.prog 112 #[.int .i64 ((k : Int) + 1), .pointer (some ⟨p, 0, none⟩)] W fun r w' => r = .returned (.int .i64 (R (k + 1))) ∧ w' = W := fun W hW => HT.out W hW (k + 1) (by omega) (by omega)
  have hT2 : ∀ W, Below w.heap.size w W → Calls Tryd.prog 112 #[.int .i64 ((q : Int) + 1), .pointer (some ⟨p, 0, none⟩)] W fun r w' => r = .returned (.int .i64 (R (q + 1))) ∧ ∃ m, w' = W.drewN m := fun W hW => (HT.out W hW (q + 1) (by omega) (by omega)).mono fun _ _ ⟨h1, h2⟩ => ⟨h1, 0, h2⟩
  generalize R (k + 1) = z at *
  generalize R (q + 1) = y at *
  have HT1 : Hid _ := hT1
  have HT2 : Hid _ := hT2
  clear hT1 hT2 HT
  have hm1 : 0 ≤ (b + 1) * z := Int.mul_nonneg (by omega) hz.1
  have hm2 : (b + 1) * z ≤ 1001 * 1099511627776 := Int.le_trans (Int.mul_le_mul_of_nonneg_left hz.2 (by omega)) (Int.mul_le_mul_of_nonneg_right (by omega) (by omega))
  have hmw : wrap64 ((b + 1) * z) = (b + 1) * z := wr_in (by omega)
  go_wp2_with (go_at_call 28; refine (HC.out _ H0.out false).mono ?_; rw [show costI ⟨13, a, b⟩ false = 1 from rfl]; rintro r w1 ⟨rfl, hb1⟩; have H1 : Hid (Below w.heap.size w w1) := below_seq H0.out hb1; have x0 : w1.cell? ⟨w.heap.size, 0, none⟩ = some (.int .i64 13) := below_cell hb1 (by go_simp); have x1 : w1.cell? ⟨w.heap.size, 1, none⟩ = some (.int .i64 a) := below_cell hb1 (by go_simp); have x2 : w1.cell? ⟨w.heap.size, 2, none⟩ = some (.int .i64 b) := below_cell hb1 (by go_simp); have g1 := below_cell H1.out i1; have g2 := below_cell H1.out f1; have g3 := below_cell H1.out d1; have lx : w.heap.size < w1.heap.size := World.block_lt_of_cell? w1 _ x0; have hq1 := below_cell H1.out hq; have z0 := below_cell H1.out y0; have z1 := below_cell H1.out y1; have z2 := below_cell H1.out y2; clear hb1 hq y0 y1 y2 i1 f1 d1 c0 c1 c2)
  go_region_held3 (fun w' => w'.cell? ⟨w.heap.size, 0, none⟩ = some (.int .i64 13) ∧ w'.cell? ⟨w.heap.size, 1, none⟩ = some (.int .i64 a) ∧ w'.cell? ⟨w.heap.size, 2, none⟩ = some (.int .i64 b) ∧ w'.cell? ⟨b2, 0, none⟩ = some (.func (Fn.func 112) #[] #[.pointer (some ⟨p, 0, none⟩)]) ∧ w'.cell? ⟨b1, 0, none⟩ = some (.slice (some ⟨ib, io, none⟩) l.length ic) ∧ w'.cell? ⟨b3, 0, none⟩ = some (.slice (some ⟨cb, 0, none⟩) l.length l.length) ∧ w'.cell? ⟨cb, k, none⟩ = some (.int .i64 q) ∧ w'.cell? ⟨ib, io + q * 3, none⟩ = some (.int .i64 14) ∧ w'.cell? ⟨ib, io + q * 3 + 1, none⟩ = some (.int .i64 a2) ∧ w'.cell? ⟨ib, io + q * 3 + 2, none⟩ = some (.int .i64 b2v))
    (first | assumption | exact ⟨x0, x1, x2, g2, g1, g3, hq1, z0, z1, z2⟩ | go_keep)
    (fail)

  have hB3 : Below w1.heap.size w1 (w1.alloc (.cells #[.int .i64 14, .int .i64 a2, .int .i64 b2v] 35)).drew := (below_new _ _).drew
  have n0 : (w1.alloc (.cells #[.int .i64 14, .int .i64 a2, .int .i64 b2v] 35)).drew.cell? ⟨w1.heap.size, 0, none⟩ = some (.int .i64 14) := by go_simp
  have n1 : (w1.alloc (.cells #[.int .i64 14, .int .i64 a2, .int .i64 b2v] 35)).drew.cell? ⟨w1.heap.size, 1, none⟩ = some (.int .i64 a2) := by go_simp
  have n2 : (w1.alloc (.cells #[.int .i64 14, .int .i64 a2, .int .i64 b2v] 35)).drew.cell? ⟨w1.heap.size, 2, none⟩ = some (.int .i64 b2v) := by go_simp
  generalize (w1.alloc (.cells #[.int .i64 14, .int .i64 a2, .int .i64 b2v] 35)).drew = W3 at *
  have e0 := below_cell hB3 x0
  have e1 := below_cell hB3 x1
  have e2 := below_cell hB3 x2
  have e3 := below_cell hB3 g2
  have e4 := below_cell hB3 g3
  have e5 := below_cell hB3 hq1
  have H3 : Hid (Below w.heap.size w W3) := below_seq H1.out hB3
  clear hB3 x0 x1 x2 g1 g2 g3 hq1 z0 z1 z2 H1
  have cT : costI ⟨14, a2, b2v⟩ true = 2 := rfl
  have cF : costI ⟨14, a2, b2v⟩ false = 1 := rfl
  have hw0 : IntKind.i64.wrap (b + 1) = b + 1 := by rw [IntKind.wrap_i64]; omega
  have hw1 : IntKind.i64.wrap ((b + 1) * z) = (b + 1) * z := by rw [IntKind.wrap_i64]; omega
  have hw2 : IntKind.i64.wrap (b * 2) = b * 2 := by rw [IntKind.wrap_i64]; omega
  have hw3 : IntKind.i64.wrap ((b + 1) * z + b * 2) = (b + 1) * z + b * 2 := by rw [IntKind.wrap_i64]; omega
  have hw4 : IntKind.i64.wrap ((b + 1) * z + b * 2 + 1) = (b + 1) * z + b * 2 + 1 := by rw [IntKind.wrap_i64]; omega
  go_wp2_with fail
  go_region_held3 (fun w' => Below W3.heap.size W3 w' ∧ w'.cell? ⟨w.heap.size, 0, none⟩ = some (.int .i64 13) ∧ w'.cell? ⟨w.heap.size, 1, none⟩ = some (.int .i64 a) ∧ w'.cell? ⟨w.heap.size, 2, none⟩ = some (.int .i64 b) ∧ w'.cell? ⟨b2, 0, none⟩ = some (.func (Fn.func 112) #[] #[.pointer (some ⟨p, 0, none⟩)]) ∧ w'.cell? ⟨w1.heap.size, 0, none⟩ = some (.int .i64 14) ∧ w'.cell? ⟨w1.heap.size, 1, none⟩ = some (.int .i64 a2) ∧ w'.cell? ⟨w1.heap.size, 2, none⟩ = some (.int .i64 b2v))
    (first | assumption | exact ⟨(Below.refl _ _).drew, e0, e1, e2, e3, n0, n1, n2⟩)
    (first
      | (go_at_call 28; refine (HC2.out _ (below_seq H3.out (And.left ‹Below W3.heap.size W3 _ ∧ _›)) _).mono ?_; (first | rw [cT] | rw [cF]); rintro r wc ⟨rfl, hbc⟩; have hSc := keepT hbc ‹Below W3.heap.size W3 _ ∧ _›; clear hbc)
      | (go_at_call 112; refine (HT1.out _ (below_seq H3.out (And.left ‹Below W3.heap.size W3 _ ∧ _›))).mono ?_; rintro r wd ⟨rfl, rfl⟩))
  all_goals
    obtain ⟨hB, -, -, -, f3, -⟩ := ‹Below W3.heap.size W3 _ ∧ _›
    have f4 := below_cell hB e4
    have f5 := below_cell hB e5
    have HB : Hid _ := below_seq H3.out hB
    clear hB e0 e1 e2 e3 e4 e5 n0 n1 n2
  all_goals
    go_wp2_with fail
    have hmm : 0 ≤ (b + 1) * z + b * 2 + 1 ∧ (b + 1) * z + b * 2 + 1 ≤ 1001 * 1099511627776 + 2001 := by omega
    clear hw0 hw1 hw2 hw3 hw4 hm1 hm2 hmw
    obtain ⟨m, hgm⟩ : ∃ m, (b + 1) * z + b * 2 + 1 = m := ⟨_, rfl⟩
    have HGM : Hid ((b + 1) * z + b * 2 + 1 = m) := hgm
    rw [hgm] at hmm ⊢
    clear hgm
    go_quiet (first | (go_at_call 112; exact Calls.quiet_of (HT2.out _ (below_seq HB.out (belowD _ _)))))
    go_wp2_with fail
    go_ret
    rw [HGM.out]
    exact ⟨rfl, below_seq HB.out (belowD _ _)⟩

end Go.Proofs.YtgemadoieielcacDoor
