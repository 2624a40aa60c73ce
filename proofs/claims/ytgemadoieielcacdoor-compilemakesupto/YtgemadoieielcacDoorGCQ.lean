import Derived.Test.YtgemadoieielcacDoorGCO
namespace Go.Proofs.YtgemadoieielcacDoor.B
open Go.ChangeShapes Go.WideShapes Go.ChangeAt Go.RowKit

set_option maxRecDepth 20000 in
set_option maxHeartbeats 800000 in
theorem piece7_any (w : World) (y l : List St) (n ek en ck ak an bk bn : Int) (ead aad bad yad lad : Option Addr) (em ec am ac bm bc yc lc : Nat) (loops : Int) :
    Calls Tryd.prog 100 #[.agg #[.int .i64 7, .int .i64 n, .int .i64 ek, .int .i64 en, .slice ead em ec, .int .i64 ck, .int .i64 ak, .int .i64 an, .slice aad am ac, .int .i64 bk, .int .i64 bn, .slice bad bm bc, .slice yad y.length yc, .slice lad l.length lc], .int .i64 loops] w fun r w' => ∃ v', r = .returned v' ∧ Ow w' w.heap.size v' [⟨18, n, 0⟩] ∧ Below w.heap.size w w' := by
  go_enter Tryd.func100, Tryd.ntmps100
  go_wp2_with fail
  go_ret
  exact ⟨_, rfl, (Ow.lit (w.alloc (.cells #[.int .i64 7, .int .i64 n, .int .i64 ek, .int .i64 en, .slice ead em ec, .int .i64 ck, .int .i64 ak, .int .i64 an, .slice aad am ac, .int .i64 bk, .int .i64 bn, .slice bad bm bc, .slice yad y.length yc, .slice lad l.length lc] 123)) [⟨18, n, 0⟩] _ (by simp) (by simp)).low (by simp), ((Below.refl _ _).alloc (Nat.le_refl _) _).alloc (by simp) _⟩

set_option maxRecDepth 20000 in
set_option maxHeartbeats 800000 in
theorem piece4_none (w : World) (y l : List St) (ek en ck ak an bk bn : Int) (ead aad bad yad lad : Option Addr) (em ec am ac bm bc yc lc : Nat) (loops : Int) :
    Calls Tryd.prog 100 #[.agg #[.int .i64 4, .int .i64 0, .int .i64 ek, .int .i64 en, .slice ead em ec, .int .i64 ck, .int .i64 ak, .int .i64 an, .slice aad am ac, .int .i64 bk, .int .i64 bn, .slice bad bm bc, .slice yad y.length yc, .slice lad l.length lc], .int .i64 loops] w fun r w' => ∃ v', r = .returned v' ∧ Ow w' w.heap.size v' [] ∧ Below w.heap.size w w' := by
  go_enter Tryd.func100, Tryd.ntmps100
  go_wp2_with fail
  go_ret
  exact ⟨_, rfl, Ow.nil _ _, (Below.refl _ _).alloc (Nat.le_refl _) _⟩

set_option maxRecDepth 20000 in
set_option maxHeartbeats 800000 in
theorem piece5_none (w : World) (y l : List St) (ek en ck ak an bk bn : Int) (ead aad bad yad lad : Option Addr) (em ec am ac bm bc yc lc : Nat) (loops : Int) :
    Calls Tryd.prog 100 #[.agg #[.int .i64 5, .int .i64 0, .int .i64 ek, .int .i64 en, .slice ead em ec, .int .i64 ck, .int .i64 ak, .int .i64 an, .slice aad am ac, .int .i64 bk, .int .i64 bn, .slice bad bm bc, .slice yad y.length yc, .slice lad l.length lc], .int .i64 loops] w fun r w' => ∃ v', r = .returned v' ∧ Ow w' w.heap.size v' [] ∧ Below w.heap.size w w' := by
  go_enter Tryd.func100, Tryd.ntmps100
  go_wp2_with fail
  go_ret
  exact ⟨_, rfl, Ow.nil _ _, (Below.refl _ _).alloc (Nat.le_refl _) _⟩

set_option maxRecDepth 20000 in
set_option maxHeartbeats 800000 in
theorem piece4_any (N : Nat) (hL : PcsC N) (w : World) (e ca cb : Ex) (y l : List St) (n ek en ck ak an bk bn : Int) (ead aad bad yad lad : Option Addr) (em ec am ac bm bc yc lc : Nat) (loops : Int) (i4 : St.Sl w y (.slice yad y.length yc)) (hly : St.LayAll y) (hn0 : ¬ n = 0) (hn : 0 ≤ n ∧ n ≤ 1000) (hN : 1 + e.nodes + ca.nodes + cb.nodes + St.bulkAll y + St.bulkAll l ≤ N + 1) (hN2 : 1 + e.nodes + ca.nodes + cb.nodes + St.bulkAll y + St.bulkAll l ≤ 20000) (hlo : 0 ≤ loops ∧ loops + (1 + e.nodes + ca.nodes + cb.nodes + St.bulkAll y + St.bulkAll l : Nat) ≤ 1000000) :
    Calls Tryd.prog 100 #[.agg #[.int .i64 4, .int .i64 n, .int .i64 ek, .int .i64 en, .slice ead em ec, .int .i64 ck, .int .i64 ak, .int .i64 an, .slice aad am ac, .int .i64 bk, .int .i64 bn, .slice bad bm bc, .slice yad y.length yc, .slice lad l.length lc], .int .i64 loops] w fun r w' => ∃ v', r = .returned v' ∧ Ow w' w.heap.size v' (lpP loops n (St.pcAll y (loops + 1))) ∧ Below w.heap.size w w' := by
  have hB1 : Below w.heap.size w (w.alloc (.cells #[.int .i64 4, .int .i64 n, .int .i64 ek, .int .i64 en, .slice ead em ec, .int .i64 ck, .int .i64 ak, .int .i64 an, .slice aad am ac, .int .i64 bk, .int .i64 bn, .slice bad bm bc, .slice yad y.length yc, .slice lad l.length lc] 123)) := below_new _ _
  have hk1 := heap_alloc_new w (.cells #[.int .i64 4, .int .i64 n, .int .i64 ek, .int .i64 en, .slice ead em ec, .int .i64 ck, .int .i64 ak, .int .i64 an, .slice aad am ac, .int .i64 bk, .int .i64 bn, .slice bad bm bc, .slice yad y.length yc, .slice lad l.length lc] 123)
  have hs1 : (w.alloc (.cells #[.int .i64 4, .int .i64 n, .int .i64 ek, .int .i64 en, .slice ead em ec, .int .i64 ck, .int .i64 ak, .int .i64 an, .slice aad am ac, .int .i64 bk, .int .i64 bn, .slice bad bm bc, .slice yad y.length yc, .slice lad l.length lc] 123)).heap.size = w.heap.size + 1 := by simp
  have HC := hL y (w.alloc (.cells #[.int .i64 4, .int .i64 n, .int .i64 ek, .int .i64 en, .slice ead em ec, .int .i64 ck, .int .i64 ak, .int .i64 an, .slice aad am ac, .int .i64 bk, .int .i64 bn, .slice bad bm bc, .slice yad y.length yc, .slice lad l.length lc] 123)) _ (loops + 1) (by have := Ex.nodes_pos e; omega) (by omega) (i4.below hB1) hly (by omega)
  have hyl := St.pcAll_len y (loops + 1)
  have HJ : Hid (JB (St.pcAll y (loops + 1)).length (St.pcAll y (loops + 1))) := St.pcAll_jb y (loops + 1) hly
  have hnb : (n == 0) = false := by simpa using hn0
  show Calls _ _ _ _ fun r w' => ∃ v', r = .returned v' ∧ Ow w' w.heap.size v' (jn [⟨13, loops, n - 1⟩] (St.pcAll y (loops + 1)) ++ [⟨14, loops, 1⟩]) ∧ Below w.heap.size w w'
  obtain ⟨A, hA⟩ : ∃ A, St.pcAll y (loops + 1) = A := ⟨_, rfl⟩
  rw [hA] at HC hyl HJ ⊢
  clear i4 hly hL hA
  go_enter Tryd.func100, Tryd.ntmps100
  go_wp2_with fail
  obtain ⟨W1, hW1⟩ : ∃ W1, w.alloc (.cells #[.int .i64 4, .int .i64 n, .int .i64 ek, .int .i64 en, .slice ead em ec, .int .i64 ck, .int .i64 ak, .int .i64 an, .slice aad am ac, .int .i64 bk, .int .i64 bn, .slice bad bm bc, .slice yad y.length yc, .slice lad l.length lc] 123) = W1 := ⟨_, rfl⟩
  rw [hW1] at hB1 hk1 hs1 HC ⊢
  obtain ⟨d1, e1, l1⟩ := cells_of (l := [_, _, _, _, _, _, _, _, _, _, _, _, _, _]) hk1
  have x0 := d1 0 _ rfl
  have x1 := d1 1 _ rfl
  have x5 := d1 5 _ rfl
  have x6 := d1 6 _ rfl
  have x7 := d1 7 _ rfl
  have x8 := d1 8 _ rfl
  have x9 := d1 9 _ rfl
  have x10 := d1 10 _ rfl
  have x11 := d1 11 _ rfl
  have HX : Hid (Below w.heap.size w W1 ∧ W1.heap.size = w.heap.size + 1) := ⟨hB1, hs1⟩
  have HXC : Hid (W1.cell? ⟨w.heap.size, 0, none⟩ = some (.int .i64 4) ∧ W1.cell? ⟨w.heap.size, 1, none⟩ = some (.int .i64 n)) := ⟨x0, x1⟩
  clear hW1 d1 e1 hk1 hB1 hs1
  refine HC.mono ?_
  rintro r w2 ⟨v2, rfl, ho2, hb2⟩
  obtain ⟨ad2, c2, hv2⟩ := ho2.shape
  subst hv2
  have y0 := below_cell hb2 x0
  have y1 := below_cell hb2 x1
  have ly : w.heap.size < w2.heap.size := World.block_lt_of_cell? _ _ y0
  have H2 : Hid (Ow w2 W1.heap.size (.slice ad2 A.length c2) A ∧ Below W1.heap.size W1 w2) := ⟨ho2, hb2⟩
  clear ho2 hb2 HC x0 x1 x5 x6 x7 x8 x9 x10 x11
  go_wp2_with (first
    | (at_builtin; refine wp_app rfl (.tmp 136) (.tmp 139) rfl W1.heap.size w8.heap.size _ _ (jn [⟨13, loops, n - 1⟩] A) [⟨14, loops, 1⟩] rfl rfl (H8.out.1.below (below_new _ _)) (Ow.lit w8 [⟨14, loops, 1⟩] _ rfl (by simp)) (by have := H8.out.2.size; simp; omega) (by rw [jn_len]; simp; omega) ?_; intro v9 w9 ho9 hg9 _ hsh9; obtain ⟨ad9, c9, hv9⟩ := hsh9; subst hv9; have H9 : Hid (Ow w9 W1.heap.size (.slice ad9 ((jn [⟨13, loops, n - 1⟩] A).length + 1) c9) (jn [⟨13, loops, n - 1⟩] A ++ [⟨14, loops, 1⟩]) ∧ Below W1.heap.size W1 w9) := ⟨ho9, (H8.out.2.alloc H8.out.2.size _).grown hg9 (by have := H8.out.2.size; simp; omega) (fun k hk => (H8.out.1.lt k hk).1)⟩; clear ho9 hg9)
    | (go_at_call 99; refine (join_any _ [⟨13, loops, n - 1⟩] A _ _ w2.heap.size (Ow.lit w2 [⟨13, loops, n - 1⟩] _ rfl (by simp)) (H2.out.1.below (below_new _ _)).sl (HJ.out.mono (by omega)) (by simp; omega)).mono ?_; rintro r w8 ⟨v8, rfl, ho8, hb8⟩; obtain ⟨ad8, c8, hv8⟩ := ho8.shape; subst hv8; have H8 : Hid (Ow w8 W1.heap.size (.slice ad8 (jn [⟨13, loops, n - 1⟩] A).length c8) (jn [⟨13, loops, n - 1⟩] A) ∧ Below W1.heap.size W1 w8) := ⟨ho8.low (by have := H2.out.2.size; simp; omega), below_seq H2.out.2 (below_seq (below_new _ _) hb8)⟩; clear ho8 hb8))
  go_ret
  have h9 := H9.out
  refine ⟨_, rfl, ?_, below_seq HX.out.1 h9.2⟩
  exact h9.1.low (by have := HX.out.2; omega)

set_option maxRecDepth 20000 in
set_option maxHeartbeats 800000 in
theorem piece5_any (N : Nat) (hL : PcsC N) (w : World) (e ca cb : Ex) (y l : List St) (n ek en ck ak an bk bn : Int) (ead aad bad yad lad : Option Addr) (em ec am ac bm bc yc lc : Nat) (loops : Int) (i2 : ca.In w (.agg #[.int .i64 ak, .int .i64 an, .slice aad am ac])) (i3 : cb.In w (.agg #[.int .i64 bk, .int .i64 bn, .slice bad bm bc])) (hla : ca.Lay) (hlb : cb.Lay) (i4 : St.Sl w y (.slice yad y.length yc)) (hly : St.LayAll y) (hn0 : ¬ n = 0) (hn : 0 ≤ n ∧ n ≤ 1000) (hN : 1 + e.nodes + ca.nodes + cb.nodes + St.bulkAll y + St.bulkAll l ≤ N + 1) (hN2 : 1 + e.nodes + ca.nodes + cb.nodes + St.bulkAll y + St.bulkAll l ≤ 20000) (hlo : 0 ≤ loops ∧ loops + (1 + e.nodes + ca.nodes + cb.nodes + St.bulkAll y + St.bulkAll l : Nat) ≤ 1000000) :
    Calls Tryd.prog 100 #[.agg #[.int .i64 5, .int .i64 n, .int .i64 ek, .int .i64 en, .slice ead em ec, .int .i64 ck, .int .i64 ak, .int .i64 an, .slice aad am ac, .int .i64 bk, .int .i64 bn, .slice bad bm bc, .slice yad y.length yc, .slice lad l.length lc], .int .i64 loops] w fun r w' => ∃ v', r = .returned v' ∧ Ow w' w.heap.size v' (lpP loops n (whP (cdP ck ca cb) (St.pcAll y (loops + 1)) loops)) ∧ Below w.heap.size w w' := by
  have hB1 : Below w.heap.size w (w.alloc (.cells #[.int .i64 5, .int .i64 n, .int .i64 ek, .int .i64 en, .slice ead em ec, .int .i64 ck, .int .i64 ak, .int .i64 an, .slice aad am ac, .int .i64 bk, .int .i64 bn, .slice bad bm bc, .slice yad y.length yc, .slice lad l.length lc] 123)) := below_new _ _
  have hk1 := heap_alloc_new w (.cells #[.int .i64 5, .int .i64 n, .int .i64 ek, .int .i64 en, .slice ead em ec, .int .i64 ck, .int .i64 ak, .int .i64 an, .slice aad am ac, .int .i64 bk, .int .i64 bn, .slice bad bm bc, .slice yad y.length yc, .slice lad l.length lc] 123)
  have hs1 : (w.alloc (.cells #[.int .i64 5, .int .i64 n, .int .i64 ek, .int .i64 en, .slice ead em ec, .int .i64 ck, .int .i64 ak, .int .i64 an, .slice aad am ac, .int .i64 bk, .int .i64 bn, .slice bad bm bc, .slice yad y.length yc, .slice lad l.length lc] 123)).heap.size = w.heap.size + 1 := by simp
  have p6 := Ex.nodes_pos ca
  have p7 := Ex.nodes_pos cb
  have p8 := Ex.nodes_pos e
  have HC := hL y (w.alloc (.cells #[.int .i64 5, .int .i64 n, .int .i64 ek, .int .i64 en, .slice ead em ec, .int .i64 ck, .int .i64 ak, .int .i64 an, .slice aad am ac, .int .i64 bk, .int .i64 bn, .slice bad bm bc, .slice yad y.length yc, .slice lad l.length lc] 123)) _ (loops + 1) (by omega) (by omega) (i4.below hB1) hly (by omega)
  have hyl := St.pcAll_len y (loops + 1)
  have hcl := cdP_len ck ca cb
  have HJ0 : Hid (JB (St.pcAll y (loops + 1)).length (St.pcAll y (loops + 1))) := St.pcAll_jb y (loops + 1) hly
  have HCd : Hid (∀ W, Below w.heap.size w W → Calls Tryd.prog 132 #[.agg #[.int .i64 ck, .int .i64 ak, .int .i64 an, .slice aad am ac, .int .i64 bk, .int .i64 bn, .slice bad bm bc]] W fun r w' => ∃ v', r = .returned v' ∧ Ow w' W.heap.size v' (cdP ck ca cb) ∧ Below W.heap.size W w') := fun W hW => condPiece_any W ck ca cb ak an bk bn aad bad am ac bm bc (Ex.In.below hW _ i2) (Ex.In.below hW _ i3) hla hlb (by omega) (by omega)
  have HCJ : Hid (∀ m, JB m (cdP ck ca cb)) := fun m => JB.free (fun d => cdP_mv d ck ca cb hla hlb)
  have hnb : (n == 0) = false := by simpa using hn0
  obtain ⟨A, hA⟩ : ∃ A, St.pcAll y (loops + 1) = A := ⟨_, rfl⟩
  obtain ⟨C, hC⟩ : ∃ C, cdP ck ca cb = C := ⟨_, rfl⟩
  obtain ⟨D, hD⟩ : ∃ D : List Io, C ++ [⟨12, (C.length : Int) + 1 + A.length + 1, 0⟩] = D := ⟨_, rfl⟩
  obtain ⟨E, hE⟩ : ∃ E, jn D A = E := ⟨_, rfl⟩
  obtain ⟨F, hF⟩ : ∃ F : List Io, E ++ [⟨11, (E.length : Int) + 2, 0⟩, ⟨15, loops, 0⟩] = F := ⟨_, rfl⟩
  have hwF : whP (cdP ck ca cb) (St.pcAll y (loops + 1)) loops = F := by rw [hC, hA, ← hF, ← hE, ← hD]; rfl
  rw [hA] at HC hyl HJ0
  rw [hC] at hcl HCd HCJ
  rw [hwF]
  have hlD : D.length = C.length + 1 := by rw [← hD]; simp
  have hlE : E.length = D.length + A.length := by rw [← hE, jn_len]
  have hlF : F.length = E.length + 2 := by rw [← hF]; simp
  have HJE : Hid (JB ((E.length : Int) + 2) E) := by
    show JB _ _
    rw [← hE]
    refine JB.join ?_ HJ0.out (by rw [jn_len]; omega)
    rw [← hD]
    refine (HCJ.out _).append (JB.one _ _ _ (fun _ => ?_) (by omega))
    rw [jn_len]; simp; omega
  have HJ : Hid (JB F.length F) := by
    show JB _ _
    rw [← hF]
    refine (HJE.out.mono (by simp)).append ((JB.one 11 _ 0 (fun _ => ?_) (by omega)).append (JB.one 15 loops 0 (by omega) (by omega)))
    simp; omega
  have HL : Hid (D.length = C.length + 1 ∧ E.length = D.length + A.length ∧ F.length = E.length + 2) := ⟨hlD, hlE, hlF⟩
  have HD : Hid (C ++ [⟨12, (C.length : Int) + 1 + A.length + 1, 0⟩] = D ∧ jn D A = E ∧ E ++ [⟨11, (E.length : Int) + 2, 0⟩, ⟨15, loops, 0⟩] = F) := ⟨hD, hE, hF⟩
  have hAb : A.length ≤ 160000 := by omega
  have hCb : C.length ≤ 160000 := by omega
  have hEb : E.length ≤ 400000 := by omega
  have hFb : F.length ≤ 500000 := by omega
  show Calls _ _ _ _ fun r w' => ∃ v', r = .returned v' ∧ Ow w' w.heap.size v' (jn [⟨13, loops, n - 1⟩] F ++ [⟨14, loops, 1⟩]) ∧ Below w.heap.size w w'
  clear i2 i3 i4 hly hL hA hC hD hE hF hwF hla hlb hlD hlE hlF HJE HCJ
  go_enter Tryd.func100, Tryd.ntmps100
  go_wp2_with fail
  obtain ⟨W1, hW1⟩ : ∃ W1, w.alloc (.cells #[.int .i64 5, .int .i64 n, .int .i64 ek, .int .i64 en, .slice ead em ec, .int .i64 ck, .int .i64 ak, .int .i64 an, .slice aad am ac, .int .i64 bk, .int .i64 bn, .slice bad bm bc, .slice yad y.length yc, .slice lad l.length lc] 123) = W1 := ⟨_, rfl⟩
  rw [hW1] at hB1 hk1 hs1 HC ⊢
  obtain ⟨d1, e1, l1⟩ := cells_of (l := [_, _, _, _, _, _, _, _, _, _, _, _, _, _]) hk1
  have x0 := d1 0 _ rfl
  have x1 := d1 1 _ rfl
  have x5 := d1 5 _ rfl
  have x6 := d1 6 _ rfl
  have x7 := d1 7 _ rfl
  have x8 := d1 8 _ rfl
  have x9 := d1 9 _ rfl
  have x10 := d1 10 _ rfl
  have x11 := d1 11 _ rfl
  have HX : Hid (Below w.heap.size w W1 ∧ W1.heap.size = w.heap.size + 1) := ⟨hB1, hs1⟩
  have HXC : Hid (W1.cell? ⟨w.heap.size, 0, none⟩ = some (.int .i64 5) ∧ W1.cell? ⟨w.heap.size, 1, none⟩ = some (.int .i64 n)) := ⟨x0, x1⟩
  clear hW1 d1 e1 hk1 hB1 hs1
  refine HC.mono ?_
  rintro r w2 ⟨v2, rfl, ho2, hb2⟩
  obtain ⟨ad2, c2, hv2⟩ := ho2.shape
  subst hv2
  have y0 := below_cell hb2 x0
  have y1 := below_cell hb2 x1
  have y5 := below_cell hb2 x5
  have y6 := below_cell hb2 x6
  have y7 := below_cell hb2 x7
  have y8 := below_cell hb2 x8
  have y9 := below_cell hb2 x9
  have y10 := below_cell hb2 x10
  have y11 := below_cell hb2 x11
  have ly : w.heap.size < w2.heap.size := World.block_lt_of_cell? _ _ y0
  have H2 : Hid (Ow w2 W1.heap.size (.slice ad2 A.length c2) A ∧ Below W1.heap.size W1 w2 ∧ Below w.heap.size w w2) := ⟨ho2, hb2, below_seq HX.out.1 hb2⟩
  clear ho2 hb2 HC x0 x1 x5 x6 x7 x8 x9 x10 x11
  go_wp2_with (first
    | (at_builtin; refine wp_app rfl (.tmp 136) (.tmp 139) rfl W1.heap.size w8.heap.size _ _ (jn [⟨13, loops, n - 1⟩] F) [⟨14, loops, 1⟩] rfl rfl (H8.out.1.below (below_new _ _)) (Ow.lit w8 [⟨14, loops, 1⟩] _ rfl (by simp)) (by have := H8.out.2.size; simp; omega) (by rw [jn_len]; simp; omega) ?_; intro v9 w9 ho9 hg9 _ hsh9; obtain ⟨ad9, c9, hv9⟩ := hsh9; subst hv9; have H9 : Hid (Ow w9 W1.heap.size (.slice ad9 ((jn [⟨13, loops, n - 1⟩] F).length + 1) c9) (jn [⟨13, loops, n - 1⟩] F ++ [⟨14, loops, 1⟩]) ∧ Below W1.heap.size W1 w9) := ⟨ho9, (H8.out.2.alloc H8.out.2.size _).grown hg9 (by have := H8.out.2.size; simp; omega) (fun k hk => (H8.out.1.lt k hk).1)⟩; clear ho9 hg9)
    | (go_at_call 99; refine (join_any _ [⟨13, loops, n - 1⟩] F _ _ w6.heap.size (Ow.lit w6 [⟨13, loops, n - 1⟩] _ rfl (by simp)) (H6.out.1.below (below_new _ _)).sl (HJ.out.mono (by omega)) (by simp; omega)).mono ?_; rintro r w8 ⟨v8, rfl, ho8, hb8⟩; obtain ⟨ad8, c8, hv8⟩ := ho8.shape; subst hv8; have H8 : Hid (Ow w8 W1.heap.size (.slice ad8 (jn [⟨13, loops, n - 1⟩] F).length c8) (jn [⟨13, loops, n - 1⟩] F) ∧ Below W1.heap.size W1 w8) := ⟨ho8.low (by have := H6.out.2.size; simp; omega), below_seq H6.out.2 (below_seq (below_new _ _) hb8)⟩; clear ho8 hb8)
    | (at_builtin; refine wp_app rfl (.tmp 119) (.tmp 126) rfl W1.heap.size w5.heap.size _ _ E [⟨11, (E.length : Int) + 2, 0⟩, ⟨15, loops, 0⟩] rfl rfl (H5.out.1.below (below_new _ _)) (Ow.lit w5 [⟨11, (E.length : Int) + 2, 0⟩, ⟨15, loops, 0⟩] _ rfl (by simp)) (by have := H5.out.2.size; simp; omega) (by have := HL.out; simp; omega) ?_; intro v6 w6 ho6 hg6 _ hsh6; obtain ⟨ad6, c6, hv6⟩ := hsh6; subst hv6; rw [HD.out.2.2] at ho6; have hb6 : Below W1.heap.size W1 w6 := (H5.out.2.alloc H5.out.2.size _).grown hg6 (by have := H5.out.2.size; simp; omega) (fun k hk => (H5.out.1.lt k hk).1); have z1 := below_cell hb6 HXC.out.2; have lz : w.heap.size < w6.heap.size := World.block_lt_of_cell? _ _ z1; have H6 : Hid (Ow w6 W1.heap.size (.slice ad6 (E.length + 2) c6) F ∧ Below W1.heap.size W1 w6) := ⟨ho6, hb6⟩; clear ho6 hg6 hb6)
    | (go_at_call 99; refine (join_any w4 D A _ _ w2.heap.size H4.out.1 H4.out.2.1.sl (HJ0.out.mono (by omega)) (by have := HL.out; omega)).mono ?_; rintro r w5 ⟨v5, rfl, ho5, hb5⟩; rw [HD.out.2.1] at ho5; obtain ⟨ad5, c5, hv5⟩ := ho5.shape; subst hv5; have H5 : Hid (Ow w5 W1.heap.size (.slice ad5 E.length c5) E ∧ Below W1.heap.size W1 w5) := ⟨ho5.low H4.out.2.2.size, below_seq H4.out.2.2 hb5⟩; clear ho5 hb5)
    | (at_builtin; refine wp_app rfl (.tmp 105) (.tmp 114) rfl w2.heap.size w3.heap.size _ _ C [⟨12, (C.length : Int) + 1 + A.length + 1, 0⟩] rfl rfl (H3.out.1.below (below_new _ _)) (Ow.lit w3 [⟨12, (C.length : Int) + 1 + A.length + 1, 0⟩] _ rfl (by simp)) (by have := H3.out.2.2.2.2; simp; omega) (by simp; omega) ?_; intro v4 w4 ho4 hg4 hv4o hsh4; obtain ⟨ad4, c4, hv4⟩ := hsh4; subst hv4; rw [HD.out.1] at ho4; have H4 : Hid (Ow w4 w2.heap.size (.slice ad4 (C.length + 1) c4) D ∧ Ow w4 W1.heap.size (.slice ad2 A.length c2) A ∧ Below W1.heap.size W1 w4) := ⟨ho4, (H3.out.2.1.below (below_new _ _)).grown hg4 (fun k hk e => by have := (H3.out.1.lt k e).1; have := H3.out.2.2.2.1 k hk; omega), (H3.out.2.2.1.alloc H3.out.2.2.1.size _).grown hg4 (by have := H3.out.2.2.1.size; simp; omega) (fun k hk => by have := (H3.out.1.lt k hk).1; have := H2.out.2.1.size; omega)⟩; clear ho4 hg4 hv4o)
    | (go_at_call 132; refine (HCd.out w2 H2.out.2.2).mono ?_; rintro r w3 ⟨v3, rfl, ho3, hb3⟩; obtain ⟨ad3, c3, hv3⟩ := ho3.shape; subst hv3; have H3 : Hid (Ow w3 w2.heap.size (.slice ad3 C.length c3) C ∧ Ow w3 W1.heap.size (.slice ad2 A.length c2) A ∧ Below W1.heap.size W1 w3 ∧ (∀ k, (Value.slice ad2 A.length c2).ownBlock = some k → k < w2.heap.size) ∧ w2.heap.size ≤ w3.heap.size) := ⟨ho3, H2.out.1.below hb3, below_seq H2.out.2.1 hb3, fun k hk => (H2.out.1.lt k hk).2, hb3.size⟩; clear ho3 hb3 y5 y6 y7 y8 y9 y10 y11 y0 y1))
  go_ret
  have h9 := H9.out
  refine ⟨_, rfl, ?_, below_seq HX.out.1 h9.2⟩
  exact h9.1.low (by have := HX.out.2; omega)


end Go.Proofs.YtgemadoieielcacDoor.B
namespace Go.Proofs.YtgemadoieielcacDoor.B
open Go.ChangeShapes Go.WideShapes Go.ChangeAt Go.RowKit

set_option maxRecDepth 20000 in
set_option maxHeartbeats 800000 in
theorem piece3_any (N : Nat) (hL : PcsC N) (w : World) (e ca cb : Ex) (y l : List St) (n ek en ck ak an bk bn : Int) (ead aad bad yad lad : Option Addr) (em ec am ac bm bc yc lc : Nat) (loops : Int) (i2 : ca.In w (.agg #[.int .i64 ak, .int .i64 an, .slice aad am ac])) (i3 : cb.In w (.agg #[.int .i64 bk, .int .i64 bn, .slice bad bm bc])) (hla : ca.Lay) (hlb : cb.Lay) (i4 : St.Sl w y (.slice yad y.length yc)) (hly : St.LayAll y) (i5 : St.Sl w l (.slice lad l.length lc)) (hll : St.LayAll l)  (hN : 1 + e.nodes + ca.nodes + cb.nodes + St.bulkAll y + St.bulkAll l ≤ N + 1) (hN2 : 1 + e.nodes + ca.nodes + cb.nodes + St.bulkAll y + St.bulkAll l ≤ 20000) (hlo : 0 ≤ loops ∧ loops + (1 + e.nodes + ca.nodes + cb.nodes + St.bulkAll y + St.bulkAll l : Nat) ≤ 1000000) :
    Calls Tryd.prog 100 #[.agg #[.int .i64 3, .int .i64 n, .int .i64 ek, .int .i64 en, .slice ead em ec, .int .i64 ck, .int .i64 ak, .int .i64 an, .slice aad am ac, .int .i64 bk, .int .i64 bn, .slice bad bm bc, .slice yad y.length yc, .slice lad l.length lc], .int .i64 loops] w fun r w' => ∃ v', r = .returned v' ∧ Ow w' w.heap.size v' (if l.length = 0 then ifP (cdP ck ca cb) (St.pcAll y loops) else elP (cdP ck ca cb) (St.pcAll y loops) (St.pcAll l loops)) ∧ Below w.heap.size w w' := by
  have hB1 : Below w.heap.size w (w.alloc (.cells #[.int .i64 3, .int .i64 n, .int .i64 ek, .int .i64 en, .slice ead em ec, .int .i64 ck, .int .i64 ak, .int .i64 an, .slice aad am ac, .int .i64 bk, .int .i64 bn, .slice bad bm bc, .slice yad y.length yc, .slice lad l.length lc] 123)) := below_new _ _
  have hk1 := heap_alloc_new w (.cells #[.int .i64 3, .int .i64 n, .int .i64 ek, .int .i64 en, .slice ead em ec, .int .i64 ck, .int .i64 ak, .int .i64 an, .slice aad am ac, .int .i64 bk, .int .i64 bn, .slice bad bm bc, .slice yad y.length yc, .slice lad l.length lc] 123)
  have hs1 : (w.alloc (.cells #[.int .i64 3, .int .i64 n, .int .i64 ek, .int .i64 en, .slice ead em ec, .int .i64 ck, .int .i64 ak, .int .i64 an, .slice aad am ac, .int .i64 bk, .int .i64 bn, .slice bad bm bc, .slice yad y.length yc, .slice lad l.length lc] 123)).heap.size = w.heap.size + 1 := by simp
  have p6 := Ex.nodes_pos ca
  have p7 := Ex.nodes_pos cb
  have p8 := Ex.nodes_pos e
  have HPy : Hid (∀ W, Below (w.alloc (.cells #[.int .i64 3, .int .i64 n, .int .i64 ek, .int .i64 en, .slice ead em ec, .int .i64 ck, .int .i64 ak, .int .i64 an, .slice aad am ac, .int .i64 bk, .int .i64 bn, .slice bad bm bc, .slice yad y.length yc, .slice lad l.length lc] 123)).heap.size (w.alloc (.cells #[.int .i64 3, .int .i64 n, .int .i64 ek, .int .i64 en, .slice ead em ec, .int .i64 ck, .int .i64 ak, .int .i64 an, .slice aad am ac, .int .i64 bk, .int .i64 bn, .slice bad bm bc, .slice yad y.length yc, .slice lad l.length lc] 123)) W → Calls Tryd.prog 64 #[.slice yad y.length yc, .int .i64 loops] W fun r w' => ∃ v', r = .returned v' ∧ Ow w' W.heap.size v' (St.pcAll y loops) ∧ Below W.heap.size W w') := fun W hW => hL y W _ loops (by omega) (by omega) (i4.below (below_seq hB1 hW)) hly (by omega)
  have HPl : Hid (∀ W, Below (w.alloc (.cells #[.int .i64 3, .int .i64 n, .int .i64 ek, .int .i64 en, .slice ead em ec, .int .i64 ck, .int .i64 ak, .int .i64 an, .slice aad am ac, .int .i64 bk, .int .i64 bn, .slice bad bm bc, .slice yad y.length yc, .slice lad l.length lc] 123)).heap.size (w.alloc (.cells #[.int .i64 3, .int .i64 n, .int .i64 ek, .int .i64 en, .slice ead em ec, .int .i64 ck, .int .i64 ak, .int .i64 an, .slice aad am ac, .int .i64 bk, .int .i64 bn, .slice bad bm bc, .slice yad y.length yc, .slice lad l.length lc] 123)) W → Calls Tryd.prog 64 #[.slice lad l.length lc, .int .i64 loops] W fun r w' => ∃ v', r = .returned v' ∧ Ow w' W.heap.size v' (St.pcAll l loops) ∧ Below W.heap.size W w') := fun W hW => hL l W _ loops (by omega) (by omega) (i5.below (below_seq hB1 hW)) hll (by omega)
  have HCd : Hid (∀ W, Below (w.alloc (.cells #[.int .i64 3, .int .i64 n, .int .i64 ek, .int .i64 en, .slice ead em ec, .int .i64 ck, .int .i64 ak, .int .i64 an, .slice aad am ac, .int .i64 bk, .int .i64 bn, .slice bad bm bc, .slice yad y.length yc, .slice lad l.length lc] 123)).heap.size (w.alloc (.cells #[.int .i64 3, .int .i64 n, .int .i64 ek, .int .i64 en, .slice ead em ec, .int .i64 ck, .int .i64 ak, .int .i64 an, .slice aad am ac, .int .i64 bk, .int .i64 bn, .slice bad bm bc, .slice yad y.length yc, .slice lad l.length lc] 123)) W → Calls Tryd.prog 132 #[.agg #[.int .i64 ck, .int .i64 ak, .int .i64 an, .slice aad am ac, .int .i64 bk, .int .i64 bn, .slice bad bm bc]] W fun r w' => ∃ v', r = .returned v' ∧ Ow w' W.heap.size v' (cdP ck ca cb) ∧ Below W.heap.size W w') := fun W hW => condPiece_any W ck ca cb ak an bk bn aad bad am ac bm bc (Ex.In.below (below_seq hB1 hW) _ i2) (Ex.In.below (below_seq hB1 hW) _ i3) hla hlb (by omega) (by omega)
  have hyl := St.pcAll_len y loops
  have hll' := St.pcAll_len l loops
  have hcl := cdP_len ck ca cb
  have HJ : Hid (JB (St.pcAll y loops).length (St.pcAll y loops) ∧ JB (St.pcAll l loops).length (St.pcAll l loops) ∧ ∀ m, JB m (cdP ck ca cb)) := ⟨St.pcAll_jb y loops hly, St.pcAll_jb l loops hll, fun m => JB.free (fun d => cdP_mv d ck ca cb hla hlb)⟩
  have HC : Hid True := trivial
  obtain ⟨A, hA⟩ : ∃ A, St.pcAll y loops = A := ⟨_, rfl⟩
  obtain ⟨B, hB⟩ : ∃ B, St.pcAll l loops = B := ⟨_, rfl⟩
  obtain ⟨C, hC⟩ : ∃ C, cdP ck ca cb = C := ⟨_, rfl⟩
  have HPP : Hid ((if l.length = 0 then ifP (cdP ck ca cb) (St.pcAll y loops) else elP (cdP ck ca cb) (St.pcAll y loops) (St.pcAll l loops)) = (if l.length = 0 then ifP C A else elP C A B)) := by show _ = _; rw [hA, hB, hC]
  rw [HPP.out]
  rw [hA] at HPy hyl HJ
  rw [hB] at HPl hll' HJ
  rw [hC] at HCd hcl HJ
  have hAb : A.length ≤ 160000 := by omega
  have hBb : B.length ≤ 160000 := by omega
  have hCb : C.length ≤ 160000 := by omega
  clear i2 i3 i4 i5 hly hll hL hA hB hC hla hlb HPP
  obtain ⟨PP, hPP⟩ : ∃ PP, (if l.length = 0 then ifP C A else elP C A B) = PP := ⟨_, rfl⟩
  rw [hPP]
  have HPP : Hid ((if l.length = 0 then ifP C A else elP C A B) = PP) := hPP
  clear hPP
  go_enter Tryd.func100, Tryd.ntmps100
  go_wp2_with fail
  obtain ⟨W1, hW1⟩ : ∃ W1, w.alloc (.cells #[.int .i64 3, .int .i64 n, .int .i64 ek, .int .i64 en, .slice ead em ec, .int .i64 ck, .int .i64 ak, .int .i64 an, .slice aad am ac, .int .i64 bk, .int .i64 bn, .slice bad bm bc, .slice yad y.length yc, .slice lad l.length lc] 123) = W1 := ⟨_, rfl⟩
  rw [hW1] at hB1 hk1 hs1 HPy HPl HCd ⊢
  obtain ⟨d1, e1, l1⟩ := cells_of (l := [_, _, _, _, _, _, _, _, _, _, _, _, _, _]) hk1
  have x0 := d1 0 _ rfl
  have x1 := d1 1 _ rfl
  have x5 := d1 5 _ rfl
  have x6 := d1 6 _ rfl
  have x7 := d1 7 _ rfl
  have x8 := d1 8 _ rfl
  have x9 := d1 9 _ rfl
  have x10 := d1 10 _ rfl
  have x11 := d1 11 _ rfl
  have x12 := d1 12 _ rfl
  have x13 := d1 13 _ rfl
  have HX : Hid (Below w.heap.size w W1 ∧ W1.heap.size = w.heap.size + 1) := ⟨hB1, hs1⟩
  have HXC : Hid (W1.cell? ⟨w.heap.size, 0, none⟩ = some (.int .i64 3) ∧ W1.cell? ⟨w.heap.size, 1, none⟩ = some (.int .i64 n)) := ⟨x0, x1⟩
  clear hW1 d1 e1 hk1 hB1 hs1
  refine wp_region_noPanic ?_
  refine wp_region_held_drew (S := fun w' => Below W1.heap.size W1 w' ∧ w'.cell? ⟨w.heap.size, 5, none⟩ = some (.int .i64 ck) ∧ w'.cell? ⟨w.heap.size, 6, none⟩ = some (.int .i64 ak) ∧ w'.cell? ⟨w.heap.size, 7, none⟩ = some (.int .i64 an) ∧ w'.cell? ⟨w.heap.size, 8, none⟩ = some (.slice aad am ac) ∧ w'.cell? ⟨w.heap.size, 9, none⟩ = some (.int .i64 bk) ∧ w'.cell? ⟨w.heap.size, 10, none⟩ = some (.int .i64 bn) ∧ w'.cell? ⟨w.heap.size, 11, none⟩ = some (.slice bad bm bc) ∧ w'.cell? ⟨w.heap.size, 12, none⟩ = some (.slice yad y.length yc) ∧ w'.cell? ⟨w.heap.size, 13, none⟩ = some (.slice lad l.length lc)) (by kernel_rfl) ⟨(Below.refl _ _).drew, x5, x6, x7, x8, x9, x10, x11, x12, x13⟩ (fun hHeld => ?_)
  refine take_at (i := 0) (n := 34) (v := ?_) rfl rfl (by kernel_rfl) (by kernel_rfl) (by kernel_rfl) (fun _ _ _ h => h) (Or.inl ⟨by rfl, ?_⟩) (by assumption) ?_
  rotate_left 1
  · intro wz hSw
    obtain ⟨-, s0, s1, s2, s3, s4, s5, s6, s7, s8⟩ := hSw
    first | (go_simp; done) | (go_simp; with_reducible rfl)
  simp only [List.set_cons_zero, List.set_cons_succ]
  refine take_at (i := 1) (n := 35) (v := ?_) rfl rfl (by kernel_rfl) (by kernel_rfl) (by kernel_rfl) (fun _ _ _ h => h) (Or.inl ⟨by rfl, ?_⟩) (by assumption) ?_
  rotate_left 1
  · intro wz hSw
    obtain ⟨-, s0, s1, s2, s3, s4, s5, s6, s7, s8⟩ := hSw
    first | (go_simp; done) | (go_simp; with_reducible rfl)
  simp only [List.set_cons_zero, List.set_cons_succ]
  refine take_at (i := 3) (n := 37) (v := ?_) rfl rfl (by kernel_rfl) (by kernel_rfl) (by kernel_rfl) (fun _ _ _ h => h) (Or.inl ⟨by rfl, ?_⟩) (by assumption) ?_
  rotate_left 1
  · intro wz hSw
    obtain ⟨-, s0, s1, s2, s3, s4, s5, s6, s7, s8⟩ := hSw
    first | (go_simp; done) | (go_simp; with_reducible rfl)
  simp only [List.set_cons_zero, List.set_cons_succ]
  refine take_at (i := 4) (n := 38) (v := ?_) rfl rfl (by kernel_rfl) (by kernel_rfl) (by kernel_rfl) (fun _ _ _ h => h) (Or.inl ⟨by rfl, ?_⟩) (by assumption) ?_
  rotate_left 1
  · intro wz hSw
    obtain ⟨-, s0, s1, s2, s3, s4, s5, s6, s7, s8⟩ := hSw
    first | (go_simp; done) | (go_simp; with_reducible rfl)
  simp only [List.set_cons_zero, List.set_cons_succ]
  refine take_at (i := 5) (n := 39) (v := ?_) rfl rfl (by kernel_rfl) (by kernel_rfl) (by kernel_rfl) (fun _ _ _ h => h) (Or.inl ⟨by rfl, ?_⟩) (by assumption) ?_
  rotate_left 1
  · intro wz hSw
    obtain ⟨-, s0, s1, s2, s3, s4, s5, s6, s7, s8⟩ := hSw
    first | (go_simp; done) | (go_simp; with_reducible rfl)
  simp only [List.set_cons_zero, List.set_cons_succ]
  refine take_at (i := 7) (n := 41) (v := ?_) rfl rfl (by kernel_rfl) (by kernel_rfl) (by kernel_rfl) (fun _ _ _ h => h) (Or.inl ⟨by rfl, ?_⟩) (by assumption) ?_
  rotate_left 1
  · intro wz hSw
    obtain ⟨-, s0, s1, s2, s3, s4, s5, s6, s7, s8⟩ := hSw
    first | (go_simp; done) | (go_simp; with_reducible rfl)
  simp only [List.set_cons_zero, List.set_cons_succ]
  refine take_at (i := 8) (n := 42) (v := ?_) rfl rfl (by kernel_rfl) (by kernel_rfl) (by kernel_rfl) (fun _ _ _ h => h) (Or.inl ⟨by rfl, ?_⟩) (by assumption) ?_
  rotate_left 1
  · intro wz hSw
    obtain ⟨-, s0, s1, s2, s3, s4, s5, s6, s7, s8⟩ := hSw
    first | (go_simp; done) | (go_simp; with_reducible rfl)
  simp only [List.set_cons_zero, List.set_cons_succ]
  refine take_at (i := 9) (n := 43) (v := ?_) rfl rfl (by kernel_rfl) (by kernel_rfl) (by kernel_rfl) (fun _ _ _ h => h) (Or.inl ⟨by rfl, ?_⟩) (by assumption) ?_
  rotate_left 1
  · intro wz hSw
    obtain ⟨-, s0, s1, s2, s3, s4, s5, s6, s7, s8⟩ := hSw
    first | (go_simp; done) | (go_simp; with_reducible rfl)
  simp only [List.set_cons_zero, List.set_cons_succ]
  refine wpAnyH_ready (rs := [2]) (by kernel_rfl) (by simp) ?_
  refine AllReadyH.cons rfl (fun K hK => ?_) AllReadyH.nil
  · go_simp
    refine (HCd.out _ hHeld.1).mono ?_
    rintro r wC ⟨vC, rfl, hoC, hbC⟩
    obtain ⟨adC, cC, hvC⟩ := hoC.shape
    subst hvC
    have hsC := hbC.size
    refine hK.out _ _ ⟨below_seq hHeld.1 hbC, below_cell hbC hHeld.2.1, below_cell hbC hHeld.2.2.1, below_cell hbC hHeld.2.2.2.1, below_cell hbC hHeld.2.2.2.2.1, below_cell hbC hHeld.2.2.2.2.2.1, below_cell hbC hHeld.2.2.2.2.2.2.1, below_cell hbC hHeld.2.2.2.2.2.2.2.1, below_cell hbC hHeld.2.2.2.2.2.2.2.2.1, below_cell hbC hHeld.2.2.2.2.2.2.2.2.2⟩ (fun hHeld => ?_)
    clear hK K
    refine wpAnyH_ready (rs := [6]) (by kernel_rfl) (by simp) ?_
    refine AllReadyH.cons rfl (fun K hK => ?_) AllReadyH.nil
    · go_simp
      refine (HPy.out _ hHeld.1).mono ?_
      rintro r wA ⟨vA, rfl, hoA, hbA⟩
      obtain ⟨adA, cA, hvA⟩ := hoA.shape
      subst hvA
      have ltCA : ∀ k, (Value.slice adC C.length cC).ownBlock = some k → k < wC.heap.size := fun k hk => (hoC.lt k hk).2
      have hoC := hoC.below hbA
      have hsA := hbA.size
      refine hK.out _ _ ⟨below_seq hHeld.1 hbA, below_cell hbA hHeld.2.1, below_cell hbA hHeld.2.2.1, below_cell hbA hHeld.2.2.2.1, below_cell hbA hHeld.2.2.2.2.1, below_cell hbA hHeld.2.2.2.2.2.1, below_cell hbA hHeld.2.2.2.2.2.2.1, below_cell hbA hHeld.2.2.2.2.2.2.2.1, below_cell hbA hHeld.2.2.2.2.2.2.2.2.1, below_cell hbA hHeld.2.2.2.2.2.2.2.2.2⟩ (fun hHeld => ?_)
      clear hK K
      refine wpAnyH_ready (rs := [10]) (by kernel_rfl) (by simp) ?_
      refine AllReadyH.cons rfl (fun K hK => ?_) AllReadyH.nil
      · go_simp
        refine (HPl.out _ hHeld.1).mono ?_
        rintro r wB ⟨vB, rfl, hoB, hbB⟩
        obtain ⟨adB, cB, hvB⟩ := hoB.shape
        subst hvB
        have ltCB : ∀ k, (Value.slice adC C.length cC).ownBlock = some k → k < wA.heap.size := fun k hk => (hoC.lt k hk).2
        have hoC := hoC.below hbB
        have ltAB : ∀ k, (Value.slice adA A.length cA).ownBlock = some k → k < wA.heap.size := fun k hk => (hoA.lt k hk).2
        have hoA := hoA.below hbB
        have hsB := hbB.size
        refine hK.out _ _ ⟨below_seq hHeld.1 hbB, below_cell hbB hHeld.2.1, below_cell hbB hHeld.2.2.1, below_cell hbB hHeld.2.2.2.1, below_cell hbB hHeld.2.2.2.2.1, below_cell hbB hHeld.2.2.2.2.2.1, below_cell hbB hHeld.2.2.2.2.2.2.1, below_cell hbB hHeld.2.2.2.2.2.2.2.1, below_cell hbB hHeld.2.2.2.2.2.2.2.2.1, below_cell hbB hHeld.2.2.2.2.2.2.2.2.2⟩ (fun hHeld => ?_)
        clear hK K
        refine take_at (i := 11) (n := 5) (v := ?_) rfl rfl (by kernel_rfl) (by kernel_rfl) (by kernel_rfl) (fun _ _ _ h => h) (Or.inl ⟨by rfl, ?_⟩) (by assumption) ?_
        rotate_left 1
        · intro wz hSw
          obtain ⟨-, s0, s1, s2, s3, s4, s5, s6, s7, s8⟩ := hSw
          first | (go_simp; done) | (go_simp; with_reducible rfl)
        simp only [List.set_cons_zero, List.set_cons_succ]
        refine take_at (i := 12) (n := 6) (v := ?_) rfl rfl (by kernel_rfl) (by kernel_rfl) (by kernel_rfl) (fun _ _ _ h => h) (Or.inl ⟨by rfl, ?_⟩) (by assumption) ?_
        rotate_left 1
        · intro wz hSw
          obtain ⟨-, s0, s1, s2, s3, s4, s5, s6, s7, s8⟩ := hSw
          first | (go_simp; done) | (go_simp; with_reducible rfl)
        simp only [List.set_cons_zero, List.set_cons_succ]
        refine take_at (i := 13) (n := 7) (v := ?_) rfl rfl (by kernel_rfl) (by kernel_rfl) (by kernel_rfl) (fun _ _ _ h => h) (Or.inl ⟨by rfl, ?_⟩) (by assumption) ?_
        rotate_left 1
        · intro wz hSw
          obtain ⟨-, s0, s1, s2, s3, s4, s5, s6, s7, s8⟩ := hSw
          first | (go_simp; done) | (go_simp; with_reducible rfl)
        simp only [List.set_cons_zero, List.set_cons_succ]
        refine wpAnyH_done (by kernel_rfl) ?_ _
        refine NoPanic.normal ?_
        have HR3 : Hid (Ow wB W1.heap.size (.slice adC C.length cC) C ∧ Ow wB W1.heap.size (.slice adA A.length cA) A ∧ Ow wB W1.heap.size (.slice adB B.length cB) B ∧ Below W1.heap.size W1 wB ∧ (∀ k, (Value.slice adA A.length cA).ownBlock = some k → (Value.slice adC C.length cC).ownBlock ≠ some k) ∧ (∀ k, (Value.slice adB B.length cB).ownBlock = some k → (Value.slice adC C.length cC).ownBlock ≠ some k)) := ⟨hoC.low (by first | exact Nat.le_refl _ | (simp at *; omega)), hoA.low (by first | omega | (simp at *; omega)), hoB.low (by first | omega | (simp at *; omega)), hHeld.1, fun k hk e => by have := (hoA.lt k hk).1; have := ltCA k e; omega, fun k hk e => by have := (hoB.lt k hk).1; have := ltCB k e; omega⟩
        have z13 := hHeld.2.2.2.2.2.2.2.2.2
        have lz : w.heap.size < wB.heap.size := World.block_lt_of_cell? _ _ z13
        clear hHeld hoC hoA hoB hbC hbA hbB hsC hsA hsB ltCA ltCB ltAB x0 x1 x5 x6 x7 x8 x9 x10 x11 x12 x13 HPy HPl HCd
        by_cases hl0 : l.length = 0
        · have hb0 : ((l.length : Int) == 0) = true := by rw [beq_iff_eq]; omega
          have hb0' : (l.length : Int) = 0 := by omega
          obtain ⟨D, hD⟩ : ∃ D : List Io, C ++ [⟨12, (C.length : Int) + 1 + A.length, 0⟩] = D := ⟨_, rfl⟩
          obtain ⟨E, hE⟩ : ∃ E, jn D A = E := ⟨_, rfl⟩
          have HD : Hid (C ++ [⟨12, (C.length : Int) + 1 + A.length, 0⟩] = D ∧ jn D A = E ∧ D.length = C.length + 1 ∧ E.length = C.length + 1 + A.length ∧ D.length ≤ 200000) := ⟨hD, hE, by rw [← hD]; simp, by rw [← hE, jn_len, ← hD]; simp, by rw [← hD]; simp; omega⟩
          have hEb : E.length ≤ 400000 := by have := HD.out; omega
          clear hD hE
          go_wp2_with (first
            | (go_at_call 99; refine (join_any w4 D A _ _ W1.heap.size H4.out.1 H4.out.2.1.sl (HJ.out.1.mono (by omega)) (by have := HD.out.2.2.2; omega)).mono ?_; rintro r w5 ⟨v5, rfl, ho5, hb5⟩; rw [HD.out.2.1] at ho5; obtain ⟨ad5, c5, hv5⟩ := ho5.shape; subst hv5; have H5 : Hid (Ow w5 W1.heap.size (.slice ad5 E.length c5) E ∧ Ow w5 W1.heap.size (.slice adB B.length cB) B ∧ Below W1.heap.size W1 w5 ∧ (∀ k, (Value.slice adB B.length cB).ownBlock = some k → (Value.slice ad5 E.length c5).ownBlock ≠ some k)) := ⟨ho5.low H4.out.2.2.2.size, H4.out.2.2.1.below hb5, below_seq H4.out.2.2.2 hb5, fun k hk e => by have := (ho5.lt k e).1; have := (H4.out.2.2.1.lt k hk).2; omega⟩; clear ho5 hb5)
            | (at_builtin; refine wp_app rfl (.tmp 49) (.tmp 57) rfl W1.heap.size wB.heap.size _ _ C [⟨12, (C.length : Int) + 1 + A.length, 0⟩] rfl rfl (HR3.out.1.below (below_new _ _)) (Ow.lit wB [⟨12, (C.length : Int) + 1 + A.length, 0⟩] _ rfl (by simp)) (by have := HR3.out.2.2.2.1.size; simp; omega) (by simp; omega) ?_; intro v4 w4 ho4 hg4 _ hsh4; obtain ⟨ad4, c4, hv4⟩ := hsh4; subst hv4; rw [HD.out.1] at ho4; have H4 : Hid (Ow w4 W1.heap.size (.slice ad4 (C.length + 1) c4) D ∧ Ow w4 W1.heap.size (.slice adA A.length cA) A ∧ Ow w4 W1.heap.size (.slice adB B.length cB) B ∧ Below W1.heap.size W1 w4) := ⟨ho4, (HR3.out.2.1.below (below_new _ _)).grown hg4 HR3.out.2.2.2.2.1, (HR3.out.2.2.1.below (below_new _ _)).grown hg4 HR3.out.2.2.2.2.2, (HR3.out.2.2.2.1.alloc HR3.out.2.2.2.1.size _).grown hg4 (by have := HR3.out.2.2.2.1.size; simp; omega) (fun k hk => (HR3.out.1.lt k hk).1)⟩; clear ho4 hg4))
          go_ret
          have hp : PP = E := by rw [← HPP.out, if_pos hl0]; show jn (C ++ [⟨12, (C.length : Int) + 1 + A.length, 0⟩]) A = E; rw [HD.out.1, HD.out.2.1]
          rw [hp]
          exact ⟨_, rfl, H5.out.1.low (by have := HX.out.2; omega), below_seq HX.out.1 H5.out.2.2.1⟩
        · have hb0 : ((l.length : Int) == 0) = false := by rw [beq_eq_false_iff_ne]; omega
          have hb0' : ¬ (l.length : Int) = 0 := by omega
          obtain ⟨D, hD⟩ : ∃ D : List Io, C ++ [⟨12, (C.length : Int) + 1 + A.length + 1, 0⟩] = D := ⟨_, rfl⟩
          obtain ⟨E, hE⟩ : ∃ E, jn D A = E := ⟨_, rfl⟩
          have HD : Hid (C ++ [⟨12, (C.length : Int) + 1 + A.length + 1, 0⟩] = D ∧ jn D A = E ∧ D.length = C.length + 1 ∧ E.length = C.length + 1 + A.length ∧ D.length ≤ 200000) := ⟨hD, hE, by rw [← hD]; simp, by rw [← hE, jn_len, ← hD]; simp, by rw [← hD]; simp; omega⟩
          have hEb : E.length ≤ 400000 := by have := HD.out; omega
          clear hD hE
          go_wp2_with (first
            | (go_at_call 99; refine (join_any w6 (E ++ [⟨11, (E.length : Int) + 1 + B.length, 0⟩]) B _ _ W1.heap.size H6.out.1 H6.out.2.1.sl (HJ.out.2.1.mono (by omega)) (by have := HD.out.2.2.2; simp; omega)).mono ?_; rintro r w7 ⟨v7, rfl, ho7, hb7⟩; obtain ⟨ad7, c7, hv7⟩ := ho7.shape; have H7 : Hid (Ow w7 W1.heap.size v7 (jn (E ++ [⟨11, (E.length : Int) + 1 + B.length, 0⟩]) B) ∧ Below W1.heap.size W1 w7) := ⟨ho7.low H6.out.2.2.size, below_seq H6.out.2.2 hb7⟩; clear ho7 hb7)
            | (at_builtin; refine wp_app rfl (.tmp 75) (.tmp 83) rfl W1.heap.size w5.heap.size _ _ E [⟨11, (E.length : Int) + 1 + B.length, 0⟩] rfl rfl (H5.out.1.below (below_new _ _)) (Ow.lit w5 [⟨11, (E.length : Int) + 1 + B.length, 0⟩] _ rfl (by simp)) (by have := H5.out.2.2.1.size; simp; omega) (by have := HD.out.2.2.2; simp; omega) ?_; intro v6 w6 ho6 hg6 _ hsh6; obtain ⟨ad6, c6, hv6⟩ := hsh6; subst hv6; have H6 : Hid (Ow w6 W1.heap.size (.slice ad6 (E.length + 1) c6) (E ++ [⟨11, (E.length : Int) + 1 + B.length, 0⟩]) ∧ Ow w6 W1.heap.size (.slice adB B.length cB) B ∧ Below W1.heap.size W1 w6) := ⟨ho6, (H5.out.2.1.below (below_new _ _)).grown hg6 H5.out.2.2.2, (H5.out.2.2.1.alloc H5.out.2.2.1.size _).grown hg6 (by have := H5.out.2.2.1.size; simp; omega) (fun k hk => (H5.out.1.lt k hk).1)⟩; clear ho6 hg6)
            | (go_at_call 99; refine (join_any w4 D A _ _ W1.heap.size H4.out.1 H4.out.2.1.sl (HJ.out.1.mono (by omega)) (by have := HD.out.2.2.2; omega)).mono ?_; rintro r w5 ⟨v5, rfl, ho5, hb5⟩; rw [HD.out.2.1] at ho5; obtain ⟨ad5, c5, hv5⟩ := ho5.shape; subst hv5; have H5 : Hid (Ow w5 W1.heap.size (.slice ad5 E.length c5) E ∧ Ow w5 W1.heap.size (.slice adB B.length cB) B ∧ Below W1.heap.size W1 w5 ∧ (∀ k, (Value.slice adB B.length cB).ownBlock = some k → (Value.slice ad5 E.length c5).ownBlock ≠ some k)) := ⟨ho5.low H4.out.2.2.2.size, H4.out.2.2.1.below hb5, below_seq H4.out.2.2.2 hb5, fun k hk e => by have := (ho5.lt k e).1; have := (H4.out.2.2.1.lt k hk).2; omega⟩; clear ho5 hb5)
            | (at_builtin; refine wp_app rfl (.tmp 61) (.tmp 70) rfl W1.heap.size wB.heap.size _ _ C [⟨12, (C.length : Int) + 1 + A.length + 1, 0⟩] rfl rfl (HR3.out.1.below (below_new _ _)) (Ow.lit wB [⟨12, (C.length : Int) + 1 + A.length + 1, 0⟩] _ rfl (by simp)) (by have := HR3.out.2.2.2.1.size; simp; omega) (by simp; omega) ?_; intro v4 w4 ho4 hg4 _ hsh4; obtain ⟨ad4, c4, hv4⟩ := hsh4; subst hv4; rw [HD.out.1] at ho4; have H4 : Hid (Ow w4 W1.heap.size (.slice ad4 (C.length + 1) c4) D ∧ Ow w4 W1.heap.size (.slice adA A.length cA) A ∧ Ow w4 W1.heap.size (.slice adB B.length cB) B ∧ Below W1.heap.size W1 w4) := ⟨ho4, (HR3.out.2.1.below (below_new _ _)).grown hg4 HR3.out.2.2.2.2.1, (HR3.out.2.2.1.below (below_new _ _)).grown hg4 HR3.out.2.2.2.2.2, (HR3.out.2.2.2.1.alloc HR3.out.2.2.2.1.size _).grown hg4 (by have := HR3.out.2.2.2.1.size; simp; omega) (fun k hk => (HR3.out.1.lt k hk).1)⟩; clear ho4 hg4))
          go_ret
          have hp : PP = jn (E ++ [⟨11, (E.length : Int) + 1 + B.length, 0⟩]) B := by rw [← HPP.out, if_neg hl0]; show jn (jn (C ++ [⟨12, (C.length : Int) + 1 + A.length + 1, 0⟩]) A ++ [⟨11, ((jn (C ++ [⟨12, (C.length : Int) + 1 + A.length + 1, 0⟩]) A).length : Int) + 1 + B.length, 0⟩]) B = _; rw [HD.out.1, HD.out.2.1]
          rw [hp]
          subst hv7
          exact ⟨_, rfl, H7.out.1.low (by have := HX.out.2; omega), below_seq HX.out.1 H7.out.2⟩


end Go.Proofs.YtgemadoieielcacDoor.B
