import Derived.Test.YtgemadoieielcacDoorGBInnerQ
import Derived.Test.YtgemadoieielcacDoorGBStmtR1
import Derived.Test.YtgemadoieielcacDoorGBStmtR2
import Derived.Test.YtgemadoieielcacDoorGBStmtR3
import Derived.Test.YtgemadoieielcacDoorGBStmtR4
import Derived.Test.YtgemadoieielcacDoorGBStmtR5
import Derived.Test.YtgemadoieielcacDoorGBStmtR6
import Derived.Test.YtgemadoieielcacDoorGCM
import Derived.Test.YtgemadoieielcacDoorGCW
import Derived.Test.YtgemadoieielcacDoorRows
import Derived.Test.YtgemadoieielcacDoorGBCheckP
import Derived.Test.YtgemadoieielcacDoorGCD
import Derived.LaidMore
import Derived.ChangeArms
import Derived.OpenShut
namespace Go.Proofs.YtgemadoieielcacDoor.B

theorem bulk_pos : ∀ s : St, 1 ≤ s.bulk
  | .mk k n e ck ca cb b l => by unfold St.bulk; omega

/-- Statements by lists, lists by statements: so all lists. -/
theorem list_all (w0 : World) (hstep : ∀ N, N ≤ 1048576 → ListOk w0 N → StmtOk w0 (N + 1)) : ∀ N, N ≤ 1048576 → ListOk w0 N := by
  intro N
  induction N with
  | zero =>
    intro _
    refine list_of_stmt w0 0 (by omega) ?_
    intro s w wb B i v sv ar h
    have := bulk_pos s
    omega
  | succ N ih =>
    intro hN
    exact list_of_stmt w0 (N + 1) hN (hstep N (by omega) (ih (by omega)))
end Go.Proofs.YtgemadoieielcacDoor.B
namespace Go.Proofs.YtgemadoieielcacDoor.B
open Go.ChangeShapes Go.WideShapes Go.ChangeAt Go.RowKit

set_option maxHeartbeats 1000000 in
/-- A statement, given the lists within it. -/
theorem stmt_of_list (w0 : World) (hr : Ready w0) (N : Nat) (hN : N ≤ 1048576) (hL : ListOk w0 N) : StmtOk w0 (N + 1) := by
  intro s w wb B i v sv ar hb hwb hB0 hin hwk hi1 hi2 har
  have h0s : 2 < w0.heap.size := World.block_lt_of_cell? _ _ (hr.1 1 (by omega) (by omega)).1
  obtain ⟨k, n, e, ck, ca, cb, b, l⟩ := s
  unfold St.In at hin
  obtain ⟨e0, e1, e2, a0, a1, a2, b0, b1, b2, sb, sl, rfl, he, hca, hcb, ⟨yad, yc, rfl, hy⟩, ⟨lad, lc, rfl, hl⟩⟩ := hin
  have hy' : St.Sl w0 b (.slice yad b.length yc) := ⟨yad, yc, rfl, hy⟩
  have hl' : St.Sl w0 l (.slice lad l.length lc) := ⟨lad, lc, rfl, hl⟩
  clear hy hl
  simp only [St.bulk] at hb hi2 har
  obtain ⟨ek, en, ea⟩ := e
  obtain ⟨ak, an, aa⟩ := ca
  obtain ⟨bk, bn, ba⟩ := cb
  have he' := he
  have hca' := hca
  have hcb' := hcb
  unfold Ex.In at he' hca' hcb'
  obtain ⟨ead, ec, hve, -⟩ := he'
  obtain ⟨aad, ac, hva, -⟩ := hca'
  obtain ⟨bad, bc, hvb, -⟩ := hcb'
  simp at hve hva hvb
  obtain ⟨rfl, rfl, rfl⟩ := hve
  obtain ⟨rfl, rfl, rfl⟩ := hva
  obtain ⟨rfl, rfl, rfl⟩ := hvb
  by_cases hk : k < 1 ∨ 8 ≤ k
  · rw [none_chk _ _ _ _ _ _ _ _ _ _ hk]
    exact stmt_none w wb B i v ar hwk hi1 (by omega) k n ek en ck ak an bk bn ead aad bad yad lad _ ec _ ac _ bc _ yc _ lc hk
  · obtain ⟨m, rfl⟩ : ∃ m : Nat, k = m := ⟨k.toNat, by omega⟩
    obtain ⟨t0, t1, t2, t3, t4, t5⟩ := hr.1.below h0s hB0 m (by omega) (by omega)
    have hbk : (Ex.mk ek en ea).nodes + (Ex.mk ak an aa).nodes + (Ex.mk bk bn ba).nodes + St.bulkAll b + St.bulkAll l ≤ N := by omega
    have hj2 : i + 1 + (St.bulkAll b + St.bulkAll l : Nat) ≤ 2097152 := by omega
    have hja : ar.length + 1 + (St.bulkAll b + St.bulkAll l) ≤ 2097152 := by omega
    have look := look_chk m n (.mk ek en ea) ck (.mk ak an aa) (.mk bk bn ba) b l ar i hk
    rw [← look]
    clear look
    by_cases hlo : lowN m ≤ n
    · have eb0 : decide (lowN m ≤ n ∧ n ≤ highN m) = decide (n ≤ highN m) := by simp [hlo]
      rw [eb0]
      cases hinn : innK m
      · have hm6 : m ≠ 6 := by rintro rfl; simp [innK] at hinn
        have e6 : decide ((m : Int) = 6) = false := decide_eq_false (by omega)
        rw [hinn] at t4
        rw [e6]
        simp only [Bool.not_false, Bool.true_or]
        exact stmt_r1 w0 N hN hL w wb B i v ar m n ek en ck ak an bk bn _ _ ead aad bad yad lad _ ec _ ac _ bc yc lc _ _ _ (.mk ek en ea) (.mk ak an aa) (.mk bk bn ba) b l hbk hwb (by omega) hB0 hr.2 he hca hcb hy' hl' hwk hi1 hj2 hja t0 t1 t2 t3 t4 t5 (by omega) (by omega) hm6 hlo
      · rw [hinn] at t4
        by_cases hm6 : m = 6
        · subst hm6
          have e6 : decide (((6 : Nat) : Int) = 6) = true := by decide
          rw [e6]
          simp only [Bool.not_true, Bool.false_or]
          exact stmt_r5 w0 N hN hL w wb B i v ar n ek en ck ak an bk bn _ _ ead aad bad yad lad _ ec _ ac _ bc yc lc _ _ _ (.mk ek en ea) (.mk ak an aa) (.mk bk bn ba) b l hbk hwb (by omega) hB0 hr.2 he hca hcb hy' hl' hwk hi1 hj2 hja t0 t1 t2 t3 t4 t5 hlo
        · have e6 : decide ((m : Int) = 6) = false := decide_eq_false (by omega)
          rw [e6]
          simp only [Bool.not_true, Bool.false_or, Bool.not_false, Bool.true_or]
          exact stmt_r3 w0 N hN hL w wb B i v ar m n ek en ck ak an bk bn _ _ ead aad bad yad lad _ ec _ ac _ bc yc lc _ _ _ (.mk ek en ea) (.mk ak an aa) (.mk bk bn ba) b l hbk hwb (by omega) hB0 hr.2 he hca hcb hy' hl' hwk hi1 hj2 hja t0 t1 t2 t3 t4 t5 (by omega) (by omega) hm6 hlo
    · have eb0 : decide (lowN m ≤ n ∧ n ≤ highN m) = false := by simp [hlo]
      rw [eb0]
      cases hinn : innK m
      · have hm6 : m ≠ 6 := by rintro rfl; simp [innK] at hinn
        have e6 : decide ((m : Int) = 6) = false := decide_eq_false (by omega)
        rw [hinn] at t4
        rw [e6]
        simp only [Bool.not_false, Bool.true_or]
        exact stmt_r2 w0 N hN hL w wb B i v ar m n ek en ck ak an bk bn _ _ ead aad bad yad lad _ ec _ ac _ bc yc lc _ _ _ (.mk ek en ea) (.mk ak an aa) (.mk bk bn ba) b l hbk hwb (by omega) hB0 hr.2 he hca hcb hy' hl' hwk hi1 hj2 hja t0 t1 t2 t3 t4 t5 (by omega) (by omega) hm6 hlo
      · rw [hinn] at t4
        by_cases hm6 : m = 6
        · subst hm6
          have e6 : decide (((6 : Nat) : Int) = 6) = true := by decide
          rw [e6]
          simp only [Bool.not_true, Bool.false_or]
          exact stmt_r6 w0 N hN hL w wb B i v ar n ek en ck ak an bk bn _ _ ead aad bad yad lad _ ec _ ac _ bc yc lc _ _ _ (.mk ek en ea) (.mk ak an aa) (.mk bk bn ba) b l hbk hwb (by omega) hB0 hr.2 he hca hcb hy' hl' hwk hi1 hj2 hja t0 t1 t2 t3 t4 t5 hlo
        · have e6 : decide ((m : Int) = 6) = false := decide_eq_false (by omega)
          rw [e6]
          simp only [Bool.not_true, Bool.false_or, Bool.not_false, Bool.true_or]
          exact stmt_r4 w0 N hN hL w wb B i v ar m n ek en ck ak an bk bn _ _ ead aad bad yad lad _ ec _ ac _ bc yc lc _ _ _ (.mk ek en ea) (.mk ak an aa) (.mk bk bn ba) b l hbk hwb (by omega) hB0 hr.2 he hca hcb hy' hl' hwk hi1 hj2 hja t0 t1 t2 t3 t4 t5 (by omega) (by omega) hm6 hlo

theorem every_list (W : World) (hr : Ready W) : ListOk W 1048576 := list_all W (fun N hN hL => stmt_of_list W hr N hN hL) 1048576 (Nat.le_refl _)

end Go.Proofs.YtgemadoieielcacDoor.B
namespace Go.Proofs.YtgemadoieielcacDoor.B
open Go.ChangeShapes Go.WideShapes Go.ChangeAt Go.RowKit

theorem imF_len (a : List St) (cx cy : Int) : (imF a cx cy).2.length ≤ 2000 := by
  unfold imF
  split
  · split
    · simp
    · simp only; omega
  · simp

theorem imF_plain : imF plainT 0 0 = ((0, 0), imageL) := by first | kernel_rfl | rfl

/-- What Image answers, plain. -/
theorem Image_m (hall : ∀ W, Ready W → ListOk W 1048576) (a : List St) (cx cy mx my : Int) (I : List Io) (w : World) (v : Value) (p : Nat → Prop) (bl : List Nat) (hr : Ready w ∧ EndsIn w ∧ CompsIn w) (h : St.SlQ p w a v bl ∧ bl.Nodup) (hN : St.bulkAll a ≤ 1048576) (hx : checkV a = .agg #[.int .i64 cx, .int .i64 cy] ∧ imF a cx cy = ((mx, my), I)) : Calls Tryd.prog 30 #[v] w fun r w' => ∃ ad c, r = .returned (.tuple #[.slice ad I.length c, .agg #[.int .i64 mx, .int .i64 my]]) ∧ Ow w' w.heap.size (.slice ad I.length c) I ∧ Below w.heap.size w w' := by
  have := Image_any hall a cx cy w v p bl hr.1 hr.2.1 hr.2.2 ⟨h.1, h.2, hN⟩ hx.1
  rw [hx.2] at this
  refine this.mono ?_
  rintro r w' ⟨iv, rfl, ho, hb⟩
  obtain ⟨ad, c, rfl⟩ := owns_value ho
  exact ⟨ad, c, rfl, ho, hb⟩

theorem Compile_m (a : List St) (cx cy mx my : Int) (I : List Io) (w : World) (v : Value) (h : St.Sl w a v) (hN : St.bulkAll a ≤ 1048576) (hx : checkV a = .agg #[.int .i64 cx, .int .i64 cy] ∧ imF a cx cy = ((mx, my), I)) : Calls Tryd.prog 34 #[v] w fun r w' => ∃ ad c, r = .returned (.tuple #[.slice ad I.length c, .agg #[.int .i64 mx, .int .i64 my]]) ∧ Ow w' w.heap.size (.slice ad I.length c) I ∧ Below w.heap.size w w' := by
  have := Compile_any a cx cy w v h hN hx.1
  rw [hx.2] at this
  refine this.mono ?_
  rintro r w' ⟨iv, rfl, ho, hb⟩
  obtain ⟨ad, c, rfl⟩ := owns_value ho
  exact ⟨ad, c, rfl, ho, hb⟩

/-- The law's own body and its image. -/
theorem plain_m (hall : ∀ W, Ready W → ListOk W 1048576) (w : World) (hr : Ready w ∧ EndsIn w ∧ CompsIn w) : Calls Tryd.prog 31 #[] w fun r w' => ∃ v L, r = .returned v ∧ Hid (L = imageL ∧ (∀ W, Below w'.heap.size w' W → Calls Tryd.prog 30 #[v] W fun r W' => ∃ ad c, r = .returned (.tuple #[.slice ad L.length c, .agg #[.int .i64 0, .int .i64 0]]) ∧ Ow W' W.heap.size (.slice ad L.length c) L ∧ Below W.heap.size W W')) ∧ L.length ≤ 100 ∧ Below w.heap.size w w' := by
  refine (plain_any w).mono ?_
  rintro r w' ⟨v, bl, rfl, h1, h2, h3⟩
  refine ⟨v, imageL, rfl, ⟨rfl, fun W hW => ?_⟩, by decide, h3⟩
  have hb := below_seq h3 hW
  exact Image_m hall plainT 0 0 0 0 imageL W v _ bl ⟨hr.1.below hb, hr.2.1.below hb, hr.2.2.below hb⟩ ⟨h1.move (fun b hb hl => ⟨hb, hW.block b hl⟩), h2⟩ bulk_plain ⟨checkV_plain, imF_plain⟩

theorem image_m (L : List Io) (h : L = imageL) (w : World) : Calls Tryd.prog 20 #[] w fun r w' => ∃ ad c, r = .returned (.slice ad L.length c) ∧ InSl w' L (.slice ad L.length c) ∧ Below w.heap.size w w' := by
  subst h
  exact (image_any w).mono fun r w' ⟨b, h1, h2, h3⟩ => ⟨_, _, h1, h2, h3⟩

set_option maxRecDepth 20000 in
set_option maxHeartbeats 1000000 in
theorem makes_false (w : World) (a : List St) (ad : Option Addr) (c : Nat) (hr : Ready w ∧ EndsIn w ∧ CompsIn w) (h : St.Sl w a (.slice ad a.length c)) (hN : St.bulkAll a ≤ 1048576) (hc : (decide (St.deepAll 0 a ≤ 300) && decide ((St.countAll a : Int) ≤ 2000)) = false) : Calls Tryd.prog 6 #[.slice ad a.length c] w fun r w' => r = .returned (.bool true) ∧ Below w.heap.size w w' := by
  have HP := plain_m every_list w hr
  have HW : Hid ((Ready w ∧ EndsIn w ∧ CompsIn w) ∧ St.Sl w a (.slice ad a.length c)) := ⟨hr, h⟩
  have HC : Hid ((decide (St.deepAll 0 a ≤ 300) && decide ((St.countAll a : Int) ≤ 2000)) = false) := hc
  clear hr h hc
  go_enter Tryd.func6, Tryd.ntmps6
  go_wp2_with (first
    | (go_at_call 33; refine (claims_b a _ _ false hN (HW.out.2.below H4.out) HC.out).mono ?_; rintro r w5 ⟨rfl, hb5⟩; have H5 : Hid (Below w.heap.size w w5) := below_seq H4.out hb5; clear hb5)
    | (go_at_call 32; refine (SameN_any _ L ad2 ad3 c2 c3 (by omega) H3.out.1 H3.out.2.1).mono ?_; rintro r w4 ⟨rfl, hb4⟩; have H4 : Hid (Below w.heap.size w w4) := below_seq H3.out.2.2 hb4; clear hb4)
    | (go_at_call 20; refine (image_m L HL.out.1 _).mono ?_; rintro r w3 ⟨ad3, c3, rfl, hi3, hb3⟩; have H3 : Hid (InSl w3 L (.slice ad2 L.length c2) ∧ InSl w3 L (.slice ad3 L.length c3) ∧ Below w.heap.size w w3) := ⟨(H2.out.1.sl.below (below_new _ _)).below hb3, hi3, below_seq (below_seq H2.out.2 (below_new _ _)) hb3⟩; clear hi3 hb3)
    | (go_at_call 30; refine (HL.out.2 _ (Below.refl _ _)).mono ?_; rintro r w2 ⟨ad2, c2, rfl, ho2, hb2⟩; have H2 : Hid (Ow w2 w1.heap.size (.slice ad2 L.length c2) L ∧ Below w.heap.size w w2) := ⟨ho2, below_seq H1.out hb2⟩; clear ho2 hb2)
    | (go_at_call 31; refine HP.mono ?_; rintro r w1 ⟨v1, L, rfl, HL, hLl, hb1⟩; have H1 : Hid (Below w.heap.size w w1) := hb1; clear hb1 HP))
  go_ret
  exact ⟨rfl, H5.out⟩

set_option maxRecDepth 20000 in
set_option maxHeartbeats 1000000 in
theorem makes_true (w : World) (a : List St) (ad : Option Addr) (c : Nat) (hr : Ready w ∧ EndsIn w ∧ CompsIn w) (h : St.Sl w a (.slice ad a.length c)) (hN : St.bulkAll a ≤ 1048576) (hc : (decide (St.deepAll 0 a ≤ 300) && decide ((St.countAll a : Int) ≤ 2000)) = true) : Calls Tryd.prog 6 #[.slice ad a.length c] w fun r w' => r = .returned (.bool true) ∧ Below w.heap.size w w' := by
  have HP := plain_m every_list w hr
  have HW : Hid ((Ready w ∧ EndsIn w ∧ CompsIn w) ∧ St.Sl w a (.slice ad a.length c)) := ⟨hr, h⟩
  have HC : Hid ((decide (St.deepAll 0 a ≤ 300) && decide ((St.countAll a : Int) ≤ 2000)) = true) := hc
  obtain ⟨cx, cy, hx⟩ := checkV_two a
  obtain ⟨⟨⟨mx, my⟩, I⟩, hm⟩ : ∃ m, imF a cx cy = m := ⟨_, rfl⟩
  have hIl : I.length ≤ 2000 := by have := imF_len a cx cy; rw [hm] at this; exact this
  have HX : Hid (checkV a = .agg #[.int .i64 cx, .int .i64 cy] ∧ imF a cx cy = ((mx, my), I)) := ⟨hx, hm⟩
  clear hx hm
  clear hr h hc
  go_enter Tryd.func6, Tryd.ntmps6
  go_wp2_with (first
    | (go_at_call 35; refine (Twin_any 1048577 a _ _ (by omega) (Nat.le_refl _) (HW.out.2.below (below_seq H6.out.2 (below_new _ _)))).mono ?_; rintro r w7 ⟨v7, bl, rfl, hq7, hn7, hb7⟩; obtain ⟨ad7, c7, hv7, -⟩ := hq7.plain; subst hv7; have H7 : Hid (St.SlQ (fun b => (w6.alloc (.cells #[.int .i64 mx, .int .i64 my] 30)).heap.size ≤ b) w7 a (.slice ad7 a.length c7) bl ∧ bl.Nodup ∧ Ow w7 w5.heap.size (.slice ad6 I.length c6) I ∧ w7.heap[w6.heap.size]? = some (.cells #[.int .i64 mx, .int .i64 my] 30 (0, 0)) ∧ Below w.heap.size w w7) := ⟨hq7, hn7, (H6.out.1.below (below_new _ _)).below hb7, (hb7.block w6.heap.size (by simp)).trans (heap_alloc_new _ _), below_seq (below_seq H6.out.2 (below_new _ _)) hb7⟩; clear hq7 hn7 hb7)
    | (go_at_call 34; refine (Compile_m a cx cy mx my I _ _ (HW.out.2.below H5.out) hN HX.out).mono ?_; rintro r w6 ⟨ad6, c6, rfl, ho6, hb6⟩; have H6 : Hid (Ow w6 w5.heap.size (.slice ad6 I.length c6) I ∧ Below w.heap.size w w6) := ⟨ho6, below_seq H5.out hb6⟩; clear ho6 hb6)
    | (go_at_call 33; refine (claims_b a _ _ true hN (HW.out.2.below H4.out) HC.out).mono ?_; rintro r w5 ⟨rfl, hb5⟩; have H5 : Hid (Below w.heap.size w w5) := below_seq H4.out hb5; clear hb5)
    | (go_at_call 32; refine (SameN_any _ L ad2 ad3 c2 c3 (by omega) H3.out.1 H3.out.2.1).mono ?_; rintro r w4 ⟨rfl, hb4⟩; have H4 : Hid (Below w.heap.size w w4) := below_seq H3.out.2.2 hb4; clear hb4)
    | (go_at_call 20; refine (image_m L HL.out.1 _).mono ?_; rintro r w3 ⟨ad3, c3, rfl, hi3, hb3⟩; have H3 : Hid (InSl w3 L (.slice ad2 L.length c2) ∧ InSl w3 L (.slice ad3 L.length c3) ∧ Below w.heap.size w w3) := ⟨(H2.out.1.sl.below (below_new _ _)).below hb3, hi3, below_seq (below_seq H2.out.2 (below_new _ _)) hb3⟩; clear hi3 hb3)
    | (go_at_call 30; refine (HL.out.2 _ (Below.refl _ _)).mono ?_; rintro r w2 ⟨ad2, c2, rfl, ho2, hb2⟩; have H2 : Hid (Ow w2 w1.heap.size (.slice ad2 L.length c2) L ∧ Below w.heap.size w w2) := ⟨ho2, below_seq H1.out hb2⟩; clear ho2 hb2)
    | (go_at_call 31; refine HP.mono ?_; rintro r w1 ⟨v1, L, rfl, HL, hLl, hb1⟩; have H1 : Hid (Below w.heap.size w w1) := hb1; clear hb1 HP))
  go_loopw [34] (fun x wr => ∃ j : Nat, j ≤ 2 ∧ x = .int .i64 j ∧ Hid (Below w7.heap.size w7 wr)) (fun x _ => 2 - (intOf x).toNat)
  case atStart => exact ⟨0, by omega, rfl, Below.refl _ _⟩
  case round =>
    obtain ⟨j, hj, rfl, HB⟩ := hrel
    by_cases hlt : j < 2
    · have hbw : Below w.heap.size w wr := below_seq H7.out.2.2.2.2 HB.out
      have HIm := Image_m every_list a cx cy mx my I wr (.slice ad7 a.length c7) _ bl ⟨HW.out.1.1.below hbw, HW.out.1.2.1.below hbw, HW.out.1.2.2.below hbw⟩ ⟨H7.out.1.move (fun b hb hl => ⟨hb, HB.out.block b hl⟩), H7.out.2.1⟩ hN HX.out
      obtain ⟨d1, e1, m1⟩ := cells_of (l := [_, _]) H7.out.2.2.2.1
      have k0 := below_cell HB.out (d1 0 _ rfl)
      have k1 := below_cell HB.out (d1 1 _ rfl)
      clear d1 e1 m1 hbw
      go_wp2_with (first
    | (go_at_call 26; refine (SpoilN_any _ wr.heap.size _ _ _ H10.out.1).mono ?_; rintro r w11 ⟨rfl, hb11⟩; have H11 : Hid (Below wr.heap.size wr w11) := H10.out.2.trans hb11; clear hb11)
    | (go_at_call 36; refine (Bodies_any 1048577 a _ _ _ (by omega) (Nat.le_refl _) (H7.out.1.plain.below (below_seq HB.out H9.out.2)) (HW.out.2.below (below_seq H7.out.2.2.2.2 (below_seq HB.out H9.out.2)))).mono ?_; rintro r w10 ⟨rfl, hb10⟩; have H10 : Hid (Ow w10 wr.heap.size (.slice ad8 I.length c8) I ∧ Below wr.heap.size wr w10) := ⟨H9.out.1.below hb10, below_seq H9.out.2 hb10⟩; clear hb10)
    | (go_at_call 32; refine (SameN_any _ I ad8 ad6 c8 c6 (by omega) (H8.out.1.sl.below (below_new _ _)) (((H7.out.2.2.1.sl.below HB.out).below H8.out.2).below (below_new _ _))).mono ?_; rintro r w9 ⟨rfl, hb9⟩; have H9 : Hid (Ow w9 wr.heap.size (.slice ad8 I.length c8) I ∧ Below wr.heap.size wr w9) := ⟨(H8.out.1.below (below_new _ _)).below hb9, below_seq (below_seq H8.out.2 (below_new _ _)) hb9⟩; clear hb9)
    | (go_at_call 30; refine HIm.mono ?_; rintro r w8 ⟨ad8, c8, rfl, ho8, hb8⟩; have k0 := below_cell hb8 k0; have k1 := below_cell hb8 k1; have l8 : w6.heap.size < w8.heap.size := World.block_lt_of_cell? _ _ k0; have H8 : Hid (Ow w8 wr.heap.size (.slice ad8 I.length c8) I ∧ Below wr.heap.size wr w8) := ⟨ho8, hb8⟩; clear ho8 hb8 HIm))
      go_roundw
      case rel => exact ⟨j + 1, by omega, by go_num, below_seq HB.out H11.out⟩
      case measure => simp [intOf]; omega
    · have hje : j = 2 := by omega
      subst hje
      go_wp2_with fail
      go_ret
      exact ⟨rfl, below_seq H7.out.2.2.2.2 HB.out⟩

/-- The law, of any body. -/
theorem makes_walk (w : World) (a : List St) (ad : Option Addr) (c : Nat) (hr : Ready w ∧ EndsIn w ∧ CompsIn w) (h : St.Sl w a (.slice ad a.length c)) (hN : St.bulkAll a ≤ 1048576) : Calls Tryd.prog 6 #[.slice ad a.length c] w fun r w' => r = .returned (.bool true) ∧ Below w.heap.size w w' := by
  cases hc : (decide (St.deepAll 0 a ≤ 300) && decide ((St.countAll a : Int) ≤ 2000))
  · exact makes_false w a ad c hr h hN hc
  · exact makes_true w a ad c hr h hN hc

end Go.Proofs.YtgemadoieielcacDoor.B
namespace Go.Proofs.YtgemadoieielcacDoor.B
open Go.ChangeShapes Go.WideShapes Go.ChangeAt Go.RowKit

theorem gShapes : Tryd.prog.globalNamed "punctual/tongue.shapes" = some 2 := by kernel_rfl
theorem gForms : Tryd.prog.globalNamed "punctual/tongue.forms" = some 5 := by kernel_rfl
theorem gEnds : Tryd.prog.globalNamed "punctual/compile.ends" = some 3 := by kernel_rfl
theorem gComps : Tryd.prog.globalNamed "punctual/compile.comparisons" = some 4 := by kernel_rfl
theorem tShapes : (Tryd.prog.globals[2]?).map (·.type) = some 204 := by kernel_rfl
theorem tForms : (Tryd.prog.globals[5]?).map (·.type) = some 226 := by kernel_rfl
theorem tEnds : (Tryd.prog.globals[3]?).map (·.type) = some 88 := by kernel_rfl
theorem tComps : (Tryd.prog.globals[4]?).map (·.type) = some 223 := by kernel_rfl
theorem laidCellsF : Tryd.prog.cellsOf 225 = 2 := by kernel_rfl
theorem laidCellsC : Tryd.prog.cellsOf 222 = 2 := by kernel_rfl
theorem laidCells66 : Tryd.prog.cellsOf 203 = 6 := by kernel_rfl
theorem laidCells3 : Tryd.prog.cellsOf 3 = 1 := by kernel_rfl
theorem laidCells4 : Tryd.prog.cellsOf 4 = 1 := by kernel_rfl

section
variable {H : Type} {enc : TypeId × Value → H} {w : World} {base : Nat} {sp : Nat → Bool} {held : Bool}

theorem one_at {cs : List Value} {o k j : Nat} {c : Value} (hj : j < k) (h : (((cs.drop o).take k).drop j).take 1 = [c]) : cs[o + j]? = some c := by
  have h0 : ((((cs.drop o).take k).drop j).take 1)[0]? = some c := by rw [h]; rfl
  rw [List.getElem?_take_of_lt (by omega), List.getElem?_drop, List.getElem?_take_of_lt (by omega), List.getElem?_drop] at h0
  simpa using h0

theorem int_at {cs : List Value} {o k j n : Nat} {z : Int} {y : DataW H × List MemPlace} (hj : j < k) (h : DataW.trod enc Tryd.prog w base sp held n 3 ((((cs.drop o).take k).drop j).take 1) = some y) (hy : y.1 = .lit (.int .i64 z)) : cs[o + j]? = some (.int .i64 z) := by
  obtain ⟨m, h1, rfl, -⟩ := DataW.trod_int Tryd.underlying3 h
  simp at hy
  subst hy
  exact one_at hj h1

theorem bool_at {cs : List Value} {o k j n : Nat} {z : Bool} {y : DataW H × List MemPlace} (hj : j < k) (h : DataW.trod enc Tryd.prog w base sp held n 4 ((((cs.drop o).take k).drop j).take 1) = some y) (hy : y.1 = .lit (.bool z)) : cs[o + j]? = some (.bool z) := by
  obtain ⟨m, h1, rfl⟩ := DataW.trod_bool Tryd.underlying4 h
  simp at hy
  subst hy
  exact one_at hj h1

/-- A row of the table of statements' shapes. -/
theorem row66 {cs : List Value} {o n : Nat} {k0 k1 : Int} {b2 b3 b4 b5 : Bool} {y : DataW H × List MemPlace} (h : DataW.trod enc Tryd.prog w base sp held n 203 ((cs.drop o).take 6) = some y)
    (hy : y.1 = .agg [.lit (.int .i64 k0), .lit (.int .i64 k1), .lit (.bool b2), .lit (.bool b3), .lit (.bool b4), .lit (.bool b5)]) :
    cs[o]? = some (.int .i64 k0) ∧ cs[o + 1]? = some (.int .i64 k1) ∧ cs[o + 2]? = some (.bool b2) ∧ cs[o + 3]? = some (.bool b3) ∧ cs[o + 4]? = some (.bool b4) ∧ cs[o + 5]? = some (.bool b5) := by
  obtain ⟨xs, n1, rfl, rfl, -, hlen, hf⟩ := DataW.trod_struct Tryd.underlying203 h
  match xs, hlen with
  | [y0, y1, y2, y3, y4, y5], _ =>
    simp only [List.map_cons, List.map_nil, DataW.agg.injEq, List.cons.injEq, and_true] at hy
    obtain ⟨e0, e1, e2, e3, e4, e5⟩ := hy
    have f0 : DataW.trod enc Tryd.prog w base sp held n1 3 ((((cs.drop o).take 6).drop 0).take (Tryd.prog.cellsOf 3)) = some y0 := hf 0 _ rfl
    have f1 : DataW.trod enc Tryd.prog w base sp held n1 3 ((((cs.drop o).take 6).drop 1).take (Tryd.prog.cellsOf 3)) = some y1 := hf 1 _ rfl
    have f2 : DataW.trod enc Tryd.prog w base sp held n1 4 ((((cs.drop o).take 6).drop 2).take (Tryd.prog.cellsOf 4)) = some y2 := hf 2 _ rfl
    have f3 : DataW.trod enc Tryd.prog w base sp held n1 4 ((((cs.drop o).take 6).drop 3).take (Tryd.prog.cellsOf 4)) = some y3 := hf 3 _ rfl
    have f4 : DataW.trod enc Tryd.prog w base sp held n1 4 ((((cs.drop o).take 6).drop 4).take (Tryd.prog.cellsOf 4)) = some y4 := hf 4 _ rfl
    have f5 : DataW.trod enc Tryd.prog w base sp held n1 4 ((((cs.drop o).take 6).drop 5).take (Tryd.prog.cellsOf 4)) = some y5 := hf 5 _ rfl
    rw [laidCells3] at f0 f1
    rw [laidCells4] at f2 f3 f4 f5
    exact ⟨int_at (by omega) f0 e0, int_at (by omega) f1 e1, bool_at (by omega) f2 e2, bool_at (by omega) f3 e3, bool_at (by omega) f4 e4, bool_at (by omega) f5 e5⟩
/-- A row of the table of expressions' forms. -/
theorem rowF {cs : List Value} {o n : Nat} {k0 k1 : Int} {y : DataW H × List MemPlace} (h : DataW.trod enc Tryd.prog w base sp held n 225 ((cs.drop o).take 2) = some y) (hy : y.1 = .agg [.lit (.int .i64 k0), .lit (.int .i64 k1)]) :
    cs[o]? = some (.int .i64 k0) ∧ cs[o + 1]? = some (.int .i64 k1) := by
  obtain ⟨xs, n1, rfl, rfl, -, hlen, hf⟩ := DataW.trod_struct Tryd.underlying225 h
  match xs, hlen with
  | [y0, y1], _ =>
    simp only [List.map_cons, List.map_nil, DataW.agg.injEq, List.cons.injEq, and_true] at hy
    obtain ⟨e0, e1⟩ := hy
    have f0 : DataW.trod enc Tryd.prog w base sp held n1 3 ((((cs.drop o).take 2).drop 0).take (Tryd.prog.cellsOf 3)) = some y0 := hf 0 _ rfl
    have f1 : DataW.trod enc Tryd.prog w base sp held n1 3 ((((cs.drop o).take 2).drop 1).take (Tryd.prog.cellsOf 3)) = some y1 := hf 1 _ rfl
    rw [laidCells3] at f0 f1
    exact ⟨int_at (by omega) f0 e0, int_at (by omega) f1 e1⟩
/-- A row of the table of comparisons. -/
theorem rowC {cs : List Value} {o n : Nat} {k0 : Int} {b1 : Bool} {y : DataW H × List MemPlace} (h : DataW.trod enc Tryd.prog w base sp held n 222 ((cs.drop o).take 2) = some y) (hy : y.1 = .agg [.lit (.int .i64 k0), .lit (.bool b1)]) :
    cs[o]? = some (.int .i64 k0) ∧ cs[o + 1]? = some (.bool b1) := by
  obtain ⟨xs, n1, rfl, rfl, -, hlen, hf⟩ := DataW.trod_struct Tryd.underlying222 h
  match xs, hlen with
  | [y0, y1], _ =>
    simp only [List.map_cons, List.map_nil, DataW.agg.injEq, List.cons.injEq, and_true] at hy
    obtain ⟨e0, e1⟩ := hy
    have f0 : DataW.trod enc Tryd.prog w base sp held n1 3 ((((cs.drop o).take 2).drop 0).take (Tryd.prog.cellsOf 3)) = some y0 := hf 0 _ rfl
    have f1 : DataW.trod enc Tryd.prog w base sp held n1 4 ((((cs.drop o).take 2).drop 1).take (Tryd.prog.cellsOf 4)) = some y1 := hf 1 _ rfl
    rw [laidCells3] at f0
    rw [laidCells4] at f1
    exact ⟨int_at (by omega) f0 e0, bool_at (by omega) f1 e1⟩
/-- One number of a table. -/
theorem numC {cs : List Value} {o n : Nat} {k0 : Int} {y : DataW H × List MemPlace} (h : DataW.trod enc Tryd.prog w base sp held n 3 ((cs.drop o).take 1) = some y) (hy : y.1 = .lit (.int .i64 k0)) : cs[o]? = some (.int .i64 k0) := by
  obtain ⟨m, h1, rfl, -⟩ := DataW.trod_int Tryd.underlying3 h
  simp at hy
  subst hy
  have h0 : ((cs.drop o).take 1)[0]? = some (.int .i64 m) := by rw [h1]; rfl
  rw [List.getElem?_take_of_lt (by omega), List.getElem?_drop] at h0
  simpa using h0
end

/-- What the listed variables hold. -/
theorem of_laidC {W : World} (h : laidMetH Tryd.prog Rows.compileMakesUptoRow.laid W) : (ShapesIn W ∧ FormsIn W) ∧ EndsIn W ∧ CompsIn W := by
  rw [MakeChecks.laidMetH_plain _ _ _ (by kernel_rfl)] at h
  obtain ⟨ps, ⟨g0, t0, cs0, f0, p0, q0, hg0, ht0, hv0, hd0, ⟨g1, t1, cs1, f1, p1, q1, hg1, ht1, hv1, hd1, ⟨g2, t2, cs2, f2, p2, q2, hg2, ht2, hv2, hd2, ⟨g3, t3, cs3, f3, p3, q3, hg3, ht3, hv3, hd3, _, _⟩, _⟩, _⟩, _⟩, _, _⟩ := h
  obtain rfl := Option.some.inj (gShapes.symm.trans hg0)
  obtain rfl := Option.some.inj (gForms.symm.trans hg1)
  obtain rfl := Option.some.inj (gEnds.symm.trans hg2)
  obtain rfl := Option.some.inj (gComps.symm.trans hg3)
  obtain rfl := Option.some.inj (tShapes.symm.trans ht0)
  obtain rfl := Option.some.inj (tForms.symm.trans ht1)
  obtain rfl := Option.some.inj (tEnds.symm.trans ht2)
  obtain rfl := Option.some.inj (tComps.symm.trans ht3)
  have c0 : ∀ j, W.cell? ⟨2, j, none⟩ = cs0[j]? := World.var?_cell hg0 hv0
  have c1 : ∀ j, W.cell? ⟨5, j, none⟩ = cs1[j]? := World.var?_cell hg1 hv1
  have c2 : ∀ j, W.cell? ⟨3, j, none⟩ = cs2[j]? := World.var?_cell hg2 hv2
  have c3 : ∀ j, W.cell? ⟨4, j, none⟩ = cs3[j]? := World.var?_cell hg3 hv3
  have a0 : ∀ j u, cs0.toList[j]? = some u → W.cell? ⟨2, j, none⟩ = some u := fun j u hu => by rw [c0]; simpa using hu
  have a1 : ∀ j u, cs1.toList[j]? = some u → W.cell? ⟨5, j, none⟩ = some u := fun j u hu => by rw [c1]; simpa using hu
  have a2 : ∀ j u, cs2.toList[j]? = some u → W.cell? ⟨3, j, none⟩ = some u := fun j u hu => by rw [c2]; simpa using hu
  have a3 : ∀ j u, cs3.toList[j]? = some u → W.cell? ⟨4, j, none⟩ = some u := fun j u hu => by rw [c3]; simpa using hu
  refine ⟨⟨?_, ?_⟩, ?_, ?_⟩
  · obtain ⟨xs, m0, rfl, hx, -, hn, hel⟩ := DataW.trod_array Tryd.underlying204 hd0
    simp only [laidCells66] at hel
    match xs, hn with
    | [x0, x1, x2, x3, x4, x5, x6, x7], _ =>
      simp only [Rows.laid_punctual_tongue_shapes, Prod.mk.injEq, DataW.agg.injEq, List.map_cons, List.map_nil, List.cons.injEq, and_true] at hx
      obtain ⟨⟨e0, e1, e2, e3, e4, e5, e6, e7⟩, -⟩ := hx
      intro m h1 h2
      match m, h1, h2 with
      | 1, _, _ =>
        have r := row66 (o := 1 * 6) (show DataW.trod _ Tryd.prog W 0 _ _ m0 203 ((cs0.toList.drop (1 * 6)).take 6) = some x1 from hel 1 (by omega)) e1.symm
        exact ⟨a0 _ _ r.1, a0 _ _ r.2.1, a0 _ _ r.2.2.1, a0 _ _ r.2.2.2.1, a0 _ _ r.2.2.2.2.1, a0 _ _ r.2.2.2.2.2⟩
      | 2, _, _ =>
        have r := row66 (o := 2 * 6) (show DataW.trod _ Tryd.prog W 0 _ _ m0 203 ((cs0.toList.drop (2 * 6)).take 6) = some x2 from hel 2 (by omega)) e2.symm
        exact ⟨a0 _ _ r.1, a0 _ _ r.2.1, a0 _ _ r.2.2.1, a0 _ _ r.2.2.2.1, a0 _ _ r.2.2.2.2.1, a0 _ _ r.2.2.2.2.2⟩
      | 3, _, _ =>
        have r := row66 (o := 3 * 6) (show DataW.trod _ Tryd.prog W 0 _ _ m0 203 ((cs0.toList.drop (3 * 6)).take 6) = some x3 from hel 3 (by omega)) e3.symm
        exact ⟨a0 _ _ r.1, a0 _ _ r.2.1, a0 _ _ r.2.2.1, a0 _ _ r.2.2.2.1, a0 _ _ r.2.2.2.2.1, a0 _ _ r.2.2.2.2.2⟩
      | 4, _, _ =>
        have r := row66 (o := 4 * 6) (show DataW.trod _ Tryd.prog W 0 _ _ m0 203 ((cs0.toList.drop (4 * 6)).take 6) = some x4 from hel 4 (by omega)) e4.symm
        exact ⟨a0 _ _ r.1, a0 _ _ r.2.1, a0 _ _ r.2.2.1, a0 _ _ r.2.2.2.1, a0 _ _ r.2.2.2.2.1, a0 _ _ r.2.2.2.2.2⟩
      | 5, _, _ =>
        have r := row66 (o := 5 * 6) (show DataW.trod _ Tryd.prog W 0 _ _ m0 203 ((cs0.toList.drop (5 * 6)).take 6) = some x5 from hel 5 (by omega)) e5.symm
        exact ⟨a0 _ _ r.1, a0 _ _ r.2.1, a0 _ _ r.2.2.1, a0 _ _ r.2.2.2.1, a0 _ _ r.2.2.2.2.1, a0 _ _ r.2.2.2.2.2⟩
      | 6, _, _ =>
        have r := row66 (o := 6 * 6) (show DataW.trod _ Tryd.prog W 0 _ _ m0 203 ((cs0.toList.drop (6 * 6)).take 6) = some x6 from hel 6 (by omega)) e6.symm
        exact ⟨a0 _ _ r.1, a0 _ _ r.2.1, a0 _ _ r.2.2.1, a0 _ _ r.2.2.2.1, a0 _ _ r.2.2.2.2.1, a0 _ _ r.2.2.2.2.2⟩
      | 7, _, _ =>
        have r := row66 (o := 7 * 6) (show DataW.trod _ Tryd.prog W 0 _ _ m0 203 ((cs0.toList.drop (7 * 6)).take 6) = some x7 from hel 7 (by omega)) e7.symm
        exact ⟨a0 _ _ r.1, a0 _ _ r.2.1, a0 _ _ r.2.2.1, a0 _ _ r.2.2.2.1, a0 _ _ r.2.2.2.2.1, a0 _ _ r.2.2.2.2.2⟩
  · obtain ⟨xs, m0, rfl, hx, -, hn, hel⟩ := DataW.trod_array Tryd.underlying226 hd1
    simp only [laidCellsF] at hel
    match xs, hn with
    | [x0, x1, x2, x3, x4, x5, x6, x7], _ =>
      simp only [Rows.laid_punctual_tongue_forms, Prod.mk.injEq, DataW.agg.injEq, List.map_cons, List.map_nil, List.cons.injEq, and_true] at hx
      obtain ⟨⟨e0, e1, e2, e3, e4, e5, e6, e7⟩, -⟩ := hx
      intro m h1 h2
      match m, h1, h2 with
      | 1, _, _ =>
        have r := rowF (o := 1 * 2) (show DataW.trod _ Tryd.prog W 0 _ _ m0 225 ((cs1.toList.drop (1 * 2)).take 2) = some x1 from hel 1 (by omega)) e1.symm
        exact ⟨a1 _ _ r.1, a1 _ _ r.2⟩
      | 2, _, _ =>
        have r := rowF (o := 2 * 2) (show DataW.trod _ Tryd.prog W 0 _ _ m0 225 ((cs1.toList.drop (2 * 2)).take 2) = some x2 from hel 2 (by omega)) e2.symm
        exact ⟨a1 _ _ r.1, a1 _ _ r.2⟩
      | 3, _, _ =>
        have r := rowF (o := 3 * 2) (show DataW.trod _ Tryd.prog W 0 _ _ m0 225 ((cs1.toList.drop (3 * 2)).take 2) = some x3 from hel 3 (by omega)) e3.symm
        exact ⟨a1 _ _ r.1, a1 _ _ r.2⟩
      | 4, _, _ =>
        have r := rowF (o := 4 * 2) (show DataW.trod _ Tryd.prog W 0 _ _ m0 225 ((cs1.toList.drop (4 * 2)).take 2) = some x4 from hel 4 (by omega)) e4.symm
        exact ⟨a1 _ _ r.1, a1 _ _ r.2⟩
      | 5, _, _ =>
        have r := rowF (o := 5 * 2) (show DataW.trod _ Tryd.prog W 0 _ _ m0 225 ((cs1.toList.drop (5 * 2)).take 2) = some x5 from hel 5 (by omega)) e5.symm
        exact ⟨a1 _ _ r.1, a1 _ _ r.2⟩
      | 6, _, _ =>
        have r := rowF (o := 6 * 2) (show DataW.trod _ Tryd.prog W 0 _ _ m0 225 ((cs1.toList.drop (6 * 2)).take 2) = some x6 from hel 6 (by omega)) e6.symm
        exact ⟨a1 _ _ r.1, a1 _ _ r.2⟩
      | 7, _, _ =>
        have r := rowF (o := 7 * 2) (show DataW.trod _ Tryd.prog W 0 _ _ m0 225 ((cs1.toList.drop (7 * 2)).take 2) = some x7 from hel 7 (by omega)) e7.symm
        exact ⟨a1 _ _ r.1, a1 _ _ r.2⟩
  · obtain ⟨xs, m0, rfl, hx, -, hn, hel⟩ := DataW.trod_array Tryd.underlying88 hd2
    simp only [laidCells3] at hel
    match xs, hn with
    | [x0, x1, x2, x3, x4, x5, x6, x7], _ =>
      simp only [Rows.laid_punctual_compile_ends, Prod.mk.injEq, DataW.agg.injEq, List.map_cons, List.map_nil, List.cons.injEq, and_true] at hx
      obtain ⟨⟨e0, e1, e2, e3, e4, e5, e6, e7⟩, -⟩ := hx
      exact ⟨a2 _ _ (numC (o := 1 * 1) (show DataW.trod _ Tryd.prog W 0 _ _ m0 3 ((cs2.toList.drop (1 * 1)).take 1) = some x1 from hel 1 (by omega)) e1.symm), a2 _ _ (numC (o := 2 * 1) (show DataW.trod _ Tryd.prog W 0 _ _ m0 3 ((cs2.toList.drop (2 * 1)).take 1) = some x2 from hel 2 (by omega)) e2.symm), a2 _ _ (numC (o := 3 * 1) (show DataW.trod _ Tryd.prog W 0 _ _ m0 3 ((cs2.toList.drop (3 * 1)).take 1) = some x3 from hel 3 (by omega)) e3.symm), a2 _ _ (numC (o := 5 * 1) (show DataW.trod _ Tryd.prog W 0 _ _ m0 3 ((cs2.toList.drop (5 * 1)).take 1) = some x5 from hel 5 (by omega)) e5.symm), a2 _ _ (numC (o := 6 * 1) (show DataW.trod _ Tryd.prog W 0 _ _ m0 3 ((cs2.toList.drop (6 * 1)).take 1) = some x6 from hel 6 (by omega)) e6.symm), a2 _ _ (numC (o := 7 * 1) (show DataW.trod _ Tryd.prog W 0 _ _ m0 3 ((cs2.toList.drop (7 * 1)).take 1) = some x7 from hel 7 (by omega)) e7.symm)⟩
  · obtain ⟨xs, m0, rfl, hx, -, hn, hel⟩ := DataW.trod_array Tryd.underlying223 hd3
    simp only [laidCellsC] at hel
    match xs, hn with
    | [x0, x1, x2, x3, x4], _ =>
      simp only [Rows.laid_punctual_compile_comparisons, Prod.mk.injEq, DataW.agg.injEq, List.map_cons, List.map_nil, List.cons.injEq, and_true] at hx
      obtain ⟨⟨e0, e1, e2, e3, e4⟩, -⟩ := hx
      intro m h1 h2
      match m, h1, h2 with
      | 1, _, _ =>
        have r := rowC (o := 1 * 2) (show DataW.trod _ Tryd.prog W 0 _ _ m0 222 ((cs3.toList.drop (1 * 2)).take 2) = some x1 from hel 1 (by omega)) e1.symm
        exact ⟨a3 _ _ r.1, a3 _ _ r.2⟩
      | 2, _, _ =>
        have r := rowC (o := 2 * 2) (show DataW.trod _ Tryd.prog W 0 _ _ m0 222 ((cs3.toList.drop (2 * 2)).take 2) = some x2 from hel 2 (by omega)) e2.symm
        exact ⟨a3 _ _ r.1, a3 _ _ r.2⟩
      | 3, _, _ =>
        have r := rowC (o := 3 * 2) (show DataW.trod _ Tryd.prog W 0 _ _ m0 222 ((cs3.toList.drop (3 * 2)).take 2) = some x3 from hel 3 (by omega)) e3.symm
        exact ⟨a3 _ _ r.1, a3 _ _ r.2⟩
      | 4, _, _ =>
        have r := rowC (o := 4 * 2) (show DataW.trod _ Tryd.prog W 0 _ _ m0 222 ((cs3.toList.drop (4 * 2)).take 2) = some x4 from hel 4 (by omega)) e4.symm
        exact ⟨a3 _ _ r.1, a3 _ _ r.2⟩

end Go.Proofs.YtgemadoieielcacDoor.B
