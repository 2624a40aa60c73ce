import Derived.Test.YtikdidfgdiafoabDoorGInnerQ
import Derived.Test.YtikdidfgdiafoabDoorGStmtR1
import Derived.Test.YtikdidfgdiafoabDoorGStmtR2
import Derived.Test.YtikdidfgdiafoabDoorGStmtR3
import Derived.Test.YtikdidfgdiafoabDoorGStmtR4
import Derived.Test.YtikdidfgdiafoabDoorGStmtR5
import Derived.Test.YtikdidfgdiafoabDoorGStmtR6
import Derived.Test.YtikdidfgdiafoabDoorGLawW
import Derived.Test.YtikdidfgdiafoabDoorGRunB
import Derived.Test.YtikdidfgdiafoabDoorGRunD
import Derived.Test.YtikdidfgdiafoabDoorGMeanB
import Derived.Test.YtikdidfgdiafoabDoorGOkay
import Derived.Test.YtikdidfgdiafoabDoorGDeep
import Derived.Laws.MakeOwn
namespace Go.Proofs.YtikdidfgdiafoabDoor

theorem bulk_pos : ∀ s : St, 1 ≤ s.bulk
  | .mk k n e ck ca cb b l => by unfold St.bulk; omega

/-- Statements by lists, lists by statements: so all lists. -/
theorem list_all (w0 : World) (hstep : ∀ N, N ≤ 1048576 → ListOk w0 N → StmtOk w0 (N + 1)) : ∀ N, N ≤ 1048576 → ListOk w0 N := by
  intro N
  induction N with
  | zero =>
    intro _
    refine list_of_stmt w0 0 (by omega) ?_
    intro s w wb B i v sv ar h
    have := bulk_pos s
    omega
  | succ N ih =>
    intro hN
    exact list_of_stmt w0 (N + 1) hN (hstep N (by omega) (ih (by omega)))
end Go.Proofs.YtikdidfgdiafoabDoor
namespace Go.Proofs.YtikdidfgdiafoabDoor
open Go.ChangeShapes Go.WideShapes Go.ChangeAt Go.RowKit

set_option maxHeartbeats 1000000 in
/-- A statement, given the lists within it. -/
theorem stmt_of_list (w0 : World) (hr : Ready w0) (N : Nat) (hN : N ≤ 1048576) (hL : ListOk w0 N) : StmtOk w0 (N + 1) := by
  intro s w wb B i v sv ar hb hwb hB0 hin hwk hi1 hi2 har
  have h0s : 0 < w0.heap.size := World.block_lt_of_cell? _ _ (hr.1 1 (by omega) (by omega)).1
  obtain ⟨k, n, e, ck, ca, cb, b, l⟩ := s
  unfold St.In at hin
  obtain ⟨e0, e1, e2, a0, a1, a2, b0, b1, b2, sb, sl, rfl, he, hca, hcb, ⟨yad, yc, rfl, hy⟩, ⟨lad, lc, rfl, hl⟩⟩ := hin
  have hy' : St.Sl w0 b (.slice yad b.length yc) := ⟨yad, yc, rfl, hy⟩
  have hl' : St.Sl w0 l (.slice lad l.length lc) := ⟨lad, lc, rfl, hl⟩
  clear hy hl
  simp only [St.bulk] at hb hi2 har
  obtain ⟨ek, en, ea⟩ := e
  obtain ⟨ak, an, aa⟩ := ca
  obtain ⟨bk, bn, ba⟩ := cb
  have he' := he
  have hca' := hca
  have hcb' := hcb
  unfold Ex.In at he' hca' hcb'
  obtain ⟨ead, ec, hve, -⟩ := he'
  obtain ⟨aad, ac, hva, -⟩ := hca'
  obtain ⟨bad, bc, hvb, -⟩ := hcb'
  simp at hve hva hvb
  obtain ⟨rfl, rfl, rfl⟩ := hve
  obtain ⟨rfl, rfl, rfl⟩ := hva
  obtain ⟨rfl, rfl, rfl⟩ := hvb
  by_cases hk : k < 1 ∨ 8 ≤ k
  · rw [none_chk _ _ _ _ _ _ _ _ _ _ hk]
    exact stmt_none w wb B i v ar hwk hi1 (by omega) k n ek en ck ak an bk bn ead aad bad yad lad _ ec _ ac _ bc _ yc _ lc hk
  · obtain ⟨m, rfl⟩ : ∃ m : Nat, k = m := ⟨k.toNat, by omega⟩
    obtain ⟨t0, t1, t2, t3, t4, t5⟩ := hr.1.below h0s hB0 m (by omega) (by omega)
    have hbk : (Ex.mk ek en ea).nodes + (Ex.mk ak an aa).nodes + (Ex.mk bk bn ba).nodes + St.bulkAll b + St.bulkAll l ≤ N := by omega
    have hj2 : i + 1 + (St.bulkAll b + St.bulkAll l : Nat) ≤ 2097152 := by omega
    have hja : ar.length + 1 + (St.bulkAll b + St.bulkAll l) ≤ 2097152 := by omega
    have look := look_chk m n (.mk ek en ea) ck (.mk ak an aa) (.mk bk bn ba) b l ar i hk
    rw [← look]
    clear look
    by_cases hlo : lowN m ≤ n
    · have eb0 : decide (lowN m ≤ n ∧ n ≤ highN m) = decide (n ≤ highN m) := by simp [hlo]
      rw [eb0]
      cases hinn : innK m
      · have hm6 : m ≠ 6 := by rintro rfl; simp [innK] at hinn
        have e6 : decide ((m : Int) = 6) = false := decide_eq_false (by omega)
        rw [hinn] at t4
        rw [e6]
        simp only [Bool.not_false, Bool.true_or]
        exact stmt_r1 w0 N hN hL w wb B i v ar m n ek en ck ak an bk bn _ _ ead aad bad yad lad _ ec _ ac _ bc yc lc _ _ _ (.mk ek en ea) (.mk ak an aa) (.mk bk bn ba) b l hbk hwb (by omega) hB0 hr.2 he hca hcb hy' hl' hwk hi1 hj2 hja t0 t1 t2 t3 t4 t5 (by omega) (by omega) hm6 hlo
      · rw [hinn] at t4
        by_cases hm6 : m = 6
        · subst hm6
          have e6 : decide (((6 : Nat) : Int) = 6) = true := by decide
          rw [e6]
          simp only [Bool.not_true, Bool.false_or]
          exact stmt_r5 w0 N hN hL w wb B i v ar n ek en ck ak an bk bn _ _ ead aad bad yad lad _ ec _ ac _ bc yc lc _ _ _ (.mk ek en ea) (.mk ak an aa) (.mk bk bn ba) b l hbk hwb (by omega) hB0 hr.2 he hca hcb hy' hl' hwk hi1 hj2 hja t0 t1 t2 t3 t4 t5 hlo
        · have e6 : decide ((m : Int) = 6) = false := decide_eq_false (by omega)
          rw [e6]
          simp only [Bool.not_true, Bool.false_or, Bool.not_false, Bool.true_or]
          exact stmt_r3 w0 N hN hL w wb B i v ar m n ek en ck ak an bk bn _ _ ead aad bad yad lad _ ec _ ac _ bc yc lc _ _ _ (.mk ek en ea) (.mk ak an aa) (.mk bk bn ba) b l hbk hwb (by omega) hB0 hr.2 he hca hcb hy' hl' hwk hi1 hj2 hja t0 t1 t2 t3 t4 t5 (by omega) (by omega) hm6 hlo
    · have eb0 : decide (lowN m ≤ n ∧ n ≤ highN m) = false := by simp [hlo]
      rw [eb0]
      cases hinn : innK m
      · have hm6 : m ≠ 6 := by rintro rfl; simp [innK] at hinn
        have e6 : decide ((m : Int) = 6) = false := decide_eq_false (by omega)
        rw [hinn] at t4
        rw [e6]
        simp only [Bool.not_false, Bool.true_or]
        exact stmt_r2 w0 N hN hL w wb B i v ar m n ek en ck ak an bk bn _ _ ead aad bad yad lad _ ec _ ac _ bc yc lc _ _ _ (.mk ek en ea) (.mk ak an aa) (.mk bk bn ba) b l hbk hwb (by omega) hB0 hr.2 he hca hcb hy' hl' hwk hi1 hj2 hja t0 t1 t2 t3 t4 t5 (by omega) (by omega) hm6 hlo
      · rw [hinn] at t4
        by_cases hm6 : m = 6
        · subst hm6
          have e6 : decide (((6 : Nat) : Int) = 6) = true := by decide
          rw [e6]
          simp only [Bool.not_true, Bool.false_or]
          exact stmt_r6 w0 N hN hL w wb B i v ar n ek en ck ak an bk bn _ _ ead aad bad yad lad _ ec _ ac _ bc yc lc _ _ _ (.mk ek en ea) (.mk ak an aa) (.mk bk bn ba) b l hbk hwb (by omega) hB0 hr.2 he hca hcb hy' hl' hwk hi1 hj2 hja t0 t1 t2 t3 t4 t5 hlo
        · have e6 : decide ((m : Int) = 6) = false := decide_eq_false (by omega)
          rw [e6]
          simp only [Bool.not_true, Bool.false_or, Bool.not_false, Bool.true_or]
          exact stmt_r4 w0 N hN hL w wb B i v ar m n ek en ck ak an bk bn _ _ ead aad bad yad lad _ ec _ ac _ bc yc lc _ _ _ (.mk ek en ea) (.mk ak an aa) (.mk bk bn ba) b l hbk hwb (by omega) hB0 hr.2 he hca hcb hy' hl' hwk hi1 hj2 hja t0 t1 t2 t3 t4 t5 (by omega) (by omega) hm6 hlo

theorem every_list (W : World) (hr : Ready W) : ListOk W 1048576 := list_all W (fun N hN hL => stmt_of_list W hr N hN hL) 1048576 (Nat.le_refl _)

end Go.Proofs.YtikdidfgdiafoabDoor
namespace Go.Proofs.YtikdidfgdiafoabDoor
open Go.ChangeShapes Go.WideShapes Go.ChangeAt Go.RowKit

/-- How a body ends, and what it leaves: cx and cy are what Check says of it. -/
def meanOf (a : List St) (vs is : List Int) (cx cy : Int) : (Int × Int) × Ms :=
  if cx ≠ 0 then ((cx, cy), ⟨[], [], 0⟩)
  else if vs.length ≠ 8 ∨ is.length ≠ 4 then ((3, 0), ⟨[], [], 0⟩)
  else match St.runAll is a 0 ⟨vs, [], 0⟩ with
    | (s, none) => ((0, 0), s)
    | (_, some z) => ((11, (z : Int)), ⟨[], [], 0⟩)

/-- What is answered lies in blocks of its own. -/
def EndIs (w : World) (m : (Int × Int) × Ms) (e : Ending) (w' : World) : Prop :=
  ∃ vv pv B, e = .returned (.tuple #[.agg #[vv, pv, .int .i64 m.2.steps], .agg #[.int .i64 m.1.1, .int .i64 m.1.2]]) ∧
    ((vv = .slice none 0 0 ∧ m.2.vars = []) ∨ ∃ vb vc, vv = .slice (some ⟨vb, 0, none⟩) 8 vc ∧ VarBlk w' vb vc m.2.vars ∧ w.heap.size ≤ vb ∧ vb < B) ∧
    w'.ownsRow B 42 2 pv m.2.puts.length (putVs m.2.puts) ∧ w.heap.size ≤ B ∧ Below w.heap.size w w'

theorem EndIs.bare {w w' : World} {c k : Int} (hb : Below w.heap.size w w') : EndIs w ((c, k), ⟨[], [], 0⟩) (.returned (.tuple #[.agg #[.slice none 0 0, .slice none 0 0, .int .i64 0], .agg #[.int .i64 c, .int .i64 k]])) w' :=
  ⟨_, _, w.heap.size, rfl, .inl ⟨rfl, rfl⟩, World.ownsRow_nil _ _ _ _, Nat.le_refl _, hb⟩

theorem EndIs.of_run {w w' : World} {s : Ms} {e : Ending} (h : RunEnd w (s, none) e w') : EndIs w ((0, 0), s) e w' := by
  obtain ⟨vb, vc, B, pad, pcap, rfl, h1, h2, h3, h4, h5⟩ := h
  exact ⟨_, _, B, rfl, .inr ⟨vb, vc, rfl, h1, h3, h4⟩, h2, by omega, h5⟩

theorem EndIs.of_many {w w' : World} {s : Ms} {z : Nat} {e : Ending} (h : RunEnd w (s, some z) e w') : EndIs w ((11, (z : Int)), ⟨[], [], 0⟩) e w' := by
  obtain ⟨rfl, hb⟩ := h
  exact EndIs.bare hb

theorem firstErr_zero : ∀ (l : List Fl) (j : Nat), (firstErr l j).1 = 0 → (firstErr l j).2 = 0
  | [], _, _ => rfl
  | f :: r, j, h => by
    unfold firstErr at h ⊢
    by_cases hf : f.err ≠ 0
    · rw [if_pos hf] at h; exact absurd h hf
    · rw [if_neg hf] at h ⊢; exact firstErr_zero r (j + 1) h

theorem checkV_zero {a : List St} {cy : Int} (h : checkV a = .agg #[.int .i64 0, .int .i64 cy]) : cy = 0 ∧ St.OkAll a := by
  unfold checkV at h
  by_cases hc : 200 < St.countAll a
  · rw [if_pos hc] at h; simp at h
  · rw [if_neg hc] at h
    simp at h
    exact ⟨by rw [← h.2]; exact firstErr_zero _ _ h.1, found_ok a h.1⟩

theorem IntSl.len {w : World} {vs : List Int} {ad : Option Addr} {n c : Nat} (h : IntSl w vs (.slice ad n c)) : n = vs.length := by
  obtain ⟨ad2, c2, e, -⟩ := h
  cases e
  rfl

theorem IntSl.at_ {w : World} {vs : List Int} {ad : Option Addr} {n c : Nat} (h : IntSl w vs (.slice ad n c)) (hn : 0 < vs.length) : ∃ b o, ad = some ⟨b, o, none⟩ ∧ ∀ j, j < vs.length → w.cell? ⟨b, o + j, none⟩ = some (.int .i64 (vs.getD j 0)) := by
  obtain ⟨ad2, c2, e, h2⟩ := h
  cases e
  rcases h2 with h2 | ⟨b, o, h2, h3⟩
  · subst h2; simp at hn
  · exact ⟨b, o, h2, h3⟩

theorem SlQ_below {p : Nat → Prop} {w w' : World} {a : List St} {v : Value} {bl : List Nat} (h : St.SlQ p w a v bl) (hb : Below w.heap.size w w') : St.SlQ p w' a v bl :=
  h.move (fun b hp hlt => ⟨hp, hb.block b hlt⟩)

/-- Run, of whatever is handed in. -/
theorem Run_is (w : World) (v : Value) (a : List St) (va ia : Option Addr) (vn vc im ic : Nat) (vs is : List Int) (cx cy : Int) (p : Nat → Prop) (bl : List Nat) (hr : Ready w) (hsl : St.SlQ p w a v bl) (hnd : bl.Nodup) (hb : St.bulkAll a ≤ 1048576) (hx : checkV a = .agg #[.int .i64 cx, .int .i64 cy])
    (hv : IntSl w vs (.slice va vn vc)) (hi : IntSl w is (.slice ia im ic)) :
    Calls Tryd.prog 10 #[v, .slice va vn vc, .slice ia im ic] w (EndIs w (meanOf a vs is cx cy)) := by
  have hC : ∀ W, Below w.heap.size w W → Calls Tryd.prog 25 #[v] W fun r w' => r = .returned (.agg #[.int .i64 cx, .int .i64 cy]) ∧ Below W.heap.size W w' := fun W hW =>
    Check_a every_list a cx cy W v p bl (hr.below hW) ⟨SlQ_below hsl hW, hnd, hb⟩ hx
  have lv := hv.len
  have li := hi.len
  subst lv li
  unfold meanOf
  by_cases h0 : cx ≠ 0
  · rw [if_pos h0]
    exact (Run_bad w v _ _ cx cy h0 hC).mono fun r w' ⟨h1, h2⟩ => by subst h1; exact EndIs.bare h2
  rw [if_neg h0]
  have h0' : cx = 0 := by simpa using h0
  subst h0'
  obtain ⟨hy, hok⟩ := checkV_zero hx
  subst hy
  by_cases h1 : vs.length ≠ 8 ∨ is.length ≠ 4
  · rw [if_pos h1]
    exact (Run_range w v va ia _ vc _ ic h1 hC).mono fun r w' ⟨h1, h2⟩ => by subst h1; exact EndIs.bare h2
  rw [if_neg h1]
  have l8 : vs.length = 8 := by omega
  have l4 : is.length = 4 := by omega
  obtain ⟨b, o, rfl, hvc⟩ := hv.at_ (by omega)
  obtain ⟨b', o', rfl, hic⟩ := hi.at_ (by omega)
  rw [l8] at hvc ⊢
  rw [l4] at hic ⊢
  rcases hz : St.runAll is a 0 ⟨vs, [], 0⟩ with ⟨s3, _ | z⟩
  · exact (Run_good w v _ a b o vc _ ic vs is s3 rfl l8 hvc ⟨b', o', ic, rfl, hic⟩ hsl.plain hb hok hC hz).mono fun r w' h => EndIs.of_run h
  · exact (Run_many w v _ a b o vc _ ic vs is s3 z rfl l8 hvc ⟨b', o', ic, rfl, hic⟩ hsl.plain hb hok hC hz).mono fun r w' h => EndIs.of_many h

/-- Mean, of whatever is handed in. -/
theorem Mean_is (w : World) (v : Value) (a : List St) (va ia : Option Addr) (vn vc im ic : Nat) (vs is : List Int) (cx cy : Int) (hsl : St.Sl w a v) (hb : St.bulkAll a ≤ 1048576) (hx : checkV a = .agg #[.int .i64 cx, .int .i64 cy])
    (hv : IntSl w vs (.slice va vn vc)) (hi : IntSl w is (.slice ia im ic)) :
    Calls Tryd.prog 7 #[v, .slice va vn vc, .slice ia im ic] w (EndIs w (meanOf a vs is cx cy)) := by
  have hC : ∀ W, Below w.heap.size w W → Calls Tryd.prog 21 #[v] W fun r w' => r = .returned (.agg #[.int .i64 cx, .int .i64 cy]) ∧ Below W.heap.size W w' := fun W hW =>
    CheckBody_a a cx cy W v hb (hsl.below hW) hx
  have lv := hv.len
  have li := hi.len
  subst lv li
  unfold meanOf
  by_cases h0 : cx ≠ 0
  · rw [if_pos h0]
    exact (Mean_bad w v _ _ cx cy h0 hC).mono fun r w' ⟨h1, h2⟩ => by subst h1; exact EndIs.bare h2
  rw [if_neg h0]
  have h0' : cx = 0 := by simpa using h0
  subst h0'
  obtain ⟨hy, hok⟩ := checkV_zero hx
  subst hy
  by_cases h1 : vs.length ≠ 8 ∨ is.length ≠ 4
  · rw [if_pos h1]
    exact (Mean_range w v va ia _ vc _ ic h1 hC).mono fun r w' ⟨h1, h2⟩ => by subst h1; exact EndIs.bare h2
  rw [if_neg h1]
  have l8 : vs.length = 8 := by omega
  have l4 : is.length = 4 := by omega
  obtain ⟨b, o, rfl, hvc⟩ := hv.at_ (by omega)
  obtain ⟨b', o', rfl, hic⟩ := hi.at_ (by omega)
  rw [l8] at hvc ⊢
  rw [l4] at hic ⊢
  rcases hz : St.runAll is a 0 ⟨vs, [], 0⟩ with ⟨s3, _ | z⟩
  · exact (Mean_good w v _ a b o vc _ ic vs is s3 rfl l8 hvc ⟨b', o', ic, rfl, hic⟩ hsl hb hok hC hz).mono fun r w' h => EndIs.of_run h
  · exact (Mean_many w v _ a b o vc _ ic vs is s3 z rfl l8 hvc ⟨b', o', ic, rfl, hic⟩ hsl hb hok hC hz).mono fun r w' h => EndIs.of_many h

theorem meanOf_puts (a : List St) (vs is : List Int) (cx cy : Int) : (meanOf a vs is cx cy).2.vars.length ≤ 8 ∧ (meanOf a vs is cx cy).2.puts.length ≤ 20000 ∧ (meanOf a vs is cx cy).2.steps ≤ 20000 := by
  unfold meanOf
  by_cases h0 : cx ≠ 0
  · rw [if_pos h0]; exact ⟨Nat.zero_le _, Nat.zero_le _, Nat.zero_le _⟩
  rw [if_neg h0]
  by_cases h1 : vs.length ≠ 8 ∨ is.length ≠ 4
  · rw [if_pos h1]; exact ⟨Nat.zero_le _, Nat.zero_le _, Nat.zero_le _⟩
  rw [if_neg h1]
  have k1 := St.runAll_keep is a 0 ⟨vs, [], 0⟩ (by simp only; omega)
  have k2 := St.runAll_puts is a 0 ⟨vs, [], 0⟩ (Nat.le_refl _)
  rcases hz : St.runAll is a 0 ⟨vs, [], 0⟩ with ⟨s3, _ | z⟩
  · rw [hz] at k1 k2
    have := k1.2.1 (Nat.zero_le _)
    exact ⟨Nat.le_of_eq k1.1, Nat.le_trans k2 this, this⟩
  · exact ⟨Nat.zero_le _, Nat.zero_le _, Nat.zero_le _⟩

theorem VarBlk.sl {w : World} {vb vc : Nat} {vs : List Int} (h : VarBlk w vb vc vs) : IntSl w vs (.slice (some ⟨vb, 0, none⟩) 8 vc) := by
  obtain ⟨hl, cs, h1, h2, h3⟩ := h
  refine ⟨_, _, by rw [hl], .inr ⟨vb, 0, rfl, fun j hj => ?_⟩⟩
  unfold World.cell?
  rw [h1]
  simpa using h3 j (by omega)

theorem putVs_at : ∀ (ps : List (Int × Int)) (j : Nat), j < ps.length → (putVs ps)[j * 2]? = some (.int .i64 (ps.getD j (0, 0)).1) ∧ (putVs ps)[j * 2 + 1]? = some (.int .i64 (ps.getD j (0, 0)).2)
  | [], j, h => by simp at h
  | p :: r, 0, _ => by simp [putVs]
  | p :: r, j + 1, h => by
    have ih := putVs_at r j (by simpa using h)
    have e : putVs (p :: r) = .int .i64 p.1 :: .int .i64 p.2 :: putVs r := by simp [putVs]
    rw [e]
    have e2 : (j + 1) * 2 = j * 2 + 1 + 1 := by omega
    rw [e2]
    simpa using ih

theorem PutSl.of_own {w : World} {B : Nat} {pv : Value} {ps : List (Int × Int)} (h : w.ownsRow B 42 2 pv ps.length (putVs ps)) : PutSl w ps pv := by
  obtain ⟨ad, cap, rfl⟩ := owns_value h
  refine ⟨ad, cap, rfl, ?_⟩
  by_cases hp : ps = []
  · exact .inl hp
  obtain ⟨-, ⟨e, he⟩ | ⟨g, cap', cur, e, -, hg, -, -, -, ht⟩⟩ := h
  · exact absurd (List.length_eq_zero_iff.1 he) hp
  cases e
  refine .inr ⟨g, 0, rfl, fun j hj => ?_⟩
  have h1 := putVs_at ps j hj
  rw [← ht, List.getElem?_take, List.getElem?_take] at h1
  rw [if_pos (by omega), if_pos (by omega)] at h1
  constructor
  · unfold World.cell?; rw [hg]; simpa using h1.1
  · unfold World.cell?; rw [hg]; simpa using h1.2
end Go.Proofs.YtikdidfgdiafoabDoor
namespace Go.Proofs.YtikdidfgdiafoabDoor
open Go.ChangeShapes Go.WideShapes Go.ChangeAt Go.RowKit

/-- What was answered may be spoilt: nothing else turns. -/
def Spoils (N : Nat) (w' : World) (vv pv : Value) : Prop := ∀ W, Below w'.heap.size w' W → Calls Tryd.prog 14 #[vv] W fun r W1 => r = .returned (.tuple #[]) ∧ Below N W W1 ∧ (∀ a : Addr, w'.heap.size ≤ a.block → W1.cell? a = W.cell? a) ∧ Calls Tryd.prog 15 #[pv] W1 fun r W2 => r = .returned (.tuple #[]) ∧ Below N W1 W2

theorem setCells_heap (b : Nat) : ∀ (l : List Value) (o : Nat) (w : World) (k : Nat), k ≠ b → (w.setCells b o l).heap[k]? = w.heap[k]?
  | [], _, _, _, _ => rfl
  | v :: r, o, w, k, h => by
    show ((w.setCell ⟨b, o, none⟩ v).setCells b (o + 1) r).heap[k]? = _
    rw [setCells_heap b r (o + 1) _ k h, Below.heap_setCell _ _ _ _ h]

theorem EndIs.open {w w' : World} {m : (Int × Int) × Ms} {e : Ending} (h : EndIs w m e w') :
    ∃ vad vn vcap pad pn pcap, e = .returned (.tuple #[.agg #[.slice vad vn vcap, .slice pad pn pcap, .int .i64 m.2.steps], .agg #[.int .i64 m.1.1, .int .i64 m.1.2]]) ∧
      Hid (IntSl w' m.2.vars (.slice vad vn vcap) ∧ PutSl w' m.2.puts (.slice pad pn pcap) ∧ Below w.heap.size w w' ∧ Spoils w.heap.size w' (.slice vad vn vcap) (.slice pad pn pcap)) := by
  obtain ⟨vv, pv, B, rfl, hv, ho, hB, hb⟩ := h
  have hp := PutSl.of_own ho
  obtain ⟨pad, pcap, rfl⟩ := owns_value ho
  rcases hv with ⟨rfl, h0⟩ | ⟨vb, vc, rfl, hv, hvb, hlt⟩
  · refine ⟨_, _, _, _, _, _, rfl, ⟨_, _, by rw [h0]; rfl, .inl h0⟩, hp, hb, fun W hW => ?_⟩
    refine (SpoilI_nil W).mono fun r W1 ⟨h1, h2⟩ => ?_
    subst h2
    exact ⟨h1, Below.refl _ _, fun _ _ => rfl, (SpoilP_any W1 B _ _ _ (ownsRow_below ho hW)).mono fun r W2 ⟨h3, h4⟩ => ⟨h3, h4.mono hB⟩⟩
  · refine ⟨_, _, _, _, _, _, rfl, hv.sl, hp, hb, fun W hW => ?_⟩
    have lv : vb < w'.heap.size := by
      obtain ⟨-, cs, h1, -⟩ := hv
      exact (Array.getElem?_eq_some_iff.1 h1).1
    have hvW : VarBlk W vb vc m.2.vars := by
      obtain ⟨l8, cs, h1, h2, h3⟩ := hv
      exact ⟨l8, cs, (hW.block vb lv).trans h1, h2, h3⟩
    refine (SpoilI_any W vb vc _ hvW).mono fun r W1 ⟨h1, h2⟩ => ?_
    have hbW : Below w.heap.size W W1 := by rw [h2]; exact below_setCells hvb _ _ _
    have ho1 : W1.ownsRow B 42 2 (.slice pad m.2.puts.length pcap) m.2.puts.length (putVs m.2.puts) := by
      obtain ⟨hl, h | ⟨g, cap, cur, he, hg, hh, hr⟩⟩ := ownsRow_below ho hW
      · exact ⟨hl, .inl h⟩
      · refine ⟨hl, .inr ⟨g, cap, cur, he, hg, ?_, hr⟩⟩
        rw [h2, setCells_heap vb _ _ _ _ (by omega)]
        exact hh
    refine ⟨h1, hbW, fun a ha => ?_, (SpoilP_any W1 B _ _ _ ho1).mono fun r W2 ⟨h3, h4⟩ => ⟨h3, h4.mono hB⟩⟩
    exact World.cell?_of_block (by rw [h2, setCells_heap vb _ _ _ _ (by omega)])
end Go.Proofs.YtikdidfgdiafoabDoor
namespace Go.Proofs.YtikdidfgdiafoabDoor
open Go.ChangeShapes Go.WideShapes Go.ChangeAt Go.RowKit

theorem ready_false {md : Region.Mode} {ops : Array Oper} {l : Array Bool} {i : Nat} (h : i ∈ Region.ready md ops l) : ∃ hi : i < l.size, l[i] = false := by
  unfold Region.ready at h
  rw [List.mem_filter] at h
  have h2 := h.2
  simp only [Bool.and_eq_true, Bool.not_eq_true'] at h2
  have h3 := h2.1
  unfold Array.getD at h3
  split at h3
  · rename_i hi; exact ⟨hi, h3⟩
  · cases h3

/-- A region that draws its order: what holds whatever was done so far, and at the end. -/
theorem wpAny_inv {P : Program} {md : Region.Mode} {ops : Array Oper} {Q : Exit → Act → World → Prop} (Inv : Array Bool → Act → World → Prop)
    (hd : ∀ l a w, Inv l a w → Region.ready md ops l = [] → Q .normal a w)
    (hs : ∀ l a w i, Inv l a w → i ∈ Region.ready md ops l → wpOp P ops Q i (Inv (l.setIfInBounds i true)) a w) :
    ∀ (fuel : Nat) (l : Array Bool) (a : Act) (w : World), Inv l a w → l.toList.count false ≤ fuel → wpAny P md ops Q fuel l a w
  | 0, l, a, w, h, hc => by
    have hr : Region.ready md ops l = [] := by
      cases hr : Region.ready md ops l with
      | nil => rfl
      | cons i r =>
        obtain ⟨hi, he⟩ := ready_false (md := md) (ops := ops) (l := l) (i := i) (by rw [hr]; simp)
        have : false ∈ l.toList := by rw [← he]; simp
        have := List.count_pos_iff.2 this
        omega
    exact ⟨hr, hd l a w h hr⟩
  | fuel + 1, l, a, w, h, hc => by
    refine ⟨fun hr => hd l a w h hr, fun i hi => wpOp_mono (fun a w h' => ?_) (hs l a w i h hi)⟩
    refine wpAny_inv Inv hd hs fuel _ a w h' ?_
    obtain ⟨hl, he⟩ := ready_false hi
    have hl' : i < l.toList.length := by simpa using hl
    rw [Array.toList_setIfInBounds, List.count_set hl']
    have e1 : l.toList[i] = false := by simpa using he
    have hpos : 0 < l.toList.count false := List.count_pos_iff.2 (by rw [← e1]; exact List.getElem_mem _)
    rw [e1, if_pos (by decide), if_neg (by decide)]
    omega
end Go.Proofs.YtikdidfgdiafoabDoor
namespace Go.Proofs.YtikdidfgdiafoabDoor
open Go.ChangeShapes Go.WideShapes Go.ChangeAt Go.RowKit

/-- The eight variables at first, and the four inputs. -/
def zeros8 : List Int := [0, 0, 0, 0, 0, 0, 0, 0]
def fives4 : List Int := [5, 0, 0, 0]
def doneMs : Ms := ⟨[15, 0, 0, 0, 0, 0, 0, 0], [(1, 30)], 5⟩

/-- The law's own body, in a world. -/
def BodyAt (w : World) (v : Value) : Prop := ∃ T p bl, (St.SlQ p w T v bl ∧ bl.Nodup ∧ St.bulkAll T ≤ 1048576) ∧ checkV T = .agg #[.int .i64 0, .int .i64 0] ∧ meanOf T zeros8 fives4 0 0 = ((0, 0), doneMs)

theorem BodyAt.below {w w' : World} {v : Value} (h : BodyAt w v) (hb : Below w.heap.size w w') : BodyAt w' v := by
  obtain ⟨T, p, bl, ⟨h1, h2, h3⟩, h4⟩ := h
  exact ⟨T, p, bl, ⟨SlQ_below h1 hb, h2, h3⟩, h4⟩

def endV (vb vc : Nat) (pad : Option Addr) (pcap : Nat) : Value := .agg #[.slice (some ⟨vb, 0, none⟩) 8 vc, .slice pad 1 pcap, .int .i64 5]
def okV : Value := .agg #[.int .i64 0, .int .i64 0]

/-- What Run has left. -/
def RanAt (w : World) (vb vc : Nat) (pad : Option Addr) (pcap : Nat) : Prop := VarBlk w vb vc doneMs.vars ∧ ∃ B, w.ownsRow B 42 2 (.slice pad 1 pcap) 1 (putVs doneMs.puts)

theorem RanAt.move {w w' : World} {vb vc pcap : Nat} {pad : Option Addr} (h : RanAt w vb vc pad pcap) (hb : ∀ (k : Nat) (cs : Array Value) (t : TypeId), (t = 3 ∨ t = 42) → w.heap[k]? = some (Obj.cells cs t (0, 0)) → w'.heap[k]? = some (Obj.cells cs t (0, 0))) : RanAt w' vb vc pad pcap := by
  obtain ⟨⟨l8, cs, h1, h2, h3⟩, B, hl, h4⟩ := h
  refine ⟨⟨l8, cs, hb _ _ _ (.inl rfl) h1, h2, h3⟩, B, hl, ?_⟩
  rcases h4 with h4 | ⟨g, cap, cur, e, hB, hg, hr⟩
  · exact .inl h4
  · exact .inr ⟨g, cap, cur, e, hB, hb _ _ _ (.inr rfl) hg, hr⟩

theorem RanAt.below {w w' : World} {vb vc pcap : Nat} {pad : Option Addr} (h : RanAt w vb vc pad pcap) (hb : Below w.heap.size w w') : RanAt w' vb vc pad pcap :=
  h.move fun k _ _ _ hk => (hb.block k (Array.getElem?_eq_some_iff.1 hk).1).trans hk

/-- A block of three cells, and one of two. -/
def Blk3 (w w' : World) (x : Value) (c0 c1 c2 : Value) : Prop := ∃ g, x = .pointer (some ⟨g, 0, none⟩) ∧ w.heap.size ≤ g ∧ w'.heap[g]? = some (.cells #[c0, c1, c2] 28 (0, 0))
def Blk2 (w w' : World) (x : Value) (c0 c1 : Value) : Prop := ∃ g, x = .pointer (some ⟨g, 0, none⟩) ∧ w.heap.size ≤ g ∧ w'.heap[g]? = some (.cells #[c0, c1] 31 (0, 0))

theorem Blk3.below {w0 w w' : World} {x c0 c1 c2 : Value} (h : Blk3 w0 w x c0 c1 c2) (hb : Below w.heap.size w w') : Blk3 w0 w' x c0 c1 c2 := by
  obtain ⟨g, h1, h2, h3⟩ := h
  exact ⟨g, h1, h2, (hb.block g (Array.getElem?_eq_some_iff.1 h3).1).trans h3⟩
theorem Blk2.below {w0 w w' : World} {x c0 c1 : Value} (h : Blk2 w0 w x c0 c1) (hb : Below w.heap.size w w') : Blk2 w0 w' x c0 c1 := by
  obtain ⟨g, h1, h2, h3⟩ := h
  exact ⟨g, h1, h2, (hb.block g (Array.getElem?_eq_some_iff.1 h3).1).trans h3⟩

/-- What is known, whatever was done so far. -/
structure DF (w : World) (l0 l1 l2 l3 l4 l5 l6 l7 l8 l9 l10 : Bool) (x1 x2 x3 x4 x5 x6 x7 x8 x9 : Value) (w' : World) : Prop where
  bel : Below w.heap.size w w'
  mid : (l3 = false ∧ l4 = false ∧ l5 = false ∧ l6 = false ∧ l9 = false ∧ l10 = false ∧ (l0 = true → BodyAt w' x4) ∧ (l1 = true → ∃ k, x5 = .slice (some ⟨k, 0, none⟩) 8 8 ∧ IntSl w' zeros8 x5) ∧ (l2 = true → ∃ k, x6 = .slice (some ⟨k, 0, none⟩) 4 4 ∧ IntSl w' fives4 x6)) ∨
    (l3 = true ∧ l0 = true ∧ l1 = true ∧ l2 = true ∧ ∃ vb vc pad pcap, RanAt w' vb vc pad pcap ∧ x7 = .tuple #[endV vb vc pad pcap, okV] ∧ (l4 = true → x3 = .tuple #[endV vb vc pad pcap, okV]) ∧ (l4 = false → l5 = false ∧ l6 = false) ∧ (l5 = true → x8 = endV vb vc pad pcap) ∧ (l5 = false → l9 = false) ∧ (l6 = true → x9 = okV) ∧ (l6 = false → l10 = false))
  b3 : (l7 = false ∧ l9 = false) ∨ (l7 = true ∧ ∃ c0 c1 c2, Blk3 w w' x1 c0 c1 c2 ∧ (l9 = true → x8 = .agg #[c0, c1, c2]))
  b2 : (l8 = false ∧ l10 = false) ∨ (l8 = true ∧ ∃ c0 c1, Blk2 w w' x2 c0 c1 ∧ (l10 = true → x9 = .agg #[c0, c1]))

theorem DF.grow {w : World} {l0 l1 l2 l3 l4 l5 l6 l7 l8 l9 l10 : Bool} {x1 x2 x3 x4 x5 x6 x7 x8 x9 : Value} {w' w'' : World} (h : DF w l0 l1 l2 l3 l4 l5 l6 l7 l8 l9 l10 x1 x2 x3 x4 x5 x6 x7 x8 x9 w') (hb : Below w'.heap.size w' w'') : DF w l0 l1 l2 l3 l4 l5 l6 l7 l8 l9 l10 x1 x2 x3 x4 x5 x6 x7 x8 x9 w'' := by
  obtain ⟨h1, h2, h3, h4⟩ := h
  refine ⟨below_seq h1 hb, ?_, ?_, ?_⟩
  · rcases h2 with ⟨a, b, c, d, e, f, g, i, j⟩ | ⟨a, b, c, d, vb, vc, pad, pcap, h, r⟩
    · refine .inl ⟨a, b, c, d, e, f, fun q => (g q).below hb, fun q => ?_, fun q => ?_⟩
      · obtain ⟨k, e, hk⟩ := i q; exact ⟨k, e, hk.below hb⟩
      · obtain ⟨k, e, hk⟩ := j q; exact ⟨k, e, hk.below hb⟩
    · exact .inr ⟨a, b, c, d, vb, vc, pad, pcap, h.below hb, r⟩
  · rcases h3 with h3 | ⟨a, c0, c1, c2, h, r⟩
    · exact .inl h3
    · exact .inr ⟨a, c0, c1, c2, h.below hb, r⟩
  · rcases h4 with h4 | ⟨a, c0, c1, h, r⟩
    · exact .inl h4
    · exact .inr ⟨a, c0, c1, h.below hb, r⟩

/-- At the end. -/
theorem DF.last {w : World} {x1 x2 x3 x4 x5 x6 x7 x8 x9 : Value} {w' : World} (h : DF w true true true true true true true true true true true x1 x2 x3 x4 x5 x6 x7 x8 x9 w') :
    ∃ g g' vb vc pad pcap, x1 = .pointer (some ⟨g, 0, none⟩) ∧ x2 = .pointer (some ⟨g', 0, none⟩) ∧ Hid (RanAt w' vb vc pad pcap ∧ Below w.heap.size w w') ∧ w'.heap[g]? = some (.cells #[.slice (some ⟨vb, 0, none⟩) 8 vc, .slice pad 1 pcap, .int .i64 5] 28 (0, 0)) ∧ w'.heap[g']? = some (.cells #[.int .i64 0, .int .i64 0] 31 (0, 0)) := by
  obtain ⟨h1, h2, h3, h4⟩ := h
  rcases h2 with ⟨a, -⟩ | ⟨-, -, -, -, vb, vc, pad, pcap, h, -, -, -, r5, -, r6, -⟩
  · cases a
  rcases h3 with ⟨a, -⟩ | ⟨-, c0, c1, c2, ⟨g, e, -, hg⟩, r⟩
  · cases a
  rcases h4 with ⟨a, -⟩ | ⟨-, d0, d1, ⟨g', e', -, hg'⟩, r'⟩
  · cases a
  have e8 := (r rfl).symm.trans (r5 rfl)
  have e9 := (r' rfl).symm.trans (r6 rfl)
  unfold endV at e8
  unfold okV at e9
  simp at e8 e9
  obtain ⟨rfl, rfl, rfl⟩ := e8
  obtain ⟨rfl, rfl⟩ := e9
  exact ⟨g, g', vb, vc, pad, pcap, e, e', ⟨h, h1⟩, hg, hg'⟩

theorem DF.s0 {w : World} {l1 l2 l3 l4 l5 l6 l7 l8 l9 l10 : Bool} {x1 x2 x3 x4 x5 x6 x7 x8 x9 : Value} {w' : World} (h : DF w false l1 l2 l3 l4 l5 l6 l7 l8 l9 l10 x1 x2 x3 x4 x5 x6 x7 x8 x9 w') {v : Value} (hv : BodyAt w' v) :
    DF w true l1 l2 l3 l4 l5 l6 l7 l8 l9 l10 x1 x2 x3 v x5 x6 x7 x8 x9 w' := by
  obtain ⟨h1, h2, h3, h4⟩ := h
  refine ⟨h1, ?_, h3, h4⟩
  rcases h2 with ⟨a, b, c, d, e, f, -, i, j⟩ | ⟨-, b, -⟩
  · exact .inl ⟨a, b, c, d, e, f, fun _ => hv, i, j⟩
  · cases b
theorem DF.s1 {w : World} {l0 l2 l3 l4 l5 l6 l7 l8 l9 l10 : Bool} {x1 x2 x3 x4 x5 x6 x7 x8 x9 : Value} {w' : World} (h : DF w l0 false l2 l3 l4 l5 l6 l7 l8 l9 l10 x1 x2 x3 x4 x5 x6 x7 x8 x9 w') {v : Value} (hv : ∃ k, v = .slice (some ⟨k, 0, none⟩) 8 8 ∧ IntSl w' zeros8 v) :
    DF w l0 true l2 l3 l4 l5 l6 l7 l8 l9 l10 x1 x2 x3 x4 v x6 x7 x8 x9 w' := by
  obtain ⟨h1, h2, h3, h4⟩ := h
  refine ⟨h1, ?_, h3, h4⟩
  rcases h2 with ⟨a, b, c, d, e, f, g, -, j⟩ | ⟨-, -, b, -⟩
  · exact .inl ⟨a, b, c, d, e, f, g, fun _ => hv, j⟩
  · cases b
theorem DF.s2 {w : World} {l0 l1 l3 l4 l5 l6 l7 l8 l9 l10 : Bool} {x1 x2 x3 x4 x5 x6 x7 x8 x9 : Value} {w' : World} (h : DF w l0 l1 false l3 l4 l5 l6 l7 l8 l9 l10 x1 x2 x3 x4 x5 x6 x7 x8 x9 w') {v : Value} (hv : ∃ k, v = .slice (some ⟨k, 0, none⟩) 4 4 ∧ IntSl w' fives4 v) :
    DF w l0 l1 true l3 l4 l5 l6 l7 l8 l9 l10 x1 x2 x3 x4 x5 v x7 x8 x9 w' := by
  obtain ⟨h1, h2, h3, h4⟩ := h
  refine ⟨h1, ?_, h3, h4⟩
  rcases h2 with ⟨a, b, c, d, e, f, g, i, -⟩ | ⟨-, -, -, b, -⟩
  · exact .inl ⟨a, b, c, d, e, f, g, i, fun _ => hv⟩
  · cases b
theorem DF.s3 {w : World} {l4 l5 l6 l7 l8 l9 l10 : Bool} {x1 x2 x3 x4 x5 x6 x7 x8 x9 : Value} {w' : World} (h : DF w true true true false l4 l5 l6 l7 l8 l9 l10 x1 x2 x3 x4 x5 x6 x7 x8 x9 w') {vb vc pcap : Nat} {pad : Option Addr} (hv : RanAt w' vb vc pad pcap) :
    DF w true true true true l4 l5 l6 l7 l8 l9 l10 x1 x2 x3 x4 x5 x6 (.tuple #[endV vb vc pad pcap, okV]) x8 x9 w' := by
  obtain ⟨h1, h2, h3, h4⟩ := h
  refine ⟨h1, ?_, h3, h4⟩
  rcases h2 with ⟨a, b, c, d, e, f, g, i, -⟩ | ⟨b, -⟩
  · subst b c d e f
    exact .inr ⟨rfl, rfl, rfl, rfl, vb, vc, pad, pcap, hv, rfl, (fun h => by cases h), (fun _ => ⟨rfl, rfl⟩), (fun h => by cases h), (fun _ => rfl), (fun h => by cases h), (fun _ => rfl)⟩
  · cases b
theorem DF.s4 {w : World} {l0 l1 l2 l5 l6 l7 l8 l9 l10 : Bool} {x1 x2 x3 x4 x5 x6 x7 x8 x9 : Value} {w' : World} (h : DF w l0 l1 l2 true false l5 l6 l7 l8 l9 l10 x1 x2 x3 x4 x5 x6 x7 x8 x9 w')  :
    DF w l0 l1 l2 true true l5 l6 l7 l8 l9 l10 x1 x2 x7 x4 x5 x6 x7 x8 x9 w' := by
  obtain ⟨h1, h2, h3, h4⟩ := h
  refine ⟨h1, ?_, h3, h4⟩
  rcases h2 with ⟨a, -⟩ | ⟨a, b, c, d, vb, vc, pad, pcap, h, e7, -, e4, r⟩
  · cases a
  · obtain ⟨rfl, rfl⟩ := e4 rfl
    exact .inr ⟨a, b, c, d, vb, vc, pad, pcap, h, e7, (fun _ => e7), (fun h => by cases h), r⟩
theorem DF.s5 {w : World} {l0 l1 l2 l3 l6 l7 l8 l9 l10 : Bool} {x1 x2 x3 x4 x5 x6 x7 x8 x9 : Value} {w' : World} (h : DF w l0 l1 l2 l3 true false l6 l7 l8 l9 l10 x1 x2 x3 x4 x5 x6 x7 x8 x9 w') {v : Value} (hv : ∀ y z, x3 = .tuple #[y, z] → v = y) :
    DF w l0 l1 l2 l3 true true l6 l7 l8 l9 l10 x1 x2 x3 x4 x5 x6 x7 v x9 w' := by
  obtain ⟨h1, h2, h3, h4⟩ := h
  rcases h2 with ⟨-, a, -⟩ | ⟨a, b, c, d, vb, vc, pad, pcap, h, e7, e4, -, -, e5, r⟩
  · cases a
  · have e9 := e5 rfl
    subst e9
    refine ⟨h1, .inr ⟨a, b, c, d, vb, vc, pad, pcap, h, e7, e4, (fun h => by cases h), (fun _ => hv _ _ (e4 rfl)), (fun h => by cases h), r⟩, ?_, h4⟩
    rcases h3 with h3 | ⟨q, c0, c1, c2, hb, -⟩
    · exact .inl h3
    · exact .inr ⟨q, c0, c1, c2, hb, fun h => by cases h⟩
theorem DF.s6 {w : World} {l0 l1 l2 l3 l5 l7 l8 l9 l10 : Bool} {x1 x2 x3 x4 x5 x6 x7 x8 x9 : Value} {w' : World} (h : DF w l0 l1 l2 l3 true l5 false l7 l8 l9 l10 x1 x2 x3 x4 x5 x6 x7 x8 x9 w') {v : Value} (hv : ∀ y z, x3 = .tuple #[y, z] → v = z) :
    DF w l0 l1 l2 l3 true l5 true l7 l8 l9 l10 x1 x2 x3 x4 x5 x6 x7 x8 v w' := by
  obtain ⟨h1, h2, h3, h4⟩ := h
  rcases h2 with ⟨-, a, -⟩ | ⟨a, b, c, d, vb, vc, pad, pcap, h, e7, e4, -, e5, e5', -, e6⟩
  · cases a
  · have e10 := e6 rfl
    subst e10
    refine ⟨h1, .inr ⟨a, b, c, d, vb, vc, pad, pcap, h, e7, e4, (fun h => by cases h), e5, e5', (fun _ => hv _ _ (e4 rfl)), (fun h => by cases h)⟩, h3, ?_⟩
    rcases h4 with h4 | ⟨q, c0, c1, hb, -⟩
    · exact .inl h4
    · exact .inr ⟨q, c0, c1, hb, fun h => by cases h⟩
theorem DF.s7 {w : World} {l0 l1 l2 l3 l4 l5 l6 l8 l9 l10 : Bool} {x1 x2 x3 x4 x5 x6 x7 x8 x9 : Value} {w' : World} (h : DF w l0 l1 l2 l3 l4 l5 l6 false l8 l9 l10 x1 x2 x3 x4 x5 x6 x7 x8 x9 w') {v c0 c1 c2 : Value} (hv : Blk3 w w' v c0 c1 c2) :
    DF w l0 l1 l2 l3 l4 l5 l6 true l8 l9 l10 v x2 x3 x4 x5 x6 x7 x8 x9 w' := by
  obtain ⟨h1, h2, h3, h4⟩ := h
  refine ⟨h1, h2, ?_, h4⟩
  rcases h3 with ⟨-, e⟩ | ⟨q, -⟩
  · exact .inr ⟨rfl, c0, c1, c2, hv, fun h => by rw [e] at h; cases h⟩
  · cases q
theorem DF.s8 {w : World} {l0 l1 l2 l3 l4 l5 l6 l7 l9 l10 : Bool} {x1 x2 x3 x4 x5 x6 x7 x8 x9 : Value} {w' : World} (h : DF w l0 l1 l2 l3 l4 l5 l6 l7 false l9 l10 x1 x2 x3 x4 x5 x6 x7 x8 x9 w') {v c0 c1 : Value} (hv : Blk2 w w' v c0 c1) :
    DF w l0 l1 l2 l3 l4 l5 l6 l7 true l9 l10 x1 v x3 x4 x5 x6 x7 x8 x9 w' := by
  obtain ⟨h1, h2, h3, h4⟩ := h
  refine ⟨h1, h2, h3, ?_⟩
  rcases h4 with ⟨-, e⟩ | ⟨q, -⟩
  · exact .inr ⟨rfl, c0, c1, hv, fun h => by rw [e] at h; cases h⟩
  · cases q
theorem other_block {w : World} {g k : Nat} {cs cs' : Array Value} {t t' : TypeId} {a : Addr} {u : Value} (hg : w.heap[g]? = some (Obj.cells cs t (0, 0))) (hk : w.heap[k]? = some (Obj.cells cs' t' (0, 0))) (ht : t ≠ t') (ha : a.block = g) : (w.setCell a u).heap[k]? = some (Obj.cells cs' t' (0, 0)) := by
  have hne : k ≠ g := by
    intro e
    subst e
    rw [hg] at hk
    simp at hk
    exact ht hk.2
  rw [Below.heap_setCell _ _ _ _ (by rw [ha]; exact hne)]
  exact hk

theorem DF.shape {w : World} {l0 l1 l2 l3 l4 l5 l6 l7 l8 l9 l10 : Bool} {x1 x2 x3 x4 x5 x6 x7 x8 x9 : Value} {w' : World} (h : DF w l0 l1 l2 l3 l4 l5 l6 l7 l8 l9 l10 x1 x2 x3 x4 x5 x6 x7 x8 x9 w') (h3 : l3 = true) : ∃ vb vc pad pcap, (l4 = true → x3 = .tuple #[endV vb vc pad pcap, okV]) ∧ (l5 = true → x8 = endV vb vc pad pcap) ∧ (l6 = true → x9 = okV) := by
  rcases h.mid with ⟨a, -⟩ | ⟨-, -, -, -, vb, vc, pad, pcap, -, -, e4, -, e5, -, e6, -⟩
  · rw [h3] at a; cases a
  · exact ⟨vb, vc, pad, pcap, e4, e5, e6⟩

theorem DF.s9 {w : World} {l0 l1 l2 l4 l6 l8 l9 l10 : Bool} {x1 x2 x3 x4 x5 x6 x7 x8 x9 : Value} {w' : World} {g : Nat} {c0 c1 c2 d0 d1 d2 : Value} (h : DF w l0 l1 l2 true l4 true l6 true l8 l9 l10 x1 x2 x3 x4 x5 x6 x7 x8 x9 w') (hx : x1 = .pointer (some ⟨g, 0, none⟩)) (hg0 : w.heap.size ≤ g) (hg : w'.heap[g]? = some (.cells #[c0, c1, c2] 28 (0, 0))) (h8 : x8 = .agg #[d0, d1, d2]) :
    DF w l0 l1 l2 true l4 true l6 true l8 true l10 x1 x2 x3 x4 x5 x6 x7 x8 x9 (((w'.setCell ⟨g, 0, none⟩ d0).setCell ⟨g, 1, none⟩ d1).setCell ⟨g, 2, none⟩ d2) := by
  obtain ⟨h1, h2, h3, h4⟩ := h
  have q1 := setCell_at (i := 0) (u := d0) hg
  have q2 := setCell_at (i := 1) (u := d1) q1
  have q3 := setCell_at (i := 2) (u := d2) q2
  have mv : ∀ (k : Nat) (cs : Array Value) (t : TypeId), t ≠ 28 → w'.heap[k]? = some (Obj.cells cs t (0, 0)) → (((w'.setCell ⟨g, 0, none⟩ d0).setCell ⟨g, 1, none⟩ d1).setCell ⟨g, 2, none⟩ d2).heap[k]? = some (Obj.cells cs t (0, 0)) := fun k cs t ht hk =>
    other_block q2 (other_block q1 (other_block hg hk (Ne.symm ht) rfl) (Ne.symm ht) rfl) (Ne.symm ht) rfl
  refine ⟨((h1.setCell hg0 _).setCell hg0 _).setCell hg0 _, ?_, .inr ⟨rfl, d0, d1, d2, ⟨g, hx, hg0, by simpa using q3⟩, fun _ => h8⟩, ?_⟩
  · rcases h2 with ⟨a, -⟩ | ⟨a, b, c, d, vb, vc, pad, pcap, h, e7, e4, e4', e5, -, r⟩
    · cases a
    · exact .inr ⟨a, b, c, d, vb, vc, pad, pcap, h.move (fun k cs t ht hk => mv k cs t (by rcases ht with rfl | rfl <;> decide) hk), e7, e4, e4', e5, (fun h => by cases h), r⟩
  · rcases h4 with h4 | ⟨q, b0, b1, ⟨k, hk1, hk2, hk3⟩, r⟩
    · exact .inl h4
    · exact .inr ⟨q, b0, b1, ⟨k, hk1, hk2, mv k _ 31 (by decide) hk3⟩, r⟩

theorem DF.s10 {w : World} {l0 l1 l2 l4 l5 l7 l9 l10 : Bool} {x1 x2 x3 x4 x5 x6 x7 x8 x9 : Value} {w' : World} {g : Nat} {c0 c1 d0 d1 : Value} (h : DF w l0 l1 l2 true l4 l5 true l7 true l9 l10 x1 x2 x3 x4 x5 x6 x7 x8 x9 w') (hx : x2 = .pointer (some ⟨g, 0, none⟩)) (hg0 : w.heap.size ≤ g) (hg : w'.heap[g]? = some (.cells #[c0, c1] 31 (0, 0))) (h9 : x9 = .agg #[d0, d1]) :
    DF w l0 l1 l2 true l4 l5 true l7 true l9 true x1 x2 x3 x4 x5 x6 x7 x8 x9 ((w'.setCell ⟨g, 0, none⟩ d0).setCell ⟨g, 1, none⟩ d1) := by
  obtain ⟨h1, h2, h3, h4⟩ := h
  have q1 := setCell_at (i := 0) (u := d0) hg
  have q2 := setCell_at (i := 1) (u := d1) q1
  have mv : ∀ (k : Nat) (cs : Array Value) (t : TypeId), t ≠ 31 → w'.heap[k]? = some (Obj.cells cs t (0, 0)) → ((w'.setCell ⟨g, 0, none⟩ d0).setCell ⟨g, 1, none⟩ d1).heap[k]? = some (Obj.cells cs t (0, 0)) := fun k cs t ht hk =>
    other_block q1 (other_block hg hk (Ne.symm ht) rfl) (Ne.symm ht) rfl
  refine ⟨(h1.setCell hg0 _).setCell hg0 _, ?_, ?_, .inr ⟨rfl, d0, d1, ⟨g, hx, hg0, by simpa using q2⟩, fun _ => h9⟩⟩
  · rcases h2 with ⟨a, -⟩ | ⟨a, b, c, d, vb, vc, pad, pcap, h, e7, e4, e4', e5, e5', e6, -⟩
    · cases a
    · exact .inr ⟨a, b, c, d, vb, vc, pad, pcap, h.move (fun k cs t ht hk => mv k cs t (by rcases ht with rfl | rfl <;> decide) hk), e7, e4, e4', e5, e5', e6, (fun h => by cases h)⟩
  · rcases h3 with h3 | ⟨q, b0, b1, b2, ⟨k, hk1, hk2, hk3⟩, r⟩
    · exact .inl h3
    · exact .inr ⟨q, b0, b1, b2, ⟨k, hk1, hk2, mv k _ 28 (by decide) hk3⟩, r⟩

theorem zeros_made (w : World) : IntSl (w.alloc (.cells #[.int .i64 0, .int .i64 0, .int .i64 0, .int .i64 0, .int .i64 0, .int .i64 0, .int .i64 0, .int .i64 0] 3)) zeros8 (.slice (some ⟨w.heap.size, 0, none⟩) 8 8) := by
  refine ⟨_, _, rfl, .inr ⟨w.heap.size, 0, rfl, fun j hj => ?_⟩⟩
  have := (cells_of (l := [.int .i64 0, .int .i64 0, .int .i64 0, .int .i64 0, .int .i64 0, .int .i64 0, .int .i64 0, .int .i64 0]) (heap_alloc_new w (.cells #[.int .i64 0, .int .i64 0, .int .i64 0, .int .i64 0, .int .i64 0, .int .i64 0, .int .i64 0, .int .i64 0] 3))).1 j (.int .i64 (zeros8.getD j 0))
  rw [Nat.zero_add]
  apply this
  have hj' : j < 8 := hj
  have : j = 0 ∨ j = 1 ∨ j = 2 ∨ j = 3 ∨ j = 4 ∨ j = 5 ∨ j = 6 ∨ j = 7 := by omega
  rcases this with rfl | rfl | rfl | rfl | rfl | rfl | rfl | rfl <;> rfl

theorem fives_made (w : World) : IntSl (w.alloc (.cells #[.int .i64 5, .int .i64 0, .int .i64 0, .int .i64 0] 3)) fives4 (.slice (some ⟨w.heap.size, 0, none⟩) 4 4) := by
  refine ⟨_, _, rfl, .inr ⟨w.heap.size, 0, rfl, fun j hj => ?_⟩⟩
  have := (cells_of (l := [.int .i64 5, .int .i64 0, .int .i64 0, .int .i64 0]) (heap_alloc_new w (.cells #[.int .i64 5, .int .i64 0, .int .i64 0, .int .i64 0] 3))).1 j (.int .i64 (fives4.getD j 0))
  rw [Nat.zero_add]
  apply this
  have hj' : j < 4 := hj
  have : j = 0 ∨ j = 1 ∨ j = 2 ∨ j = 3 := by omega
  rcases this with rfl | rfl | rfl | rfl <;> rfl

theorem puts_made (w : World) : PutSl (w.alloc (.cells #[.int .i64 1, .int .i64 30] 42)) doneMs.puts (.slice (some ⟨w.heap.size, 0, none⟩) 1 1) := by
  refine ⟨_, _, rfl, .inr ⟨w.heap.size, 0, rfl, fun j hj => ?_⟩⟩
  have h := (cells_of (l := [.int .i64 1, .int .i64 30]) (heap_alloc_new w (.cells #[.int .i64 1, .int .i64 30] 42))).1
  have hj' : j < 1 := hj
  have : j = 0 := by omega
  subst this
  exact ⟨h 0 _ rfl, h 1 _ rfl⟩

theorem below_new (w : World) (o : Obj) : Below w.heap.size w (w.alloc o) := (Below.refl _ w).alloc (Nat.le_refl _) o

/-- Run, of the law's own body. -/
theorem run_own (w : World) (v : Value) (k m : Nat) (hr : Ready w) (hb : BodyAt w v) (hv : IntSl w zeros8 (.slice (some ⟨k, 0, none⟩) 8 8)) (hi : IntSl w fives4 (.slice (some ⟨m, 0, none⟩) 4 4)) :
    Calls Tryd.prog 10 #[v, .slice (some ⟨k, 0, none⟩) 8 8, .slice (some ⟨m, 0, none⟩) 4 4] w fun r w' => ∃ vb vc pad pcap, r = .returned (.tuple #[endV vb vc pad pcap, okV]) ∧ RanAt w' vb vc pad pcap ∧ Below w.heap.size w w' := by
  obtain ⟨T, p, bl, ⟨h1, h2, h3⟩, h4, h5⟩ := hb
  refine (Run_is w v T _ _ _ _ _ _ zeros8 fives4 0 0 p bl hr h1 h2 h3 h4 hv hi).mono fun r w' h => ?_
  rw [h5] at h
  obtain ⟨vv, pv, B, he, hvv, ho, -, hbw⟩ := h
  rcases hvv with ⟨-, hn⟩ | ⟨vb, vc, rfl, hvb, -⟩
  · cases hn
  obtain ⟨pad, pcap, rfl⟩ := owns_value ho
  exact ⟨vb, vc, pad, pcap, he, ⟨hvb, B, ho⟩, hbw⟩
end Go.Proofs.YtikdidfgdiafoabDoor
namespace Go.Proofs.YtikdidfgdiafoabDoor
open Go.ChangeShapes Go.WideShapes Go.ChangeAt Go.RowKit

set_option maxRecDepth 20000 in
set_option maxHeartbeats 4000000 in
theorem does_b (hplain : ∀ w : World, Calls Tryd.prog 19 #[] w fun r w' => ∃ v, r = .returned v ∧ BodyAt w' v ∧ Below w.heap.size w w') (w : World) (hr : Ready w) :
    Calls Tryd.prog 5 #[] w fun r w' => r = .returned (.bool true) ∧ Below w.heap.size w w' := by
  have HP : Hid _ := hplain
  have HR : Hid (Ready w) := hr
  clear hplain hr
  obtain ⟨i0, hi0, hz0, hz1, hz2⟩ := info_parts info3
  have hmk : ∀ W : World, (Instr.makeSlice 23 (.int .i64 8) (.int .i64 8)).run Tryd.prog W = .ok (.slice (some ⟨W.heap.size, 0, none⟩) 8 8) (W.alloc (.cells #[.int .i64 0, .int .i64 0, .int .i64 0, .int .i64 0, .int .i64 0, .int .i64 0, .int .i64 0, .int .i64 0] 3)) := by
    intro W
    have h := run_make (P := Tryd.prog) W 23 3 i0 _ Tryd.underlying23 hi0 hz0 .i64 .i64 8 8 (by decide) (by decide) (by rw [hz2]; decide) (by decide)
    rw [hz1] at h
    have e : madeCells (Value.int .i64 0).cells (Int.toNat 8 * 1) = #[.int .i64 0, .int .i64 0, .int .i64 0, .int .i64 0, .int .i64 0, .int .i64 0, .int .i64 0, .int .i64 0] := by kernel_rfl
    rw [e] at h
    exact h
  clear hi0 hz0 hz1 hz2
  go_enter Tryd.func5, Tryd.ntmps5
  go_wp2_with fail
  go_cut [1, 2] from 1 to 1 (fun x y wc => ∃ g g' vb vc pad pcap, x = .pointer (some ⟨g, 0, none⟩) ∧ y = .pointer (some ⟨g', 0, none⟩) ∧ Hid (RanAt wc vb vc pad pcap ∧ Below w.heap.size w wc) ∧ wc.heap[g]? = some (.cells #[.slice (some ⟨vb, 0, none⟩) 8 vc, .slice pad 1 pcap, .int .i64 5] 28 (0, 0)) ∧ wc.heap[g']? = some (.cells #[.int .i64 0, .int .i64 0] 31 (0, 0)))
  case first =>
    refine wp_region_any (by kernel_rfl) (wpAny_inv (fun l a w' => ∃ l0 l1 l2 l3 l4 l5 l6 l7 l8 l9 l10 : Bool, ∃ x1 x2 x3 x4 x5 x6 x7 x8 x9 : Value, l = #[l0, l1, l2, l3, l4, l5, l6, l7, l8, l9, l10] ∧ a = ⟨#[.bool false, x1, x2, x3, x4, x5, x6, x7, x8, x9, undef, undef, undef, undef, undef, undef, undef, undef, undef, undef, undef, undef, undef, undef, undef, undef, undef, undef, undef, undef, undef, undef, undef, undef, undef, undef, undef, undef], []⟩ ∧ DF w l0 l1 l2 l3 l4 l5 l6 l7 l8 l9 l10 x1 x2 x3 x4 x5 x6 x7 x8 x9 w') ?_ ?_ _ _ _ _ ?_ ?_)
    · rintro l a w' ⟨l0, l1, l2, l3, l4, l5, l6, l7, l8, l9, l10, x1, x2, x3, x4, x5, x6, x7, x8, x9, rfl, rfl, hf⟩ hr
      have hn : ∀ i : Nat, ¬ (i ∈ ([] : List Nat)) := fun i h => by cases h
      rw [← hr] at hn
      have h0 := hn 0
      have h1 := hn 1
      have h2 := hn 2
      have h7 := hn 7
      have h8 := hn 8
      simp [Region.ready, Region.binds] at h0 h1 h2 h7 h8
      subst h0 h1 h2 h7 h8
      have h3 := hn 3
      simp [Region.ready, Region.binds] at h3
      subst h3
      have h4 := hn 4
      simp [Region.ready, Region.binds] at h4
      subst h4
      have h5 := hn 5
      simp [Region.ready, Region.binds] at h5
      subst h5
      have h6 := hn 6
      have h9 := hn 9
      simp [Region.ready, Region.binds] at h6 h9
      subst h6 h9
      have h10 := hn 10
      simp [Region.ready, Region.binds] at h10
      subst h10
      have hl := hf.last
      clear hn hr hf HP HR hmk
      dsimp only
      go_wp2_with fail
      go_meet
      case rel => exact hl
    · rintro l a w' i ⟨l0, l1, l2, l3, l4, l5, l6, l7, l8, l9, l10, x1, x2, x3, x4, x5, x6, x7, x8, x9, rfl, rfl, hf⟩ hi
      have hlt : i < 11 := by unfold Region.ready at hi; exact List.mem_range.1 (List.mem_filter.1 hi).1
      have h11 : i = 0 ∨ i = 1 ∨ i = 2 ∨ i = 3 ∨ i = 4 ∨ i = 5 ∨ i = 6 ∨ i = 7 ∨ i = 8 ∨ i = 9 ∨ i = 10 := by omega
      have HF : Hid _ := hf
      clear hf hlt
      rcases h11 with rfl | rfl | rfl | rfl | rfl | rfl | rfl | rfl | rfl | rfl | rfl
      all_goals simp [Region.ready, Region.binds] at hi
      all_goals refine wpOp_step rfl ?_
      all_goals intro K hK
      all_goals have HK : Hid _ := hK
      all_goals clear hK
      · subst hi
        go_simp
        refine (HP.out w').mono ?_
        rintro r w4 ⟨v4, rfl, hv4, hb4⟩
        exact HK.out _ _ ⟨true, l1, l2, l3, l4, l5, l6, l7, l8, l9, l10, x1, x2, x3, v4, x5, x6, x7, x8, x9, rfl, rfl, (HF.out.grow hb4).s0 hv4⟩
      · subst hi
        go_simp
        exact HK.out _ _ ⟨l0, true, l2, l3, l4, l5, l6, l7, l8, l9, l10, x1, x2, x3, x4, _, x6, x7, x8, x9, rfl, rfl, (HF.out.grow (below_new _ _)).s1 ⟨_, rfl, zeros_made w'⟩⟩
      · subst hi
        go_simp
        exact HK.out _ _ ⟨l0, l1, true, l3, l4, l5, l6, l7, l8, l9, l10, x1, x2, x3, x4, x5, _, x7, x8, x9, rfl, rfl, (HF.out.grow (below_new _ _)).s2 ⟨_, rfl, fives_made w'⟩⟩
      · obtain ⟨rfl, rfl, rfl, rfl, -⟩ := hi
        rcases HF.out.mid with ⟨-, -, -, -, -, -, hB, hZ, hF⟩ | ⟨q, -⟩
        · obtain ⟨k, rfl, hz⟩ := hZ rfl
          obtain ⟨m, rfl, hf⟩ := hF rfl
          have HB : Hid _ := hB rfl
          have HZ : Hid (_ ∧ _) := ⟨hz, hf⟩
          clear hB hZ hF hz hf
          go_simp
          refine (run_own w' _ k m (HR.out.below HF.out.bel) HB.out HZ.out.1 HZ.out.2).mono ?_
          rintro r w4 ⟨vb, vc, pad, pcap, rfl, hv4, hb4⟩
          exact HK.out _ _ ⟨true, true, true, true, l4, l5, l6, l7, l8, l9, l10, x1, x2, x3, x4, _, _, _, x8, x9, rfl, rfl, (HF.out.grow hb4).s3 hv4⟩
        · cases q
      · obtain ⟨rfl, rfl⟩ := hi
        go_simp
        exact HK.out _ _ ⟨l0, l1, l2, true, true, l5, l6, l7, l8, l9, l10, x1, x2, x7, x4, x5, x6, x7, x8, x9, rfl, rfl, HF.out.s4⟩
      · obtain ⟨rfl, rfl⟩ := hi
        rcases HF.out.mid with ⟨-, q, -⟩ | ⟨rfl, -, -, -, vb, vc, pad, pcap, -, -, e4, -⟩
        · cases q
        · have e := e4 rfl
          clear e4
          subst e
          go_simp
          exact HK.out _ _ ⟨l0, l1, l2, true, true, true, l6, l7, l8, l9, l10, x1, x2, _, x4, x5, x6, x7, _, x9, rfl, rfl, HF.out.s5 (fun y z h => by cases h; rfl)⟩
      · obtain ⟨rfl, rfl⟩ := hi
        rcases HF.out.mid with ⟨-, q, -⟩ | ⟨rfl, -, -, -, vb, vc, pad, pcap, -, -, e4, -⟩
        · cases q
        · have e := e4 rfl
          clear e4
          subst e
          go_simp
          exact HK.out _ _ ⟨l0, l1, l2, true, true, l5, true, l7, l8, l9, l10, x1, x2, _, x4, x5, x6, x7, x8, _, rfl, rfl, HF.out.s6 (fun y z h => by cases h; rfl)⟩
      · subst hi
        go_simp
        exact HK.out _ _ ⟨l0, l1, l2, l3, l4, l5, l6, true, l8, l9, l10, _, x2, x3, x4, x5, x6, x7, x8, x9, rfl, rfl, (HF.out.grow (below_new _ _)).s7 ⟨_, rfl, HF.out.bel.size, heap_alloc_new w' _⟩⟩
      · subst hi
        go_simp
        exact HK.out _ _ ⟨l0, l1, l2, l3, l4, l5, l6, l7, true, l9, l10, x1, _, x3, x4, x5, x6, x7, x8, x9, rfl, rfl, (HF.out.grow (below_new _ _)).s8 ⟨_, rfl, HF.out.bel.size, heap_alloc_new w' _⟩⟩
      · obtain ⟨rfl, rfl, rfl, rfl, -⟩ := hi
        obtain ⟨vb, vc, pad, pcap, -, e8, -⟩ := HF.out.shape rfl
        have e8' := e8 rfl
        clear e8
        unfold endV at e8'
        subst e8'
        rcases HF.out.b3 with ⟨q, -⟩ | ⟨-, c0, c1, c2, ⟨g, rfl, hg0, hg⟩, -⟩
        · cases q
        · obtain ⟨c, f, lt⟩ := cells_of (l := [_, _, _]) hg
          have k0 := c 0 _ rfl
          have k1 := c 1 _ rfl
          have k2 := c 2 _ rfl
          have HG : Hid _ := hg
          clear c hg
          go_simp
          exact HK.out _ _ ⟨l0, l1, l2, true, l4, true, l6, true, l8, true, l10, _, x2, x3, x4, x5, x6, x7, _, x9, rfl, rfl, HF.out.s9 rfl hg0 HG.out rfl⟩
      · obtain ⟨rfl, rfl, rfl, -, -, -, -, rfl, -⟩ := hi
        obtain ⟨vb, vc, pad, pcap, -, -, e9⟩ := HF.out.shape rfl
        have e9' := e9 rfl
        clear e9
        unfold okV at e9'
        subst e9'
        rcases HF.out.b2 with ⟨q, -⟩ | ⟨-, c0, c1, ⟨g, rfl, hg0, hg⟩, -⟩
        · cases q
        · obtain ⟨c, f, lt⟩ := cells_of (l := [_, _]) hg
          have k0 := c 0 _ rfl
          have k1 := c 1 _ rfl
          have HG : Hid _ := hg
          clear c hg
          go_simp
          exact HK.out _ _ ⟨l0, l1, l2, true, l4, l5, true, l7, true, l9, true, x1, _, x3, x4, x5, x6, x7, x8, _, rfl, rfl, HF.out.s10 rfl hg0 HG.out rfl⟩
    · exact ⟨false, false, false, false, false, false, false, false, false, false, false, undef, undef, undef, undef, undef, undef, undef, undef, undef, rfl, rfl, ⟨(Below.refl _ w).drew, .inl ⟨rfl, rfl, rfl, rfl, rfl, rfl, (fun h => by cases h), (fun h => by cases h), (fun h => by cases h)⟩, .inl ⟨rfl, rfl⟩, .inl ⟨rfl, rfl⟩⟩⟩
    · simp
  case rest =>
    obtain ⟨g, g', vb, vc, pad, pcap, rfl, rfl, HC, hg, hg'⟩ := hcut
    obtain ⟨c, f, lt⟩ := cells_of (l := [_, _, _]) hg
    obtain ⟨c', f', lt'⟩ := cells_of (l := [_, _]) hg'
    have k0 := c 0 _ rfl
    have k1 := c 1 _ rfl
    have k2 := c 2 _ rfl
    have q0 := c' 0 _ rfl
    have v0 : wc.cell? ⟨vb, 0, none⟩ = some (.int .i64 15) := by
      obtain ⟨-, cs, h1, -, h3⟩ := HC.out.1.1
      unfold World.cell?
      rw [h1]
      exact h3 0 (by decide)
    clear c c' f f' hg hg' HP HR hmk
    go_wp2_with (go_at_call 18; refine (SameP_any _ doneMs.puts _ _ (by decide) ((PutSl.of_own HC.out.1.2.choose_spec).below (below_new _ _)) (puts_made wc)).mono ?_; rintro r w4 ⟨rfl, hb4⟩; have H4 : Hid (Below w.heap.size w w4) := below_seq HC.out.2 (below_seq (below_new _ _) hb4); clear hb4)
    go_ret
    exact ⟨rfl, H4.out⟩

theorem mean_plain : meanOf plainT zeros8 fives4 0 0 = ((0, 0), doneMs) := by kernel_rfl

theorem plain_body (w : World) : Calls Tryd.prog 19 #[] w fun r w' => ∃ v, r = .returned v ∧ BodyAt w' v ∧ Below w.heap.size w w' :=
  (plain_any w).mono fun _ _ ⟨v, bl, h1, h2, h3, h4⟩ => ⟨v, h1, ⟨plainT, _, bl, ⟨h2, h3, bulk_plain⟩, checkV_plain, mean_plain⟩, h4⟩

theorem does_any (w : World) (hr : Ready w) : Calls Tryd.prog 5 #[] w fun r w' => r = .returned (.bool true) ∧ Below w.heap.size w w' := does_b plain_body w hr
end Go.Proofs.YtikdidfgdiafoabDoor
