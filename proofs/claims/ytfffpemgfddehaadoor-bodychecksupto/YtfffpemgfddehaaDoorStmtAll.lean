import Derived.Test.YtfffpemgfddehaaDoorStmtR1
import Derived.Test.YtfffpemgfddehaaDoorStmtR2
import Derived.Test.YtfffpemgfddehaaDoorStmtR3
import Derived.Test.YtfffpemgfddehaaDoorStmtR4
import Derived.Test.YtfffpemgfddehaaDoorStmtR5
import Derived.Test.YtfffpemgfddehaaDoorStmtR6
import Derived.Test.YtfffpemgfddehaaDoorJoin
import Derived.Test.YtfffpemgfddehaaDoorFrame
namespace Go.Proofs.YtfffpemgfddehaaDoor
open Go.ChangeShapes Go.WideShapes Go.ChangeAt Go.RowKit

set_option maxHeartbeats 1000000 in
/-- A statement, given the lists within it. -/
theorem stmt_of_list (w0 : World) (hr : Ready w0) (N : Nat) (hN : N ≤ 1048576) (hL : ListOk w0 N) : StmtOk w0 (N + 1) := by
  intro s w wb B i v sv ar hb hwb hB0 hin hwk hi1 hi2 har
  have h0s : 0 < w0.heap.size := World.block_lt_of_cell? _ _ (hr.1 1 (by omega) (by omega)).1
  obtain ⟨k, n, e, ck, ca, cb, b, l⟩ := s
  unfold St.In at hin
  obtain ⟨e0, e1, e2, a0, a1, a2, b0, b1, b2, sb, sl, rfl, he, hca, hcb, ⟨yad, yc, rfl, hy⟩, ⟨lad, lc, rfl, hl⟩⟩ := hin
  have hy' : St.Sl w0 b (.slice yad b.length yc) := ⟨yad, yc, rfl, hy⟩
  have hl' : St.Sl w0 l (.slice lad l.length lc) := ⟨lad, lc, rfl, hl⟩
  clear hy hl
  simp only [St.bulk] at hb hi2 har
  obtain ⟨ek, en, ea⟩ := e
  obtain ⟨ak, an, aa⟩ := ca
  obtain ⟨bk, bn, ba⟩ := cb
  have he' := he
  have hca' := hca
  have hcb' := hcb
  unfold Ex.In at he' hca' hcb'
  obtain ⟨ead, ec, hve, -⟩ := he'
  obtain ⟨aad, ac, hva, -⟩ := hca'
  obtain ⟨bad, bc, hvb, -⟩ := hcb'
  simp at hve hva hvb
  obtain ⟨rfl, rfl, rfl⟩ := hve
  obtain ⟨rfl, rfl, rfl⟩ := hva
  obtain ⟨rfl, rfl, rfl⟩ := hvb
  by_cases hk : k < 1 ∨ 8 ≤ k
  · rw [none_chk _ _ _ _ _ _ _ _ _ _ hk]
    exact stmt_none w wb B i v ar hwk hi1 (by omega) k n ek en ck ak an bk bn ead aad bad yad lad _ ec _ ac _ bc _ yc _ lc hk
  · obtain ⟨m, rfl⟩ : ∃ m : Nat, k = m := ⟨k.toNat, by omega⟩
    obtain ⟨t0, t1, t2, t3, t4, t5⟩ := hr.1.below h0s hB0 m (by omega) (by omega)
    have hbk : (Ex.mk ek en ea).nodes + (Ex.mk ak an aa).nodes + (Ex.mk bk bn ba).nodes + St.bulkAll b + St.bulkAll l ≤ N := by omega
    have hj2 : i + 1 + (St.bulkAll b + St.bulkAll l : Nat) ≤ 2097152 := by omega
    have hja : ar.length + 1 + (St.bulkAll b + St.bulkAll l) ≤ 2097152 := by omega
    have look := look_chk m n (.mk ek en ea) ck (.mk ak an aa) (.mk bk bn ba) b l ar i hk
    rw [← look]
    clear look
    by_cases hlo : lowN m ≤ n
    · have eb0 : decide (lowN m ≤ n ∧ n ≤ highN m) = decide (n ≤ highN m) := by simp [hlo]
      rw [eb0]
      cases hinn : innK m
      · have hm6 : m ≠ 6 := by rintro rfl; simp [innK] at hinn
        have e6 : decide ((m : Int) = 6) = false := decide_eq_false (by omega)
        rw [hinn] at t4
        rw [e6]
        simp only [Bool.not_false, Bool.true_or]
        exact stmt_r1 w0 N hN hL w wb B i v ar m n ek en ck ak an bk bn _ _ ead aad bad yad lad _ ec _ ac _ bc yc lc _ _ _ (.mk ek en ea) (.mk ak an aa) (.mk bk bn ba) b l hbk hwb (by omega) hB0 hr.2 he hca hcb hy' hl' hwk hi1 hj2 hja t0 t1 t2 t3 t4 t5 (by omega) (by omega) hm6 hlo
      · rw [hinn] at t4
        by_cases hm6 : m = 6
        · subst hm6
          have e6 : decide (((6 : Nat) : Int) = 6) = true := by decide
          rw [e6]
          simp only [Bool.not_true, Bool.false_or]
          exact stmt_r5 w0 N hN hL w wb B i v ar n ek en ck ak an bk bn _ _ ead aad bad yad lad _ ec _ ac _ bc yc lc _ _ _ (.mk ek en ea) (.mk ak an aa) (.mk bk bn ba) b l hbk hwb (by omega) hB0 hr.2 he hca hcb hy' hl' hwk hi1 hj2 hja t0 t1 t2 t3 t4 t5 hlo
        · have e6 : decide ((m : Int) = 6) = false := decide_eq_false (by omega)
          rw [e6]
          simp only [Bool.not_true, Bool.false_or, Bool.not_false, Bool.true_or]
          exact stmt_r3 w0 N hN hL w wb B i v ar m n ek en ck ak an bk bn _ _ ead aad bad yad lad _ ec _ ac _ bc yc lc _ _ _ (.mk ek en ea) (.mk ak an aa) (.mk bk bn ba) b l hbk hwb (by omega) hB0 hr.2 he hca hcb hy' hl' hwk hi1 hj2 hja t0 t1 t2 t3 t4 t5 (by omega) (by omega) hm6 hlo
    · have eb0 : decide (lowN m ≤ n ∧ n ≤ highN m) = false := by simp [hlo]
      rw [eb0]
      cases hinn : innK m
      · have hm6 : m ≠ 6 := by rintro rfl; simp [innK] at hinn
        have e6 : decide ((m : Int) = 6) = false := decide_eq_false (by omega)
        rw [hinn] at t4
        rw [e6]
        simp only [Bool.not_false, Bool.true_or]
        exact stmt_r2 w0 N hN hL w wb B i v ar m n ek en ck ak an bk bn _ _ ead aad bad yad lad _ ec _ ac _ bc yc lc _ _ _ (.mk ek en ea) (.mk ak an aa) (.mk bk bn ba) b l hbk hwb (by omega) hB0 hr.2 he hca hcb hy' hl' hwk hi1 hj2 hja t0 t1 t2 t3 t4 t5 (by omega) (by omega) hm6 hlo
      · rw [hinn] at t4
        by_cases hm6 : m = 6
        · subst hm6
          have e6 : decide (((6 : Nat) : Int) = 6) = true := by decide
          rw [e6]
          simp only [Bool.not_true, Bool.false_or]
          exact stmt_r6 w0 N hN hL w wb B i v ar n ek en ck ak an bk bn _ _ ead aad bad yad lad _ ec _ ac _ bc yc lc _ _ _ (.mk ek en ea) (.mk ak an aa) (.mk bk bn ba) b l hbk hwb (by omega) hB0 hr.2 he hca hcb hy' hl' hwk hi1 hj2 hja t0 t1 t2 t3 t4 t5 hlo
        · have e6 : decide ((m : Int) = 6) = false := decide_eq_false (by omega)
          rw [e6]
          simp only [Bool.not_true, Bool.false_or, Bool.not_false, Bool.true_or]
          exact stmt_r4 w0 N hN hL w wb B i v ar m n ek en ck ak an bk bn _ _ ead aad bad yad lad _ ec _ ac _ bc yc lc _ _ _ (.mk ek en ea) (.mk ak an aa) (.mk bk bn ba) b l hbk hwb (by omega) hB0 hr.2 he hca hcb hy' hl' hwk hi1 hj2 hja t0 t1 t2 t3 t4 t5 (by omega) (by omega) hm6 hlo

theorem every_list (W : World) (hr : Ready W) : ListOk W 1048576 := list_all W (fun N hN hL => stmt_of_list W hr N hN hL) 1048576 (Nat.le_refl _)

theorem bodyChecksUpto_holds : Rows.BodyChecksUptoCardSaid := cardUpto every_list
#print axioms bodyChecksUpto_holds
end Go.Proofs.YtfffpemgfddehaaDoor
