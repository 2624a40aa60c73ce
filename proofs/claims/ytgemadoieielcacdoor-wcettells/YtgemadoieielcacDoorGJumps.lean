import Derived.Test.YtgemadoieielcacDoorGNested
namespace Go.Proofs.YtgemadoieielcacDoor
open Go.ChangeShapes Go.WideShapes Go.ChangeAt Go.RowKit

/-- What is wrong with where an instruction goes on; ws: the innermost regions. -/
def jumpErr (ws : List Int) (k : Nat) (x : In) : Int :=
  if x.op ≠ 11 ∧ x.op ≠ 12 then 0
  else if x.a ≤ k ∨ (ws.length : Int) ≤ x.a ∨ ws.getD x.a.toNat 0 ≠ ws.getD k 0 then 7 else 0

theorem below_drewN' {w : World} {n : Nat} : Below w.heap.size w (w.drewN n) := ⟨rfl, rfl, rfl, Nat.le_refl _, fun _ _ => rfl⟩

set_option maxRecDepth 20000 in
set_option maxHeartbeats 4000000 in
theorem jumps_none (w : World) (fb wb : Nat) (n : Nat) (k : Nat) (op a b : Int) (wc : Nat) (zk : Int) (_hf : w.cell? ⟨fb, 0, none⟩ = some (.slice (some ⟨wb, 0, none⟩) n wc)) (_hw : w.cell? ⟨wb, k, none⟩ = some (.int .i64 zk)) (_hk : k < n) (_hl : n ≤ 4194304) (h1 : op ≠ 11) (h2 : op ≠ 12) :
    Calls Tryd.prog 105 #[.int .i64 k, .agg #[.int .i64 op, .int .i64 a, .int .i64 b], .pointer (some ⟨fb, 0, none⟩)] w fun r w' => r = .returned (.int .i64 0) ∧ Below w.heap.size w w' := by
  have f1 : (op != 11) = true := by simpa using h1
  have f2 : (op != 12) = true := by simpa using h2
  go_enter Tryd.func105, Tryd.ntmps105
  go_wp2_with fail
  go_ret
  exact ⟨rfl, below_new _ _⟩

set_option maxRecDepth 20000 in
set_option maxHeartbeats 4000000 in
theorem jumps_11_back (w : World) (fb wb : Nat) (n : Nat) (k : Nat) (a b : Int) (wc : Nat) (zk : Int) (hf : w.cell? ⟨fb, 0, none⟩ = some (.slice (some ⟨wb, 0, none⟩) n wc)) (hw : w.cell? ⟨wb, k, none⟩ = some (.int .i64 zk)) (_hk : k < n) (_hl : n ≤ 4194304) (ha : a ≤ k) :
    Calls Tryd.prog 105 #[.int .i64 k, .agg #[.int .i64 11, .int .i64 a, .int .i64 b], .pointer (some ⟨fb, 0, none⟩)] w fun r w' => r = .returned (.int .i64 7) ∧ Below w.heap.size w w' := by
  have g1 : decide (a ≤ (k : Int)) = true := by simpa using ha
  have lf : fb < w.heap.size := World.block_lt_of_cell? w _ hf
  have lw : wb < w.heap.size := World.block_lt_of_cell? w _ hw
  go_enter Tryd.func105, Tryd.ntmps105
  go_wp2_with fail
  go_quiet (fail)
  go_wp2_with fail
  go_ret
  exact ⟨rfl, below_seq (below_new _ _) below_drewN'⟩

set_option maxRecDepth 20000 in
set_option maxHeartbeats 4000000 in
theorem jumps_11_far (w : World) (fb wb : Nat) (n : Nat) (k : Nat) (a b : Int) (wc : Nat) (zk : Int) (hf : w.cell? ⟨fb, 0, none⟩ = some (.slice (some ⟨wb, 0, none⟩) n wc)) (hw : w.cell? ⟨wb, k, none⟩ = some (.int .i64 zk)) (_hk : k < n) (_hl : n ≤ 4194304) (ha : ¬ a ≤ k) (hb : (n : Int) ≤ a) :
    Calls Tryd.prog 105 #[.int .i64 k, .agg #[.int .i64 11, .int .i64 a, .int .i64 b], .pointer (some ⟨fb, 0, none⟩)] w fun r w' => r = .returned (.int .i64 7) ∧ Below w.heap.size w w' := by
  have g1 : decide (a ≤ (k : Int)) = false := by simpa using ha
  have g2 : decide ((n : Int) ≤ a) = true := by simpa using hb
  have lf : fb < w.heap.size := World.block_lt_of_cell? w _ hf
  have lw : wb < w.heap.size := World.block_lt_of_cell? w _ hw
  go_enter Tryd.func105, Tryd.ntmps105
  go_wp2_with fail
  go_quiet (fail)
  go_wp2_with fail
  go_ret
  exact ⟨rfl, below_seq (below_new _ _) below_drewN'⟩

set_option maxRecDepth 20000 in
set_option maxHeartbeats 4000000 in
theorem jumps_11_other (w : World) (fb wb : Nat) (n : Nat) (k : Nat) (b : Int) (wc : Nat) (zk : Int) (hf : w.cell? ⟨fb, 0, none⟩ = some (.slice (some ⟨wb, 0, none⟩) n wc)) (hw : w.cell? ⟨wb, k, none⟩ = some (.int .i64 zk)) (hk : k < n) (_hl : n ≤ 4194304) (m : Nat) (ha : k < m) (hb : m < n) (zm : Int) (hm : w.cell? ⟨wb, m, none⟩ = some (.int .i64 zm)) (hz : zm ≠ zk) :
    Calls Tryd.prog 105 #[.int .i64 k, .agg #[.int .i64 11, .int .i64 m, .int .i64 b], .pointer (some ⟨fb, 0, none⟩)] w fun r w' => r = .returned (.int .i64 7) ∧ Below w.heap.size w w' := by
  have g1 : decide ((m : Int) ≤ (k : Int)) = false := by simp; omega
  have g2 : decide ((n : Int) ≤ (m : Int)) = false := by simp; omega
  have g4 : decide (m ≤ k) = false := by simp; omega
  have g5 : decide (n ≤ m) = false := by simp; omega
  have g3 : (zm != zk) = true := by simpa using hz
  have lf : fb < w.heap.size := World.block_lt_of_cell? w _ hf
  have lw : wb < w.heap.size := World.block_lt_of_cell? w _ hw
  go_enter Tryd.func105, Tryd.ntmps105
  go_wp2_with fail
  go_quiet (fail)
  go_wp2_with fail
  go_ret
  exact ⟨rfl, below_seq (below_new _ _) below_drewN'⟩

set_option maxRecDepth 20000 in
set_option maxHeartbeats 4000000 in
theorem jumps_11_good (w : World) (fb wb : Nat) (n : Nat) (k : Nat) (b : Int) (wc : Nat) (zk : Int) (hf : w.cell? ⟨fb, 0, none⟩ = some (.slice (some ⟨wb, 0, none⟩) n wc)) (hw : w.cell? ⟨wb, k, none⟩ = some (.int .i64 zk)) (hk : k < n) (_hl : n ≤ 4194304) (m : Nat) (ha : k < m) (hb : m < n) (zm : Int) (hm : w.cell? ⟨wb, m, none⟩ = some (.int .i64 zm)) (hz : zm = zk) :
    Calls Tryd.prog 105 #[.int .i64 k, .agg #[.int .i64 11, .int .i64 m, .int .i64 b], .pointer (some ⟨fb, 0, none⟩)] w fun r w' => r = .returned (.int .i64 0) ∧ Below w.heap.size w w' := by
  have g1 : decide ((m : Int) ≤ (k : Int)) = false := by simp; omega
  have g2 : decide ((n : Int) ≤ (m : Int)) = false := by simp; omega
  have g4 : decide (m ≤ k) = false := by simp; omega
  have g5 : decide (n ≤ m) = false := by simp; omega
  subst hz
  have lf : fb < w.heap.size := World.block_lt_of_cell? w _ hf
  have lw : wb < w.heap.size := World.block_lt_of_cell? w _ hw
  go_enter Tryd.func105, Tryd.ntmps105
  go_wp2_with fail
  go_quiet (fail)
  go_wp2_with fail
  go_ret
  exact ⟨rfl, below_seq (below_new _ _) below_drewN'⟩

set_option maxRecDepth 20000 in
set_option maxHeartbeats 4000000 in
theorem jumps_12_back (w : World) (fb wb : Nat) (n : Nat) (k : Nat) (a b : Int) (wc : Nat) (zk : Int) (hf : w.cell? ⟨fb, 0, none⟩ = some (.slice (some ⟨wb, 0, none⟩) n wc)) (hw : w.cell? ⟨wb, k, none⟩ = some (.int .i64 zk)) (_hk : k < n) (_hl : n ≤ 4194304) (ha : a ≤ k) :
    Calls Tryd.prog 105 #[.int .i64 k, .agg #[.int .i64 12, .int .i64 a, .int .i64 b], .pointer (some ⟨fb, 0, none⟩)] w fun r w' => r = .returned (.int .i64 7) ∧ Below w.heap.size w w' := by
  have g1 : decide (a ≤ (k : Int)) = true := by simpa using ha
  have lf : fb < w.heap.size := World.block_lt_of_cell? w _ hf
  have lw : wb < w.heap.size := World.block_lt_of_cell? w _ hw
  go_enter Tryd.func105, Tryd.ntmps105
  go_wp2_with fail
  go_quiet (fail)
  go_wp2_with fail
  go_ret
  exact ⟨rfl, below_seq (below_new _ _) below_drewN'⟩

set_option maxRecDepth 20000 in
set_option maxHeartbeats 4000000 in
theorem jumps_12_far (w : World) (fb wb : Nat) (n : Nat) (k : Nat) (a b : Int) (wc : Nat) (zk : Int) (hf : w.cell? ⟨fb, 0, none⟩ = some (.slice (some ⟨wb, 0, none⟩) n wc)) (hw : w.cell? ⟨wb, k, none⟩ = some (.int .i64 zk)) (_hk : k < n) (_hl : n ≤ 4194304) (ha : ¬ a ≤ k) (hb : (n : Int) ≤ a) :
    Calls Tryd.prog 105 #[.int .i64 k, .agg #[.int .i64 12, .int .i64 a, .int .i64 b], .pointer (some ⟨fb, 0, none⟩)] w fun r w' => r = .returned (.int .i64 7) ∧ Below w.heap.size w w' := by
  have g1 : decide (a ≤ (k : Int)) = false := by simpa using ha
  have g2 : decide ((n : Int) ≤ a) = true := by simpa using hb
  have lf : fb < w.heap.size := World.block_lt_of_cell? w _ hf
  have lw : wb < w.heap.size := World.block_lt_of_cell? w _ hw
  go_enter Tryd.func105, Tryd.ntmps105
  go_wp2_with fail
  go_quiet (fail)
  go_wp2_with fail
  go_ret
  exact ⟨rfl, below_seq (below_new _ _) below_drewN'⟩

set_option maxRecDepth 20000 in
set_option maxHeartbeats 4000000 in
theorem jumps_12_other (w : World) (fb wb : Nat) (n : Nat) (k : Nat) (b : Int) (wc : Nat) (zk : Int) (hf : w.cell? ⟨fb, 0, none⟩ = some (.slice (some ⟨wb, 0, none⟩) n wc)) (hw : w.cell? ⟨wb, k, none⟩ = some (.int .i64 zk)) (hk : k < n) (_hl : n ≤ 4194304) (m : Nat) (ha : k < m) (hb : m < n) (zm : Int) (hm : w.cell? ⟨wb, m, none⟩ = some (.int .i64 zm)) (hz : zm ≠ zk) :
    Calls Tryd.prog 105 #[.int .i64 k, .agg #[.int .i64 12, .int .i64 m, .int .i64 b], .pointer (some ⟨fb, 0, none⟩)] w fun r w' => r = .returned (.int .i64 7) ∧ Below w.heap.size w w' := by
  have g1 : decide ((m : Int) ≤ (k : Int)) = false := by simp; omega
  have g2 : decide ((n : Int) ≤ (m : Int)) = false := by simp; omega
  have g4 : decide (m ≤ k) = false := by simp; omega
  have g5 : decide (n ≤ m) = false := by simp; omega
  have g3 : (zm != zk) = true := by simpa using hz
  have lf : fb < w.heap.size := World.block_lt_of_cell? w _ hf
  have lw : wb < w.heap.size := World.block_lt_of_cell? w _ hw
  go_enter Tryd.func105, Tryd.ntmps105
  go_wp2_with fail
  go_quiet (fail)
  go_wp2_with fail
  go_ret
  exact ⟨rfl, below_seq (below_new _ _) below_drewN'⟩

set_option maxRecDepth 20000 in
set_option maxHeartbeats 4000000 in
theorem jumps_12_good (w : World) (fb wb : Nat) (n : Nat) (k : Nat) (b : Int) (wc : Nat) (zk : Int) (hf : w.cell? ⟨fb, 0, none⟩ = some (.slice (some ⟨wb, 0, none⟩) n wc)) (hw : w.cell? ⟨wb, k, none⟩ = some (.int .i64 zk)) (hk : k < n) (_hl : n ≤ 4194304) (m : Nat) (ha : k < m) (hb : m < n) (zm : Int) (hm : w.cell? ⟨wb, m, none⟩ = some (.int .i64 zm)) (hz : zm = zk) :
    Calls Tryd.prog 105 #[.int .i64 k, .agg #[.int .i64 12, .int .i64 m, .int .i64 b], .pointer (some ⟨fb, 0, none⟩)] w fun r w' => r = .returned (.int .i64 0) ∧ Below w.heap.size w w' := by
  have g1 : decide ((m : Int) ≤ (k : Int)) = false := by simp; omega
  have g2 : decide ((n : Int) ≤ (m : Int)) = false := by simp; omega
  have g4 : decide (m ≤ k) = false := by simp; omega
  have g5 : decide (n ≤ m) = false := by simp; omega
  subst hz
  have lf : fb < w.heap.size := World.block_lt_of_cell? w _ hf
  have lw : wb < w.heap.size := World.block_lt_of_cell? w _ hw
  go_enter Tryd.func105, Tryd.ntmps105
  go_wp2_with fail
  go_quiet (fail)
  go_wp2_with fail
  go_ret
  exact ⟨rfl, below_seq (below_new _ _) below_drewN'⟩

/-- The look at jumps, of one instruction. -/
theorem jumps1_any (w : World) (fb wb : Nat) (ws : List Int) (k : Nat) (x : In) (wc : Nat) (hf : w.cell? ⟨fb, 0, none⟩ = some (.slice (some ⟨wb, 0, none⟩) ws.length wc)) (hw : ∀ j, j < ws.length → w.cell? ⟨wb, j, none⟩ = some (.int .i64 (ws.getD j 0))) (hk : k < ws.length) (hl : ws.length ≤ 4194304) :
    Calls Tryd.prog 105 #[.int .i64 k, x.val, .pointer (some ⟨fb, 0, none⟩)] w fun r w' => r = .returned (.int .i64 (jumpErr ws k x)) ∧ Below w.heap.size w w' := by
  obtain ⟨op, a, b⟩ := x
  show Calls Tryd.prog 105 #[.int .i64 k, .agg #[.int .i64 op, .int .i64 a, .int .i64 b], .pointer (some ⟨fb, 0, none⟩)] w _
  unfold jumpErr
  dsimp only
  by_cases ho : op ≠ 11 ∧ op ≠ 12
  · rw [if_pos ho]
    exact jumps_none w fb wb ws.length k op a b wc _ hf (hw k hk) hk hl ho.1 ho.2
  · rw [if_neg ho]
    have hop : op = 11 ∨ op = 12 := by omega
    by_cases h1 : a ≤ k
    · rw [if_pos (.inl h1)]
      rcases hop with rfl | rfl
      · exact jumps_11_back w fb wb ws.length k a b wc _ hf (hw k hk) hk hl h1
      · exact jumps_12_back w fb wb ws.length k a b wc _ hf (hw k hk) hk hl h1
    by_cases h2 : (ws.length : Int) ≤ a
    · rw [if_pos (.inr (.inl h2))]
      rcases hop with rfl | rfl
      · exact jumps_11_far w fb wb ws.length k a b wc _ hf (hw k hk) hk hl h1 h2
      · exact jumps_12_far w fb wb ws.length k a b wc _ hf (hw k hk) hk hl h1 h2
    obtain ⟨m, rfl⟩ : ∃ m : Nat, a = m := ⟨a.toNat, by omega⟩
    have hm1 : k < m := by omega
    have hm2 : m < ws.length := by omega
    have e : (m : Int).toNat = m := by simp
    rw [e]
    by_cases h3 : ws.getD m 0 ≠ ws.getD k 0
    · rw [if_pos (.inr (.inr h3))]
      rcases hop with rfl | rfl
      · exact jumps_11_other w fb wb ws.length k b wc _ hf (hw k hk) hk hl m hm1 hm2 _ (hw m hm2) h3
      · exact jumps_12_other w fb wb ws.length k b wc _ hf (hw k hk) hk hl m hm1 hm2 _ (hw m hm2) h3
    · rw [if_neg (by simp only [not_or]; exact ⟨h1, h2, h3⟩)]
      rcases hop with rfl | rfl
      · exact jumps_11_good w fb wb ws.length k b wc _ hf (hw k hk) hk hl m hm1 hm2 _ (hw m hm2) (Classical.not_not.1 h3)
      · exact jumps_12_good w fb wb ws.length k b wc _ hf (hw k hk) hk hl m hm1 hm2 _ (hw m hm2) (Classical.not_not.1 h3)
end Go.Proofs.YtgemadoieielcacDoor
