import Derived.Test.YtcmoehednkaehahLB
import Derived.Test.YtcmoehednkaehahLA
namespace Go.Proofs.Ytcmoehednkaehah
open Go.ChangeShapes Go.WideShapes Go.ChangeAt Go.RowKit

set_option maxRecDepth 20000 in
set_option maxHeartbeats 1000000 in
theorem later_any (w : World) (b : Bool) : Calls Try.prog 47 #[.bool b] w fun r w' => r = .returned (.int .i64 (if b = true then 0 else 1)) ∧ w' = w := by
  cases b
  · go_enter Try.func47, Try.ntmps47
    go_wp2_with fail
    go_ret
    exact ⟨rfl, rfl⟩
  · go_enter Try.func47, Try.ntmps47
    go_wp2_with fail
    go_ret
    exact ⟨rfl, rfl⟩

set_option maxRecDepth 20000 in
set_option maxHeartbeats 1000000 in
/-- Whether a job is done. -/
theorem done_any (w : World) (R E n c i : Nat) (e : Int) (hi : i < n) (h1 : w.cell? ⟨R, 1, none⟩ = some (.slice (some ⟨E, 0, none⟩) n c)) (h2 : w.cell? ⟨E, i, none⟩ = some (.int .i64 e)) :
    Calls Try.prog 31 #[.pointer (some ⟨R, 0, none⟩), .int .i64 i] w fun r w' => r = .returned (.bool (e != -1)) ∧ w' = w := by
  have h1' : w.cell? ⟨R, 0 + 1, none⟩ = some (.slice (some ⟨E, 0, none⟩) n c) := by rw [Nat.zero_add]; exact h1
  have h2' : w.cell? ⟨E, 0 + i, none⟩ = some (.int .i64 e) := by rw [Nat.zero_add]; exact h2
  have hi' : (i : Int) < n := by omega
  go_enter Try.func31, Try.ntmps31
  go_wp2_with fail
  go_ret
  exact ⟨rfl, rfl⟩

set_option maxRecDepth 20000 in
set_option maxHeartbeats 2000000 in
/-- One ends its act, and it isn't the last one. -/
theorem end_more (w : World) (R J n c i : Nat) (nx rn now : Int) (ad : Option Addr) (m cap : Nat) (hi : i < n) (hne : nx + 1 < m) (h0 : 0 ≤ nx) (hmm : m ≤ 4194304)
    (h4 : w.cell? ⟨R, 4, none⟩ = some (.slice (some ⟨J, 0, none⟩) n c)) (ha : w.cell? ⟨J, i * 8 + 2, none⟩ = some (.slice ad m cap)) (hn : w.cell? ⟨J, i * 8 + 3, none⟩ = some (.int .i64 nx)) (hr : w.cell? ⟨J, i * 8 + 4, none⟩ = some (.int .i64 rn)) (hf3 : w.frozen? ⟨J, i * 8 + 3, none⟩ = false) (hf4 : w.frozen? ⟨J, i * 8 + 4, none⟩ = false) :
    Calls Try.prog 42 #[.pointer (some ⟨R, 0, none⟩), .int .i64 i, .int .i64 now] w fun r w' => r = .returned (.tuple #[]) ∧ ∃ k, w' = ((w.setCell ⟨J, i * 8 + 3, none⟩ (.int .i64 (nx + 1))).setCell ⟨J, i * 8 + 4, none⟩ (.int .i64 0)).drewN k := by
  have hi' : (i : Int) < n := by omega
  have hmm' : (nx + 1 == (m : Int)) = false := by simp; omega
  go_enter Try.func42, Try.ntmps42
  go_wp2_with fail
  go_quiet (fail)
  go_wp2_with fail
  go_end0
  exact ⟨rfl, _, rfl⟩

set_option maxRecDepth 20000 in
set_option maxHeartbeats 2000000 in
/-- One ends its last act: it is done. -/
theorem end_last (w : World) (R J E n c n2 c2 i : Nat) (nx rn now e : Int) (ad : Option Addr) (m cap : Nat) (hi : i < n) (hi2 : i < n2) (hne : nx + 1 = m) (hmm : m ≤ 4194304)
    (h1 : w.cell? ⟨R, 1, none⟩ = some (.slice (some ⟨E, 0, none⟩) n2 c2)) (h4 : w.cell? ⟨R, 4, none⟩ = some (.slice (some ⟨J, 0, none⟩) n c)) (ha : w.cell? ⟨J, i * 8 + 2, none⟩ = some (.slice ad m cap)) (hn : w.cell? ⟨J, i * 8 + 3, none⟩ = some (.int .i64 nx)) (hr : w.cell? ⟨J, i * 8 + 4, none⟩ = some (.int .i64 rn)) (he : w.cell? ⟨E, i, none⟩ = some (.int .i64 e)) (hf3 : w.frozen? ⟨J, i * 8 + 3, none⟩ = false) (hf4 : w.frozen? ⟨J, i * 8 + 4, none⟩ = false) (hfe : w.frozen? ⟨E, i, none⟩ = false) :
    Calls Try.prog 42 #[.pointer (some ⟨R, 0, none⟩), .int .i64 i, .int .i64 now] w fun r w' => r = .returned (.tuple #[]) ∧ ∃ k, w' = (((w.setCell ⟨J, i * 8 + 3, none⟩ (.int .i64 m)).setCell ⟨J, i * 8 + 4, none⟩ (.int .i64 0)).drewN k).setCell ⟨E, i, none⟩ (.int .i64 now) := by
  obtain rfl : nx = (m : Int) - 1 := by omega
  have hi' : (i : Int) < n := by omega
  have hi2' : (i : Int) < n2 := by omega
  have hm1 : (m : Int) - 1 + 1 = m := by omega
  clear hne
  go_enter Try.func42, Try.ntmps42
  go_wp2_with fail
  go_quiet (fail)
  go_wp2_with fail
  go_end0
  exact ⟨rfl, _, rfl⟩
end Go.Proofs.Ytcmoehednkaehah
