import Derived.Test.YtcmoehednkaehahGLD
namespace Go.Proofs.Ytcmoehednkaehah
open Go.ChangeShapes Go.WideShapes Go.ChangeAt Go.RowKit

set_option maxRecDepth 20000 in
set_option maxHeartbeats 1000000 in
theorem later_any (w : World) (b : Bool) : Calls Try.prog 47 #[.bool b] w fun r w' => r = .returned (.int .i64 (if b = true then 0 else 1)) ∧ w' = w := by
  cases b
  · go_enter Try.func47, Try.ntmps47
    go_wp2_with fail
    go_ret
    exact ⟨rfl, rfl⟩
  · go_enter Try.func47, Try.ntmps47
    go_wp2_with fail
    go_ret
    exact ⟨rfl, rfl⟩

set_option maxRecDepth 20000 in
set_option maxHeartbeats 1000000 in
/-- Whether a job is done. -/
theorem done_any (w : World) (R E n c i : Nat) (e : Int) (hi : i < n) (h1 : w.cell? ⟨R, 1, none⟩ = some (.slice (some ⟨E, 0, none⟩) n c)) (h2 : w.cell? ⟨E, i, none⟩ = some (.int .i64 e)) :
    Calls Try.prog 31 #[.pointer (some ⟨R, 0, none⟩), .int .i64 i] w fun r w' => r = .returned (.bool (e != -1)) ∧ w' = w := by
  have h1' : w.cell? ⟨R, 0 + 1, none⟩ = some (.slice (some ⟨E, 0, none⟩) n c) := by rw [Nat.zero_add]; exact h1
  have h2' : w.cell? ⟨E, 0 + i, none⟩ = some (.int .i64 e) := by rw [Nat.zero_add]; exact h2
  have hi' : (i : Int) < n := by omega
  go_enter Try.func31, Try.ntmps31
  go_wp2_with fail
  go_ret
  exact ⟨rfl, rfl⟩

set_option maxRecDepth 20000 in
set_option maxHeartbeats 2000000 in
/-- One ends its act, and it isn't the last one. -/
theorem end_more (w : World) (R J n c i : Nat) (nx rn now : Int) (ad : Option Addr) (m cap : Nat) (hi : i < n) (hne : nx + 1 < m) (h0 : 0 ≤ nx) (hmm : m ≤ 4194304)
    (h4 : w.cell? ⟨R, 4, none⟩ = some (.slice (some ⟨J, 0, none⟩) n c)) (ha : w.cell? ⟨J, i * 8 + 2, none⟩ = some (.slice ad m cap)) (hn : w.cell? ⟨J, i * 8 + 3, none⟩ = some (.int .i64 nx)) (hr : w.cell? ⟨J, i * 8 + 4, none⟩ = some (.int .i64 rn)) (hf3 : w.frozen? ⟨J, i * 8 + 3, none⟩ = false) (hf4 : w.frozen? ⟨J, i * 8 + 4, none⟩ = false) :
    Calls Try.prog 42 #[.pointer (some ⟨R, 0, none⟩), .int .i64 i, .int .i64 now] w fun r w' => r = .returned (.tuple #[]) ∧ ∃ k, w' = ((w.setCell ⟨J, i * 8 + 3, none⟩ (.int .i64 (nx + 1))).setCell ⟨J, i * 8 + 4, none⟩ (.int .i64 0)).drewN k := by
  have hi' : (i : Int) < n := by omega
  have hmm' : (nx + 1 == (m : Int)) = false := by simp; omega
  go_enter Try.func42, Try.ntmps42
  go_wp2_with fail
  go_quiet (fail)
  go_wp2_with fail
  go_end0
  exact ⟨rfl, _, rfl⟩

set_option maxRecDepth 20000 in
set_option maxHeartbeats 2000000 in
/-- One ends its last act: it is done. -/
theorem end_last (w : World) (R J E n c n2 c2 i : Nat) (nx rn now e : Int) (ad : Option Addr) (m cap : Nat) (hi : i < n) (hi2 : i < n2) (hne : nx + 1 = m) (hmm : m ≤ 4194304)
    (h1 : w.cell? ⟨R, 1, none⟩ = some (.slice (some ⟨E, 0, none⟩) n2 c2)) (h4 : w.cell? ⟨R, 4, none⟩ = some (.slice (some ⟨J, 0, none⟩) n c)) (ha : w.cell? ⟨J, i * 8 + 2, none⟩ = some (.slice ad m cap)) (hn : w.cell? ⟨J, i * 8 + 3, none⟩ = some (.int .i64 nx)) (hr : w.cell? ⟨J, i * 8 + 4, none⟩ = some (.int .i64 rn)) (he : w.cell? ⟨E, i, none⟩ = some (.int .i64 e)) (hf3 : w.frozen? ⟨J, i * 8 + 3, none⟩ = false) (hf4 : w.frozen? ⟨J, i * 8 + 4, none⟩ = false) (hfe : w.frozen? ⟨E, i, none⟩ = false) :
    Calls Try.prog 42 #[.pointer (some ⟨R, 0, none⟩), .int .i64 i, .int .i64 now] w fun r w' => r = .returned (.tuple #[]) ∧ ∃ k, w' = (((w.setCell ⟨J, i * 8 + 3, none⟩ (.int .i64 m)).setCell ⟨J, i * 8 + 4, none⟩ (.int .i64 0)).drewN k).setCell ⟨E, i, none⟩ (.int .i64 now) := by
  obtain rfl : nx = (m : Int) - 1 := by omega
  have hi' : (i : Int) < n := by omega
  have hi2' : (i : Int) < n2 := by omega
  have hm1 : (m : Int) - 1 + 1 = m := by omega
  clear hne
  go_enter Try.func42, Try.ntmps42
  go_wp2_with fail
  go_quiet (fail)
  go_wp2_with fail
  go_end0
  exact ⟨rfl, _, rfl⟩
end Go.Proofs.Ytcmoehednkaehah
namespace Go.Proofs.Ytcmoehednkaehah
open Go.ChangeShapes Go.WideShapes Go.ChangeAt Go.RowKit

def cmpI (x y : Int) : Int := if x < y then -1 else if y < x then 1 else 0
def or3 (x y z : Int) : Int := if x ≠ 0 then x else if y ≠ 0 then y else z

theorem isNaN_any (w : World) (x : Int) : Calls Try.prog 48 #[.int .i64 x] w fun r w' => r = .returned (.bool false) ∧ w' = w := by
  go_enter Try.func48, Try.ntmps48
  go_wp2
  go_ret
  exact ⟨by simp, rfl⟩

set_option maxRecDepth 20000 in
theorem Compare_any (w : World) (x y : Int) : Calls Try.prog 46 #[.int .i64 x, .int .i64 y] w fun r w' => r = .returned (.int .i64 (cmpI x y)) ∧ w' = w := by
  unfold cmpI
  by_cases h : x < y
  · rw [if_pos h]
    go_enter Try.func46, Try.ntmps46
    go_wp2_with (go_at_call 48; refine (isNaN_any _ _).mono ?_; rintro r w1 ⟨rfl, rfl⟩)
    go_ret
    exact ⟨rfl, rfl⟩
  · rw [if_neg h]
    by_cases h2 : y < x
    · rw [if_pos h2]
      go_enter Try.func46, Try.ntmps46
      go_wp2_with (go_at_call 48; refine (isNaN_any _ _).mono ?_; rintro r w1 ⟨rfl, rfl⟩)
      go_ret
      exact ⟨rfl, rfl⟩
    · rw [if_neg h2]
      go_enter Try.func46, Try.ntmps46
      go_wp2_with (go_at_call 48; refine (isNaN_any _ _).mono ?_; rintro r w1 ⟨rfl, rfl⟩)
      go_ret
      exact ⟨rfl, rfl⟩

set_option maxRecDepth 20000 in
theorem Or_any (w : World) (x y z : Int) (b : Nat) (h0 : w.cell? ⟨b, 0, none⟩ = some (.int .i64 x)) (h1 : w.cell? ⟨b, 1, none⟩ = some (.int .i64 y)) (h2 : w.cell? ⟨b, 2, none⟩ = some (.int .i64 z)) :
    Calls Try.prog 45 #[.slice (some ⟨b, 0, none⟩) 3 3] w fun r w' => r = .returned (.int .i64 (or3 x y z)) ∧ w' = w := by
  go_enter Try.func45, Try.ntmps45
  go_wp2_with fail
  go_loopw [8] (fun i wr => ∃ k : Nat, k ≤ 3 ∧ i = .int .i64 k ∧ wr = w ∧ (1 ≤ k → x = 0) ∧ (2 ≤ k → y = 0) ∧ (3 ≤ k → z = 0)) (fun i _ => 3 - (intOf i).toNat)
  case atStart => exact ⟨0, by omega, rfl, rfl, by omega, by omega, by omega⟩
  case round =>
    obtain ⟨k, hk, rfl, rfl, hx, hy, hz⟩ := hrel
    have : k = 0 ∨ k = 1 ∨ k = 2 ∨ k = 3 := by omega
    rcases this with rfl | rfl | rfl | rfl
    · clear hx hy hz
      by_cases e : x = 0
      · have e' : (x != 0) = false := by simp [e]
        have He : Hid (x = 0) := e
        clear e
        go_wp2_with fail
        exact ⟨⟨1, by omega, by simp, trivial, fun _ => He.out, by omega, by omega⟩, by simp [intOf]⟩
      · have e' : (x != 0) = true := by simp [e]
        go_wp2_with fail
        go_ret
        exact ⟨by simp [or3, e], rfl⟩
    · have Hx : Hid (x = 0) := hx (by omega)
      clear hx hy hz
      by_cases e : y = 0
      · have e' : (y != 0) = false := by simp [e]
        have He : Hid (y = 0) := e
        clear e
        go_wp2_with fail
        exact ⟨⟨2, by omega, by simp, trivial, fun _ => Hx.out, fun _ => He.out, by omega⟩, by simp [intOf]⟩
      · have e' : (y != 0) = true := by simp [e]
        go_wp2_with fail
        go_ret
        exact ⟨by simp [or3, Hx.out, e], rfl⟩
    · have Hx : Hid (x = 0 ∧ y = 0) := ⟨hx (by omega), hy (by omega)⟩
      clear hx hy hz
      by_cases e : z = 0
      · have e' : (z != 0) = false := by simp [e]
        have He : Hid (z = 0) := e
        clear e
        go_wp2_with fail
        exact ⟨⟨3, by omega, by simp, trivial, fun _ => Hx.out.1, fun _ => Hx.out.2, fun _ => He.out⟩, by simp [intOf]⟩
      · have e' : (z != 0) = true := by simp [e]
        go_wp2_with fail
        go_ret
        exact ⟨by simp [or3, Hx.out.1, Hx.out.2], rfl⟩
    · have Hx : Hid (x = 0 ∧ y = 0 ∧ z = 0) := ⟨hx (by omega), hy (by omega), hz (by omega)⟩
      clear hx hy hz
      go_wp2_with fail
      go_ret
      exact ⟨by simp [or3, Hx.out.1, Hx.out.2.1, Hx.out.2.2], rfl⟩
end Go.Proofs.Ytcmoehednkaehah
