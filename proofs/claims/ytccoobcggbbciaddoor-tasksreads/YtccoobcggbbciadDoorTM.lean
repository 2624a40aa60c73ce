import Derived.Test.YtccoobcggbbciadDoorTS
import Derived.Test.YtccoobcggbbciadDoorTQ
namespace Go.Proofs.YtccoobcggbbciadDoor
open Go.ChangeShapes Go.WideShapes Go.ChangeAt Go.RowKit

set_option maxRecDepth 20000 in
theorem CheckSet_many (w : World) (n c : Nat) (ad : Option Addr) (h : n = 0 ∨ 8 < n) : Calls Tryd.prog 24 #[.slice ad n c] w fun r w' => r = .returned (.agg #[.int .i64 2, .int .i64 0]) ∧ Below w.heap.size w w' := by
  have H0 : Hid (FB w (w.alloc (.cells #[.int .i64 0, .int .i64 0] 37)) w.heap.size) := FB.start w
  rcases h with h | h
  · subst h
    go_enter Tryd.func24, Tryd.ntmps24
    go_wp2_with (go_at_call 21; refine (F_any _ _ _).mono ?_; rintro r w1 ⟨rfl, hb1⟩; obtain ⟨rs1, rf1, rl1⟩ := cells_of (l := [_, _]) (H0.out.grow hb1).res; have r10 := rs1 0 _ rfl; have r11 := rs1 1 _ rfl; have f10 := rf1 0; have f11 := rf1 1; have H1 : Hid (FB w w1 w.heap.size) := H0.out.grow hb1; clear rs1 rf1 hb1)
    refine bodyPost_ret (CheckSet_ends (set_two H1.out.res) rfl) rfl ?_
    exact ⟨rfl, H1.out.set _ _⟩
  · have g1 : ((n : Int) == 0) = false := by simp; omega
    have g2 : (8 : Int) < (n : Int) := by omega
    go_enter Tryd.func24, Tryd.ntmps24
    go_wp2_with (go_at_call 21; refine (F_any _ _ _).mono ?_; rintro r w1 ⟨rfl, hb1⟩; obtain ⟨rs1, rf1, rl1⟩ := cells_of (l := [_, _]) (H0.out.grow hb1).res; have r10 := rs1 0 _ rfl; have r11 := rs1 1 _ rfl; have f10 := rf1 0; have f11 := rf1 1; have H1 : Hid (FB w w1 w.heap.size) := H0.out.grow hb1; clear rs1 rf1 hb1)
    refine bodyPost_ret (CheckSet_ends (set_two H1.out.res) rfl) rfl ?_
    exact ⟨rfl, H1.out.set _ _⟩

/-- punctualref.CheckSet. -/
theorem CheckSet_any (w : World) (l : List Ta) (v : Value) (hS : ∀ x ∈ l, x.nm.size ≤ 9223372036854775807) (hv : RowSl Ta.vals w l v) : Calls Tryd.prog 24 #[v] w fun r w' => r = .returned (.agg #[.int .i64 (chkF l).1, .int .i64 (chkF l).2]) ∧ Below w.heap.size w w' := by
  obtain ⟨ad, c, rfl⟩ := hv.len
  unfold chkF
  by_cases h : l.length = 0 ∨ 8 < l.length
  · rw [if_pos h]
    exact CheckSet_many w l.length c ad h
  · rw [if_neg h]
    exact CheckSet_few w l ad c hS (by omega) (by omega) hv
end Go.Proofs.YtccoobcggbbciadDoor
