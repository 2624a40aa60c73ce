import Derived.Test.YtekbkcgpjkecbalSRC
namespace Go.Proofs.Ytekbkcgpjkecbal.S8
open Go.ChangeShapes Go.WideShapes Go.ChangeAt Go.RowKit

def or2 (x y : Int) : Int := if x ≠ 0 then x else y

set_option maxRecDepth 20000 in
theorem Or2_any (w : World) (x y : Int) (b : Nat) (h0 : w.cell? ⟨b, 0, none⟩ = some (.int .i64 x)) (h1 : w.cell? ⟨b, 1, none⟩ = some (.int .i64 y)) :
    Calls Try.prog 44 #[.slice (some ⟨b, 0, none⟩) 2 2] w fun r w' => r = .returned (.int .i64 (or2 x y)) ∧ w' = w := by
  go_enter Try.func44, Try.ntmps44
  go_wp2_with fail
  go_loopw [8] (fun i wr => ∃ k : Nat, k ≤ 2 ∧ i = .int .i64 k ∧ wr = w ∧ (1 ≤ k → x = 0) ∧ (2 ≤ k → y = 0)) (fun i _ => 2 - (intOf i).toNat)
  case atStart => exact ⟨0, by omega, rfl, rfl, by omega, by omega⟩
  case round =>
    obtain ⟨k, hk, rfl, rfl, hx, hy⟩ := hrel
    have : k = 0 ∨ k = 1 ∨ k = 2 := by omega
    rcases this with rfl | rfl | rfl
    · clear hx hy
      by_cases e : x = 0
      · have e' : (x != 0) = false := by simp [e]
        have He : Hid (x = 0) := e
        clear e
        go_wp2_with fail
        exact ⟨⟨1, by omega, by simp, trivial, fun _ => He.out, by omega⟩, by simp [intOf]⟩
      · have e' : (x != 0) = true := by simp [e]
        go_wp2_with fail
        go_ret
        exact ⟨by simp [or2, e], rfl⟩
    · have Hx : Hid (x = 0) := hx (by omega)
      clear hx hy
      by_cases e : y = 0
      · have e' : (y != 0) = false := by simp [e]
        have He : Hid (y = 0) := e
        clear e
        go_wp2_with fail
        exact ⟨⟨2, by omega, by simp, trivial, fun _ => Hx.out, fun _ => He.out⟩, by simp [intOf]⟩
      · have e' : (y != 0) = true := by simp [e]
        go_wp2_with fail
        go_ret
        exact ⟨by simp [or2, Hx.out], rfl⟩
    · have Hx : Hid (x = 0 ∧ y = 0) := ⟨hx (by omega), hy (by omega)⟩
      clear hx hy
      go_wp2_with fail
      go_ret
      exact ⟨by simp [or2, Hx.out.1, Hx.out.2], rfl⟩

def jagg (x : Jb) : Value := .agg #[.int .i64 x.k, .int .i64 x.a, .int .i64 x.c, .int .i64 x.d, .int .i64 x.p]

set_option maxRecDepth 20000 in
theorem due_any (w : World) (x y : Jb) : Calls Try.prog 48 #[jagg x, jagg y] w fun r w' => r = .returned (.int .i64 (cmpI x.d y.d)) ∧ Grown w w' := by
  unfold jagg
  go_enter Try.func48, Try.ntmps48
  go_wp2_with (go_at_call 45; refine (Compare_any _ x.d y.d).mono ?_; rintro r w1 ⟨rfl, rfl⟩)
  go_ret
  exact ⟨rfl, ((Grown.refl w).alloc _).alloc _⟩

set_option maxRecDepth 20000 in
theorem great_any (w : World) (x y : Jb) : Calls Try.prog 49 #[jagg x, jagg y] w fun r w' => r = .returned (.int .i64 (cmpI y.p x.p)) ∧ Grown w w' := by
  unfold jagg
  go_enter Try.func49, Try.ntmps49
  go_wp2_with (go_at_call 45; refine (Compare_any _ y.p x.p).mono ?_; rintro r w1 ⟨rfl, rfl⟩)
  go_ret
  exact ⟨rfl, ((Grown.refl w).alloc _).alloc _⟩
end Go.Proofs.Ytekbkcgpjkecbal.S8
