import Derived.Test.YtccoobcggbbciaiGreatDoorSLA
import Derived.Sort.Grow
import Derived.Lib.OthersKept
namespace Go.Proofs.YtccoobcggbbciaiGreatDoor.S8
open Go.ChangeShapes Go.WideShapes Go.ChangeAt Go.RowKit


end Go.Proofs.YtccoobcggbbciaiGreatDoor.S8
namespace Go.Proofs.YtccoobcggbbciaiGreatDoor.S8
open Go.ChangeShapes Go.WideShapes Go.ChangeAt Go.RowKit

/-- Where a walk stands. -/
def Phase (_ : Nat) : Prop := True

def noJ : Jb := ⟨-9, 0, 0, 0, 0⟩
end Go.Proofs.YtccoobcggbbciaiGreatDoor.S8
namespace Go.Proofs.YtccoobcggbbciaiGreatDoor.S8
open Go.ChangeShapes Go.WideShapes Go.ChangeAt Go.RowKit

/- What is wrong with jobs. -/
def okJ (x : Jb) : Prop := 0 ≤ x.a ∧ x.a ≤ 60000 ∧ 1 ≤ x.c ∧ x.c ≤ 10000 ∧ 0 ≤ x.d ∧ x.d ≤ 80000

abbrev okDec (x : Jb) : Decidable (okJ x) := by unfold okJ; exact inferInstance

def chkFrom : List Jb → Nat → Int × Int
  | [], _ => (0, 0)
  | x :: r, i => if 0 ≤ x.a ∧ x.a ≤ 60000 ∧ 1 ≤ x.c ∧ x.c ≤ 10000 ∧ 0 ≤ x.d ∧ x.d ≤ 80000 then chkFrom r (i + 1) else (3, (i : Int))

/-- chapter 8's Check. -/
def chkJ (l : List Jb) : Int × Int := if 4000 < l.length then (2, 0) else chkFrom l 0

theorem chkFrom_at {l : List Jb} {j : Nat} {x : Jb} (h : l.drop j = x :: l.drop (j + 1)) : chkFrom (l.drop j) j = if 0 ≤ x.a ∧ x.a ≤ 60000 ∧ 1 ≤ x.c ∧ x.c ≤ 10000 ∧ 0 ≤ x.d ∧ x.d ≤ 80000 then chkFrom (l.drop (j + 1)) (j + 1) else (3, (j : Int)) := by
  rw [h, chkFrom]

theorem chkFrom_ok : ∀ (l : List Jb) (i : Nat), (chkFrom l i).1 = 0 → (∀ x ∈ l, okJ x) ∧ chkFrom l i = (0, 0)
  | [], _, _ => ⟨by simp, rfl⟩
  | x :: r, i, h => by
    rw [chkFrom] at h ⊢
    by_cases hx : 0 ≤ x.a ∧ x.a ≤ 60000 ∧ 1 ≤ x.c ∧ x.c ≤ 10000 ∧ 0 ≤ x.d ∧ x.d ≤ 80000
    · rw [if_pos hx] at h ⊢
      obtain ⟨h1, h2⟩ := chkFrom_ok r (i + 1) h
      exact ⟨fun y hy => (List.mem_cons.1 hy).elim (fun e => e ▸ hx) (h1 y), h2⟩
    · rw [if_neg hx] at h
      cases h

theorem chkJ_ok {l : List Jb} (h : (chkJ l).1 = 0) : l.length ≤ 4000 ∧ (∀ x ∈ l, okJ x) ∧ chkJ l = (0, 0) := by
  unfold chkJ at h ⊢
  by_cases hn : 4000 < l.length
  · rw [if_pos hn] at h; cases h
  · rw [if_neg hn] at h ⊢
    exact ⟨by omega, chkFrom_ok l 0 h⟩
end Go.Proofs.YtccoobcggbbciaiGreatDoor.S8
namespace Go.Proofs.YtccoobcggbbciaiGreatDoor.S8
open Go.ChangeShapes Go.WideShapes Go.ChangeAt Go.RowKit

/-- What is less. -/
def cmpI (x y : Int) : Int := if x < y then -1 else if y < x then 1 else 0

def or3 (x y z : Int) : Int := if x ≠ 0 then x else if y ≠ 0 then y else z

/-- A job that is played. -/
structure En where
  j : Jb
  n : Int
  l : Int

def En.vals (x : En) : List Value := [.int .i64 x.j.k, .int .i64 x.j.a, .int .i64 x.j.c, .int .i64 x.j.d, .int .i64 x.j.p, .int .i64 x.n, .int .i64 x.l]

theorem En.len (x : En) : x.vals.length = 7 := rfl

theorem En.one {x : En} {u : Value} (h : u ∈ x.vals) : u.oneCell' = true := by
  simp only [En.vals, List.mem_cons, List.not_mem_nil, or_false] at h
  rcases h with rfl | rfl | rfl | rfl | rfl | rfl | rfl <;> rfl

def cfA (pol : Int) (x y : En) : Int := or3 (if pol = 1 then cmpI y.j.p x.j.p else cmpI x.j.d y.j.d) (cmpI x.j.a y.j.a) (cmpI x.n y.n)

/-- A world that has drawn, and has blocks more. -/
def Grown (w w' : World) : Prop := ∃ q os, w' = Go.Sort.grow (w.drewN q) os

theorem Grown.refl (w : World) : Grown w w := ⟨0, #[], by simp [World.drewN]⟩

theorem Grown.alloc {w w' : World} (h : Grown w w') (o : Obj) : Grown w (w'.alloc o) := by
  obtain ⟨q, os, rfl⟩ := h
  exact ⟨q, os.push o, by rw [Go.Sort.alloc_eq_grow, Go.Sort.grow_grow]; simp⟩

theorem grow_drewN (w : World) (os : Array Obj) (q : Nat) : (Go.Sort.grow w os).drewN q = Go.Sort.grow (w.drewN q) os := rfl

theorem Grown.drewN {w w' : World} (h : Grown w w') (n : Nat) : Grown w (w'.drewN n) := by
  obtain ⟨q, os, rfl⟩ := h
  exact ⟨q + n, os, by rw [grow_drewN, World.drewN_drewN]⟩

theorem Grown.trans {a b c : World} (h : Grown a b) (h' : Grown b c) : Grown a c := by
  obtain ⟨q, os, rfl⟩ := h
  obtain ⟨q', os', rfl⟩ := h'
  exact ⟨q + q', os ++ os', by rw [grow_drewN, World.drewN_drewN, Go.Sort.grow_grow]⟩

theorem Grown.drew {w w' : World} (h : Grown w w') : Grown w w'.drew := h.drewN 1

theorem isNaN_any (w : World) (x : Int) : Calls Tryz.prog 125 #[.int .i64 x] w fun r w' => r = .returned (.bool false) ∧ w' = w := by
  go_enter Tryz.func125, Tryz.ntmps125
  go_wp2
  go_ret
  exact ⟨by simp, rfl⟩

set_option maxRecDepth 20000 in
theorem Compare_any (w : World) (x y : Int) : Calls Tryz.prog 84 #[.int .i64 x, .int .i64 y] w fun r w' => r = .returned (.int .i64 (cmpI x y)) ∧ w' = w := by
  unfold cmpI
  by_cases h : x < y
  · rw [if_pos h]
    go_enter Tryz.func84, Tryz.ntmps84
    go_wp2_with (go_at_call 125; refine (isNaN_any _ _).mono ?_; rintro r w1 ⟨rfl, rfl⟩)
    go_ret
    exact ⟨rfl, rfl⟩
  · rw [if_neg h]
    by_cases h2 : y < x
    · rw [if_pos h2]
      go_enter Tryz.func84, Tryz.ntmps84
      go_wp2_with (go_at_call 125; refine (isNaN_any _ _).mono ?_; rintro r w1 ⟨rfl, rfl⟩)
      go_ret
      exact ⟨rfl, rfl⟩
    · rw [if_neg h2]
      go_enter Tryz.func84, Tryz.ntmps84
      go_wp2_with (go_at_call 125; refine (isNaN_any _ _).mono ?_; rintro r w1 ⟨rfl, rfl⟩)
      go_ret
      exact ⟨rfl, rfl⟩

set_option maxRecDepth 20000 in
theorem Or_any (w : World) (x y z : Int) (b : Nat) (h0 : w.cell? ⟨b, 0, none⟩ = some (.int .i64 x)) (h1 : w.cell? ⟨b, 1, none⟩ = some (.int .i64 y)) (h2 : w.cell? ⟨b, 2, none⟩ = some (.int .i64 z)) :
    Calls Tryz.prog 83 #[.slice (some ⟨b, 0, none⟩) 3 3] w fun r w' => r = .returned (.int .i64 (or3 x y z)) ∧ w' = w := by
  go_enter Tryz.func83, Tryz.ntmps83
  go_wp2_with fail
  go_loopw [8] (fun i wr => ∃ k : Nat, k ≤ 3 ∧ i = .int .i64 k ∧ wr = w ∧ (1 ≤ k → x = 0) ∧ (2 ≤ k → y = 0) ∧ (3 ≤ k → z = 0)) (fun i _ => 3 - (intOf i).toNat)
  case atStart => exact ⟨0, by omega, rfl, rfl, by omega, by omega, by omega⟩
  case round =>
    obtain ⟨k, hk, rfl, rfl, hx, hy, hz⟩ := hrel
    have : k = 0 ∨ k = 1 ∨ k = 2 ∨ k = 3 := by omega
    rcases this with rfl | rfl | rfl | rfl
    · clear hx hy hz
      by_cases e : x = 0
      · have e' : (x != 0) = false := by simp [e]
        have He : Hid (x = 0) := e
        clear e
        go_wp2_with fail
        exact ⟨⟨1, by omega, by simp, trivial, fun _ => He.out, by omega, by omega⟩, by simp [intOf]⟩
      · have e' : (x != 0) = true := by simp [e]
        go_wp2_with fail
        go_ret
        exact ⟨by simp [or3, e], rfl⟩
    · have Hx : Hid (x = 0) := hx (by omega)
      clear hx hy hz
      by_cases e : y = 0
      · have e' : (y != 0) = false := by simp [e]
        have He : Hid (y = 0) := e
        clear e
        go_wp2_with fail
        exact ⟨⟨2, by omega, by simp, trivial, fun _ => Hx.out, fun _ => He.out, by omega⟩, by simp [intOf]⟩
      · have e' : (y != 0) = true := by simp [e]
        go_wp2_with fail
        go_ret
        exact ⟨by simp [or3, Hx.out, e], rfl⟩
    · have Hx : Hid (x = 0 ∧ y = 0) := ⟨hx (by omega), hy (by omega)⟩
      clear hx hy hz
      by_cases e : z = 0
      · have e' : (z != 0) = false := by simp [e]
        have He : Hid (z = 0) := e
        clear e
        go_wp2_with fail
        exact ⟨⟨3, by omega, by simp, trivial, fun _ => Hx.out.1, fun _ => Hx.out.2, fun _ => He.out⟩, by simp [intOf]⟩
      · have e' : (z != 0) = true := by simp [e]
        go_wp2_with fail
        go_ret
        exact ⟨by simp [or3, Hx.out.1, Hx.out.2], rfl⟩
    · have Hx : Hid (x = 0 ∧ y = 0 ∧ z = 0) := ⟨hx (by omega), hy (by omega), hz (by omega)⟩
      clear hx hy hz
      go_wp2_with fail
      go_ret
      exact ⟨by simp [or3, Hx.out.1, Hx.out.2.1, Hx.out.2.2], rfl⟩
end Go.Proofs.YtccoobcggbbciaiGreatDoor.S8
