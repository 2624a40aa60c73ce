import Derived.Test.YtccoobcggbbciakDoorKA0
namespace Go.Proofs.YtccoobcggbbciakDoor
open Go.RowKit

/-- An event. -/
structure Ev where
  at_ : Int
  k : Int
  t : Int
  m : Int
  n : Int
deriving DecidableEq

def zeroE : Ev := ⟨0, 0, 0, 0, 0⟩

/-- What is written for a kind. -/
def wordE (k : Int) : List UInt8 :=
  if k = 1 then [99, 111, 109, 101] else if k = 2 then [114, 117, 110] else if k = 3 then [100, 111, 110, 101] else if k = 4 then [107, 105, 108, 108] else if k = 5 then [108, 97, 116, 101] else if k = 6 then [112, 117, 116] else []

def kindE (w : List UInt8) : Int :=
  if w = [99, 111, 109, 101] then 1 else if w = [114, 117, 110] then 2 else if w = [100, 111, 110, 101] then 3 else if w = [107, 105, 108, 108] then 4 else if w = [108, 97, 116, 101] then 5 else if w = [112, 117, 116] then 6 else 0

def tailE (e : Ev) : List Int := if e.k = 6 then [e.t, e.m, e.n] else [e.t, e.n]
def partsE (e : Ev) : List (List UInt8) := Lib.itoa e.at_ :: wordE e.k :: (tailE e).map Lib.itoa
def bodyE (e : Ev) : List UInt8 := glue 32 (partsE e)
def lineE (e : Ev) : List UInt8 := bodyE e ++ [10]

/-- May it stand in a log, looked at alone? -/
def standsE (e : Ev) : Prop := 1 ≤ e.k ∧ e.k ≤ 6 ∧ 0 ≤ e.at_ ∧ e.at_ ≤ 20000 ∧ 0 ≤ e.t ∧ e.t ≤ 7 ∧ (e.k = 6 → 0 ≤ e.m ∧ e.m ≤ 3) ∧ (e.k ≠ 6 → e.m = 0 ∧ 0 ≤ e.n ∧ e.n ≤ 3999)
instance (e : Ev) : Decidable (standsE e) := by unfold standsE; infer_instance

def inE (e : Ev) : Prop := -9223372036854775808 ≤ e.n ∧ e.n ≤ 9223372036854775807

theorem wordE_kind {k : Int} (h1 : 1 ≤ k) (h6 : k ≤ 6) : kindE (wordE k) = k ∧ (∀ b ∈ wordE k, b ≠ 32 ∧ b ≠ 10) := by
  have : k = 1 ∨ k = 2 ∨ k = 3 ∨ k = 4 ∨ k = 5 ∨ k = 6 := by omega
  rcases this with rfl | rfl | rfl | rfl | rfl | rfl <;> exact ⟨by decide, by decide⟩

theorem itoa_bytes (n : Int) : ∀ b ∈ Lib.itoa n, b ≠ 32 ∧ b ≠ 10 := by
  have key : ∀ u : Nat, ∀ b ∈ Lib.decDigits u, b ≠ 32 ∧ b ≠ 10 := fun u b hb => by
    have h := List.all_eq_true.1 (dec_spec u).1 b hb
    have h2 := (isD_iff b).1 h
    exact ⟨fun e => by subst e; have : (32 : UInt8).toNat = 32 := rfl; omega, fun e => by subst e; have : (10 : UInt8).toNat = 10 := rfl; omega⟩
  intro b hb
  unfold Lib.itoa at hb
  split at hb
  · rcases List.mem_cons.1 hb with rfl | h
    · exact ⟨by decide, by decide⟩
    · exact key _ b h
  · exact key _ b hb

theorem parts_clean {e : Ev} (h : standsE e) : ∀ p ∈ partsE e, ∀ b ∈ p, b ≠ 32 ∧ b ≠ 10 := by
  intro p hp
  unfold partsE at hp
  rcases List.mem_cons.1 hp with rfl | hp
  · exact itoa_bytes _
  · rcases List.mem_cons.1 hp with rfl | hp
    · exact (wordE_kind h.1 h.2.1).2
    · obtain ⟨x, -, rfl⟩ := List.mem_map.1 hp
      exact itoa_bytes x

theorem pcs_body {e : Ev} (h : standsE e) : pcs 32 (bodyE e) = partsE e :=
  pcs_glue 32 (partsE e) (by unfold partsE; simp) (fun p hp hm => (parts_clean h p hp 32 hm).1 rfl)

/-- A number of a word, if it is one. -/
def atoF (w : List UInt8) : Option Int := match Lib.atoiAll w with
  | .ok n => some n
  | _ => none

theorem atoF_itoa {n : Int} (h0 : -9223372036854775808 ≤ n) (h1 : n ≤ 9223372036854775807) : atoF (Lib.itoa n) = some n := by
  unfold atoF
  rw [atoi_itoa n h0 h1]

/-- The program's way to an event. -/
def candF (w : List UInt8) : Ev := match pcs 32 w with
  | a :: k :: r =>
    if kindE k = 6 then
      match a :: r with
      | [x, t, m, n] => match atoF x, atoF t, atoF m, atoF n with
        | some x, some t, some m, some n => ⟨x, 6, t, m, n⟩
        | _, _, _, _ => zeroE
      | _ => zeroE
    else
      match a :: r with
      | [x, t, n] => match atoF x, atoF t, atoF n with
        | some x, some t, some n => ⟨x, kindE k, t, 0, n⟩
        | _, _, _ => zeroE
      | _ => zeroE
  | _ => zeroE

theorem candF_body {e : Ev} (h : standsE e) (hi : inE e) : candF (bodyE e) = e := by
  unfold candF
  rw [pcs_body h]
  obtain ⟨h1, h6, ha0, ha1, ht0, ht1, hp, hq⟩ := h
  have hk := (wordE_kind h1 h6).1
  obtain ⟨a, k, t, m, n⟩ := e
  unfold inE at hi
  dsimp only at *
  unfold partsE tailE
  dsimp only
  rw [hk]
  by_cases h : k = 6
  · have hm := hp h
    rw [if_pos h, if_pos h]
    simp only [List.map_cons, List.map_nil]
    rw [atoF_itoa (by omega) (by omega), atoF_itoa (by omega) (by omega), atoF_itoa (by omega) (by omega), atoF_itoa hi.1 hi.2]
    rw [h]
  · have hm := hq h
    rw [if_neg h, if_neg h]
    simp only [List.map_cons, List.map_nil]
    rw [atoF_itoa (by omega) (by omega), atoF_itoa (by omega) (by omega), atoF_itoa (by omega) (by omega)]
    rw [hm.1]
end Go.Proofs.YtccoobcggbbciakDoor
