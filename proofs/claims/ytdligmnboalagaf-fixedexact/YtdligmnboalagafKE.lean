import Derived.Test.YtdligmnboalagafKF
import Derived.Test.YtdligmnboalagafCB
namespace Go.Proofs.Ytdligmnboalagaf
open Go.ChangeShapes Go.WideShapes Go.ChangeAt Go.RowKit

/- Sums over lists. -/
def sumL {α : Type} (F : α → Int) : List α → Int
  | [] => 0
  | x :: r => F x + sumL F r

theorem sumL_append {α : Type} (F : α → Int) : ∀ a b : List α, sumL F (a ++ b) = sumL F a + sumL F b
  | [], b => by simp [sumL]
  | x :: r, b => by rw [List.cons_append, sumL, sumL, sumL_append F r b]; omega

theorem sumN_front : ∀ (n : Nat) (f : Nat → Int), FK.sumN (n + 1) f = f 0 + FK.sumN n (fun i => f (i + 1))
  | 0, f => by show (0 : Int) + f 0 = f 0 + 0; omega
  | n + 1, f => by
    show FK.sumN (n + 1) f + f (n + 1) = f 0 + (FK.sumN n (fun i => f (i + 1)) + f (n + 1))
    rw [sumN_front n f]
    omega

theorem sumL_sumN {α : Type} (F : α → Int) (d : α) : ∀ l : List α, FK.sumN l.length (fun i => F (l.getD i d)) = sumL F l
  | [] => rfl
  | x :: r => by
    rw [List.length_cons, sumN_front, sumL, ← sumL_sumN F d r]
    rfl

/-- How often each comes. -/
theorem comes_weigh {l : List Ta} (hl : ∀ x ∈ l, stands x = true) (g : Nat → Int) : ∀ u : Nat, sumL (fun c : Co => g c.k.toNat) (comesUpto l u) = FK.sumN l.length (fun k => cnt (Tk l k) (u : Int) * g k)
  | 0 => by
    show (0 : Int) = _
    rw [FK.sumN_eq l.length (g := fun _ => 0) (fun k hk => by
      have e : cnt (Tk l k) ((0 : Nat) : Int) = 0 := by
        obtain ⟨-, -, -, -, -, -, -, -, o0, -⟩ := stands_t (stands_mem hl hk)
        unfold cnt
        rw [if_neg (by omega)]
      rw [e, Int.zero_mul])]
    have : ∀ n, FK.sumN n (fun _ => 0) = 0 := fun n => by
      induction n with
      | zero => rfl
      | succ n ih => unfold FK.sumN; rw [ih]; rfl
    rw [this]
  | u + 1 => by
    have hh : ∀ (r : List Ta) (i : Nat), sumL (fun c : Co => g c.k.toNat) (hitsFrom (u : Int) r i) = FK.sumN r.length (fun k => if hits (r.getD k ta0) (u : Int) then g (i + k) else 0) := by
      intro r
      induction r with
      | nil => intro i; rfl
      | cons x r ih =>
        intro i
        rw [List.length_cons, sumN_front, hitsFrom]
        have e2 : FK.sumN r.length (fun k => if hits ((x :: r).getD (k + 1) ta0) (u : Int) then g (i + (k + 1)) else 0) = FK.sumN r.length (fun k => if hits (r.getD k ta0) (u : Int) then g (i + 1 + k) else 0) := FK.sumN_eq _ (fun k _ => by
          rw [show i + (k + 1) = i + 1 + k by omega]; rfl)
        rw [e2, ← ih (i + 1)]
        by_cases hx : hits x (u : Int)
        · rw [if_pos hx, sumL]
          have e3 : (if hits ((x :: r).getD 0 ta0) (u : Int) then g (i + 0) else 0) = g i := if_pos hx
          rw [e3]
          simp
        · rw [if_neg hx]
          have e3 : (if hits ((x :: r).getD 0 ta0) (u : Int) then g (i + 0) else 0) = 0 := if_neg hx
          rw [e3]
          omega
    rw [comesUpto, sumL_append, comes_weigh hl g u, hh l 0, ← FK.sumN_add]
    refine FK.sumN_eq _ (fun k hk => ?_)
    have ht := (stands_t (stands_mem hl hk)).1
    have hs := cnt_step (x := Tk l k) (u := (u : Int)) ht
    rw [show (((u + 1 : Nat)) : Int) = (u : Int) + 1 by omega, hs, Int.add_mul, Nat.zero_add]
    show _ + (if hits (Tk l k) (u : Int) then g k else 0) = _
    by_cases hx : hits (Tk l k) (u : Int)
    · rw [if_pos hx, if_pos hx]; omega
    · rw [if_neg hx, if_neg hx]; omega

theorem comes_split {l : List Ta} (u : Nat) : ∀ d : Nat, ∃ r, comesUpto l (u + d) = comesUpto l u ++ r ∧ ∀ c ∈ r, (u : Int) ≤ c.a
  | 0 => ⟨[], by simp, fun c hc => by simp at hc⟩
  | d + 1 => by
    obtain ⟨r, h1, h2⟩ := comes_split (l := l) u d
    refine ⟨r ++ hitsFrom ((u + d : Nat) : Int) l 0, ?_, fun c hc => ?_⟩
    · rw [← Nat.add_assoc, comesUpto, h1, List.append_assoc]
    · rcases List.mem_append.1 hc with hc | hc
      · exact h2 c hc
      · have := (hits_mem l 0 c hc).1
        omega

theorem sumL_zero {α : Type} (F : α → Int) : ∀ l : List α, (∀ x ∈ l, F x = 0) → sumL F l = 0
  | [], _ => rfl
  | x :: r, h => by rw [sumL, h x List.mem_cons_self, sumL_zero F r (fun y hy => h y (List.mem_cons_of_mem _ hy))]; rfl
theorem sumL_eq {α : Type} {F G : α → Int} : ∀ l : List α, (∀ x ∈ l, F x = G x) → sumL F l = sumL G l
  | [], _ => rfl
  | x :: r, h => by rw [sumL, sumL, h x List.mem_cons_self, sumL_eq r (fun y hy => h y (List.mem_cons_of_mem _ hy))]

/-- What comes ahead of u, weighed. -/
theorem comes_ahead {l : List Ta} (hl : ∀ x ∈ l, stands x = true) (g : Nat → Int) {u E : Nat} (hu : u ≤ E) : sumL (fun c : Co => if c.a < (u : Int) then g c.k.toNat else 0) (comesUpto l E) = FK.sumN l.length (fun k => cnt (Tk l k) (u : Int) * g k) := by
  obtain ⟨r, h1, h2⟩ := comes_split (l := l) u (E - u)
  rw [show u + (E - u) = E by omega] at h1
  rw [h1, sumL_append, sumL_zero _ r (fun c hc => if_neg (by have := h2 c hc; omega)), Int.add_zero, ← comes_weigh hl g u]
  exact sumL_eq _ (fun c hc => if_pos (comes_mem u c hc).1)

/-- At one time: a job that is done just then, while those ahead of it were there, and nobody else. -/
theorem exact_done {n N : Nat} {r x : Nat → Int} {H : Nat → Prop} [DecidablePred H] {L : Nat → Nat → Int} (h : FK.Run n N r x H L) {i e : Nat} (hi : i < n) (hH : H i) (h0 : r i = 0) (he : e ≤ N) (hpos : ∀ t, t < e → 0 < L t i)
    (hdone : ∀ j, j < n → H j → r j < (e : Int) → L e j = 0) : FK.sumN n (fun j => if H j ∧ r j < (e : Int) then x j else 0) = (e : Int) := by
  have key : ∀ d, d ≤ e → FK.sumN n (fun j => if H j ∧ r j < (e : Int) then L d j else 0) = FK.sumN n (fun j => if H j ∧ r j < (e : Int) then x j else 0) - (d : Int) := by
    intro d
    induction d with
    | zero =>
      intro _
      rw [FK.sumN_eq n (g := fun j => if H j ∧ r j < (e : Int) then x j else 0) (fun j hj => by
        by_cases hc : H j ∧ r j < (e : Int)
        · rw [if_pos hc, if_pos hc, h.init j hj]
        · rw [if_neg hc, if_neg hc])]
      omega
    | succ d ih =>
      intro hd
      have hnone : ¬ ∀ j, j < n → H j → r j ≤ (d : Int) → L d j = 0 := fun hall => by
        have := hall i hi hH (by omega)
        have := hpos d (by omega)
        omega
      rcases h.step d (by omega) with ⟨-, h2⟩ | ⟨k, hk, hrk, hp, h3, h4, h5⟩
      · exact absurd h2 hnone
      · rcases h5 with h5 | h5
        · have hin : H k ∧ r k < (e : Int) := ⟨h5, by omega⟩
          rw [FK.sumN_one n (f := fun j => if H j ∧ r j < (e : Int) then L d j else 0) k hk (by rw [if_pos hin, if_pos hin, h3]) (fun j hj hne => by rw [h4 j hj hne]), ih (by omega)]
          omega
        · exact absurd h5 hnone
  have h1 := key e (Nat.le_refl e)
  have h2 : FK.sumN n (fun j => if H j ∧ r j < (e : Int) then L e j else 0) = 0 := by
    rw [FK.sumN_eq n (g := fun _ => 0) (fun j hj => by
      by_cases hc : H j ∧ r j < (e : Int)
      · rw [if_pos hc, hdone j hj hc.1 hc.2]
      · rw [if_neg hc])]
    have : ∀ m, FK.sumN m (fun _ => 0) = 0 := fun m => by
      induction m with
      | zero => rfl
      | succ m ih => unfold FK.sumN; rw [ih]; rfl
    exact this n
  omega
end Go.Proofs.Ytdligmnboalagaf
