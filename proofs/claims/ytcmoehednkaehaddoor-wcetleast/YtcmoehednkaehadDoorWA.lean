import Derived.Test.YtcmoehednkaehadDoorMCost
import Derived.Test.YtcmoehednkaehadDoorWK
import Derived.Test.YtcmoehednkaehadDoorWG
namespace Go.Proofs.YtcmoehednkaehadDoor
open Go.ChangeShapes Go.WideShapes Go.ChangeAt Go.RowKit

/-- A row of numbers, wherever. -/
def RowI (w : World) (ad : Option Addr) (n : Nat) (R : Nat → Int) : Prop := n = 0 ∨ ∃ b o, ad = some ⟨b, o, none⟩ ∧ ∀ j, j < n → w.cell? ⟨b, o + j, none⟩ = some (.int .i64 (R j))

theorem RowI.below {w w' : World} {ad : Option Addr} {n : Nat} {R : Nat → Int} (h : RowI w ad n R) (hb : Below w.heap.size w w') : RowI w' ad n R := by
  rcases h with h | ⟨b, o, h2, h3⟩
  · exact .inl h
  · exact .inr ⟨b, o, h2, fun j hj => below_cell hb (h3 j hj)⟩

/-- What told knows: where the list lies. -/
structure ToldAt (w : World) (p : Nat) (n : Nat) (R : Nat → Int) : Prop where
  box : ∃ ad c, w.cell? ⟨p, 0, none⟩ = some (.slice ad n c) ∧ n ≤ c ∧ RowI w ad n R

theorem ToldAt.below {w w' : World} {p n : Nat} {R : Nat → Int} (h : ToldAt w p n R) (hb : Below w.heap.size w w') : ToldAt w' p n R := by
  obtain ⟨ad, c, h1, h2, h3⟩ := h.box
  exact ⟨ad, c, below_cell hb h1, h2, h3.below hb⟩

set_option maxRecDepth 20000 in
set_option maxHeartbeats 4000000 in
theorem told1_same (w : World) (p n : Nat) (R : Nat → Int) (k : Nat) (hn : n ≤ 2000) (hk : k ≤ n) (h0 : R n = 0) (ht : ToldAt w p n R) : Calls Tryd.prog 69 #[.int .i64 k, .pointer (some ⟨p, 0, none⟩)] w fun r w' => r = .returned (.int .i64 (R k)) ∧ w' = w := by
  obtain ⟨ad, c, hb, hc, hr⟩ := ht.box
  clear ht
  have hlt : p < w.heap.size := World.block_lt_of_cell? _ _ hb
  by_cases e : k = n
  · subst e
    rw [h0]
    go_enter Tryd.func69, Tryd.ntmps69
    go_wp2_with fail
    go_ret
    exact ⟨rfl, rfl⟩
  · have hkn : k < n := by omega
    rcases hr with hr | ⟨b, o, rfl, hr⟩
    · omega
    have hck := hr k hkn
    generalize R k = z at *
    have hki : (k : Int) < (n : Int) := by omega
    have hne : ¬ ((k : Int) = (n : Int)) := by omega
    clear hr
    go_enter Tryd.func69, Tryd.ntmps69
    go_wp2_with fail
    go_ret
    exact ⟨rfl, rfl⟩

theorem told1_any (w : World) (p n : Nat) (R : Nat → Int) (k : Nat) (hn : n ≤ 2000) (hk : k ≤ n) (h0 : R n = 0) (ht : ToldAt w p n R) : Calls Tryd.prog 69 #[.int .i64 k, .pointer (some ⟨p, 0, none⟩)] w fun r w' => r = .returned (.int .i64 (R k)) ∧ Below w.heap.size w w' :=
  (told1_same w p n R k hn hk h0 ht).mono fun _ _ ⟨h1, h2⟩ => ⟨h1, by rw [h2]; exact Below.refl _ _⟩

set_option maxRecDepth 20000 in
theorem told_any (w : World) (ad : Option Addr) (n c : Nat) (R : Nat → Int) (hc : n ≤ c) (hr : RowI w ad n R) : Calls Tryd.prog 35 #[.slice ad n c] w fun r w' => ∃ p, w.heap.size ≤ p ∧ r = .returned (.func (Fn.func 69) #[] #[.pointer (some ⟨p, 0, none⟩)]) ∧ ToldAt w' p n R ∧ Below w.heap.size w w' := by
  have HR : Hid (RowI w ad n R) := hr
  clear hr
  go_enter Tryd.func35, Tryd.ntmps35
  go_wp2_with fail
  go_ret
  exact ⟨_, Nat.le_refl _, rfl, ⟨_, _, by go_simp, hc, HR.out.below (below_new _ _)⟩, below_new _ _⟩

/-- Is it no number that may be left? -/
def offB (z : Int) : Bool := decide (z < 0 ∨ 1099511627776 < z)

set_option maxRecDepth 20000 in
theorem off_any (w : World) (z : Int) : Calls Tryd.prog 34 #[.int .i64 z] w fun r w' => r = .returned (.bool (offB z)) ∧ Below w.heap.size w w' := by
  unfold offB
  by_cases h1 : z < 0
  · rw [decide_eq_true (.inl h1)]
    go_enter Tryd.func34, Tryd.ntmps34
    go_wp2_with fail
    go_ret
    exact ⟨rfl, Below.refl _ _⟩
  by_cases h2 : 1099511627776 < z
  · rw [decide_eq_true (.inr h2)]
    go_enter Tryd.func34, Tryd.ntmps34
    go_wp2_with fail
    go_ret
    exact ⟨rfl, Below.refl _ _⟩
  · rw [decide_eq_false (by omega)]
    go_enter Tryd.func34, Tryd.ntmps34
    go_wp2_with fail
    go_ret
    exact ⟨rfl, Below.refl _ _⟩

/-- Which is the first, from a number on. -/
def idxI (R : Nat → Int) (n : Nat) : Nat → Nat → Int
  | 0, _ => -1
  | d + 1, k => if offB (R k) = true then (k : Int) else idxI R n d (k + 1)

theorem idxI_neg (R : Nat → Int) (n : Nat) : ∀ (d k : Nat), (∀ j, k ≤ j → j < k + d → 0 ≤ R j ∧ R j ≤ 1099511627776) → idxI R n d k = -1
  | 0, _, _ => rfl
  | d + 1, k, h => by
    have := h k (by omega) (by omega)
    rw [idxI, if_neg (by unfold offB; simp; omega)]
    exact idxI_neg R n d (k + 1) fun j h1 h2 => h j (by omega) (by omega)

theorem idxI_pos (R : Nat → Int) (n : Nat) : ∀ (d k : Nat), ¬ (∀ j, k ≤ j → j < k + d → 0 ≤ R j ∧ R j ≤ 1099511627776) → 0 ≤ idxI R n d k
  | 0, k, h => absurd (fun j h1 h2 => by omega) h
  | d + 1, k, h => by
    rw [idxI]
    split
    · omega
    · rename_i e
      refine idxI_pos R n d (k + 1) fun hh => h fun j h1 h2 => ?_
      by_cases ej : j = k
      · subst ej
        unfold offB at e
        simp at e
        omega
      · exact hh j (by omega) (by omega)

set_option maxRecDepth 20000 in
set_option maxHeartbeats 2000000 in
theorem index_off (w : World) (ad : Option Addr) (n c : Nat) (R : Nat → Int) (hn : n ≤ 2000) (hc : n ≤ c) (hr : RowI w ad n R) :
    Calls Tryd.prog 68 #[.slice ad n c, .func (Fn.func 34) #[] #[]] w fun r w' => r = .returned (.int .i64 (idxI R n n 0)) ∧ Below w.heap.size w w' := by
  have HR : Hid (RowI w ad n R) := hr
  clear hr
  go_enter Tryd.func68, Tryd.ntmps68
  go_wp2_with fail
  go_loopw [8] (fun i wr => ∃ j : Nat, j ≤ n ∧ i = .int .i64 j ∧ Below w.heap.size w wr ∧ idxI R n (n - j) j = idxI R n n 0) (fun i _ => n - (intOf i).toNat)
  case atStart => exact ⟨0, Nat.zero_le _, rfl, Below.refl _ _, rfl⟩
  case round =>
    obtain ⟨j, hj, rfl, hg, hac⟩ := hrel
    have HG : Hid (Below w.heap.size w wr) := hg
    by_cases hjl : j < n
    · rcases HR.out.below hg with h | ⟨b, o, rfl, hr1⟩
      · omega
      have y0 := hr1 j hjl
      have hji : (j : Int) < (n : Int) := by omega
      have HC := off_any wr (R j)
      obtain ⟨d, hd⟩ : ∃ d, n - j = d + 1 := ⟨n - j - 1, by omega⟩
      rw [hd, idxI] at hac
      rcases hp : offB (R j) with _ | _
      · rw [hp] at hac HC
        have hac' : idxI R n (n - (j + 1)) (j + 1) = idxI R n n 0 := by rw [show n - (j + 1) = d by omega]; simpa using hac
        have HE : Hid (idxI R n (n - (j + 1)) (j + 1) = idxI R n n 0) := hac'
        generalize R j = z at *
        clear hac' hac hd hr1 hg hp
        go_wp2_with (go_at_call 34; refine HC.mono ?_; rintro r w5 ⟨rfl, hb5⟩; have H5 : Hid (Below w.heap.size w w5) := below_seq HG.out hb5; clear hb5 HC)
        exact ⟨⟨j + 1, by omega, by simp, H5.out, HE.out⟩, by simp [intOf]; omega⟩
      · rw [hp] at hac HC
        have hac' : (j : Int) = idxI R n n 0 := by simpa using hac
        have HE : Hid ((j : Int) = idxI R n n 0) := hac'
        generalize R j = z at *
        clear hac' hac hd hr1 hg hp
        go_wp2_with (go_at_call 34; refine HC.mono ?_; rintro r w5 ⟨rfl, hb5⟩; have H5 : Hid (Below w.heap.size w w5) := below_seq HG.out hb5; clear hb5 HC)
        go_ret
        rw [← HE.out]
        exact ⟨rfl, H5.out⟩
    · have hje : j = n := by omega
      subst hje
      have HE : Hid ((-1 : Int) = idxI R j j 0) := by rw [Nat.sub_self] at hac; exact hac
      clear hac hg
      go_wp2_with fail
      go_ret
      rw [← HE.out]
      exact ⟨rfl, HG.out⟩

set_option maxRecDepth 20000 in
theorem contains_off (w : World) (ad : Option Addr) (n c : Nat) (R : Nat → Int) (hn : n ≤ 2000) (hc : n ≤ c) (hr : RowI w ad n R) :
    Calls Tryd.prog 33 #[.slice ad n c, .func (Fn.func 34) #[] #[]] w fun r w' => r = .returned (.bool (decide (0 ≤ idxI R n n 0))) ∧ Below w.heap.size w w' := by
  have HC := index_off w ad n c R hn hc hr
  clear hr
  generalize idxI R n n 0 = z at *
  go_enter Tryd.func33, Tryd.ntmps33
  go_wp2_with (go_at_call 68; refine HC.mono ?_; rintro r w1 ⟨rfl, hb1⟩; have H1 : Hid (Below w.heap.size w w1) := hb1; clear hb1 HC)
  go_ret
  exact ⟨rfl, H1.out⟩

end Go.Proofs.YtcmoehednkaehadDoor
