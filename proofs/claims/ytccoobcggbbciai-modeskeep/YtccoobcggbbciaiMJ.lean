import Derived.Test.YtccoobcggbbciaiMI
namespace Go.Proofs.Ytccoobcggbbciai
open Go.ChangeShapes Go.WideShapes Go.ChangeAt Go.RowKit

/-- The place of the first of which it holds, from i on; -1: there is none. -/
def fstP (p : Nat → Bool) : List Nat → Nat → Int
  | [], _ => -1
  | x :: r, i => if p x then (i : Int) else fstP p r (i + 1)

theorem fstP_at {p : Nat → Bool} {l : List Nat} {x : Nat} {r : List Nat} {i : Nat} (h : l = x :: r) : fstP p l i = if p x then (i : Int) else fstP p r (i + 1) := by subst h; rfl

theorem fstP_spec (p : Nat → Bool) : ∀ (l : List Nat) (i : Nat), (fstP p l i = -1 ∧ ∀ x ∈ l, p x = false) ∨ ∃ k, k < l.length ∧ fstP p l i = ((i + k : Nat) : Int) ∧ (∀ x ∈ l.take k, p x = false) ∧ ∀ x, l[k]? = some x → p x = true
  | [], _ => .inl ⟨rfl, fun x hx => by simp at hx⟩
  | y :: r, i => by
    cases h : p y with
    | true => exact .inr ⟨0, by simp, by simp [fstP, h], fun x hx => by simp at hx, fun x hx => by simp at hx; rw [← hx]; exact h⟩
    | false =>
      rcases fstP_spec p r (i + 1) with ⟨e, ha⟩ | ⟨k, hk, e, ha, hb⟩
      · refine .inl ⟨by simp [fstP, h, e], fun x hx => ?_⟩
        rcases List.mem_cons.1 hx with rfl | hx
        · exact h
        · exact ha x hx
      · refine .inr ⟨k + 1, by simpa using hk, by simp only [fstP, h]; rw [if_neg (by decide), e]; congr 1; omega, fun x hx => ?_, fun x hx => hb x (by simpa using hx)⟩
        rw [List.take_succ_cons] at hx
        rcases List.mem_cons.1 hx with rfl | hx
        · exact h
        · exact ha x hx

/-- A row of numbers, as cells from an offset on. -/
def NumsAt (W : World) (b o : Nat) (xs : List Nat) : Prop := ∀ (j x : Nat), xs[j]? = some x → W.cell? ⟨b, o + j, none⟩ = some (.int .i64 (x : Int))

/-- All but one block stays, and what is new. -/
theorem grown_refl (W : World) (row : Option Nat) : W.grownBy W row := ⟨rfl, rfl, rfl, Nat.le_refl _, fun _ _ _ => rfl⟩
theorem grown_below {W W1 W2 : World} {row : Option Nat} (h : W.grownBy W1 row) (hb : Below W1.heap.size W1 W2) : W.grownBy W2 row :=
  ⟨hb.os.trans h.os, hb.tape.trans h.tape, hb.output.trans h.output, Nat.le_trans h.size hb.size, fun k hk hn => (hb.block k (Nat.lt_of_lt_of_le hk h.size)).trans (h.block k hk hn)⟩
theorem grown_set {W W1 : World} {b : Nat} (h : W.grownBy W1 (some b)) (i : Nat) (v : Value) : W.grownBy (W1.setCell ⟨b, i, none⟩ v) (some b) :=
  ⟨h.os, h.tape, h.output, by have := h.size; simpa using this, fun k hk hn => (Below.heap_setCell _ _ _ _ (fun e => hn (congrArg some e))).trans (h.block k hk hn)⟩

set_option maxRecDepth 20000 in
set_option maxHeartbeats 2000000 in
theorem Index1 (W : World) (ad : Option Addr) (cap pa pb : Nat) (xs : List Nat) (p : Nat → Bool) (hl : xs.length ≤ 100000) (hx : xs = [] ∨ ∃ b o, ad = some ⟨b, o, none⟩ ∧ NumsAt W b o xs) (HP : ∀ W', Below W.heap.size W W' → ∀ x ∈ xs, Calls Try.prog 75 #[.int .i64 (x : Int), .pointer (some ⟨pa, 0, none⟩), .pointer (some ⟨pb, 0, none⟩)] W' fun r w' => r = .returned (.bool (p x)) ∧ Below W'.heap.size W' w') :
    Calls Try.prog 94 #[.slice ad xs.length cap, .func (.func 75) #[] #[.pointer (some ⟨pa, 0, none⟩), .pointer (some ⟨pb, 0, none⟩)]] W fun r w' => r = .returned (.int .i64 (fstP p xs 0)) ∧ Below W.heap.size W w' := by
  have HR : Hid ((xs = [] ∨ ∃ b o, ad = some ⟨b, o, none⟩ ∧ NumsAt W b o xs) ∧ ∀ W', Below W.heap.size W W' → ∀ x ∈ xs, Calls Try.prog 75 #[.int .i64 (x : Int), .pointer (some ⟨pa, 0, none⟩), .pointer (some ⟨pb, 0, none⟩)] W' fun r w' => r = .returned (.bool (p x)) ∧ Below W'.heap.size W' w') := ⟨hx, HP⟩
  clear hx HP
  go_enter Try.func94, Try.ntmps94
  go_wp2_with fail
  go_loopw [8] (fun i wr => ∃ j : Nat, j ≤ xs.length ∧ i = .int .i64 j ∧ Below W.heap.size W wr ∧ fstP p xs 0 = fstP p (xs.drop j) j) (fun i _ => xs.length - (intOf i).toNat)
  case atStart => exact ⟨0, Nat.zero_le _, rfl, Below.refl _ _, rfl⟩
  case round =>
    obtain ⟨j, hj, rfl, hb, hf⟩ := hrel
    by_cases hjl : j < xs.length
    · obtain ⟨x, hx, hd⟩ := drop_at hjl
      rcases HR.out.1 with h | ⟨b, o, rfl, hn⟩
      · rw [h] at hjl; simp at hjl
      have c0 := below_cell hb (hn j x hx)
      have HC := HR.out.2 wr hb x (List.mem_of_getElem? hx)
      rw [hd, fstP] at hf
      have HF : Hid (fstP p xs 0 = if p x then (j : Int) else fstP p (xs.drop (j + 1)) (j + 1)) := hf
      have HB : Hid (Below W.heap.size W wr) := hb
      have hji : (j : Int) < (xs.length : Int) := by omega
      clear hf hb hn hx hd
      generalize hq : p x = q at *
      clear hq
      cases q with
      | true =>
        go_wp2_with (go_at_call 75; refine HC.mono ?_; rintro r w1 ⟨rfl, hb1⟩; have H1 : Hid (Below W.heap.size W w1) := below_seq HB.out hb1; clear hb1 HC)
        go_ret
        exact ⟨by rw [HF.out]; rfl, H1.out⟩
      | false =>
        go_wp2_with (go_at_call 75; refine HC.mono ?_; rintro r w1 ⟨rfl, hb1⟩; have H1 : Hid (Below W.heap.size W w1) := below_seq HB.out hb1; clear hb1 HC)
        exact ⟨⟨j + 1, by omega, by simp, H1.out, HF.out⟩, by simp [intOf]; omega⟩
    · have hje : j = xs.length := by omega
      subst hje
      have HF : Hid (fstP p xs 0 = -1 ∧ Below W.heap.size W wr) := ⟨by rw [hf, List.drop_length]; rfl, hb⟩
      clear hf hb hjl
      go_wp2_with fail
      go_ret
      exact ⟨by rw [HF.out.1]; rfl, HF.out.2⟩

set_option maxRecDepth 20000 in
set_option maxHeartbeats 2000000 in
theorem Index2 (W : World) (ad : Option Addr) (cap pa : Nat) (xs : List Nat) (p : Nat → Bool) (hl : xs.length ≤ 100000) (hx : xs = [] ∨ ∃ b o, ad = some ⟨b, o, none⟩ ∧ NumsAt W b o xs) (HP : ∀ W', Below W.heap.size W W' → ∀ x ∈ xs, Calls Try.prog 51 #[.int .i64 (x : Int), .pointer (some ⟨pa, 0, none⟩)] W' fun r w' => r = .returned (.bool (p x)) ∧ Below W'.heap.size W' w') :
    Calls Try.prog 94 #[.slice ad xs.length cap, .func (.func 51) #[] #[.pointer (some ⟨pa, 0, none⟩)]] W fun r w' => r = .returned (.int .i64 (fstP p xs 0)) ∧ Below W.heap.size W w' := by
  have HR : Hid ((xs = [] ∨ ∃ b o, ad = some ⟨b, o, none⟩ ∧ NumsAt W b o xs) ∧ ∀ W', Below W.heap.size W W' → ∀ x ∈ xs, Calls Try.prog 51 #[.int .i64 (x : Int), .pointer (some ⟨pa, 0, none⟩)] W' fun r w' => r = .returned (.bool (p x)) ∧ Below W'.heap.size W' w') := ⟨hx, HP⟩
  clear hx HP
  go_enter Try.func94, Try.ntmps94
  go_wp2_with fail
  go_loopw [8] (fun i wr => ∃ j : Nat, j ≤ xs.length ∧ i = .int .i64 j ∧ Below W.heap.size W wr ∧ fstP p xs 0 = fstP p (xs.drop j) j) (fun i _ => xs.length - (intOf i).toNat)
  case atStart => exact ⟨0, Nat.zero_le _, rfl, Below.refl _ _, rfl⟩
  case round =>
    obtain ⟨j, hj, rfl, hb, hf⟩ := hrel
    by_cases hjl : j < xs.length
    · obtain ⟨x, hx, hd⟩ := drop_at hjl
      rcases HR.out.1 with h | ⟨b, o, rfl, hn⟩
      · rw [h] at hjl; simp at hjl
      have c0 := below_cell hb (hn j x hx)
      have HC := HR.out.2 wr hb x (List.mem_of_getElem? hx)
      rw [hd, fstP] at hf
      have HF : Hid (fstP p xs 0 = if p x then (j : Int) else fstP p (xs.drop (j + 1)) (j + 1)) := hf
      have HB : Hid (Below W.heap.size W wr) := hb
      have hji : (j : Int) < (xs.length : Int) := by omega
      clear hf hb hn hx hd
      generalize hq : p x = q at *
      clear hq
      cases q with
      | true =>
        go_wp2_with (go_at_call 51; refine HC.mono ?_; rintro r w1 ⟨rfl, hb1⟩; have H1 : Hid (Below W.heap.size W w1) := below_seq HB.out hb1; clear hb1 HC)
        go_ret
        exact ⟨by rw [HF.out]; rfl, H1.out⟩
      | false =>
        go_wp2_with (go_at_call 51; refine HC.mono ?_; rintro r w1 ⟨rfl, hb1⟩; have H1 : Hid (Below W.heap.size W w1) := below_seq HB.out hb1; clear hb1 HC)
        exact ⟨⟨j + 1, by omega, by simp, H1.out, HF.out⟩, by simp [intOf]; omega⟩
    · have hje : j = xs.length := by omega
      subst hje
      have HF : Hid (fstP p xs 0 = -1 ∧ Below W.heap.size W wr) := ⟨by rw [hf, List.drop_length]; rfl, hb⟩
      clear hf hb hjl
      go_wp2_with fail
      go_ret
      exact ⟨by rw [HF.out.1]; rfl, HF.out.2⟩
end Go.Proofs.Ytccoobcggbbciai
