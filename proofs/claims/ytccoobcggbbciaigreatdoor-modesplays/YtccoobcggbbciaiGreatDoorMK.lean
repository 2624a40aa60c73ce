import Derived.Test.YtccoobcggbbciaiGreatDoorMI
import Derived.Lib.SliceRun
namespace Go.Proofs.YtccoobcggbbciaiGreatDoor
open Go.ChangeShapes Go.WideShapes Go.ChangeAt Go.RowKit

/-- The place of the first of which it holds, from i on; -1: there is none. -/
def fstP (p : Nat → Bool) : List Nat → Nat → Int
  | [], _ => -1
  | x :: r, i => if p x then (i : Int) else fstP p r (i + 1)

theorem fstP_at {p : Nat → Bool} {l : List Nat} {x : Nat} {r : List Nat} {i : Nat} (h : l = x :: r) : fstP p l i = if p x then (i : Int) else fstP p r (i + 1) := by subst h; rfl

theorem fstP_spec (p : Nat → Bool) : ∀ (l : List Nat) (i : Nat), (fstP p l i = -1 ∧ ∀ x ∈ l, p x = false) ∨ ∃ k, k < l.length ∧ fstP p l i = ((i + k : Nat) : Int) ∧ (∀ x ∈ l.take k, p x = false) ∧ ∀ x, l[k]? = some x → p x = true
  | [], _ => .inl ⟨rfl, fun x hx => by simp at hx⟩
  | y :: r, i => by
    cases h : p y with
    | true => exact .inr ⟨0, by simp, by simp [fstP, h], fun x hx => by simp at hx, fun x hx => by simp at hx; rw [← hx]; exact h⟩
    | false =>
      rcases fstP_spec p r (i + 1) with ⟨e, ha⟩ | ⟨k, hk, e, ha, hb⟩
      · refine .inl ⟨by simp [fstP, h, e], fun x hx => ?_⟩
        rcases List.mem_cons.1 hx with rfl | hx
        · exact h
        · exact ha x hx
      · refine .inr ⟨k + 1, by simpa using hk, by simp only [fstP, h]; rw [if_neg (by decide), e]; congr 1; omega, fun x hx => ?_, fun x hx => hb x (by simpa using hx)⟩
        rw [List.take_succ_cons] at hx
        rcases List.mem_cons.1 hx with rfl | hx
        · exact h
        · exact ha x hx

/-- A row of numbers, as cells from an offset on. -/
def NumsAt (W : World) (b o : Nat) (xs : List Nat) : Prop := ∀ (j x : Nat), xs[j]? = some x → W.cell? ⟨b, o + j, none⟩ = some (.int .i64 (x : Int))

/-- All but one block stays, and what is new. -/
theorem grown_refl (W : World) (row : Option Nat) : W.grownBy W row := ⟨rfl, rfl, rfl, Nat.le_refl _, fun _ _ _ => rfl⟩
theorem grown_below {W W1 W2 : World} {row : Option Nat} (h : W.grownBy W1 row) (hb : Below W1.heap.size W1 W2) : W.grownBy W2 row :=
  ⟨hb.os.trans h.os, hb.tape.trans h.tape, hb.output.trans h.output, Nat.le_trans h.size hb.size, fun k hk hn => (hb.block k (Nat.lt_of_lt_of_le hk h.size)).trans (h.block k hk hn)⟩
theorem grown_set {W W1 : World} {b : Nat} (h : W.grownBy W1 (some b)) (i : Nat) (v : Value) : W.grownBy (W1.setCell ⟨b, i, none⟩ v) (some b) :=
  ⟨h.os, h.tape, h.output, by have := h.size; simpa using this, fun k hk hn => (Below.heap_setCell _ _ _ _ (fun e => hn (congrArg some e))).trans (h.block k hk hn)⟩

set_option maxRecDepth 20000 in
set_option maxHeartbeats 2000000 in
theorem Index1 (W : World) (ad : Option Addr) (cap pa pb : Nat) (xs : List Nat) (p : Nat → Bool) (hl : xs.length ≤ 100000) (hx : xs = [] ∨ ∃ b o, ad = some ⟨b, o, none⟩ ∧ NumsAt W b o xs) (HP : ∀ W', Below W.heap.size W W' → ∀ x ∈ xs, Calls Tryz.prog 114 #[.int .i64 (x : Int), .pointer (some ⟨pa, 0, none⟩), .pointer (some ⟨pb, 0, none⟩)] W' fun r w' => r = .returned (.bool (p x)) ∧ Below W'.heap.size W' w') :
    Calls Tryz.prog 136 #[.slice ad xs.length cap, .func (.func 114) #[] #[.pointer (some ⟨pa, 0, none⟩), .pointer (some ⟨pb, 0, none⟩)]] W fun r w' => r = .returned (.int .i64 (fstP p xs 0)) ∧ Below W.heap.size W w' := by
  have HR : Hid ((xs = [] ∨ ∃ b o, ad = some ⟨b, o, none⟩ ∧ NumsAt W b o xs) ∧ ∀ W', Below W.heap.size W W' → ∀ x ∈ xs, Calls Tryz.prog 114 #[.int .i64 (x : Int), .pointer (some ⟨pa, 0, none⟩), .pointer (some ⟨pb, 0, none⟩)] W' fun r w' => r = .returned (.bool (p x)) ∧ Below W'.heap.size W' w') := ⟨hx, HP⟩
  clear hx HP
  go_enter Tryz.func136, Tryz.ntmps136
  go_wp2_with fail
  go_loopw [8] (fun i wr => ∃ j : Nat, j ≤ xs.length ∧ i = .int .i64 j ∧ Below W.heap.size W wr ∧ fstP p xs 0 = fstP p (xs.drop j) j) (fun i _ => xs.length - (intOf i).toNat)
  case atStart => exact ⟨0, Nat.zero_le _, rfl, Below.refl _ _, rfl⟩
  case round =>
    obtain ⟨j, hj, rfl, hb, hf⟩ := hrel
    by_cases hjl : j < xs.length
    · obtain ⟨x, hx, hd⟩ := drop_at hjl
      rcases HR.out.1 with h | ⟨b, o, rfl, hn⟩
      · rw [h] at hjl; simp at hjl
      have c0 := below_cell hb (hn j x hx)
      have HC := HR.out.2 wr hb x (List.mem_of_getElem? hx)
      rw [hd, fstP] at hf
      have HF : Hid (fstP p xs 0 = if p x then (j : Int) else fstP p (xs.drop (j + 1)) (j + 1)) := hf
      have HB : Hid (Below W.heap.size W wr) := hb
      have hji : (j : Int) < (xs.length : Int) := by omega
      clear hf hb hn hx hd
      generalize hq : p x = q at *
      clear hq
      cases q with
      | true =>
        go_wp2_with (go_at_call 114; refine HC.mono ?_; rintro r w1 ⟨rfl, hb1⟩; have H1 : Hid (Below W.heap.size W w1) := below_seq HB.out hb1; clear hb1 HC)
        go_ret
        exact ⟨by rw [HF.out]; rfl, H1.out⟩
      | false =>
        go_wp2_with (go_at_call 114; refine HC.mono ?_; rintro r w1 ⟨rfl, hb1⟩; have H1 : Hid (Below W.heap.size W w1) := below_seq HB.out hb1; clear hb1 HC)
        exact ⟨⟨j + 1, by omega, by simp, H1.out, HF.out⟩, by simp [intOf]; omega⟩
    · have hje : j = xs.length := by omega
      subst hje
      have HF : Hid (fstP p xs 0 = -1 ∧ Below W.heap.size W wr) := ⟨by rw [hf, List.drop_length]; rfl, hb⟩
      clear hf hb hjl
      go_wp2_with fail
      go_ret
      exact ⟨by rw [HF.out.1]; rfl, HF.out.2⟩

set_option maxRecDepth 20000 in
set_option maxHeartbeats 2000000 in
theorem Index2 (W : World) (ad : Option Addr) (cap pa : Nat) (xs : List Nat) (p : Nat → Bool) (hl : xs.length ≤ 100000) (hx : xs = [] ∨ ∃ b o, ad = some ⟨b, o, none⟩ ∧ NumsAt W b o xs) (HP : ∀ W', Below W.heap.size W W' → ∀ x ∈ xs, Calls Tryz.prog 71 #[.int .i64 (x : Int), .pointer (some ⟨pa, 0, none⟩)] W' fun r w' => r = .returned (.bool (p x)) ∧ Below W'.heap.size W' w') :
    Calls Tryz.prog 136 #[.slice ad xs.length cap, .func (.func 71) #[] #[.pointer (some ⟨pa, 0, none⟩)]] W fun r w' => r = .returned (.int .i64 (fstP p xs 0)) ∧ Below W.heap.size W w' := by
  have HR : Hid ((xs = [] ∨ ∃ b o, ad = some ⟨b, o, none⟩ ∧ NumsAt W b o xs) ∧ ∀ W', Below W.heap.size W W' → ∀ x ∈ xs, Calls Tryz.prog 71 #[.int .i64 (x : Int), .pointer (some ⟨pa, 0, none⟩)] W' fun r w' => r = .returned (.bool (p x)) ∧ Below W'.heap.size W' w') := ⟨hx, HP⟩
  clear hx HP
  go_enter Tryz.func136, Tryz.ntmps136
  go_wp2_with fail
  go_loopw [8] (fun i wr => ∃ j : Nat, j ≤ xs.length ∧ i = .int .i64 j ∧ Below W.heap.size W wr ∧ fstP p xs 0 = fstP p (xs.drop j) j) (fun i _ => xs.length - (intOf i).toNat)
  case atStart => exact ⟨0, Nat.zero_le _, rfl, Below.refl _ _, rfl⟩
  case round =>
    obtain ⟨j, hj, rfl, hb, hf⟩ := hrel
    by_cases hjl : j < xs.length
    · obtain ⟨x, hx, hd⟩ := drop_at hjl
      rcases HR.out.1 with h | ⟨b, o, rfl, hn⟩
      · rw [h] at hjl; simp at hjl
      have c0 := below_cell hb (hn j x hx)
      have HC := HR.out.2 wr hb x (List.mem_of_getElem? hx)
      rw [hd, fstP] at hf
      have HF : Hid (fstP p xs 0 = if p x then (j : Int) else fstP p (xs.drop (j + 1)) (j + 1)) := hf
      have HB : Hid (Below W.heap.size W wr) := hb
      have hji : (j : Int) < (xs.length : Int) := by omega
      clear hf hb hn hx hd
      generalize hq : p x = q at *
      clear hq
      cases q with
      | true =>
        go_wp2_with (go_at_call 71; refine HC.mono ?_; rintro r w1 ⟨rfl, hb1⟩; have H1 : Hid (Below W.heap.size W w1) := below_seq HB.out hb1; clear hb1 HC)
        go_ret
        exact ⟨by rw [HF.out]; rfl, H1.out⟩
      | false =>
        go_wp2_with (go_at_call 71; refine HC.mono ?_; rintro r w1 ⟨rfl, hb1⟩; have H1 : Hid (Below W.heap.size W w1) := below_seq HB.out hb1; clear hb1 HC)
        exact ⟨⟨j + 1, by omega, by simp, H1.out, HF.out⟩, by simp [intOf]; omega⟩
    · have hje : j = xs.length := by omega
      subst hje
      have HF : Hid (fstP p xs 0 = -1 ∧ Below W.heap.size W wr) := ⟨by rw [hf, List.drop_length]; rfl, hb⟩
      clear hf hb hjl
      go_wp2_with fail
      go_ret
      exact ⟨by rw [HF.out.1]; rfl, HF.out.2⟩
end Go.Proofs.YtccoobcggbbciaiGreatDoor
namespace Go.Proofs.YtccoobcggbbciaiGreatDoor
open Go.ChangeShapes Go.WideShapes Go.ChangeAt Go.RowKit

theorem grown_sets {W : World} {b : Nat} : ∀ (vs : List Value) (o : Nat) {W1 : World}, W.grownBy W1 (some b) → W.grownBy (W1.setCells b o vs) (some b)
  | [], _, _, h => h
  | v :: r, o, _, h => grown_sets r (o + 1) (grown_set h o v)

theorem sets_keep {b : Nat} {t : TypeId} {fr : Nat × Nat} : ∀ (vs : List Value) (o : Nat) {W : World} {cs : List Value}, W.heap[b]? = some (.cells cs.toArray t fr) → ∃ cs' : List Value, (W.setCells b o vs).heap[b]? = some (.cells cs'.toArray t fr) ∧ cs'.length = cs.length ∧ ∀ q, q < o → cs'[q]? = cs[q]?
  | [], _, _, cs, h => ⟨cs, h, rfl, fun _ _ => rfl⟩
  | v :: r, o, W, cs, h => by
    have h1 : (W.setCell ⟨b, o, none⟩ v).heap[b]? = some (.cells (cs.set o v).toArray t fr) := by
      rw [setCell_at h]
      simp
    obtain ⟨cs', a, e, k⟩ := sets_keep r (o + 1) h1
    exact ⟨cs', a, by rw [e]; simp, fun q hq => by rw [k q (by omega), List.getElem?_set_ne (by omega)]⟩

/-- Rows from which some are struck: so far. -/
structure Cut (W : World) (b o : Nat) (xs : List Nat) (p : Nat → Bool) (cs0 : List Value) (j : Nat) (wr : World) (cs : List Value) : Prop where
  grown : W.grownBy wr (some b)
  row : wr.heap[b]? = some (.cells cs.toArray 3 (0, 0))
  len : cs.length = cs0.length
  kept : ∀ (q x : Nat), ((xs.take j).filter (fun x => !p x))[q]? = some x → cs[o + q]? = some (.int .i64 (x : Int))
  rest : ∀ q, j ≤ q → cs[o + q]? = cs0[o + q]?

/-- The same at the end. -/
structure CutE (W : World) (b o : Nat) (xs : List Nat) (p : Nat → Bool) (cs0 : List Value) (wr : World) (cs : List Value) : Prop where
  grown : W.grownBy wr (some b)
  row : wr.heap[b]? = some (.cells cs.toArray 3 (0, 0))
  len : cs.length = cs0.length
  kept : ∀ (q x : Nat), (xs.filter (fun x => !p x))[q]? = some x → cs[o + q]? = some (.int .i64 (x : Int))

theorem Cut.done {W : World} {b o : Nat} {xs : List Nat} {p : Nat → Bool} {cs0 : List Value} {wr : World} {cs : List Value} (h : Cut W b o xs p cs0 xs.length wr cs) : CutE W b o xs p cs0 wr cs :=
  ⟨h.grown, h.row, h.len, fun q x hq => h.kept q x (by rw [List.take_length]; exact hq)⟩

theorem filter_snoc {xs : List Nat} {p : Nat → Bool} {j x : Nat} (h : xs[j]? = some x) : (xs.take (j + 1)).filter (fun x => !p x) = (xs.take j).filter (fun x => !p x) ++ (if p x then [] else [x]) := by
  rw [List.take_add_one, h]
  simp
  cases hp : p x <;> simp [hp]

theorem Cut.skip {W : World} {b o : Nat} {xs : List Nat} {p : Nat → Bool} {cs0 : List Value} {j x : Nat} {wr w1 : World} {cs : List Value} (h : Cut W b o xs p cs0 j wr cs) (hx : xs[j]? = some x) (hp : p x = true) (hb : Below wr.heap.size wr w1) : Cut W b o xs p cs0 (j + 1) w1 cs := by
  refine ⟨grown_below h.grown hb, (hb.block b (Array.getElem?_eq_some_iff.1 h.row).1).trans h.row, h.len, fun q y hq => h.kept q y ?_, fun q hq => h.rest q (by omega)⟩
  rw [filter_snoc hx, if_pos hp, List.append_nil] at hq
  exact hq

theorem Cut.keep {W : World} {b o : Nat} {xs : List Nat} {p : Nat → Bool} {cs0 : List Value} {j x : Nat} {wr w1 : World} {cs : List Value} (h : Cut W b o xs p cs0 j wr cs) (hx : xs[j]? = some x) (hp : p x = false) (hb : Below wr.heap.size wr w1) (ho : o + xs.length ≤ cs0.length) : Cut W b o xs p cs0 (j + 1) (w1.setCell ⟨b, o + ((xs.take j).filter (fun x => !p x)).length, none⟩ (.int .i64 (x : Int))) (cs.set (o + ((xs.take j).filter (fun x => !p x)).length) (.int .i64 (x : Int))) := by
  have hjl : j < xs.length := (List.getElem?_eq_some_iff.1 hx).1
  have hfl : ((xs.take j).filter (fun x => !p x)).length ≤ j := Nat.le_trans (List.length_filter_le _ _) (by rw [List.length_take]; omega)
  have hrow : w1.heap[b]? = some (.cells cs.toArray 3 (0, 0)) := (hb.block b (Array.getElem?_eq_some_iff.1 h.row).1).trans h.row
  have hlen := h.len
  refine ⟨grown_set (grown_below h.grown hb) _ _, by rw [setCell_at hrow]; simp, by simp [hlen], fun q y hq => ?_, fun q hq => ?_⟩
  · rw [filter_snoc hx, if_neg (by simp [hp])] at hq
    by_cases hc : q < ((xs.take j).filter (fun x => !p x)).length
    · rw [List.getElem?_append_left hc] at hq
      rw [List.getElem?_set_ne (by omega)]
      exact h.kept q y hq
    · rw [List.getElem?_append_right (by omega)] at hq
      obtain ⟨h1, h2⟩ := List.getElem?_eq_some_iff.1 hq
      simp at h1
      have e : q = ((xs.take j).filter (fun x => !p x)).length := by omega
      subst e
      simp at h2
      rw [List.getElem?_set_self (by omega), h2]
  · rw [List.getElem?_set_ne (by omega)]
    exact h.rest q (by omega)

/-- What is left of the row, as it lies. -/
def CutPost (W : World) (b o cap : Nat) (xs : List Nat) (p : Nat → Bool) (cs0 : List Value) (r : Ending) (w' : World) : Prop := r = .returned (.slice (some ⟨b, o, none⟩) (xs.filter (fun x => !p x)).length cap) ∧ ∃ cs, CutE W b o xs p cs0 w' cs

theorem cut_first {W w1 : World} {b o k : Nat} {xs : List Nat} {p : Nat → Bool} {cs0 : List Value} (hb : Below W.heap.size W w1) (hr : W.heap[b]? = some (.cells cs0.toArray 3 (0, 0))) (hn : ∀ (j x : Nat), xs[j]? = some x → cs0[o + j]? = some (.int .i64 (x : Int))) (ha : ∀ x ∈ xs.take k, p x = false) : Cut W b o xs p cs0 k w1 cs0 ∧ ((xs.take k).filter (fun x => !p x)) = xs.take k := by
  have e : ((xs.take k).filter (fun x => !p x)) = xs.take k := List.filter_eq_self.2 (fun x hx => by simp [ha x hx])
  refine ⟨⟨grown_below (grown_refl _ _) hb, (hb.block b (Array.getElem?_eq_some_iff.1 hr).1).trans hr, rfl, fun q x hq => ?_, fun _ _ => rfl⟩, e⟩
  rw [e, List.getElem?_take] at hq
  split at hq
  · exact hn q x hq
  · cases hq

set_option maxRecDepth 20000 in
set_option maxHeartbeats 2000000 in
theorem Delete1 (W : World) (b o cap pa pb : Nat) (xs : List Nat) (p : Nat → Bool) (cs0 : List Value) (hl : xs.length ≤ 100000) (hcap : xs.length ≤ cap) (hr : W.heap[b]? = some (.cells cs0.toArray 3 (0, 0))) (ho : o + xs.length ≤ cs0.length) (hn : ∀ (j x : Nat), xs[j]? = some x → cs0[o + j]? = some (.int .i64 (x : Int))) (HP : ∀ W', W.grownBy W' (some b) → ∀ x ∈ xs, Calls Tryz.prog 114 #[.int .i64 (x : Int), .pointer (some ⟨pa, 0, none⟩), .pointer (some ⟨pb, 0, none⟩)] W' fun r w' => r = .returned (.bool (p x)) ∧ Below W'.heap.size W' w') :
    Calls Tryz.prog 113 #[.slice (some ⟨b, o, none⟩) xs.length cap, .func (.func 114) #[] #[.pointer (some ⟨pa, 0, none⟩), .pointer (some ⟨pb, 0, none⟩)]] W (CutPost W b o cap xs p cs0) := by
  have HI := Index1 W (some ⟨b, o, none⟩) cap pa pb xs p hl (.inr ⟨b, o, rfl, fun j x hx => (cells_of (l := cs0) hr).1 _ _ (hn j x hx)⟩) (fun W' hb x hx => HP W' (grown_below (grown_refl _ _) hb) x hx)
  have HR : Hid ((∀ W', W.grownBy W' (some b) → ∀ x ∈ xs, Calls Tryz.prog 114 #[.int .i64 (x : Int), .pointer (some ⟨pa, 0, none⟩), .pointer (some ⟨pb, 0, none⟩)] W' fun r w' => r = .returned (.bool (p x)) ∧ Below W'.heap.size W' w') ∧ W.heap[b]? = some (.cells cs0.toArray 3 (0, 0)) ∧ (∀ (j x : Nat), xs[j]? = some x → cs0[o + j]? = some (.int .i64 (x : Int)))) := ⟨HP, hr, hn⟩
  clear HP hr hn
  rcases fstP_spec p xs 0 with ⟨e, hall⟩ | ⟨k, hk, e, hall, hhit⟩
  · rw [e] at HI
    clear e
    have HA : Hid (∀ x ∈ xs, p x = false) := hall
    clear hall
    go_enter Tryz.func113, Tryz.ntmps113
    go_wp2_with (go_at_call 136; refine HI.mono ?_; rintro r w1 ⟨rfl, hb1⟩; have H1 : Hid (Below W.heap.size W w1) := hb1; clear hb1 HI)
    go_ret
    have hc := cut_first (k := xs.length) H1.out HR.out.2.1 HR.out.2.2 (fun x hx => HA.out x (List.mem_of_mem_take hx))
    rw [List.take_length] at hc
    exact ⟨by rw [hc.2]; rfl, _, hc.1.done⟩
  · rw [e, Nat.zero_add] at HI
    obtain ⟨x0, hx0, -⟩ := drop_at hk
    have HA : Hid ((∀ x ∈ xs.take k, p x = false) ∧ xs[k]? = some x0 ∧ p x0 = true) := ⟨hall, hx0, hhit x0 hx0⟩
    clear hall hhit hx0 e
    have hne1 : ((k : Int) == -1) = false := beq_eq_false_iff_ne.2 (by omega)
    go_enter Tryz.func113, Tryz.ntmps113
    go_wp2_with (go_at_call 136; refine HI.mono ?_; rintro r w1 ⟨rfl, hb1⟩; have H1 : Hid (Below W.heap.size W w1) := hb1; clear hb1 HI)
    go_loopw [5, 6] (fun iv jv wr => ∃ (i j : Nat) (cs : List Value), i < j ∧ j ≤ xs.length ∧ iv = .int .i64 (i : Int) ∧ jv = .int .i64 (j : Int) ∧ Cut W b o xs p cs0 j wr cs ∧ ((xs.take j).filter (fun x => !p x)).length = i) (fun _ jv _ => xs.length - (intOf jv).toNat)
    case atStart =>
      have hc := cut_first (k := k) H1.out HR.out.2.1 HR.out.2.2 HA.out.1
      have hc2 := hc.1.skip HA.out.2.1 HA.out.2.2 (Below.refl _ _)
      refine ⟨k, k + 1, cs0, by omega, by omega, rfl, by simp, hc2, ?_⟩
      rw [filter_snoc HA.out.2.1, if_pos HA.out.2.2, List.append_nil, hc.2, List.length_take]
      omega
    case round =>
      obtain ⟨i, j, cs, hij, hj, rfl, rfl, hcut, hfl⟩ := hrel
      have hlen := hcut.len
      by_cases hjl : j < xs.length
      · obtain ⟨x, hx, -⟩ := drop_at hjl
        have cj : wr.cell? ⟨b, o + j, none⟩ = some (.int .i64 (x : Int)) := (cells_of (l := cs) hcut.row).1 _ _ ((hcut.rest j (Nat.le_refl _)).trans (HR.out.2.2 j x hx))
        have HC := HR.out.1 wr hcut.grown x (List.mem_of_getElem? hx)
        have HT : Hid (Cut W b o xs p cs0 j wr cs ∧ ((xs.take j).filter (fun x => !p x)).length = i ∧ xs[j]? = some x) := ⟨hcut, hfl, hx⟩
        have hji : (j : Int) < (xs.length : Int) := by omega
        clear hcut hfl hx
        cases hq : p x with
        | true =>
          rw [hq] at HC
          have HQ : Hid (p x = true) := hq
          clear hq
          go_wp2_with (go_at_call 114; refine HC.mono ?_; rintro r w2 ⟨rfl, hb2⟩; have H2 : Hid (Cut W b o xs p cs0 (j + 1) w2 cs) := HT.out.1.skip HT.out.2.2 HQ.out hb2; clear hb2 HC)
          exact ⟨⟨i, j + 1, cs, by omega, by omega, rfl, by simp, H2.out, by rw [filter_snoc HT.out.2.2, if_pos HQ.out, List.append_nil]; exact HT.out.2.1⟩, by simp [intOf]; omega⟩
        | false =>
          rw [hq] at HC
          have HQ : Hid (p x = false) := hq
          clear hq
          have hii : (i : Int) < (xs.length : Int) := by omega
          have hi1 : (i : Int) + 1 < 2147483648 := by omega
          have hj1 : (j : Int) + 1 < 2147483648 := by omega
          have hir : o + i < cs.length := by omega
          go_wp2_with (go_at_call 114; refine HC.mono ?_; rintro r w2 ⟨rfl, hb2⟩; have H2 := HT.out.1.keep HT.out.2.2 HQ.out hb2 ho; rw [HT.out.2.1] at H2; have H3 : Hid (Cut W b o xs p cs0 (j + 1) (w2.setCell ⟨b, o + i, none⟩ (.int .i64 (x : Int))) (cs.set (o + i) (.int .i64 (x : Int)))) := H2; have hrw := (hb2.block b (Array.getElem?_eq_some_iff.1 HT.out.1.row).1).trans HT.out.1.row; obtain ⟨av, af, al⟩ := cells_of (l := cs) hrw; have ci := av (o + i) _ (List.getElem?_eq_getElem hir); have fi := af (o + i); clear hb2 HC H2 hrw av af)
          exact ⟨⟨i + 1, j + 1, _, by omega, by omega, by simp, by simp, H3.out, by rw [filter_snoc HT.out.2.2, if_neg (by simp [HQ.out]), List.length_append, HT.out.2.1]; rfl⟩, by simp [intOf]; omega⟩
      · have hje : j = xs.length := by omega
        subst hje
        have hii : (i : Int) < (xs.length : Int) := by omega
        have hci : ¬ cap = i := by omega
        obtain ⟨av, af, al⟩ := cells_of (l := cs) hcut.row
        have hcl : ∀ ty, (Builtin.clear_ #[24] ty #[.slice (some ⟨b, o + i, none⟩) (xs.length - i) (cap - i)]).run Tryz.prog wr = .ok (.tuple #[]) (wr.setCells b (o + i) (List.replicate (xs.length - i) (.int .i64 0))) :=
          fun ty => Lib.run_clear_slice wr _ 3 ty _ Tryz.underlying24 (fun _ => by kernel_rfl) rfl rfl b (o + i) _ _ (by omega) (fun t ht => by rw [av (o + i + t) _ (List.getElem?_eq_getElem (by omega))]; rfl) (fun t ht => af _)
        obtain ⟨cs', s1, s2, s3⟩ := sets_keep (List.replicate (xs.length - i) (.int .i64 0)) (o + i) hcut.row
        have HE : Hid (CutE W b o xs p cs0 (wr.setCells b (o + i) (List.replicate (xs.length - i) (.int .i64 0))) cs' ∧ (xs.filter (fun x => !p x)).length = i) := by
          rw [List.take_length] at hfl
          refine ⟨⟨grown_sets _ _ hcut.grown, s1, s2.trans hcut.len, fun q x hq => ?_⟩, hfl⟩
          have hk := hcut.kept q x (by rw [List.take_length]; exact hq)
          have := (List.getElem?_eq_some_iff.1 hq).1
          rw [s3 _ (by omega)]
          exact hk
        clear s1 s2 s3 av af hcut hfl
        go_wp2_with fail
        go_ret
        exact ⟨by rw [HE.out.2]; rfl, _, HE.out.1⟩

set_option maxRecDepth 20000 in
set_option maxHeartbeats 2000000 in
theorem Delete2 (W : World) (b o cap pa : Nat) (xs : List Nat) (p : Nat → Bool) (cs0 : List Value) (hl : xs.length ≤ 100000) (hcap : xs.length ≤ cap) (hr : W.heap[b]? = some (.cells cs0.toArray 3 (0, 0))) (ho : o + xs.length ≤ cs0.length) (hn : ∀ (j x : Nat), xs[j]? = some x → cs0[o + j]? = some (.int .i64 (x : Int))) (HP : ∀ W', W.grownBy W' (some b) → ∀ x ∈ xs, Calls Tryz.prog 71 #[.int .i64 (x : Int), .pointer (some ⟨pa, 0, none⟩)] W' fun r w' => r = .returned (.bool (p x)) ∧ Below W'.heap.size W' w') :
    Calls Tryz.prog 113 #[.slice (some ⟨b, o, none⟩) xs.length cap, .func (.func 71) #[] #[.pointer (some ⟨pa, 0, none⟩)]] W (CutPost W b o cap xs p cs0) := by
  have HI := Index2 W (some ⟨b, o, none⟩) cap pa xs p hl (.inr ⟨b, o, rfl, fun j x hx => (cells_of (l := cs0) hr).1 _ _ (hn j x hx)⟩) (fun W' hb x hx => HP W' (grown_below (grown_refl _ _) hb) x hx)
  have HR : Hid ((∀ W', W.grownBy W' (some b) → ∀ x ∈ xs, Calls Tryz.prog 71 #[.int .i64 (x : Int), .pointer (some ⟨pa, 0, none⟩)] W' fun r w' => r = .returned (.bool (p x)) ∧ Below W'.heap.size W' w') ∧ W.heap[b]? = some (.cells cs0.toArray 3 (0, 0)) ∧ (∀ (j x : Nat), xs[j]? = some x → cs0[o + j]? = some (.int .i64 (x : Int)))) := ⟨HP, hr, hn⟩
  clear HP hr hn
  rcases fstP_spec p xs 0 with ⟨e, hall⟩ | ⟨k, hk, e, hall, hhit⟩
  · rw [e] at HI
    clear e
    have HA : Hid (∀ x ∈ xs, p x = false) := hall
    clear hall
    go_enter Tryz.func113, Tryz.ntmps113
    go_wp2_with (go_at_call 136; refine HI.mono ?_; rintro r w1 ⟨rfl, hb1⟩; have H1 : Hid (Below W.heap.size W w1) := hb1; clear hb1 HI)
    go_ret
    have hc := cut_first (k := xs.length) H1.out HR.out.2.1 HR.out.2.2 (fun x hx => HA.out x (List.mem_of_mem_take hx))
    rw [List.take_length] at hc
    exact ⟨by rw [hc.2]; rfl, _, hc.1.done⟩
  · rw [e, Nat.zero_add] at HI
    obtain ⟨x0, hx0, -⟩ := drop_at hk
    have HA : Hid ((∀ x ∈ xs.take k, p x = false) ∧ xs[k]? = some x0 ∧ p x0 = true) := ⟨hall, hx0, hhit x0 hx0⟩
    clear hall hhit hx0 e
    have hne1 : ((k : Int) == -1) = false := beq_eq_false_iff_ne.2 (by omega)
    go_enter Tryz.func113, Tryz.ntmps113
    go_wp2_with (go_at_call 136; refine HI.mono ?_; rintro r w1 ⟨rfl, hb1⟩; have H1 : Hid (Below W.heap.size W w1) := hb1; clear hb1 HI)
    go_loopw [5, 6] (fun iv jv wr => ∃ (i j : Nat) (cs : List Value), i < j ∧ j ≤ xs.length ∧ iv = .int .i64 (i : Int) ∧ jv = .int .i64 (j : Int) ∧ Cut W b o xs p cs0 j wr cs ∧ ((xs.take j).filter (fun x => !p x)).length = i) (fun _ jv _ => xs.length - (intOf jv).toNat)
    case atStart =>
      have hc := cut_first (k := k) H1.out HR.out.2.1 HR.out.2.2 HA.out.1
      have hc2 := hc.1.skip HA.out.2.1 HA.out.2.2 (Below.refl _ _)
      refine ⟨k, k + 1, cs0, by omega, by omega, rfl, by simp, hc2, ?_⟩
      rw [filter_snoc HA.out.2.1, if_pos HA.out.2.2, List.append_nil, hc.2, List.length_take]
      omega
    case round =>
      obtain ⟨i, j, cs, hij, hj, rfl, rfl, hcut, hfl⟩ := hrel
      have hlen := hcut.len
      by_cases hjl : j < xs.length
      · obtain ⟨x, hx, -⟩ := drop_at hjl
        have cj : wr.cell? ⟨b, o + j, none⟩ = some (.int .i64 (x : Int)) := (cells_of (l := cs) hcut.row).1 _ _ ((hcut.rest j (Nat.le_refl _)).trans (HR.out.2.2 j x hx))
        have HC := HR.out.1 wr hcut.grown x (List.mem_of_getElem? hx)
        have HT : Hid (Cut W b o xs p cs0 j wr cs ∧ ((xs.take j).filter (fun x => !p x)).length = i ∧ xs[j]? = some x) := ⟨hcut, hfl, hx⟩
        have hji : (j : Int) < (xs.length : Int) := by omega
        clear hcut hfl hx
        cases hq : p x with
        | true =>
          rw [hq] at HC
          have HQ : Hid (p x = true) := hq
          clear hq
          go_wp2_with (go_at_call 71; refine HC.mono ?_; rintro r w2 ⟨rfl, hb2⟩; have H2 : Hid (Cut W b o xs p cs0 (j + 1) w2 cs) := HT.out.1.skip HT.out.2.2 HQ.out hb2; clear hb2 HC)
          exact ⟨⟨i, j + 1, cs, by omega, by omega, rfl, by simp, H2.out, by rw [filter_snoc HT.out.2.2, if_pos HQ.out, List.append_nil]; exact HT.out.2.1⟩, by simp [intOf]; omega⟩
        | false =>
          rw [hq] at HC
          have HQ : Hid (p x = false) := hq
          clear hq
          have hii : (i : Int) < (xs.length : Int) := by omega
          have hi1 : (i : Int) + 1 < 2147483648 := by omega
          have hj1 : (j : Int) + 1 < 2147483648 := by omega
          have hir : o + i < cs.length := by omega
          go_wp2_with (go_at_call 71; refine HC.mono ?_; rintro r w2 ⟨rfl, hb2⟩; have H2 := HT.out.1.keep HT.out.2.2 HQ.out hb2 ho; rw [HT.out.2.1] at H2; have H3 : Hid (Cut W b o xs p cs0 (j + 1) (w2.setCell ⟨b, o + i, none⟩ (.int .i64 (x : Int))) (cs.set (o + i) (.int .i64 (x : Int)))) := H2; have hrw := (hb2.block b (Array.getElem?_eq_some_iff.1 HT.out.1.row).1).trans HT.out.1.row; obtain ⟨av, af, al⟩ := cells_of (l := cs) hrw; have ci := av (o + i) _ (List.getElem?_eq_getElem hir); have fi := af (o + i); clear hb2 HC H2 hrw av af)
          exact ⟨⟨i + 1, j + 1, _, by omega, by omega, by simp, by simp, H3.out, by rw [filter_snoc HT.out.2.2, if_neg (by simp [HQ.out]), List.length_append, HT.out.2.1]; rfl⟩, by simp [intOf]; omega⟩
      · have hje : j = xs.length := by omega
        subst hje
        have hii : (i : Int) < (xs.length : Int) := by omega
        have hci : ¬ cap = i := by omega
        obtain ⟨av, af, al⟩ := cells_of (l := cs) hcut.row
        have hcl : ∀ ty, (Builtin.clear_ #[24] ty #[.slice (some ⟨b, o + i, none⟩) (xs.length - i) (cap - i)]).run Tryz.prog wr = .ok (.tuple #[]) (wr.setCells b (o + i) (List.replicate (xs.length - i) (.int .i64 0))) :=
          fun ty => Lib.run_clear_slice wr _ 3 ty _ Tryz.underlying24 (fun _ => by kernel_rfl) rfl rfl b (o + i) _ _ (by omega) (fun t ht => by rw [av (o + i + t) _ (List.getElem?_eq_getElem (by omega))]; rfl) (fun t ht => af _)
        obtain ⟨cs', s1, s2, s3⟩ := sets_keep (List.replicate (xs.length - i) (.int .i64 0)) (o + i) hcut.row
        have HE : Hid (CutE W b o xs p cs0 (wr.setCells b (o + i) (List.replicate (xs.length - i) (.int .i64 0))) cs' ∧ (xs.filter (fun x => !p x)).length = i) := by
          rw [List.take_length] at hfl
          refine ⟨⟨grown_sets _ _ hcut.grown, s1, s2.trans hcut.len, fun q x hq => ?_⟩, hfl⟩
          have hk := hcut.kept q x (by rw [List.take_length]; exact hq)
          have := (List.getElem?_eq_some_iff.1 hq).1
          rw [s3 _ (by omega)]
          exact hk
        clear s1 s2 s3 av af hcut hfl
        go_wp2_with fail
        go_ret
        exact ⟨by rw [HE.out.2]; rfl, _, HE.out.1⟩
end Go.Proofs.YtccoobcggbbciaiGreatDoor
