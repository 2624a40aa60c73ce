import Derived.Test.YtccoobcggbbciamKL1
import Derived.Test.YtccoobcggbbciamRows
import Derived.ChangeArms
import Derived.OpenShut
namespace Go.Proofs.Ytccoobcggbbciam
open Go.ChangeShapes Go.WideShapes Go.ChangeAt Go.RowKit

theorem cellsI : Try.prog.cellsOf 3 = 1 := by kernel_rfl

section
variable {H : Type} {enc : TypeId × Value → H} {w : World} {sp : Nat → Bool} {held : Bool}

/-- A cell that is there lies at a plain address. -/
theorem plain_addr {w : World} {a : Addr} {v : Value} (h : w.cell? a = some v) : a = ⟨a.block, a.off, none⟩ := by
  obtain ⟨b, o, s⟩ := a
  cases s with
  | none => rfl
  | some x =>
    exfalso
    unfold World.cell? at h
    simp at h
    split at h <;> simp_all

theorem add_plain' (g o n : Nat) : (⟨g, o, none⟩ : Addr).add n = ⟨g, o + n, none⟩ := by
  unfold Addr.add
  by_cases h : n = 0
  · subst h; rfl
  · simp [h]

theorem cells_at {g o n : Nat} {cs : List Value} (h : w.cells? 0 ⟨g, o, none⟩ n = some cs) : cs.length = n ∧ ∀ i, i < n → w.cell? ⟨g, o + i, none⟩ = cs[i]? := by
  obtain ⟨-, h1, h2⟩ := World.cells?_some h
  refine ⟨h1, fun i hi => ?_⟩
  rw [← h2 i hi, add_plain']

theorem cellsPa : Try.prog.cellsOf 35 = 7 := by kernel_rfl
/-- A part that can be read. -/
theorem pa_one {n : Nat} {cs : List Value} {y : DataW H × List MemPlace} (hl : cs.length = 7) (h : DataW.trod enc Try.prog w 0 sp held n 35 cs = some y) : ∃ x : Pa, cs = x.vals ∧ y.1 = .agg [.lit (.int .i64 x.co), .lit (.int .i64 x.fr), .lit (.int .i64 x.se), .lit (.int .i64 x.c), .lit (.int .i64 x.t), .lit (.int .i64 x.d), .lit (.int .i64 x.p)] := by
  match cs, hl with
  | [c0, c1, c2, c3, c4, c5, c6], _ =>
    obtain ⟨xs, n1, rfl, hy, -, hlen, hf⟩ := DataW.trod_struct Try.underlying35 h
    match xs, hlen with
    | [y0, y1, y2, y3, y4, y5, y6], _ =>
      have f0 : DataW.trod enc Try.prog w 0 sp held n1 3 ((([c0, c1, c2, c3, c4, c5, c6] : List Value).drop 0).take (Try.prog.cellsOf 3)) = some y0 := hf 0 _ rfl
      have f1 : DataW.trod enc Try.prog w 0 sp held n1 3 ((([c0, c1, c2, c3, c4, c5, c6] : List Value).drop 1).take (Try.prog.cellsOf 3)) = some y1 := hf 1 _ rfl
      have f2 : DataW.trod enc Try.prog w 0 sp held n1 3 ((([c0, c1, c2, c3, c4, c5, c6] : List Value).drop 2).take (Try.prog.cellsOf 3)) = some y2 := hf 2 _ rfl
      have f3 : DataW.trod enc Try.prog w 0 sp held n1 3 ((([c0, c1, c2, c3, c4, c5, c6] : List Value).drop 3).take (Try.prog.cellsOf 3)) = some y3 := hf 3 _ rfl
      have f4 : DataW.trod enc Try.prog w 0 sp held n1 3 ((([c0, c1, c2, c3, c4, c5, c6] : List Value).drop 4).take (Try.prog.cellsOf 3)) = some y4 := hf 4 _ rfl
      have f5 : DataW.trod enc Try.prog w 0 sp held n1 3 ((([c0, c1, c2, c3, c4, c5, c6] : List Value).drop 5).take (Try.prog.cellsOf 3)) = some y5 := hf 5 _ rfl
      have f6 : DataW.trod enc Try.prog w 0 sp held n1 3 ((([c0, c1, c2, c3, c4, c5, c6] : List Value).drop 6).take (Try.prog.cellsOf 3)) = some y6 := hf 6 _ rfl
      rw [cellsI] at f0 f1 f2 f3 f4 f5 f6
      obtain ⟨k0, e0, g0, -⟩ := DataW.trod_int Try.underlying3 (show DataW.trod enc Try.prog w 0 sp held n1 3 [c0] = some y0 from f0)
      obtain ⟨k1, e1, g1, -⟩ := DataW.trod_int Try.underlying3 (show DataW.trod enc Try.prog w 0 sp held n1 3 [c1] = some y1 from f1)
      obtain ⟨k2, e2, g2, -⟩ := DataW.trod_int Try.underlying3 (show DataW.trod enc Try.prog w 0 sp held n1 3 [c2] = some y2 from f2)
      obtain ⟨k3, e3, g3, -⟩ := DataW.trod_int Try.underlying3 (show DataW.trod enc Try.prog w 0 sp held n1 3 [c3] = some y3 from f3)
      obtain ⟨k4, e4, g4, -⟩ := DataW.trod_int Try.underlying3 (show DataW.trod enc Try.prog w 0 sp held n1 3 [c4] = some y4 from f4)
      obtain ⟨k5, e5, g5, -⟩ := DataW.trod_int Try.underlying3 (show DataW.trod enc Try.prog w 0 sp held n1 3 [c5] = some y5 from f5)
      obtain ⟨k6, e6, g6, -⟩ := DataW.trod_int Try.underlying3 (show DataW.trod enc Try.prog w 0 sp held n1 3 [c6] = some y6 from f6)
      simp only [List.cons.injEq, and_true] at e0 e1 e2 e3 e4 e5 e6
      refine ⟨⟨k0, k1, k2, k3, k4, k5, k6⟩, by rw [e0, e1, e2, e3, e4, e5, e6]; rfl, ?_⟩
      rw [hy, g0, g1, g2, g3, g4, g5, g6]
      rfl

theorem pa_row {n : Nat} (g : Nat) : ∀ (elems : List (DataW H × List MemPlace)) (o : Nat),
    (∀ i, i < elems.length → (w.cells? 0 ⟨g, o + i * 7, none⟩ 7).bind (DataW.trod enc Try.prog w 0 sp held n 35) = elems[i]?) →
    ∃ l : List Pa, l.length = elems.length ∧ ∀ q u, (l.flatMap Pa.vals)[q]? = some u → w.cell? ⟨g, o + q, none⟩ = some u
  | [], o, _ => ⟨[], rfl, fun q u hq => by simp at hq⟩
  | y :: r, o, h => by
    have h0 := h 0 (by simp)
    simp only [Nat.zero_mul, Nat.add_zero, List.getElem?_cons_zero] at h0
    obtain ⟨cs, hc, ht⟩ := Option.bind_eq_some_iff.1 h0
    obtain ⟨hlen, hcell⟩ := cells_at hc
    obtain ⟨x, rfl, -⟩ := pa_one hlen ht
    obtain ⟨l, hl, hrow⟩ := pa_row g r (o + 7) (fun i hi => by
      have := h (i + 1) (by simp; omega)
      rw [show o + (i + 1) * 7 = o + 7 + i * 7 by omega] at this
      simpa using this)
    refine ⟨x :: l, by simp [hl], fun q u hq => ?_⟩
    · rw [List.flatMap_cons] at hq
      by_cases h7 : q < 7
      · rw [List.getElem?_append_left (by rw [Pa.len]; exact h7)] at hq
        rw [hcell q h7]
        exact hq
      · rw [List.getElem?_append_right (by rw [Pa.len]; omega), Pa.len] at hq
        have := hrow (q - 7) u hq
        rw [show o + 7 + (q - 7) = o + q by omega] at this
        exact this

theorem paSl_of_trod {ad : Option Addr} {n c : Nat} {d : DataW H} {ps : List MemPlace} (h : DataW.Trod enc Try.prog w 0 sp held 22 (.slice ad n c) d ps) : ∃ l : List Pa, n = l.length ∧ RowSl Pa.vals w l (.slice ad n c) := by
  obtain ⟨q, hq⟩ := h
  have hcs : (Value.slice ad n c).cells.toList = [.slice ad n c] := rfl
  rw [hcs] at hq
  rcases DataW.trod_slice Try.underlying22 hq with ⟨h1, -⟩ | ⟨a, len, cap, elems, rest, n2, -, h1, -, -, hlc, -, hle, hel, -, -⟩
  · simp only [List.cons.injEq, and_true, Value.slice.injEq] at h1
    obtain ⟨rfl, rfl, rfl⟩ := h1
    exact ⟨[], rfl, RowSl.nil _ _⟩
  · simp only [List.cons.injEq, and_true, Value.slice.injEq] at h1
    obtain ⟨rfl, rfl, rfl⟩ := h1
    subst hle
    simp only [cellsPa] at hel
    cases elems with
    | nil => exact ⟨[], rfl, ⟨_, _, rfl, (fun e => by cases e), Nat.zero_le _, .inl rfl⟩⟩
    | cons z r =>
      have hz := hel 0 (by simp)
      obtain ⟨cs0, hc0, ht0⟩ := Option.bind_eq_some_iff.1 hz
      obtain ⟨-, hlen0, hpl⟩ := World.cells?_some hc0
      obtain ⟨x, rfl, -⟩ := pa_one hlen0 (by simpa using ht0)
      have hpa := plain_addr (w := w) (a := a) (v := .int .i64 x.co) (by simpa [Addr.add, Pa.vals] using hpl 0 (by omega))
      obtain ⟨l, hl, hrow⟩ := pa_row (n := n2) a.block (z :: r) a.off (fun i hi => by
        have := hel i hi
        rw [hpa, add_plain'] at this
        exact this)
      exact ⟨l, hl.symm, ⟨some a, c, by rw [hl], (fun e => by cases e), by omega, .inr ⟨a.block, a.off, by rw [← hpa], hrow⟩⟩⟩

theorem cellsCo : Try.prog.cellsOf 33 = 2 := by kernel_rfl
/-- A coming that can be read. -/
theorem co_one {n : Nat} {cs : List Value} {y : DataW H × List MemPlace} (hl : cs.length = 2) (h : DataW.trod enc Try.prog w 0 sp held n 33 cs = some y) : ∃ x : Co, cs = x.vals ∧ y.1 = .agg [.lit (.int .i64 x.k), .lit (.int .i64 x.a)] := by
  match cs, hl with
  | [c0, c1], _ =>
    obtain ⟨xs, n1, rfl, hy, -, hlen, hf⟩ := DataW.trod_struct Try.underlying33 h
    match xs, hlen with
    | [y0, y1], _ =>
      have f0 : DataW.trod enc Try.prog w 0 sp held n1 3 ((([c0, c1] : List Value).drop 0).take (Try.prog.cellsOf 3)) = some y0 := hf 0 _ rfl
      have f1 : DataW.trod enc Try.prog w 0 sp held n1 3 ((([c0, c1] : List Value).drop 1).take (Try.prog.cellsOf 3)) = some y1 := hf 1 _ rfl
      rw [cellsI] at f0 f1
      obtain ⟨k0, e0, g0, -⟩ := DataW.trod_int Try.underlying3 (show DataW.trod enc Try.prog w 0 sp held n1 3 [c0] = some y0 from f0)
      obtain ⟨k1, e1, g1, -⟩ := DataW.trod_int Try.underlying3 (show DataW.trod enc Try.prog w 0 sp held n1 3 [c1] = some y1 from f1)
      simp only [List.cons.injEq, and_true] at e0 e1
      refine ⟨⟨k0, k1⟩, by rw [e0, e1]; rfl, ?_⟩
      rw [hy, g0, g1]
      rfl

theorem co_row {n : Nat} (g : Nat) : ∀ (elems : List (DataW H × List MemPlace)) (o : Nat),
    (∀ i, i < elems.length → (w.cells? 0 ⟨g, o + i * 2, none⟩ 2).bind (DataW.trod enc Try.prog w 0 sp held n 33) = elems[i]?) →
    ∃ l : List Co, l.length = elems.length ∧ ∀ q u, (l.flatMap Co.vals)[q]? = some u → w.cell? ⟨g, o + q, none⟩ = some u
  | [], o, _ => ⟨[], rfl, fun q u hq => by simp at hq⟩
  | y :: r, o, h => by
    have h0 := h 0 (by simp)
    simp only [Nat.zero_mul, Nat.add_zero, List.getElem?_cons_zero] at h0
    obtain ⟨cs, hc, ht⟩ := Option.bind_eq_some_iff.1 h0
    obtain ⟨hlen, hcell⟩ := cells_at hc
    obtain ⟨x, rfl, -⟩ := co_one hlen ht
    obtain ⟨l, hl, hrow⟩ := co_row g r (o + 2) (fun i hi => by
      have := h (i + 1) (by simp; omega)
      rw [show o + (i + 1) * 2 = o + 2 + i * 2 by omega] at this
      simpa using this)
    refine ⟨x :: l, by simp [hl], fun q u hq => ?_⟩
    · rw [List.flatMap_cons] at hq
      by_cases h7 : q < 2
      · rw [List.getElem?_append_left (by rw [Co.len]; exact h7)] at hq
        rw [hcell q h7]
        exact hq
      · rw [List.getElem?_append_right (by rw [Co.len]; omega), Co.len] at hq
        have := hrow (q - 2) u hq
        rw [show o + 2 + (q - 2) = o + q by omega] at this
        exact this

theorem coSl_of_trod {ad : Option Addr} {n c : Nat} {d : DataW H} {ps : List MemPlace} (h : DataW.Trod enc Try.prog w 0 sp held 23 (.slice ad n c) d ps) : ∃ l : List Co, n = l.length ∧ RowSl Co.vals w l (.slice ad n c) := by
  obtain ⟨q, hq⟩ := h
  have hcs : (Value.slice ad n c).cells.toList = [.slice ad n c] := rfl
  rw [hcs] at hq
  rcases DataW.trod_slice Try.underlying23 hq with ⟨h1, -⟩ | ⟨a, len, cap, elems, rest, n2, -, h1, -, -, hlc, -, hle, hel, -, -⟩
  · simp only [List.cons.injEq, and_true, Value.slice.injEq] at h1
    obtain ⟨rfl, rfl, rfl⟩ := h1
    exact ⟨[], rfl, RowSl.nil _ _⟩
  · simp only [List.cons.injEq, and_true, Value.slice.injEq] at h1
    obtain ⟨rfl, rfl, rfl⟩ := h1
    subst hle
    simp only [cellsCo] at hel
    cases elems with
    | nil => exact ⟨[], rfl, ⟨_, _, rfl, (fun e => by cases e), Nat.zero_le _, .inl rfl⟩⟩
    | cons z r =>
      have hz := hel 0 (by simp)
      obtain ⟨cs0, hc0, ht0⟩ := Option.bind_eq_some_iff.1 hz
      obtain ⟨-, hlen0, hpl⟩ := World.cells?_some hc0
      obtain ⟨x, rfl, -⟩ := co_one hlen0 (by simpa using ht0)
      have hpa := plain_addr (w := w) (a := a) (v := .int .i64 x.k) (by simpa [Addr.add, Co.vals] using hpl 0 (by omega))
      obtain ⟨l, hl, hrow⟩ := co_row (n := n2) a.block (z :: r) a.off (fun i hi => by
        have := hel i hi
        rw [hpa, add_plain'] at this
        exact this)
      exact ⟨l, hl.symm, ⟨some a, c, by rw [hl], (fun e => by cases e), by omega, .inr ⟨a.block, a.off, by rw [← hpa], hrow⟩⟩⟩

/-- A number that can be read. -/
theorem nuR_one {n : Nat} {cs : List Value} {y : DataW H × List MemPlace} (h : DataW.trod enc Try.prog w 0 sp held n 3 cs = some y) : ∃ x : Int, cs = nuV x := by
  obtain ⟨k0, e0, -, -⟩ := DataW.trod_int Try.underlying3 h
  exact ⟨k0, e0⟩

theorem nuR_row {n : Nat} (g : Nat) : ∀ (elems : List (DataW H × List MemPlace)) (o : Nat),
    (∀ i, i < elems.length → (w.cells? 0 ⟨g, o + i * 1, none⟩ 1).bind (DataW.trod enc Try.prog w 0 sp held n 3) = elems[i]?) →
    ∃ l : List Int, l.length = elems.length ∧ ∀ q u, (l.flatMap nuV)[q]? = some u → w.cell? ⟨g, o + q, none⟩ = some u
  | [], o, _ => ⟨[], rfl, fun q u hq => by simp at hq⟩
  | y :: r, o, h => by
    have h0 := h 0 (by simp)
    simp only [Nat.zero_mul, Nat.add_zero, List.getElem?_cons_zero] at h0
    obtain ⟨cs, hc, ht⟩ := Option.bind_eq_some_iff.1 h0
    obtain ⟨hlen, hcell⟩ := cells_at hc
    obtain ⟨x, rfl⟩ := nuR_one ht
    obtain ⟨l, hl, hrow⟩ := nuR_row g r (o + 1) (fun i hi => by
      have := h (i + 1) (by simp; omega)
      rw [show o + (i + 1) * 1 = o + 1 + i * 1 by omega] at this
      simpa using this)
    refine ⟨x :: l, by simp [hl], fun q u hq => ?_⟩
    · rw [List.flatMap_cons] at hq
      by_cases h7 : q < 1
      · rw [List.getElem?_append_left (by rw [nuV_len]; exact h7)] at hq
        rw [hcell q h7]
        exact hq
      · rw [List.getElem?_append_right (by rw [nuV_len]; omega), nuV_len] at hq
        have := hrow (q - 1) u hq
        rw [show o + 1 + (q - 1) = o + q by omega] at this
        exact this

/-- A slice of numbers that can be read. -/
theorem nuSl_of_trod {ad : Option Addr} {n c : Nat} {d : DataW H} {ps : List MemPlace} (h : DataW.Trod enc Try.prog w 0 sp held 24 (.slice ad n c) d ps) : ∃ l : List Int, n = l.length ∧ RowSl nuV w l (.slice ad n c) := by
  obtain ⟨q, hq⟩ := h
  have hcs : (Value.slice ad n c).cells.toList = [.slice ad n c] := rfl
  rw [hcs] at hq
  rcases DataW.trod_slice Try.underlying24 hq with ⟨h1, -⟩ | ⟨a, len, cap, elems, rest, n2, -, h1, -, -, hlc, -, hle, hel, -, -⟩
  · simp only [List.cons.injEq, and_true, Value.slice.injEq] at h1
    obtain ⟨rfl, rfl, rfl⟩ := h1
    exact ⟨[], rfl, RowSl.nil _ _⟩
  · simp only [List.cons.injEq, and_true, Value.slice.injEq] at h1
    obtain ⟨rfl, rfl, rfl⟩ := h1
    subst hle
    simp only [cellsI] at hel
    cases elems with
    | nil => exact ⟨[], rfl, ⟨_, _, rfl, (fun e => by cases e), Nat.zero_le _, .inl rfl⟩⟩
    | cons z r =>
      have hz := hel 0 (by simp)
      obtain ⟨cs0, hc0, ht0⟩ := Option.bind_eq_some_iff.1 hz
      obtain ⟨-, hlen0, hpl⟩ := World.cells?_some hc0
      obtain ⟨x, rfl⟩ := nuR_one (by simpa using ht0)
      have hpa := plain_addr (w := w) (a := a) (v := .int .i64 x) (by simpa [Addr.add, nuV] using hpl 0 (by omega))
      obtain ⟨l, hl, hrow⟩ := nuR_row (n := n2) a.block (z :: r) a.off (fun i hi => by
        have := hel i hi
        rw [hpa, add_plain'] at this
        exact this)
      exact ⟨l, hl.symm, ⟨some a, c, by rw [hl], (fun e => by cases e), by omega, .inr ⟨a.block, a.off, by rw [← hpa], hrow⟩⟩⟩
end

theorem pavals_of {x y : Pa} (h : (DataW.agg [.lit (.int .i64 x.co), .lit (.int .i64 x.fr), .lit (.int .i64 x.se), .lit (.int .i64 x.c), .lit (.int .i64 x.t), .lit (.int .i64 x.d), .lit (.int .i64 x.p)] : DataW Unit) = .agg [.lit (.int .i64 y.co), .lit (.int .i64 y.fr), .lit (.int .i64 y.se), .lit (.int .i64 y.c), .lit (.int .i64 y.t), .lit (.int .i64 y.d), .lit (.int .i64 y.p)]) : x = y := by
  obtain ⟨x0, x1, x2, x3, x4, x5, x6⟩ := x
  obtain ⟨y0, y1, y2, y3, y4, y5, y6⟩ := y
  simp only [DataW.agg.injEq, List.cons.injEq, DataW.lit.injEq, Lit.int.injEq, true_and, and_true] at h
  obtain ⟨rfl, rfl, rfl, rfl, rfl, rfl, rfl⟩ := h
  rfl
theorem covals_of {x y : Co} (h : (DataW.agg [.lit (.int .i64 x.k), .lit (.int .i64 x.a)] : DataW Unit) = .agg [.lit (.int .i64 y.k), .lit (.int .i64 y.a)]) : x = y := by
  obtain ⟨x0, x1⟩ := x
  obtain ⟨y0, y1⟩ := y
  simp only [DataW.agg.injEq, List.cons.injEq, DataW.lit.injEq, Lit.int.injEq, true_and, and_true] at h
  obtain ⟨rfl, rfl⟩ := h
  rfl
end Go.Proofs.Ytccoobcggbbciam
