import Derived.Test.YtccoobcggbbciakDoorKQ0
import Derived.LaidMore
import Derived.ChangeArms
import Derived.OpenShut
namespace Go.Proofs.YtccoobcggbbciakDoor
open Go.ChangeShapes Go.WideShapes Go.ChangeAt Go.RowKit

theorem cells3 : Tryd.prog.cellsOf 3 = 1 := by kernel_rfl
theorem cellsE : Tryd.prog.cellsOf 24 = 5 := by kernel_rfl

section
variable {H : Type} {enc : TypeId × Value → H} {w : World} {sp : Nat → Bool} {held : Bool}

/-- A cell that is there lies at a plain address. -/
theorem plain_addr {w : World} {a : Addr} {v : Value} (h : w.cell? a = some v) : a = ⟨a.block, a.off, none⟩ := by
  obtain ⟨b, o, s⟩ := a
  cases s with
  | none => rfl
  | some x =>
    exfalso
    unfold World.cell? at h
    simp at h
    split at h <;> simp_all

theorem add_plain' (g o n : Nat) : (⟨g, o, none⟩ : Addr).add n = ⟨g, o + n, none⟩ := by
  unfold Addr.add
  by_cases h : n = 0
  · subst h; rfl
  · simp [h]

theorem cells_at {g o n : Nat} {cs : List Value} (h : w.cells? 0 ⟨g, o, none⟩ n = some cs) : cs.length = n ∧ ∀ i, i < n → w.cell? ⟨g, o + i, none⟩ = cs[i]? := by
  obtain ⟨-, h1, h2⟩ := World.cells?_some h
  refine ⟨h1, fun i hi => ?_⟩
  rw [← h2 i hi, add_plain']

/-- An event that can be read. -/
theorem ev_one {n : Nat} {cs : List Value} {y : DataW H × List MemPlace} (hl : cs.length = 5) (h : DataW.trod enc Tryd.prog w 0 sp held n 24 cs = some y) : ∃ x : Ev, cs = x.vals ∧ inE x ∧ y.1 = .agg [.lit (.int .i64 x.at_), .lit (.int .i64 x.k), .lit (.int .i64 x.t), .lit (.int .i64 x.m), .lit (.int .i64 x.n)] := by
  match cs, hl with
  | [c0, c1, c2, c3, c4], _ =>
    obtain ⟨xs, n1, rfl, hy, -, hlen, hf⟩ := DataW.trod_struct Tryd.underlying24 h
    match xs, hlen with
    | [y0, y1, y2, y3, y4], _ =>
      have f0 : DataW.trod enc Tryd.prog w 0 sp held n1 3 ((([c0, c1, c2, c3, c4] : List Value).drop 0).take (Tryd.prog.cellsOf 3)) = some y0 := hf 0 _ rfl
      have f1 : DataW.trod enc Tryd.prog w 0 sp held n1 3 ((([c0, c1, c2, c3, c4] : List Value).drop 1).take (Tryd.prog.cellsOf 3)) = some y1 := hf 1 _ rfl
      have f2 : DataW.trod enc Tryd.prog w 0 sp held n1 3 ((([c0, c1, c2, c3, c4] : List Value).drop 2).take (Tryd.prog.cellsOf 3)) = some y2 := hf 2 _ rfl
      have f3 : DataW.trod enc Tryd.prog w 0 sp held n1 3 ((([c0, c1, c2, c3, c4] : List Value).drop 3).take (Tryd.prog.cellsOf 3)) = some y3 := hf 3 _ rfl
      have f4 : DataW.trod enc Tryd.prog w 0 sp held n1 3 ((([c0, c1, c2, c3, c4] : List Value).drop 4).take (Tryd.prog.cellsOf 3)) = some y4 := hf 4 _ rfl
      rw [cells3] at f0 f1 f2 f3 f4
      obtain ⟨k0, e0, g0, -⟩ := DataW.trod_int Tryd.underlying3 (show DataW.trod enc Tryd.prog w 0 sp held n1 3 [c0] = some y0 from f0)
      obtain ⟨k1, e1, g1, -⟩ := DataW.trod_int Tryd.underlying3 (show DataW.trod enc Tryd.prog w 0 sp held n1 3 [c1] = some y1 from f1)
      obtain ⟨k2, e2, g2, -⟩ := DataW.trod_int Tryd.underlying3 (show DataW.trod enc Tryd.prog w 0 sp held n1 3 [c2] = some y2 from f2)
      obtain ⟨k3, e3, g3, -⟩ := DataW.trod_int Tryd.underlying3 (show DataW.trod enc Tryd.prog w 0 sp held n1 3 [c3] = some y3 from f3)
      obtain ⟨k4, e4, g4, hw⟩ := DataW.trod_int Tryd.underlying3 (show DataW.trod enc Tryd.prog w 0 sp held n1 3 [c4] = some y4 from f4)
      simp only [List.cons.injEq, and_true] at e0 e1 e2 e3 e4
      have hin : -9223372036854775808 ≤ k4 ∧ k4 ≤ 9223372036854775807 := by
        have h9 : IntKind.i64.min ≤ k4 ∧ k4 ≤ IntKind.i64.max := by simpa [Lit.wf] using hw
        have h1 : IntKind.i64.min = -9223372036854775808 := by decide
        have h2 : IntKind.i64.max = 9223372036854775807 := by decide
        omega
      refine ⟨⟨k0, k1, k2, k3, k4⟩, by rw [e0, e1, e2, e3, e4]; rfl, hin, ?_⟩
      rw [hy, g0, g1, g2, g3, g4]
      rfl

theorem ev_row {n : Nat} (g : Nat) : ∀ (elems : List (DataW H × List MemPlace)) (o : Nat),
    (∀ i, i < elems.length → (w.cells? 0 ⟨g, o + i * 5, none⟩ 5).bind (DataW.trod enc Tryd.prog w 0 sp held n 24) = elems[i]?) →
    ∃ l : List Ev, l.length = elems.length ∧ (∀ x ∈ l, inE x) ∧ ∀ q u, (l.flatMap Ev.vals)[q]? = some u → w.cell? ⟨g, o + q, none⟩ = some u
  | [], o, _ => ⟨[], rfl, fun x hx => by simp at hx, fun q u hq => by simp at hq⟩
  | y :: r, o, h => by
    have h0 := h 0 (by simp)
    simp only [Nat.zero_mul, Nat.add_zero, List.getElem?_cons_zero] at h0
    obtain ⟨cs, hc, ht⟩ := Option.bind_eq_some_iff.1 h0
    obtain ⟨hlen, hcell⟩ := cells_at hc
    obtain ⟨x, rfl, hm, -⟩ := ev_one hlen ht
    obtain ⟨l, hl, hms, hrow⟩ := ev_row g r (o + 5) (fun i hi => by
      have := h (i + 1) (by simp; omega)
      rw [show o + (i + 1) * 5 = o + 5 + i * 5 by omega] at this
      simpa using this)
    refine ⟨x :: l, by simp [hl], fun z hz => ?_, fun q u hq => ?_⟩
    · rcases List.mem_cons.1 hz with rfl | hz
      · exact hm
      · exact hms z hz
    · rw [List.flatMap_cons] at hq
      by_cases h5 : q < 5
      · rw [List.getElem?_append_left (by rw [Ev.len]; exact h5)] at hq
        rw [hcell q h5]
        exact hq
      · rw [List.getElem?_append_right (by rw [Ev.len]; omega), Ev.len] at hq
        have := hrow (q - 5) u hq
        rw [show o + 5 + (q - 5) = o + q by omega] at this
        exact this

/-- A slice of events that can be read. -/
theorem evSl_of_trod {ad : Option Addr} {n c : Nat} {d : DataW H} {ps : List MemPlace} (h : DataW.Trod enc Tryd.prog w 0 sp held 22 (.slice ad n c) d ps) : ∃ l : List Ev, n = l.length ∧ (∀ x ∈ l, inE x) ∧ RowSl Ev.vals w l (.slice ad n c) := by
  obtain ⟨q, hq⟩ := h
  have hcs : (Value.slice ad n c).cells.toList = [.slice ad n c] := rfl
  rw [hcs] at hq
  rcases DataW.trod_slice Tryd.underlying22 hq with ⟨h1, -⟩ | ⟨a, len, cap, elems, rest, n2, -, h1, -, -, hlc, -, hle, hel, -, -⟩
  · simp only [List.cons.injEq, and_true, Value.slice.injEq] at h1
    obtain ⟨rfl, rfl, rfl⟩ := h1
    exact ⟨[], rfl, (fun x hx => by simp at hx), RowSl.nil _ _⟩
  · simp only [List.cons.injEq, and_true, Value.slice.injEq] at h1
    obtain ⟨rfl, rfl, rfl⟩ := h1
    subst hle
    simp only [cellsE] at hel
    cases elems with
    | nil => exact ⟨[], rfl, (fun x hx => by simp at hx), ⟨_, _, rfl, (fun e => by cases e), Nat.zero_le _, .inl rfl⟩⟩
    | cons z r =>
      have hz := hel 0 (by simp)
      obtain ⟨cs0, hc0, ht0⟩ := Option.bind_eq_some_iff.1 hz
      obtain ⟨-, hlen0, hpl⟩ := World.cells?_some hc0
      obtain ⟨x, rfl, -⟩ := ev_one hlen0 (by simpa using ht0)
      have hpa := plain_addr (w := w) (a := a) (v := .int .i64 x.at_) (by simpa [Addr.add, Ev.vals] using hpl 0 (by omega))
      obtain ⟨l, hl, hms, hrow⟩ := ev_row (n := n2) a.block (z :: r) a.off (fun i hi => by
        have := hel i hi
        rw [hpa, add_plain'] at this
        exact this)
      exact ⟨l, hl.symm, hms, ⟨some a, c, by rw [hl], (fun e => by cases e), by omega, .inr ⟨a.block, a.off, by rw [← hpa], hrow⟩⟩⟩
end

end Go.Proofs.YtccoobcggbbciakDoor
