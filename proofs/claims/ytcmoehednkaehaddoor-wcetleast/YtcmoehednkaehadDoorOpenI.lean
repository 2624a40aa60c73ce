import Derived.Test.YtcmoehednkaehadDoorKinds
namespace Go.Proofs.YtcmoehednkaehadDoor
open Go.ChangeShapes Go.WideShapes Go.ChangeAt Go.RowKit

theorem cells35 : Tryd.prog.cellsOf 27 = 3 := by kernel_rfl

section
variable {H : Type} {enc : TypeId × Value → H} {w : World} {sp : Nat → Bool} {held : Bool}

/-- A cell that is there lies at a plain address. -/
theorem plain_addr {w : World} {a : Addr} {v : Value} (h : w.cell? a = some v) : a = ⟨a.block, a.off, none⟩ := by
  obtain ⟨b, o, s⟩ := a
  cases s with
  | none => rfl
  | some x =>
    exfalso
    unfold World.cell? at h
    simp at h
    split at h <;> simp_all

theorem add_plain' (g o n : Nat) : (⟨g, o, none⟩ : Addr).add n = ⟨g, o + n, none⟩ := by
  unfold Addr.add
  by_cases h : n = 0
  · subst h; rfl
  · simp [h]

theorem cells_at {g o n : Nat} {cs : List Value} (h : w.cells? 0 ⟨g, o, none⟩ n = some cs) : cs.length = n ∧ ∀ i, i < n → w.cell? ⟨g, o + i, none⟩ = cs[i]? := by
  obtain ⟨-, h1, h2⟩ := World.cells?_some h
  refine ⟨h1, fun i hi => ?_⟩
  rw [← h2 i hi, add_plain']

/-- An instruction that can be read. -/
theorem ins_one {n : Nat} {cs : List Value} {y : DataW H × List MemPlace} (hl : cs.length = 3) (h : DataW.trod enc Tryd.prog w 0 sp held n 27 cs = some y) : ∃ op a b : Int, cs = [.int .i64 op, .int .i64 a, .int .i64 b] := by
  match cs, hl with
  | [c0, c1, c2], _ =>
    obtain ⟨xs, n1, rfl, -, -, hlen, hf⟩ := DataW.trod_struct Tryd.underlying27 h
    match xs, hlen with
    | [y0, y1, y2], _ =>
      have f0 : DataW.trod enc Tryd.prog w 0 sp held n1 3 ((([c0, c1, c2] : List Value).drop 0).take (Tryd.prog.cellsOf 3)) = some y0 := hf 0 _ rfl
      have f1 : DataW.trod enc Tryd.prog w 0 sp held n1 3 ((([c0, c1, c2] : List Value).drop 1).take (Tryd.prog.cellsOf 3)) = some y1 := hf 1 _ rfl
      have f2 : DataW.trod enc Tryd.prog w 0 sp held n1 3 ((([c0, c1, c2] : List Value).drop 2).take (Tryd.prog.cellsOf 3)) = some y2 := hf 2 _ rfl
      rw [laidCells3] at f0 f1 f2
      obtain ⟨k0, e0, -, -⟩ := DataW.trod_int Tryd.underlying3 (show DataW.trod enc Tryd.prog w 0 sp held n1 3 [c0] = some y0 from f0)
      obtain ⟨k1, e1, -, -⟩ := DataW.trod_int Tryd.underlying3 (show DataW.trod enc Tryd.prog w 0 sp held n1 3 [c1] = some y1 from f1)
      obtain ⟨k2, e2, -, -⟩ := DataW.trod_int Tryd.underlying3 (show DataW.trod enc Tryd.prog w 0 sp held n1 3 [c2] = some y2 from f2)
      simp only [List.cons.injEq, and_true] at e0 e1 e2
      exact ⟨k0, k1, k2, by rw [e0, e1, e2]⟩

theorem ins_row {n : Nat} (g : Nat) : ∀ (elems : List (DataW H × List MemPlace)) (o : Nat),
    (∀ i, i < elems.length → (w.cells? 0 ⟨g, o + i * 3, none⟩ 3).bind (DataW.trod enc Tryd.prog w 0 sp held n 27) = elems[i]?) →
    ∃ l : List In, l.length = elems.length ∧ ∀ j, j < l.length → w.cell? ⟨g, o + j * 3, none⟩ = some (.int .i64 (l.getD j in0).op) ∧ w.cell? ⟨g, o + j * 3 + 1, none⟩ = some (.int .i64 (l.getD j in0).a) ∧ w.cell? ⟨g, o + j * 3 + 2, none⟩ = some (.int .i64 (l.getD j in0).b)
  | [], o, _ => ⟨[], rfl, fun j hj => by simp at hj⟩
  | y :: r, o, h => by
    have h0 := h 0 (by simp)
    simp only [Nat.zero_mul, Nat.add_zero, List.getElem?_cons_zero] at h0
    obtain ⟨cs, hc, ht⟩ := Option.bind_eq_some_iff.1 h0
    obtain ⟨hlen, hcell⟩ := cells_at hc
    obtain ⟨op, a, b, rfl⟩ := ins_one hlen ht
    have k0 := hcell 0 (by omega)
    have k1 := hcell 1 (by omega)
    have k2 := hcell 2 (by omega)
    obtain ⟨l, hl, hrow⟩ := ins_row g r (o + 3) (fun i hi => by
      have := h (i + 1) (by simp; omega)
      rw [show o + (i + 1) * 3 = o + 3 + i * 3 by omega] at this
      simpa using this)
    refine ⟨⟨op, a, b⟩ :: l, by simp [hl], fun j hj => ?_⟩
    cases j with
    | zero => exact ⟨by simpa using k0, by simpa using k1, by simpa using k2⟩
    | succ j =>
      obtain ⟨q0, q1, q2⟩ := hrow j (by simpa using hj)
      rw [show o + (j + 1) * 3 = o + 3 + j * 3 by omega]
      exact ⟨by simpa using q0, by simpa using q1, by simpa using q2⟩

/-- A slice of instructions that can be read. -/
theorem InSl.of_trod {ad : Option Addr} {n c : Nat} {d : DataW H} {ps : List MemPlace} (h : DataW.Trod enc Tryd.prog w 0 sp held 22 (.slice ad n c) d ps) : ∃ l : List In, n = l.length ∧ InSl w l (.slice ad n c) ∧ (ad = none → l.length = 0 ∧ c = 0) := by
  obtain ⟨q, hq⟩ := h
  have hcs : (Value.slice ad n c).cells.toList = [.slice ad n c] := rfl
  rw [hcs] at hq
  rcases DataW.trod_slice Tryd.underlying22 hq with ⟨h1, -⟩ | ⟨a, len, cap, elems, rest, n2, -, h1, -, -, -, -, hle, hel, -, -⟩
  · simp only [List.cons.injEq, and_true, Value.slice.injEq] at h1
    obtain ⟨rfl, rfl, rfl⟩ := h1
    exact ⟨[], rfl, ⟨_, _, rfl, .inl rfl⟩, fun _ => ⟨rfl, rfl⟩⟩
  · simp only [List.cons.injEq, and_true, Value.slice.injEq] at h1
    obtain ⟨rfl, rfl, rfl⟩ := h1
    subst hle
    simp only [cells35] at hel
    cases elems with
    | nil => exact ⟨[], rfl, ⟨_, _, rfl, .inl rfl⟩, fun e => by cases e⟩
    | cons z r =>
      have hz := hel 0 (by simp)
      obtain ⟨cs0, hc0, ht0⟩ := Option.bind_eq_some_iff.1 hz
      obtain ⟨-, hlen0, hpl⟩ := World.cells?_some hc0
      obtain ⟨op, x, b, rfl⟩ := ins_one hlen0 (by simpa using ht0)
      have hpa := plain_addr (w := w) (a := a) (v := .int .i64 op) (by simpa [Addr.add] using hpl 0 (by omega))
      obtain ⟨l, hl, hrow⟩ := ins_row (n := n2) a.block (z :: r) a.off (fun i hi => by
        have := hel i hi
        rw [hpa, add_plain'] at this
        exact this)
      exact ⟨l, hl.symm, ⟨some a, c, by rw [hl], .inr ⟨a.block, a.off, by rw [← hpa], hrow⟩⟩, fun e => by cases e⟩
end
end Go.Proofs.YtcmoehednkaehadDoor
