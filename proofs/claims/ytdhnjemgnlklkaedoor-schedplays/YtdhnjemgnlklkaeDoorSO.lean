import Derived.Test.YtdhnjemgnlklkaeDoorLW
import Derived.Test.YtdhnjemgnlklkaeDoorCards
import Derived.Test.YtdhnjemgnlklkaeDoorTie
import Derived.LaidMore
import Derived.ChangeArms
import Derived.OpenShut
import Derived.WideKeyArgs
import Derived.Deep.DeepHandedRow
namespace Go.Proofs.YtdhnjemgnlklkaeDoor
open Go.ChangeShapes Go.WideShapes Go.ChangeAt Go.RowKit

theorem cells3 : Tryd.prog.cellsOf 3 = 1 := by kernel_rfl
theorem cells36 : Tryd.prog.cellsOf 49 = 5 := by kernel_rfl

section
variable {H : Type} {enc : TypeId × Value → H} {w : World} {sp : Nat → Bool} {held : Bool}

/-- A cell that is there lies at a plain address. -/
theorem plain_addr {w : World} {a : Addr} {v : Value} (h : w.cell? a = some v) : a = ⟨a.block, a.off, none⟩ := by
  obtain ⟨b, o, s⟩ := a
  cases s with
  | none => rfl
  | some x =>
    exfalso
    unfold World.cell? at h
    simp at h
    split at h <;> simp_all

theorem add_plain' (g o n : Nat) : (⟨g, o, none⟩ : Addr).add n = ⟨g, o + n, none⟩ := by
  unfold Addr.add
  by_cases h : n = 0
  · subst h; rfl
  · simp [h]

theorem cells_at {g o n : Nat} {cs : List Value} (h : w.cells? 0 ⟨g, o, none⟩ n = some cs) : cs.length = n ∧ ∀ i, i < n → w.cell? ⟨g, o + i, none⟩ = cs[i]? := by
  obtain ⟨-, h1, h2⟩ := World.cells?_some h
  refine ⟨h1, fun i hi => ?_⟩
  rw [← h2 i hi, add_plain']

/-- A job that can be read. -/
theorem jb_one {n : Nat} {cs : List Value} {y : DataW H × List MemPlace} (hl : cs.length = 5) (h : DataW.trod enc Tryd.prog w 0 sp held n 49 cs = some y) : ∃ x : Jb, cs = x.vals ∧ y.1 = .agg [.lit (.int .i64 x.k), .lit (.int .i64 x.a), .lit (.int .i64 x.c), .lit (.int .i64 x.d), .lit (.int .i64 x.p)] := by
  match cs, hl with
  | [c0, c1, c2, c3, c4], _ =>
    obtain ⟨xs, n1, rfl, hy, -, hlen, hf⟩ := DataW.trod_struct Tryd.underlying49 h
    match xs, hlen with
    | [y0, y1, y2, y3, y4], _ =>
      have f0 : DataW.trod enc Tryd.prog w 0 sp held n1 3 ((([c0, c1, c2, c3, c4] : List Value).drop 0).take (Tryd.prog.cellsOf 3)) = some y0 := hf 0 _ rfl
      have f1 : DataW.trod enc Tryd.prog w 0 sp held n1 3 ((([c0, c1, c2, c3, c4] : List Value).drop 1).take (Tryd.prog.cellsOf 3)) = some y1 := hf 1 _ rfl
      have f2 : DataW.trod enc Tryd.prog w 0 sp held n1 3 ((([c0, c1, c2, c3, c4] : List Value).drop 2).take (Tryd.prog.cellsOf 3)) = some y2 := hf 2 _ rfl
      have f3 : DataW.trod enc Tryd.prog w 0 sp held n1 3 ((([c0, c1, c2, c3, c4] : List Value).drop 3).take (Tryd.prog.cellsOf 3)) = some y3 := hf 3 _ rfl
      have f4 : DataW.trod enc Tryd.prog w 0 sp held n1 3 ((([c0, c1, c2, c3, c4] : List Value).drop 4).take (Tryd.prog.cellsOf 3)) = some y4 := hf 4 _ rfl
      rw [cells3] at f0 f1 f2 f3 f4
      obtain ⟨k0, e0, g0, -⟩ := DataW.trod_int Tryd.underlying3 (show DataW.trod enc Tryd.prog w 0 sp held n1 3 [c0] = some y0 from f0)
      obtain ⟨k1, e1, g1, -⟩ := DataW.trod_int Tryd.underlying3 (show DataW.trod enc Tryd.prog w 0 sp held n1 3 [c1] = some y1 from f1)
      obtain ⟨k2, e2, g2, -⟩ := DataW.trod_int Tryd.underlying3 (show DataW.trod enc Tryd.prog w 0 sp held n1 3 [c2] = some y2 from f2)
      obtain ⟨k3, e3, g3, -⟩ := DataW.trod_int Tryd.underlying3 (show DataW.trod enc Tryd.prog w 0 sp held n1 3 [c3] = some y3 from f3)
      obtain ⟨k4, e4, g4, -⟩ := DataW.trod_int Tryd.underlying3 (show DataW.trod enc Tryd.prog w 0 sp held n1 3 [c4] = some y4 from f4)
      simp only [List.cons.injEq, and_true] at e0 e1 e2 e3 e4
      refine ⟨⟨k0, k1, k2, k3, k4⟩, by rw [e0, e1, e2, e3, e4]; rfl, ?_⟩
      rw [hy, g0, g1, g2, g3, g4]
      rfl

theorem jb_row {n : Nat} (g : Nat) : ∀ (elems : List (DataW H × List MemPlace)) (o : Nat),
    (∀ i, i < elems.length → (w.cells? 0 ⟨g, o + i * 5, none⟩ 5).bind (DataW.trod enc Tryd.prog w 0 sp held n 49) = elems[i]?) →
    ∃ l : List Jb, l.length = elems.length ∧ ∀ q u, (l.flatMap Jb.vals)[q]? = some u → w.cell? ⟨g, o + q, none⟩ = some u
  | [], o, _ => ⟨[], rfl, fun q u hq => by simp at hq⟩
  | y :: r, o, h => by
    have h0 := h 0 (by simp)
    simp only [Nat.zero_mul, Nat.add_zero, List.getElem?_cons_zero] at h0
    obtain ⟨cs, hc, ht⟩ := Option.bind_eq_some_iff.1 h0
    obtain ⟨hlen, hcell⟩ := cells_at hc
    obtain ⟨x, rfl, -⟩ := jb_one hlen ht
    obtain ⟨l, hl, hrow⟩ := jb_row g r (o + 5) (fun i hi => by
      have := h (i + 1) (by simp; omega)
      rw [show o + (i + 1) * 5 = o + 5 + i * 5 by omega] at this
      simpa using this)
    refine ⟨x :: l, by simp [hl], fun q u hq => ?_⟩
    · rw [List.flatMap_cons] at hq
      by_cases h7 : q < 5
      · rw [List.getElem?_append_left (by rw [Jb.len]; exact h7)] at hq
        rw [hcell q h7]
        exact hq
      · rw [List.getElem?_append_right (by rw [Jb.len]; omega), Jb.len] at hq
        have := hrow (q - 5) u hq
        rw [show o + 5 + (q - 5) = o + q by omega] at this
        exact this

/-- A slice of jobs that can be read. -/
theorem jbSl_of_trod {ad : Option Addr} {n c : Nat} {d : DataW H} {ps : List MemPlace} (h : DataW.Trod enc Tryd.prog w 0 sp held 44 (.slice ad n c) d ps) : ∃ l : List Jb, n = l.length ∧ RowSl Jb.vals w l (.slice ad n c) := by
  obtain ⟨q, hq⟩ := h
  have hcs : (Value.slice ad n c).cells.toList = [.slice ad n c] := rfl
  rw [hcs] at hq
  rcases DataW.trod_slice Tryd.underlying44 hq with ⟨h1, -⟩ | ⟨a, len, cap, elems, rest, n2, -, h1, -, -, hlc, -, hle, hel, -, -⟩
  · simp only [List.cons.injEq, and_true, Value.slice.injEq] at h1
    obtain ⟨rfl, rfl, rfl⟩ := h1
    exact ⟨[], rfl, RowSl.nil _ _⟩
  · simp only [List.cons.injEq, and_true, Value.slice.injEq] at h1
    obtain ⟨rfl, rfl, rfl⟩ := h1
    subst hle
    simp only [cells36] at hel
    cases elems with
    | nil => exact ⟨[], rfl, ⟨_, _, rfl, (fun e => by cases e), Nat.zero_le _, .inl rfl⟩⟩
    | cons z r =>
      have hz := hel 0 (by simp)
      obtain ⟨cs0, hc0, ht0⟩ := Option.bind_eq_some_iff.1 hz
      obtain ⟨-, hlen0, hpl⟩ := World.cells?_some hc0
      obtain ⟨x, rfl, -⟩ := jb_one hlen0 (by simpa using ht0)
      have hpa := plain_addr (w := w) (a := a) (v := .int .i64 x.k) (by simpa [Addr.add, Jb.vals] using hpl 0 (by omega))
      obtain ⟨l, hl, hrow⟩ := jb_row (n := n2) a.block (z :: r) a.off (fun i hi => by
        have := hel i hi
        rw [hpa, add_plain'] at this
        exact this)
      exact ⟨l, hl.symm, ⟨some a, c, by rw [hl], (fun e => by cases e), by omega, .inr ⟨a.block, a.off, by rw [← hpa], hrow⟩⟩⟩

/-- A number that can be read. -/
theorem nu_one {n : Nat} {cs : List Value} {y : DataW H × List MemPlace} (h : DataW.trod enc Tryd.prog w 0 sp held n 3 cs = some y) : ∃ x : Int, cs = nuV x := by
  obtain ⟨k0, e0, -, -⟩ := DataW.trod_int Tryd.underlying3 h
  exact ⟨k0, e0⟩

theorem nu_row {n : Nat} (g : Nat) : ∀ (elems : List (DataW H × List MemPlace)) (o : Nat),
    (∀ i, i < elems.length → (w.cells? 0 ⟨g, o + i * 1, none⟩ 1).bind (DataW.trod enc Tryd.prog w 0 sp held n 3) = elems[i]?) →
    ∃ l : List Int, l.length = elems.length ∧ ∀ q u, (l.flatMap nuV)[q]? = some u → w.cell? ⟨g, o + q, none⟩ = some u
  | [], o, _ => ⟨[], rfl, fun q u hq => by simp at hq⟩
  | y :: r, o, h => by
    have h0 := h 0 (by simp)
    simp only [Nat.zero_mul, Nat.add_zero, List.getElem?_cons_zero] at h0
    obtain ⟨cs, hc, ht⟩ := Option.bind_eq_some_iff.1 h0
    obtain ⟨hlen, hcell⟩ := cells_at hc
    obtain ⟨x, rfl⟩ := nu_one ht
    obtain ⟨l, hl, hrow⟩ := nu_row g r (o + 1) (fun i hi => by
      have := h (i + 1) (by simp; omega)
      rw [show o + (i + 1) * 1 = o + 1 + i * 1 by omega] at this
      simpa using this)
    refine ⟨x :: l, by simp [hl], fun q u hq => ?_⟩
    · rw [List.flatMap_cons] at hq
      by_cases h7 : q < 1
      · rw [List.getElem?_append_left (by rw [nuV_len]; exact h7)] at hq
        rw [hcell q h7]
        exact hq
      · rw [List.getElem?_append_right (by rw [nuV_len]; omega), nuV_len] at hq
        have := hrow (q - 1) u hq
        rw [show o + 1 + (q - 1) = o + q by omega] at this
        exact this

/-- A slice of numbers that can be read. -/
theorem nuSl_of_trod {ad : Option Addr} {n c : Nat} {d : DataW H} {ps : List MemPlace} (h : DataW.Trod enc Tryd.prog w 0 sp held 43 (.slice ad n c) d ps) : ∃ l : List Int, n = l.length ∧ RowSl nuV w l (.slice ad n c) := by
  obtain ⟨q, hq⟩ := h
  have hcs : (Value.slice ad n c).cells.toList = [.slice ad n c] := rfl
  rw [hcs] at hq
  rcases DataW.trod_slice Tryd.underlying43 hq with ⟨h1, -⟩ | ⟨a, len, cap, elems, rest, n2, -, h1, -, -, hlc, -, hle, hel, -, -⟩
  · simp only [List.cons.injEq, and_true, Value.slice.injEq] at h1
    obtain ⟨rfl, rfl, rfl⟩ := h1
    exact ⟨[], rfl, RowSl.nil _ _⟩
  · simp only [List.cons.injEq, and_true, Value.slice.injEq] at h1
    obtain ⟨rfl, rfl, rfl⟩ := h1
    subst hle
    simp only [cells3] at hel
    cases elems with
    | nil => exact ⟨[], rfl, ⟨_, _, rfl, (fun e => by cases e), Nat.zero_le _, .inl rfl⟩⟩
    | cons z r =>
      have hz := hel 0 (by simp)
      obtain ⟨cs0, hc0, ht0⟩ := Option.bind_eq_some_iff.1 hz
      obtain ⟨-, hlen0, hpl⟩ := World.cells?_some hc0
      obtain ⟨x, rfl⟩ := nu_one (by simpa using ht0)
      have hpa := plain_addr (w := w) (a := a) (v := .int .i64 x) (by simpa [Addr.add, nuV] using hpl 0 (by omega))
      obtain ⟨l, hl, hrow⟩ := nu_row (n := n2) a.block (z :: r) a.off (fun i hi => by
        have := hel i hi
        rw [hpa, add_plain'] at this
        exact this)
      exact ⟨l, hl.symm, ⟨some a, c, by rw [hl], (fun e => by cases e), by omega, .inr ⟨a.block, a.off, by rw [← hpa], hrow⟩⟩⟩
end

theorem gNoJob : Tryd.prog.globalNamed "punctual/punctuallaw.noJob" = some 2 := by kernel_rfl
theorem tNoJob : (Tryd.prog.globals[2]?).map (·.type) = some 49 := by kernel_rfl

theorem jbvals_of {x y : Jb} (h : (DataW.agg [.lit (.int .i64 x.k), .lit (.int .i64 x.a), .lit (.int .i64 x.c), .lit (.int .i64 x.d), .lit (.int .i64 x.p)] : DataW Unit) = .agg [.lit (.int .i64 y.k), .lit (.int .i64 y.a), .lit (.int .i64 y.c), .lit (.int .i64 y.d), .lit (.int .i64 y.p)]) : x = y := by
  obtain ⟨x0, x1, x2, x3, x4⟩ := x
  obtain ⟨y0, y1, y2, y3, y4⟩ := y
  simp only [DataW.agg.injEq, List.cons.injEq, DataW.lit.injEq, Lit.int.injEq, true_and, and_true] at h
  obtain ⟨rfl, rfl, rfl, rfl, rfl⟩ := h
  rfl

/-- What the listed variable holds. -/
theorem of_laid {W : World} (h : laidMetH Tryd.prog Rows.schedLateRow.laid W) : JbAt W 2 0 noJ := by
  rw [MakeChecks.laidMetH_plain _ _ _ (by kernel_rfl)] at h
  obtain ⟨ps, ⟨g0, t0, cs0, f0, p0, q0, hg0, ht0, hv0, hd0, _, _⟩, _, _⟩ := h
  obtain rfl := Option.some.inj (gNoJob.symm.trans hg0)
  obtain rfl := Option.some.inj (tNoJob.symm.trans ht0)
  have c0 : ∀ j, W.cell? ⟨2, j, none⟩ = cs0[j]? := World.var?_cell hg0 hv0
  have hlen : cs0.toList.length = 5 := by
    obtain ⟨xs, n1, -, -, hl, -⟩ := DataW.trod_struct Tryd.underlying49 hd0
    rw [hl, cells36]
  obtain ⟨x, hx, hy⟩ := jb_one hlen hd0
  have hxe : x = noJ := jbvals_of (hy.symm.trans rfl)
  subst hxe
  have key : ∀ k u, noJ.vals[k]? = some u → W.cell? ⟨2, k, none⟩ = some u := fun k u hu => by
    rw [c0, ← Array.getElem?_toList, hx]; exact hu
  exact ⟨key 0 _ rfl, key 1 _ rfl, key 2 _ rfl, key 3 _ rfl, key 4 _ rfl⟩

theorem own : ownKnob Tryd.prog.godebug = none := by kernel_rfl
theorem laidOut : laidOutB Tryd.prog = true := by kernel_rfl
theorem reads22 : Tryd.prog.readableRec 44 = true := by kernel_rfl
theorem lt22 : 44 < Tryd.prog.types.size := of_decide_eq_true (by kernel_rfl)
theorem reads26 : Tryd.prog.readableRec 43 = true := by kernel_rfl
theorem lt26 : 43 < Tryd.prog.types.size := of_decide_eq_true (by kernel_rfl)

/-- A world for the witness: the settled one, the variable holding what its initialiser lays. -/
def laidHeap (h : Array Obj) : Array Obj := h.modify 2 fun
  | .cells _ t frozen => .cells #[.int .i64 (-9), .int .i64 0, .int .i64 0, .int .i64 0, .int .i64 0] t frozen
  | o => o

end Go.Proofs.YtdhnjemgnlklkaeDoor
