import Derived.Test.YtkafihaajpifoagDoorLW
import Derived.LaidMore
import Derived.ChangeArms
import Derived.OpenShut
namespace Go.Proofs.YtkafihaajpifoagDoor
open Go.ChangeShapes Go.WideShapes Go.ChangeAt Go.RowKit

theorem cells3 : Tryd.prog.cellsOf 3 = 1 := by kernel_rfl
theorem cells35 : Tryd.prog.cellsOf 35 = 1 := by kernel_rfl
theorem cells48 : Tryd.prog.cellsOf 48 = 2 := by kernel_rfl
theorem cells44 : Tryd.prog.cellsOf 44 = 3 := by kernel_rfl
theorem bytes48 : Tryd.prog.bytesOf 48 = 16 := by kernel_rfl

theorem weightsAll_mem {H : Type} {P : Program} {e : TypeId} : ∀ {l : List (DataW H)} {d : DataW H}, d ∈ l → ∀ q ∈ d.weights P e, q ∈ DataW.weightsAll P e l
  | x :: r, d, h, q, hq => by
    rw [DataW.weightsAll]
    rcases List.mem_cons.1 h with rfl | h
    · exact List.mem_append_left _ hq
    · exact List.mem_append_right _ (weightsAll_mem h q hq)

section
variable {H : Type} {enc : TypeId × Value → H} {w : World} {sp : Nat → Bool} {held : Bool}

/-- A cell that is there lies at a plain address. -/
theorem plain_addr {w : World} {a : Addr} {v : Value} (h : w.cell? a = some v) : a = ⟨a.block, a.off, none⟩ := by
  obtain ⟨b, o, s⟩ := a
  cases s with
  | none => rfl
  | some x =>
    exfalso
    unfold World.cell? at h
    simp at h
    split at h <;> simp_all

theorem add_plain' (g o n : Nat) : (⟨g, o, none⟩ : Addr).add n = ⟨g, o + n, none⟩ := by
  unfold Addr.add
  by_cases h : n = 0
  · subst h; rfl
  · simp [h]

theorem cells_at {g o n : Nat} {cs : List Value} (h : w.cells? 0 ⟨g, o, none⟩ n = some cs) : cs.length = n ∧ ∀ i, i < n → w.cell? ⟨g, o + i, none⟩ = cs[i]? := by
  obtain ⟨-, h1, h2⟩ := World.cells?_some h
  refine ⟨h1, fun i hi => ?_⟩
  rw [← h2 i hi, add_plain']

/-- An act that can be read. -/
theorem ac_one {n : Nat} {cs : List Value} {y : DataW H × List MemPlace} (hl : cs.length = 2) (h : DataW.trod enc Tryd.prog w 0 sp held n 48 cs = some y) : ∃ x : Ac, cs = x.vals ∧ y.1 = .agg [.lit (.int .i64 x.d), .lit (.int .i64 x.n)] := by
  match cs, hl with
  | [c0, c1], _ =>
    obtain ⟨xs, n1, rfl, hy, -, hlen, hf⟩ := DataW.trod_struct Tryd.underlying48 h
    match xs, hlen with
    | [y0, y1], _ =>
      have f0 : DataW.trod enc Tryd.prog w 0 sp held n1 3 ((([c0, c1] : List Value).drop 0).take (Tryd.prog.cellsOf 3)) = some y0 := hf 0 _ rfl
      have f1 : DataW.trod enc Tryd.prog w 0 sp held n1 3 ((([c0, c1] : List Value).drop 1).take (Tryd.prog.cellsOf 3)) = some y1 := hf 1 _ rfl
      rw [cells3] at f0 f1
      obtain ⟨k0, e0, g0, -⟩ := DataW.trod_int Tryd.underlying3 (show DataW.trod enc Tryd.prog w 0 sp held n1 3 [c0] = some y0 from f0)
      obtain ⟨k1, e1, g1, -⟩ := DataW.trod_int Tryd.underlying3 (show DataW.trod enc Tryd.prog w 0 sp held n1 3 [c1] = some y1 from f1)
      simp only [List.cons.injEq, and_true] at e0 e1
      refine ⟨⟨k0, k1⟩, by rw [e0, e1]; rfl, ?_⟩
      rw [hy, g0, g1]
      rfl

theorem ac_row {n : Nat} (g : Nat) : ∀ (elems : List (DataW H × List MemPlace)) (o : Nat),
    (∀ i, i < elems.length → (w.cells? 0 ⟨g, o + i * 2, none⟩ 2).bind (DataW.trod enc Tryd.prog w 0 sp held n 48) = elems[i]?) →
    ∃ l : List Ac, l.length = elems.length ∧ ∀ q u, (l.flatMap Ac.vals)[q]? = some u → w.cell? ⟨g, o + q, none⟩ = some u
  | [], o, _ => ⟨[], rfl, fun q u hq => by simp at hq⟩
  | y :: r, o, h => by
    have h0 := h 0 (by simp)
    simp only [Nat.zero_mul, Nat.add_zero, List.getElem?_cons_zero] at h0
    obtain ⟨cs, hc, ht⟩ := Option.bind_eq_some_iff.1 h0
    obtain ⟨hlen, hcell⟩ := cells_at hc
    obtain ⟨x, rfl, -⟩ := ac_one hlen ht
    obtain ⟨l, hl, hrow⟩ := ac_row g r (o + 2) (fun i hi => by
      have := h (i + 1) (by simp; omega)
      rw [show o + (i + 1) * 2 = o + 2 + i * 2 by omega] at this
      simpa using this)
    refine ⟨x :: l, by simp [hl], fun q u hq => ?_⟩
    rw [List.flatMap_cons] at hq
    by_cases h7 : q < 2
    · rw [List.getElem?_append_left (by rw [Ac.len]; exact h7)] at hq
      rw [hcell q h7]
      exact hq
    · rw [List.getElem?_append_right (by rw [Ac.len]; omega), Ac.len] at hq
      have := hrow (q - 2) u hq
      rw [show o + 2 + (q - 2) = o + q by omega] at this
      exact this

/-- A slice of acts that can be read. -/
theorem acSl_of {ad : Option Addr} {n c k : Nat} {y : DataW H × List MemPlace} (hq : DataW.trod enc Tryd.prog w 0 sp held k 35 [.slice ad n c] = some y) : ∃ l : List Ac, n = l.length ∧ RowSl Ac.vals w l (.slice ad n c) ∧ ∀ R, (∀ q ∈ y.1.weights Tryd.prog 35, q ≤ R) → l.length * 16 ≤ R := by
  rcases DataW.trod_slice Tryd.underlying35 hq with ⟨h1, -⟩ | ⟨a, len, cap, elems, rest, n2, -, h1, hy, -, hlc, -, hle, hel, -, -⟩
  · simp only [List.cons.injEq, and_true, Value.slice.injEq] at h1
    obtain ⟨rfl, rfl, rfl⟩ := h1
    exact ⟨[], rfl, RowSl.nil _ _, fun R _ => by simp⟩
  · simp only [List.cons.injEq, and_true, Value.slice.injEq] at h1
    obtain ⟨rfl, rfl, rfl⟩ := h1
    subst hle
    simp only [cells48] at hel
    have hwt : ∀ R, (∀ q ∈ y.1.weights Tryd.prog 35, q ≤ R) → elems.length * 16 ≤ R := fun R hR => by
      have := hR ((elems.length + rest.length) * 16) (by
        rw [hy]
        simp only [DataW.weights, Tryd.underlying35, bytes48, List.length_map]
        exact List.mem_cons_self ..)
      omega
    cases elems with
    | nil => exact ⟨[], rfl, ⟨_, _, rfl, (fun e => by cases e), Nat.zero_le _, .inl rfl⟩, fun R _ => by simp⟩
    | cons z r =>
      have hz := hel 0 (by simp)
      obtain ⟨cs0, hc0, ht0⟩ := Option.bind_eq_some_iff.1 hz
      obtain ⟨-, hlen0, hpl⟩ := World.cells?_some hc0
      obtain ⟨x, rfl, -⟩ := ac_one hlen0 (by simpa using ht0)
      have hpa := plain_addr (w := w) (a := a) (v := .int .i64 x.d) (by simpa [Addr.add, Ac.vals] using hpl 0 (by omega))
      obtain ⟨l, hl, hrow⟩ := ac_row (n := n2) a.block (z :: r) a.off (fun i hi => by
        have := hel i hi
        rw [hpa, add_plain'] at this
        exact this)
      exact ⟨l, hl.symm, ⟨some a, c, by rw [hl], (fun e => by cases e), by omega, .inr ⟨a.block, a.off, by rw [← hpa], hrow⟩⟩, fun R hR => by rw [hl]; exact hwt R hR⟩

/-- A job that can be read. -/
theorem lk_one {n : Nat} {cs : List Value} {y : DataW H × List MemPlace} (hl : cs.length = 3) (h : DataW.trod enc Tryd.prog w 0 sp held n 44 cs = some y) : ∃ x : Lj, cs = x.vals ∧ RowSl Ac.vals w x.acts x.v ∧ ∀ R, (∀ q ∈ y.1.weights Tryd.prog 44, q ≤ R) → x.acts.length * 16 ≤ R := by
  match cs, hl with
  | [c0, c1, c2], _ =>
    obtain ⟨xs, n1, rfl, hy, -, hlen, hf⟩ := DataW.trod_struct Tryd.underlying44 h
    match xs, hlen with
    | [y0, y1, y2], _ =>
      have f0 : DataW.trod enc Tryd.prog w 0 sp held n1 3 ((([c0, c1, c2] : List Value).drop 0).take (Tryd.prog.cellsOf 3)) = some y0 := hf 0 _ rfl
      have f1 : DataW.trod enc Tryd.prog w 0 sp held n1 3 ((([c0, c1, c2] : List Value).drop 1).take (Tryd.prog.cellsOf 3)) = some y1 := hf 1 _ rfl
      have f2 : DataW.trod enc Tryd.prog w 0 sp held n1 35 ((([c0, c1, c2] : List Value).drop 2).take (Tryd.prog.cellsOf 35)) = some y2 := hf 2 _ rfl
      rw [cells3] at f0 f1
      rw [cells35] at f2
      obtain ⟨k0, e0, g0, -⟩ := DataW.trod_int Tryd.underlying3 (show DataW.trod enc Tryd.prog w 0 sp held n1 3 [c0] = some y0 from f0)
      obtain ⟨k1, e1, g1, -⟩ := DataW.trod_int Tryd.underlying3 (show DataW.trod enc Tryd.prog w 0 sp held n1 3 [c1] = some y1 from f1)
      simp only [List.cons.injEq, and_true] at e0 e1
      have f2' : DataW.trod enc Tryd.prog w 0 sp held n1 35 [c2] = some y2 := f2
      obtain ⟨ad, m, c, rfl⟩ : ∃ ad m c, c2 = .slice ad m c := by
        rcases DataW.trod_slice Tryd.underlying35 f2' with ⟨h1, -⟩ | ⟨a, len, cap, _, _, _, -, h1, -⟩
        · simp only [List.cons.injEq, and_true] at h1
          exact ⟨_, _, _, h1⟩
        · simp only [List.cons.injEq, and_true] at h1
          exact ⟨_, _, _, h1⟩
      obtain ⟨l, rfl, hrow, hw⟩ := acSl_of f2'
      refine ⟨⟨k0, k1, l, .slice ad l.length c⟩, by rw [e0, e1]; rfl, hrow, fun R hR => hw R fun q hq => hR q ?_⟩
      rw [hy]
      simp only [DataW.weights, Tryd.underlying44, List.map_cons, List.map_nil, DataW.weightsEach]
      exact List.mem_append_right _ (List.mem_append_right _ (List.mem_append_left _ hq))

theorem lk_row {n : Nat} (g : Nat) : ∀ (elems : List (DataW H × List MemPlace)) (o : Nat),
    (∀ i, i < elems.length → (w.cells? 0 ⟨g, o + i * 3, none⟩ 3).bind (DataW.trod enc Tryd.prog w 0 sp held n 44) = elems[i]?) →
    ∃ l : List Lj, l.length = elems.length ∧ (∀ q u, (l.flatMap Lj.vals)[q]? = some u → w.cell? ⟨g, o + q, none⟩ = some u) ∧ (∀ x ∈ l, RowSl Ac.vals w x.acts x.v) ∧ ∀ R, (∀ y ∈ elems, ∀ q ∈ y.1.weights Tryd.prog 44, q ≤ R) → ∀ x ∈ l, x.acts.length * 16 ≤ R
  | [], o, _ => ⟨[], rfl, (fun q u hq => by simp at hq), (fun x hx => by simp at hx), fun R _ x hx => by simp at hx⟩
  | y :: r, o, h => by
    have h0 := h 0 (by simp)
    simp only [Nat.zero_mul, Nat.add_zero, List.getElem?_cons_zero] at h0
    obtain ⟨cs, hc, ht⟩ := Option.bind_eq_some_iff.1 h0
    obtain ⟨hlen, hcell⟩ := cells_at hc
    obtain ⟨x, rfl, hx1, hx2⟩ := lk_one hlen ht
    obtain ⟨l, hl, hrow, ha, hw⟩ := lk_row g r (o + 3) (fun i hi => by
      have := h (i + 1) (by simp; omega)
      rw [show o + (i + 1) * 3 = o + 3 + i * 3 by omega] at this
      simpa using this)
    refine ⟨x :: l, by simp [hl], fun q u hq => ?_, fun z hz => ?_, fun R hR z hz => ?_⟩
    · rw [List.flatMap_cons] at hq
      by_cases h7 : q < 3
      · rw [List.getElem?_append_left (by rw [Lj.len]; exact h7)] at hq
        rw [hcell q h7]
        exact hq
      · rw [List.getElem?_append_right (by rw [Lj.len]; omega), Lj.len] at hq
        have := hrow (q - 3) u hq
        rw [show o + 3 + (q - 3) = o + q by omega] at this
        exact this
    · rcases List.mem_cons.1 hz with rfl | hz
      · exact hx1
      · exact ha z hz
    · rcases List.mem_cons.1 hz with rfl | hz
      · exact hx2 R (hR y (List.mem_cons_self ..))
      · exact hw R (fun y' hy' => hR y' (List.mem_cons_of_mem _ hy')) z hz

/-- A slice of jobs that can be read. -/
theorem lkSl_of_trod {ad : Option Addr} {n c : Nat} {d : DataW H} {ps : List MemPlace} (h : DataW.Trod enc Tryd.prog w 0 sp held 36 (.slice ad n c) d ps) : ∃ l : List Lj, n = l.length ∧ LkSl w l (.slice ad n c) ∧ ∀ R, (∀ q ∈ d.weights Tryd.prog 36, q ≤ R) → ∀ x ∈ l, x.acts.length * 16 ≤ R := by
  obtain ⟨q, hq⟩ := h
  have hcs : (Value.slice ad n c).cells.toList = [.slice ad n c] := rfl
  rw [hcs] at hq
  rcases DataW.trod_slice Tryd.underlying36 hq with ⟨h1, -⟩ | ⟨a, len, cap, elems, rest, n2, -, h1, hy, -, hlc, -, hle, hel, -, -⟩
  · simp only [List.cons.injEq, and_true, Value.slice.injEq] at h1
    obtain ⟨rfl, rfl, rfl⟩ := h1
    exact ⟨[], rfl, ⟨RowSl.nil _ _, fun x hx => by simp at hx⟩, fun R _ x hx => by simp at hx⟩
  · simp only [List.cons.injEq, and_true, Value.slice.injEq] at h1
    obtain ⟨rfl, rfl, rfl⟩ := h1
    subst hle
    simp only [cells44] at hel
    simp only [Prod.mk.injEq] at hy
    cases elems with
    | nil => exact ⟨[], rfl, ⟨⟨_, _, rfl, (fun e => by cases e), Nat.zero_le _, .inl rfl⟩, fun x hx => by simp at hx⟩, fun R _ x hx => by simp at hx⟩
    | cons z r =>
      have hz := hel 0 (by simp)
      obtain ⟨cs0, hc0, ht0⟩ := Option.bind_eq_some_iff.1 hz
      obtain ⟨-, hlen0, hpl⟩ := World.cells?_some hc0
      obtain ⟨x, rfl, -⟩ := lk_one hlen0 (by simpa using ht0)
      have hpa := plain_addr (w := w) (a := a) (v := .int .i64 x.a) (by simpa [Addr.add, Lj.vals] using hpl 0 (by omega))
      obtain ⟨l, hl, hrow, ha, hw⟩ := lk_row (n := n2) a.block (z :: r) a.off (fun i hi => by
        have := hel i hi
        rw [hpa, add_plain'] at this
        exact this)
      refine ⟨l, hl.symm, ⟨⟨some a, c, by rw [hl], (fun e => by cases e), by omega, .inr ⟨a.block, a.off, by rw [← hpa], hrow⟩⟩, ha⟩, fun R hR => hw R fun y hy2 q hq2 => hR q ?_⟩
      rw [hy.1]
      simp only [DataW.weights, Tryd.underlying36]
      exact List.mem_cons_of_mem _ (List.mem_append_left _ (weightsAll_mem (List.mem_map_of_mem hy2) q hq2))
end

theorem gNoAct : Tryd.prog.globalNamed "punctual/punctuallaw.noAct" = some 1 := by kernel_rfl
theorem tNoAct' : (Tryd.prog.globals[1]?).map (·.type) = some 48 := by kernel_rfl

/-- What the listed variable holds. -/
theorem of_laid {W : World} (h : laidMetH Tryd.prog Rows.locksChecksRow.laid W) : AcAt W 1 0 noA := by
  rw [MakeChecks.laidMetH_plain _ _ _ (by kernel_rfl)] at h
  obtain ⟨ps, ⟨g0, t0, cs0, f0, p0, q0, hg0, ht0, hv0, hd0, _, _⟩, _, _⟩ := h
  obtain rfl := Option.some.inj (gNoAct.symm.trans hg0)
  obtain rfl := Option.some.inj (tNoAct'.symm.trans ht0)
  have c0 : ∀ j, W.cell? ⟨1, j, none⟩ = cs0[j]? := World.var?_cell hg0 hv0
  have hlen : cs0.toList.length = 2 := by
    obtain ⟨xs, n1, -, -, hl, -⟩ := DataW.trod_struct Tryd.underlying48 hd0
    rw [hl, cells48]
  obtain ⟨x, hx, hy⟩ := ac_one hlen hd0
  have hxe : x = noA := by
    have h9 : (DataW.agg [.lit (.int .i64 x.d), .lit (.int .i64 x.n)] : DataW Unit) = .agg [.lit (.int .i64 (-9)), .lit (.int .i64 0)] := hy.symm.trans rfl
    obtain ⟨xd, xn⟩ := x
    simp only [DataW.agg.injEq, List.cons.injEq, DataW.lit.injEq, Lit.int.injEq, true_and, and_true] at h9
    obtain ⟨rfl, rfl⟩ := h9
    rfl
  subst hxe
  have key : ∀ k u, noA.vals[k]? = some u → W.cell? ⟨1, k, none⟩ = some u := fun k u hu => by
    rw [c0, ← Array.getElem?_toList, hx]; exact hu
  exact ⟨key 0 _ rfl, key 1 _ rfl⟩
end Go.Proofs.YtkafihaajpifoagDoor
