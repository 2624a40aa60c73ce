import Derived.Test.YtkafihaajpifoakCK
import Derived.LaidMore
import Derived.ChangeArms
import Derived.OpenShut
import Derived.WideKeyArgs
import Derived.Deep.DeepHandedRow
namespace Go.Proofs.Ytkafihaajpifoak
open Go.ChangeShapes Go.WideShapes Go.ChangeAt Go.RowKit

theorem cells3 : Try.prog.cellsOf 3 = 1 := by kernel_rfl
theorem cells22 : Try.prog.cellsOf 22 = 1 := by kernel_rfl
theorem bytes3 : Try.prog.bytesOf 3 = 8 := by kernel_rfl

theorem weightsAll_mem {H : Type} {P : Program} {e : TypeId} : ∀ {l : List (DataW H)} {d : DataW H}, d ∈ l → ∀ q ∈ d.weights P e, q ∈ DataW.weightsAll P e l
  | x :: r, d, h, q, hq => by
    rw [DataW.weightsAll]
    rcases List.mem_cons.1 h with rfl | h
    · exact List.mem_append_left _ hq
    · exact List.mem_append_right _ (weightsAll_mem h q hq)

section
variable {H : Type} {enc : TypeId × Value → H} {w : World} {sp : Nat → Bool} {held : Bool}

/-- A cell that is there lies at a plain address. -/
theorem plain_addr {w : World} {a : Addr} {v : Value} (h : w.cell? a = some v) : a = ⟨a.block, a.off, none⟩ := by
  obtain ⟨b, o, s⟩ := a
  cases s with
  | none => rfl
  | some x =>
    exfalso
    unfold World.cell? at h
    simp at h
    split at h <;> simp_all

theorem add_plain' (g o n : Nat) : (⟨g, o, none⟩ : Addr).add n = ⟨g, o + n, none⟩ := by
  unfold Addr.add
  by_cases h : n = 0
  · subst h; rfl
  · simp [h]

theorem cells_at {g o n : Nat} {cs : List Value} (h : w.cells? 0 ⟨g, o, none⟩ n = some cs) : cs.length = n ∧ ∀ i, i < n → w.cell? ⟨g, o + i, none⟩ = cs[i]? := by
  obtain ⟨-, h1, h2⟩ := World.cells?_some h
  refine ⟨h1, fun i hi => ?_⟩
  rw [← h2 i hi, add_plain']

/-- A number that can be read. -/
theorem nu_one {n : Nat} {cs : List Value} {y : DataW H × List MemPlace} (h : DataW.trod enc Try.prog w 0 sp held n 3 cs = some y) : ∃ x : Int, cs = nuV x := by
  obtain ⟨k0, e0, -, -⟩ := DataW.trod_int Try.underlying3 h
  exact ⟨k0, e0⟩

theorem nu_row {n : Nat} (g : Nat) : ∀ (elems : List (DataW H × List MemPlace)) (o : Nat),
    (∀ i, i < elems.length → (w.cells? 0 ⟨g, o + i * 1, none⟩ 1).bind (DataW.trod enc Try.prog w 0 sp held n 3) = elems[i]?) →
    ∃ l : List Int, l.length = elems.length ∧ ∀ q u, (l.flatMap nuV)[q]? = some u → w.cell? ⟨g, o + q, none⟩ = some u
  | [], o, _ => ⟨[], rfl, fun q u hq => by simp at hq⟩
  | y :: r, o, h => by
    have h0 := h 0 (by simp)
    simp only [Nat.zero_mul, Nat.add_zero, List.getElem?_cons_zero] at h0
    obtain ⟨cs, hc, ht⟩ := Option.bind_eq_some_iff.1 h0
    obtain ⟨hlen, hcell⟩ := cells_at hc
    obtain ⟨x, rfl⟩ := nu_one ht
    obtain ⟨l, hl, hrow⟩ := nu_row g r (o + 1) (fun i hi => by
      have := h (i + 1) (by simp; omega)
      rw [show o + (i + 1) * 1 = o + 1 + i * 1 by omega] at this
      simpa using this)
    refine ⟨x :: l, by simp [hl], fun q u hq => ?_⟩
    · rw [List.flatMap_cons] at hq
      by_cases h7 : q < 1
      · rw [List.getElem?_append_left (by rw [nuV_len]; exact h7)] at hq
        rw [hcell q h7]
        exact hq
      · rw [List.getElem?_append_right (by rw [nuV_len]; omega), nuV_len] at hq
        have := hrow (q - 1) u hq
        rw [show o + 1 + (q - 1) = o + q by omega] at this
        exact this

/-- A slice of numbers that can be read. -/
theorem nuSl_of {ad : Option Addr} {n c k : Nat} {y : DataW H × List MemPlace} (hq : DataW.trod enc Try.prog w 0 sp held k 22 [.slice ad n c] = some y) : ∃ l : List Int, n = l.length ∧ RowSl nuV w l (.slice ad n c) ∧ ∀ R, (∀ q ∈ y.1.weights Try.prog 22, q ≤ R) → l.length * 8 ≤ R := by
  rcases DataW.trod_slice Try.underlying22 hq with ⟨h1, -⟩ | ⟨a, len, cap, elems, rest, n2, -, h1, hy, -, hlc, -, hle, hel, -, -⟩
  · simp only [List.cons.injEq, and_true, Value.slice.injEq] at h1
    obtain ⟨rfl, rfl, rfl⟩ := h1
    exact ⟨[], rfl, RowSl.nil _ _, fun R _ => by simp⟩
  · simp only [List.cons.injEq, and_true, Value.slice.injEq] at h1
    obtain ⟨rfl, rfl, rfl⟩ := h1
    subst hle
    simp only [cells3] at hel
    have hwt : ∀ R, (∀ q ∈ y.1.weights Try.prog 22, q ≤ R) → elems.length * 8 ≤ R := fun R hR => by
      have := hR ((elems.length + rest.length) * 8) (by
        rw [hy]
        simp only [DataW.weights, Try.underlying22, bytes3, List.length_map]
        exact List.mem_cons_self ..)
      omega
    cases elems with
    | nil => exact ⟨[], rfl, ⟨_, _, rfl, (fun e => by cases e), Nat.zero_le _, .inl rfl⟩, fun R _ => by simp⟩
    | cons z r =>
      have hz := hel 0 (by simp)
      obtain ⟨cs0, hc0, ht0⟩ := Option.bind_eq_some_iff.1 hz
      obtain ⟨-, hlen0, hpl⟩ := World.cells?_some hc0
      obtain ⟨x, rfl⟩ := nu_one (by simpa using ht0)
      have hpa := plain_addr (w := w) (a := a) (v := .int .i64 x) (by simpa [Addr.add, nuV] using hpl 0 (by omega))
      obtain ⟨l, hl, hrow⟩ := nu_row (n := n2) a.block (z :: r) a.off (fun i hi => by
        have := hel i hi
        rw [hpa, add_plain'] at this
        exact this)
      exact ⟨l, hl.symm, ⟨some a, c, by rw [hl], (fun e => by cases e), by omega, .inr ⟨a.block, a.off, by rw [← hpa], hrow⟩⟩, fun R hR => by rw [hl]; exact hwt R hR⟩

/-- A slice of numbers that can be read. -/
theorem nuSl_of_trod {ad : Option Addr} {n c : Nat} {d : DataW H} {ps : List MemPlace} (h : DataW.Trod enc Try.prog w 0 sp held 22 (.slice ad n c) d ps) : ∃ l : List Int, n = l.length ∧ RowSl nuV w l (.slice ad n c) := by
  obtain ⟨q, hq⟩ := h
  have hcs : (Value.slice ad n c).cells.toList = [.slice ad n c] := rfl
  rw [hcs] at hq
  obtain ⟨l, h1, h2, -⟩ := nuSl_of hq
  exact ⟨l, h1, h2⟩

/-- A row that can be read. -/
theorem tb_one {n : Nat} {cs : List Value} {y : DataW H × List MemPlace} (hl : cs.length = 1) (h : DataW.trod enc Try.prog w 0 sp held n 22 cs = some y) : ∃ x : Ro, cs = x.vals ∧ RowSl nuV w x.xs x.v ∧ ∀ R, (∀ q ∈ y.1.weights Try.prog 22, q ≤ R) → x.xs.length * 8 ≤ R := by
  match cs, hl with
  | [c2], _ =>
    obtain ⟨ad, m, c, rfl⟩ : ∃ ad m c, c2 = .slice ad m c := by
      rcases DataW.trod_slice Try.underlying22 h with ⟨h1, -⟩ | ⟨a, len, cap, _, _, _, -, h1, -⟩
      · simp only [List.cons.injEq, and_true] at h1
        exact ⟨_, _, _, h1⟩
      · simp only [List.cons.injEq, and_true] at h1
        exact ⟨_, _, _, h1⟩
    obtain ⟨l, rfl, hrow, hw⟩ := nuSl_of h
    exact ⟨⟨l, .slice ad l.length c⟩, rfl, hrow, hw⟩

theorem tb_row {n : Nat} (g : Nat) : ∀ (elems : List (DataW H × List MemPlace)) (o : Nat),
    (∀ i, i < elems.length → (w.cells? 0 ⟨g, o + i * 1, none⟩ 1).bind (DataW.trod enc Try.prog w 0 sp held n 22) = elems[i]?) →
    ∃ l : List Ro, l.length = elems.length ∧ (∀ q u, (l.flatMap Ro.vals)[q]? = some u → w.cell? ⟨g, o + q, none⟩ = some u) ∧ (∀ x ∈ l, RowSl nuV w x.xs x.v) ∧ ∀ R, (∀ y ∈ elems, ∀ q ∈ y.1.weights Try.prog 22, q ≤ R) → ∀ x ∈ l, x.xs.length * 8 ≤ R
  | [], o, _ => ⟨[], rfl, (fun q u hq => by simp at hq), (fun x hx => by simp at hx), fun R _ x hx => by simp at hx⟩
  | y :: r, o, h => by
    have h0 := h 0 (by simp)
    simp only [Nat.zero_mul, Nat.add_zero, List.getElem?_cons_zero] at h0
    obtain ⟨cs, hc, ht⟩ := Option.bind_eq_some_iff.1 h0
    obtain ⟨hlen, hcell⟩ := cells_at hc
    obtain ⟨x, rfl, hx1, hx2⟩ := tb_one hlen ht
    obtain ⟨l, hl, hrow, ha, hw⟩ := tb_row g r (o + 1) (fun i hi => by
      have := h (i + 1) (by simp; omega)
      rw [show o + (i + 1) * 1 = o + 1 + i * 1 by omega] at this
      simpa using this)
    refine ⟨x :: l, by simp [hl], fun q u hq => ?_, fun z hz => ?_, fun R hR z hz => ?_⟩
    · rw [List.flatMap_cons] at hq
      by_cases h7 : q < 1
      · rw [List.getElem?_append_left (by rw [Ro.len]; exact h7)] at hq
        rw [hcell q h7]
        exact hq
      · rw [List.getElem?_append_right (by rw [Ro.len]; omega), Ro.len] at hq
        have := hrow (q - 1) u hq
        rw [show o + 1 + (q - 1) = o + q by omega] at this
        exact this
    · rcases List.mem_cons.1 hz with rfl | hz
      · exact hx1
      · exact ha z hz
    · rcases List.mem_cons.1 hz with rfl | hz
      · exact hx2 R (hR y (List.mem_cons_self ..))
      · exact hw R (fun y' hy' => hR y' (List.mem_cons_of_mem _ hy')) z hz

/-- A slice of rows that can be read. -/
theorem tbSl_of_trod {ad : Option Addr} {n c : Nat} {d : DataW H} {ps : List MemPlace} (h : DataW.Trod enc Try.prog w 0 sp held 23 (.slice ad n c) d ps) : ∃ l : List Ro, n = l.length ∧ TabSl w l (.slice ad n c) ∧ ∀ R, (∀ q ∈ d.weights Try.prog 23, q ≤ R) → ∀ x ∈ l, x.xs.length * 8 ≤ R := by
  obtain ⟨q, hq⟩ := h
  have hcs : (Value.slice ad n c).cells.toList = [.slice ad n c] := rfl
  rw [hcs] at hq
  rcases DataW.trod_slice Try.underlying23 hq with ⟨h1, -⟩ | ⟨a, len, cap, elems, rest, n2, -, h1, hy, -, hlc, -, hle, hel, -, -⟩
  · simp only [List.cons.injEq, and_true, Value.slice.injEq] at h1
    obtain ⟨rfl, rfl, rfl⟩ := h1
    exact ⟨[], rfl, ⟨RowSl.nil _ _, fun x hx => by simp at hx⟩, fun R _ x hx => by simp at hx⟩
  · simp only [List.cons.injEq, and_true, Value.slice.injEq] at h1
    obtain ⟨rfl, rfl, rfl⟩ := h1
    subst hle
    simp only [cells22] at hel
    simp only [Prod.mk.injEq] at hy
    cases elems with
    | nil => exact ⟨[], rfl, ⟨⟨_, _, rfl, (fun e => by cases e), Nat.zero_le _, .inl rfl⟩, fun x hx => by simp at hx⟩, fun R _ x hx => by simp at hx⟩
    | cons z r =>
      have hz := hel 0 (by simp)
      obtain ⟨cs0, hc0, ht0⟩ := Option.bind_eq_some_iff.1 hz
      obtain ⟨-, hlen0, hpl⟩ := World.cells?_some hc0
      obtain ⟨x, rfl, -⟩ := tb_one hlen0 (by simpa using ht0)
      have hpa := plain_addr (w := w) (a := a) (v := x.v) (by simpa [Addr.add, Ro.vals] using hpl 0 (by omega))
      obtain ⟨l, hl, hrow, ha, hw⟩ := tb_row (n := n2) a.block (z :: r) a.off (fun i hi => by
        have := hel i hi
        rw [hpa, add_plain'] at this
        exact this)
      refine ⟨l, hl.symm, ⟨⟨some a, c, by rw [hl], (fun e => by cases e), by omega, .inr ⟨a.block, a.off, by rw [← hpa], hrow⟩⟩, ha⟩, fun R hR => hw R fun y hy2 q hq2 => hR q ?_⟩
      rw [hy.1]
      simp only [DataW.weights, Try.underlying23]
      exact List.mem_cons_of_mem _ (List.mem_append_left _ (weightsAll_mem (List.mem_map_of_mem hy2) q hq2))
end

theorem own : ownKnob Try.prog.godebug = none := by kernel_rfl
theorem laidOut : laidOutB Try.prog = true := by kernel_rfl
theorem reads23 : Try.prog.readableRec 23 = true := by kernel_rfl
theorem lt23 : 23 < Try.prog.types.size := of_decide_eq_true (by kernel_rfl)
theorem reads3 : Try.prog.readableRec 3 = true := by kernel_rfl
theorem lt3 : 3 < Try.prog.types.size := of_decide_eq_true (by kernel_rfl)
theorem reads22 : Try.prog.readableRec 22 = true := by kernel_rfl
theorem lt22 : 22 < Try.prog.types.size := of_decide_eq_true (by kernel_rfl)

set_option maxRecDepth 20000 in
theorem contractK (H : Type) (enc : TypeId × Value → H) (W : World) (base : Nat) (args : Array Value) (ds gs : List (DataW H)) (before : List MemPlace)
    (hval : ∀ (j : Nat) t v, Try.f3.params[j]? = some t → args[j]? = some v → Value.okWide Try.prog W .any base t v)
    (hW : DataW.Whole enc Try.prog Try.f3.params.toList Rows.clockCloseSpec.vars false W args.toList ds gs before) :
    Calls Try.prog 3 args W fun e W' => ∃ v, e = .returned v ∧ Rows.clockCloseSpec.post enc Try.prog Try.f3 false true false false W args v W' := by
  have hW' := hW
  obtain ⟨p, q, hA0, hV, rfl, hfz, hnd⟩ := hW
  have hA : DataW.TrodAll enc Try.prog W 0 (fun _ => true) true Try.f3.params.toList args.toList ds p := hA0
  rw [Try.params3] at hA hval
  obtain ⟨v0, vs0, d0, ds0, p0, q0, hargs0, rfl, rfl, h0, r0⟩ := trodAll_cons hA
  obtain ⟨v1, vs1, d1, ds1, p1, q1, hargs1, rfl, rfl, h1, r1⟩ := trodAll_cons r0
  obtain ⟨v2, vs2, d2, ds2, p2, q2, hargs2, rfl, rfl, h2, r2⟩ := trodAll_cons r1
  obtain ⟨v3, vs3, d3, ds3, p3, q3, hargs3, rfl, rfl, h3, r3⟩ := trodAll_cons r2
  obtain ⟨v4, vs4, d4, ds4, p4, q4, hargs4, rfl, rfl, h4, r4⟩ := trodAll_cons r3
  obtain ⟨v5, vs5, d5, ds5, p5, q5, hargs5, rfl, rfl, h5, r5⟩ := trodAll_cons r4
  obtain ⟨v6, vs6, d6, ds6, p6, q6, hargs6, rfl, rfl, h6, r6⟩ := trodAll_cons r5
  obtain ⟨rfl, rfl, rfl⟩ := trodAll_nil r6
  obtain rfl : args = #[v0, v1, v2, v3, v4, v5, v6] := Array.toList_inj.1 (by rw [hargs0, hargs1, hargs2, hargs3, hargs4, hargs5, hargs6])
  obtain ⟨rfl, rfl⟩ := trodVars_none hV
  obtain ⟨ad0, len0, cap0, rfl⟩ := okWide_slice Try.underlying22 (hval 0 22 v0 (by simp) (by simp))
  obtain ⟨n1, rfl⟩ := okWide_int Try.underlying3 (hval 1 3 v1 (by simp) (by simp))
  obtain ⟨ad2, len2, cap2, rfl⟩ := okWide_slice Try.underlying23 (hval 2 23 v2 (by simp) (by simp))
  obtain ⟨n3, rfl⟩ := okWide_int Try.underlying3 (hval 3 3 v3 (by simp) (by simp))
  obtain ⟨ad4, len4, cap4, rfl⟩ := okWide_slice Try.underlying22 (hval 4 22 v4 (by simp) (by simp))
  obtain ⟨n5, rfl⟩ := okWide_int Try.underlying3 (hval 5 3 v5 (by simp) (by simp))
  obtain ⟨n6, rfl⟩ := okWide_int Try.underlying3 (hval 6 3 v6 (by simp) (by simp))
  clear hA0 hargs0 hargs1 hargs2 hargs3 hargs4 hargs5 hargs6
  simp only [List.append_nil] at hW'
  obtain ⟨cl, rfl, hcl⟩ := nuSl_of_trod h0
  obtain ⟨nl, rfl, hnl, -⟩ := tbSl_of_trod h2
  obtain ⟨dr, rfl, hdr⟩ := nuSl_of_trod h4
  refine (close_walk W cl n1 nl n3 dr n5 n6 _ _ _ hcl hnl hdr).mono fun e W' ⟨he, hbel⟩ => ?_
  subst he
  have hlt0 : ∀ x ∈ p0, x.block < W.heap.size := fun x hx => by
    obtain ⟨n, hn⟩ := h0
    exact DataW.trod_lt n _ _ _ hn x hx
  have hlt1 : ∀ x ∈ p1, x.block < W.heap.size := fun x hx => by
    obtain ⟨n, hn⟩ := h1
    exact DataW.trod_lt n _ _ _ hn x hx
  have hlt2 : ∀ x ∈ p2, x.block < W.heap.size := fun x hx => by
    obtain ⟨n, hn⟩ := h2
    exact DataW.trod_lt n _ _ _ hn x hx
  have hlt3 : ∀ x ∈ p3, x.block < W.heap.size := fun x hx => by
    obtain ⟨n, hn⟩ := h3
    exact DataW.trod_lt n _ _ _ hn x hx
  have hlt4 : ∀ x ∈ p4, x.block < W.heap.size := fun x hx => by
    obtain ⟨n, hn⟩ := h4
    exact DataW.trod_lt n _ _ _ hn x hx
  have hlt5 : ∀ x ∈ p5, x.block < W.heap.size := fun x hx => by
    obtain ⟨n, hn⟩ := h5
    exact DataW.trod_lt n _ _ _ hn x hx
  have hlt6 : ∀ x ∈ p6, x.block < W.heap.size := fun x hx => by
    obtain ⟨n, hn⟩ := h6
    exact DataW.trod_lt n _ _ _ hn x hx
  refine ⟨_, rfl, [d0, d1, d2, d3, d4, d5, d6], [], p0 ++ (p1 ++ (p2 ++ (p3 ++ (p4 ++ (p5 ++ p6))))), [], p0 ++ (p1 ++ (p2 ++ (p3 ++ (p4 ++ (p5 ++ p6))))), [], hW', trodAll_mk1 (shut_bool Try.underlying4 _), ?_, rfl, hbel.frame _, fun h => by cases h⟩
  have s0 := WideElems.Trod_stays (W' := W') (sp' := fun b => decide (b < W.heap.size)) laidOut reads22 lt22 h0 (fun x hx => hbel.same (hlt0 x hx)) (fun x hx => by simpa using hlt0 x hx)
  have s1 := WideElems.Trod_stays (W' := W') (sp' := fun b => decide (b < W.heap.size)) laidOut reads3 lt3 h1 (fun x hx => hbel.same (hlt1 x hx)) (fun x hx => by simpa using hlt1 x hx)
  have s2 := WideElems.Trod_stays (W' := W') (sp' := fun b => decide (b < W.heap.size)) laidOut reads23 lt23 h2 (fun x hx => hbel.same (hlt2 x hx)) (fun x hx => by simpa using hlt2 x hx)
  have s3 := WideElems.Trod_stays (W' := W') (sp' := fun b => decide (b < W.heap.size)) laidOut reads3 lt3 h3 (fun x hx => hbel.same (hlt3 x hx)) (fun x hx => by simpa using hlt3 x hx)
  have s4 := WideElems.Trod_stays (W' := W') (sp' := fun b => decide (b < W.heap.size)) laidOut reads22 lt22 h4 (fun x hx => hbel.same (hlt4 x hx)) (fun x hx => by simpa using hlt4 x hx)
  have s5 := WideElems.Trod_stays (W' := W') (sp' := fun b => decide (b < W.heap.size)) laidOut reads3 lt3 h5 (fun x hx => hbel.same (hlt5 x hx)) (fun x hx => by simpa using hlt5 x hx)
  have s6 := WideElems.Trod_stays (W' := W') (sp' := fun b => decide (b < W.heap.size)) laidOut reads3 lt3 h6 (fun x hx => hbel.same (hlt6 x hx)) (fun x hx => by simpa using hlt6 x hx)
  have e1 := trodAll_cons_mk s0 (trodAll_cons_mk s1 (trodAll_cons_mk s2 (trodAll_cons_mk s3 (trodAll_cons_mk s4 (trodAll_cons_mk s5 (trodAll_cons_mk s6 (trodAll_mk0 (enc := enc) (P := Try.prog) (w := W') (base := 0) (spare := fun b => decide (b < W.heap.size)) (held := true))))))))
  rw [List.append_nil] at e1
  exact e1

theorem laid_metK (os : Os) : laidMet Try.prog Rows.clockCloseRow.laid ((World.holding Try.prog os ⟨#[], #[], []⟩).forCall (fun _ _ => 0) ⟨#[], #[.slice none 0 0, .int .i64 0, .slice none 0 0, .int .i64 0, .slice none 0 0, .int .i64 0, .int .i64 0], []⟩).memory :=
  laidMet_of_run' 8 (by kernel_rfl) (by kernel_rfl)
theorem readsK (os : Os) {H : Type} (enc : TypeId × Value → H) : ∃ places, DataW.whole enc Try.prog ((World.holding Try.prog os ⟨#[], #[], []⟩).forCall (fun _ _ => 0) ⟨#[], #[.slice none 0 0, .int .i64 0, .slice none 0 0, .int .i64 0, .slice none 0 0, .int .i64 0, .int .i64 0], []⟩).memory Try.f3.params.toList Rows.clockCloseSpec.vars false #[Value.slice none 0 0, .int .i64 0, .slice none 0 0, .int .i64 0, .slice none 0 0, .int .i64 0, .int .i64 0].toList 8 = some ([.nil, .lit (.int .i64 0), .nil, .lit (.int .i64 0), .nil, .lit (.int .i64 0), .lit (.int .i64 0)], [], places) :=
  ⟨[], by kernel_rfl⟩

set_option maxRecDepth 100000 in
theorem liftedK (os : Os) (started : os.Started) (H : Type) (enc : TypeId × Value → H) (F : Stop.Interp) :
    ReturnsInHanded {} Try.checked os 3 .any ((OpenSpec.ofChange Rows.clockCloseSpec).preRow enc Try.prog Try.f3 Rows.clockCloseRow.domain false Rows.clockCloseRow.laid) (((OpenSpec.ofChange Rows.clockCloseSpec).at F).post enc Try.prog Try.f3 false true false false) := by
  obtain ⟨places, hx⟩ := readsK os enc
  refine returnsInHanded_of_row (C := Try.checked) (s := OpenSpec.ofChange Rows.clockCloseSpec) own started (by kernel_rfl) Try.func3
    (witness_row_at (enc := enc) (C := Try.checked) false (World.holding Try.prog os ⟨#[], #[], []⟩) #[.slice none 0 0, .int .i64 0, .slice none 0 0, .int .i64 0, .slice none 0 0, .int .i64 0, .int .i64 0] rfl (by kernel_rfl) (by kernel_rfl) (by kernel_rfl)
      (OpenSpec.preRow_of_cond 8 hx (by kernel_rfl) (fun k hk => by cases hk) (by kernel_rfl) (laid_metK os))) ?_
  intro W base args ds gs before hval hW _ _ _ _ _ _
  exact contractK H enc W base args ds gs before hval hW

theorem clockClose_said : Rows.ClockCloseSaid :=
  OpenClaim.holds_of_cond 3 Try.f3 rfl rfl rfl rfl rfl rfl rfl ⟨rfl, rfl, rfl, rfl, rfl⟩ rfl rfl rfl rfl rfl (by kernel_rfl) Try.func3 (by kernel_rfl)
    (of_decide_eq_true (by kernel_rfl)) (by unfold Func.isWrapper; first | (rw [if_pos (by decide +kernel)]; kernel_rfl) | (rw [if_neg (by decide +kernel)]; exact ⟨rfl, rfl⟩))
    (fun os started H enc _ F => by rw [OpenClaim.pre_eq_preRow]; exact liftedK os started H enc F)
end Go.Proofs.Ytkafihaajpifoak
