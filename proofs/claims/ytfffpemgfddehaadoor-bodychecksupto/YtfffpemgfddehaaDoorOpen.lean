import Derived.Test.YtfffpemgfddehaaDoorTree
import Derived.ChangeArms
namespace Go.Proofs.YtfffpemgfddehaaDoor
open Go.ChangeShapes Go.WideShapes Go.ChangeAt Go.RowKit

theorem cells3 : Tryd.prog.cellsOf 3 = 1 := by kernel_rfl
theorem cells28 : Tryd.prog.cellsOf 28 = 1 := by kernel_rfl
theorem cells22 : Tryd.prog.cellsOf 22 = 1 := by kernel_rfl
theorem cells30 : Tryd.prog.cellsOf 30 = 3 := by kernel_rfl
theorem cells32 : Tryd.prog.cellsOf 32 = 7 := by kernel_rfl
theorem cells34 : Tryd.prog.cellsOf 34 = 14 := by kernel_rfl

section
variable {H : Type} {enc : TypeId × Value → H} {w : World} {sp : Nat → Bool} {held : Bool}

/-- A cell that is there lies at a plain address. -/
theorem plain_addr {w : World} {a : Addr} {v : Value} (h : w.cell? a = some v) : a = ⟨a.block, a.off, none⟩ := by
  obtain ⟨b, o, s⟩ := a
  cases s with
  | none => rfl
  | some x =>
    exfalso
    unfold World.cell? at h
    simp at h
    split at h <;> simp_all

theorem add_plain' (g o n : Nat) : (⟨g, o, none⟩ : Addr).add n = ⟨g, o + n, none⟩ := by
  unfold Addr.add
  by_cases h : n = 0
  · subst h; rfl
  · simp [h]

theorem cells_at {g o n : Nat} {cs : List Value} (h : w.cells? 0 ⟨g, o, none⟩ n = some cs) : cs.length = n ∧ ∀ i, i < n → w.cell? ⟨g, o + i, none⟩ = cs[i]? := by
  obtain ⟨-, h1, h2⟩ := World.cells?_some h
  refine ⟨h1, fun i hi => ?_⟩
  rw [← h2 i hi, add_plain']

/-- What is known of the expressions that lie deeper. -/
def ExIh (enc : TypeId × Value → H) (w : World) (sp : Nat → Bool) (held : Bool) (n : Nat) : Prop :=
  ∀ (cs : List Value) (x : DataW H × List MemPlace), DataW.trod enc Tryd.prog w 0 sp held n 30 cs = some x → ∃ (e : Ex) (v0 v1 v2 : Value), cs = [v0, v1, v2] ∧ e.In w (.agg #[v0, v1, v2]) ∧ e.nodes ≤ Rows.uptoBulk x.1

theorem ex_row {n : Nat} (ih : ExIh enc w sp held n) (g : Nat) : ∀ (elems : List (DataW H × List MemPlace)) (o : Nat),
    (∀ i, i < elems.length → (w.cells? 0 ⟨g, o + i * 3, none⟩ 3).bind (DataW.trod enc Tryd.prog w 0 sp held n 30) = elems[i]?) →
    ∃ es : List Ex, es.length = elems.length ∧ Ex.Row w es g o ∧ Ex.nodesAll es ≤ Rows.uptoBulkAll (elems.map (·.1))
  | [], o, _ => ⟨[], rfl, by unfold Ex.Row; trivial, by unfold Ex.nodesAll; omega⟩
  | y :: r, o, h => by
    have h0 := h 0 (by simp)
    simp only [Nat.zero_mul, Nat.add_zero, List.getElem?_cons_zero] at h0
    obtain ⟨cs, hc, ht⟩ := Option.bind_eq_some_iff.1 h0
    obtain ⟨e, v0, v1, v2, rfl, hin, hn⟩ := ih cs y ht
    obtain ⟨-, hcell⟩ := cells_at hc
    have k0 := hcell 0 (by omega)
    have k1 := hcell 1 (by omega)
    have k2 := hcell 2 (by omega)
    obtain ⟨es, hl, hrow, hb⟩ := ex_row ih g r (o + 3) (fun i hi => by
      have := h (i + 1) (by simp; omega)
      rw [show o + (i + 1) * 3 = o + 3 + i * 3 by omega] at this
      simpa using this)
    refine ⟨e :: es, by simp [hl], ?_, ?_⟩
    · unfold Ex.Row
      exact ⟨⟨v0, v1, v2, by simpa using k0, by simpa using k1, by simpa using k2, hin⟩, hrow⟩
    · unfold Ex.nodesAll
      simp only [List.map_cons, Rows.uptoBulkAll]
      omega

theorem ex_open : ∀ n : Nat, ExIh enc w sp held n := by
  intro n
  induction n using Nat.strongRecOn with
  | _ n IH =>
    intro cs x h
    obtain ⟨xs, n1, rfl, rfl, hl, hlen, hf⟩ := DataW.trod_struct Tryd.underlying30 h
    rw [cells30] at hl
    match cs, hl with
    | [c0, c1, c2], _ =>
      match xs, hlen with
      | [y0, y1, y2], _ =>
        have f0 : DataW.trod enc Tryd.prog w 0 sp held n1 3 ((([c0, c1, c2] : List Value).drop 0).take (Tryd.prog.cellsOf 3)) = some y0 := hf 0 _ rfl
        have f1 : DataW.trod enc Tryd.prog w 0 sp held n1 3 ((([c0, c1, c2] : List Value).drop 1).take (Tryd.prog.cellsOf 3)) = some y1 := hf 1 _ rfl
        have f2 : DataW.trod enc Tryd.prog w 0 sp held n1 28 ((([c0, c1, c2] : List Value).drop 2).take (Tryd.prog.cellsOf 28)) = some y2 := hf 2 _ rfl
        rw [cells3] at f0 f1
        rw [cells28] at f2
        obtain ⟨k, hk, ek, -⟩ := DataW.trod_int Tryd.underlying3 (show DataW.trod enc Tryd.prog w 0 sp held n1 3 [c0] = some y0 from f0)
        obtain ⟨m, hm, em, -⟩ := DataW.trod_int Tryd.underlying3 (show DataW.trod enc Tryd.prog w 0 sp held n1 3 [c1] = some y1 from f1)
        simp only [List.cons.injEq, and_true] at hk hm
        subst hk hm ek em
        rcases DataW.trod_slice Tryd.underlying28 (show DataW.trod enc Tryd.prog w 0 sp held n1 28 [c2] = some y2 from f2) with ⟨hs, rfl⟩ | ⟨a, len, cap, elems, rest, n2, rfl, hs, rfl, -, -, -, rfl, hel, -, -⟩
        · simp only [List.cons.injEq, and_true] at hs
          subst hs
          refine ⟨.mk k m [], _, _, _, rfl, ?_, ?_⟩
          · unfold Ex.In
            exact ⟨none, 0, rfl, .inl rfl⟩
          · simp [Ex.nodes, Ex.nodesAll, Rows.uptoBulk, Rows.uptoBulkAll]
        · simp only [List.cons.injEq, and_true] at hs
          subst hs
          simp only [cells30] at hel
          cases elems with
          | nil =>
            refine ⟨.mk k m [], _, _, _, rfl, ?_, ?_⟩
            · unfold Ex.In
              exact ⟨some a, cap, rfl, .inl rfl⟩
            · simp [Ex.nodes, Ex.nodesAll, Rows.uptoBulk]
          | cons z r =>
            have hz := hel 0 (by simp)
            obtain ⟨cs0, hc0, ht0⟩ := Option.bind_eq_some_iff.1 hz
            have hpl := (World.cells?_some hc0).2.2 0 (by omega)
            obtain ⟨e0, v0, v1, v2, rfl, -, -⟩ := IH n2 (by omega) cs0 z (by simpa using ht0)
            have hpa := plain_addr (w := w) (a := a) (v := v0) (by simpa [Addr.add] using hpl)
            obtain ⟨es, hel', hrow, hb⟩ := ex_row (IH n2 (by omega)) a.block (z :: r) a.off (fun i hi => by
              have := hel i hi
              rw [hpa, add_plain'] at this
              exact this)
            refine ⟨.mk k m es, _, _, _, rfl, ?_, ?_⟩
            · unfold Ex.In
              refine ⟨some a, cap, by rw [hel'], .inr ⟨a.block, a.off, by rw [← hpa], hrow⟩⟩
            · simp only [Ex.nodes, List.map_cons, List.map_nil, Rows.uptoBulk, Rows.uptoBulkAll] at hb ⊢
              omega

/-- What is known of the lists of statements that lie deeper. -/
def StIh (enc : TypeId × Value → H) (w : World) (sp : Nat → Bool) (held : Bool) (n : Nat) : Prop :=
  ∀ (cs : List Value) (x : DataW H × List MemPlace), DataW.trod enc Tryd.prog w 0 sp held n 22 cs = some x → ∃ (a : List St) (v : Value), cs = [v] ∧ St.Sl w a v ∧ St.bulkAll a ≤ Rows.uptoBulk x.1

theorem st_one {n : Nat} (ih : ∀ m, m < n → StIh enc w sp held m) (cs : List Value) (y : DataW H × List MemPlace) (h : DataW.trod enc Tryd.prog w 0 sp held n 34 cs = some y) :
    ∃ (s : St) (x : Nat → Value), cs = [x 0, x 1, x 2, x 3, x 4, x 5, x 6, x 7, x 8, x 9, x 10, x 11, x 12, x 13] ∧ s.In w (stVal x) ∧ s.bulk ≤ Rows.uptoBulk y.1 := by
  obtain ⟨xs, n1, rfl, rfl, hl, hlen, hf⟩ := DataW.trod_struct Tryd.underlying34 h
  rw [cells34] at hl
  match cs, hl with
  | [c0, c1, c2, c3, c4, c5, c6, c7, c8, c9, c10, c11, c12, c13], _ =>
    match xs, hlen with
    | [y0, y1, y2, y3, y4, y5], _ =>
      have f0 : DataW.trod enc Tryd.prog w 0 sp held n1 3 ((([c0, c1, c2, c3, c4, c5, c6, c7, c8, c9, c10, c11, c12, c13] : List Value).drop 0).take (Tryd.prog.cellsOf 3)) = some y0 := hf 0 _ rfl
      have f1 : DataW.trod enc Tryd.prog w 0 sp held n1 3 ((([c0, c1, c2, c3, c4, c5, c6, c7, c8, c9, c10, c11, c12, c13] : List Value).drop 1).take (Tryd.prog.cellsOf 3)) = some y1 := hf 1 _ rfl
      have f2 : DataW.trod enc Tryd.prog w 0 sp held n1 30 ((([c0, c1, c2, c3, c4, c5, c6, c7, c8, c9, c10, c11, c12, c13] : List Value).drop 2).take (Tryd.prog.cellsOf 30)) = some y2 := hf 2 _ rfl
      have f3 : DataW.trod enc Tryd.prog w 0 sp held n1 32 ((([c0, c1, c2, c3, c4, c5, c6, c7, c8, c9, c10, c11, c12, c13] : List Value).drop 5).take (Tryd.prog.cellsOf 32)) = some y3 := hf 3 _ rfl
      have f4 : DataW.trod enc Tryd.prog w 0 sp held n1 22 ((([c0, c1, c2, c3, c4, c5, c6, c7, c8, c9, c10, c11, c12, c13] : List Value).drop 12).take (Tryd.prog.cellsOf 22)) = some y4 := hf 4 _ rfl
      have f5 : DataW.trod enc Tryd.prog w 0 sp held n1 22 ((([c0, c1, c2, c3, c4, c5, c6, c7, c8, c9, c10, c11, c12, c13] : List Value).drop 13).take (Tryd.prog.cellsOf 22)) = some y5 := hf 5 _ rfl
      rw [cells3] at f0 f1
      rw [cells30] at f2
      rw [cells32] at f3
      rw [cells22] at f4 f5
      obtain ⟨k, hk, ek, -⟩ := DataW.trod_int Tryd.underlying3 (show DataW.trod enc Tryd.prog w 0 sp held n1 3 [c0] = some y0 from f0)
      obtain ⟨m, hm, em, -⟩ := DataW.trod_int Tryd.underlying3 (show DataW.trod enc Tryd.prog w 0 sp held n1 3 [c1] = some y1 from f1)
      simp only [List.cons.injEq, and_true] at hk hm
      subst hk hm ek em
      obtain ⟨e, e0, e1, e2, he, hein, hen⟩ := ex_open n1 _ _ (show DataW.trod enc Tryd.prog w 0 sp held n1 30 [c2, c3, c4] = some y2 from f2)
      simp only [List.cons.injEq, and_true] at he
      obtain ⟨rfl, rfl, rfl⟩ := he
      obtain ⟨zs, n2, rfl, rfl, -, hzlen, hzf⟩ := DataW.trod_struct Tryd.underlying32 (show DataW.trod enc Tryd.prog w 0 sp held n1 32 [c5, c6, c7, c8, c9, c10, c11] = some y3 from f3)
      match zs, hzlen with
      | [z0, z1, z2], _ =>
        have g0 : DataW.trod enc Tryd.prog w 0 sp held n2 3 ((([c5, c6, c7, c8, c9, c10, c11] : List Value).drop 0).take (Tryd.prog.cellsOf 3)) = some z0 := hzf 0 _ rfl
        have g1 : DataW.trod enc Tryd.prog w 0 sp held n2 30 ((([c5, c6, c7, c8, c9, c10, c11] : List Value).drop 1).take (Tryd.prog.cellsOf 30)) = some z1 := hzf 1 _ rfl
        have g2 : DataW.trod enc Tryd.prog w 0 sp held n2 30 ((([c5, c6, c7, c8, c9, c10, c11] : List Value).drop 4).take (Tryd.prog.cellsOf 30)) = some z2 := hzf 2 _ rfl
        rw [cells3] at g0
        rw [cells30] at g1 g2
        obtain ⟨ck, hck, eck, -⟩ := DataW.trod_int Tryd.underlying3 (show DataW.trod enc Tryd.prog w 0 sp held n2 3 [c5] = some z0 from g0)
        simp only [List.cons.injEq, and_true] at hck
        subst hck eck
        obtain ⟨ca, a0, a1, a2, ha, hain, han⟩ := ex_open n2 _ _ (show DataW.trod enc Tryd.prog w 0 sp held n2 30 [c6, c7, c8] = some z1 from g1)
        obtain ⟨cb, b0, b1, b2, hb, hbin, hbn⟩ := ex_open n2 _ _ (show DataW.trod enc Tryd.prog w 0 sp held n2 30 [c9, c10, c11] = some z2 from g2)
        simp only [List.cons.injEq, and_true] at ha hb
        obtain ⟨rfl, rfl, rfl⟩ := ha
        obtain ⟨rfl, rfl, rfl⟩ := hb
        obtain ⟨b, vb, hvb, hsb, hbb⟩ := ih _ (Nat.lt_succ_self _) _ _ (show DataW.trod enc Tryd.prog w 0 sp held (n2 + 1) 22 [c12] = some y4 from f4)
        obtain ⟨l, vl, hvl, hsl, hbl⟩ := ih _ (Nat.lt_succ_self _) _ _ (show DataW.trod enc Tryd.prog w 0 sp held (n2 + 1) 22 [c13] = some y5 from f5)
        simp only [List.cons.injEq, and_true] at hvb hvl
        subst hvb hvl
        refine ⟨.mk k m e ck ca cb b l, fun j => ([.int .i64 k, .int .i64 m, c2, c3, c4, .int .i64 ck, c6, c7, c8, c9, c10, c11, c12, c13] : List Value).getD j undef, rfl, ?_, ?_⟩
        · unfold St.In
          exact ⟨c2, c3, c4, c6, c7, c8, c9, c10, c11, c12, c13, rfl, hein, hain, hbin, hsb, hsl⟩
        · simp only [St.bulk, List.map_cons, List.map_nil, Rows.uptoBulk, Rows.uptoBulkAll]
          omega

theorem st_row {n : Nat} (ih : ∀ m, m < n → StIh enc w sp held m) (g : Nat) : ∀ (elems : List (DataW H × List MemPlace)) (o : Nat),
    (∀ i, i < elems.length → (w.cells? 0 ⟨g, o + i * 14, none⟩ 14).bind (DataW.trod enc Tryd.prog w 0 sp held n 34) = elems[i]?) →
    ∃ es : List St, es.length = elems.length ∧ St.Row w es g o ∧ St.bulkAll es ≤ Rows.uptoBulkAll (elems.map (·.1))
  | [], o, _ => ⟨[], rfl, by unfold St.Row; trivial, by unfold St.bulkAll; omega⟩
  | y :: r, o, h => by
    have h0 := h 0 (by simp)
    simp only [Nat.zero_mul, Nat.add_zero, List.getElem?_cons_zero] at h0
    obtain ⟨cs, hc, ht⟩ := Option.bind_eq_some_iff.1 h0
    obtain ⟨s, x, rfl, hin, hn⟩ := st_one ih cs y ht
    obtain ⟨-, hcell⟩ := cells_at hc
    obtain ⟨es, hl, hrow, hb⟩ := st_row ih g r (o + 14) (fun i hi => by
      have := h (i + 1) (by simp; omega)
      rw [show o + (i + 1) * 14 = o + 14 + i * 14 by omega] at this
      simpa using this)
    refine ⟨s :: es, by simp [hl], ?_, ?_⟩
    · unfold St.Row
      refine ⟨⟨x, fun j hj => ?_, hin⟩, hrow⟩
      rw [hcell j hj]
      match j, hj with
      | 0, _ | 1, _ | 2, _ | 3, _ | 4, _ | 5, _ | 6, _ | 7, _ | 8, _ | 9, _ | 10, _ | 11, _ | 12, _ | 13, _ => rfl
    · unfold St.bulkAll
      simp only [List.map_cons, Rows.uptoBulkAll]
      omega

theorem st_open : ∀ n : Nat, StIh enc w sp held n := by
  intro n
  induction n using Nat.strongRecOn with
  | _ n IH =>
    intro cs x h
    rcases DataW.trod_slice Tryd.underlying22 h with ⟨rfl, rfl⟩ | ⟨a, len, cap, elems, rest, n2, rfl, rfl, rfl, -, -, -, rfl, hel, -, -⟩
    · exact ⟨[], _, rfl, ⟨none, 0, rfl, .inl rfl⟩, by simp [St.bulkAll]⟩
    · simp only [cells34] at hel
      cases elems with
      | nil => exact ⟨[], _, rfl, ⟨some a, cap, rfl, .inl rfl⟩, by simp [St.bulkAll]⟩
      | cons z r =>
        have hz := hel 0 (by simp)
        obtain ⟨cs0, hc0, ht0⟩ := Option.bind_eq_some_iff.1 hz
        have hpl := (World.cells?_some hc0).2.2 0 (by omega)
        obtain ⟨s0, x0, rfl, -, -⟩ := st_one (n := n2) (fun m hm => IH m (by omega)) cs0 z (by simpa using ht0)
        have hpa := plain_addr (w := w) (a := a) (v := x0 0) (by simpa [Addr.add] using hpl)
        obtain ⟨es, hel', hrow, hb⟩ := st_row (n := n2) (fun m hm => IH m (by omega)) a.block (z :: r) a.off (fun i hi => by
          have := hel i hi
          rw [hpa, add_plain'] at this
          exact this)
        refine ⟨es, _, rfl, ⟨some a, cap, by rw [hel'], .inr ⟨a.block, a.off, by rw [← hpa], hrow⟩⟩, ?_⟩
        simp only [List.map_cons, Rows.uptoBulk, Rows.uptoBulkAll] at hb ⊢
        omega

/-- A datum that can be read is a tree. -/
theorem St.Sl.of_trod {v : Value} {d : DataW H} {ps : List MemPlace} (h : DataW.Trod enc Tryd.prog w 0 sp held 22 v d ps) (hv : v.cells.toList = [v]) : ∃ a, St.Sl w a v ∧ St.bulkAll a ≤ Rows.uptoBulk d := by
  obtain ⟨n, hn⟩ := h
  obtain ⟨a, v', h1, h2, h3⟩ := st_open n _ _ hn
  rw [hv] at h1
  simp only [List.cons.injEq, and_true] at h1
  subst h1
  exact ⟨a, h2, h3⟩
end
end Go.Proofs.YtfffpemgfddehaaDoor
