import Derived.Test.YtfffpemgfddehaaDoorNodes
import Derived.MapKept
import Derived.Deep.CutRange
namespace Go.Proofs.YtfffpemgfddehaaDoor
open Go.ChangeShapes Go.WideShapes Go.ChangeAt Go.RowKit

def Ex.k : Ex → Int | .mk k _ _ => k
def Ex.n : Ex → Int | .mk _ n _ => n
def Ex.a : Ex → List Ex | .mk _ _ a => a
/-- How many operands a kind wants; -1: no kind. -/
def arity (k : Int) : Int := if k = 1 ∨ k = 2 ∨ k = 3 then 0 else if k = 4 then 1 else if k = 5 ∨ k = 6 ∨ k = 7 then 2 else -1
def mostN (k : Int) : Int := if k = 1 then 999999999 else if k = 2 then 7 else if k = 3 then 3 else 0
/-- What is wrong with a node. -/
def Ex.err (x : Ex) : Int := if (x.a.length : Int) ≠ arity x.k then 6 else if x.n < 0 ∨ x.n > mostN x.k then 3 else 0
def wrongL : List Ex → Nat → Int
  | [], _ => 0
  | x :: r, j => if j = 30 then 2 else if x.err ≠ 0 then x.err else wrongL r (j + 1)

theorem Ex.Cells.get {p : Nat → Prop} {w : World} : ∀ (a : List Ex) {xs : List Value}, Ex.Cells p w a xs → ∀ (j : Nat) (x : Ex), a[j]? = some x →
    ∃ ad c, xs[j * 3]? = some (.int .i64 x.k) ∧ xs[j * 3 + 1]? = some (.int .i64 x.n) ∧ xs[j * 3 + 2]? = some (.slice ad x.a.length c)
  | [], _, _, _, _, h => by simp at h
  | e :: r, xs, h, 0, x, hx => by
    obtain ⟨x0, x1, x2, ys, rfl, h1, h2⟩ := h
    simp at hx
    subst hx
    obtain ⟨k, n, a⟩ := e
    unfold Ex.InP at h1
    obtain ⟨ad, c, hv, -⟩ := h1
    simp only [Value.agg.injEq, Array.mk.injEq, List.cons.injEq, and_true] at hv
    obtain ⟨rfl, rfl, rfl⟩ := hv
    exact ⟨ad, c, rfl, rfl, rfl⟩
  | e :: r, xs, h, j + 1, x, hx => by
    obtain ⟨x0, x1, x2, ys, rfl, h1, h2⟩ := h
    obtain ⟨ad, c, g1, g2, g3⟩ := Ex.Cells.get r h2 j x (by simpa using hx)
    refine ⟨ad, c, ?_, ?_, ?_⟩
    · rw [show (j + 1) * 3 = j * 3 + 1 + 1 + 1 by omega]; simpa using g1
    · rw [show (j + 1) * 3 + 1 = j * 3 + 1 + 1 + 1 + 1 by omega]; simpa using g2
    · rw [show (j + 1) * 3 + 2 = j * 3 + 2 + 1 + 1 + 1 by omega]; simpa using g3

theorem wrongL_at {l : List Ex} {j : Nat} (h : j < l.length) : wrongL (l.drop j) j = if j = 30 then 2 else if (l[j]).err ≠ 0 then (l[j]).err else wrongL (l.drop (j + 1)) (j + 1) := by
  rw [drop_at h, wrongL]

theorem und77 : Tryd.prog.underlying 77 = some (.map 3 3) := by kernel_rfl
theorem und3 : Tryd.prog.underlying 3 = some (.int .i64) := by kernel_rfl

def ent (k z : Int) (b : Nat) : MapEntry := { key := .int .i64 k, val := .int .i64 z, born := b }

theorem run_check3 {w : World} {e : Bool} {k : Int} : (Instr.checkKey e 10000 3 (.int .i64 k)).run Tryd.prog w = .ok () w := by
  show (Instr.checkKey e (9999 + 1) 3 (.int .i64 k)).run Tryd.prog w = .ok () w
  unfold Instr.checkKey
  simp [run_underlying und3, Result.andThen]

theorem run_find3 {w : World} {es : List MapEntry} {k : Int} {r : Option (Nat × Value)} (h : Instr.findNow (.int .i64) (.int .i64 k) es 0 = some r) : (Instr.findKey 3 (.int .i64 k) es).run Tryd.prog w = .ok r w := by
  unfold Instr.findKey
  simp [run_underlying und3, h, Result.andThen]

theorem run_ins (w : World) (es : Array MapEntry) (c : Nat) (k z : Int) (h : Instr.findNow (.int .i64) (.int .i64 k) es.toList 0 = some none) :
    (Instr.mapUpdate 77 (.map (some w.heap.size)) (.int .i64 k) (.int .i64 z)).run Tryd.prog (w.alloc (.map es c)) = .ok () (w.alloc (.map (es.push (ent k z c)) (c + 1))) := by
  have hb : (w.alloc (.map es c)).heap[w.heap.size]? = some (.map es c) := heap_alloc_new w _
  unfold Instr.mapUpdate
  have e : ({ w.alloc (.map es c) with heap := (w.alloc (.map es c)).heap.setIfInBounds w.heap.size (.map (es.push (ent k z c)) (c + 1)) } : World) = w.alloc (.map (es.push (ent k z c)) (c + 1)) := by
    show ({ w with heap := (w.heap.push _).setIfInBounds w.heap.size _ } : World) = { w with heap := w.heap.push _ }
    congr 1
    apply Array.ext_getElem?
    intro i
    rw [Array.getElem?_setIfInBounds]
    by_cases hi : w.heap.size = i
    · subst hi; simp
    · rw [if_neg hi]
      simp only [Array.getElem?_push]
      rw [if_neg (fun h => hi h.symm), if_neg (fun h => hi h.symm)]
  simp [run_underlying und77, Go.MapKept.run_getObj_map hb, run_check3, run_find3 h, Go.MapKept.run_setObj_map _ hb, Result.andThen]
  exact e

theorem run_look_ok (w : World) (es : Array MapEntry) (c : Nat) (k : Int) (r : Option (Nat × Value)) (h : Instr.findNow (.int .i64) (.int .i64 k) es.toList 0 = some r) :
    (Instr.lookup 77 (.map (some w.heap.size)) (.int .i64 k) true).run Tryd.prog (w.alloc (.map es c)) = .ok (.tuple #[(r.map (·.2)).getD (.int .i64 0), .bool r.isSome]) (w.alloc (.map es c)) := by
  have hb : (w.alloc (.map es c)).heap[w.heap.size]? = some (.map es c) := heap_alloc_new w _
  unfold Instr.lookup
  cases r with
  | none => simp [run_underlying und77, Go.MapKept.run_getObj_map hb, run_check3, run_find3 h, Result.andThen]
  | some y => simp [run_underlying und77, Go.MapKept.run_getObj_map hb, run_check3, run_find3 h, Result.andThen]

theorem run_look (w : World) (es : Array MapEntry) (c : Nat) (k : Int) (r : Option (Nat × Value)) (h : Instr.findNow (.int .i64) (.int .i64 k) es.toList 0 = some r) :
    (Instr.lookup 77 (.map (some w.heap.size)) (.int .i64 k) false).run Tryd.prog (w.alloc (.map es c)) = .ok ((r.map (·.2)).getD (.int .i64 0)) (w.alloc (.map es c)) := by
  have hb : (w.alloc (.map es c)).heap[w.heap.size]? = some (.map es c) := heap_alloc_new w _
  unfold Instr.lookup
  cases r with
  | none => simp [run_underlying und77, Go.MapKept.run_getObj_map hb, run_check3, run_find3 h, Result.andThen]
  | some y => simp [run_underlying und77, Go.MapKept.run_getObj_map hb, run_check3, run_find3 h, Result.andThen]

theorem look_arity (w : World) (k : Int) :
    (Instr.lookup 77 (.map (some w.heap.size)) (.int .i64 k) true).run Tryd.prog (w.alloc (.map #[ent 1 0 0, ent 2 0 1, ent 3 0 2, ent 4 1 3, ent 5 2 4, ent 6 2 5, ent 7 2 6] 7)) =
      .ok (.tuple #[.int .i64 (if arity k = -1 then 0 else arity k), .bool (decide (arity k ≠ -1))]) (w.alloc (.map #[ent 1 0 0, ent 2 0 1, ent 3 0 2, ent 4 1 3, ent 5 2 4, ent 6 2 5, ent 7 2 6] 7)) := by
  by_cases h1 : k = 1; · subst h1; exact run_look_ok w _ _ 1 (some (0, .int .i64 0)) rfl
  by_cases h2 : k = 2; · subst h2; exact run_look_ok w _ _ 2 (some (1, .int .i64 0)) rfl
  by_cases h3 : k = 3; · subst h3; exact run_look_ok w _ _ 3 (some (2, .int .i64 0)) rfl
  by_cases h4 : k = 4; · subst h4; exact run_look_ok w _ _ 4 (some (3, .int .i64 1)) rfl
  by_cases h5 : k = 5; · subst h5; exact run_look_ok w _ _ 5 (some (4, .int .i64 2)) rfl
  by_cases h6 : k = 6; · subst h6; exact run_look_ok w _ _ 6 (some (5, .int .i64 2)) rfl
  by_cases h7 : k = 7; · subst h7; exact run_look_ok w _ _ 7 (some (6, .int .i64 2)) rfl
  have e1 : (k == 1) = false := by simpa using h1
  have e2 : (k == 2) = false := by simpa using h2
  have e3 : (k == 3) = false := by simpa using h3
  have e4 : (k == 4) = false := by simpa using h4
  have e5 : (k == 5) = false := by simpa using h5
  have e6 : (k == 6) = false := by simpa using h6
  have e7 : (k == 7) = false := by simpa using h7
  have := run_look_ok w #[ent 1 0 0, ent 2 0 1, ent 3 0 2, ent 4 1 3, ent 5 2 4, ent 6 2 5, ent 7 2 6] 7 k none (by simp [Instr.findNow, Instr.sameNow, ent, e1, e2, e3, e4, e5, e6, e7])
  rw [this]
  simp [arity, h1, h2, h3, h4, h5, h6, h7]

theorem look_most (w : World) (k : Int) :
    (Instr.lookup 77 (.map (some w.heap.size)) (.int .i64 k) false).run Tryd.prog (w.alloc (.map #[ent 1 999999999 0, ent 2 7 1, ent 3 3 2] 3)) = .ok (.int .i64 (mostN k)) (w.alloc (.map #[ent 1 999999999 0, ent 2 7 1, ent 3 3 2] 3)) := by
  by_cases h1 : k = 1; · subst h1; exact run_look w _ _ 1 (some (0, .int .i64 999999999)) rfl
  by_cases h2 : k = 2; · subst h2; exact run_look w _ _ 2 (some (1, .int .i64 7)) rfl
  by_cases h3 : k = 3; · subst h3; exact run_look w _ _ 3 (some (2, .int .i64 3)) rfl
  have e1 : (k == 1) = false := by simpa using h1
  have e2 : (k == 2) = false := by simpa using h2
  have e3 : (k == 3) = false := by simpa using h3
  have := run_look w #[ent 1 999999999 0, ent 2 7 1, ent 3 3 2] 3 k none (by simp [Instr.findNow, Instr.sameNow, ent, e1, e2, e3])
  rw [this]
  simp [mostN, h1, h2, h3]

set_option maxHeartbeats 2000000 in
theorem wrongExpr_any (e : Ex) (w : World) (v : Value) (hN : e.nodes ≤ 1048576) (hin : e.In w v) :
    Calls Tryd.prog 26 #[v] w fun r w' => r = .returned (.int .i64 (wrongL (e.pre 31) 0)) ∧ Below w.heap.size w w' := by
  have hold := hin.old
  obtain ⟨ek, en, ead, em, ec, rfl⟩ := hold.shape
  have HO : Hid _ := hold
  clear hin hold
  have hpl := Ex.pre_len 31 e
  go_enter Tryd.func26, Tryd.ntmps26
  go_wp2_with (first
    | (go_at_call 35; refine (nodes_any 31 (by omega) w.heap.size _ e _ _ (Nat.lt_succ_self _) (by omega) (by simp) (HO.out.move (moves_old ((Below.refl _ _).alloc (Nat.le_refl _) _)))).mono ?_; rintro e w2 ⟨v2, xs, rfl, ho2, hc2, hb2⟩; obtain ⟨g2, cap2, rfl, hg2, hcell2⟩ := getCell ho2 (by omega); have H2 : Hid (_ ∧ _ ∧ _ ∧ _) := ⟨ho2, hc2, hb2, hcell2⟩; clear ho2 hc2 hb2 hcell2))
  generalize hl : e.pre 31 = l at *
  go_loopw [3, 4, 5, 6, 7, 11] (fun _ _ _ _ _ i wr => ∃ (j : Nat), j ≤ l.length ∧ i = .int .i64 j ∧ wrongL (l.drop j) j = wrongL l 0 ∧ Below w2.heap.size w2 wr) (fun _ _ _ _ _ i _ => l.length - (intOf i).toNat)
  case atStart => exact ⟨0, Nat.zero_le _, rfl, rfl, Below.refl _ _⟩
  case round =>
    obtain ⟨j, hj, rfl, hw, hb⟩ := hrel
    by_cases hlt : j < l.length
    · obtain ⟨ad, c, q0, q1, q2⟩ := Ex.Cells.get l H2.out.2.1 j l[j] (by simp [hlt])
      have d0 := below_cell hb (H2.out.2.2.2 _ _ q0)
      have d1 := below_cell hb (H2.out.2.2.2 _ _ q1)
      have d2 := below_cell hb (H2.out.2.2.2 _ _ q2)
      rw [show 0 + j * 3 = j * 3 by omega] at d0
      rw [show 0 + (j * 3 + 1) = j * 3 + 1 by omega] at d1
      rw [show 0 + (j * 3 + 2) = j * 3 + 2 by omega] at d2
      rw [wrongL_at hlt] at hw
      have HW : Hid (_ ∧ _) := ⟨hw, hb⟩
      clear hw hb q0 q1 q2
      by_cases h30 : j = 30
      · subst h30
        go_wp2_with fail
        go_ret
        exact ⟨ret_int (by (try rw [hl]); rw [← HW.out.1]; rfl), (below_seq (below_seq ((Below.refl _ _).alloc (Nat.le_refl _) _) H2.out.2.2.1) HW.out.2).alloc (by have := HW.out.2.size; have := H2.out.2.2.1.size; simp at this; omega) _⟩
      · have h30' : ((j : Int) == 30) = false := by simpa using by omega
        go_upto_region 6 with fail
        generalize l[j] = x at *
        have f0 : (wr.alloc (.cells #[.int .i64 x.k, .int .i64 x.n, .slice ad x.a.length c] 30)).cell? ⟨wr.heap.size, 0, none⟩ = some (.int .i64 x.k) := by rw [World.cell?_alloc_at _ _ _ _ rfl]; rfl
        have f1 : (wr.alloc (.cells #[.int .i64 x.k, .int .i64 x.n, .slice ad x.a.length c] 30)).cell? ⟨wr.heap.size, 1, none⟩ = some (.int .i64 x.n) := by rw [World.cell?_alloc_at _ _ _ _ rfl]; rfl
        have f2 : (wr.alloc (.cells #[.int .i64 x.k, .int .i64 x.n, .slice ad x.a.length c] 30)).cell? ⟨wr.heap.size, 2, none⟩ = some (.slice ad x.a.length c) := by rw [World.cell?_alloc_at _ _ _ _ rfl]; rfl
        have hz : wr.heap.size < (wr.alloc (.cells #[.int .i64 x.k, .int .i64 x.n, .slice ad x.a.length c] 30)).heap.size := by simp
        have hB0 : Below wr.heap.size wr (wr.alloc (.cells #[.int .i64 x.k, .int .i64 x.n, .slice ad x.a.length c] 30)) := (Below.refl _ _).alloc (Nat.le_refl _) _
        generalize wr.alloc (.cells #[.int .i64 x.k, .int .i64 x.n, .slice ad x.a.length c] 30) = W0 at *
        have HB0 : Hid (Below w.heap.size w W0) := below_seq (below_seq (below_seq ((Below.refl _ _).alloc (Nat.le_refl _) _) H2.out.2.2.1) HW.out.2) hB0
        have HB2 : Hid (Below w2.heap.size w2 W0) := below_seq HW.out.2 hB0
        clear hB0 d0 d1 d2
        have hmm : (Instr.makeMap 77 none).run Tryd.prog W0 = .ok (.map (some W0.heap.size)) (W0.alloc (.map #[] 0)) := rfl
        have i1 : (Instr.mapUpdate 77 (.map (some W0.heap.size)) (.int .i64 1) (.int .i64 0)).run Tryd.prog (W0.alloc (.map #[] 0)) = .ok () (W0.alloc (.map #[ent 1 0 0] 1)) := run_ins W0 _ _ 1 0 rfl
        have i2 : (Instr.mapUpdate 77 (.map (some W0.heap.size)) (.int .i64 2) (.int .i64 0)).run Tryd.prog (W0.alloc (.map #[ent 1 0 0] 1)) = .ok () (W0.alloc (.map #[ent 1 0 0, ent 2 0 1] 2)) := run_ins W0 _ _ 2 0 rfl
        have i3 : (Instr.mapUpdate 77 (.map (some W0.heap.size)) (.int .i64 3) (.int .i64 0)).run Tryd.prog (W0.alloc (.map #[ent 1 0 0, ent 2 0 1] 2)) = .ok () (W0.alloc (.map #[ent 1 0 0, ent 2 0 1, ent 3 0 2] 3)) := run_ins W0 _ _ 3 0 rfl
        have i4 : (Instr.mapUpdate 77 (.map (some W0.heap.size)) (.int .i64 4) (.int .i64 1)).run Tryd.prog (W0.alloc (.map #[ent 1 0 0, ent 2 0 1, ent 3 0 2] 3)) = .ok () (W0.alloc (.map #[ent 1 0 0, ent 2 0 1, ent 3 0 2, ent 4 1 3] 4)) := run_ins W0 _ _ 4 1 rfl
        have i5 : (Instr.mapUpdate 77 (.map (some W0.heap.size)) (.int .i64 5) (.int .i64 2)).run Tryd.prog (W0.alloc (.map #[ent 1 0 0, ent 2 0 1, ent 3 0 2, ent 4 1 3] 4)) = .ok () (W0.alloc (.map #[ent 1 0 0, ent 2 0 1, ent 3 0 2, ent 4 1 3, ent 5 2 4] 5)) := run_ins W0 _ _ 5 2 rfl
        have i6 : (Instr.mapUpdate 77 (.map (some W0.heap.size)) (.int .i64 6) (.int .i64 2)).run Tryd.prog (W0.alloc (.map #[ent 1 0 0, ent 2 0 1, ent 3 0 2, ent 4 1 3, ent 5 2 4] 5)) = .ok () (W0.alloc (.map #[ent 1 0 0, ent 2 0 1, ent 3 0 2, ent 4 1 3, ent 5 2 4, ent 6 2 5] 6)) := run_ins W0 _ _ 6 2 rfl
        have i7 : (Instr.mapUpdate 77 (.map (some W0.heap.size)) (.int .i64 7) (.int .i64 2)).run Tryd.prog (W0.alloc (.map #[ent 1 0 0, ent 2 0 1, ent 3 0 2, ent 4 1 3, ent 5 2 4, ent 6 2 5] 6)) = .ok () (W0.alloc (.map #[ent 1 0 0, ent 2 0 1, ent 3 0 2, ent 4 1 3, ent 5 2 4, ent 6 2 5, ent 7 2 6] 7)) := run_ins W0 _ _ 7 2 rfl
        have hlk := look_arity W0 x.k
        by_cases hA : (x.a.length : Int) ≠ arity x.k
        · have herr : x.err = 6 := by unfold Ex.err; rw [if_pos hA]
          by_cases hM : arity x.k = -1
          · rw [if_pos hM, decide_eq_false (by simpa using hM)] at hlk
            go_wp2_with fail
            go_ret
            exact ⟨ret_int (by (try rw [hl]); rw [← HW.out.1, if_neg h30, herr]; rfl), HB0.out.alloc HB0.out.size _⟩
          · rw [if_neg hM, decide_eq_true hM] at hlk
            generalize arity x.k = ar at *
            have hA' : ((x.a.length : Int) == ar) = false := by simpa using hA
            go_wp2_with fail
            go_ret
            exact ⟨ret_int (by (try rw [hl]); rw [← HW.out.1, if_neg h30, herr]; rfl), HB0.out.alloc HB0.out.size _⟩
        · have hA' : (x.a.length : Int) = arity x.k := by omega
          have hM : ¬ arity x.k = -1 := by omega
          rw [if_neg hM, decide_eq_true hM, ← hA'] at hlk
          go_upto_region 9 with fail
          have g0 : (W0.alloc (.map #[ent 1 0 0, ent 2 0 1, ent 3 0 2, ent 4 1 3, ent 5 2 4, ent 6 2 5, ent 7 2 6] 7)).cell? ⟨wr.heap.size, 0, none⟩ = some (.int .i64 x.k) := by rw [World.cell?_alloc_past _ _ _ hz]; exact f0
          have g1 : (W0.alloc (.map #[ent 1 0 0, ent 2 0 1, ent 3 0 2, ent 4 1 3, ent 5 2 4, ent 6 2 5, ent 7 2 6] 7)).cell? ⟨wr.heap.size, 1, none⟩ = some (.int .i64 x.n) := by rw [World.cell?_alloc_past _ _ _ hz]; exact f1
          have gz : wr.heap.size < (W0.alloc (.map #[ent 1 0 0, ent 2 0 1, ent 3 0 2, ent 4 1 3, ent 5 2 4, ent 6 2 5, ent 7 2 6] 7)).heap.size := by simp; omega
          have gB : Below W0.heap.size W0 (W0.alloc (.map #[ent 1 0 0, ent 2 0 1, ent 3 0 2, ent 4 1 3, ent 5 2 4, ent 6 2 5, ent 7 2 6] 7)) := (Below.refl _ _).alloc (Nat.le_refl _) _
          generalize W0.alloc (.map #[ent 1 0 0, ent 2 0 1, ent 3 0 2, ent 4 1 3, ent 5 2 4, ent 6 2 5, ent 7 2 6] 7) = W1 at *
          have GB0 : Hid (Below w.heap.size w W1) := below_seq HB0.out gB
          have GB2 : Hid (Below w2.heap.size w2 W1) := below_seq HB2.out gB
          clear f0 f1 f2 hz gB i1 i2 i3 i4 i5 i6 i7 hlk hmm HB0 HB2
          have hmm : (Instr.makeMap 77 none).run Tryd.prog W1 = .ok (.map (some W1.heap.size)) (W1.alloc (.map #[] 0)) := rfl
          have m1 : (Instr.mapUpdate 77 (.map (some W1.heap.size)) (.int .i64 1) (.int .i64 999999999)).run Tryd.prog (W1.alloc (.map #[] 0)) = .ok () (W1.alloc (.map #[ent 1 999999999 0] 1)) := run_ins W1 _ _ 1 999999999 rfl
          have m2 : (Instr.mapUpdate 77 (.map (some W1.heap.size)) (.int .i64 2) (.int .i64 7)).run Tryd.prog (W1.alloc (.map #[ent 1 999999999 0] 1)) = .ok () (W1.alloc (.map #[ent 1 999999999 0, ent 2 7 1] 2)) := run_ins W1 _ _ 2 7 rfl
          have m3 : (Instr.mapUpdate 77 (.map (some W1.heap.size)) (.int .i64 3) (.int .i64 3)).run Tryd.prog (W1.alloc (.map #[ent 1 999999999 0, ent 2 7 1] 2)) = .ok () (W1.alloc (.map #[ent 1 999999999 0, ent 2 7 1, ent 3 3 2] 3)) := run_ins W1 _ _ 3 3 rfl
          have hlk := look_most W1 x.k
          by_cases hE : x.n < 0 ∨ x.n > mostN x.k
          · have herr : x.err = 3 := by unfold Ex.err; rw [if_neg hA, if_pos hE]
            generalize mostN x.k = mo at *
            by_cases hn : x.n < 0
            · go_wp2_with fail
              go_ret
              exact ⟨ret_int (by (try rw [hl]); rw [← HW.out.1, if_neg h30, herr]; rfl), GB0.out.alloc GB0.out.size _⟩
            · have hn2 : mo < x.n := by omega
              go_wp2_with fail
              go_ret
              exact ⟨ret_int (by (try rw [hl]); rw [← HW.out.1, if_neg h30, herr]; rfl), GB0.out.alloc GB0.out.size _⟩
          · have herr : x.err = 0 := by unfold Ex.err; rw [if_neg hA, if_neg hE]
            generalize mostN x.k = mo at *
            have hn : 0 ≤ x.n := by omega
            have hn2 : x.n ≤ mo := by omega
            go_wp2_with fail
            go_roundw
            case rel => exact ⟨j + 1, by omega, by go_num, by rw [← HW.out.1, if_neg h30, herr]; rfl, GB2.out.alloc GB2.out.size _⟩
            case measure => simp [intOf]; omega
    · have hje : j = l.length := by omega
      subst hje
      rw [List.drop_length, wrongL] at hw
      have HW : Hid (_ ∧ _) := ⟨hw, hb⟩
      clear hw hb
      go_wp2_with fail
      go_ret
      exact ⟨ret_int (by (try rw [hl]); rw [← HW.out.1]), below_seq (below_seq ((Below.refl _ _).alloc (Nat.le_refl _) _) H2.out.2.2.1) HW.out.2⟩
end Go.Proofs.YtfffpemgfddehaaDoor
