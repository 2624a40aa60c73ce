import Derived.Test.YtccoobcggbbcialDoorHQ1
import Derived.Test.YtccoobcggbbcialDoorHD0
namespace Go.Proofs.YtccoobcggbbcialDoor
open Go.ChangeShapes Go.WideShapes Go.ChangeAt Go.RowKit

/- Chapter 18: what PartTimes' loops hold. -/
theorem drop_set {dn td0 : List Int} {j : Nat} (hd : dn.length = j) (hj : j < td0.length) (z : Int) : (dn ++ td0.drop j).set j z = (dn ++ [z]) ++ td0.drop (j + 1) := by
  have e : td0.drop j = td0[j] :: td0.drop (j + 1) := List.drop_eq_getElem_cons hj
  rw [e, List.set_append_right (h := by omega), hd, Nat.sub_self, List.set_cons_zero]
  simp
theorem drop_keep {dn td0 : List Int} {j : Nat} (hj : j < td0.length) : dn ++ td0.drop j = (dn ++ [td0.getD j 0]) ++ td0.drop (j + 1) := by
  have e : td0.drop j = td0[j] :: td0.drop (j + 1) := List.drop_eq_getElem_cons hj
  rw [e, List.getD_eq_getElem?_getD, List.getElem?_eq_getElem hj]
  simp

theorem toldL_cons {tk : List Int} {x : Pa} {r : List Pa} {ts : List Int} : toldL tk (x :: r) ts = if x.fr ≠ -1 ∧ x.se ≠ 0 then ts.headD 0 :: toldL tk r ts.tail else (if x.fr = -1 then 0 else tk.getD x.fr.toNat 0) :: toldL tk r ts := rfl
theorem nu_flat' : ∀ l : List Int, l.flatMap nuV = l.map (Value.int .i64)
  | [] => rfl
  | x :: r => by rw [List.flatMap_cons, nu_flat' r]; rfl

/-- Up to part j it is told. -/
def TDs (l : List Pa) (tk td0 ts0 : List Int) (j : Nat) (td ts : List Int) : Prop := ∃ dn : List Int, dn.length = j ∧ td = dn ++ td0.drop j ∧ toldL tk l ts0 = dn ++ toldL tk (l.drop j) ts ∧ ts.length = (frFrom (l.drop j) tk j).length
theorem TDs.start {l : List Pa} {tk td0 ts0 : List Int} (h : ts0.length = (frsP l tk).length) : TDs l tk td0 ts0 0 td0 ts0 := ⟨[], rfl, rfl, rfl, h⟩
theorem TDs.len {l : List Pa} {tk td0 ts0 td ts : List Int} {j : Nat} (h : TDs l tk td0 ts0 j td ts) (hl : td0.length = l.length) (hj : j ≤ l.length) : td.length = l.length := by
  obtain ⟨dn, h1, rfl, -, -⟩ := h
  rw [List.length_append, List.length_drop, h1, hl]
  omega
theorem TDs.stay {l : List Pa} {tk td0 ts0 td ts : List Int} {j : Nat} {x : Pa} (h : TDs l tk td0 ts0 j td ts) (hx : l[j]? = some x) (hl : td0.length = l.length) (h0 : x.fr = -1) (hz : td0.getD j 0 = 0) : TDs l tk td0 ts0 (j + 1) td ts := by
  obtain ⟨dn, h1, h2, h3, h4⟩ := h
  have hj := (List.getElem?_eq_some_iff.1 hx).1
  have e : l.drop j = x :: l.drop (j + 1) := by rw [List.drop_eq_getElem_cons hj, (List.getElem?_eq_some_iff.1 hx).2]
  rw [e] at h3 h4
  rw [toldL_cons] at h3
  unfold frFrom at h4
  rw [if_neg (by simp [h0]), if_pos h0] at h3
  rw [if_neg (by simp [h0])] at h4
  refine ⟨dn ++ [0], by simp [h1], ?_, by rw [h3]; simp, by simpa using h4⟩
  rw [h2, drop_keep (by omega), hz]
theorem TDs.from {l : List Pa} {tk td0 ts0 td ts : List Int} {j : Nat} {x : Pa} (h : TDs l tk td0 ts0 j td ts) (hx : l[j]? = some x) (hl : td0.length = l.length) (h0 : x.fr ≠ -1) (hs : x.se = 0) : TDs l tk td0 ts0 (j + 1) (td.set j (tk.getD x.fr.toNat 0)) ts := by
  obtain ⟨dn, h1, h2, h3, h4⟩ := h
  have hj := (List.getElem?_eq_some_iff.1 hx).1
  have e : l.drop j = x :: l.drop (j + 1) := by rw [List.drop_eq_getElem_cons hj, (List.getElem?_eq_some_iff.1 hx).2]
  rw [e] at h3 h4
  rw [toldL_cons] at h3
  unfold frFrom at h4
  rw [if_neg (by simp [hs]), if_neg h0] at h3
  rw [if_neg (by simp [hs])] at h4
  refine ⟨dn ++ [tk.getD x.fr.toNat 0], by simp [h1], ?_, by rw [h3]; simp, by simpa using h4⟩
  rw [h2, drop_set h1 (by omega)]
theorem TDs.sent {l : List Pa} {tk td0 ts0 td ts : List Int} {j : Nat} {x : Pa} (h : TDs l tk td0 ts0 j td ts) (hx : l[j]? = some x) (hl : td0.length = l.length) (h0 : x.fr ≠ -1) (hs : x.se ≠ 0) (z : Int) : ∃ t r, ts = t :: r ∧ TDs l tk td0 ts0 (j + 1) ((td.set j z).set j t) r := by
  obtain ⟨dn, h1, h2, h3, h4⟩ := h
  have hj := (List.getElem?_eq_some_iff.1 hx).1
  have e : l.drop j = x :: l.drop (j + 1) := by rw [List.drop_eq_getElem_cons hj, (List.getElem?_eq_some_iff.1 hx).2]
  rw [e] at h3 h4
  rw [toldL_cons] at h3
  unfold frFrom at h4
  rw [if_pos ⟨h0, hs⟩] at h3 h4
  cases ts with
  | nil => simp at h4
  | cons t r =>
    refine ⟨t, r, rfl, dn ++ [t], by simp [h1], ?_, by rw [h3]; simp, by simpa using h4⟩
    rw [h2, List.set_set, drop_set h1 (by omega)]
theorem TDs.done {l : List Pa} {tk td0 ts0 td ts : List Int} (h : TDs l tk td0 ts0 l.length td ts) (hl : td0.length = l.length) : td = toldL tk l ts0 := by
  obtain ⟨dn, h1, h2, h3, h4⟩ := h
  rw [h2, h3, List.drop_of_length_le (by omega), List.drop_of_length_le (Nat.le_refl _)]
  rfl
theorem toldL_zero {tk : List Int} : ∀ (l : List Pa) (ts : List Int) (i : Nat) (x : Pa), l[i]? = some x → x.fr = -1 → (toldL tk l ts).getD i 0 = 0
  | [], _, _, _, h, _ => by simp at h
  | y :: r, ts, i, x, h, h0 => by
    unfold toldL
    cases i with
    | zero =>
      simp only [List.getElem?_cons_zero, Option.some.injEq] at h
      subst h
      rw [if_neg (by simp [h0]), if_pos h0]
      rfl
    | succ i =>
      rw [List.getElem?_cons_succ] at h
      split
      · have := toldL_zero (tk := tk) r ts.tail i x h h0
        simpa using this
      · have := toldL_zero (tk := tk) r ts i x h h0
        simpa using this

/-- Up to part j it is reckoned. -/
def PDs (l : List Pa) (late tk0 : List Int) (j : Nat) (tk : List Int) : Prop := ∃ dn : List Int, dn.length = j ∧ tk = dn ++ tk0.drop j ∧ ∀ (i : Nat) (x : Pa), i < j → l[i]? = some x → dn[i]? = some (wPx l late i x) ∧ wPx l late i x ≠ 0
theorem PDs.start {l : List Pa} {late tk0 : List Int} : PDs l late tk0 0 tk0 := ⟨[], rfl, rfl, fun _ _ h => absurd h (Nat.not_lt_zero _)⟩
theorem PDs.next {l : List Pa} {late tk0 tk : List Int} {j : Nat} {x : Pa} (h : PDs l late tk0 j tk) (hx : l[j]? = some x) (hl : tk0.length = l.length) (h0 : wPx l late j x ≠ 0) : PDs l late tk0 (j + 1) (tk.set j (wPx l late j x)) := by
  obtain ⟨dn, h1, h2, h3⟩ := h
  have hj := (List.getElem?_eq_some_iff.1 hx).1
  refine ⟨dn ++ [wPx l late j x], by simp [h1], by rw [h2, drop_set h1 (by omega)], fun i y hi hy => ?_⟩
  by_cases e : i = j
  · subst e
    rw [hx] at hy
    cases hy
    exact ⟨by rw [List.getElem?_append_right (by omega), h1, Nat.sub_self]; rfl, h0⟩
  · obtain ⟨g1, g2⟩ := h3 i y (by omega) hy
    exact ⟨by rw [List.getElem?_append_left (by omega)]; exact g1, g2⟩
theorem PDs.len {l : List Pa} {late tk0 tk : List Int} {j : Nat} (h : PDs l late tk0 j tk) (hl : tk0.length = l.length) (hj : j ≤ l.length) : tk.length = l.length := by
  obtain ⟨dn, h1, rfl, -⟩ := h
  rw [List.length_append, List.length_drop, h1, hl]
  omega
theorem PDs.done {l : List Pa} {late tk0 tk : List Int} (h : PDs l late tk0 l.length tk) (hl : tk0.length = l.length) : ∀ (i : Nat) (x : Pa), l[i]? = some x → tk[i]? = some (wPx l late i x) ∧ wPx l late i x ≠ 0 := by
  obtain ⟨dn, h1, h2, h3⟩ := h
  rw [List.drop_of_length_le (by omega), List.append_nil] at h2
  subst h2
  exact fun i x hx => h3 i x (List.getElem?_eq_some_iff.1 hx).1 hx

theorem PT.start {w w2 w3 w4 : World} {n : Nat} (h : FB w w2 w.heap.size) (hb3 : Below w2.drew.heap.size w2.drew w3) (hh3 : w3.heap[w2.drew.heap.size]? = some (.cells (runCells n []).toArray 3 (0, 0))) (hb4 : Below w3.heap.size w3 w4) (hh4 : w4.heap[w3.heap.size]? = some (.cells (runCells n []).toArray 3 (0, 0))) : PT w w4 w2.drew.heap.size w3.heap.size (List.replicate n 0) (List.replicate n 0) ∧ PT w w4 w3.heap.size w2.drew.heap.size (List.replicate n 0) (List.replicate n 0) := by
  have e : runCells n [] = (List.replicate n (0 : Int)).map (Value.int .i64) := by simp [runCells]
  have h1 : FB w w2.drew w.heap.size := h.grow (Below.refl _ _).drew
  have h2 := h1.lt
  have h3 := (Array.getElem?_eq_some_iff.1 hh3).1
  have a1 := (hb4.block _ h3).trans hh3
  rw [e] at a1 hh4
  have h4 := (h1.grow hb3).grow hb4
  exact ⟨⟨h4, a1, hh4, h2, by omega, by omega⟩, ⟨h4, hh4, a1, by omega, h2, by omega⟩⟩

/-- A row of numbers in a block that is none of the two. -/
structure PW (w W : World) (GT GD gw : Nat) (tk td was : List Int) : Prop where
  pt : PT w W GT GD tk td
  row : ∀ q u, (was.flatMap nuV)[q]? = some u → W.cell? ⟨gw, 0 + q, none⟩ = some u
  nt : gw ≠ GT
  nd : gw ≠ GD
theorem PW.grow {w W W' : World} {GT GD gw : Nat} {tk td was : List Int} (h : PW w W GT GD gw tk td was) (hb : Below W.heap.size W W') : PW w W' GT GD gw tk td was := ⟨h.pt.grow hb, fun q u hq => below_cell hb (h.row q u hq), h.nt, h.nd⟩
theorem PW.setT {w W : World} {GT GD gw : Nat} {tk td was : List Int} (h : PW w W GT GD gw tk td was) (i : Nat) (z : Int) : PW w (W.setCell ⟨GT, i, none⟩ (.int .i64 z)) GT GD gw (tk.set i z) td was := ⟨h.pt.setT i z, fun q u hq => by rw [cell_other h.nt]; exact h.row q u hq, h.nt, h.nd⟩
theorem PW.setD {w W : World} {GT GD gw : Nat} {tk td was : List Int} (h : PW w W GT GD gw tk td was) (i : Nat) (z : Int) : PW w (W.setCell ⟨GD, i, none⟩ (.int .i64 z)) GT GD gw tk (td.set i z) was := ⟨h.pt.setD i z, fun q u hq => by rw [cell_other h.nd]; exact h.row q u hq, h.nt, h.nd⟩
theorem PT.ltT {w W : World} {GT GD : Nat} {tk td : List Int} (h : PT w W GT GD tk td) : GT < W.heap.size := (Array.getElem?_eq_some_iff.1 h.rt).1
theorem PT.ltD {w W : World} {GT GD : Nat} {tk td : List Int} (h : PT w W GT GD tk td) : GD < W.heap.size := (Array.getElem?_eq_some_iff.1 h.rd).1
theorem PT.cT {w W : World} {GT GD : Nat} {tk td : List Int} (h : PT w W GT GD tk td) {i : Nat} {z : Int} (hi : tk[i]? = some z) : W.cell? ⟨GT, i, none⟩ = some (.int .i64 z) ∧ W.frozen? ⟨GT, i, none⟩ = false := by
  obtain ⟨a, b, -⟩ := cells_of h.rt
  exact ⟨a i _ (by rw [List.getElem?_map, hi]; rfl), b i⟩
theorem PT.cD {w W : World} {GT GD : Nat} {tk td : List Int} (h : PT w W GT GD tk td) {i : Nat} {z : Int} (hi : td[i]? = some z) : W.cell? ⟨GD, i, none⟩ = some (.int .i64 z) ∧ W.frozen? ⟨GD, i, none⟩ = false := by
  obtain ⟨a, b, -⟩ := cells_of h.rd
  exact ⟨a i _ (by rw [List.getElem?_map, hi]; rfl), b i⟩

theorem two_app2 {w W : World} {GT GD n : Nat} {tk td : List Int} (h : PT w W GT GD tk td) (lT : tk.length = n) (lD : td.length = n) (h1 : 1 ≤ n) (h8 : n ≤ 8) :
    ∃ v1 W1 gw c W2, (Builtin.append_ #[36, 36] 36 #[.slice (some ⟨W.heap.size, 0, none⟩) 0 0, .slice (some ⟨GT, 0, none⟩) n n]).run Tryd.prog (W.alloc (.cells #[] 3)) = .ok v1 W1 ∧ (Builtin.append_ #[36, 36] 36 #[v1, .slice (some ⟨GD, 0, none⟩) n n]).run Tryd.prog W1 = .ok (.slice (some ⟨gw, 0, none⟩) (n + n) c) W2 ∧ Below W.heap.size W W2 ∧ W.heap.size ≤ gw ∧ n + n ≤ c ∧ PW w W2 GT GD gw tk td (tk ++ td) := by
  obtain ⟨v1, W1, ad, c, W2, r1, r2, ho, hb⟩ := two_app W GT GD n tk td h.rt h.rd lT lD h8
  have a1 := h.ltT
  have a2 := h.ltD
  obtain ⟨g, c', ex, he, hB, hc, hh⟩ := owns_ex ho (by omega)
  cases he
  refine ⟨v1, W1, g, c, W2, r1, r2, hb, hB, hc, h.grow hb, fun q u hq => ?_, by omega, by omega⟩
  rw [Nat.zero_add]
  refine (cells_of hh).1 q u ?_
  rw [List.getElem?_append_left]
  · rw [← nu_flat']; exact hq
  · have := (List.getElem?_eq_some_iff.1 hq).1
    rw [flat_length nuV 1 nuV_len] at this
    rw [List.length_map]
    omega

/-- Messages, in a row of one's own. -/
def FrA (WB W : World) (fs : List (Nat × Fr)) (fv : Value) : Prop := Below WB.heap.size WB W ∧ W.ownsRow WB.heap.size 93 4 fv fs.length ((fs.map (·.2)).flatMap Fr.vals)
theorem FrA.start (W : World) : FrA W W [] (.slice none 0 0) := ⟨Below.refl _ _, rfl, .inl ⟨rfl, rfl⟩⟩
theorem FrA.grow {WB W W' : World} {fs : List (Nat × Fr)} {fv : Value} (h : FrA WB W fs fv) (hb : Below W.heap.size W W') : FrA WB W' fs fv := ⟨below_seq h.1 hb, ownsRow_below h.2 hb⟩
theorem FrA.push {WB W : World} {fs : List (Nat × Fr)} {fv : Value} {ge : Nat} (h : FrA WB W fs fv) (i : Nat) (x : Fr) (hc : W.heap[ge]? = some (.cells #[.int .i64 x.c, .int .i64 x.t, .int .i64 x.d, .int .i64 x.j] 93 (0, 0))) (hl : fs.length ≤ 100) : ∃ ad c w4, (Builtin.append_ #[91, 91] 91 #[fv, .slice (some ⟨ge, 0, none⟩) 1 1]).run Tryd.prog W = .ok (.slice ad (fs.length + 1) c) w4 ∧ FrA WB w4 (fs ++ [(i, x)]) (.slice ad (fs.length + 1) c) := by
  obtain ⟨ad, c, w4, h1, h2, h3⟩ := push_fr h.2 x hc hl h.1.size
  refine ⟨ad, c, w4, h1, h.1.trans h3, ?_⟩
  simpa using h2
theorem FrA.row {WB W : World} {fs : List (Nat × Fr)} {fv : Value} (h : FrA WB W fs fv) : RowSl Fr.vals W (fs.map (·.2)) fv := own_rowSl (by rw [List.length_map]; exact h.2)
theorem FrA.val {WB W : World} {fs : List (Nat × Fr)} {fv : Value} (h : FrA WB W fs fv) : ∃ ad c, fv = .slice ad fs.length c := owns_value h.2
/-- Tasks, in a row of one's own. -/
def TaA (WB W : World) (os : List Ta) (fv : Value) : Prop := Below WB.heap.size WB W ∧ W.ownsRow WB.heap.size 27 7 fv os.length (os.flatMap Ta.vals)
theorem TaA.start (W : World) : TaA W W [] (.slice none 0 0) := ⟨Below.refl _ _, rfl, .inl ⟨rfl, rfl⟩⟩
theorem TaA.grow {WB W W' : World} {os : List Ta} {fv : Value} (h : TaA WB W os fv) (hb : Below W.heap.size W W') : TaA WB W' os fv := ⟨below_seq h.1 hb, ownsRow_below h.2 hb⟩
theorem TaA.push {WB W : World} {os : List Ta} {fv : Value} {ge : Nat} (h : TaA WB W os fv) (x : Ta) (hc : W.heap[ge]? = some (.cells #[.string x.nm, .int .i64 x.c, .int .i64 x.t, .int .i64 x.d, .int .i64 x.j, .int .i64 x.o, .int .i64 x.p] 27 (0, 0))) (hl : os.length ≤ 100) : ∃ ad c w4, (Builtin.append_ #[22, 22] 22 #[fv, .slice (some ⟨ge, 0, none⟩) 1 1]).run Tryd.prog W = .ok (.slice ad (os.length + 1) c) w4 ∧ TaA WB w4 (os ++ [x]) (.slice ad (os.length + 1) c) := by
  obtain ⟨ad, c, w4, h1, h2, h3⟩ := push_ta h.2 x hc hl h.1.size
  refine ⟨ad, c, w4, h1, h.1.trans h3, ?_⟩
  simpa using h2
theorem TaA.row {WB W : World} {os : List Ta} {fv : Value} (h : TaA WB W os fv) : RowSl Ta.vals W os fv := own_rowSl h.2
theorem TaA.val {WB W : World} {os : List Ta} {fv : Value} (h : TaA WB W os fv) : ∃ ad c, fv = .slice ad os.length c := owns_value h.2
end Go.Proofs.YtccoobcggbbcialDoor
