import Derived.Test.YtgemadoieielcacDoorGWI
import Derived.Test.YtgemadoieielcacDoorGXL
import Derived.Test.YtgemadoieielcacDoorGRB
namespace Go.Proofs.YtgemadoieielcacDoor
open Go.ChangeShapes Go.WideShapes Go.ChangeAt Go.RowKit Go.Shelf

theorem An_ends {w : World} {g g' : Nat} {a0 a1 c k : Value} {a : Act} (h6 : w.heap[g]? = some (.cells #[a0, a1] 77 (0, 0))) (h7 : w.heap[g']? = some (.cells #[c, k] 30 (0, 0))) (h2 : a.tmps[2]?.getD undef = .pointer (some ⟨g, 0, none⟩)) (h3 : a.tmps[3]?.getD undef = .pointer (some ⟨g', 0, none⟩)) :
    (results Tryd.f45 a.tmps).run Tryd.prog w = .ok (.tuple #[.agg #[a0, a1], .agg #[c, k]]) w := by
  obtain ⟨c1, f1, l1⟩ := cells_of (l := [_, _]) h6
  have c10 := c1 0 _ rfl
  have c11 := c1 1 _ rfl
  obtain ⟨d1, e1, m1⟩ := cells_of (l := [_, _]) h7
  have d10 := d1 0 _ rfl
  have d11 := d1 1 _ rfl
  simp [results, Tryd.results45, go_sem, h2, h3, c10, c11, d10, d11]

theorem set_two {w : World} {g : Nat} {a b c d : Value} {T : TypeId} (h : w.heap[g]? = some (.cells #[a, b] T (0, 0))) : ((w.setCell ⟨g, 0, none⟩ c).setCell ⟨g, 1, none⟩ d).heap[g]? = some (.cells #[c, d] T (0, 0)) := by
  rw [setCell_at (setCell_at h)]
  simp

theorem other_two {w : World} {g k : Nat} (hk : k ≠ g) (c d : Value) : ((w.setCell ⟨g, 0, none⟩ c).setCell ⟨g, 1, none⟩ d).heap[k]? = w.heap[k]? :=
  (Below.heap_setCell _ _ _ _ hk).trans (Below.heap_setCell _ _ _ _ hk)

/-- What Analyse has laid, behind told. -/
structure A2 (w w2 : World) (n rb p : Nat) : Prop where
  bel : Below w.heap.size w w2
  k2 : w2.heap[w.heap.size]? = some (.cells #[.int .i64 0, .slice none 0 0] 77 (0, 0))
  k3 : w2.heap[w.heap.size + 1]? = some (.cells #[.int .i64 0, .int .i64 0] 30 (0, 0))
  kr : w2.heap[rb]? = some (.cells (intVs (List.replicate n 0)).toArray 3 (0, 0))
  c5 : w2.cell? ⟨rb + 1, 0, none⟩ = some (.slice (some ⟨rb, 0, none⟩) n n)
  cp : w2.cell? ⟨p, 0, none⟩ = some (.slice (some ⟨rb, 0, none⟩) n n)
  o1 : w.heap.size + 2 ≤ rb
  o2 : rb + 2 ≤ p

theorem A2.grow {w w2 w3 : World} {n rb p : Nat} (h : A2 w w2 n rb p) (hb : Below w2.heap.size w2 w3) : A2 w w3 n rb p := by
  have old : ∀ (k : Nat) (o : Obj), w2.heap[k]? = some o → w3.heap[k]? = some o := fun k o hk => (hb.block k (Array.getElem?_eq_some_iff.1 hk).1).trans hk
  exact ⟨below_seq h.bel hb, old _ _ h.k2, old _ _ h.k3, old _ _ h.kr, below_cell hb h.c5, below_cell hb h.cp, h.o1, h.o2⟩

theorem A2_of {w w1 w2 : World} {n p : Nat} {A : Obj} (h1 : Below w.heap.size w w1) (k2 : w1.heap[w.heap.size]? = some (.cells #[.int .i64 0, .slice none 0 0] 77 (0, 0))) (k3 : w1.heap[w.heap.size + 1]? = some (.cells #[.int .i64 0, .int .i64 0] 30 (0, 0))) (hs : w.heap.size + 2 ≤ w1.heap.size)
    (hp : (((w1.alloc A).alloc (.cells (intVs (List.replicate n 0)).toArray 3)).alloc (.cells #[.slice (some ⟨w1.heap.size + 1, 0, none⟩) n n] 23)).heap.size ≤ p) (cp : w2.cell? ⟨p, 0, none⟩ = some (.slice (some ⟨w1.heap.size + 1, 0, none⟩) n n))
    (hb : Below (((w1.alloc A).alloc (.cells (intVs (List.replicate n 0)).toArray 3)).alloc (.cells #[.slice (some ⟨w1.heap.size + 1, 0, none⟩) n n] 23)).heap.size (((w1.alloc A).alloc (.cells (intVs (List.replicate n 0)).toArray 3)).alloc (.cells #[.slice (some ⟨w1.heap.size + 1, 0, none⟩) n n] 23)) w2) : A2 w w2 n (w1.heap.size + 1) p := by
  have q1 := below_new w1 A
  have q2 := below_new (w1.alloc A) (.cells (intVs (List.replicate n 0)).toArray 3)
  have q3 := below_new ((w1.alloc A).alloc (.cells (intVs (List.replicate n 0)).toArray 3)) (.cells #[.slice (some ⟨w1.heap.size + 1, 0, none⟩) n n] 23)
  have q := below_seq q1 (below_seq q2 (below_seq q3 hb))
  have old : ∀ (k : Nat) (o : Obj), w1.heap[k]? = some o → w2.heap[k]? = some o := fun k o hk => (q.block k (Array.getElem?_eq_some_iff.1 hk).1).trans hk
  simp only [World.size_alloc] at hp
  refine ⟨below_seq h1 q, old _ _ k2, old _ _ k3, ?_, ?_, cp, by omega, by omega⟩
  · have e := heap_new (w1.alloc A) (.cells (intVs (List.replicate n 0)).toArray 3)
    rw [World.size_alloc] at e
    exact (((below_seq q3 hb).block (w1.heap.size + 1) (by simp)).trans e)
  · have e := heap_new ((w1.alloc A).alloc (.cells (intVs (List.replicate n 0)).toArray 3)) (.cells #[.slice (some ⟨w1.heap.size + 1, 0, none⟩) n n] 23)
    simp only [World.size_alloc] at e
    exact below_cell hb ((cells_of (l := [_]) e).1 0 _ rfl)

/-- All that it has laid ahead of its loop. -/
structure AB (w Wb : World) (l : List In) (iad : Option Addr) (ic rb p b1 b2 b3 cb g7 : Nat) : Prop where
  a2 : A2 w Wb l.length rb p
  kin : KindsIn w
  img : InSl w l (.slice iad l.length ic)
  c1 : Wb.cell? ⟨b1, 0, none⟩ = some (.slice iad l.length ic)
  c2 : Wb.cell? ⟨b2, 0, none⟩ = some (.func (Fn.func 112) #[] #[.pointer (some ⟨p, 0, none⟩)])
  c3 : Wb.cell? ⟨b3, 0, none⟩ = some (.slice (some ⟨cb, 0, none⟩) l.length l.length)
  cc : ∀ j, j < l.length → Wb.cell? ⟨cb, j, none⟩ = some (.int .i64 (clF l j))
  c7 : Wb.cell? ⟨g7, 0, none⟩ = some (.func (Fn.func 114) #[] #[.pointer (some ⟨b1, 0, none⟩), .pointer (some ⟨b2, 0, none⟩), .pointer (some ⟨b3, 0, none⟩)])
  cB : Wb.cell? ⟨g7 + 1, 0, none⟩ = some (.slice iad l.length ic)
  o1 : rb < b1 ∧ rb < b2 ∧ rb < b3 ∧ rb < cb ∧ rb < g7

theorem AB_of {w w2 w3 : World} {l : List In} {iad : Option Addr} {ic rb p b1 b2 b3 cb : Nat} (h : A2 w w2 l.length rb p) (hk : KindsIn w) (hI : InSl w l (.slice iad l.length ic)) (o1 : w2.heap.size ≤ b1) (o2 : w2.heap.size ≤ b2) (o3 : w2.heap.size ≤ b3)
    (c1 : w3.cell? ⟨b1, 0, none⟩ = some (.slice iad l.length ic)) (c2 : w3.cell? ⟨b2, 0, none⟩ = some (.func (Fn.func 112) #[] #[.pointer (some ⟨p, 0, none⟩)])) (oc : w2.heap.size ≤ cb) (c3 : w3.cell? ⟨b3, 0, none⟩ = some (.slice (some ⟨cb, 0, none⟩) l.length l.length)) (cc : ∀ j, j < l.length → w3.cell? ⟨cb, j, none⟩ = some (.int .i64 (clF l j))) (hb : Below w2.heap.size w2 w3) :
    AB w ((w3.alloc (.cells #[.func (Fn.func 114) #[] #[.pointer (some ⟨b1, 0, none⟩), .pointer (some ⟨b2, 0, none⟩), .pointer (some ⟨b3, 0, none⟩)]] 144)).alloc (.cells #[.slice iad l.length ic] 22)) l iad ic rb p b1 b2 b3 cb w3.heap.size := by
  have q1 := below_new w3 (.cells #[.func (Fn.func 114) #[] #[.pointer (some ⟨b1, 0, none⟩), .pointer (some ⟨b2, 0, none⟩), .pointer (some ⟨b3, 0, none⟩)]] 144)
  have q2 := below_new (w3.alloc (.cells #[.func (Fn.func 114) #[] #[.pointer (some ⟨b1, 0, none⟩), .pointer (some ⟨b2, 0, none⟩), .pointer (some ⟨b3, 0, none⟩)]] 144)) (.cells #[.slice iad l.length ic] 22)
  have q := below_seq q1 q2
  have hl : rb < w2.heap.size := (Array.getElem?_eq_some_iff.1 h.kr).1
  have hs := hb.size
  refine ⟨h.grow (below_seq hb q), hk, hI, below_cell q c1, below_cell q c2, below_cell q c3, fun j hj => below_cell q (cc j hj), ?_, ?_, by omega, by omega, by omega, by omega, by omega⟩
  · exact below_cell q2 ((cells_of (l := [_]) (heap_new w3 _)).1 0 _ rfl)
  · have e := heap_new (w3.alloc (.cells #[.func (Fn.func 114) #[] #[.pointer (some ⟨b1, 0, none⟩), .pointer (some ⟨b2, 0, none⟩), .pointer (some ⟨b3, 0, none⟩)]] 144)) (.cells #[.slice iad l.length ic] 22)
    rw [World.size_alloc] at e
    exact (cells_of (l := [_]) e).1 0 _ rfl

def rowV (R : Nat → Int) (n : Nat) : List Value := (List.range n).map fun j => .int .i64 (R j)

/-- Between two rounds. -/
structure AI (w Wb : World) (l : List In) (rb : Nat) (pre : List (At l)) (W : World) : Prop where
  bel : Below w.heap.size w W
  siz : Wb.heap.size ≤ W.heap.size
  oth : ∀ k, k < Wb.heap.size → k ≠ rb → W.heap[k]? = Wb.heap[k]?
  row : W.heap[rb]? = some (.cells (rowV (RF l pre) l.length).toArray 3 (0, 0))
  rng : ∀ j, 0 ≤ RF l pre j ∧ RF l pre j ≤ 1099511627776

/-- Where it has left its loop. -/
structure AX (w Wb : World) (l : List In) (pre : List (At l)) (W : World) : Prop where
  bel : Below w.heap.size w W
  siz : Wb.heap.size ≤ W.heap.size
  out : ∃ ini x, pre = ini ++ [x] ∧ (∀ j, RF l ini j ≤ 1099511627776) ∧ 1099511627776 < ruleI l (RF l ini) (clF l) x.1 ∧ W.heap[w.heap.size + 1]? = some (.cells #[.int .i64 3, .int .i64 x.1] 30 (0, 0))
  k2 : W.heap[w.heap.size]? = some (.cells #[.int .i64 0, .slice none 0 0] 77 (0, 0))

theorem AI.own {w Wb : World} {l : List In} {rb : Nat} (hrb : rb < Wb.heap.size) (hw : w.heap.size ≤ Wb.heap.size) : OwnFrom Wb.heap.size (AI w Wb l rb) := by
  intro pre W W' row h hg hr
  have hs := h.siz
  have hk : ∀ k, k < Wb.heap.size → W'.heap[k]? = W.heap[k]? := fun k hk => hg.block k (by omega) (fun e => by have := (hr k e.symm).1; omega)
  exact ⟨h.bel.grown hg h.bel.size (fun k e => by have := (hr k e).1; omega), Nat.le_trans hs hg.size, fun k k1 k2 => (hk k k1).trans (h.oth k k1 k2), (hk rb hrb).trans h.row, h.rng⟩

theorem AX.own {w Wb : World} {l : List In} (hw : w.heap.size + 2 ≤ Wb.heap.size) : OwnFrom Wb.heap.size (AX w Wb l) := by
  intro pre W W' row h hg hr
  have hs := h.siz
  have hk : ∀ k, k < Wb.heap.size → W'.heap[k]? = W.heap[k]? := fun k hk => hg.block k (by omega) (fun e => by have := (hr k e.symm).1; omega)
  obtain ⟨ini, x, e1, e2, e3, e4⟩ := h.out
  exact ⟨h.bel.grown hg h.bel.size (fun k e => by have := (hr k e).1; omega), Nat.le_trans hs hg.size, ⟨ini, x, e1, e2, e3, (hk _ (by omega)).trans e4⟩, (hk _ (by omega)).trans h.k2⟩

theorem AI.cell {w Wb W : World} {l : List In} {rb : Nat} {pre : List (At l)} (h : AI w Wb l rb pre W) {p : Addr} {v : Value} (hne : p.block ≠ rb) (hv : Wb.cell? p = some v) : W.cell? p = some v := by
  have := h.oth p.block (World.block_lt_of_cell? _ _ hv) hne
  unfold World.cell? at *
  rw [this]
  exact hv

theorem AI.at_ {w Wb W : World} {l : List In} {rb : Nat} {pre : List (At l)} (h : AI w Wb l rb pre W) {j : Nat} (hj : j < l.length) : W.cell? ⟨rb, j, none⟩ = some (.int .i64 (RF l pre j)) := (cells_of h.row).1 j _ (by simp [rowV, hj])

theorem AI.told {w Wb W : World} {l : List In} {iad : Option Addr} {ic rb p b1 b2 b3 cb g7 : Nat} {pre : List (At l)} (hB : AB w Wb l iad ic rb p b1 b2 b3 cb g7) (h : AI w Wb l rb pre W) : ToldAt W p l.length (RF l pre) :=
  ⟨_, _, h.cell (by have := hB.a2.o2; show p ≠ rb; omega) hB.a2.cp, Nat.le_refl _, .inr ⟨rb, 0, rfl, fun j hj => by rw [Nat.zero_add]; exact h.at_ hj⟩⟩

theorem AI.rules {w Wb W : World} {l : List In} {iad : Option Addr} {ic rb p b1 b2 b3 cb g7 : Nat} {pre : List (At l)} (hB : AB w Wb l iad ic rb p b1 b2 b3 cb g7) (h : AI w Wb l rb pre W) : RulesAt W l (RF l pre) b1 b2 b3 := by
  obtain ⟨o1, o2, o3, o4, o5⟩ := hB.o1
  exact ⟨⟨iad, ic, h.cell (by show b1 ≠ rb; omega) hB.c1, hB.img.below h.bel⟩, ⟨p, h.cell (by show b2 ≠ rb; omega) hB.c2, h.told hB⟩, ⟨cb, h.cell (by show b3 ≠ rb; omega) hB.c3, fun j hj => h.cell (by show cb ≠ rb; omega) (hB.cc j hj)⟩⟩

theorem AI.drew {w Wb W : World} {l : List In} {rb : Nat} {pre : List (At l)} (h : AI w Wb l rb pre W) : AI w Wb l rb pre W.drew := ⟨h.bel.drew, h.siz, h.oth, h.row, h.rng⟩

theorem AI.grow {w Wb W W' : World} {l : List In} {rb : Nat} {pre : List (At l)} (h : AI w Wb l rb pre W) (hb : Below W.heap.size W W') : AI w Wb l rb pre W' := by
  have hs := h.siz
  exact ⟨below_seq h.bel hb, Nat.le_trans hs hb.size, fun k k1 k2 => (hb.block k (by omega)).trans (h.oth k k1 k2), (hb.block rb (Array.getElem?_eq_some_iff.1 h.row).1).trans h.row, h.rng⟩

theorem AI.next {w Wb W : World} {l : List In} {rb : Nat} {pre : List (At l)} (h : AI w Wb l rb pre W) (hw : w.heap.size ≤ rb) (hg : GL l) (x : At l) (hz : ruleI l (RF l pre) (clF l) x.1 ≤ 1099511627776) : AI w Wb l rb (pre ++ [x]) (W.setCell ⟨rb, x.1, none⟩ (.int .i64 (ruleI l (RF l pre) (clF l) x.1))) := by
  refine ⟨h.bel.setCell (by show w.heap.size ≤ rb; exact hw) _, by simpa using h.siz, fun k k1 k2 => (Below.heap_setCell _ _ _ _ k2).trans (h.oth k k1 k2), ?_, fun j => ?_⟩
  · rw [setCell_at h.row, RF_snoc]
    congr 1
    have : (rowV (RF l pre) l.length).toArray.setIfInBounds x.1 (.int .i64 (ruleI l (RF l pre) (clF l) x.1)) = (rowV (updR (RF l pre) x.1 (ruleI l (RF l pre) (clF l) x.1)) l.length).toArray := by
      apply Array.ext
      · simp [rowV]
      · intro i h1 h2
        simp [rowV] at h2
        rw [Array.getElem_setIfInBounds (by simpa [rowV] using h2)]
        by_cases e : x.1 = i
        · rw [if_pos e]; simp [rowV, updR, e]
        · rw [if_neg e]; simp [rowV, updR]; exact fun e' => absurd e'.symm e
    rw [this]
  · rw [RF_snoc]
    unfold updR
    split
    · exact ⟨rule_pos hg.fwd x.2 (fun j => (h.rng j).1), hz⟩
    · exact h.rng j

theorem ins_at {w Wb : World} {l : List In} {iad : Option Addr} {ic : Nat} (h : InSl w l (.slice iad l.length ic)) (hb : Below w.heap.size w Wb) : l = [] ∨ ∃ b o, iad = some ⟨b, o, none⟩ ∧ b < w.heap.size ∧ ∀ j, j < l.length → Wb.cell? ⟨b, o + j * 3, none⟩ = some (.int .i64 (l.getD j in0).op) ∧ Wb.cell? ⟨b, o + j * 3 + 1, none⟩ = some (.int .i64 (l.getD j in0).a) ∧ Wb.cell? ⟨b, o + j * 3 + 2, none⟩ = some (.int .i64 (l.getD j in0).b) := by
  obtain ⟨ad', c', e', hrow⟩ := h
  cases e'
  rcases hrow with hrow | ⟨b, o, rfl, hrow⟩
  · exact .inl hrow
  by_cases hl : l = []
  · exact .inl hl
  · refine .inr ⟨b, o, rfl, World.block_lt_of_cell? _ _ (hrow 0 (List.length_pos_iff.2 hl)).1, fun j hj => ?_⟩
    exact ⟨below_cell hb (hrow j hj).1, below_cell hb (hrow j hj).2.1, below_cell hb (hrow j hj).2.2⟩

theorem AI_start {w Wb : World} {l : List In} {rb p : Nat} (h : A2 w Wb l.length rb p) : AI w Wb l rb [] Wb := by
  refine ⟨h.bel, Nat.le_refl _, fun _ _ _ => rfl, ?_, fun j => ⟨Int.le_refl _, by show (0 : Int) ≤ _; omega⟩⟩
  have e : rowV (RF l []) l.length = intVs (List.replicate l.length 0) := by
    apply List.ext_getElem
    · simp [rowV, intVs]
    · intro i h1 h2
      simp [rowV, intVs, RF]
  rw [e]
  exact h.kr

theorem keepSet {W : World} {g q : Nat} {v : Value} (hne : ¬ g = q) (h : W.cell? ⟨q, 0, none⟩ = some v) (a b : Value) : ((W.setCell ⟨g, 0, none⟩ a).setCell ⟨g, 1, none⟩ b).cell? ⟨q, 0, none⟩ = some v := by
  have e := other_two (w := W) (g := g) (k := q) (fun e => hne e.symm) a b
  unfold World.cell? at *
  dsimp only at *
  rw [e]
  exact h

theorem keepsO_below {W W' : World} (h : Below W.heap.size W W') : KeepsOthers W W' := ⟨h.size, fun k _ hk _ => (h.block k (Array.getElem?_eq_some_iff.1 hk).1).trans hk⟩

theorem an_fault {l : List In} {ini : List (At l)} {x : At l} (hd : Dn l (ini ++ [x])) (hl : (ini ++ [x]).length ≤ l.length) (h1 : ∀ j, RF l ini j ≤ 1099511627776) (h2 : 1099511627776 < ruleI l (RF l ini) (clF l) x.1) : 1099511627776 < restF l x.1 ∧ ∀ j, x.1 < j → restF l j ≤ 1099511627776 := by
  obtain ⟨hd', hx⟩ := hd.last
  have hl' : ini.length + 1 ≤ l.length := by simpa using hl
  have e := RF_rest ini.length ini rfl hd' (by omega)
  rw [e] at h1 h2
  constructor
  · rw [← restF_at x.2 (d := ini.length + 1) (by omega) (by omega)]
    show _ < (if x.1 = l.length - (ini.length + 1) then ruleI l (restAt l ini.length) (clF l) x.1 else _)
    rw [if_pos (by omega)]
    exact h2
  · intro j hj
    by_cases hjl : j < l.length
    · rw [← restF_at hjl (d := ini.length) (by omega) (by omega)]
      exact h1 j
    · rw [restF_out (by omega)]
      omega

/-- What Analyse answers, of an image that is right. -/
def AnP (l : List In) (w : World) (r : Ending) (w' : World) : Prop := Below w.heap.size w w' ∧ ((∃ k : Nat, k < l.length ∧ 1099511627776 < restF l k ∧ (∀ j, k < j → restF l j ≤ 1099511627776) ∧ r = .returned (.tuple #[.agg #[.int .i64 0, .slice none 0 0], .agg #[.int .i64 3, .int .i64 k]])) ∨
  ((∀ j, restF l j ≤ 1099511627776) ∧ ∃ rb, w.heap.size ≤ rb ∧ r = .returned (.tuple #[.agg #[.int .i64 (restF l 0), .slice (some ⟨rb, 0, none⟩) l.length l.length], .agg #[.int .i64 0, .int .i64 0]]) ∧ (∀ j, j < l.length → w'.cell? ⟨rb, j, none⟩ = some (.int .i64 (restF l j))) ∧ w'.heap[rb]? = some (.cells (rowV (restF l) l.length).toArray 3 (0, 0))))

theorem put_other {W : World} {D k : Nat} {o o' : Obj} (h : W.heap[k]? = some o) (hk : k ≠ D) : (W.putObj D o').heap[k]? = some o := (World.putObj_heap_other hk).trans h

theorem store_least (w : World) (b1 b2 b3 : Nat) : (store ⟨w.heap.size, 0, none⟩ (.func (Fn.func 114) #[] #[.pointer (some ⟨b1, 0, none⟩), .pointer (some ⟨b2, 0, none⟩), .pointer (some ⟨b3, 0, none⟩)])).run Tryd.prog (w.alloc (.cells #[.nilFunc] 144)) = .ok () (w.alloc (.cells #[.func (Fn.func 114) #[] #[.pointer (some ⟨b1, 0, none⟩), .pointer (some ⟨b2, 0, none⟩), .pointer (some ⟨b3, 0, none⟩)]] 144)) := by
  rw [run_store Tryd.prog _ _ (.func (Fn.func 114) #[] #[.pointer (some ⟨b1, 0, none⟩), .pointer (some ⟨b2, 0, none⟩), .pointer (some ⟨b3, 0, none⟩)]) .plain rfl]
  simp [go_sem]

set_option maxRecDepth 20000 in
theorem told_box (w : World) (ad : Option Addr) (n c : Nat) : Calls Tryd.prog 78 #[.slice ad n c] w fun r w' => ∃ p, w.heap.size ≤ p ∧ r = .returned (.func (Fn.func 112) #[] #[.pointer (some ⟨p, 0, none⟩)]) ∧ w'.cell? ⟨p, 0, none⟩ = some (.slice ad n c) ∧ Below w.heap.size w w' := by
  go_enter Tryd.func78, Tryd.ntmps78
  go_wp2_with fail
  go_ret
  exact ⟨_, Nat.le_refl _, rfl, by go_simp, below_new _ _⟩

set_option maxRecDepth 20000 in
set_option maxHeartbeats 4000000 in
theorem Analyse_bad (w : World) (l : List In) (iad : Option Addr) (ic : Nat) (hkk : KindsIn w) (hI : InSl w l (.slice iad l.length ic)) (c k : Int) (hc : checkI l = (c, k)) (h0 : ¬ c = 0) : Calls Tryd.prog 45 #[.slice iad l.length ic] w fun r w' => r = .returned (.tuple #[.agg #[.int .i64 0, .slice none 0 0], .agg #[.int .i64 c, .int .i64 k]]) ∧ Below w.heap.size w w' := by
  have hB : Below w.heap.size w ((w.alloc (.cells #[.int .i64 0, .slice none 0 0] 77)).alloc (.cells #[.int .i64 0, .int .i64 0] 30)) := ((Below.refl _ _).alloc (Nat.le_refl _) _).alloc (by simp) _
  have HC := Check_all _ l iad ic (hkk.below hB) (hI.below hB) c k hc
  have HB : Hid (Below w.heap.size w ((w.alloc (.cells #[.int .i64 0, .slice none 0 0] 77)).alloc (.cells #[.int .i64 0, .int .i64 0] 30))) := hB
  have hcb : (c != 0) = true := by simpa using h0
  have k2 : ((w.alloc (.cells #[.int .i64 0, .slice none 0 0] 77)).alloc (.cells #[.int .i64 0, .int .i64 0] 30)).heap[w.heap.size]? = some (.cells #[.int .i64 0, .slice none 0 0] 77 (0, 0)) := ((below_new _ _).block w.heap.size (by simp)).trans (heap_new _ _)
  have k3 : ((w.alloc (.cells #[.int .i64 0, .slice none 0 0] 77)).alloc (.cells #[.int .i64 0, .int .i64 0] 30)).heap[w.heap.size + 1]? = some (.cells #[.int .i64 0, .int .i64 0] 30 (0, 0)) := by have := heap_new (w.alloc (.cells #[.int .i64 0, .slice none 0 0] 77)) (.cells #[.int .i64 0, .int .i64 0] 30); rwa [World.size_alloc] at this
  have HK : Hid (_ ∧ _) := ⟨k2, k3⟩
  clear hB hkk hI hc k2 k3
  go_enter Tryd.func45, Tryd.ntmps45
  go_wp2_with (go_at_call 38; refine HC.mono ?_; rintro r w1 ⟨rfl, hb1⟩; have H1 : Hid (Below w.heap.size w w1) := below_seq HB.out hb1; have j2 := (hb1.block w.heap.size (by simp; omega)).trans HK.out.1; have j3 := (hb1.block (w.heap.size + 1) (by simp)).trans HK.out.2; obtain ⟨c1, f1, l1⟩ := cells_of (l := [_, _]) j2; obtain ⟨d1, e1, m1⟩ := cells_of (l := [_, _]) j3; have HJ : Hid (_ ∧ _) := ⟨j2, j3⟩; have c10 := c1 0 _ rfl; have c11 := c1 1 _ rfl; have d10 := d1 0 _ rfl; have d11 := d1 1 _ rfl; have f10 := f1 0; have f11 := f1 1; have e10 := e1 0; have e11 := e1 1; clear hb1 HC j2 j3 c1 f1 d1 e1)
  go_region
  all_goals go_wp2_with fail
  all_goals
    refine bodyPost_ret (An_ends (g := w.heap.size) (g' := w.heap.size + 1) (a0 := .int .i64 0) (a1 := .slice none 0 0) (c := .int .i64 c) (k := .int .i64 k) (((below_new _ _).block w.heap.size (by simp; omega)).trans ((other_two (by omega) _ _).trans (set_two HJ.out.1))) (((below_new _ _).block (w.heap.size + 1) (by simp; omega)).trans (set_two ((other_two (by omega) _ _).trans HJ.out.2))) rfl rfl) rfl ?_
    exact ⟨rfl, (((((H1.out.setCell (Nat.le_refl _) _).setCell (Nat.le_refl _) _).setCell (Nat.le_succ _) _).setCell (Nat.le_succ _) _).alloc (by simp; omega) _).drew⟩

end Go.Proofs.YtgemadoieielcacDoor
namespace Go.Proofs.YtgemadoieielcacDoor
open Go.ChangeShapes Go.WideShapes Go.ChangeAt Go.RowKit

theorem Ws_ends {w : World} {g g' : Nat} {a0 a1 c k : Value} {a : Act} (h6 : w.heap[g]? = some (.cells #[a0, a1] 77 (0, 0))) (h7 : w.heap[g']? = some (.cells #[c, k] 30 (0, 0))) (h2 : a.tmps[2]?.getD undef = .pointer (some ⟨g, 0, none⟩)) (h3 : a.tmps[3]?.getD undef = .pointer (some ⟨g', 0, none⟩)) :
    (results Tryd.f43 a.tmps).run Tryd.prog w = .ok (.tuple #[.agg #[a0, a1], .agg #[c, k]]) w := by
  obtain ⟨c1, f1, l1⟩ := cells_of (l := [_, _]) h6
  have c10 := c1 0 _ rfl
  have c11 := c1 1 _ rfl
  obtain ⟨d1, e1, m1⟩ := cells_of (l := [_, _]) h7
  have d10 := d1 0 _ rfl
  have d11 := d1 1 _ rfl
  simp [results, Tryd.results43, go_sem, h2, h3, c10, c11, d10, d11]

/-- What Worst answers. -/
def WsP (l : List In) (w : World) (r : Ending) (w' : World) : Prop := Below w.heap.size w w' ∧ (¬ (anF l).1 = 0 → r = .returned (.tuple #[.agg #[.int .i64 0, .slice none 0 0], .agg #[.int .i64 (anF l).1, .int .i64 (anF l).2]])) ∧
  ((anF l).1 = 0 → (∀ j, restF l j ≤ 1099511627776) ∧ ∃ rad rc, l.length ≤ rc ∧ r = .returned (.tuple #[.agg #[.int .i64 (restF l 0), .slice rad l.length rc], .agg #[.int .i64 0, .int .i64 0]]) ∧ RowI w' rad l.length (restF l))

set_option maxRecDepth 20000 in
set_option maxHeartbeats 4000000 in
theorem Worst_check (w : World) (l : List In) (iad : Option Addr) (ic : Nat) (hI : InSl w l (.slice iad l.length ic)) (c k : Int) (hc : docI l = (c, k)) (h0 : ¬ c = 0) : Calls Tryd.prog 43 #[.slice iad l.length ic] w fun r w' => r = .returned (.tuple #[.agg #[.int .i64 0, .slice none 0 0], .agg #[.int .i64 c, .int .i64 k]]) ∧ Below w.heap.size w w' := by
  have hB : Below w.heap.size w ((w.alloc (.cells #[.int .i64 0, .slice none 0 0] 77)).alloc (.cells #[.int .i64 0, .int .i64 0] 30)) := ((Below.refl _ _).alloc (Nat.le_refl _) _).alloc (by simp) _
  have HB : Hid (Below w.heap.size w ((w.alloc (.cells #[.int .i64 0, .slice none 0 0] 77)).alloc (.cells #[.int .i64 0, .int .i64 0] 30))) := hB
  have k2 : ((w.alloc (.cells #[.int .i64 0, .slice none 0 0] 77)).alloc (.cells #[.int .i64 0, .int .i64 0] 30)).heap[w.heap.size]? = some (.cells #[.int .i64 0, .slice none 0 0] 77 (0, 0)) := ((below_new _ _).block w.heap.size (by simp)).trans (heap_new _ _)
  have k3 : ((w.alloc (.cells #[.int .i64 0, .slice none 0 0] 77)).alloc (.cells #[.int .i64 0, .int .i64 0] 30)).heap[w.heap.size + 1]? = some (.cells #[.int .i64 0, .int .i64 0] 30 (0, 0)) := by have := heap_new (w.alloc (.cells #[.int .i64 0, .slice none 0 0] 77)) (.cells #[.int .i64 0, .int .i64 0] 30); rwa [World.size_alloc] at this
  have HK : Hid (_ ∧ _) := ⟨k2, k3⟩
  have HC := ReadImage_any _ l iad ic (hI.below hB) c k hc
  have hcb : (c != 0) = true := by simpa using h0
  clear hB hI hc k2 k3
  go_enter Tryd.func43, Tryd.ntmps43
  go_wp2_with (go_at_call 24; refine HC.mono ?_; rintro r w1 ⟨⟨p, rfl, -⟩, hb1⟩; have H1 : Hid (Below w.heap.size w w1) := below_seq HB.out hb1; have j2 := (hb1.block w.heap.size (by simp; omega)).trans HK.out.1; have j3 := (hb1.block (w.heap.size + 1) (by simp)).trans HK.out.2; obtain ⟨c1, f1, l1⟩ := cells_of (l := [_, _]) j2; obtain ⟨d1, e1, m1⟩ := cells_of (l := [_, _]) j3; have HJ : Hid (_ ∧ _) := ⟨j2, j3⟩; have c10 := c1 0 _ rfl; have c11 := c1 1 _ rfl; have d10 := d1 0 _ rfl; have d11 := d1 1 _ rfl; have f10 := f1 0; have f11 := f1 1; have e10 := e1 0; have e11 := e1 1; clear hb1 HC j2 j3 c1 f1 d1 e1)
  go_region
  all_goals go_wp2_with fail
  all_goals
    refine bodyPost_ret (Ws_ends (g := w.heap.size) (g' := w.heap.size + 1) (a0 := .int .i64 0) (a1 := .slice none 0 0) (c := .int .i64 c) (k := .int .i64 k) (((below_new _ _).block w.heap.size (by simp; omega)).trans ((other_two (by omega) _ _).trans (set_two HJ.out.1))) (((below_new _ _).block (w.heap.size + 1) (by simp; omega)).trans (set_two ((other_two (by omega) _ _).trans HJ.out.2))) rfl rfl) rfl ?_
    exact ⟨rfl, (((((H1.out.setCell (Nat.le_refl _) _).setCell (Nat.le_refl _) _).setCell (Nat.le_succ _) _).setCell (Nat.le_succ _) _).alloc (by simp; omega) _).drew⟩

end Go.Proofs.YtgemadoieielcacDoor
namespace Go.Proofs.YtgemadoieielcacDoor
open Go.ChangeShapes Go.WideShapes Go.ChangeAt Go.RowKit

section
variable {P : Program} {ops : Array Oper} {Q : Exit → Act → World → Prop} {md : Region.Mode} {S : World → Prop} {L : Nat}

/-- What has come up has behind it what it waits for. -/
def shutB (md : Region.Mode) (ops : Array Oper) (l : Array Bool) : Bool :=
  (List.range ops.size).all fun k => !l.getD k false || match ops[k]? with
    | some o => o.after.all fun e => !Region.binds md e || l.getD e.on false
    | none => true
def ShutP (md : Region.Mode) (ops : Array Oper) (l : Array Bool) : Prop :=
  ∀ k o, ops[k]? = some o → l.getD k false = true → ∀ e ∈ o.after, Region.binds md e = true → l.getD e.on false = true
theorem shut_spec {l : Array Bool} (h : shutB md ops l = true) : ShutP md ops l := fun k o hk hl e he hb => by
  simp only [shutB, List.all_eq_true, List.mem_range] at h
  have h1 := h k (Array.getElem?_eq_some_iff.1 hk).1
  simp only [hk, hl, Bool.not_true, Bool.false_or] at h1
  have h2 := Array.all_eq_true_iff_forall_mem.1 h1 e he
  simpa [hb] using h2
theorem shut_set {l : Array Bool} {j : Nat} (h : ShutP md ops l) (hj : j ∈ Region.ready md ops l) : ShutP md ops (l.setIfInBounds j true) := fun k o hk hl e he hb => by
  by_cases hkj : j = k
  · subst hkj
    obtain ⟨-, o', ho', hall⟩ := mem_ready.1 hj
    rw [hk] at ho'; cases ho'
    exact getD_set_true (hall e he hb)
  · rw [getD_set_ne false hkj] at hl
    exact getD_set_true (h k o hk hl e he hb)

/-- All wait, one for the other, to be followed by number L, the last one. -/
def lastB (md : Region.Mode) (ops : Array Oper) (L : Nat) : Bool :=
  L + 1 == ops.size && (List.range L).all fun i => (List.range (L + 1)).any fun j => decide (i < j) && match ops[j]? with
    | some o => o.after.any fun e => Region.binds md e && e.on == i
    | none => false
theorem last_spec {l : Array Bool} (hL : lastB md ops L = true) (h : ShutP md ops l) (hr : L ∈ Region.ready md ops l) : ∀ (d i : Nat), i < L → L - i ≤ d → l.getD i false = true
  | 0, i, hi, hd => by omega
  | d + 1, i, hi, hd => by
    simp only [lastB, Bool.and_eq_true, List.all_eq_true, List.mem_range, List.any_eq_true, decide_eq_true_eq] at hL
    obtain ⟨j, hj, hij, hm⟩ := hL.2 i hi
    cases ho : ops[j]? with
    | none => simp [ho] at hm
    | some o =>
      simp only [ho] at hm
      obtain ⟨e, he, hb⟩ := Array.any_eq_true'.1 hm
      simp only [Bool.and_eq_true, beq_iff_eq] at hb
      rw [← hb.2]
      by_cases hjL : j = L
      · subst hjL
        obtain ⟨-, o', ho', hall⟩ := mem_ready.1 hr
        rw [ho] at ho'; cases ho'
        exact hall e he hb.1
      · exact h j o ho (last_spec (by simp only [lastB, Bool.and_eq_true, List.all_eq_true, List.mem_range, List.any_eq_true, decide_eq_true_eq]; exact hL) h hr d j (by omega) (by omega)) e he hb.1

/-- Whatever order is picked, and S holds behind each operation but the last. -/
def wpAnyL (P : Program) (md : Region.Mode) (ops : Array Oper) (Q : Exit → Act → World → Prop) (S : World → Prop) (L : Nat) : Nat → Array Bool → Act → World → Prop
  | 0, l, a, w => Region.ready md ops l = [] ∧ Q .normal a w
  | f + 1, l, a, w => (Region.ready md ops l = [] → Q .normal a w) ∧ ∀ i ∈ Region.ready md ops l, wpOp P ops Q i (fun a' w' => (i ≠ L → S w') ∧ wpAnyL P md ops Q S L f (l.setIfInBounds i true) a' w') a w

theorem wpAnyL.any : ∀ (f : Nat) (l : Array Bool) (a : Act) (w : World), wpAnyL P md ops Q S L f l a w → wpAny P md ops Q f l a w
  | 0, _, _, _, h => h
  | f + 1, _, _, _, h => ⟨h.1, fun i hi => wpOp_mono (fun a' w' h' => wpAnyL.any f _ a' w' h'.2) (h.2 i hi)⟩

theorem wpAnyL_first {i : Nat} {oi : Oper} {v : Value} (hi : ops[i]? = some oi) (hsel : ∀ (j : Nat) (o : Oper) cs b, ops[j]? = some o → o.op ≠ .select cs b)
    (hQ : ∀ c a w, Q (.panic c) (a.put oi.dst v) w → Q (.panic c) a w) (hL : lastB md ops L = true) (hiL : i < L) :
    ∀ (f : Nat) (l : Array Bool) (a : Act) (w : World), ShutP md ops l →
      (∀ j oj, ops[j]? = some oj → j ≠ i → l.getD j true = false → (∀ e ∈ oj.after, Region.binds md e = true → e.on ≠ i) → oi.apart ops oj = true) →
      i ∈ Region.ready md ops l → YieldsIf P ops S oi v a → S w →
      wpAnyL P md ops Q S L f (l.setIfInBounds i true) (a.put oi.dst v) w → wpAnyL P md ops Q S L (f + 1) l a w
  | f, l, a, w => fun hsh hfree hr hy hS H => by
    refine ⟨fun h => (by rw [h] at hr; cases hr), fun j hj => ?_⟩
    by_cases hji : j = i
    · subst hji; exact hy.wpOp hi hS ⟨fun _ => hS, H⟩
    have h0 := (mem_ready.1 hr).1
    have hjL : j ≠ L := fun e => by
      subst e
      have h1 := last_spec hL hsh hj (j - i) i hiL (Nat.le_refl _)
      rcases Nat.lt_or_ge i l.size with h' | h'
      · simp [h'] at h0 h1; rw [h0] at h1; cases h1
      · simp [Array.getElem?_eq_none h'] at h1
    cases f with
    | zero =>
      have := ready_mono hj hji
      rw [H.1] at this
      cases this
    | succ f =>
      obtain ⟨hjun, oj, hoj, hall⟩ := mem_ready.1 hj
      have hnot : ∀ e ∈ oj.after, Region.binds md e = true → e.on ≠ i := fun e he hb heq => by
        have h1 := hall e he hb
        rw [heq] at h1
        rcases Nat.lt_or_ge i l.size with h' | h'
        · simp [h'] at h0 h1; rw [h0] at h1; cases h1
        · simp [Array.getElem?_eq_none h'] at h1
      refine wpOp_mono (fun a' w' h3 => ?_) (wpOp_putIf hoj (hfree j oj hoj hji hjun hnot) (fun cs b => hsel i oi cs b hi) (fun cs b => hsel j oj cs b hoj) hQ hy (H.2 j (ready_mono hj hji)))
      refine ⟨h3.2.1, wpAnyL_first hi hsel hQ hL hiL f (l.setIfInBounds j true) a' w' (shut_set hsh hj) (fun k ok hk hki hun hno => ?_) (ready_mono hr (Ne.symm hji)) h3.1 (h3.2.1 hjL) (by rw [Array.setIfInBounds_comm _ _ hji]; exact h3.2.2)⟩
      refine hfree k ok hk hki ?_ hno
      by_cases hjk : j = k
      · subst hjk; exact hjun
      · rw [getD_set_ne true hjk] at hun; exact hun

/-- One that is taken first, its slot written out. -/
theorem takeL_at {i n : Nat} {oi : Oper} {v : Value} {f : Nat} {l : Array Bool} {xs : List Value} {ds : List Deferred} {w : World}
    (hi : ops[i]? = some oi) (hd : oi.dst = some n) (hs : Region.noSelect ops = true) (hL : lastB md ops L = true) (hiL : i < L) (hsh : shutB md ops l = true) (hf : Region.free md ops l i = true) (hr : (Region.ready md ops l).contains i = true)
    (hQ : ∀ c a w, Q (.panic c) (a.put oi.dst v) w → Q (.panic c) a w) (hy : YieldsIf P ops S oi v ⟨xs.toArray, ds⟩) (hS : S w)
    (h : wpAnyL P md ops Q S L f (l.setIfInBounds i true) ⟨(xs.set n v).toArray, ds⟩ w) : wpAnyL P md ops Q S L (f + 1) l ⟨xs.toArray, ds⟩ w := by
  refine wpAnyL_first hi (Region.noSelect_spec hs) hQ hL hiL f l _ w (shut_spec hsh) (Region.free_spec hi hf) (by simpa using hr) hy hS ?_
  have e : Act.put ⟨xs.toArray, ds⟩ oi.dst v = ⟨(xs.set n v).toArray, ds⟩ := by rw [hd]; simp [Act.put]
  rw [e]
  exact h

/-- One that is alone. -/
theorem wpAnyL_one {i : Nat} {o : Oper} {f : Nat} {l : Array Bool} {a : Act} {w : World} (hr : Region.ready md ops l = [i]) (ho : ops[i]? = some o)
    (h : ∀ K' : Act → World → Prop, Shut (∀ a w, (i ≠ L → S w) → wpAnyL P md ops Q S L f (l.setIfInBounds i true) a w → K' a w) → if Region.wanted o (yielded ops a.tmps) = true then Oper.wp P o a w K' Q else K' (a.put o.dst undef) w) : wpAnyL P md ops Q S L (f + 1) l a w :=
  ⟨(fun h0 => absurd (hr.symm.trans h0) (by simp)), fun j hj => by
    rw [hr, List.mem_singleton] at hj
    subst hj
    exact wpOp_step ho (fun K' hK => h K' (fun a w hS hW => hK a w ⟨hS, hW⟩))⟩

theorem wpAnyL_done {l : Array Bool} {a : Act} {w : World} (hr : Region.ready md ops l = []) (h : Q .normal a w) : ∀ f, wpAnyL P md ops Q S L f l a w
  | 0 => ⟨hr, h⟩
  | _ + 1 => ⟨fun _ => h, by rw [hr]; simp⟩

theorem wp_region_last {id : Nat} {a : Act} {w : World} (hm : P.follows .mixedOrders = true)
    (h : wpAnyL P .any ops Q S L ops.size (Array.replicate ops.size false) a w.drew) : (Code.region id ops true).wp P Q a w :=
  wp_region_any hm (h.any _ _ _ _)
end
end Go.Proofs.YtgemadoieielcacDoor
