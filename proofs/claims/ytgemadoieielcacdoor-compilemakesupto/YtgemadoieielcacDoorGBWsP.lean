import Derived.Test.YtgemadoieielcacDoorGBFirst
import Derived.Test.YtgemadoieielcacDoorGBSize
import Derived.Deep.RegionLawGrows
namespace Go.Proofs.YtgemadoieielcacDoor.B
open Go.ChangeShapes Go.WideShapes Go.ChangeAt Go.RowKit

/-- A statement with how many lie around it, and the locks around. -/
structure Fl where
  s : St
  d : Int
  ls : List Int

def St.k : St → Int | .mk k _ _ _ _ _ _ _ => k
def St.n : St → Int | .mk _ n _ _ _ _ _ _ => n
def locksIn (k n : Int) (ls : List Int) : List Int := if k = 6 then ls ++ [n] else ls

mutual
def St.flat : St → Int → List Int → List Fl
  | .mk k n e ck ca cb b l, d, ls => ⟨.mk k n e ck ca cb b l, d, ls⟩ :: (St.flatAll b (d + 1) (locksIn k n ls) ++ St.flatAll l (d + 1) (locksIn k n ls))
def St.flatAll : List St → Int → List Int → List Fl
  | [], _, _ => []
  | s :: r, d, ls => s.flat d ls ++ St.flatAll r d ls
end

mutual
theorem St.flat_len : ∀ (s : St) (d : Int) (ls : List Int), (s.flat d ls).length = s.count
  | .mk k n e ck ca cb b l, d, ls => by
    have := St.flatAll_len b (d + 1) (locksIn k n ls)
    have := St.flatAll_len l (d + 1) (locksIn k n ls)
    simp only [St.flat, St.count, List.length_cons, List.length_append]
    omega
theorem St.flatAll_len : ∀ (a : List St) (d : Int) (ls : List Int), (St.flatAll a d ls).length = St.countAll a
  | [], _, _ => by simp [St.flatAll, St.countAll]
  | s :: r, d, ls => by
    have := St.flat_len s d ls
    have := St.flatAll_len r d ls
    simp only [St.flatAll, St.countAll, List.length_append]
    omega
end

/-- A block of numbers. -/
def intBlk (w : World) (b : Nat) : Prop := ∃ cur fr, w.heap[b]? = some (.cells cur 3 fr)

/-- Locks in memory. -/
def LocksIn (w : World) (v : Value) (ls : List Int) : Prop :=
  ∃ ad c, v = .slice ad ls.length c ∧ (ad = none → c = 0) ∧ (ls = [] ∨ ∃ b o, ad = some ⟨b, o, none⟩ ∧ intBlk w b ∧ ∀ j z, ls[j]? = some z → w.cell? ⟨b, o + j, none⟩ = some (.int .i64 z))

/-- Blocks of numbers stay. -/
def KeepsInts (w w' : World) : Prop := ∀ b, intBlk w b → w'.heap[b]? = w.heap[b]?

theorem KeepsInts.blk {w w' : World} (h : KeepsInts w w') {b : Nat} (hb : intBlk w b) : intBlk w' b := by
  obtain ⟨cur, fr, hc⟩ := hb
  exact ⟨cur, fr, (h b ⟨cur, fr, hc⟩).trans hc⟩

theorem KeepsInts.trans {a b c : World} (h : KeepsInts a b) (h' : KeepsInts b c) : KeepsInts a c := fun x hx => (h' x (h.blk hx)).trans (h x hx)

theorem keepsInts_below {w w' : World} (h : Below w.heap.size w w') : KeepsInts w w' := fun b ⟨_, _, hc⟩ => h.block b (Array.getElem?_eq_some_iff.1 hc).1

theorem keepsInts_grown {w w' : World} {base n size : Nat} {v : Value} {xs : List Value} (ho : w.ownsRow base 169 size v n xs) (hg : w.grownBy w' v.ownBlock) : KeepsInts w w' := by
  intro b hb
  obtain ⟨cur, fr, hc⟩ := hb
  refine hg.block b (Array.getElem?_eq_some_iff.1 hc).1 fun e => ?_
  rcases ho.2 with ⟨rfl, _⟩ | ⟨g, cap, cur', rfl, _, hh, _⟩
  · simp [Value.ownBlock] at e
  · simp [Value.ownBlock] at e
    subst e
    rw [hc] at hh
    simp at hh

theorem LocksIn.keep {w w' : World} (h : KeepsInts w w') {v : Value} {ls : List Int} (hl : LocksIn w v ls) : LocksIn w' v ls := by
  obtain ⟨ad, c, hv, h0, hl⟩ := hl
  refine ⟨ad, c, hv, h0, ?_⟩
  rcases hl with hl | ⟨b, o, h1, h2, h3⟩
  · exact .inl hl
  · exact .inr ⟨b, o, h1, h.blk h2, fun j z hj => (World.cell?_of_block (h b h2)).trans (h3 j z hj)⟩

/-- Flat statements as the cells of a row: the statements as they lay in w0, the locks as they lie in w. -/
def Fl.Cells (w0 w : World) : List Fl → List Value → Prop
  | [], xs => xs = []
  | f :: r, xs => ∃ x : Nat → Value, ∃ lo ys, xs = [x 0, x 1, x 2, x 3, x 4, x 5, x 6, x 7, x 8, x 9, x 10, x 11, x 12, x 13, .int .i64 f.d, lo] ++ ys ∧ f.s.In w0 (stVal x) ∧ LocksIn w lo f.ls ∧ Fl.Cells w0 w r ys

theorem Fl.Cells.keep {w0 w w' : World} (h : KeepsInts w w') : ∀ (a : List Fl) {xs : List Value}, Fl.Cells w0 w a xs → Fl.Cells w0 w' a xs
  | [], _, hc => hc
  | f :: r, xs, hc => by
    obtain ⟨x, lo, ys, hx, h1, h2, h3⟩ := hc
    exact ⟨x, lo, ys, hx, h1, h2.keep h, Fl.Cells.keep h r h3⟩

theorem Fl.Cells.append {w0 w : World} : ∀ (a b : List Fl) {xs ys : List Value}, Fl.Cells w0 w a xs → Fl.Cells w0 w b ys → Fl.Cells w0 w (a ++ b) (xs ++ ys)
  | [], b, xs, ys, h, h' => by unfold Fl.Cells at h; subst h; exact h'
  | e :: r, b, xs, ys, h, h' => by
    obtain ⟨x, lo, zs, rfl, h1, h2, h3⟩ := h
    exact ⟨x, lo, zs ++ ys, by simp, h1, h2, Fl.Cells.append r b h3 h'⟩

theorem Fl.Cells.len {w0 w : World} : ∀ (a : List Fl) {xs : List Value}, Fl.Cells w0 w a xs → xs.length = a.length * 16
  | [], _, h => by unfold Fl.Cells at h; subst h; rfl
  | e :: r, xs, h => by
    obtain ⟨x, lo, zs, rfl, h1, h2, h3⟩ := h
    have := Fl.Cells.len r h3
    simp; omega

theorem St.In.shape {w : World} {s : St} {x : Nat → Value} (h : s.In w (stVal x)) : ∃ k n ek en ead em ec ck ak an aad am ac bk bn bad bm bc yad ym yc lad lm lc,
    x 0 = .int .i64 k ∧ x 1 = .int .i64 n ∧ x 2 = .int .i64 ek ∧ x 3 = .int .i64 en ∧ x 4 = .slice ead em ec ∧ x 5 = .int .i64 ck ∧ x 6 = .int .i64 ak ∧ x 7 = .int .i64 an ∧ x 8 = .slice aad am ac ∧
    x 9 = .int .i64 bk ∧ x 10 = .int .i64 bn ∧ x 11 = .slice bad bm bc ∧ x 12 = .slice yad ym yc ∧ x 13 = .slice lad lm lc := by
  obtain ⟨k, n, ⟨ek, en, ea⟩, ck, ⟨ak, an, aa⟩, ⟨bk, bn, ba⟩, y, l⟩ := s
  unfold St.In at h
  obtain ⟨e0, e1, e2, a0, a1, a2, b0, b1, b2, sb, sl, hv, h1, h2, h3, ⟨ad, c, h4, -⟩, ⟨ad', c', h5, -⟩⟩ := h
  unfold Ex.In at h1 h2 h3
  obtain ⟨ead, ec, hv1, -⟩ := h1
  obtain ⟨aad, ac, hv2, -⟩ := h2
  obtain ⟨bad, bc, hv3, -⟩ := h3
  unfold stVal at hv
  simp only [Value.agg.injEq, Array.mk.injEq, List.cons.injEq, and_true] at hv hv1 hv2 hv3
  obtain ⟨v0, v1, v2, v3, v4, v5, v6, v7, v8, v9, v10, v11, v12, v13⟩ := hv
  exact ⟨k, n, ek, en, ead, ea.length, ec, ck, ak, an, aad, aa.length, ac, bk, bn, bad, ba.length, bc, ad, y.length, c, ad', l.length, c', v0, v1, v2.trans hv1.1, v3.trans hv1.2.1, v4.trans hv1.2.2, v5, v6.trans hv2.1, v7.trans hv2.2.1, v8.trans hv2.2.2, v9.trans hv3.1, v10.trans hv3.2.1, v11.trans hv3.2.2, v12.trans h4, v13.trans h5⟩

theorem Fl.Cells.one {w0 w : World} : ∀ (a : List Fl) {xs : List Value}, Fl.Cells w0 w a xs → ∀ u ∈ xs, u.oneCell' = true
  | [], _, h, u, hu => by unfold Fl.Cells at h; subst h; simp at hu
  | e :: r, xs, h, u, hu => by
    obtain ⟨x, lo, zs, rfl, h1, h2, h3⟩ := h
    obtain ⟨k, n, ek, en, ead, em, ec, ck, ak, an, aad, am, ac, bk, bn, bad, bm, bc, yad, ym, yc, lad, lm, lc, g0, g1, g2, g3, g4, g5, g6, g7, g8, g9, g10, g11, g12, g13⟩ := h1.shape
    obtain ⟨ad, c, rfl, -⟩ := h2
    rcases List.mem_append.1 hu with hu | hu
    · rw [g0, g1, g2, g3, g4, g5, g6, g7, g8, g9, g10, g11, g12, g13] at hu
      simp only [List.mem_cons, List.not_mem_nil, or_false] at hu
      rcases hu with rfl | rfl | rfl | rfl | rfl | rfl | rfl | rfl | rfl | rfl | rfl | rfl | rfl | rfl | rfl | rfl <;> rfl
    · exact Fl.Cells.one r h3 u hu
end Go.Proofs.YtgemadoieielcacDoor.B
namespace Go.Proofs.YtgemadoieielcacDoor.B
open Go.ChangeShapes Go.WideShapes Go.ChangeAt Go.RowKit

theorem info57 : (Tryd.prog.info? 169).map (fun i => (i.zero, i.size, i.bytes)) = some (some (.agg #[.int .i64 0, .int .i64 0, .int .i64 0, .int .i64 0, .slice none 0 0, .int .i64 0, .int .i64 0, .int .i64 0, .slice none 0 0, .int .i64 0, .int .i64 0, .slice none 0 0, .slice none 0 0, .slice none 0 0, .int .i64 0, .slice none 0 0]), 16, 224) := by kernel_rfl
theorem info3 : (Tryd.prog.info? 3).map (fun i => (i.zero, i.size, i.bytes)) = some (some (.int .i64 0), 1, 8) := by kernel_rfl

/-- .. from whatever source, onto a slice that has something. -/
theorem append_all {P : Program} (w : World) {ops : Array Oper} {rest : List Oper} {o : Oper} {a : Act} {Q : Exit → Act → World → Prop}
    (hg : o.guard = none) (s x : Operand) (t : TypeId) (hop : o.op = Op.call { callee := Callee.builtin Builtin.append, args := #[s, x], argTypes := #[t, t] })
    (base : Nat) (e : TypeId) (i : TypeInfo) (z : Value) (size bytes : Nat) (h1 : P.underlying t = some (.slice e)) (h2 : P.info? e = some i) (h3 : i.zero = some z) (h4 : i.size = size) (h5 : i.bytes = bytes) (h6 : z.cells.size = size) (h7 : 0 < size)
    (v : Value) (n : Nat) (xs : List Value) (hs : a.eval s = v) (hown : w.ownsRow base e size v n xs) (hn0 : 0 < n)
    (u : Value) (m : Nat) (news : List Value) (b' : Nat) (hx : a.eval x = u) (hu : w.ownsRow b' e size u m news) (h1c : ∀ u ∈ news, u.oneCell' = true)
    (b1 : n + m ≤ maxLen) (b2 : (n + m) * bytes ≤ 140737488355328) (hbase : base ≤ w.heap.size)
    (hK : ∀ v' w', w'.ownsRow base e size v' (n + m) (xs ++ news) → w.grownBy w' v.ownBlock → (v'.ownBlock = v.ownBlock ∨ ∀ k, v'.ownBlock = some k → w.heap.size ≤ k) → wpList P ops Q rest (a.put o.dst v') w') :
    wpList P ops Q (o :: rest) a w := by
  have hn : news.length = m * size := hu.1
  rcases hu.2 with ⟨rfl, rfl⟩ | ⟨g, cap, cur, rfl, _⟩
  · have hnil : news = [] := List.eq_nil_of_length_eq_zero (by simpa using hn)
    subst hnil
    have hown' := hown
    rcases hown.2 with ⟨rfl, rfl⟩ | ⟨g, cap, cur, rfl, hb, hgg, hcap, _⟩
    · omega
    · exact wpList_append_fits_any w hg s x t hop base e i size h1 h2 h4 g n cap xs hs hown' none 0 0 [] hx (by simp) (fun _ => ⟨rfl, rfl⟩) (fun ad h => by cases h) (by simp) (by omega) fun w' q1 q2 => hK _ w' q1 q2 (.inl rfl)
  · by_cases hm : m = 0
    · subst hm
      have hnil : news = [] := List.eq_nil_of_length_eq_zero (by simpa using hn)
      subst hnil
      have hown' := hown
      rcases hown.2 with ⟨rfl, rfl⟩ | ⟨g', cap', cur', rfl, hb, hgg, hcap, _⟩
      · omega
      · exact wpList_append_fits_any w hg s x t hop base e i size h1 h2 h4 g' n cap' xs hs hown' _ 0 cap [] hx (by simp) (fun h => by cases h) (fun ad h j u hj => by simp at hj) (by simp) (by omega) fun w' q1 q2 => hK _ w' q1 q2 (.inl rfl)
    · exact append_mine w hg s x t hop base e i z size bytes h1 h2 h3 h4 h5 h6 h7 v n xs hs hown ⟨g, 0, none⟩ m cap news hx hn (hu.cells rfl) h1c (by omega) b1 b2 hbase hK

/-- An append in a region that draws, from whatever source. -/
theorem step_append_any {P : Program} {ops : Array Oper} {o : Oper} {a : Act} {w : World} {K : Act → World → Prop} {Q : Exit → Act → World → Prop} {E : Prop}
    (hg : o.guard = none) (s x : Operand) (t : TypeId) (hop : o.op = Op.call { callee := Callee.builtin Builtin.append, args := #[s, x], argTypes := #[t, t] })
    (base : Nat) (e : TypeId) (i : TypeInfo) (z : Value) (size bytes : Nat) (h1 : P.underlying t = some (.slice e)) (h2 : P.info? e = some i) (h3 : i.zero = some z) (h4 : i.size = size) (h5 : i.bytes = bytes) (h6 : z.cells.size = size) (h7 : 0 < size)
    (v : Value) (n : Nat) (xs : List Value) (hs : a.eval s = v) (hown : w.ownsRow base e size v n xs)
    (ao : Option Addr) (m c : Nat) (news : List Value) (hx : a.eval x = .slice ao m c) (hn : news.length = m * size) (hnone : ao = none → m = 0 ∧ c = 0) (hc : ∀ ad, ao = some ad → ∀ j u, news[j]? = some u → w.cell? (ad.add j) = some u) (h1c : ∀ u ∈ news, u.oneCell' = true)
    (b1 : n + m ≤ maxLen) (b2 : (n + m) * bytes ≤ 140737488355328) (hbase : base ≤ w.heap.size)
    (hK : ∀ v' w', w'.ownsRow base e size v' (n + m) (xs ++ news) → w.grownBy w' v.ownBlock → K (a.put o.dst v') w') :
    if Region.wanted o (yielded ops a.tmps) = true then Oper.wp P o a w K Q else E := by
  have hw : Region.wanted o (yielded ops a.tmps) = true := by simp [Region.wanted, hg]
  rw [if_pos hw]
  cases ao with
  | some ad =>
    obtain ⟨v', w', hrun, r1, r2, _⟩ := run_append_own (P := P) w base t o.type e i z size bytes h1 h2 h3 h4 h5 h6 h7 v n xs hown ad m c news hn (hc ad rfl) h1c b1 b2 hbase
    unfold Oper.wp
    simp [execOp, hop, resolve, invoke, builtin, hs, hx, hrun, Result.andThen]
    exact hK v' w' r1 r2
  | none =>
    obtain ⟨rfl, rfl⟩ := hnone rfl
    have hnil : news = [] := List.eq_nil_of_length_eq_zero (by simpa using hn)
    subst hnil
    have hrun := run_append_owned_none (P := P) (w := w) base t o.type e i size h1 h2 v n xs hown
    unfold Oper.wp
    simp [execOp, hop, resolve, invoke, builtin, hs, hx, hrun, Result.andThen]
    exact hK v w (by simpa using hown) ⟨rfl, rfl, rfl, Nat.le_refl _, fun _ _ _ => rfl⟩

def intVals (ls : List Int) : List Value := ls.map (Value.int .i64)

theorem intVals_get {ls : List Int} {j : Nat} {u : Value} (h : (intVals ls)[j]? = some u) : ∃ z, ls[j]? = some z ∧ u = .int .i64 z := by
  unfold intVals at h
  rw [List.getElem?_map] at h
  cases hz : ls[j]? with
  | none => rw [hz] at h; cases h
  | some z => rw [hz] at h; exact ⟨z, rfl, by simpa using h.symm⟩

theorem LocksIn.src {w : World} {ad : Option Addr} {c : Nat} {ls : List Int} (h : LocksIn w (.slice ad ls.length c) ls) :
    (ad = none → ls.length = 0 ∧ c = 0) ∧ ∀ p, ad = some p → ∀ j u, (intVals ls)[j]? = some u → w.cell? (p.add j) = some u := by
  obtain ⟨ad', c', hv, hc, h⟩ := h
  cases hv
  rcases h with h | ⟨b, o, h1, h2, h3⟩
  · subst h
    exact ⟨fun h => ⟨rfl, hc h⟩, fun p _ j u hj => by simp [intVals] at hj⟩
  · subst h1
    refine ⟨(fun h => by cases h), fun p hp j u hj => ?_⟩
    cases hp
    obtain ⟨z, hz, rfl⟩ := intVals_get hj
    have := h3 j z hz
    unfold Addr.add
    by_cases h0 : j = 0
    · subst h0; simpa using this
    · simpa [h0] using this

theorem LocksIn.made {w : World} {base n : Nat} {v : Value} {ls : List Int} (h : w.ownsRow base 3 1 v n (intVals ls)) (hn : n = ls.length) : LocksIn w v ls := by
  subst hn
  have h' := h
  rcases h.2 with ⟨rfl, h0⟩ | ⟨g, cap, cur, rfl, hb, hh, _⟩
  · have : ls = [] := List.eq_nil_of_length_eq_zero h0
    subst this
    exact ⟨none, 0, rfl, fun _ => rfl, .inl rfl⟩
  · refine ⟨_, _, rfl, (fun h => by cases h), .inr ⟨g, 0, rfl, ⟨cur, _, hh⟩, fun j z hj => ?_⟩⟩
    have := h'.cells (g := g) rfl j (.int .i64 z) (by unfold intVals; rw [List.getElem?_map, hj]; rfl)
    unfold Addr.add at this
    by_cases h0 : j = 0
    · subst h0; simpa using this
    · simpa [h0] using this

theorem owns_none {w : World} {base size : Nat} {e : TypeId} (hb : base ≤ w.heap.size) : (w.alloc (.cells #[] e)).ownsRow base e size (.slice (some ⟨w.heap.size, 0, none⟩) 0 0) 0 [] :=
  ⟨by simp, .inr ⟨w.heap.size, 0, #[], rfl, hb, heap_alloc_new w _, Nat.le_refl _, by unfold maxLen; omega, by simp, by simp⟩⟩

/-- What stands in a round of Flat. -/
structure FI (w0 w W1 : World) (g : Nat) (wi : World) (out : Value) (l : List Fl) (xs : List Value) : Prop where
  below : Below w.heap.size w wi
  at' : wi.heap[g]? = W1.heap[g]?
  owns : wi.ownsRow w.heap.size 169 16 out l.length xs
  cells : Fl.Cells w0 wi l xs

theorem FI.cell {w0 w W1 wi : World} {g : Nat} {out : Value} {l : List Fl} {xs : List Value} (h : FI w0 w W1 g wi out l xs) (o : Nat) : wi.cell? ⟨g, o, none⟩ = W1.cell? ⟨g, o, none⟩ := World.cell?_of_block h.at'

theorem FI.next {w0 w W1 wi wj : World} {g : Nat} {out : Value} {l : List Fl} {xs : List Value} (h : FI w0 w W1 g wi out l xs) (hg : g < wi.heap.size) (hb : Below wi.heap.size wi wj) : FI w0 w W1 g wj out l xs :=
  ⟨below_seq h.below hb, (hb.block g hg).trans h.at', ownsRow_below h.owns hb, h.cells.keep (keepsInts_below hb)⟩

theorem FI.grow {w0 w W1 wi wj : World} {g : Nat} {out out' : Value} {l l2 : List Fl} {xs ys : List Value} {cs : Array Value} (h : FI w0 w W1 g wi out l xs) (hc : W1.heap[g]? = some (.cells cs 123 (0, 0)))
    (h2 : Fl.Cells w0 wi l2 ys) (hgr : wi.grownBy wj out.ownBlock) (ho : wj.ownsRow w.heap.size 169 16 out' (l.length + l2.length) (xs ++ ys)) : FI w0 w W1 g wj out' (l ++ l2) (xs ++ ys) := by
  have hk := keepsInts_grown h.owns hgr
  have hg0 : wi.heap[g]? = some (.cells cs 123 (0, 0)) := h.at'.trans hc
  refine ⟨h.below.grown hgr h.below.size fun k hk => (h.owns.lt k hk).1, ?_, by simpa using ho, Fl.Cells.append _ _ (h.cells.keep hk) (h2.keep hk)⟩
  refine (hgr.block g (Array.getElem?_eq_some_iff.1 hg0).1 fun e => ?_).trans h.at'
  rcases h.owns.2 with ⟨rfl, _⟩ | ⟨g', cap, cur', rfl, _, hh, _⟩
  · simp [Value.ownBlock] at e
  · simp [Value.ownBlock] at e
    subst e
    rw [hg0] at hh
    simp at hh

theorem St.countAll_take {a : List St} {j : Nat} (h : j < a.length) : St.countAll (a.take j) + (a[j]).count ≤ St.countAll a := by
  have h1 : ∀ (x y : List St), St.countAll (x ++ y) = St.countAll x + St.countAll y := by
    intro x
    induction x with
    | nil => intro y; simp [St.countAll]
    | cons s r ih => intro y; simp only [List.cons_append, St.countAll, ih]; omega
  have h2 : St.countAll a = St.countAll (a.take j) + St.countAll (a.drop j) := by rw [← h1, List.take_append_drop]
  rw [drop_at h] at h2
  simp only [St.countAll] at h2
  omega

theorem St.flatAll_take {a : List St} {j : Nat} (h : j < a.length) (d : Int) (ls : List Int) : St.flatAll (a.take (j + 1)) d ls = St.flatAll (a.take j) d ls ++ (a[j]).flat d ls := by
  rw [List.take_succ_eq_append_getElem h]
  have : ∀ (x y : List St), St.flatAll (x ++ y) d ls = St.flatAll x d ls ++ St.flatAll y d ls := by
    intro x
    induction x with
    | nil => intro y; simp [St.flatAll]
    | cons s r ih => intro y; simp [St.flatAll, ih]
  rw [this]
  simp [St.flatAll]
end Go.Proofs.YtgemadoieielcacDoor.B
namespace Go.Proofs.YtgemadoieielcacDoor.B
open Go.ChangeShapes Go.WideShapes Go.ChangeAt Go.RowKit

def highN (k : Int) : Int := if k = 1 then 7 else if k = 2 ∨ k = 6 then 3 else if k = 4 ∨ k = 5 ∨ k = 7 then 1000 else 0
def lowN (k : Int) : Int := if k = 7 then 1 else 0

/-- What is wrong with a statement: eN, aN, bN: has it no E, no A, no B? wE, wA, wB: what is wrong with them; lk: is its lock held? -/
def stErr (k n : Int) (eN : Bool) (wE ck : Int) (aN bN : Bool) (wA wB : Int) (ly ll : Nat) (d : Int) (lk : Bool) : Int :=
  if k < 1 ∨ 7 < k then 6
  else if n < lowN k ∨ highN k < n then 3
  else if ¬ (k = 1 ∨ k = 2) ∧ eN = false then 6
  else if ¬ (k = 3 ∨ k = 5) ∧ (ck ≠ 0 ∨ aN = false ∨ bN = false) then 6
  else if (¬ (3 ≤ k ∧ k ≤ 6) ∧ 0 < ly) ∨ (k ≠ 3 ∧ 0 < ll) then 6
  else if (k = 1 ∨ k = 2) ∧ wE ≠ 0 then wE
  else if (k = 3 ∨ k = 5) ∧ (ck < 1 ∨ 4 < ck) then 6
  else if (k = 3 ∨ k = 5) ∧ wA ≠ 0 then wA
  else if (k = 3 ∨ k = 5) ∧ wB ≠ 0 then wB
  else if (3 ≤ k ∧ k ≤ 6) ∧ 6 ≤ d then 2
  else if k = 6 ∧ lk = true then 10
  else 0

section
variable (n : Int) (eN : Bool) (wE ck : Int) (aN bN : Bool) (wA wB : Int) (ly ll : Nat) (d : Int) (lk : Bool)
theorem stErr_1 : stErr 1 n eN wE ck aN bN wA wB ly ll d lk = if n < 0 ∨ 7 < n then 3 else if ck ≠ 0 ∨ aN = false ∨ bN = false then 6 else if 0 < ly ∨ 0 < ll then 6 else wE := by
  simp [stErr, lowN, highN] <;> grind
theorem stErr_2 : stErr 2 n eN wE ck aN bN wA wB ly ll d lk = if n < 0 ∨ 3 < n then 3 else if ck ≠ 0 ∨ aN = false ∨ bN = false then 6 else if 0 < ly ∨ 0 < ll then 6 else wE := by
  simp [stErr, lowN, highN] <;> grind
theorem stErr_3 : stErr 3 n eN wE ck aN bN wA wB ly ll d lk = if n < 0 ∨ 0 < n then 3 else if eN = false then 6 else if ck < 1 ∨ 4 < ck then 6 else if wA ≠ 0 then wA else if wB ≠ 0 then wB else if 6 ≤ d then 2 else 0 := by
  simp [stErr, lowN, highN] <;> grind
theorem stErr_4 : stErr 4 n eN wE ck aN bN wA wB ly ll d lk = if n < 0 ∨ 1000 < n then 3 else if eN = false then 6 else if ck ≠ 0 ∨ aN = false ∨ bN = false then 6 else if 0 < ll then 6 else if 6 ≤ d then 2 else 0 := by
  simp [stErr, lowN, highN] <;> grind
theorem stErr_5 : stErr 5 n eN wE ck aN bN wA wB ly ll d lk = if n < 0 ∨ 1000 < n then 3 else if eN = false then 6 else if 0 < ll then 6 else if ck < 1 ∨ 4 < ck then 6 else if wA ≠ 0 then wA else if wB ≠ 0 then wB else if 6 ≤ d then 2 else 0 := by
  simp [stErr, lowN, highN] <;> grind
theorem stErr_6 : stErr 6 n eN wE ck aN bN wA wB ly ll d lk = if n < 0 ∨ 3 < n then 3 else if eN = false then 6 else if ck ≠ 0 ∨ aN = false ∨ bN = false then 6 else if 0 < ll then 6 else if 6 ≤ d then 2 else if lk = true then 10 else 0 := by
  simp [stErr, lowN, highN] <;> grind
theorem stErr_7 : stErr 7 n eN wE ck aN bN wA wB ly ll d lk = if n < 1 ∨ 1000 < n then 3 else if eN = false then 6 else if ck ≠ 0 ∨ aN = false ∨ bN = false then 6 else if 0 < ly ∨ 0 < ll then 6 else 0 := by
  simp [stErr, lowN, highN] <;> grind
end

/-- The two boxes and the two tables at the head of wrongStatement. -/
theorem heads (w : World) (x0 x1 x2 x3 x4 x5 x6 x7 x8 x9 x10 x11 x12 x13 x14 x15 : Value) (t1 t2 : Array Value) (a b : TypeId) :
    ∃ W, W = (((w.alloc (.cells #[x0, x1, x2, x3, x4, x5, x6, x7, x8, x9, x10, x11, x12, x13, x14, x15] 169)).alloc (.cells #[x0, x1, x2, x3, x4, x5, x6, x7, x8, x9, x10, x11, x12, x13] 123)).alloc (.cells t1 a)).alloc (.cells t2 b) ∧
    Below w.heap.size w W ∧ w.heap.size + 1 < W.heap.size ∧
    W.cell? ⟨w.heap.size, 14, none⟩ = some x14 ∧ W.cell? ⟨w.heap.size, 15, none⟩ = some x15 ∧
    W.cell? ⟨w.heap.size + 1, 0, none⟩ = some x0 ∧ W.cell? ⟨w.heap.size + 1, 1, none⟩ = some x1 ∧ W.cell? ⟨w.heap.size + 1, 2, none⟩ = some x2 ∧ W.cell? ⟨w.heap.size + 1, 3, none⟩ = some x3 ∧ W.cell? ⟨w.heap.size + 1, 4, none⟩ = some x4 ∧
    W.cell? ⟨w.heap.size + 1, 5, none⟩ = some x5 ∧ W.cell? ⟨w.heap.size + 1, 6, none⟩ = some x6 ∧ W.cell? ⟨w.heap.size + 1, 7, none⟩ = some x7 ∧ W.cell? ⟨w.heap.size + 1, 8, none⟩ = some x8 ∧ W.cell? ⟨w.heap.size + 1, 9, none⟩ = some x9 ∧
    W.cell? ⟨w.heap.size + 1, 10, none⟩ = some x10 ∧ W.cell? ⟨w.heap.size + 1, 11, none⟩ = some x11 ∧ W.cell? ⟨w.heap.size + 1, 12, none⟩ = some x12 ∧ W.cell? ⟨w.heap.size + 1, 13, none⟩ = some x13 := by
  refine ⟨_, rfl, ?_, by simp <;> omega, ?_⟩
  · exact ((((Below.refl _ _).alloc (Nat.le_refl _) _).alloc (by simp) _).alloc (by simp <;> omega) _).alloc (by simp <;> omega) _
  · refine ⟨?_, ?_, ?_, ?_, ?_, ?_, ?_, ?_, ?_, ?_, ?_, ?_, ?_, ?_, ?_, ?_⟩
    iterate 2
      · rw [World.cell?_alloc_past _ _ _ (by simp <;> omega), World.cell?_alloc_past _ _ _ (by simp <;> omega), World.cell?_alloc_past _ _ _ (by simp), World.cell?_alloc_at _ _ _ _ rfl]; rfl
    iterate 14
      · rw [World.cell?_alloc_past _ _ _ (by simp <;> omega), World.cell?_alloc_past _ _ _ (by simp), World.cell?_alloc_at _ _ _ _ (by simp)]; rfl
end Go.Proofs.YtgemadoieielcacDoor.B
