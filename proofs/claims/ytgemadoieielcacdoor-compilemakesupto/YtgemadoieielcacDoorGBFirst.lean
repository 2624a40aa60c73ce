import Derived.Test.YtgemadoieielcacDoorGBDeep
import Derived.Test.YtgemadoieielcacDoorGBSame
import Derived.MapKept
import Derived.Deep.CutRange
namespace Go.Proofs.YtgemadoieielcacDoor.B
open Go.ChangeShapes Go.WideShapes Go.ChangeAt Go.RowKit

/- An expression's value in a world, each row of operands in a block of which p holds. -/
mutual
def Ex.InP (p : Nat → Prop) (w : World) : Ex → Value → Prop
  | .mk k n a, v => ∃ ad c, v = .agg #[.int .i64 k, .int .i64 n, .slice ad a.length c] ∧ (a = [] ∨ ∃ b o, ad = some ⟨b, o, none⟩ ∧ p b ∧ Ex.RowP p w a b o)
def Ex.RowP (p : Nat → Prop) (w : World) : List Ex → Nat → Nat → Prop
  | [], _, _ => True
  | e :: r, b, o => (∃ x0 x1 x2, w.cell? ⟨b, o, none⟩ = some x0 ∧ w.cell? ⟨b, o + 1, none⟩ = some x1 ∧ w.cell? ⟨b, o + 2, none⟩ = some x2 ∧ Ex.InP p w e (.agg #[x0, x1, x2])) ∧ Ex.RowP p w r b (o + 3)
end

mutual
theorem Ex.InP.plain {p : Nat → Prop} {w : World} : ∀ (e : Ex) {v : Value}, e.InP p w v → e.In w v
  | .mk k n a, v, h => by
    unfold Ex.InP at h
    unfold Ex.In
    obtain ⟨ad, c, hv, h⟩ := h
    refine ⟨ad, c, hv, ?_⟩
    rcases h with h | ⟨b, o, h1, _, h2⟩
    · exact .inl h
    · exact .inr ⟨b, o, h1, Ex.RowP.plain a h2⟩
theorem Ex.RowP.plain {p : Nat → Prop} {w : World} : ∀ (a : List Ex) {b o : Nat}, Ex.RowP p w a b o → Ex.Row w a b o
  | [], _, _, _ => by unfold Ex.Row; trivial
  | e :: r, b, o, h => by
    unfold Ex.RowP at h
    unfold Ex.Row
    obtain ⟨⟨x0, x1, x2, h0, h1, h2, h3⟩, h4⟩ := h
    exact ⟨⟨x0, x1, x2, h0, h1, h2, Ex.InP.plain e h3⟩, Ex.RowP.plain r h4⟩
end

/-- What was said of w with p is said of w' with q. -/
def Moves (p q : Nat → Prop) (w w' : World) : Prop := ∀ b, p b → b < w.heap.size → q b ∧ w'.heap[b]? = w.heap[b]?

theorem Moves.cell {p q : Nat → Prop} {w w' : World} (h : Moves p q w w') {b o : Nat} {v : Value} (hp : p b) (hc : w.cell? ⟨b, o, none⟩ = some v) : w'.cell? ⟨b, o, none⟩ = some v :=
  (World.cell?_of_block (h b hp (World.block_lt_of_cell? _ _ hc)).2).trans hc

mutual
theorem Ex.InP.move {p q : Nat → Prop} {w w' : World} (hm : Moves p q w w') : ∀ (e : Ex) {v : Value}, e.InP p w v → e.InP q w' v
  | .mk k n a, v, h => by
    unfold Ex.InP at h ⊢
    obtain ⟨ad, c, hv, h⟩ := h
    refine ⟨ad, c, hv, ?_⟩
    rcases h with h | ⟨b, o, h1, hp, h2⟩
    · exact .inl h
    · cases a with
      | nil => exact .inl rfl
      | cons x r =>
        have hc : b < w.heap.size := by
          unfold Ex.RowP at h2
          obtain ⟨⟨x0, x1, x2, h0, _⟩, _⟩ := h2
          exact World.block_lt_of_cell? _ _ h0
        exact .inr ⟨b, o, h1, (hm b hp hc).1, Ex.RowP.move hm _ hp h2⟩
theorem Ex.RowP.move {p q : Nat → Prop} {w w' : World} (hm : Moves p q w w') : ∀ (a : List Ex) {b o : Nat}, p b → Ex.RowP p w a b o → Ex.RowP q w' a b o
  | [], _, _, _, _ => by unfold Ex.RowP; trivial
  | e :: r, b, o, hp, h => by
    unfold Ex.RowP at h ⊢
    obtain ⟨⟨x0, x1, x2, h0, h1, h2, h3⟩, h4⟩ := h
    exact ⟨⟨x0, x1, x2, hm.cell hp h0, hm.cell hp h1, hm.cell hp h2, Ex.InP.move hm e h3⟩, Ex.RowP.move hm r hp h4⟩
end

/-- Expressions as the cells of a row. -/
def Ex.Cells (p : Nat → Prop) (w : World) : List Ex → List Value → Prop
  | [], xs => xs = []
  | e :: r, xs => ∃ x0 x1 x2 ys, xs = x0 :: x1 :: x2 :: ys ∧ e.InP p w (.agg #[x0, x1, x2]) ∧ Ex.Cells p w r ys

theorem Ex.Cells.move {p q : Nat → Prop} {w w' : World} (hm : Moves p q w w') : ∀ (a : List Ex) {xs : List Value}, Ex.Cells p w a xs → Ex.Cells q w' a xs
  | [], _, h => h
  | e :: r, xs, h => by
    obtain ⟨x0, x1, x2, ys, hx, h1, h2⟩ := h
    exact ⟨x0, x1, x2, ys, hx, h1.move hm, Ex.Cells.move hm r h2⟩

theorem Ex.Cells.snoc {p : Nat → Prop} {w : World} {e : Ex} {y0 y1 y2 : Value} (he : e.InP p w (.agg #[y0, y1, y2])) : ∀ (a : List Ex) {xs : List Value}, Ex.Cells p w a xs → Ex.Cells p w (a ++ [e]) (xs ++ [y0, y1, y2])
  | [], xs, h => by
    unfold Ex.Cells at h
    subst h
    exact ⟨y0, y1, y2, [], rfl, he, rfl⟩
  | x :: r, xs, h => by
    obtain ⟨x0, x1, x2, ys, hx, h1, h2⟩ := h
    subst hx
    exact ⟨x0, x1, x2, ys ++ [y0, y1, y2], rfl, h1, Ex.Cells.snoc he r h2⟩

theorem Ex.Cells.row {p : Nat → Prop} {w : World} {g : Nat} : ∀ (a : List Ex) {xs : List Value} {o : Nat}, Ex.Cells p w a xs → (∀ j u, xs[j]? = some u → w.cell? ⟨g, o + j, none⟩ = some u) → Ex.RowP p w a g o
  | [], _, _, _, _ => by unfold Ex.RowP; trivial
  | e :: r, xs, o, h, hc => by
    obtain ⟨x0, x1, x2, ys, hx, h1, h2⟩ := h
    subst hx
    unfold Ex.RowP
    refine ⟨⟨x0, x1, x2, by simpa using hc 0 x0 rfl, hc 1 x1 rfl, hc 2 x2 rfl, h1⟩, Ex.Cells.row r h2 fun j u hj => ?_⟩
    have := hc (j + 3) u (by simpa using hj)
    rwa [show o + (j + 3) = o + 3 + j by omega] at this

theorem Ex.InP.shape {p : Nat → Prop} {w : World} {e : Ex} {v : Value} (h : e.InP p w v) : ∃ k n ad m c, v = .agg #[.int .i64 k, .int .i64 n, .slice ad m c] := by
  obtain ⟨k, n, a⟩ := e
  unfold Ex.InP at h
  obtain ⟨ad, c, hv, -⟩ := h
  exact ⟨_, _, _, _, _, hv⟩

/-- Not the block of this slice, and not below B. -/
def offOf (B : Nat) (v : Value) (b : Nat) : Prop := B ≤ b ∧ v.ownBlock ≠ some b

/-- An append to a slice of one's own: in its block, or in a new one. -/
theorem append_mine {P : Program} (w : World) {ops : Array Oper} {rest : List Oper} {o : Oper} {a : Act} {Q : Exit → Act → World → Prop}
    (hg : o.guard = none) (s x : Operand) (t : TypeId) (hop : o.op = Op.call { callee := Callee.builtin Builtin.append, args := #[s, x], argTypes := #[t, t] })
    (base : Nat) (e : TypeId) (i : TypeInfo) (z : Value) (size bytes : Nat) (h1 : P.underlying t = some (.slice e)) (h2 : P.info? e = some i) (h3 : i.zero = some z) (h4 : i.size = size) (h5 : i.bytes = bytes) (h6 : z.cells.size = size) (h7 : 0 < size)
    (v : Value) (n : Nat) (xs : List Value) (hs : a.eval s = v) (hown : w.ownsRow base e size v n xs)
    (ad : Addr) (m c : Nat) (news : List Value) (hx : a.eval x = .slice (some ad) m c) (hn : news.length = m * size) (hc : ∀ j u, news[j]? = some u → w.cell? (ad.add j) = some u) (h1c : ∀ u ∈ news, u.oneCell' = true)
    (hm : 0 < m) (b1 : n + m ≤ maxLen) (b2 : (n + m) * bytes ≤ 140737488355328) (hbase : base ≤ w.heap.size)
    (hK : ∀ v' w', w'.ownsRow base e size v' (n + m) (xs ++ news) → w.grownBy w' v.ownBlock → (v'.ownBlock = v.ownBlock ∨ ∀ k, v'.ownBlock = some k → w.heap.size ≤ k) → wpList P ops Q rest (a.put o.dst v') w') :
    wpList P ops Q (o :: rest) a w := by
  have up : ∀ v' w', w'.ownsRow w.heap.size e size v' (n + m) (xs ++ news) → w.grownBy w' none → wpList P ops Q rest (a.put o.dst v') w' := by
    intro v' w' ho hgr
    refine hK v' w' ?_ ⟨hgr.os, hgr.tape, hgr.output, hgr.size, fun k hk _ => hgr.block k hk (by simp)⟩ (.inr fun k hk => (ho.lt k hk).1)
    obtain ⟨q1, q2⟩ := ho
    refine ⟨q1, ?_⟩
    rcases q2 with q2 | ⟨g, cap, cur, hv, hb, r⟩
    · exact .inl q2
    · exact .inr ⟨g, cap, cur, hv, Nat.le_trans hbase hb, r⟩
  have hown' := hown
  obtain ⟨hl, ho⟩ := hown
  rcases ho with ⟨rfl, rfl⟩ | ⟨g, cap, cur, rfl, hb, hgg, hcap, hcm, hcs, htk⟩
  · have hxs : xs = [] := List.eq_nil_of_length_eq_zero (by simpa using hl)
    subst hxs
    exact wpList_append_grows w hg s x t hop e i z size bytes h1 h2 h3 h4 h5 h6 h7 none 0 0 [] hs (fun _ => ⟨rfl, rfl⟩) (by simp) (fun b hb => by cases hb) ad m c news hx hn hc h1c (by omega) b1 b2 up
  · by_cases hr : n + m ≤ cap
    · exact wpList_append_fits w hg s x t hop base e i size h1 h2 h4 g n cap xs hs hown' ad m c news hx hn hc h1c hr fun w' q1 q2 => hK _ w' q1 q2 (.inl rfl)
    · exact wpList_append_grows w hg s x t hop e i z size bytes h1 h2 h3 h4 h5 h6 h7 (some ⟨g, 0, none⟩) n cap xs hs (fun h => by cases h) hl (fun b hb' => by cases hb'; exact hown'.cells rfl) ad m c news hx hn hc h1c (by omega) b1 b2 up

/-- What lies off the slice's own block, behind such an append. -/
theorem moves_append {B : Nat} {v v' : Value} {w w' : World} (hg : w.grownBy w' v.ownBlock) (hv : v'.ownBlock = v.ownBlock ∨ ∀ k, v'.ownBlock = some k → w.heap.size ≤ k) : Moves (offOf B v) (offOf B v') w w' := by
  intro b hp hb
  refine ⟨⟨hp.1, ?_⟩, hg.block b hb (fun h => hp.2 h.symm)⟩
  rcases hv with hv | hv
  · rw [hv]; exact hp.2
  · intro h; have := hv b h; omega
end Go.Proofs.YtgemadoieielcacDoor.B
namespace Go.Proofs.YtgemadoieielcacDoor.B
open Go.ChangeShapes Go.WideShapes Go.ChangeAt Go.RowKit

theorem info30 : (Tryd.prog.info? 119).map (fun i => (i.zero, i.size, i.bytes)) = some (some (.agg #[.int .i64 0, .int .i64 0, .slice none 0 0]), 3, 40) := by kernel_rfl

theorem below_block {B : Nat} {w w' : World} (h : Below B w w') {b : Nat} (hb : b < B) : w'.heap[b]? = w.heap[b]? := h.block b hb

/-- The limbs behind one element more. -/
theorem twinE_step {W2 wr w2 w3 : World} {a : List Ex} {j : Nat} {out v' y0 y1 y2 : Value} {xs : List Value} {o : Obj} (hlt : j < a.length)
    (hcs : Ex.Cells (offOf W2.heap.size out) wr (a.take j) xs) (hown : wr.ownsRow W2.heap.size 119 3 out j xs) (hB : Below W2.heap.size W2 wr) (hb' : Below wr.heap.size wr w2)
    (he : (a[j]).InP (fun b => wr.heap.size ≤ b) w2 (.agg #[y0, y1, y2]))
    (hg : (w2.alloc o).grownBy w3 out.ownBlock) (hv : v'.ownBlock = out.ownBlock ∨ ∀ k, v'.ownBlock = some k → (w2.alloc o).heap.size ≤ k) :
    Ex.Cells (offOf W2.heap.size v') w3 (a.take (j + 1)) (xs ++ [y0, y1, y2]) ∧ Below W2.heap.size W2 w3 := by
  have s1 := hB.size
  have s2 := hb'.size
  have lt : ∀ k, out.ownBlock = some k → W2.heap.size ≤ k ∧ k < wr.heap.size := hown.lt
  refine ⟨?_, ?_⟩
  · rw [List.take_succ_eq_append_getElem hlt]
    refine Ex.Cells.snoc ?_ _ ?_
    · refine Ex.InP.move ?_ _ he
      intro b hb hlt2
      have hq : offOf W2.heap.size out b := ⟨by omega, fun h => by have := (lt b h).2; omega⟩
      have hm := moves_append (B := W2.heap.size) hg hv b hq (by simp; omega)
      exact ⟨hm.1, hm.2.trans (Below.heap_alloc _ _ _ hlt2)⟩
    · refine Ex.Cells.move ?_ _ hcs
      intro b hb hlt2
      have hm := moves_append (B := W2.heap.size) hg hv b hb (by simp; omega)
      exact ⟨hm.1, hm.2.trans ((Below.heap_alloc _ _ _ (by omega)).trans (hb'.block b hlt2))⟩
  · refine (hB.trans (hb'.mono s1)).trans ?_
    refine (Below.refl _ _).alloc (by omega) o |>.grown hg (by simp; omega) fun k hk => (lt k hk).1

theorem getCell {w : World} {v : Value} {base n : Nat} {xs : List Value} {e : TypeId} {size : Nat} (h : w.ownsRow base e size v n xs) (hn : 0 < n) : ∃ g cap, v = .slice (some ⟨g, 0, none⟩) n cap ∧ base ≤ g ∧ ∀ j u, xs[j]? = some u → w.cell? ⟨g, 0 + j, none⟩ = some u := by
  have h' := h
  rcases h.2 with ⟨rfl, rfl⟩ | ⟨g, cap, cur, rfl, hb, _⟩
  · omega
  · exact ⟨g, cap, rfl, hb, fun j u hj => by have := h'.cells (g := g) rfl j u hj; rw [show (0 + j) = j by omega]; unfold Addr.add at this; by_cases h0 : j = 0 <;> simp_all⟩

/-- The slice that was made, as an expression's operands. -/
theorem twinE_end {w3 : World} {B : Nat} {a : List Ex} {k n : Int} {out : Value} {xs : List Value} (hcs : Ex.Cells (offOf B out) w3 a xs) (hown : w3.ownsRow B 119 3 out a.length xs) :
    ∃ ad c, out = .slice ad a.length c ∧ (Ex.mk k n a).InP (fun b => B ≤ b) w3 (.agg #[.int .i64 k, .int .i64 n, .slice ad a.length c]) := by
  by_cases h0 : a = []
  · subst h0
    rcases hown.2 with ⟨rfl, _⟩ | ⟨g, cap, cur, rfl, _⟩
    · exact ⟨none, 0, rfl, by unfold Ex.InP; exact ⟨_, _, rfl, .inl rfl⟩⟩
    · exact ⟨_, _, rfl, by unfold Ex.InP; exact ⟨_, _, rfl, .inl rfl⟩⟩
  · obtain ⟨g, cap, rfl, hb, hc⟩ := getCell hown (List.length_pos_iff.2 h0)
    refine ⟨_, _, rfl, ?_⟩
    unfold Ex.InP
    refine ⟨_, _, rfl, .inr ⟨g, 0, rfl, hb, ?_⟩⟩
    exact Ex.Cells.row a (Ex.Cells.move (fun b hb _ => ⟨hb.1, rfl⟩) _ hcs) hc

theorem ownsRow_below {w w' : World} {base n size : Nat} {e : TypeId} {v : Value} {xs : List Value} (h : w.ownsRow base e size v n xs) (hb : Below w.heap.size w w') : w'.ownsRow base e size v n xs := by
  refine h.kept (row := none) ⟨hb.os, hb.tape, hb.output, hb.size, fun k hk _ => hb.block k hk⟩ ?_
  cases v.ownBlock <;> simp

theorem InP_weaken {w : World} {e : Ex} {v : Value} {B C : Nat} (h : e.InP (fun b => B ≤ b) w v) (hC : C ≤ B) : e.InP (fun b => C ≤ b) w v :=
  Ex.InP.move (fun _ hb _ => ⟨Nat.le_trans hC hb, rfl⟩) _ h

theorem fresh_cells (w : World) (l : List Value) (t : TypeId) : ∀ j u, l[j]? = some u → (w.alloc (.cells l.toArray t)).cell? ((⟨w.heap.size, 0, none⟩ : Addr).add j) = some u := by
  intro j u hj
  have e : (⟨w.heap.size, 0, none⟩ : Addr).add j = ⟨w.heap.size, j, none⟩ := by unfold Addr.add; by_cases h0 : j = 0 <;> simp [h0]
  rw [e, World.cell?_alloc_at _ _ _ _ rfl]
  simpa using hj

set_option maxHeartbeats 2000000 in
theorem twinExpr_any (N : Nat) : ∀ (e : Ex) (w : World) (v : Value), e.nodes < N → N ≤ 1048577 → e.In w v →
    Calls Tryd.prog 65 #[v] w fun r w' => ∃ v', r = .returned v' ∧ e.InP (fun b => w.heap.size ≤ b) w' v' ∧ Below w.heap.size w w' := by
  induction N with
  | zero => intro e w v h; omega
  | succ N ih =>
    intro e w v hN hle hin
    obtain ⟨k, n, a⟩ := e
    unfold Ex.nodes at hN
    have hlen := length_le_nodesAll a
    unfold Ex.In at hin
    obtain ⟨ad, c, rfl, hrow⟩ := hin
    have HR : Hid (a = [] ∨ ∃ b o, ad = some ⟨b, o, none⟩ ∧ Ex.Row w a b o) := hrow
    clear hrow
    have IH : Hid _ := ih
    clear ih
    obtain ⟨i0, hi, hz0, hz1, hz2⟩ := info_parts info30
    go_enter Tryd.func65, Tryd.ntmps65
    go_wp2_with fail
    have hC : ∃ W2, W2 = (w.alloc (.cells #[.int .i64 k, .int .i64 n, .slice ad a.length c] 119)).alloc (.cells #[.int .i64 0, .int .i64 0, .slice none 0 0] 119) := ⟨_, rfl⟩
    obtain ⟨W2, hW⟩ := hC
    have hsz : W2.heap.size = w.heap.size + 2 := by rw [hW]; simp
    have hB0 : Below w.heap.size w W2 := by rw [hW]; exact ((Below.refl _ _).alloc (Nat.le_refl _) _).alloc (by simp) _
    have e0 : W2.cell? ⟨w.heap.size, 0, none⟩ = some (.int .i64 k) := by rw [hW, World.cell?_alloc_past _ _ _ (by simp), World.cell?_alloc_at _ _ _ _ rfl]; rfl
    have e1 : W2.cell? ⟨w.heap.size, 1, none⟩ = some (.int .i64 n) := by rw [hW, World.cell?_alloc_past _ _ _ (by simp), World.cell?_alloc_at _ _ _ _ rfl]; rfl
    have e2 : W2.cell? ⟨w.heap.size, 2, none⟩ = some (.slice ad a.length c) := by rw [hW, World.cell?_alloc_past _ _ _ (by simp), World.cell?_alloc_at _ _ _ _ rfl]; rfl
    have r0 : W2.cell? ⟨w.heap.size + 1, 0, none⟩ = some (.int .i64 0) := by rw [hW, World.cell?_alloc_at _ _ _ _ (by simp)]; rfl
    have r1 : W2.cell? ⟨w.heap.size + 1, 1, none⟩ = some (.int .i64 0) := by rw [hW, World.cell?_alloc_at _ _ _ _ (by simp)]; rfl
    have r2 : W2.cell? ⟨w.heap.size + 1, 2, none⟩ = some (.slice none 0 0) := by rw [hW, World.cell?_alloc_at _ _ _ _ (by simp)]; rfl
    have f0 : ∀ j, W2.frozen? ⟨w.heap.size, j, none⟩ = false := by intro j; rw [hW]; simp [go_sem]
    have f1 : ∀ j, W2.frozen? ⟨w.heap.size + 1, j, none⟩ = false := by intro j; rw [hW]; simp [go_sem]
    rw [← hW]
    clear hW
    go_loopw [3, 5, 9] (fun x _ i wr => ∃ (j : Nat) (xs : List Value), j ≤ a.length ∧ i = .int .i64 j ∧ Ex.Cells (offOf W2.heap.size x) wr (a.take j) xs ∧ wr.ownsRow W2.heap.size 119 3 x j xs ∧ Below W2.heap.size W2 wr) (fun _ _ i _ => a.length - (intOf i).toNat)
    case atStart => exact ⟨0, [], Nat.zero_le _, rfl, rfl, World.ownsRow_nil _ _ _ _, Below.refl _ _⟩
    case round =>
      obtain ⟨j, xs, hj, rfl, hcs, hown, hb⟩ := hrel
      by_cases hlt : j < a.length
      · rcases HR.out with h | ⟨b, o, had, hrow⟩
        · subst h; simp at hlt
        subst had
        have hb2 := below_seq hB0 hb
        obtain ⟨xk, xn, xad, xm, xc, c0, c1, c2, hin⟩ := (Ex.Row.below hb2 a hrow).shape hlt
        have hnd := nodesAll_at a j a[j] (by simp [hlt])
        have HI : Hid (_ ∧ _ ∧ _ ∧ _) := ⟨hin, hcs, hown, hb⟩
        clear hin hcs hown hb hrow hb2 e0 e1 e2 r0 r1 r2 f0 f1 hB0
        go_wp2_with (first
          | (go_at_call 65; refine (IH.out a[j] _ _ (by omega) (by omega) ?hx).mono ?_; rotate_left 1; rintro e w2 ⟨v2, rfl, hin2, hb'⟩; obtain ⟨yk, yn, yad, ym, yc, rfl⟩ := hin2.shape; have HI2 : Hid (_ ∧ _) := ⟨hin2, hb'⟩; clear hin2 hb')
          | (at_builtin; refine append_mine _ rfl (.tmp 13) (.tmp 16) 117 rfl W2.heap.size 119 i0 _ 3 40 Tryd.underlying117 hi hz0 hz1 hz2 rfl (by decide) _ j xs rfl (ownsRow_below HI.out.2.2.1 (below_seq (below_seq ((Below.refl _ _).alloc (Nat.le_refl _) _) HI2.out.2) ((Below.refl _ _).alloc (Nat.le_refl _) _))) ⟨w2.heap.size, 0, none⟩ 1 1 [.int .i64 yk, .int .i64 yn, .slice yad ym yc] rfl rfl ?qc ?q1 (by decide) ?q3 ?q4 ?q5 ?_; rotate_left 5; intro v3 w3 hown3 hg3 hv3; have HI3 : Hid (_ ∧ _ ∧ _) := ⟨hown3, hg3, hv3⟩; clear hown3 hg3 hv3))
        case hx => exact Ex.In.below ((Below.refl _ _).alloc (Nat.le_refl _) _) _ HI.out.1
        case qc => exact fresh_cells w2 _ 119
        case q1 => intro u hu; simp at hu; rcases hu with rfl | rfl | rfl <;> rfl
        case q3 => unfold maxLen; omega
        case q4 => omega
        case q5 => have := HI.out.2.2.2.size; have := HI2.out.2.size; simp at this; simp; omega
        have R := twinE_step hlt HI.out.2.1 HI.out.2.2.1 HI.out.2.2.2 (below_seq ((Below.refl _ _).alloc (Nat.le_refl _) _) HI2.out.2) (InP_weaken HI2.out.1 (by simp)) HI3.out.2.1 HI3.out.2.2
        go_roundw
        case rel => exact ⟨j + 1, _, by omega, by go_num, R.1, HI3.out.1, R.2⟩
        case measure => simp [intOf]; omega
      · have hje : j = a.length := by omega
        subst hje
        rw [List.take_length] at hcs
        obtain ⟨oad, oc, rfl, hend⟩ := twinE_end (k := k) (n := n) hcs hown
        have g0 := below_cell hb e0
        have g1 := below_cell hb e1
        have g2 := below_cell hb e2
        have s0 := below_cell hb r0
        have s1 := below_cell hb r1
        have s2 := below_cell hb r2
        have t0 : ∀ j, wr.frozen? ⟨w.heap.size, j, none⟩ = false := fun j => (hb.frozen (p := ⟨w.heap.size, j, none⟩) (by simp; omega)).trans (f0 j)
        have t1 : ∀ j, wr.frozen? ⟨w.heap.size + 1, j, none⟩ = false := fun j => (hb.frozen (p := ⟨w.heap.size + 1, j, none⟩) (by simp; omega)).trans (f1 j)
        have HE : Hid (_ ∧ _ ∧ _) := ⟨hend, hb, hB0⟩
        clear hcs hown hend hb hB0 e0 e1 e2 r0 r1 r2 f0 f1
        go_wp2_with fail
        refine bodyPost_ret (v := .agg #[.int .i64 k, .int .i64 n, .slice oad a.length oc]) (by simp [results, Tryd.results65, go_sem, s0, s1, s2]) rfl ⟨_, rfl, ?_, ?_⟩
        · refine Ex.InP.move ?_ _ HE.out.1
          intro b hb _
          refine ⟨by omega, ?_⟩
          rw [Below.heap_setCell _ _ _ _ (by simp; omega), Below.heap_setCell _ _ _ _ (by simp; omega), Below.heap_setCell _ _ _ _ (by simp; omega), Below.heap_setCell _ _ _ _ (by simp; omega)]
        · exact ((((below_seq HE.out.2.2 HE.out.2.1).setCell (by simp) _).setCell (by simp) _).setCell (by simp) _).setCell (by simp) _
end Go.Proofs.YtgemadoieielcacDoor.B
namespace Go.Proofs.YtgemadoieielcacDoor.B
open Go.ChangeShapes Go.WideShapes Go.ChangeAt Go.RowKit

/-- A row of statements that nobody has frozen. -/
def rowBlk (w : World) (g : Nat) : Prop := ∃ cur, w.heap[g]? = some (.cells cur 123 (0, 0))

/- Statements whose rows lie each at the head of a block of its own: the blocks are told in order; of each p holds, and of those of the expressions. -/
mutual
def St.InQ (p : Nat → Prop) (w : World) : St → Value → List Nat → Prop
  | .mk k n e ck ca cb b l, v, bl => ∃ e0 e1 e2 a0 a1 a2 b0 b1 b2 sb sl, v = .agg #[.int .i64 k, .int .i64 n, e0, e1, e2, .int .i64 ck, a0, a1, a2, b0, b1, b2, sb, sl] ∧
      e.InP p w (.agg #[e0, e1, e2]) ∧ ca.InP p w (.agg #[a0, a1, a2]) ∧ cb.InP p w (.agg #[b0, b1, b2]) ∧
      ∃ q1 q2, bl = q1 ++ q2 ∧
      (∃ ad c, sb = .slice ad b.length c ∧ ((b = [] ∧ q1 = []) ∨ b ≠ [] ∧ ∃ g q, ad = some ⟨g, 0, none⟩ ∧ (p g ∧ rowBlk w g) ∧ q1 = g :: q ∧ St.RowQ p w b g 0 q)) ∧
      (∃ ad c, sl = .slice ad l.length c ∧ ((l = [] ∧ q2 = []) ∨ l ≠ [] ∧ ∃ g q, ad = some ⟨g, 0, none⟩ ∧ (p g ∧ rowBlk w g) ∧ q2 = g :: q ∧ St.RowQ p w l g 0 q))
def St.RowQ (p : Nat → Prop) (w : World) : List St → Nat → Nat → List Nat → Prop
  | [], _, _, bl => bl = []
  | s :: r, g, o, bl => ∃ q1 q2, bl = q1 ++ q2 ∧ (∃ x : Nat → Value, (∀ j, j < 14 → w.cell? ⟨g, o + j, none⟩ = some (x j)) ∧ St.InQ p w s (stVal x) q1) ∧ St.RowQ p w r g (o + 14) q2
end

def St.SlQ (p : Nat → Prop) (w : World) (b : List St) (v : Value) (bl : List Nat) : Prop :=
  ∃ ad c, v = .slice ad b.length c ∧ ((b = [] ∧ bl = []) ∨ b ≠ [] ∧ ∃ g q, ad = some ⟨g, 0, none⟩ ∧ (p g ∧ rowBlk w g) ∧ bl = g :: q ∧ St.RowQ p w b g 0 q)

mutual
theorem St.InQ.plain {p : Nat → Prop} {w : World} : ∀ (s : St) {v : Value} {bl : List Nat}, s.InQ p w v bl → s.In w v
  | .mk k n e ck ca cb b l, v, bl, h => by
    unfold St.InQ at h
    unfold St.In
    obtain ⟨e0, e1, e2, a0, a1, a2, b0, b1, b2, sb, sl, hv, h1, h2, h3, q1, q2, hq, ⟨ad, c, h4, h5⟩, ⟨ad', c', h6, h7⟩⟩ := h
    refine ⟨e0, e1, e2, a0, a1, a2, b0, b1, b2, sb, sl, hv, h1.plain, h2.plain, h3.plain, ⟨ad, c, h4, ?_⟩, ⟨ad', c', h6, ?_⟩⟩
    · rcases h5 with ⟨h, _⟩ | ⟨_, g, q, h1, _, _, h2⟩
      · exact .inl h
      · exact .inr ⟨g, 0, h1, St.RowQ.plain b h2⟩
    · rcases h7 with ⟨h, _⟩ | ⟨_, g, q, h1, _, _, h2⟩
      · exact .inl h
      · exact .inr ⟨g, 0, h1, St.RowQ.plain l h2⟩
theorem St.RowQ.plain {p : Nat → Prop} {w : World} : ∀ (a : List St) {g o : Nat} {bl : List Nat}, St.RowQ p w a g o bl → St.Row w a g o
  | [], _, _, _, _ => by unfold St.Row; trivial
  | e :: r, g, o, bl, h => by
    unfold St.RowQ at h
    unfold St.Row
    obtain ⟨q1, q2, hq, ⟨x, h0, h3⟩, h4⟩ := h
    exact ⟨⟨x, h0, St.InQ.plain e h3⟩, St.RowQ.plain r h4⟩
end

theorem St.SlQ.plain {p : Nat → Prop} {w : World} {b : List St} {v : Value} {bl : List Nat} (h : St.SlQ p w b v bl) : St.Sl w b v := by
  obtain ⟨ad, c, hv, h⟩ := h
  refine ⟨ad, c, hv, ?_⟩
  rcases h with ⟨h, _⟩ | ⟨_, g, q, h1, _, _, h2⟩
  · exact .inl h
  · exact .inr ⟨g, 0, h1, h2.plain⟩

theorem St.RowQ.lt {p : Nat → Prop} {w : World} {a : List St} {g o : Nat} {bl : List Nat} (h0 : a ≠ []) (h : St.RowQ p w a g o bl) : g < w.heap.size := by
  cases a with
  | nil => exact absurd rfl h0
  | cons x r =>
    unfold St.RowQ at h
    obtain ⟨q1, q2, hq, ⟨x, hx, _⟩, _⟩ := h
    exact World.block_lt_of_cell? _ _ (hx 0 (by omega))

theorem Moves.blk {p q : Nat → Prop} {w w' : World} (h : Moves p q w w') {g : Nat} (hp : p g) (hb : rowBlk w g) : rowBlk w' g := by
  obtain ⟨cur, hc⟩ := hb
  exact ⟨cur, (h g hp (Array.getElem?_eq_some_iff.1 hc).1).2.trans hc⟩

mutual
theorem St.InQ.move {p q : Nat → Prop} {w w' : World} (hm : Moves p q w w') : ∀ (s : St) {v : Value} {bl : List Nat}, s.InQ p w v bl → s.InQ q w' v bl
  | .mk k n e ck ca cb b l, v, bl, h => by
    unfold St.InQ at h ⊢
    obtain ⟨e0, e1, e2, a0, a1, a2, b0, b1, b2, sb, sl, hv, h1, h2, h3, q1, q2, hq, ⟨ad, c, h4, h5⟩, ⟨ad', c', h6, h7⟩⟩ := h
    refine ⟨e0, e1, e2, a0, a1, a2, b0, b1, b2, sb, sl, hv, h1.move hm, h2.move hm, h3.move hm, q1, q2, hq, ⟨ad, c, h4, ?_⟩, ⟨ad', c', h6, ?_⟩⟩
    · rcases h5 with h | ⟨hne, g, q, h1, hp, hq, h2⟩
      · exact .inl h
      · exact .inr ⟨hne, g, q, h1, ⟨(hm g hp.1 (h2.lt hne)).1, hm.blk hp.1 hp.2⟩, hq, St.RowQ.move hm b hp.1 h2⟩
    · rcases h7 with h | ⟨hne, g, q, h1, hp, hq, h2⟩
      · exact .inl h
      · exact .inr ⟨hne, g, q, h1, ⟨(hm g hp.1 (h2.lt hne)).1, hm.blk hp.1 hp.2⟩, hq, St.RowQ.move hm l hp.1 h2⟩
theorem St.RowQ.move {p q : Nat → Prop} {w w' : World} (hm : Moves p q w w') : ∀ (a : List St) {g o : Nat} {bl : List Nat}, p g → St.RowQ p w a g o bl → St.RowQ q w' a g o bl
  | [], _, _, _, _, h => by unfold St.RowQ at h ⊢; exact h
  | e :: r, g, o, bl, hp, h => by
    unfold St.RowQ at h ⊢
    obtain ⟨q1, q2, hq, ⟨x, h0, h3⟩, h4⟩ := h
    exact ⟨q1, q2, hq, ⟨x, fun j hj => hm.cell hp (h0 j hj), St.InQ.move hm e h3⟩, St.RowQ.move hm r hp h4⟩
end

theorem St.SlQ.move {p q : Nat → Prop} {w w' : World} (hm : Moves p q w w') {b : List St} {v : Value} {bl : List Nat} (h : St.SlQ p w b v bl) : St.SlQ q w' b v bl := by
  obtain ⟨ad, c, hv, h⟩ := h
  refine ⟨ad, c, hv, ?_⟩
  rcases h with h | ⟨hne, g, q, h1, hp, hq, h2⟩
  · exact .inl h
  · exact .inr ⟨hne, g, q, h1, ⟨(hm g hp.1 (h2.lt hne)).1, hm.blk hp.1 hp.2⟩, hq, h2.move hm _ hp.1⟩

mutual
theorem St.InQ.blocks {p : Nat → Prop} {w : World} : ∀ (s : St) {v : Value} {bl : List Nat}, s.InQ p w v bl → ∀ b ∈ bl, p b ∧ b < w.heap.size
  | .mk k n e ck ca cb b l, v, bl, h => by
    unfold St.InQ at h
    obtain ⟨e0, e1, e2, a0, a1, a2, b0, b1, b2, sb, sl, hv, h1, h2, h3, q1, q2, hq, ⟨ad, c, h4, h5⟩, ⟨ad', c', h6, h7⟩⟩ := h
    subst hq
    intro x hx
    rcases List.mem_append.1 hx with hx | hx
    · rcases h5 with ⟨_, h⟩ | ⟨hne, g, q, h1, hp, hq, h2⟩
      · subst h; simp at hx
      · subst hq
        rcases List.mem_cons.1 hx with hx | hx
        · subst hx; exact ⟨hp.1, h2.lt hne⟩
        · exact St.RowQ.blocks b h2 x hx
    · rcases h7 with ⟨_, h⟩ | ⟨hne, g, q, h1, hp, hq, h2⟩
      · subst h; simp at hx
      · subst hq
        rcases List.mem_cons.1 hx with hx | hx
        · subst hx; exact ⟨hp.1, h2.lt hne⟩
        · exact St.RowQ.blocks l h2 x hx
theorem St.RowQ.blocks {p : Nat → Prop} {w : World} : ∀ (a : List St) {g o : Nat} {bl : List Nat}, St.RowQ p w a g o bl → ∀ b ∈ bl, p b ∧ b < w.heap.size
  | [], _, _, _, h => by unfold St.RowQ at h; subst h; intro x hx; simp at hx
  | e :: r, g, o, bl, h => by
    unfold St.RowQ at h
    obtain ⟨q1, q2, hq, ⟨x, h0, h3⟩, h4⟩ := h
    subst hq
    intro x hx
    rcases List.mem_append.1 hx with hx | hx
    · exact St.InQ.blocks e h3 x hx
    · exact St.RowQ.blocks r h4 x hx
end

theorem St.SlQ.blocks {p : Nat → Prop} {w : World} {b : List St} {v : Value} {bl : List Nat} (h : St.SlQ p w b v bl) : ∀ x ∈ bl, p x ∧ x < w.heap.size := by
  obtain ⟨ad, c, hv, h⟩ := h
  rcases h with ⟨_, h⟩ | ⟨hne, g, q, h1, hp, hq, h2⟩
  · subst h; intro x hx; simp at hx
  · subst hq
    intro x hx
    rcases List.mem_cons.1 hx with hx | hx
    · subst hx; exact ⟨hp.1, h2.lt hne⟩
    · exact h2.blocks _ x hx

/-- Statements as the cells of a row. -/
def St.Cells (p : Nat → Prop) (w : World) : List St → List Value → List Nat → Prop
  | [], xs, bl => xs = [] ∧ bl = []
  | s :: r, xs, bl => ∃ x : Nat → Value, ∃ ys q1 q2, xs = [x 0, x 1, x 2, x 3, x 4, x 5, x 6, x 7, x 8, x 9, x 10, x 11, x 12, x 13] ++ ys ∧ bl = q1 ++ q2 ∧ s.InQ p w (stVal x) q1 ∧ St.Cells p w r ys q2

theorem St.Cells.move {p q : Nat → Prop} {w w' : World} (hm : Moves p q w w') : ∀ (a : List St) {xs : List Value} {bl : List Nat}, St.Cells p w a xs bl → St.Cells q w' a xs bl
  | [], _, _, h => h
  | e :: r, xs, bl, h => by
    obtain ⟨x, ys, q1, q2, hx, hq, h1, h2⟩ := h
    exact ⟨x, ys, q1, q2, hx, hq, h1.move hm, St.Cells.move hm r h2⟩

theorem St.Cells.blocks {p : Nat → Prop} {w : World} : ∀ (a : List St) {xs : List Value} {bl : List Nat}, St.Cells p w a xs bl → ∀ b ∈ bl, p b ∧ b < w.heap.size
  | [], _, _, h => by obtain ⟨_, h⟩ := h; subst h; intro b hb; simp at hb
  | e :: r, xs, bl, h => by
    obtain ⟨x, ys, q1, q2, hx, hq, h1, h2⟩ := h
    subst hq
    intro b hb
    rcases List.mem_append.1 hb with hb | hb
    · exact St.InQ.blocks e h1 b hb
    · exact St.Cells.blocks r h2 b hb

theorem St.Cells.snoc {p : Nat → Prop} {w : World} {e : St} {x : Nat → Value} {q : List Nat} (he : e.InQ p w (stVal x) q) : ∀ (a : List St) {xs : List Value} {bl : List Nat}, St.Cells p w a xs bl →
    St.Cells p w (a ++ [e]) (xs ++ [x 0, x 1, x 2, x 3, x 4, x 5, x 6, x 7, x 8, x 9, x 10, x 11, x 12, x 13]) (bl ++ q)
  | [], xs, bl, h => by
    obtain ⟨h1, h2⟩ := h
    subst h1 h2
    exact ⟨x, [], q, [], by simp, by simp, he, rfl, rfl⟩
  | y :: r, xs, bl, h => by
    obtain ⟨x', ys, q1, q2, hx, hq, h1, h2⟩ := h
    subst hx hq
    exact ⟨x', _, q1, q2 ++ q, by simp, by simp, h1, St.Cells.snoc he r h2⟩

theorem St.Cells.row {p : Nat → Prop} {w : World} {g : Nat} : ∀ (a : List St) {xs : List Value} {bl : List Nat} {o : Nat}, St.Cells p w a xs bl → (∀ j u, xs[j]? = some u → w.cell? ⟨g, o + j, none⟩ = some u) → St.RowQ p w a g o bl
  | [], _, _, _, h, _ => by unfold St.RowQ; exact h.2
  | e :: r, xs, bl, o, h, hc => by
    obtain ⟨x, ys, q1, q2, hx, hq, h1, h2⟩ := h
    subst hx hq
    unfold St.RowQ
    refine ⟨q1, q2, rfl, ⟨x, fun j hj => hc j _ ?_, h1⟩, St.Cells.row r h2 fun j u hj => ?_⟩
    · match j, hj with
      | 0, _ | 1, _ | 2, _ | 3, _ | 4, _ | 5, _ | 6, _ | 7, _ | 8, _ | 9, _ | 10, _ | 11, _ | 12, _ | 13, _ => rfl
    · have := hc (j + 14) u (by rw [List.getElem?_append_right (by simp)]; simpa using hj)
      rwa [show o + (j + 14) = o + 14 + j by omega] at this
end Go.Proofs.YtgemadoieielcacDoor.B
namespace Go.Proofs.YtgemadoieielcacDoor.B
open Go.ChangeShapes Go.WideShapes Go.ChangeAt Go.RowKit

mutual
def Ex.pre (m : Nat) : Ex → List Ex
  | .mk k n a => Ex.preAll m a [.mk k n a]
def Ex.preAll (m : Nat) : List Ex → List Ex → List Ex
  | [], l => l
  | x :: r, l => if m < l.length then l else Ex.preAll m r (l ++ x.pre m)
end

mutual
theorem Ex.pre_len (m : Nat) : ∀ e : Ex, 1 ≤ (e.pre m).length ∧ (e.pre m).length ≤ e.nodes
  | .mk k n a => by
    have := Ex.preAll_len m a [.mk k n a]
    unfold Ex.pre Ex.nodes
    simp at this
    omega
theorem Ex.preAll_len (m : Nat) : ∀ (a l : List Ex), l.length ≤ (Ex.preAll m a l).length ∧ (Ex.preAll m a l).length ≤ l.length + Ex.nodesAll a
  | [], l => by unfold Ex.preAll; simp
  | x :: r, l => by
    have := Ex.pre_len m x
    have := Ex.preAll_len m r (l ++ x.pre m)
    unfold Ex.preAll Ex.nodesAll
    split
    · omega
    · simp at this; omega
end

/- Its rows lie below w's end. -/
mutual
theorem Ex.In.old {w : World} : ∀ (e : Ex) {v : Value}, e.In w v → e.InP (fun b => b < w.heap.size) w v
  | .mk k n a, v, h => by
    unfold Ex.In at h
    unfold Ex.InP
    obtain ⟨ad, c, hv, h⟩ := h
    refine ⟨ad, c, hv, ?_⟩
    rcases h with h | ⟨b, o, h1, h2⟩
    · exact .inl h
    · cases a with
      | nil => exact .inl rfl
      | cons x r =>
        have hc : b < w.heap.size := by
          unfold Ex.Row at h2
          obtain ⟨⟨x0, x1, x2, h0, _⟩, _⟩ := h2
          exact World.block_lt_of_cell? _ _ h0
        exact .inr ⟨b, o, h1, hc, Ex.Row.old _ h2⟩
theorem Ex.Row.old {w : World} : ∀ (a : List Ex) {b o : Nat}, Ex.Row w a b o → Ex.RowP (fun b => b < w.heap.size) w a b o
  | [], _, _, _ => by unfold Ex.RowP; trivial
  | e :: r, b, o, h => by
    unfold Ex.Row at h
    unfold Ex.RowP
    obtain ⟨⟨x0, x1, x2, h0, h1, h2, h3⟩, h4⟩ := h
    exact ⟨⟨x0, x1, x2, h0, h1, h2, Ex.In.old e h3⟩, Ex.Row.old r h4⟩
end

theorem moves_old {B : Nat} {w w' : World} (h : Below B w w') : Moves (fun b => b < B) (fun b => b < B) w w' := fun b hb _ => ⟨hb, h.block b hb⟩

theorem Ex.Cells.one {p : Nat → Prop} {w : World} : ∀ (a : List Ex) {xs : List Value}, Ex.Cells p w a xs → ∀ u ∈ xs, u.oneCell' = true
  | [], _, h, u, hu => by unfold Ex.Cells at h; subst h; simp at hu
  | e :: r, xs, h, u, hu => by
    obtain ⟨x0, x1, x2, ys, rfl, h1, h2⟩ := h
    obtain ⟨k, n, ad, m, c, hv⟩ := h1.shape
    simp only [Value.agg.injEq, Array.mk.injEq, List.cons.injEq, and_true] at hv
    obtain ⟨rfl, rfl, rfl⟩ := hv
    simp only [List.mem_cons] at hu
    rcases hu with rfl | rfl | rfl | hu
    · rfl
    · rfl
    · rfl
    · exact Ex.Cells.one r h2 u hu

theorem Ex.Cells.len {p : Nat → Prop} {w : World} : ∀ (a : List Ex) {xs : List Value}, Ex.Cells p w a xs → xs.length = a.length * 3
  | [], _, h => by unfold Ex.Cells at h; subst h; rfl
  | e :: r, xs, h => by
    obtain ⟨x0, x1, x2, ys, rfl, h1, h2⟩ := h
    have := Ex.Cells.len r h2
    simp; omega

theorem Ex.Cells.append {p : Nat → Prop} {w : World} : ∀ (a b : List Ex) {xs ys : List Value}, Ex.Cells p w a xs → Ex.Cells p w b ys → Ex.Cells p w (a ++ b) (xs ++ ys)
  | [], b, xs, ys, h, h' => by unfold Ex.Cells at h; subst h; exact h'
  | e :: r, b, xs, ys, h, h' => by
    obtain ⟨x0, x1, x2, zs, rfl, h1, h2⟩ := h
    exact ⟨x0, x1, x2, zs ++ ys, rfl, h1, Ex.Cells.append r b h2 h'⟩

theorem owns_new {w : World} {base size : Nat} {e : TypeId} {xs : List Value} (hb : base ≤ w.heap.size) (hx : xs.length = size) : (w.alloc (.cells xs.toArray e)).ownsRow base e size (.slice (some ⟨w.heap.size, 0, none⟩) 1 1) 1 xs :=
  ⟨by simp [hx], .inr ⟨w.heap.size, 1, xs.toArray, rfl, hb, heap_alloc_new w _, Nat.le_refl _, by unfold maxLen; omega, by simp [hx], by simp [← hx]⟩⟩

theorem owns_value {w : World} {v : Value} {base n : Nat} {xs : List Value} {e : TypeId} {size : Nat} (h : w.ownsRow base e size v n xs) : ∃ ad cap, v = .slice ad n cap := by
  rcases h.2 with ⟨rfl, rfl⟩ | ⟨g, cap, cur, rfl, _⟩
  · exact ⟨_, _, rfl⟩
  · exact ⟨_, _, rfl⟩

theorem owns_cells {w : World} {v : Value} {base n : Nat} {xs : List Value} {e : TypeId} {size : Nat} (h : w.ownsRow base e size v n xs) (hn : 0 < n) : ∃ g cap, v = .slice (some ⟨g, 0, none⟩) n cap ∧ base ≤ g ∧ ∀ j u, xs[j]? = some u → w.cell? ((⟨g, 0, none⟩ : Addr).add j) = some u := by
  have h' := h
  rcases h.2 with ⟨rfl, rfl⟩ | ⟨g, cap, cur, rfl, hb, _⟩
  · omega
  · exact ⟨g, cap, rfl, hb, fun j u hj => h'.cells (g := g) rfl j u hj⟩

theorem Ex.RowP.at {p : Nat → Prop} {w : World} : ∀ (a : List Ex) {b o : Nat}, Ex.RowP p w a b o → ∀ (j : Nat) (x : Ex), a[j]? = some x →
    ∃ x0 x1 x2, w.cell? ⟨b, o + j * 3, none⟩ = some x0 ∧ w.cell? ⟨b, o + j * 3 + 1, none⟩ = some x1 ∧ w.cell? ⟨b, o + j * 3 + 2, none⟩ = some x2 ∧ Ex.InP p w x (.agg #[x0, x1, x2])
  | [], _, _, _, _, _, h => by simp at h
  | e :: r, b, o, h, 0, x, hx => by
    unfold Ex.RowP at h
    simp at hx
    subst hx
    simpa using h.1
  | e :: r, b, o, h, j + 1, x, hx => by
    unfold Ex.RowP at h
    have := Ex.RowP.at r h.2 j x (by simpa using hx)
    have e0 : o + 3 + j * 3 = o + (j + 1) * 3 := by omega
    rwa [e0] at this

theorem Ex.RowP.shape {p : Nat → Prop} {w : World} {a : List Ex} {b o : Nat} (h : Ex.RowP p w a b o) {j : Nat} (hj : j < a.length) :
    ∃ k n ad m c, w.cell? ⟨b, o + j * 3, none⟩ = some (.int .i64 k) ∧ w.cell? ⟨b, o + j * 3 + 1, none⟩ = some (.int .i64 n) ∧ w.cell? ⟨b, o + j * 3 + 2, none⟩ = some (.slice ad m c) ∧
      Ex.InP p w a[j] (.agg #[.int .i64 k, .int .i64 n, .slice ad m c]) := by
  obtain ⟨x0, x1, x2, c0, c1, c2, hin⟩ := Ex.RowP.at a h j a[j] (by simp [hj])
  obtain ⟨k, n, ad, m, c, hv⟩ := hin.shape
  simp only [Value.agg.injEq, Array.mk.injEq, List.cons.injEq, and_true] at hv
  obtain ⟨rfl, rfl, rfl⟩ := hv
  exact ⟨_, _, _, _, _, c0, c1, c2, hin⟩

theorem Ex.preAll_at {m : Nat} {a : List Ex} {j : Nat} (h : j < a.length) (l : List Ex) : Ex.preAll m (a.drop j) l = if m < l.length then l else Ex.preAll m (a.drop (j + 1)) (l ++ (a[j]).pre m) := by
  rw [drop_at h, Ex.preAll]

theorem nodesAll_drop {a : List Ex} {j : Nat} (h : j < a.length) : Ex.nodesAll (a.drop j) = (a[j]).nodes + Ex.nodesAll (a.drop (j + 1)) := by
  rw [drop_at h, Ex.nodesAll]

set_option maxHeartbeats 2000000 in
theorem nodes_any (m : Nat) (hm : m ≤ 1000) (B : Nat) (N : Nat) : ∀ (e : Ex) (w : World) (v : Value), e.nodes < N → N ≤ 1048577 → B ≤ w.heap.size → e.InP (fun b => b < B) w v →
    Calls Tryd.prog 147 #[v, .int .i64 m] w fun r w' => ∃ v' xs, r = .returned v' ∧ w'.ownsRow w.heap.size 119 3 v' (e.pre m).length xs ∧ Ex.Cells (fun b => b < B) w' (e.pre m) xs ∧ Below w.heap.size w w' := by
  induction N with
  | zero => intro e w v h; omega
  | succ N ih =>
    intro e w v hN hle hBw hin
    obtain ⟨k, n, a⟩ := e
    unfold Ex.nodes at hN
    have hlen := length_le_nodesAll a
    have hin0 := hin
    unfold Ex.InP at hin
    obtain ⟨ad, c, rfl, hrow⟩ := hin
    have HR : Hid (_ ∧ (a = [] ∨ ∃ b o, ad = some ⟨b, o, none⟩ ∧ b < B ∧ Ex.RowP (fun b => b < B) w a b o)) := ⟨hin0, hrow⟩
    clear hrow hin0
    have IH : Hid _ := ih
    clear ih
    obtain ⟨i0, hi, hz0, hz1, hz2⟩ := info_parts info30
    go_enter Tryd.func147, Tryd.ntmps147
    go_wp2_with fail
    go_loopw [4, 5, 7, 13] (fun _ x _ i wr => ∃ (j : Nat) (l : List Ex) (xs : List Value), j ≤ a.length ∧ i = .int .i64 j ∧ Ex.preAll m (a.drop j) l = Ex.preAll m a [.mk k n a] ∧ 1 ≤ l.length ∧ l.length + Ex.nodesAll (a.drop j) ≤ 1 + Ex.nodesAll a ∧ wr.ownsRow w.heap.size 119 3 x l.length xs ∧ Ex.Cells (fun b => b < B) wr l xs ∧ Below w.heap.size w wr) (fun _ _ _ i _ => a.length - (intOf i).toNat)
    case atStart =>
      refine ⟨0, [.mk k n a], [.int .i64 k, .int .i64 n, .slice ad a.length c], Nat.zero_le _, rfl, rfl, by simp, by simp, ?_, ?_, ?_⟩
      · have := owns_new (w := w.alloc (.cells #[.int .i64 k, .int .i64 n, .slice ad a.length c] 119)) (base := w.heap.size) (size := 3) (e := 119) (xs := [.int .i64 k, .int .i64 n, .slice ad a.length c]) (by simp) rfl
        simpa using this
      · refine ⟨_, _, _, [], rfl, ?_, rfl⟩
        exact HR.out.1.move (moves_old ((((Below.refl _ _).alloc (Nat.le_refl _) _).alloc (by simp) _).mono hBw))
      · exact ((Below.refl _ _).alloc (Nat.le_refl _) _).alloc (by simp) _
    case round =>
      obtain ⟨j, l, xs, hj, rfl, hpre, hl1, hl2, hown, hcs, hb⟩ := hrel
      obtain ⟨xad, xcap, rfl⟩ := owns_value hown
      by_cases hlt : j < a.length
      · rcases HR.out.2 with h | ⟨b, o, had, hbB, hrow⟩
        · subst h; simp at hlt
        subst had
        have hwr : Below B w wr := hb.mono hBw
        obtain ⟨ek, en, ead, em, ec, c0, c1, c2, hin⟩ := (Ex.RowP.move (moves_old hwr) a hbB hrow).shape hlt
        have hpa := Ex.preAll_at (m := m) hlt l
        have hnd := nodesAll_drop hlt
        have hpl := Ex.pre_len m a[j]
        have hnn := nodesAll_at a j a[j] (by simp [hlt])
        have hsz := hb.size
        by_cases hml : m < l.length
        · rw [if_pos hml] at hpa
          have HE : Hid (_ ∧ _ ∧ _ ∧ _ ∧ _) := ⟨hpre, hpa, hown, hcs, hb⟩
          clear hpre hpa hown hcs hb hin hrow hwr
          go_wp2_with fail
          go_ret
          have e1 : (Ex.mk k n a).pre m = l := by rw [Ex.pre, ← HE.out.1, HE.out.2.1]
          rw [e1]
          exact ⟨_, _, rfl, ownsRow_below HE.out.2.2.1 ((Below.refl _ _).alloc (Nat.le_refl _) _), HE.out.2.2.2.1.move (moves_old (((Below.refl _ _).alloc (Nat.le_refl _) _).mono (by omega))), HE.out.2.2.2.2.alloc (by omega) _⟩
        · rw [if_neg hml] at hpa
          have HE : Hid (_ ∧ _ ∧ _ ∧ _ ∧ _ ∧ _ ∧ _) := ⟨hpre, hpa, hown, hcs, hb, hin, hwr⟩
          clear hpre hpa hown hcs hb hin hrow hwr
          generalize hx : a[j] = x at *
          have HX : Hid _ := hx
          clear hx
          go_wp2_with (first
            | (go_at_call 147; refine (IH.out x _ _ (by omega) (by omega) (by simp; omega) ?hx).mono ?_; rotate_left 1; rintro e w2 ⟨v2, ys, rfl, ho2, hc2, hb2⟩; obtain ⟨g2, cap2, rfl, hg2, hcell2⟩ := owns_cells ho2 (by omega); have H2 : Hid (_ ∧ _ ∧ _ ∧ _) := ⟨ho2, hc2, hb2, hcell2⟩; clear ho2 hc2 hb2 hcell2)
            | (at_builtin; refine append_mine _ rfl (.tmp 22) (.tmp 25) 117 rfl w.heap.size 119 i0 _ 3 40 Tryd.underlying117 hi hz0 hz1 hz2 rfl (by decide) _ l.length xs rfl (ownsRow_below HE.out.2.2.1 (below_seq ((Below.refl _ _).alloc (Nat.le_refl _) _) H2.out.2.2.1)) ⟨g2, 0, none⟩ (x.pre m).length cap2 ys rfl (H2.out.2.1.len _) H2.out.2.2.2 (H2.out.2.1.one _) (by omega) ?q3 ?q4 ?q5 ?_; rotate_left 3; intro v3 w3 hown3 hg3 hv3; have HI3 : Hid (_ ∧ _ ∧ _) := ⟨hown3, hg3, hv3⟩; clear hown3 hg3 hv3))
          case hx => exact HE.out.2.2.2.2.2.1.move (moves_old (((Below.refl _ _).alloc (Nat.le_refl _) _).mono (by omega)))
          case q3 => unfold maxLen; omega
          case q4 => omega
          case q5 => have := H2.out.2.2.1.size; simp at this; omega
          have hbw : Below wr.heap.size wr w2 := below_seq ((Below.refl _ _).alloc (Nat.le_refl _) _) H2.out.2.2.1
          have ho2 := ownsRow_below HE.out.2.2.1 hbw
          have h1 := (below_seq HE.out.2.2.2.2.1 hbw)
          have h3 : Below w.heap.size w w3 := h1.grown HI3.out.2.1 h1.size fun q hq => (ho2.lt q hq).1
          have h23 : Below B w2 w3 := by
            have h0 : Below B w2 w2 := Below.refl _ _
            exact h0.grown HI3.out.2.1 (by have := h1.size; omega) fun q hq => by have := (ho2.lt q hq).1; omega
          go_roundw
          case rel =>
            refine ⟨j + 1, l ++ x.pre m, xs ++ ys, by omega, by go_num, ?_, by simp; omega, by simp; omega, by simpa using HI3.out.1, ?_, h3⟩
            · rw [← HE.out.1, HE.out.2.1]
            · exact Ex.Cells.append _ _ (HE.out.2.2.2.1.move (moves_old ((hbw.mono (by omega)).trans h23))) (H2.out.2.1.move (moves_old h23))
          case measure => simp [intOf]; omega
      · have hje : j = a.length := by omega
        subst hje
        rw [List.drop_length, Ex.preAll] at hpre
        have HE : Hid (_ ∧ _ ∧ _ ∧ _) := ⟨hpre, hown, hcs, hb⟩
        clear hpre hown hcs hb
        go_wp2_with fail
        go_ret
        have e1 : (Ex.mk k n a).pre m = l := by rw [Ex.pre, ← HE.out.1]
        rw [e1]
        exact ⟨_, _, rfl, HE.out.2.1, HE.out.2.2.1, HE.out.2.2.2⟩
end Go.Proofs.YtgemadoieielcacDoor.B
namespace Go.Proofs.YtgemadoieielcacDoor.B
open Go.ChangeShapes Go.WideShapes Go.ChangeAt Go.RowKit

def Ex.k : Ex → Int | .mk k _ _ => k
def Ex.n : Ex → Int | .mk _ n _ => n
def Ex.a : Ex → List Ex | .mk _ _ a => a
/-- How many operands a kind wants; -1: no kind. -/
def arity (k : Int) : Int := if k = 1 ∨ k = 2 ∨ k = 3 then 0 else if k = 4 then 1 else if k = 5 ∨ k = 6 ∨ k = 7 then 2 else -1
def mostN (k : Int) : Int := if k = 1 then 999999999 else if k = 2 then 7 else if k = 3 then 3 else 0
/-- What is wrong with a node. -/
def Ex.err (x : Ex) : Int := if (x.a.length : Int) ≠ arity x.k then 6 else if x.n < 0 ∨ x.n > mostN x.k then 3 else 0
def wrongL : List Ex → Nat → Int
  | [], _ => 0
  | x :: r, j => if j = 30 then 2 else if x.err ≠ 0 then x.err else wrongL r (j + 1)

theorem Ex.Cells.get {p : Nat → Prop} {w : World} : ∀ (a : List Ex) {xs : List Value}, Ex.Cells p w a xs → ∀ (j : Nat) (x : Ex), a[j]? = some x →
    ∃ ad c, xs[j * 3]? = some (.int .i64 x.k) ∧ xs[j * 3 + 1]? = some (.int .i64 x.n) ∧ xs[j * 3 + 2]? = some (.slice ad x.a.length c)
  | [], _, _, _, _, h => by simp at h
  | e :: r, xs, h, 0, x, hx => by
    obtain ⟨x0, x1, x2, ys, rfl, h1, h2⟩ := h
    simp at hx
    subst hx
    obtain ⟨k, n, a⟩ := e
    unfold Ex.InP at h1
    obtain ⟨ad, c, hv, -⟩ := h1
    simp only [Value.agg.injEq, Array.mk.injEq, List.cons.injEq, and_true] at hv
    obtain ⟨rfl, rfl, rfl⟩ := hv
    exact ⟨ad, c, rfl, rfl, rfl⟩
  | e :: r, xs, h, j + 1, x, hx => by
    obtain ⟨x0, x1, x2, ys, rfl, h1, h2⟩ := h
    obtain ⟨ad, c, g1, g2, g3⟩ := Ex.Cells.get r h2 j x (by simpa using hx)
    refine ⟨ad, c, ?_, ?_, ?_⟩
    · rw [show (j + 1) * 3 = j * 3 + 1 + 1 + 1 by omega]; simpa using g1
    · rw [show (j + 1) * 3 + 1 = j * 3 + 1 + 1 + 1 + 1 by omega]; simpa using g2
    · rw [show (j + 1) * 3 + 2 = j * 3 + 2 + 1 + 1 + 1 by omega]; simpa using g3

theorem wrongL_at {l : List Ex} {j : Nat} (h : j < l.length) : wrongL (l.drop j) j = if j = 30 then 2 else if (l[j]).err ≠ 0 then (l[j]).err else wrongL (l.drop (j + 1)) (j + 1) := by
  rw [drop_at h, wrongL]

theorem und77 : Tryd.prog.underlying 105 = some (.map 3 3) := by kernel_rfl
theorem und3 : Tryd.prog.underlying 3 = some (.int .i64) := by kernel_rfl

def ent (k z : Int) (b : Nat) : MapEntry := { key := .int .i64 k, val := .int .i64 z, born := b }

theorem run_check3 {w : World} {e : Bool} {k : Int} : (Instr.checkKey e 10000 3 (.int .i64 k)).run Tryd.prog w = .ok () w := by
  show (Instr.checkKey e (9999 + 1) 3 (.int .i64 k)).run Tryd.prog w = .ok () w
  unfold Instr.checkKey
  simp [run_underlying und3, Result.andThen]

theorem run_find3 {w : World} {es : List MapEntry} {k : Int} {r : Option (Nat × Value)} (h : Instr.findNow (.int .i64) (.int .i64 k) es 0 = some r) : (Instr.findKey 3 (.int .i64 k) es).run Tryd.prog w = .ok r w := by
  unfold Instr.findKey
  simp [run_underlying und3, h, Result.andThen]

theorem run_ins (w : World) (es : Array MapEntry) (c : Nat) (k z : Int) (h : Instr.findNow (.int .i64) (.int .i64 k) es.toList 0 = some none) :
    (Instr.mapUpdate 105 (.map (some w.heap.size)) (.int .i64 k) (.int .i64 z)).run Tryd.prog (w.alloc (.map es c)) = .ok () (w.alloc (.map (es.push (ent k z c)) (c + 1))) := by
  have hb : (w.alloc (.map es c)).heap[w.heap.size]? = some (.map es c) := heap_alloc_new w _
  unfold Instr.mapUpdate
  have e : ({ w.alloc (.map es c) with heap := (w.alloc (.map es c)).heap.setIfInBounds w.heap.size (.map (es.push (ent k z c)) (c + 1)) } : World) = w.alloc (.map (es.push (ent k z c)) (c + 1)) := by
    show ({ w with heap := (w.heap.push _).setIfInBounds w.heap.size _ } : World) = { w with heap := w.heap.push _ }
    congr 1
    apply Array.ext_getElem?
    intro i
    rw [Array.getElem?_setIfInBounds]
    by_cases hi : w.heap.size = i
    · subst hi; simp
    · rw [if_neg hi]
      simp only [Array.getElem?_push]
      rw [if_neg (fun h => hi h.symm), if_neg (fun h => hi h.symm)]
  simp [run_underlying und77, Go.MapKept.run_getObj_map hb, run_check3, run_find3 h, Go.MapKept.run_setObj_map _ hb, Result.andThen]
  exact e

theorem run_look_ok (w : World) (es : Array MapEntry) (c : Nat) (k : Int) (r : Option (Nat × Value)) (h : Instr.findNow (.int .i64) (.int .i64 k) es.toList 0 = some r) :
    (Instr.lookup 105 (.map (some w.heap.size)) (.int .i64 k) true).run Tryd.prog (w.alloc (.map es c)) = .ok (.tuple #[(r.map (·.2)).getD (.int .i64 0), .bool r.isSome]) (w.alloc (.map es c)) := by
  have hb : (w.alloc (.map es c)).heap[w.heap.size]? = some (.map es c) := heap_alloc_new w _
  unfold Instr.lookup
  cases r with
  | none => simp [run_underlying und77, Go.MapKept.run_getObj_map hb, run_check3, run_find3 h, Result.andThen]
  | some y => simp [run_underlying und77, Go.MapKept.run_getObj_map hb, run_check3, run_find3 h, Result.andThen]

theorem run_look (w : World) (es : Array MapEntry) (c : Nat) (k : Int) (r : Option (Nat × Value)) (h : Instr.findNow (.int .i64) (.int .i64 k) es.toList 0 = some r) :
    (Instr.lookup 105 (.map (some w.heap.size)) (.int .i64 k) false).run Tryd.prog (w.alloc (.map es c)) = .ok ((r.map (·.2)).getD (.int .i64 0)) (w.alloc (.map es c)) := by
  have hb : (w.alloc (.map es c)).heap[w.heap.size]? = some (.map es c) := heap_alloc_new w _
  unfold Instr.lookup
  cases r with
  | none => simp [run_underlying und77, Go.MapKept.run_getObj_map hb, run_check3, run_find3 h, Result.andThen]
  | some y => simp [run_underlying und77, Go.MapKept.run_getObj_map hb, run_check3, run_find3 h, Result.andThen]

theorem look_arity (w : World) (k : Int) :
    (Instr.lookup 105 (.map (some w.heap.size)) (.int .i64 k) true).run Tryd.prog (w.alloc (.map #[ent 1 0 0, ent 2 0 1, ent 3 0 2, ent 4 1 3, ent 5 2 4, ent 6 2 5, ent 7 2 6] 7)) =
      .ok (.tuple #[.int .i64 (if arity k = -1 then 0 else arity k), .bool (decide (arity k ≠ -1))]) (w.alloc (.map #[ent 1 0 0, ent 2 0 1, ent 3 0 2, ent 4 1 3, ent 5 2 4, ent 6 2 5, ent 7 2 6] 7)) := by
  by_cases h1 : k = 1; · subst h1; exact run_look_ok w _ _ 1 (some (0, .int .i64 0)) rfl
  by_cases h2 : k = 2; · subst h2; exact run_look_ok w _ _ 2 (some (1, .int .i64 0)) rfl
  by_cases h3 : k = 3; · subst h3; exact run_look_ok w _ _ 3 (some (2, .int .i64 0)) rfl
  by_cases h4 : k = 4; · subst h4; exact run_look_ok w _ _ 4 (some (3, .int .i64 1)) rfl
  by_cases h5 : k = 5; · subst h5; exact run_look_ok w _ _ 5 (some (4, .int .i64 2)) rfl
  by_cases h6 : k = 6; · subst h6; exact run_look_ok w _ _ 6 (some (5, .int .i64 2)) rfl
  by_cases h7 : k = 7; · subst h7; exact run_look_ok w _ _ 7 (some (6, .int .i64 2)) rfl
  have e1 : (k == 1) = false := by simpa using h1
  have e2 : (k == 2) = false := by simpa using h2
  have e3 : (k == 3) = false := by simpa using h3
  have e4 : (k == 4) = false := by simpa using h4
  have e5 : (k == 5) = false := by simpa using h5
  have e6 : (k == 6) = false := by simpa using h6
  have e7 : (k == 7) = false := by simpa using h7
  have := run_look_ok w #[ent 1 0 0, ent 2 0 1, ent 3 0 2, ent 4 1 3, ent 5 2 4, ent 6 2 5, ent 7 2 6] 7 k none (by simp [Instr.findNow, Instr.sameNow, ent, e1, e2, e3, e4, e5, e6, e7])
  rw [this]
  simp [arity, h1, h2, h3, h4, h5, h6, h7]

theorem look_most (w : World) (k : Int) :
    (Instr.lookup 105 (.map (some w.heap.size)) (.int .i64 k) false).run Tryd.prog (w.alloc (.map #[ent 1 999999999 0, ent 2 7 1, ent 3 3 2] 3)) = .ok (.int .i64 (mostN k)) (w.alloc (.map #[ent 1 999999999 0, ent 2 7 1, ent 3 3 2] 3)) := by
  by_cases h1 : k = 1; · subst h1; exact run_look w _ _ 1 (some (0, .int .i64 999999999)) rfl
  by_cases h2 : k = 2; · subst h2; exact run_look w _ _ 2 (some (1, .int .i64 7)) rfl
  by_cases h3 : k = 3; · subst h3; exact run_look w _ _ 3 (some (2, .int .i64 3)) rfl
  have e1 : (k == 1) = false := by simpa using h1
  have e2 : (k == 2) = false := by simpa using h2
  have e3 : (k == 3) = false := by simpa using h3
  have := run_look w #[ent 1 999999999 0, ent 2 7 1, ent 3 3 2] 3 k none (by simp [Instr.findNow, Instr.sameNow, ent, e1, e2, e3])
  rw [this]
  simp [mostN, h1, h2, h3]

set_option maxRecDepth 20000 in
set_option maxHeartbeats 2000000 in
theorem wrongExpr_any (e : Ex) (w : World) (v : Value) (hN : e.nodes ≤ 1048576) (hin : e.In w v) :
    Calls Tryd.prog 129 #[v] w fun r w' => r = .returned (.int .i64 (wrongL (e.pre 31) 0)) ∧ Below w.heap.size w w' := by
  have hold := hin.old
  obtain ⟨ek, en, ead, em, ec, rfl⟩ := hold.shape
  have HO : Hid _ := hold
  clear hin hold
  have hpl := Ex.pre_len 31 e
  go_enter Tryd.func129, Tryd.ntmps129
  go_wp2_with (first
    | (go_at_call 147; refine (nodes_any 31 (by omega) w.heap.size _ e _ _ (Nat.lt_succ_self _) (by omega) (by simp) (HO.out.move (moves_old ((Below.refl _ _).alloc (Nat.le_refl _) _)))).mono ?_; rintro e w2 ⟨v2, xs, rfl, ho2, hc2, hb2⟩; obtain ⟨g2, cap2, rfl, hg2, hcell2⟩ := getCell ho2 (by omega); have H2 : Hid (_ ∧ _ ∧ _ ∧ _) := ⟨ho2, hc2, hb2, hcell2⟩; clear ho2 hc2 hb2 hcell2))
  generalize hl : e.pre 31 = l at *
  go_loopw [3, 4, 5, 6, 7, 11] (fun _ _ _ _ _ i wr => ∃ (j : Nat), j ≤ l.length ∧ i = .int .i64 j ∧ wrongL (l.drop j) j = wrongL l 0 ∧ Below w2.heap.size w2 wr) (fun _ _ _ _ _ i _ => l.length - (intOf i).toNat)
  case atStart => exact ⟨0, Nat.zero_le _, rfl, rfl, Below.refl _ _⟩
  case round =>
    obtain ⟨j, hj, rfl, hw, hb⟩ := hrel
    by_cases hlt : j < l.length
    · obtain ⟨ad, c, q0, q1, q2⟩ := Ex.Cells.get l H2.out.2.1 j l[j] (by simp [hlt])
      have d0 := below_cell hb (H2.out.2.2.2 _ _ q0)
      have d1 := below_cell hb (H2.out.2.2.2 _ _ q1)
      have d2 := below_cell hb (H2.out.2.2.2 _ _ q2)
      rw [show 0 + j * 3 = j * 3 by omega] at d0
      rw [show 0 + (j * 3 + 1) = j * 3 + 1 by omega] at d1
      rw [show 0 + (j * 3 + 2) = j * 3 + 2 by omega] at d2
      rw [wrongL_at hlt] at hw
      have HW : Hid (_ ∧ _) := ⟨hw, hb⟩
      clear hw hb q0 q1 q2
      by_cases h30 : j = 30
      · subst h30
        go_wp2_with fail
        go_ret
        exact ⟨ret_int (by (try rw [hl]); rw [← HW.out.1]; rfl), (below_seq (below_seq ((Below.refl _ _).alloc (Nat.le_refl _) _) H2.out.2.2.1) HW.out.2).alloc (by have := HW.out.2.size; have := H2.out.2.2.1.size; simp at this; omega) _⟩
      · have h30' : ((j : Int) == 30) = false := by simpa using by omega
        go_upto_region 6 with fail
        generalize l[j] = x at *
        have f0 : (wr.alloc (.cells #[.int .i64 x.k, .int .i64 x.n, .slice ad x.a.length c] 119)).cell? ⟨wr.heap.size, 0, none⟩ = some (.int .i64 x.k) := by rw [World.cell?_alloc_at _ _ _ _ rfl]; rfl
        have f1 : (wr.alloc (.cells #[.int .i64 x.k, .int .i64 x.n, .slice ad x.a.length c] 119)).cell? ⟨wr.heap.size, 1, none⟩ = some (.int .i64 x.n) := by rw [World.cell?_alloc_at _ _ _ _ rfl]; rfl
        have f2 : (wr.alloc (.cells #[.int .i64 x.k, .int .i64 x.n, .slice ad x.a.length c] 119)).cell? ⟨wr.heap.size, 2, none⟩ = some (.slice ad x.a.length c) := by rw [World.cell?_alloc_at _ _ _ _ rfl]; rfl
        have hz : wr.heap.size < (wr.alloc (.cells #[.int .i64 x.k, .int .i64 x.n, .slice ad x.a.length c] 119)).heap.size := by simp
        have hB0 : Below wr.heap.size wr (wr.alloc (.cells #[.int .i64 x.k, .int .i64 x.n, .slice ad x.a.length c] 119)) := (Below.refl _ _).alloc (Nat.le_refl _) _
        generalize wr.alloc (.cells #[.int .i64 x.k, .int .i64 x.n, .slice ad x.a.length c] 119) = W0 at *
        have HB0 : Hid (Below w.heap.size w W0) := below_seq (below_seq (below_seq ((Below.refl _ _).alloc (Nat.le_refl _) _) H2.out.2.2.1) HW.out.2) hB0
        have HB2 : Hid (Below w2.heap.size w2 W0) := below_seq HW.out.2 hB0
        clear hB0 d0 d1 d2
        have hmm : (Instr.makeMap 105 none).run Tryd.prog W0 = .ok (.map (some W0.heap.size)) (W0.alloc (.map #[] 0)) := rfl
        have i1 : (Instr.mapUpdate 105 (.map (some W0.heap.size)) (.int .i64 1) (.int .i64 0)).run Tryd.prog (W0.alloc (.map #[] 0)) = .ok () (W0.alloc (.map #[ent 1 0 0] 1)) := run_ins W0 _ _ 1 0 rfl
        have i2 : (Instr.mapUpdate 105 (.map (some W0.heap.size)) (.int .i64 2) (.int .i64 0)).run Tryd.prog (W0.alloc (.map #[ent 1 0 0] 1)) = .ok () (W0.alloc (.map #[ent 1 0 0, ent 2 0 1] 2)) := run_ins W0 _ _ 2 0 rfl
        have i3 : (Instr.mapUpdate 105 (.map (some W0.heap.size)) (.int .i64 3) (.int .i64 0)).run Tryd.prog (W0.alloc (.map #[ent 1 0 0, ent 2 0 1] 2)) = .ok () (W0.alloc (.map #[ent 1 0 0, ent 2 0 1, ent 3 0 2] 3)) := run_ins W0 _ _ 3 0 rfl
        have i4 : (Instr.mapUpdate 105 (.map (some W0.heap.size)) (.int .i64 4) (.int .i64 1)).run Tryd.prog (W0.alloc (.map #[ent 1 0 0, ent 2 0 1, ent 3 0 2] 3)) = .ok () (W0.alloc (.map #[ent 1 0 0, ent 2 0 1, ent 3 0 2, ent 4 1 3] 4)) := run_ins W0 _ _ 4 1 rfl
        have i5 : (Instr.mapUpdate 105 (.map (some W0.heap.size)) (.int .i64 5) (.int .i64 2)).run Tryd.prog (W0.alloc (.map #[ent 1 0 0, ent 2 0 1, ent 3 0 2, ent 4 1 3] 4)) = .ok () (W0.alloc (.map #[ent 1 0 0, ent 2 0 1, ent 3 0 2, ent 4 1 3, ent 5 2 4] 5)) := run_ins W0 _ _ 5 2 rfl
        have i6 : (Instr.mapUpdate 105 (.map (some W0.heap.size)) (.int .i64 6) (.int .i64 2)).run Tryd.prog (W0.alloc (.map #[ent 1 0 0, ent 2 0 1, ent 3 0 2, ent 4 1 3, ent 5 2 4] 5)) = .ok () (W0.alloc (.map #[ent 1 0 0, ent 2 0 1, ent 3 0 2, ent 4 1 3, ent 5 2 4, ent 6 2 5] 6)) := run_ins W0 _ _ 6 2 rfl
        have i7 : (Instr.mapUpdate 105 (.map (some W0.heap.size)) (.int .i64 7) (.int .i64 2)).run Tryd.prog (W0.alloc (.map #[ent 1 0 0, ent 2 0 1, ent 3 0 2, ent 4 1 3, ent 5 2 4, ent 6 2 5] 6)) = .ok () (W0.alloc (.map #[ent 1 0 0, ent 2 0 1, ent 3 0 2, ent 4 1 3, ent 5 2 4, ent 6 2 5, ent 7 2 6] 7)) := run_ins W0 _ _ 7 2 rfl
        have hlk := look_arity W0 x.k
        by_cases hA : (x.a.length : Int) ≠ arity x.k
        · have herr : x.err = 6 := by unfold Ex.err; rw [if_pos hA]
          by_cases hM : arity x.k = -1
          · rw [if_pos hM, decide_eq_false (by simpa using hM)] at hlk
            go_wp2_with fail
            go_ret
            exact ⟨ret_int (by (try rw [hl]); rw [← HW.out.1, if_neg h30, herr]; rfl), HB0.out.alloc HB0.out.size _⟩
          · rw [if_neg hM, decide_eq_true hM] at hlk
            generalize arity x.k = ar at *
            have hA' : ((x.a.length : Int) == ar) = false := by simpa using hA
            go_wp2_with fail
            go_ret
            exact ⟨ret_int (by (try rw [hl]); rw [← HW.out.1, if_neg h30, herr]; rfl), HB0.out.alloc HB0.out.size _⟩
        · have hA' : (x.a.length : Int) = arity x.k := by omega
          have hM : ¬ arity x.k = -1 := by omega
          rw [if_neg hM, decide_eq_true hM, ← hA'] at hlk
          go_upto_region 9 with fail
          have g0 : (W0.alloc (.map #[ent 1 0 0, ent 2 0 1, ent 3 0 2, ent 4 1 3, ent 5 2 4, ent 6 2 5, ent 7 2 6] 7)).cell? ⟨wr.heap.size, 0, none⟩ = some (.int .i64 x.k) := by rw [World.cell?_alloc_past _ _ _ hz]; exact f0
          have g1 : (W0.alloc (.map #[ent 1 0 0, ent 2 0 1, ent 3 0 2, ent 4 1 3, ent 5 2 4, ent 6 2 5, ent 7 2 6] 7)).cell? ⟨wr.heap.size, 1, none⟩ = some (.int .i64 x.n) := by rw [World.cell?_alloc_past _ _ _ hz]; exact f1
          have gz : wr.heap.size < (W0.alloc (.map #[ent 1 0 0, ent 2 0 1, ent 3 0 2, ent 4 1 3, ent 5 2 4, ent 6 2 5, ent 7 2 6] 7)).heap.size := by simp; omega
          have gB : Below W0.heap.size W0 (W0.alloc (.map #[ent 1 0 0, ent 2 0 1, ent 3 0 2, ent 4 1 3, ent 5 2 4, ent 6 2 5, ent 7 2 6] 7)) := (Below.refl _ _).alloc (Nat.le_refl _) _
          generalize W0.alloc (.map #[ent 1 0 0, ent 2 0 1, ent 3 0 2, ent 4 1 3, ent 5 2 4, ent 6 2 5, ent 7 2 6] 7) = W1 at *
          have GB0 : Hid (Below w.heap.size w W1) := below_seq HB0.out gB
          have GB2 : Hid (Below w2.heap.size w2 W1) := below_seq HB2.out gB
          clear f0 f1 f2 hz gB i1 i2 i3 i4 i5 i6 i7 hlk hmm HB0 HB2
          have hmm : (Instr.makeMap 105 none).run Tryd.prog W1 = .ok (.map (some W1.heap.size)) (W1.alloc (.map #[] 0)) := rfl
          have m1 : (Instr.mapUpdate 105 (.map (some W1.heap.size)) (.int .i64 1) (.int .i64 999999999)).run Tryd.prog (W1.alloc (.map #[] 0)) = .ok () (W1.alloc (.map #[ent 1 999999999 0] 1)) := run_ins W1 _ _ 1 999999999 rfl
          have m2 : (Instr.mapUpdate 105 (.map (some W1.heap.size)) (.int .i64 2) (.int .i64 7)).run Tryd.prog (W1.alloc (.map #[ent 1 999999999 0] 1)) = .ok () (W1.alloc (.map #[ent 1 999999999 0, ent 2 7 1] 2)) := run_ins W1 _ _ 2 7 rfl
          have m3 : (Instr.mapUpdate 105 (.map (some W1.heap.size)) (.int .i64 3) (.int .i64 3)).run Tryd.prog (W1.alloc (.map #[ent 1 999999999 0, ent 2 7 1] 2)) = .ok () (W1.alloc (.map #[ent 1 999999999 0, ent 2 7 1, ent 3 3 2] 3)) := run_ins W1 _ _ 3 3 rfl
          have hlk := look_most W1 x.k
          by_cases hE : x.n < 0 ∨ x.n > mostN x.k
          · have herr : x.err = 3 := by unfold Ex.err; rw [if_neg hA, if_pos hE]
            generalize mostN x.k = mo at *
            by_cases hn : x.n < 0
            · go_wp2_with fail
              go_ret
              exact ⟨ret_int (by (try rw [hl]); rw [← HW.out.1, if_neg h30, herr]; rfl), GB0.out.alloc GB0.out.size _⟩
            · have hn2 : mo < x.n := by omega
              go_wp2_with fail
              go_ret
              exact ⟨ret_int (by (try rw [hl]); rw [← HW.out.1, if_neg h30, herr]; rfl), GB0.out.alloc GB0.out.size _⟩
          · have herr : x.err = 0 := by unfold Ex.err; rw [if_neg hA, if_neg hE]
            generalize mostN x.k = mo at *
            have hn : 0 ≤ x.n := by omega
            have hn2 : x.n ≤ mo := by omega
            go_wp2_with fail
            go_roundw
            case rel => exact ⟨j + 1, by omega, by go_num, by rw [← HW.out.1, if_neg h30, herr]; rfl, GB2.out.alloc GB2.out.size _⟩
            case measure => simp [intOf]; omega
    · have hje : j = l.length := by omega
      subst hje
      rw [List.drop_length, wrongL] at hw
      have HW : Hid (_ ∧ _) := ⟨hw, hb⟩
      clear hw hb
      go_wp2_with fail
      go_ret
      exact ⟨ret_int (by (try rw [hl]); rw [← HW.out.1]), below_seq (below_seq ((Below.refl _ _).alloc (Nat.le_refl _) _) H2.out.2.2.1) HW.out.2⟩
end Go.Proofs.YtgemadoieielcacDoor.B
namespace Go.Proofs.YtgemadoieielcacDoor.B
open Go.ChangeShapes Go.WideShapes Go.ChangeAt Go.RowKit

def exNone (k n : Int) (m : Nat) : Bool := decide (k = 0) && decide (n = 0) && decide (m = 0)

theorem emptyExpr_any (k n : Int) (ad : Option Addr) (m c : Nat) (w : World) :
    Calls Tryd.prog 128 #[.agg #[.int .i64 k, .int .i64 n, .slice ad m c]] w fun r w' => r = .returned (.bool (exNone k n m)) ∧ Below w.heap.size w w' := by
  have hb : ∀ o, Below w.heap.size w (w.alloc o) := fun o => (Below.refl _ _).alloc (Nat.le_refl _) o
  by_cases h1 : k = 0
  · by_cases h2 : n = 0
    · subst h1 h2
      have hx : Hid (exNone 0 0 m = ((m : Int) == 0)) := by unfold Hid exNone; rw [Bool.eq_iff_iff]; simp
      go_enter Tryd.func128, Tryd.ntmps128
      go_wp2
      go_ret
      exact ⟨ret_bool hx.out.symm, hb _⟩
    · have hx : Hid (exNone k n m = false) := by unfold Hid exNone; simp [h2]
      have h2' : (n == 0) = false := by simpa using h2
      subst h1
      go_enter Tryd.func128, Tryd.ntmps128
      go_wp2
      go_ret
      exact ⟨ret_bool hx.out.symm, hb _⟩
  · have hx : Hid (exNone k n m = false) := by unfold Hid exNone; simp [h1]
    have h1' : (k == 0) = false := by simpa using h1
    go_enter Tryd.func128, Tryd.ntmps128
    go_wp2
    go_ret
    exact ⟨ret_bool hx.out.symm, hb _⟩

theorem isNone_any (k n : Int) (ad : Option Addr) (m c : Nat) (w : World) :
    Calls Tryd.prog 152 #[.agg #[.int .i64 k, .int .i64 n, .slice ad m c]] w fun r w' => r = .returned (.bool (exNone k n m)) ∧ Below w.heap.size w w' := by
  have hb : ∀ o, Below w.heap.size w (w.alloc o) := fun o => (Below.refl _ _).alloc (Nat.le_refl _) o
  by_cases h1 : k = 0
  · by_cases h2 : n = 0
    · subst h1 h2
      have hx : Hid (exNone 0 0 m = ((m : Int) == 0)) := by unfold Hid exNone; rw [Bool.eq_iff_iff]; simp
      go_enter Tryd.func152, Tryd.ntmps152
      go_wp2
      go_ret
      exact ⟨ret_bool hx.out.symm, hb _⟩
    · have hx : Hid (exNone k n m = false) := by unfold Hid exNone; simp [h2]
      have h2' : (n == 0) = false := by simpa using h2
      subst h1
      go_enter Tryd.func152, Tryd.ntmps152
      go_wp2
      go_ret
      exact ⟨ret_bool hx.out.symm, hb _⟩
  · have hx : Hid (exNone k n m = false) := by unfold Hid exNone; simp [h1]
    have h1' : (k == 0) = false := by simpa using h1
    go_enter Tryd.func152, Tryd.ntmps152
    go_wp2
    go_ret
    exact ⟨ret_bool hx.out.symm, hb _⟩

theorem F_any (e k : Int) (w : World) : Calls Tryd.prog 25 #[.int .i64 e, .int .i64 k] w fun r w' => r = .returned (.agg #[.int .i64 e, .int .i64 k]) ∧ Below w.heap.size w w' := by
  go_enter Tryd.func25, Tryd.ntmps25
  go_wp2
  exact bodyPost_ret (v := .agg #[.int .i64 e, .int .i64 k]) (by simp [results, Tryd.results25, go_sem]) rfl ⟨rfl, (Below.refl _ _).alloc (Nat.le_refl _) _⟩
end Go.Proofs.YtgemadoieielcacDoor.B
namespace Go.Proofs.YtgemadoieielcacDoor.B
open Go.ChangeShapes Go.WideShapes Go.ChangeAt Go.RowKit

set_option maxHeartbeats 1000000 in
/-- The looks are taken one by one: P j holds when j have been taken and found nothing, Q c when one has found c. -/
theorem first_any (n : Nat) (hn : n ≤ 100) (g cap : Nat) (fid : Nat → FuncId) (caps : Nat → Array Value) (P : Nat → World → Prop) (Q : Int → World → Prop)
    (hcell : ∀ i, i < n → ∀ w, P i w → w.cell? ⟨g, i, none⟩ = some (.func (.func (fid i)) #[] (caps i)))
    (hcall : ∀ i, i < n → ∀ w, P i w → Calls Tryd.prog (fid i) (caps i) w fun e w' => ∃ c, e = .returned (.int .i64 c) ∧ ((c = 0 ∧ P (i + 1) w') ∨ (c ≠ 0 ∧ Q c w')))
    (hent : ∀ i, i < n → ∀ cp w, (callFunc (fid i) cp).run Tryd.prog w = .ok (.enter (fid i) cp) w) (w : World) (hP : P 0 w) :
    Calls Tryd.prog 136 #[.slice (some ⟨g, 0, none⟩) n cap] w fun e w' => ∃ c, e = .returned (.int .i64 c) ∧ ((c = 0 ∧ P n w') ∨ (c ≠ 0 ∧ Q c w')) := by
  have HH : Hid (_ ∧ _ ∧ _) := ⟨hcell, hcall, hent⟩
  clear hcell hcall hent
  go_enter Tryd.func136, Tryd.ntmps136
  go_wp2_with fail
  go_loopw [4, 5, 8] (fun _ _ i wr => ∃ j : Nat, j ≤ n ∧ i = .int .i64 j ∧ P j wr) (fun _ _ i _ => n - (intOf i).toNat)
  case atStart => exact ⟨0, Nat.zero_le _, rfl, hP⟩
  case round =>
    obtain ⟨j, hj, rfl, hPj⟩ := hrel
    by_cases hlt : j < n
    · have hc := HH.out.1 j hlt wr hPj
      have hcl := HH.out.2.1 j hlt wr hPj
      have HC : Hid (Calls Tryd.prog (fid j) (caps j) wr fun e w' => ∃ c, e = .returned (.int .i64 c) ∧ ((c = 0 ∧ P (j + 1) w') ∨ (c ≠ 0 ∧ Q c w'))) := hcl
      have hen := HH.out.2.2 j hlt
      clear hcl
      generalize caps j = cp at *
      generalize fid j = fd at *
      go_wp2_with fail
      refine HC.out.mono ?_
      rintro e w' ⟨c, rfl, hor⟩
      by_cases hc0 : c = 0
      · have HO : Hid (P (j + 1) w') := by
          rcases hor with ⟨_, h⟩ | ⟨h, _⟩
          · exact h
          · exact absurd hc0 h
        subst hc0
        clear hor
        go_wp2_with fail
        go_roundw
        case rel => exact ⟨j + 1, by omega, by go_num, HO.out⟩
        case measure => simp [intOf]; omega
      · have HO : Hid (Q c w') := by
          rcases hor with ⟨h, _⟩ | ⟨_, h⟩
          · exact absurd h hc0
          · exact h
        have hc0' : (c == 0) = false := by simpa using hc0
        clear hor
        go_wp2_with fail
        go_ret
        exact ⟨c, rfl, .inr ⟨hc0, HO.out⟩⟩
    · have hje : j = n := by omega
      subst hje
      have HP : Hid (P j wr) := hPj
      clear hPj
      go_wp2_with fail
      go_ret
      exact ⟨0, rfl, .inl ⟨rfl, HP.out⟩⟩

theorem run_enter {f : FuncId} {fn : Func} (hf : Tryd.prog.funcs[f]? = some fn) (hname : (fn.name == "runtime.NumGoroutine") = false) (hb : fn.body.isNone = false) (cp : Array Value) (w : World) : (callFunc f cp).run Tryd.prog w = .ok (.enter f cp) w := by
  have hn : ¬ fn.name = "runtime.NumGoroutine" := by simpa using hname
  have hb' : ¬ fn.body = none := by intro h; rw [h] at hb; cases hb
  unfold callFunc
  simp [hf, hn, hb']
theorem ent36 (cp : Array Value) (w : World) : (callFunc 151 cp).run Tryd.prog w = .ok (.enter 151 cp) w := run_enter Tryd.func151 (by kernel_rfl) (by kernel_rfl) cp w

theorem needs_any (b : Bool) (c : Int) (w : World) : Calls Tryd.prog 137 #[.bool b, .int .i64 c] w fun r w' => r = .returned (.func (.func 151) #[] #[.pointer (some ⟨w.heap.size, 0, none⟩), .pointer (some ⟨w.heap.size + 1, 0, none⟩)]) ∧
    w' = (w.alloc (.cells #[.bool b] 4)).alloc (.cells #[.int .i64 c] 28) := by
  go_enter Tryd.func137, Tryd.ntmps137
  go_wp2
  go_ret
  exact ⟨rfl, rfl⟩

theorem needs1_any (p q : Nat) (b : Bool) (c : Int) (w : World) (h1 : w.cell? ⟨p, 0, none⟩ = some (.bool b)) (h2 : w.cell? ⟨q, 0, none⟩ = some (.int .i64 c)) :
    Calls Tryd.prog 151 #[.pointer (some ⟨p, 0, none⟩), .pointer (some ⟨q, 0, none⟩)] w fun r w' => r = .returned (.int .i64 (if b then 0 else c)) ∧ w' = w := by
  cases b
  · go_enter Tryd.func151, Tryd.ntmps151
    go_wp2
    go_ret
    exact ⟨rfl, rfl⟩
  · go_enter Tryd.func151, Tryd.ntmps151
    go_wp2
    go_ret
    exact ⟨rfl, rfl⟩

theorem only_any (b : Bool) (f : FuncId) (cs : Array Value) (w : World) : Calls Tryd.prog 139 #[.bool b, .func (.func f) #[] cs] w fun r w' => r = .returned (if b then .func (.func f) #[] cs else .func (.func 153) #[] #[]) ∧ w' = w := by
  cases b
  · go_enter Tryd.func139, Tryd.ntmps139
    go_wp2
    go_ret
    exact ⟨rfl, rfl⟩
  · go_enter Tryd.func139, Tryd.ntmps139
    go_wp2
    go_ret
    exact ⟨rfl, rfl⟩

theorem only1_any (w : World) : Calls Tryd.prog 153 #[] w fun r w' => r = .returned (.int .i64 0) ∧ w' = w := by
  go_enter Tryd.func153, Tryd.ntmps153
  go_wp2
  go_ret
  exact ⟨rfl, rfl⟩

theorem expr_any (k n : Int) (ad : Option Addr) (m c : Nat) (w : World) : Calls Tryd.prog 140 #[.agg #[.int .i64 k, .int .i64 n, .slice ad m c]] w fun r w' => r = .returned (.func (.func 154) #[] #[.pointer (some ⟨w.heap.size, 0, none⟩)]) ∧
    w' = w.alloc (.cells #[.int .i64 k, .int .i64 n, .slice ad m c] 119) := by
  go_enter Tryd.func140, Tryd.ntmps140
  go_wp2
  go_ret
  exact ⟨rfl, rfl⟩

theorem cond_any (ck ak an bk bn : Int) (aad bad : Option Addr) (am ac bm bc : Nat) (w : World) : Calls Tryd.prog 141 #[.agg #[.int .i64 ck, .int .i64 ak, .int .i64 an, .slice aad am ac, .int .i64 bk, .int .i64 bn, .slice bad bm bc]] w fun r w' =>
    r = .returned (.func (.func 156) #[] #[.pointer (some ⟨w.heap.size, 0, none⟩)]) ∧ w' = w.alloc (.cells #[.int .i64 ck, .int .i64 ak, .int .i64 an, .slice aad am ac, .int .i64 bk, .int .i64 bn, .slice bad bm bc] 121) := by
  go_enter Tryd.func141, Tryd.ntmps141
  go_wp2
  go_ret
  exact ⟨rfl, rfl⟩
end Go.Proofs.YtgemadoieielcacDoor.B
