import Derived.Test.YtfffpemgfddehaaDoorTree
import Derived.Test.YtfffpemgfddehaaDoorSame
namespace Go.Proofs.YtfffpemgfddehaaDoor
open Go.ChangeShapes Go.WideShapes Go.ChangeAt Go.RowKit

/- An expression's value in a world, each row of operands in a block of which p holds. -/
mutual
def Ex.InP (p : Nat → Prop) (w : World) : Ex → Value → Prop
  | .mk k n a, v => ∃ ad c, v = .agg #[.int .i64 k, .int .i64 n, .slice ad a.length c] ∧ (a = [] ∨ ∃ b o, ad = some ⟨b, o, none⟩ ∧ p b ∧ Ex.RowP p w a b o)
def Ex.RowP (p : Nat → Prop) (w : World) : List Ex → Nat → Nat → Prop
  | [], _, _ => True
  | e :: r, b, o => (∃ x0 x1 x2, w.cell? ⟨b, o, none⟩ = some x0 ∧ w.cell? ⟨b, o + 1, none⟩ = some x1 ∧ w.cell? ⟨b, o + 2, none⟩ = some x2 ∧ Ex.InP p w e (.agg #[x0, x1, x2])) ∧ Ex.RowP p w r b (o + 3)
end

mutual
theorem Ex.InP.plain {p : Nat → Prop} {w : World} : ∀ (e : Ex) {v : Value}, e.InP p w v → e.In w v
  | .mk k n a, v, h => by
    unfold Ex.InP at h
    unfold Ex.In
    obtain ⟨ad, c, hv, h⟩ := h
    refine ⟨ad, c, hv, ?_⟩
    rcases h with h | ⟨b, o, h1, _, h2⟩
    · exact .inl h
    · exact .inr ⟨b, o, h1, Ex.RowP.plain a h2⟩
theorem Ex.RowP.plain {p : Nat → Prop} {w : World} : ∀ (a : List Ex) {b o : Nat}, Ex.RowP p w a b o → Ex.Row w a b o
  | [], _, _, _ => by unfold Ex.Row; trivial
  | e :: r, b, o, h => by
    unfold Ex.RowP at h
    unfold Ex.Row
    obtain ⟨⟨x0, x1, x2, h0, h1, h2, h3⟩, h4⟩ := h
    exact ⟨⟨x0, x1, x2, h0, h1, h2, Ex.InP.plain e h3⟩, Ex.RowP.plain r h4⟩
end

/-- What was said of w with p is said of w' with q. -/
def Moves (p q : Nat → Prop) (w w' : World) : Prop := ∀ b, p b → b < w.heap.size → q b ∧ w'.heap[b]? = w.heap[b]?

theorem Moves.cell {p q : Nat → Prop} {w w' : World} (h : Moves p q w w') {b o : Nat} {v : Value} (hp : p b) (hc : w.cell? ⟨b, o, none⟩ = some v) : w'.cell? ⟨b, o, none⟩ = some v :=
  (World.cell?_of_block (h b hp (World.block_lt_of_cell? _ _ hc)).2).trans hc

mutual
theorem Ex.InP.move {p q : Nat → Prop} {w w' : World} (hm : Moves p q w w') : ∀ (e : Ex) {v : Value}, e.InP p w v → e.InP q w' v
  | .mk k n a, v, h => by
    unfold Ex.InP at h ⊢
    obtain ⟨ad, c, hv, h⟩ := h
    refine ⟨ad, c, hv, ?_⟩
    rcases h with h | ⟨b, o, h1, hp, h2⟩
    · exact .inl h
    · cases a with
      | nil => exact .inl rfl
      | cons x r =>
        have hc : b < w.heap.size := by
          unfold Ex.RowP at h2
          obtain ⟨⟨x0, x1, x2, h0, _⟩, _⟩ := h2
          exact World.block_lt_of_cell? _ _ h0
        exact .inr ⟨b, o, h1, (hm b hp hc).1, Ex.RowP.move hm _ hp h2⟩
theorem Ex.RowP.move {p q : Nat → Prop} {w w' : World} (hm : Moves p q w w') : ∀ (a : List Ex) {b o : Nat}, p b → Ex.RowP p w a b o → Ex.RowP q w' a b o
  | [], _, _, _, _ => by unfold Ex.RowP; trivial
  | e :: r, b, o, hp, h => by
    unfold Ex.RowP at h ⊢
    obtain ⟨⟨x0, x1, x2, h0, h1, h2, h3⟩, h4⟩ := h
    exact ⟨⟨x0, x1, x2, hm.cell hp h0, hm.cell hp h1, hm.cell hp h2, Ex.InP.move hm e h3⟩, Ex.RowP.move hm r hp h4⟩
end

/-- Expressions as the cells of a row. -/
def Ex.Cells (p : Nat → Prop) (w : World) : List Ex → List Value → Prop
  | [], xs => xs = []
  | e :: r, xs => ∃ x0 x1 x2 ys, xs = x0 :: x1 :: x2 :: ys ∧ e.InP p w (.agg #[x0, x1, x2]) ∧ Ex.Cells p w r ys

theorem Ex.Cells.move {p q : Nat → Prop} {w w' : World} (hm : Moves p q w w') : ∀ (a : List Ex) {xs : List Value}, Ex.Cells p w a xs → Ex.Cells q w' a xs
  | [], _, h => h
  | e :: r, xs, h => by
    obtain ⟨x0, x1, x2, ys, hx, h1, h2⟩ := h
    exact ⟨x0, x1, x2, ys, hx, h1.move hm, Ex.Cells.move hm r h2⟩

theorem Ex.Cells.snoc {p : Nat → Prop} {w : World} {e : Ex} {y0 y1 y2 : Value} (he : e.InP p w (.agg #[y0, y1, y2])) : ∀ (a : List Ex) {xs : List Value}, Ex.Cells p w a xs → Ex.Cells p w (a ++ [e]) (xs ++ [y0, y1, y2])
  | [], xs, h => by
    unfold Ex.Cells at h
    subst h
    exact ⟨y0, y1, y2, [], rfl, he, rfl⟩
  | x :: r, xs, h => by
    obtain ⟨x0, x1, x2, ys, hx, h1, h2⟩ := h
    subst hx
    exact ⟨x0, x1, x2, ys ++ [y0, y1, y2], rfl, h1, Ex.Cells.snoc he r h2⟩

theorem Ex.Cells.row {p : Nat → Prop} {w : World} {g : Nat} : ∀ (a : List Ex) {xs : List Value} {o : Nat}, Ex.Cells p w a xs → (∀ j u, xs[j]? = some u → w.cell? ⟨g, o + j, none⟩ = some u) → Ex.RowP p w a g o
  | [], _, _, _, _ => by unfold Ex.RowP; trivial
  | e :: r, xs, o, h, hc => by
    obtain ⟨x0, x1, x2, ys, hx, h1, h2⟩ := h
    subst hx
    unfold Ex.RowP
    refine ⟨⟨x0, x1, x2, by simpa using hc 0 x0 rfl, hc 1 x1 rfl, hc 2 x2 rfl, h1⟩, Ex.Cells.row r h2 fun j u hj => ?_⟩
    have := hc (j + 3) u (by simpa using hj)
    rwa [show o + (j + 3) = o + 3 + j by omega] at this

theorem Ex.InP.shape {p : Nat → Prop} {w : World} {e : Ex} {v : Value} (h : e.InP p w v) : ∃ k n ad m c, v = .agg #[.int .i64 k, .int .i64 n, .slice ad m c] := by
  obtain ⟨k, n, a⟩ := e
  unfold Ex.InP at h
  obtain ⟨ad, c, hv, -⟩ := h
  exact ⟨_, _, _, _, _, hv⟩

/-- Not the block of this slice, and not below B. -/
def offOf (B : Nat) (v : Value) (b : Nat) : Prop := B ≤ b ∧ v.ownBlock ≠ some b

/-- An append to a slice of one's own: in its block, or in a new one. -/
theorem append_mine {P : Program} (w : World) {ops : Array Oper} {rest : List Oper} {o : Oper} {a : Act} {Q : Exit → Act → World → Prop}
    (hg : o.guard = none) (s x : Operand) (t : TypeId) (hop : o.op = Op.call { callee := Callee.builtin Builtin.append, args := #[s, x], argTypes := #[t, t] })
    (base : Nat) (e : TypeId) (i : TypeInfo) (z : Value) (size bytes : Nat) (h1 : P.underlying t = some (.slice e)) (h2 : P.info? e = some i) (h3 : i.zero = some z) (h4 : i.size = size) (h5 : i.bytes = bytes) (h6 : z.cells.size = size) (h7 : 0 < size)
    (v : Value) (n : Nat) (xs : List Value) (hs : a.eval s = v) (hown : w.ownsRow base e size v n xs)
    (ad : Addr) (m c : Nat) (news : List Value) (hx : a.eval x = .slice (some ad) m c) (hn : news.length = m * size) (hc : ∀ j u, news[j]? = some u → w.cell? (ad.add j) = some u) (h1c : ∀ u ∈ news, u.oneCell' = true)
    (hm : 0 < m) (b1 : n + m ≤ maxLen) (b2 : (n + m) * bytes ≤ 140737488355328) (hbase : base ≤ w.heap.size)
    (hK : ∀ v' w', w'.ownsRow base e size v' (n + m) (xs ++ news) → w.grownBy w' v.ownBlock → (v'.ownBlock = v.ownBlock ∨ ∀ k, v'.ownBlock = some k → w.heap.size ≤ k) → wpList P ops Q rest (a.put o.dst v') w') :
    wpList P ops Q (o :: rest) a w := by
  have up : ∀ v' w', w'.ownsRow w.heap.size e size v' (n + m) (xs ++ news) → w.grownBy w' none → wpList P ops Q rest (a.put o.dst v') w' := by
    intro v' w' ho hgr
    refine hK v' w' ?_ ⟨hgr.os, hgr.tape, hgr.output, hgr.size, fun k hk _ => hgr.block k hk (by simp)⟩ (.inr fun k hk => (ho.lt k hk).1)
    obtain ⟨q1, q2⟩ := ho
    refine ⟨q1, ?_⟩
    rcases q2 with q2 | ⟨g, cap, cur, hv, hb, r⟩
    · exact .inl q2
    · exact .inr ⟨g, cap, cur, hv, Nat.le_trans hbase hb, r⟩
  have hown' := hown
  obtain ⟨hl, ho⟩ := hown
  rcases ho with ⟨rfl, rfl⟩ | ⟨g, cap, cur, rfl, hb, hgg, hcap, hcm, hcs, htk⟩
  · have hxs : xs = [] := List.eq_nil_of_length_eq_zero (by simpa using hl)
    subst hxs
    exact wpList_append_grows w hg s x t hop e i z size bytes h1 h2 h3 h4 h5 h6 h7 none 0 0 [] hs (fun _ => ⟨rfl, rfl⟩) (by simp) (fun b hb => by cases hb) ad m c news hx hn hc h1c (by omega) b1 b2 up
  · by_cases hr : n + m ≤ cap
    · exact wpList_append_fits w hg s x t hop base e i size h1 h2 h4 g n cap xs hs hown' ad m c news hx hn hc h1c hr fun w' q1 q2 => hK _ w' q1 q2 (.inl rfl)
    · exact wpList_append_grows w hg s x t hop e i z size bytes h1 h2 h3 h4 h5 h6 h7 (some ⟨g, 0, none⟩) n cap xs hs (fun h => by cases h) hl (fun b hb' => by cases hb'; exact hown'.cells rfl) ad m c news hx hn hc h1c (by omega) b1 b2 up

/-- What lies off the slice's own block, behind such an append. -/
theorem moves_append {B : Nat} {v v' : Value} {w w' : World} (hg : w.grownBy w' v.ownBlock) (hv : v'.ownBlock = v.ownBlock ∨ ∀ k, v'.ownBlock = some k → w.heap.size ≤ k) : Moves (offOf B v) (offOf B v') w w' := by
  intro b hp hb
  refine ⟨⟨hp.1, ?_⟩, hg.block b hb (fun h => hp.2 h.symm)⟩
  rcases hv with hv | hv
  · rw [hv]; exact hp.2
  · intro h; have := hv b h; omega
end Go.Proofs.YtfffpemgfddehaaDoor
namespace Go.Proofs.YtfffpemgfddehaaDoor
open Go.ChangeShapes Go.WideShapes Go.ChangeAt Go.RowKit

theorem info30 : (Tryd.prog.info? 30).map (fun i => (i.zero, i.size, i.bytes)) = some (some (.agg #[.int .i64 0, .int .i64 0, .slice none 0 0]), 3, 40) := by kernel_rfl

theorem below_block {B : Nat} {w w' : World} (h : Below B w w') {b : Nat} (hb : b < B) : w'.heap[b]? = w.heap[b]? := h.block b hb

/-- The limbs behind one element more. -/
theorem twinE_step {W2 wr w2 w3 : World} {a : List Ex} {j : Nat} {out v' y0 y1 y2 : Value} {xs : List Value} {o : Obj} (hlt : j < a.length)
    (hcs : Ex.Cells (offOf W2.heap.size out) wr (a.take j) xs) (hown : wr.ownsRow W2.heap.size 30 3 out j xs) (hB : Below W2.heap.size W2 wr) (hb' : Below wr.heap.size wr w2)
    (he : (a[j]).InP (fun b => wr.heap.size ≤ b) w2 (.agg #[y0, y1, y2]))
    (hg : (w2.alloc o).grownBy w3 out.ownBlock) (hv : v'.ownBlock = out.ownBlock ∨ ∀ k, v'.ownBlock = some k → (w2.alloc o).heap.size ≤ k) :
    Ex.Cells (offOf W2.heap.size v') w3 (a.take (j + 1)) (xs ++ [y0, y1, y2]) ∧ Below W2.heap.size W2 w3 := by
  have s1 := hB.size
  have s2 := hb'.size
  have lt : ∀ k, out.ownBlock = some k → W2.heap.size ≤ k ∧ k < wr.heap.size := hown.lt
  refine ⟨?_, ?_⟩
  · rw [List.take_succ_eq_append_getElem hlt]
    refine Ex.Cells.snoc ?_ _ ?_
    · refine Ex.InP.move ?_ _ he
      intro b hb hlt2
      have hq : offOf W2.heap.size out b := ⟨by omega, fun h => by have := (lt b h).2; omega⟩
      have hm := moves_append (B := W2.heap.size) hg hv b hq (by simp; omega)
      exact ⟨hm.1, hm.2.trans (Below.heap_alloc _ _ _ hlt2)⟩
    · refine Ex.Cells.move ?_ _ hcs
      intro b hb hlt2
      have hm := moves_append (B := W2.heap.size) hg hv b hb (by simp; omega)
      exact ⟨hm.1, hm.2.trans ((Below.heap_alloc _ _ _ (by omega)).trans (hb'.block b hlt2))⟩
  · refine (hB.trans (hb'.mono s1)).trans ?_
    refine (Below.refl _ _).alloc (by omega) o |>.grown hg (by simp; omega) fun k hk => (lt k hk).1

theorem getCell {w : World} {v : Value} {base n : Nat} {xs : List Value} {e : TypeId} {size : Nat} (h : w.ownsRow base e size v n xs) (hn : 0 < n) : ∃ g cap, v = .slice (some ⟨g, 0, none⟩) n cap ∧ base ≤ g ∧ ∀ j u, xs[j]? = some u → w.cell? ⟨g, 0 + j, none⟩ = some u := by
  have h' := h
  rcases h.2 with ⟨rfl, rfl⟩ | ⟨g, cap, cur, rfl, hb, _⟩
  · omega
  · exact ⟨g, cap, rfl, hb, fun j u hj => by have := h'.cells (g := g) rfl j u hj; rw [show (0 + j) = j by omega]; unfold Addr.add at this; by_cases h0 : j = 0 <;> simp_all⟩

/-- The slice that was made, as an expression's operands. -/
theorem twinE_end {w3 : World} {B : Nat} {a : List Ex} {k n : Int} {out : Value} {xs : List Value} (hcs : Ex.Cells (offOf B out) w3 a xs) (hown : w3.ownsRow B 30 3 out a.length xs) :
    ∃ ad c, out = .slice ad a.length c ∧ (Ex.mk k n a).InP (fun b => B ≤ b) w3 (.agg #[.int .i64 k, .int .i64 n, .slice ad a.length c]) := by
  by_cases h0 : a = []
  · subst h0
    rcases hown.2 with ⟨rfl, _⟩ | ⟨g, cap, cur, rfl, _⟩
    · exact ⟨none, 0, rfl, by unfold Ex.InP; exact ⟨_, _, rfl, .inl rfl⟩⟩
    · exact ⟨_, _, rfl, by unfold Ex.InP; exact ⟨_, _, rfl, .inl rfl⟩⟩
  · obtain ⟨g, cap, rfl, hb, hc⟩ := getCell hown (List.length_pos_iff.2 h0)
    refine ⟨_, _, rfl, ?_⟩
    unfold Ex.InP
    refine ⟨_, _, rfl, .inr ⟨g, 0, rfl, hb, ?_⟩⟩
    exact Ex.Cells.row a (Ex.Cells.move (fun b hb _ => ⟨hb.1, rfl⟩) _ hcs) hc

theorem ownsRow_below {w w' : World} {base n size : Nat} {e : TypeId} {v : Value} {xs : List Value} (h : w.ownsRow base e size v n xs) (hb : Below w.heap.size w w') : w'.ownsRow base e size v n xs := by
  refine h.kept (row := none) ⟨hb.os, hb.tape, hb.output, hb.size, fun k hk _ => hb.block k hk⟩ ?_
  cases v.ownBlock <;> simp

theorem InP_weaken {w : World} {e : Ex} {v : Value} {B C : Nat} (h : e.InP (fun b => B ≤ b) w v) (hC : C ≤ B) : e.InP (fun b => C ≤ b) w v :=
  Ex.InP.move (fun _ hb _ => ⟨Nat.le_trans hC hb, rfl⟩) _ h

theorem fresh_cells (w : World) (l : List Value) (t : TypeId) : ∀ j u, l[j]? = some u → (w.alloc (.cells l.toArray t)).cell? ((⟨w.heap.size, 0, none⟩ : Addr).add j) = some u := by
  intro j u hj
  have e : (⟨w.heap.size, 0, none⟩ : Addr).add j = ⟨w.heap.size, j, none⟩ := by unfold Addr.add; by_cases h0 : j = 0 <;> simp [h0]
  rw [e, World.cell?_alloc_at _ _ _ _ rfl]
  simpa using hj

set_option maxHeartbeats 2000000 in
theorem twinExpr_any (N : Nat) : ∀ (e : Ex) (w : World) (v : Value), e.nodes < N → N ≤ 1048577 → e.In w v →
    Calls Tryd.prog 18 #[v] w fun r w' => ∃ v', r = .returned v' ∧ e.InP (fun b => w.heap.size ≤ b) w' v' ∧ Below w.heap.size w w' := by
  induction N with
  | zero => intro e w v h; omega
  | succ N ih =>
    intro e w v hN hle hin
    obtain ⟨k, n, a⟩ := e
    unfold Ex.nodes at hN
    have hlen := length_le_nodesAll a
    unfold Ex.In at hin
    obtain ⟨ad, c, rfl, hrow⟩ := hin
    have HR : Hid (a = [] ∨ ∃ b o, ad = some ⟨b, o, none⟩ ∧ Ex.Row w a b o) := hrow
    clear hrow
    have IH : Hid _ := ih
    clear ih
    obtain ⟨i0, hi, hz0, hz1, hz2⟩ := info_parts info30
    go_enter Tryd.func18, Tryd.ntmps18
    go_wp2_with fail
    have hC : ∃ W2, W2 = (w.alloc (.cells #[.int .i64 k, .int .i64 n, .slice ad a.length c] 30)).alloc (.cells #[.int .i64 0, .int .i64 0, .slice none 0 0] 30) := ⟨_, rfl⟩
    obtain ⟨W2, hW⟩ := hC
    have hsz : W2.heap.size = w.heap.size + 2 := by rw [hW]; simp
    have hB0 : Below w.heap.size w W2 := by rw [hW]; exact ((Below.refl _ _).alloc (Nat.le_refl _) _).alloc (by simp) _
    have e0 : W2.cell? ⟨w.heap.size, 0, none⟩ = some (.int .i64 k) := by rw [hW, World.cell?_alloc_past _ _ _ (by simp), World.cell?_alloc_at _ _ _ _ rfl]; rfl
    have e1 : W2.cell? ⟨w.heap.size, 1, none⟩ = some (.int .i64 n) := by rw [hW, World.cell?_alloc_past _ _ _ (by simp), World.cell?_alloc_at _ _ _ _ rfl]; rfl
    have e2 : W2.cell? ⟨w.heap.size, 2, none⟩ = some (.slice ad a.length c) := by rw [hW, World.cell?_alloc_past _ _ _ (by simp), World.cell?_alloc_at _ _ _ _ rfl]; rfl
    have r0 : W2.cell? ⟨w.heap.size + 1, 0, none⟩ = some (.int .i64 0) := by rw [hW, World.cell?_alloc_at _ _ _ _ (by simp)]; rfl
    have r1 : W2.cell? ⟨w.heap.size + 1, 1, none⟩ = some (.int .i64 0) := by rw [hW, World.cell?_alloc_at _ _ _ _ (by simp)]; rfl
    have r2 : W2.cell? ⟨w.heap.size + 1, 2, none⟩ = some (.slice none 0 0) := by rw [hW, World.cell?_alloc_at _ _ _ _ (by simp)]; rfl
    have f0 : ∀ j, W2.frozen? ⟨w.heap.size, j, none⟩ = false := by intro j; rw [hW]; simp [go_sem]
    have f1 : ∀ j, W2.frozen? ⟨w.heap.size + 1, j, none⟩ = false := by intro j; rw [hW]; simp [go_sem]
    rw [← hW]
    clear hW
    go_loopw [3, 5, 9] (fun x _ i wr => ∃ (j : Nat) (xs : List Value), j ≤ a.length ∧ i = .int .i64 j ∧ Ex.Cells (offOf W2.heap.size x) wr (a.take j) xs ∧ wr.ownsRow W2.heap.size 30 3 x j xs ∧ Below W2.heap.size W2 wr) (fun _ _ i _ => a.length - (intOf i).toNat)
    case atStart => exact ⟨0, [], Nat.zero_le _, rfl, rfl, World.ownsRow_nil _ _ _ _, Below.refl _ _⟩
    case round =>
      obtain ⟨j, xs, hj, rfl, hcs, hown, hb⟩ := hrel
      by_cases hlt : j < a.length
      · rcases HR.out with h | ⟨b, o, had, hrow⟩
        · subst h; simp at hlt
        subst had
        have hb2 := below_seq hB0 hb
        obtain ⟨xk, xn, xad, xm, xc, c0, c1, c2, hin⟩ := (Ex.Row.below hb2 a hrow).shape hlt
        have hnd := nodesAll_at a j a[j] (by simp [hlt])
        have HI : Hid (_ ∧ _ ∧ _ ∧ _) := ⟨hin, hcs, hown, hb⟩
        clear hin hcs hown hb hrow hb2 e0 e1 e2 r0 r1 r2 f0 f1 hB0
        go_wp2_with (first
          | (go_at_call 18; refine (IH.out a[j] _ _ (by omega) (by omega) ?hx).mono ?_; rotate_left 1; rintro e w2 ⟨v2, rfl, hin2, hb'⟩; obtain ⟨yk, yn, yad, ym, yc, rfl⟩ := hin2.shape; have HI2 : Hid (_ ∧ _) := ⟨hin2, hb'⟩; clear hin2 hb')
          | (at_builtin; refine append_mine _ rfl (.tmp 13) (.tmp 16) 28 rfl W2.heap.size 30 i0 _ 3 40 Tryd.underlying28 hi hz0 hz1 hz2 rfl (by decide) _ j xs rfl (ownsRow_below HI.out.2.2.1 (below_seq (below_seq ((Below.refl _ _).alloc (Nat.le_refl _) _) HI2.out.2) ((Below.refl _ _).alloc (Nat.le_refl _) _))) ⟨w2.heap.size, 0, none⟩ 1 1 [.int .i64 yk, .int .i64 yn, .slice yad ym yc] rfl rfl ?qc ?q1 (by decide) ?q3 ?q4 ?q5 ?_; rotate_left 5; intro v3 w3 hown3 hg3 hv3; have HI3 : Hid (_ ∧ _ ∧ _) := ⟨hown3, hg3, hv3⟩; clear hown3 hg3 hv3))
        case hx => exact Ex.In.below ((Below.refl _ _).alloc (Nat.le_refl _) _) _ HI.out.1
        case qc => exact fresh_cells w2 _ 30
        case q1 => intro u hu; simp at hu; rcases hu with rfl | rfl | rfl <;> rfl
        case q3 => unfold maxLen; omega
        case q4 => omega
        case q5 => have := HI.out.2.2.2.size; have := HI2.out.2.size; simp at this; simp; omega
        have R := twinE_step hlt HI.out.2.1 HI.out.2.2.1 HI.out.2.2.2 (below_seq ((Below.refl _ _).alloc (Nat.le_refl _) _) HI2.out.2) (InP_weaken HI2.out.1 (by simp)) HI3.out.2.1 HI3.out.2.2
        go_roundw
        case rel => exact ⟨j + 1, _, by omega, by go_num, R.1, HI3.out.1, R.2⟩
        case measure => simp [intOf]; omega
      · have hje : j = a.length := by omega
        subst hje
        rw [List.take_length] at hcs
        obtain ⟨oad, oc, rfl, hend⟩ := twinE_end (k := k) (n := n) hcs hown
        have g0 := below_cell hb e0
        have g1 := below_cell hb e1
        have g2 := below_cell hb e2
        have s0 := below_cell hb r0
        have s1 := below_cell hb r1
        have s2 := below_cell hb r2
        have t0 : ∀ j, wr.frozen? ⟨w.heap.size, j, none⟩ = false := fun j => (hb.frozen (p := ⟨w.heap.size, j, none⟩) (by simp; omega)).trans (f0 j)
        have t1 : ∀ j, wr.frozen? ⟨w.heap.size + 1, j, none⟩ = false := fun j => (hb.frozen (p := ⟨w.heap.size + 1, j, none⟩) (by simp; omega)).trans (f1 j)
        have HE : Hid (_ ∧ _ ∧ _) := ⟨hend, hb, hB0⟩
        clear hcs hown hend hb hB0 e0 e1 e2 r0 r1 r2 f0 f1
        go_wp2_with fail
        refine bodyPost_ret (v := .agg #[.int .i64 k, .int .i64 n, .slice oad a.length oc]) (by simp [results, Tryd.results18, go_sem, s0, s1, s2]) rfl ⟨_, rfl, ?_, ?_⟩
        · refine Ex.InP.move ?_ _ HE.out.1
          intro b hb _
          refine ⟨by omega, ?_⟩
          rw [Below.heap_setCell _ _ _ _ (by simp; omega), Below.heap_setCell _ _ _ _ (by simp; omega), Below.heap_setCell _ _ _ _ (by simp; omega), Below.heap_setCell _ _ _ _ (by simp; omega)]
        · exact ((((below_seq HE.out.2.2 HE.out.2.1).setCell (by simp) _).setCell (by simp) _).setCell (by simp) _).setCell (by simp) _
end Go.Proofs.YtfffpemgfddehaaDoor
namespace Go.Proofs.YtfffpemgfddehaaDoor
open Go.ChangeShapes Go.WideShapes Go.ChangeAt Go.RowKit

/-- A row of statements that nobody has frozen. -/
def rowBlk (w : World) (g : Nat) : Prop := ∃ cur, w.heap[g]? = some (.cells cur 34 (0, 0))

/- Statements whose rows lie each at the head of a block of its own: the blocks are told in order; of each p holds, and of those of the expressions. -/
mutual
def St.InQ (p : Nat → Prop) (w : World) : St → Value → List Nat → Prop
  | .mk k n e ck ca cb b l, v, bl => ∃ e0 e1 e2 a0 a1 a2 b0 b1 b2 sb sl, v = .agg #[.int .i64 k, .int .i64 n, e0, e1, e2, .int .i64 ck, a0, a1, a2, b0, b1, b2, sb, sl] ∧
      e.InP p w (.agg #[e0, e1, e2]) ∧ ca.InP p w (.agg #[a0, a1, a2]) ∧ cb.InP p w (.agg #[b0, b1, b2]) ∧
      ∃ q1 q2, bl = q1 ++ q2 ∧
      (∃ ad c, sb = .slice ad b.length c ∧ ((b = [] ∧ q1 = []) ∨ b ≠ [] ∧ ∃ g q, ad = some ⟨g, 0, none⟩ ∧ (p g ∧ rowBlk w g) ∧ q1 = g :: q ∧ St.RowQ p w b g 0 q)) ∧
      (∃ ad c, sl = .slice ad l.length c ∧ ((l = [] ∧ q2 = []) ∨ l ≠ [] ∧ ∃ g q, ad = some ⟨g, 0, none⟩ ∧ (p g ∧ rowBlk w g) ∧ q2 = g :: q ∧ St.RowQ p w l g 0 q))
def St.RowQ (p : Nat → Prop) (w : World) : List St → Nat → Nat → List Nat → Prop
  | [], _, _, bl => bl = []
  | s :: r, g, o, bl => ∃ q1 q2, bl = q1 ++ q2 ∧ (∃ x : Nat → Value, (∀ j, j < 14 → w.cell? ⟨g, o + j, none⟩ = some (x j)) ∧ St.InQ p w s (stVal x) q1) ∧ St.RowQ p w r g (o + 14) q2
end

def St.SlQ (p : Nat → Prop) (w : World) (b : List St) (v : Value) (bl : List Nat) : Prop :=
  ∃ ad c, v = .slice ad b.length c ∧ ((b = [] ∧ bl = []) ∨ b ≠ [] ∧ ∃ g q, ad = some ⟨g, 0, none⟩ ∧ (p g ∧ rowBlk w g) ∧ bl = g :: q ∧ St.RowQ p w b g 0 q)

mutual
theorem St.InQ.plain {p : Nat → Prop} {w : World} : ∀ (s : St) {v : Value} {bl : List Nat}, s.InQ p w v bl → s.In w v
  | .mk k n e ck ca cb b l, v, bl, h => by
    unfold St.InQ at h
    unfold St.In
    obtain ⟨e0, e1, e2, a0, a1, a2, b0, b1, b2, sb, sl, hv, h1, h2, h3, q1, q2, hq, ⟨ad, c, h4, h5⟩, ⟨ad', c', h6, h7⟩⟩ := h
    refine ⟨e0, e1, e2, a0, a1, a2, b0, b1, b2, sb, sl, hv, h1.plain, h2.plain, h3.plain, ⟨ad, c, h4, ?_⟩, ⟨ad', c', h6, ?_⟩⟩
    · rcases h5 with ⟨h, _⟩ | ⟨_, g, q, h1, _, _, h2⟩
      · exact .inl h
      · exact .inr ⟨g, 0, h1, St.RowQ.plain b h2⟩
    · rcases h7 with ⟨h, _⟩ | ⟨_, g, q, h1, _, _, h2⟩
      · exact .inl h
      · exact .inr ⟨g, 0, h1, St.RowQ.plain l h2⟩
theorem St.RowQ.plain {p : Nat → Prop} {w : World} : ∀ (a : List St) {g o : Nat} {bl : List Nat}, St.RowQ p w a g o bl → St.Row w a g o
  | [], _, _, _, _ => by unfold St.Row; trivial
  | e :: r, g, o, bl, h => by
    unfold St.RowQ at h
    unfold St.Row
    obtain ⟨q1, q2, hq, ⟨x, h0, h3⟩, h4⟩ := h
    exact ⟨⟨x, h0, St.InQ.plain e h3⟩, St.RowQ.plain r h4⟩
end

theorem St.SlQ.plain {p : Nat → Prop} {w : World} {b : List St} {v : Value} {bl : List Nat} (h : St.SlQ p w b v bl) : St.Sl w b v := by
  obtain ⟨ad, c, hv, h⟩ := h
  refine ⟨ad, c, hv, ?_⟩
  rcases h with ⟨h, _⟩ | ⟨_, g, q, h1, _, _, h2⟩
  · exact .inl h
  · exact .inr ⟨g, 0, h1, h2.plain⟩

theorem St.RowQ.lt {p : Nat → Prop} {w : World} {a : List St} {g o : Nat} {bl : List Nat} (h0 : a ≠ []) (h : St.RowQ p w a g o bl) : g < w.heap.size := by
  cases a with
  | nil => exact absurd rfl h0
  | cons x r =>
    unfold St.RowQ at h
    obtain ⟨q1, q2, hq, ⟨x, hx, _⟩, _⟩ := h
    exact World.block_lt_of_cell? _ _ (hx 0 (by omega))

theorem Moves.blk {p q : Nat → Prop} {w w' : World} (h : Moves p q w w') {g : Nat} (hp : p g) (hb : rowBlk w g) : rowBlk w' g := by
  obtain ⟨cur, hc⟩ := hb
  exact ⟨cur, (h g hp (Array.getElem?_eq_some_iff.1 hc).1).2.trans hc⟩

mutual
theorem St.InQ.move {p q : Nat → Prop} {w w' : World} (hm : Moves p q w w') : ∀ (s : St) {v : Value} {bl : List Nat}, s.InQ p w v bl → s.InQ q w' v bl
  | .mk k n e ck ca cb b l, v, bl, h => by
    unfold St.InQ at h ⊢
    obtain ⟨e0, e1, e2, a0, a1, a2, b0, b1, b2, sb, sl, hv, h1, h2, h3, q1, q2, hq, ⟨ad, c, h4, h5⟩, ⟨ad', c', h6, h7⟩⟩ := h
    refine ⟨e0, e1, e2, a0, a1, a2, b0, b1, b2, sb, sl, hv, h1.move hm, h2.move hm, h3.move hm, q1, q2, hq, ⟨ad, c, h4, ?_⟩, ⟨ad', c', h6, ?_⟩⟩
    · rcases h5 with h | ⟨hne, g, q, h1, hp, hq, h2⟩
      · exact .inl h
      · exact .inr ⟨hne, g, q, h1, ⟨(hm g hp.1 (h2.lt hne)).1, hm.blk hp.1 hp.2⟩, hq, St.RowQ.move hm b hp.1 h2⟩
    · rcases h7 with h | ⟨hne, g, q, h1, hp, hq, h2⟩
      · exact .inl h
      · exact .inr ⟨hne, g, q, h1, ⟨(hm g hp.1 (h2.lt hne)).1, hm.blk hp.1 hp.2⟩, hq, St.RowQ.move hm l hp.1 h2⟩
theorem St.RowQ.move {p q : Nat → Prop} {w w' : World} (hm : Moves p q w w') : ∀ (a : List St) {g o : Nat} {bl : List Nat}, p g → St.RowQ p w a g o bl → St.RowQ q w' a g o bl
  | [], _, _, _, _, h => by unfold St.RowQ at h ⊢; exact h
  | e :: r, g, o, bl, hp, h => by
    unfold St.RowQ at h ⊢
    obtain ⟨q1, q2, hq, ⟨x, h0, h3⟩, h4⟩ := h
    exact ⟨q1, q2, hq, ⟨x, fun j hj => hm.cell hp (h0 j hj), St.InQ.move hm e h3⟩, St.RowQ.move hm r hp h4⟩
end

theorem St.SlQ.move {p q : Nat → Prop} {w w' : World} (hm : Moves p q w w') {b : List St} {v : Value} {bl : List Nat} (h : St.SlQ p w b v bl) : St.SlQ q w' b v bl := by
  obtain ⟨ad, c, hv, h⟩ := h
  refine ⟨ad, c, hv, ?_⟩
  rcases h with h | ⟨hne, g, q, h1, hp, hq, h2⟩
  · exact .inl h
  · exact .inr ⟨hne, g, q, h1, ⟨(hm g hp.1 (h2.lt hne)).1, hm.blk hp.1 hp.2⟩, hq, h2.move hm _ hp.1⟩

mutual
theorem St.InQ.blocks {p : Nat → Prop} {w : World} : ∀ (s : St) {v : Value} {bl : List Nat}, s.InQ p w v bl → ∀ b ∈ bl, p b ∧ b < w.heap.size
  | .mk k n e ck ca cb b l, v, bl, h => by
    unfold St.InQ at h
    obtain ⟨e0, e1, e2, a0, a1, a2, b0, b1, b2, sb, sl, hv, h1, h2, h3, q1, q2, hq, ⟨ad, c, h4, h5⟩, ⟨ad', c', h6, h7⟩⟩ := h
    subst hq
    intro x hx
    rcases List.mem_append.1 hx with hx | hx
    · rcases h5 with ⟨_, h⟩ | ⟨hne, g, q, h1, hp, hq, h2⟩
      · subst h; simp at hx
      · subst hq
        rcases List.mem_cons.1 hx with hx | hx
        · subst hx; exact ⟨hp.1, h2.lt hne⟩
        · exact St.RowQ.blocks b h2 x hx
    · rcases h7 with ⟨_, h⟩ | ⟨hne, g, q, h1, hp, hq, h2⟩
      · subst h; simp at hx
      · subst hq
        rcases List.mem_cons.1 hx with hx | hx
        · subst hx; exact ⟨hp.1, h2.lt hne⟩
        · exact St.RowQ.blocks l h2 x hx
theorem St.RowQ.blocks {p : Nat → Prop} {w : World} : ∀ (a : List St) {g o : Nat} {bl : List Nat}, St.RowQ p w a g o bl → ∀ b ∈ bl, p b ∧ b < w.heap.size
  | [], _, _, _, h => by unfold St.RowQ at h; subst h; intro x hx; simp at hx
  | e :: r, g, o, bl, h => by
    unfold St.RowQ at h
    obtain ⟨q1, q2, hq, ⟨x, h0, h3⟩, h4⟩ := h
    subst hq
    intro x hx
    rcases List.mem_append.1 hx with hx | hx
    · exact St.InQ.blocks e h3 x hx
    · exact St.RowQ.blocks r h4 x hx
end

theorem St.SlQ.blocks {p : Nat → Prop} {w : World} {b : List St} {v : Value} {bl : List Nat} (h : St.SlQ p w b v bl) : ∀ x ∈ bl, p x ∧ x < w.heap.size := by
  obtain ⟨ad, c, hv, h⟩ := h
  rcases h with ⟨_, h⟩ | ⟨hne, g, q, h1, hp, hq, h2⟩
  · subst h; intro x hx; simp at hx
  · subst hq
    intro x hx
    rcases List.mem_cons.1 hx with hx | hx
    · subst hx; exact ⟨hp.1, h2.lt hne⟩
    · exact h2.blocks _ x hx

/-- Statements as the cells of a row. -/
def St.Cells (p : Nat → Prop) (w : World) : List St → List Value → List Nat → Prop
  | [], xs, bl => xs = [] ∧ bl = []
  | s :: r, xs, bl => ∃ x : Nat → Value, ∃ ys q1 q2, xs = [x 0, x 1, x 2, x 3, x 4, x 5, x 6, x 7, x 8, x 9, x 10, x 11, x 12, x 13] ++ ys ∧ bl = q1 ++ q2 ∧ s.InQ p w (stVal x) q1 ∧ St.Cells p w r ys q2

theorem St.Cells.move {p q : Nat → Prop} {w w' : World} (hm : Moves p q w w') : ∀ (a : List St) {xs : List Value} {bl : List Nat}, St.Cells p w a xs bl → St.Cells q w' a xs bl
  | [], _, _, h => h
  | e :: r, xs, bl, h => by
    obtain ⟨x, ys, q1, q2, hx, hq, h1, h2⟩ := h
    exact ⟨x, ys, q1, q2, hx, hq, h1.move hm, St.Cells.move hm r h2⟩

theorem St.Cells.blocks {p : Nat → Prop} {w : World} : ∀ (a : List St) {xs : List Value} {bl : List Nat}, St.Cells p w a xs bl → ∀ b ∈ bl, p b ∧ b < w.heap.size
  | [], _, _, h => by obtain ⟨_, h⟩ := h; subst h; intro b hb; simp at hb
  | e :: r, xs, bl, h => by
    obtain ⟨x, ys, q1, q2, hx, hq, h1, h2⟩ := h
    subst hq
    intro b hb
    rcases List.mem_append.1 hb with hb | hb
    · exact St.InQ.blocks e h1 b hb
    · exact St.Cells.blocks r h2 b hb

theorem St.Cells.snoc {p : Nat → Prop} {w : World} {e : St} {x : Nat → Value} {q : List Nat} (he : e.InQ p w (stVal x) q) : ∀ (a : List St) {xs : List Value} {bl : List Nat}, St.Cells p w a xs bl →
    St.Cells p w (a ++ [e]) (xs ++ [x 0, x 1, x 2, x 3, x 4, x 5, x 6, x 7, x 8, x 9, x 10, x 11, x 12, x 13]) (bl ++ q)
  | [], xs, bl, h => by
    obtain ⟨h1, h2⟩ := h
    subst h1 h2
    exact ⟨x, [], q, [], by simp, by simp, he, rfl, rfl⟩
  | y :: r, xs, bl, h => by
    obtain ⟨x', ys, q1, q2, hx, hq, h1, h2⟩ := h
    subst hx hq
    exact ⟨x', _, q1, q2 ++ q, by simp, by simp, h1, St.Cells.snoc he r h2⟩

theorem St.Cells.row {p : Nat → Prop} {w : World} {g : Nat} : ∀ (a : List St) {xs : List Value} {bl : List Nat} {o : Nat}, St.Cells p w a xs bl → (∀ j u, xs[j]? = some u → w.cell? ⟨g, o + j, none⟩ = some u) → St.RowQ p w a g o bl
  | [], _, _, _, h, _ => by unfold St.RowQ; exact h.2
  | e :: r, xs, bl, o, h, hc => by
    obtain ⟨x, ys, q1, q2, hx, hq, h1, h2⟩ := h
    subst hx hq
    unfold St.RowQ
    refine ⟨q1, q2, rfl, ⟨x, fun j hj => hc j _ ?_, h1⟩, St.Cells.row r h2 fun j u hj => ?_⟩
    · match j, hj with
      | 0, _ | 1, _ | 2, _ | 3, _ | 4, _ | 5, _ | 6, _ | 7, _ | 8, _ | 9, _ | 10, _ | 11, _ | 12, _ | 13, _ => rfl
    · have := hc (j + 14) u (by rw [List.getElem?_append_right (by simp)]; simpa using hj)
      rwa [show o + (j + 14) = o + 14 + j by omega] at this
end Go.Proofs.YtfffpemgfddehaaDoor
