import Derived.Test.YtcgncdpohaoejafDoorTM
import Derived.Test.YtcgncdpohaoejafDoorJL
import Derived.Test.YtcgncdpohaoejafDoorFX
import Derived.Maps.AppendAt
import Derived.Laws.AppendOwnNone
namespace Go.Proofs.YtcgncdpohaoejafDoor
open Go.ChangeShapes Go.WideShapes Go.ChangeAt Go.RowKit

/- The document's ranks. -/
def bhP (key : Ta → Int) (l : List Ta) (i k : Nat) : Bool := decide (key (Tk l i) < key (Tk l k) ∨ (key (Tk l k) = key (Tk l i) ∧ i < k))
def bhN (key : Ta → Int) (l : List Ta) (i k : Nat) : Nat := ((List.range k).filter (bhP key l i)).length
def rkOne (key : Ta → Int) (l : List Ta) (i : Nat) : Ta := { Tk l i with p := 1 + (bhN key l i l.length : Int) }
def rkL (key : Ta → Int) (l : List Ta) (i : Nat) : List Ta := (List.range i).map (rkOne key l) ++ l.drop i

theorem bhN_succ (key : Ta → Int) (l : List Ta) (i k : Nat) : bhN key l i (k + 1) = bhN key l i k + (if bhP key l i k = true then 1 else 0) := by
  unfold bhN
  rw [List.range_succ, List.filter_append, List.length_append]
  by_cases h : bhP key l i k = true
  · simp [h]
  · simp [h]

theorem bhN_le (key : Ta → Int) (l : List Ta) (i k : Nat) : bhN key l i k ≤ k := by
  unfold bhN
  have := List.length_filter_le (bhP key l i) (List.range k)
  simpa using this

theorem rkL_zero (key : Ta → Int) (l : List Ta) : rkL key l 0 = l := by simp [rkL]
theorem rkL_len (key : Ta → Int) (l : List Ta) (i : Nat) (h : i ≤ l.length) : (rkL key l i).length = l.length := by simp [rkL]; omega
theorem rkL_at (key : Ta → Int) (l : List Ta) (i : Nat) (h : i < l.length) : (rkL key l i)[i]? = some (Tk l i) := by
  unfold rkL
  rw [List.getElem?_append_right (by simp)]
  simp
  rw [Tk_get h]
theorem rkL_set (key : Ta → Int) (l : List Ta) (i : Nat) (h : i < l.length) : (rkL key l i).set i (rkOne key l i) = rkL key l (i + 1) := by
  unfold rkL
  obtain ⟨x, -, hd⟩ := drop_at h
  rw [List.set_append_right _ _ (by simp), List.range_succ, List.map_append, hd]
  simp

theorem r_setP : ∀ (l : List Ta) (k : Nat) (x : Ta) (p : Int), l[k]? = some x → (l.set k { x with p := p }).flatMap Ta.vals = (l.flatMap Ta.vals).set (k * 7 + 6) (.int .i64 p)
  | [], k, x, p, h => by simp at h
  | z :: r, 0, x, p, h => by
    simp at h
    subst h
    rfl
  | z :: r, k + 1, x, p, h => by
    rw [List.set_cons_succ, List.flatMap_cons, List.flatMap_cons, r_setP r k x p (by simpa using h), List.set_append_right _ _ (by rw [Ta.len]; omega), Ta.len, show (k + 1) * 7 + 6 - 7 = k * 7 + 6 by omega]

theorem r_put {W : World} {B n sz g cap q : Nat} {e : TypeId} {xs : List Value} {u : Value} (h : W.ownsRow B e sz (.slice (some ⟨g, 0, none⟩) n cap) n xs) : (W.setCell ⟨g, q, none⟩ u).ownsRow B e sz (.slice (some ⟨g, 0, none⟩) n cap) n (xs.set q u) := by
  obtain ⟨h1, ⟨h2, -⟩ | ⟨g', cap', cur, e1, hB, hg, hc, hm, hs, ht⟩⟩ := h
  · cases h2
  · cases e1
    refine ⟨by simp [h1], .inr ⟨g, cap, cur.setIfInBounds q u, rfl, hB, setCell_at hg, hc, hm, by simp [hs], ?_⟩⟩
    rw [Array.toList_setIfInBounds, List.take_set, ht]

theorem r_below {w w' : World} {B n size : Nat} {e : TypeId} {v : Value} {xs : List Value} (h : w.ownsRow B e size v n xs) (hb : Below w.heap.size w w') : w'.ownsRow B e size v n xs := by
  obtain ⟨hl, h | ⟨g, cap, cur, he, hB, hg, hr⟩⟩ := h
  · exact ⟨hl, .inl h⟩
  · exact ⟨hl, .inr ⟨g, cap, cur, he, hB, (hb.block g (Array.getElem?_eq_some_iff.1 hg).1).trans hg, hr⟩⟩

theorem r_known {P : Program} {w : World} {ops : Array Oper} {rest : List Oper} {o : Oper} {a : Act} {Q : Exit → Act → World → Prop} (hgd : o.guard = none) (s x : Operand) (t : TypeId)
    (ho : o.op = .call { callee := .builtin .append, args := #[s, x], argTypes := #[t, t] }) {v u v' : Value} {w' : World} (hs : a.eval s = v) (hx : a.eval x = u)
    (hrun : (Builtin.append_ #[t, t] o.type #[v, u]).run P w = .ok v' w') (h : wpList P ops Q rest (a.put o.dst v') w') : wpList P ops Q (o :: rest) a w := by
  refine wpList_plain hgd fun K hK => ?_
  unfold Oper.wp execOp
  simp only [ho, resolve, invoke, builtin, Sem.run_bind, Sem.run_pure, Result.andThen_ok, List.map_toArray, List.map_cons, List.map_nil, hs, hx, hrun]
  exact hK _ _ h

/-- A copy of tasks, in a block of its own. -/
theorem r_copy (W : World) (l : List Ta) (ad : Option Addr) (c : Nat) (h0 : l.length ≠ 0) (hb : l.length ≤ 1000000) (hv : RowSl Ta.vals W l (.slice ad l.length c)) :
    ∃ g cap W', (Builtin.append_ #[22, 22] 22 #[.slice (some ⟨W.heap.size, 0, none⟩) 0 0, .slice ad l.length c]).run Tryd.prog (W.alloc (.cells #[] 30)) = .ok (.slice (some ⟨g, 0, none⟩) l.length cap) W' ∧ W'.ownsRow W.heap.size 30 7 (.slice (some ⟨g, 0, none⟩) l.length cap) l.length (l.flatMap Ta.vals) ∧ Below W.heap.size W W' := by
  obtain ⟨i0, hi0, hz0, hz1, hz2⟩ := info_parts infoTa
  have hown : (W.alloc (.cells #[] 30)).ownsRow W.heap.size 30 7 (.slice (some ⟨W.heap.size, 0, none⟩) 0 0) 0 [] := ⟨rfl, .inr ⟨W.heap.size, 0, #[], rfl, Nat.le_refl _, heap_alloc_new _ _, Nat.le_refl _, by unfold maxLen; omega, rfl, rfl⟩⟩
  obtain ⟨ad', c', e, hnil, hcap, hrow⟩ := hv.below (below_new W (.cells #[] 30))
  cases e
  cases ad with
  | none => exact absurd (hnil rfl).1 h0
  | some a =>
    obtain ⟨u, W', hrun, ho, hg, -, hu⟩ := run_append_own_at (P := Tryd.prog) (w := W.alloc (.cells #[] 30)) W.heap.size 22 22 30 i0 _ 7 64 Tryd.underlying22 hi0 hz0 hz1 hz2 rfl (by decide) _ 0 [] hown a l.length c (l.flatMap Ta.vals) (flat_length Ta.vals 7 Ta.len l) (fun j u hj => by
      rcases hrow with h | ⟨b, o, h2, h3⟩
      · subst h; simp at hj
      · cases h2
        rw [Addr.add_lit]
        exact h3 j u hj) (fun u hu => flatOneTa hu) (by unfold maxLen; omega) (by omega) (by simp)
    rw [Nat.zero_add, List.nil_append] at ho
    have ho' := ho
    obtain ⟨hl, ⟨h1, h2⟩ | ⟨g, cap, cur, h1, -⟩⟩ := ho
    · exact absurd h2 h0
    · subst h1
      exact ⟨g, cap, W', hrun, ho', (below_new _ _).trans ((Below.refl _ _).grown hg (by simp) (by intro k hk; cases hk; exact Nat.le_refl _))⟩

theorem Ranked_ends {w : World} {g : Nat} {c k p : Value} {a : Act} (h : w.heap[g]? = some (.cells #[c, k] 26 (0, 0))) (h2 : a.tmps[4]?.getD undef = p) (h3 : a.tmps[5]?.getD undef = .pointer (some ⟨g, 0, none⟩)) :
    (results Tryd.f8 a.tmps).run Tryd.prog w = .ok (.tuple #[p, .agg #[c, k]]) w := by
  obtain ⟨c1, f1, l1⟩ := cells_of (l := [_, _]) h
  have c10 := c1 0 _ rfl
  have c11 := c1 1 _ rfl
  simp [results, Tryd.results8, go_sem, h2, h3, c10, c11]

theorem FB.res2 {w W : World} {g : Nat} (h : FB w W g) : W.cell? ⟨g, 0, none⟩ = some (.int .i64 0) ∧ W.cell? ⟨g, 1, none⟩ = some (.int .i64 0) ∧ W.frozen? ⟨g, 0, none⟩ = false ∧ W.frozen? ⟨g, 1, none⟩ = false ∧ g < W.heap.size := by
  obtain ⟨rs1, rf1, rl1⟩ := cells_of (l := [_, _]) h.res
  exact ⟨rs1 0 _ rfl, rs1 1 _ rfl, rf1 0, rf1 1, rl1⟩

theorem set_two_new {w9 : World} {g : Nat} {a b x y : Value} (o : Obj) (h : w9.heap[g]? = some (.cells #[x, y] 26 (0, 0))) : (((w9.setCell ⟨g, 0, none⟩ a).setCell ⟨g, 1, none⟩ b).alloc o).heap[g]? = some (.cells #[a, b] 26 (0, 0)) :=
  ((below_new _ o).block g (Array.getElem?_eq_some_iff.1 (set_two h)).1).trans (set_two h)

theorem FB.set_new {w W : World} {g : Nat} (h : FB w W g) (a b : Value) (o : Obj) : Below w.heap.size w (((W.setCell ⟨g, 0, none⟩ a).setCell ⟨g, 1, none⟩ b).alloc o) := below_seq (h.set a b) (below_new _ _)

set_option maxRecDepth 20000 in
theorem key9_any (w : World) (x : Ta) : Calls Tryd.prog 9 #[x.val] w fun r w' => r = .returned (.int .i64 x.t) ∧ Below w.heap.size w w' := by
  obtain ⟨nm, c, t, d, j, o, p⟩ := x
  unfold Ta.val
  dsimp only
  go_enter Tryd.func9, Tryd.ntmps9
  go_wp2_with fail
  go_ret
  exact ⟨rfl, below_new _ _⟩

set_option maxRecDepth 20000 in
theorem key13_any (w : World) (x : Ta) : Calls Tryd.prog 13 #[x.val] w fun r w' => r = .returned (.int .i64 x.d) ∧ Below w.heap.size w w' := by
  obtain ⟨nm, c, t, d, j, o, p⟩ := x
  unfold Ta.val
  dsimp only
  go_enter Tryd.func13, Tryd.ntmps13
  go_wp2_with fail
  go_ret
  exact ⟨rfl, below_new _ _⟩

set_option maxRecDepth 20000 in
set_option maxHeartbeats 4000000 in
theorem Ranked9_bad (w : World) (l : List Ta) (v : Value) (hS : ∀ x ∈ l, x.nm.size ≤ 9223372036854775807) (h0 : (chkF l).1 ≠ 0) (hv : RowSl Ta.vals w l v) : Calls Tryd.prog 8 #[v, .func (Fn.func 9) #[] #[]] w fun r w' => r = .returned (.tuple #[.slice none 0 0, .agg #[.int .i64 (chkF l).1, .int .i64 (chkF l).2]]) ∧ Below w.heap.size w w' := by
  have HF : Hid (FB w (w.alloc (.cells #[.int .i64 0, .int .i64 0] 26)) w.heap.size) := FB.start w
  have HC := CheckSet_any (w.alloc (.cells #[.int .i64 0, .int .i64 0] 26)) l v hS (hv.below (below_new _ _))
  obtain ⟨ad, c, rfl⟩ := hv.len
  clear hv
  generalize chkF l = z at *
  obtain ⟨z1, z2⟩ := z
  dsimp only at h0 HC ⊢
  have hzb : (z1 != 0) = true := by simpa using h0
  go_enter Tryd.func8, Tryd.ntmps8
  go_wp2_with (go_at_call 20; refine HC.mono ?_; rintro r w1 ⟨rfl, hb1⟩; have H1 : Hid (FB w w1 w.heap.size) := HF.out.grow hb1; obtain ⟨r10, r11, f10, f11, rl⟩ := H1.out.res2; clear hb1 HC)
  go_region
  all_goals go_wp2_with fail
  all_goals
    refine bodyPost_ret (Ranked_ends (set_two_new _ H1.out.res) rfl rfl) rfl ?_
    exact ⟨rfl, (H1.out.set_new _ _ _).drew⟩

set_option maxRecDepth 20000 in
set_option maxHeartbeats 4000000 in
theorem Ranked13_bad (w : World) (l : List Ta) (v : Value) (hS : ∀ x ∈ l, x.nm.size ≤ 9223372036854775807) (h0 : (chkF l).1 ≠ 0) (hv : RowSl Ta.vals w l v) : Calls Tryd.prog 8 #[v, .func (Fn.func 13) #[] #[]] w fun r w' => r = .returned (.tuple #[.slice none 0 0, .agg #[.int .i64 (chkF l).1, .int .i64 (chkF l).2]]) ∧ Below w.heap.size w w' := by
  have HF : Hid (FB w (w.alloc (.cells #[.int .i64 0, .int .i64 0] 26)) w.heap.size) := FB.start w
  have HC := CheckSet_any (w.alloc (.cells #[.int .i64 0, .int .i64 0] 26)) l v hS (hv.below (below_new _ _))
  obtain ⟨ad, c, rfl⟩ := hv.len
  clear hv
  generalize chkF l = z at *
  obtain ⟨z1, z2⟩ := z
  dsimp only at h0 HC ⊢
  have hzb : (z1 != 0) = true := by simpa using h0
  go_enter Tryd.func8, Tryd.ntmps8
  go_wp2_with (go_at_call 20; refine HC.mono ?_; rintro r w1 ⟨rfl, hb1⟩; have H1 : Hid (FB w w1 w.heap.size) := HF.out.grow hb1; obtain ⟨r10, r11, f10, f11, rl⟩ := H1.out.res2; clear hb1 HC)
  go_region
  all_goals go_wp2_with fail
  all_goals
    refine bodyPost_ret (Ranked_ends (set_two_new _ H1.out.res) rfl rfl) rfl ?_
    exact ⟨rfl, (H1.out.set_new _ _ _).drew⟩
end Go.Proofs.YtcgncdpohaoejafDoor
