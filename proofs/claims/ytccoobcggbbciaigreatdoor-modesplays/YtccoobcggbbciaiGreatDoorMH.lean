import Derived.Test.YtccoobcggbbciaiGreatDoorMF
import Derived.Test.YtccoobcggbbciaiGreatDoorSLA
import Derived.Test.YtccoobcggbbciaiGreatDoorJJ
namespace Go.Proofs.YtccoobcggbbciaiGreatDoor
open Go.ChangeShapes Go.WideShapes Go.ChangeAt Go.RowKit

/-- A fault's block; two rows of numbers of one's own. -/
structure RO (w wr : World) (av bv : Value) (acc bcc : List Int) : Prop where
  fb : FB w wr w.heap.size
  r1 : wr.ownsRow (w.heap.size + 1) 3 1 av acc.length (acc.flatMap nuV)
  r2 : wr.ownsRow (w.heap.size + 1) 3 1 bv bcc.length (bcc.flatMap nuV)
  ne : ∀ q, av.ownBlock = some q → bv.ownBlock ≠ some q

theorem RO.grow {w wr wr' : World} {av bv : Value} {acc bcc : List Int} (h : RO w wr av bv acc bcc) (hb : Below wr.heap.size wr wr') : RO w wr' av bv acc bcc :=
  ⟨h.fb.grow hb, ownsRow_below h.r1 hb, ownsRow_below h.r2 hb, h.ne⟩

theorem RO.start {w W : World} (h : FB w W w.heap.size) : RO w W (.slice none 0 0) (.slice none 0 0) [] [] :=
  ⟨h, S8.nums_nil _ _, S8.nums_nil _ _, fun q e => by cases e⟩

theorem RO.end2 {w wr : World} {av bv : Value} {acc bcc : List Int} (h : RO w wr av bv acc bcc) (a b : Value) : ((wr.setCell ⟨w.heap.size, 0, none⟩ a).setCell ⟨w.heap.size, 1, none⟩ b).ownsRow (w.heap.size + 1) 3 1 av acc.length (acc.flatMap nuV) ∧ ((wr.setCell ⟨w.heap.size, 0, none⟩ a).setCell ⟨w.heap.size, 1, none⟩ b).ownsRow (w.heap.size + 1) 3 1 bv bcc.length (bcc.flatMap nuV) := by
  have key : ∀ q, w.heap.size + 1 ≤ q → ((wr.setCell ⟨w.heap.size, 0, none⟩ a).setCell ⟨w.heap.size, 1, none⟩ b).heap[q]? = wr.heap[q]? := fun q hq => by
    rw [Below.heap_setCell _ _ _ _ (by show q ≠ w.heap.size; omega), Below.heap_setCell _ _ _ _ (by show q ≠ w.heap.size; omega)]
  exact ⟨ownsRow_keep2 h.r1 (fun q hq => key q (h.r1.lt q hq).1), ownsRow_keep2 h.r2 (fun q hq => key q (h.r2.lt q hq).1)⟩

theorem RO.push1 {w wr : World} {av bv : Value} {acc bcc : List Int} (h : RO w wr av bv acc bcc) (x : Int) (hl : acc.length ≤ 100000) :
    ∃ ad c w4, (Builtin.append_ #[24, 24] 24 #[av, .slice (some ⟨wr.heap.size, 0, none⟩) 1 1]).run Tryz.prog (wr.alloc (.cells #[.int .i64 x] 3)) = .ok (.slice ad (acc.length + 1) c) w4 ∧ RO w w4 (.slice ad (acc.length + 1) c) bv (acc ++ [x]) bcc := by
  obtain ⟨i0, hi0, hz0, hz1, hz2⟩ := info_parts info3
  have h1 := h.grow (below_new wr (.cells #[.int .i64 x] 3))
  have hlt := h.fb.lt
  obtain ⟨v4, w4, hrun, ho4, hg4, -, hv4⟩ := run_append_own_at (P := Tryz.prog) (w := wr.alloc (.cells #[.int .i64 x] 3)) (w.heap.size + 1) 24 24 3 i0 _ 1 8 Tryz.underlying24 hi0 hz0 hz1 hz2 rfl (by decide) av acc.length (acc.flatMap nuV) h1.r1 ⟨wr.heap.size, 0, none⟩ 1 1 (nuV x) rfl (fun j u hj => by rw [Addr.add_lit]; have := (cells_of (l := nuV x) (heap_alloc_new wr (.cells #[.int .i64 x] 3))).1 j u hj; simpa using this) (fun u hu => by simp [nuV] at hu; subst hu; rfl) (by unfold maxLen; omega) (by omega) (by simp; omega)
  obtain ⟨ad, c, rfl⟩ := owns_value ho4
  have hnb : ∀ k, k < w.heap.size + 1 → some k ≠ av.ownBlock := fun k hk e => by have := (h.r1.lt k e.symm).1; omega
  have hold : ∀ k, k < wr.heap.size → some k ≠ av.ownBlock → w4.heap[k]? = wr.heap[k]? := fun k hk hn => (hg4.block k (by simp; omega) hn).trans (Below.heap_alloc _ _ _ hk)
  have hbel : Below (w.heap.size + 1) wr w4 := ((below_new wr _).mono (by omega)).grown hg4 (by simp; omega) (fun k hk => (h.r1.lt k hk).1)
  have hne : ∀ q, (Value.slice ad (acc.length + 1) c).ownBlock = some q → bv.ownBlock ≠ some q := fun q e1 e2 => by
    rcases hv4 with e | e
    · rw [e] at e1
      exact h.ne q e1 e2
    · rw [e] at e1
      have e3 := Option.some.inj e1
      have := (h.r2.lt q e2).2
      simp at e3
      omega
  refine ⟨ad, c, w4, hrun, ⟨h.fb.bel.trans (hbel.mono (by omega)), (hold _ hlt (hnb _ (by omega))).trans h.fb.res, Nat.le_refl _⟩, ?_, ?_, fun q e1 e2 => hne q e1 e2⟩
  skip
  · rw [List.length_append, show (acc ++ [x]).flatMap nuV = acc.flatMap nuV ++ nuV x by simp]
    exact ho4
  · exact ownsRow_keep2 h.r2 (fun q e => hold q (h.r2.lt q e).2 (fun e2 => h.ne q e2.symm e))

theorem RO.push2 {w wr : World} {av bv : Value} {acc bcc : List Int} (h : RO w wr av bv acc bcc) (x : Int) (hl : bcc.length ≤ 100000) :
    ∃ ad c w4, (Builtin.append_ #[24, 24] 24 #[bv, .slice (some ⟨wr.heap.size, 0, none⟩) 1 1]).run Tryz.prog (wr.alloc (.cells #[.int .i64 x] 3)) = .ok (.slice ad (bcc.length + 1) c) w4 ∧ RO w w4 av (.slice ad (bcc.length + 1) c) acc (bcc ++ [x]) := by
  obtain ⟨i0, hi0, hz0, hz1, hz2⟩ := info_parts info3
  have h1 := h.grow (below_new wr (.cells #[.int .i64 x] 3))
  have hlt := h.fb.lt
  obtain ⟨v4, w4, hrun, ho4, hg4, -, hv4⟩ := run_append_own_at (P := Tryz.prog) (w := wr.alloc (.cells #[.int .i64 x] 3)) (w.heap.size + 1) 24 24 3 i0 _ 1 8 Tryz.underlying24 hi0 hz0 hz1 hz2 rfl (by decide) bv bcc.length (bcc.flatMap nuV) h1.r2 ⟨wr.heap.size, 0, none⟩ 1 1 (nuV x) rfl (fun j u hj => by rw [Addr.add_lit]; have := (cells_of (l := nuV x) (heap_alloc_new wr (.cells #[.int .i64 x] 3))).1 j u hj; simpa using this) (fun u hu => by simp [nuV] at hu; subst hu; rfl) (by unfold maxLen; omega) (by omega) (by simp; omega)
  obtain ⟨ad, c, rfl⟩ := owns_value ho4
  have hnb : ∀ k, k < w.heap.size + 1 → some k ≠ bv.ownBlock := fun k hk e => by have := (h.r2.lt k e.symm).1; omega
  have hold : ∀ k, k < wr.heap.size → some k ≠ bv.ownBlock → w4.heap[k]? = wr.heap[k]? := fun k hk hn => (hg4.block k (by simp; omega) hn).trans (Below.heap_alloc _ _ _ hk)
  have hbel : Below (w.heap.size + 1) wr w4 := ((below_new wr _).mono (by omega)).grown hg4 (by simp; omega) (fun k hk => (h.r2.lt k hk).1)
  have hne : ∀ q, (Value.slice ad (bcc.length + 1) c).ownBlock = some q → av.ownBlock ≠ some q := fun q e1 e2 => by
    rcases hv4 with e | e
    · rw [e] at e1
      exact h.ne q e2 e1
    · rw [e] at e1
      have e3 := Option.some.inj e1
      have := (h.r1.lt q e2).2
      simp at e3
      omega
  refine ⟨ad, c, w4, hrun, ⟨h.fb.bel.trans (hbel.mono (by omega)), (hold _ hlt (hnb _ (by omega))).trans h.fb.res, Nat.le_refl _⟩, ?_, ?_, fun q e1 e2 => hne q e2 e1⟩
  rotate_left 1
  · rw [List.length_append, show (bcc ++ [x]).flatMap nuV = bcc.flatMap nuV ++ nuV x by simp]
    exact ho4
  · exact ownsRow_keep2 h.r1 (fun q e => hold q (h.r1.lt q e).2 (fun e2 => h.ne q e e2.symm))
end Go.Proofs.YtccoobcggbbciaiGreatDoor
namespace Go.Proofs.YtccoobcggbbciaiGreatDoor
open Go.ChangeShapes Go.WideShapes Go.ChangeAt Go.RowKit

theorem append_knownM {P : Program} {w : World} {ops : Array Oper} {rest : List Oper} {o : Oper} {a : Act} {Q : Exit → Act → World → Prop} (hgd : o.guard = none) (s x : Operand) (t : TypeId)
    (ho : o.op = .call { callee := .builtin .append, args := #[s, x], argTypes := #[t, t] }) {v u v' : Value} {w' : World} (hs : a.eval s = v) (hx : a.eval x = u)
    (hrun : (Builtin.append_ #[t, t] o.type #[v, u]).run P w = .ok v' w') (h : wpList P ops Q rest (a.put o.dst v') w') : wpList P ops Q (o :: rest) a w := by
  refine wpList_plain hgd fun K hK => ?_
  unfold Oper.wp
  simp [execOp, ho, resolve, invoke, builtin, hs, hx, hrun, Result.andThen]
  exact hK _ _ h

def wsF (l r : List Cr) : List Int := r.map fun x => (worstM l x).1
def isF (l r : List Cr) : List Int := r.map fun x => (worstM l x).2.1
/-- The first of which a response is more than it has; -1: none. -/
def failC (l : List Cr) : List Cr → Nat → Int
  | [], _ => -1
  | x :: r, k => if (worstM l x).2.2 = true then failC l r (k + 1) else (k : Int)

/-- What Responses tells. -/
def RespIs (l : List Cr) (acc bcc : List Int) (z1 z2 : Int) : Prop := ((chkC l).1 ≠ 0 ∧ acc = [] ∧ bcc = [] ∧ (z1, z2) = chkC l) ∨ ((chkC l).1 = 0 ∧ ((0 ≤ failC l l 0 ∧ acc = [] ∧ bcc = [] ∧ z1 = 13 ∧ z2 = failC l l 0) ∨ (failC l l 0 = -1 ∧ z1 = 0 ∧ z2 = 0 ∧ acc = wsF l l ∧ bcc = isF l l)))
def RespPost (w : World) (l : List Cr) (r : Ending) (w' : World) : Prop := ∃ acc bcc av bv z1 z2, RespIs l acc bcc z1 z2 ∧ r = .returned (.tuple #[av, bv, .agg #[.int .i64 z1, .int .i64 z2]]) ∧ w'.ownsRow (w.heap.size + 1) 3 1 av acc.length (acc.flatMap nuV) ∧ w'.ownsRow (w.heap.size + 1) 3 1 bv bcc.length (bcc.flatMap nuV) ∧ (∀ q, av.ownBlock = some q → bv.ownBlock ≠ some q) ∧ Below w.heap.size w w'

theorem wrongC_ok {x : Cr} {a : List Cr} (h : wrongC x a = 0) : okCr x := by
  unfold wrongC at h
  split at h
  · omega
  · split at h
    · omega
    · rename_i h1 h2
      have h1' : rangeC x = false := by simpa using h1
      have h2' : orderC x = false := by simpa using h2
      unfold rangeC within at h1'
      unfold orderC at h2'
      simp only [Bool.or_eq_false_iff, Bool.not_eq_eq_eq_not, Bool.not_false, Bool.and_eq_true, decide_eq_true_eq, decide_eq_false_iff_not] at h1' h2'
      obtain ⟨⟨⟨⟨k1, k2⟩, k3⟩, k4⟩, k5⟩ := h1'
      obtain ⟨⟨m1, m2⟩, -⟩ := h2'
      exact ⟨by omega, by omega, by omega, by omega, by omega, by omega, by omega⟩

theorem chkCFrom_ok {l : List Cr} : ∀ (r : List Cr) (k : Nat), (chkCFrom l r k).1 = 0 → (∀ x ∈ r, okCr x) ∧ chkCFrom l r k = (0, 0)
  | [], _, _ => ⟨fun x hx => by simp at hx, rfl⟩
  | x :: r, k, h => by
    rw [chkCFrom] at h ⊢
    by_cases hz : wrongC x (l.take k) = 0
    · rw [if_pos hz] at h ⊢
      have ih := chkCFrom_ok r (k + 1) h
      refine ⟨fun y hy => ?_, ih.2⟩
      rcases List.mem_cons.1 hy with rfl | hy
      · exact wrongC_ok hz
      · exact ih.1 y hy
    · rw [if_neg hz] at h
      exact absurd h hz

theorem chkC_ok {l : List Cr} (h : (chkC l).1 = 0) : l.length ≠ 0 ∧ l.length ≤ 8 ∧ (∀ x ∈ l, okCr x) ∧ chkC l = (0, 0) := by
  unfold chkC at h ⊢
  by_cases h1 : l.length = 0 ∨ 8 < l.length
  · rw [if_pos h1] at h
    simp at h
  · rw [if_neg h1] at h ⊢
    have := chkCFrom_ok l 0 h
    exact ⟨by omega, by omega, this.1, this.2⟩

theorem Resp_ends {w : World} {g : Nat} {c k u v : Value} {a : Act} (h : w.heap[g]? = some (.cells #[c, k] 30 (0, 0))) (h1 : a.tmps[2]?.getD undef = u) (h2 : a.tmps[3]?.getD undef = v) (h3 : a.tmps[4]?.getD undef = .pointer (some ⟨g, 0, none⟩)) :
    (results Tryz.f30 a.tmps).run Tryz.prog w = .ok (.tuple #[u, v, .agg #[c, k]]) w := by
  obtain ⟨c1, f1, l1⟩ := cells_of (l := [_, _]) h
  have c10 := c1 0 _ rfl
  have c11 := c1 1 _ rfl
  simp [results, Tryz.results30, go_sem, h1, h2, h3, c10, c11]

set_option maxRecDepth 20000 in
set_option maxHeartbeats 2000000 in
theorem Responses_bad (w : World) (l : List Cr) (v : Value) (hv : RowSl Cr.vals w l v) (h0 : (chkC l).1 ≠ 0) : Calls Tryz.prog 30 #[v] w (RespPost w l) := by
  have HC := CheckM_any (w.alloc (.cells #[.int .i64 0, .int .i64 0] 30)) l v (hv.below (below_new _ _))
  obtain ⟨z1, z2, hz⟩ : ∃ z1 z2, chkC l = (z1, z2) := ⟨_, _, rfl⟩
  have HZ : Hid (chkC l = (z1, z2) ∧ (chkC l).1 ≠ 0) := ⟨hz, h0⟩
  rw [hz] at HC h0
  dsimp only at HC h0
  have hz1 : (z1 != 0) = true := by simpa using h0
  obtain ⟨ad, c, rfl⟩ := hv.len
  clear hv hz h0
  go_enter Tryz.func30, Tryz.ntmps30
  go_upto_region 3 with (go_at_call 61; refine HC.mono ?_; rintro r w1 ⟨rfl, hb1⟩; have H1 : Hid (FB w (w1.alloc (.cells #[.int .i64 z1, .int .i64 z2] 30)) w.heap.size) := ((FB.start w).grow hb1).grow (below_new _ _); have hl1 : w.heap.size < w1.heap.size := ((FB.start w).grow hb1).lt; clear hb1 HC)
  obtain ⟨fs, -, fl⟩ := cells_of (l := [_, _]) (heap_alloc_new w1 (.cells #[.int .i64 z1, .int .i64 z2] 30))
  have g0 := fs 0 _ rfl
  have g1 := fs 1 _ rfl
  clear fs
  generalize (w1.alloc (.cells #[.int .i64 z1, .int .i64 z2] 30)) = w2 at *
  obtain ⟨qs, qf, ql⟩ := cells_of (l := [_, _]) H1.out.res
  have q0 := qs 0 _ rfl
  have q1 := qs 1 _ rfl
  have qf0 := qf 0
  have qf1 := qf 1
  clear qs qf
  go_region
  all_goals go_wp2_with fail
  all_goals
    refine bodyPost_ret (Resp_ends (g := w.heap.size) (c := .int .i64 z1) (k := .int .i64 z2) (u := .slice none 0 0) (v := .slice none 0 0) (set_two H1.out.res) rfl rfl rfl) rfl ?_
    exact ⟨[], [], _, _, z1, z2, .inl ⟨HZ.out.2, rfl, rfl, HZ.out.1.symm⟩, rfl, S8.nums_nil _ _, S8.nums_nil _ _, (fun q e => by cases e), (H1.out.set _ _).drew⟩

set_option maxRecDepth 20000 in
set_option maxHeartbeats 4000000 in
theorem Responses_good (w : World) (l : List Cr) (v : Value) (hv : RowSl Cr.vals w l v) (h0 : (chkC l).1 = 0) : Calls Tryz.prog 30 #[v] w (RespPost w l) := by
  have HC := CheckM_any (w.alloc (.cells #[.int .i64 0, .int .i64 0] 30)) l v (hv.below (below_new _ _))
  obtain ⟨hl1, hl8, hok, hce⟩ := chkC_ok h0
  rw [hce] at HC
  dsimp only at HC
  have hv' := hv
  obtain ⟨ad, c, rfl, -, hcap, hrw⟩ := hv'
  rcases hrw with hnil | ⟨ab, ao, rfl, hrow⟩
  · rw [hnil] at hl1; simp at hl1
  have HV : Hid (RowSl Cr.vals w l (.slice (some ⟨ab, ao, none⟩) l.length c) ∧ (∀ x ∈ l, okCr x) ∧ (∀ q u, (l.flatMap Cr.vals)[q]? = some u → w.cell? ⟨ab, ao + q, none⟩ = some u) ∧ (chkC l).1 = 0) := ⟨hv, hok, hrow, h0⟩
  clear hv hok hrow h0 hce
  go_enter Tryz.func30, Tryz.ntmps30
  go_upto_region 2 with (go_at_call 61; refine HC.mono ?_; rintro r w1 ⟨rfl, hb1⟩; have H1 : Hid (FB w (w1.alloc (.cells #[.int .i64 0, .int .i64 0] 30)) w.heap.size) := ((FB.start w).grow hb1).grow (below_new _ _); clear hb1 HC)
  obtain ⟨fs, -, fl⟩ := cells_of (l := [_, _]) (heap_alloc_new w1 (.cells #[.int .i64 0, .int .i64 0] 30))
  have g0 := fs 0 _ rfl
  clear fs
  generalize (w1.alloc (.cells #[.int .i64 0, .int .i64 0] 30)) = w2 at *
  have H3 : Hid (RO w w2 (.slice none 0 0) (.slice none 0 0) [] []) := RO.start H1.out
  clear H1
  go_wp2_with fail
  go_loopw [2, 3, 19] (fun u2 u3 i4 wr => ∃ (j : Nat) (av bv : Value), j ≤ l.length ∧ i4 = .int .i64 j ∧ av = u2 ∧ bv = u3 ∧ RO w wr av bv (wsF l (l.take j)) (isF l (l.take j)) ∧ failC l (l.drop j) j = failC l l 0) (fun _ _ i4 _ => l.length - (intOf i4).toNat)
  case atStart => exact ⟨0, _, _, Nat.zero_le _, rfl, rfl, rfl, H3.out, rfl⟩
  case round =>
    obtain ⟨j, av, bv, hj, rfl, e2, e3, hro, hf⟩ := hrel
    subst e2 e3
    have HT : Hid (RO w wr av bv (wsF l (l.take j)) (isF l (l.take j))) := hro
    by_cases hjl : j < l.length
    · obtain ⟨x, hx, hd⟩ := drop_at hjl
      rw [hd, failC] at hf
      obtain ⟨y0, y1, y2, y3, y4, y5⟩ := cr_at (fun q u hq => below_cell hro.fb.bel (HV.out.2.2.1 q u hq)) hx
      have hxo := HV.out.2.1 x (List.mem_of_getElem? hx)
      have HWc := worstM_any (wr.alloc (.cells #[.int .i64 x.c, .int .i64 x.h, .int .i64 x.t, .int .i64 x.d, .bool x.hi, .int .i64 x.p] 35)) l _ x hl8 HV.out.2.1 hxo ((HV.out.1.below hro.fb.bel).below (below_new _ _))
      have HX : Hid (l[j]? = some x ∧ (if (worstM l x).2.2 = true then failC l (l.drop (j + 1)) (j + 1) else (j : Int)) = failC l l 0) := ⟨hx, hf⟩
      have hts : (l.take (j + 1)) = l.take j ++ [x] := by rw [List.take_add_one, hx]; rfl
      have HTS : Hid (wsF l (l.take (j + 1)) = wsF l (l.take j) ++ [(worstM l x).1] ∧ isF l (l.take (j + 1)) = isF l (l.take j) ++ [(worstM l x).2.1] ∧ (wsF l (l.take j)).length = j ∧ (isF l (l.take j)).length = j) := ⟨by rw [hts]; simp [wsF], by rw [hts]; simp [isF], by simp [wsF]; omega, by simp [isF]; omega⟩
      have HB : Hid (RO w (wr.alloc (.cells #[.int .i64 x.c, .int .i64 x.h, .int .i64 x.t, .int .i64 x.d, .bool x.hi, .int .i64 x.p] 35)) av bv (wsF l (l.take j)) (isF l (l.take j))) := hro.grow (below_new _ _)
      clear hro hf hx hd hxo hts
      obtain ⟨xc, xh, xt, xd, xi, xp⟩ := x
      unfold Cr.val at HWc
      dsimp only at y0 y1 y2 y3 y4 y5 HWc
      generalize worstM l ⟨xc, xh, xt, xd, xi, xp⟩ = wm at *
      obtain ⟨m1, m2, m3⟩ := wm
      dsimp only at HWc HX HTS
      dsimp only at HB
      cases hm : m3
      · subst hm
        go_upto_region 9 with (go_at_call 62; refine HWc.mono ?_; rintro r w5 ⟨rfl, hb5⟩; have H5 : Hid (FB w w5 w.heap.size) := HB.out.fb.grow hb5; clear hb5 HWc HB)
        obtain ⟨qs, qf, ql⟩ := cells_of (l := [_, _]) H5.out.res
        have q0 := qs 0 _ rfl
        have q1 := qs 1 _ rfl
        have qf0 := qf 0
        have qf1 := qf 1
        clear qs qf
        go_wp2_with fail
        refine bodyPost_ret (Resp_ends (g := w.heap.size) (c := .int .i64 13) (k := .int .i64 (j : Int)) (u := .slice none 0 0) (v := .slice none 0 0) (set_two H5.out.res) rfl rfl rfl) rfl ?_
        have e := HX.out.2
        rw [if_neg (by decide)] at e
        exact ⟨[], [], _, _, 13, (j : Int), .inr ⟨HV.out.2.2.2, .inl ⟨by omega, rfl, rfl, rfl, e⟩⟩, rfl, S8.nums_nil _ _, S8.nums_nil _ _, (fun q e => by cases e), H5.out.set _ _⟩
      · subst hm
        go_upto_region 10 with (go_at_call 62; refine HWc.mono ?_; rintro r w5 ⟨rfl, hb5⟩; have H5 : Hid (RO w w5 av bv (wsF l (l.take j)) (isF l (l.take j))) := HB.out.grow hb5; clear hb5 HWc HB)
        obtain ⟨a6, c6, w6, hr6, ho6⟩ := H5.out.push1 m1 (by have := HTS.out.2.2.1; omega)
        obtain ⟨a7, c7, w7, hr7, ho7⟩ := ho6.push2 m2 (by have := HTS.out.2.2.2; omega)
        rw [← HTS.out.1, ← HTS.out.2.1] at ho7
        have H7 : Hid (RO w w7 _ _ (wsF l (l.take (j + 1))) (isF l (l.take (j + 1)))) := ho7
        have e : failC l (l.drop (j + 1)) (j + 1) = failC l l 0 := by simpa using HX.out.2
        have HE : Hid (failC l (l.drop (j + 1)) (j + 1) = failC l l 0) := e
        clear ho6 ho7 e
        go_wp2_with (first | (at_builtin; refine append_knownM rfl (.tmp 39) (.tmp 41) 24 rfl rfl rfl hr7 ?_) | (at_builtin; refine append_knownM rfl (.tmp 35) (.tmp 37) 24 rfl rfl rfl hr6 ?_))
        exact ⟨⟨j + 1, _, _, by omega, by simp, rfl, rfl, H7.out, HE.out⟩, by simp [intOf]; omega⟩
    · have hje : j = l.length := by omega
      subst hje
      rw [List.drop_length, failC] at hf
      have HE : Hid ((-1 : Int) = failC l l 0) := hf
      obtain ⟨qs, qf, ql⟩ := cells_of (l := [_, _]) hro.fb.res
      have q0 := qs 0 _ rfl
      have q1 := qs 1 _ rfl
      have qf0 := qf 0
      have qf1 := qf 1
      clear qs qf hro hf
      go_wp2_with fail
      refine bodyPost_ret (Resp_ends (g := w.heap.size) (c := .int .i64 0) (k := .int .i64 0) (u := _) (v := _) (set_two HT.out.fb.res) rfl rfl rfl) rfl ?_
      exact ⟨wsF l (l.take l.length), isF l (l.take l.length), _, _, 0, 0, .inr ⟨HV.out.2.2.2, .inr ⟨HE.out.symm, rfl, rfl, (by rw [List.take_length]), (by rw [List.take_length])⟩⟩, rfl, (HT.out.end2 _ _).1, (HT.out.end2 _ _).2, HT.out.ne, HT.out.fb.set _ _⟩

theorem Responses_any (w : World) (l : List Cr) (v : Value) (hv : RowSl Cr.vals w l v) : Calls Tryz.prog 30 #[v] w (RespPost w l) := by
  by_cases h0 : (chkC l).1 = 0
  · exact Responses_good w l v hv h0
  · exact Responses_bad w l v hv h0
end Go.Proofs.YtccoobcggbbciaiGreatDoor
