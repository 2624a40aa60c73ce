import Derived.Test.YtkafihaajpifoagDoorLA
import Derived.Maps.AppendAt
import Derived.OwnWalk
namespace Go.Proofs.YtkafihaajpifoagDoor
open Go.ChangeShapes Go.WideShapes Go.ChangeAt Go.RowKit

theorem nu_flat (l : List Int) : l.flatMap nuV = l.map (Value.int .i64) := by
  induction l with
  | nil => rfl
  | cons x r ih => rw [List.flatMap_cons, ih]; rfl

theorem info3 : (Tryd.prog.info? 3).map (fun i => (i.zero, i.size, i.bytes)) = some (some (.int .i64 0), 1, 8) := by kernel_rfl

/-- The locks that are held, as a row of one's own. -/
def Stk (W : World) (B : Nat) (tv : Value) (st : List Int) : Prop := W.ownsRow B 3 1 tv st.length (st.map (Value.int .i64))

theorem Stk.cases {W : World} {B : Nat} {tv : Value} {th : List Int} (h : Stk W B tv th) : (tv = .slice none 0 0 ∧ th = []) ∨ ∃ g cap cur, tv = .slice (some ⟨g, 0, none⟩) th.length cap ∧ B ≤ g ∧ W.heap[g]? = some (.cells cur 3 (0, 0)) ∧ th.length ≤ cap ∧ cap ≤ maxLen ∧ cur.size = cap ∧ cur.toList.take th.length = th.map (Value.int .i64) := by
  obtain ⟨hl, ⟨h1, h2⟩ | ⟨g, cap, cur, h1, h2, h3, h4, h5, h6, h7⟩⟩ := h
  · exact .inl ⟨h1, List.eq_nil_of_length_eq_zero h2⟩
  · exact .inr ⟨g, cap, cur, h1, h2, h3, h4, h5, by omega, by rw [Nat.mul_one] at h7; exact h7⟩

theorem Stk.mk' {W : World} {B g cap : Nat} {th : List Int} {cur : Array Value} (hB : B ≤ g) (hg : W.heap[g]? = some (.cells cur 3 (0, 0))) (hcap : th.length ≤ cap) (hm : cap ≤ maxLen) (hs : cur.size = cap) (hc : cur.toList.take th.length = th.map (Value.int .i64)) : Stk W B (.slice (some ⟨g, 0, none⟩) th.length cap) th :=
  ⟨by simp, .inr ⟨g, cap, cur, rfl, hB, hg, hcap, hm, by omega, by rw [Nat.mul_one]; exact hc⟩⟩

theorem Stk.row {W : World} {B : Nat} {tv : Value} {th : List Int} (h : Stk W B tv th) : RowSl nuV W th tv := by
  rcases h.cases with ⟨rfl, rfl⟩ | ⟨g, cap, cur, rfl, h1, h2, h3, h4, h5, h6⟩
  · exact RowSl.nil _ _
  · refine ⟨_, cap, rfl, (fun e => by cases e), h3, .inr ⟨g, 0, rfl, fun q u hq => ?_⟩⟩
    rw [nu_flat] at hq
    have hql := (List.getElem?_eq_some_iff.1 hq).1
    rw [List.length_map] at hql
    rw [Nat.zero_add]
    unfold World.cell?
    rw [h2]
    rw [← h6, List.getElem?_take_of_lt hql, Array.getElem?_toList] at hq
    simpa using hq

theorem Stk.pop {W : World} {B g cap n : Nat} {th : List Int} {z : Int} (h : Stk W B (.slice (some ⟨g, 0, none⟩) n cap) (th ++ [z])) : Stk W B (.slice (some ⟨g, 0, none⟩) th.length cap) th := by
  rcases h.cases with ⟨h0, _⟩ | ⟨g', cap', cur, e, h1, h2, h3, h4, h5, h6⟩
  · cases h0
  · cases e
    refine Stk.mk' h1 h2 (by simp at h3; omega) h4 h5 ?_
    have e2 : (cur.toList.take (th ++ [z]).length).take th.length = ((th ++ [z]).map (Value.int .i64)).take th.length := by rw [h6]
    rw [List.take_take, Nat.min_eq_left (by simp)] at e2
    rw [e2, List.map_append, List.take_left' (by simp)]

theorem Stk.keep {W W' : World} {B : Nat} {tv : Value} {th : List Int} (h : Stk W B tv th) (hk : ∀ k, tv.ownBlock = some k → W'.heap[k]? = W.heap[k]?) : Stk W' B tv th := by
  rcases h.cases with ⟨rfl, rfl⟩ | ⟨g, cap, cur, rfl, h1, h2, h3, h4, h5, h6⟩
  · exact ⟨rfl, .inl ⟨rfl, rfl⟩⟩
  · exact Stk.mk' h1 ((hk g rfl).trans h2) h3 h4 h5 h6

theorem owns_value {w : World} {B n size : Nat} {e : TypeId} {v : Value} {xs : List Value} (h : w.ownsRow B e size v n xs) : ∃ ad c, v = .slice ad n c := by
  obtain ⟨hl, ⟨h, hn⟩ | ⟨g, cap, cur, he, -⟩⟩ := h
  · exact ⟨none, 0, by rw [h]; simp_all⟩
  · exact ⟨_, _, he⟩

theorem Stk.grow {W W' : World} {B : Nat} {tv : Value} {th : List Int} (h : Stk W B tv th) (hb : Below W.heap.size W W') : Stk W' B tv th := by
  refine h.keep fun k hk => ?_
  rcases h.cases with ⟨rfl, rfl⟩ | ⟨g, cap, cur, rfl, h1, h2, -⟩
  · cases hk
  · cases hk
    exact hb.block _ (Array.getElem?_eq_some_iff.1 h2).1

theorem Stk.low {W : World} {B : Nat} {tv : Value} {th : List Int} (h : Stk W B tv th) {k : Nat} (hk : tv.ownBlock = some k) : B ≤ k := by
  rcases h.cases with ⟨rfl, rfl⟩ | ⟨g, cap, cur, rfl, h1, -⟩
  · cases hk
  · cases hk; exact h1

/-- Nothing below B has turned but one block. -/
structure But (B g : Nat) (w w' : World) : Prop where
  os : w'.os = w.os
  tape : w'.tape = w.tape
  output : w'.output = w.output
  size : w.heap.size ≤ w'.heap.size
  block : ∀ k, k < B → k ≠ g → w'.heap[k]? = w.heap[k]?

theorem But.of_below {B g : Nat} {w w' : World} (h : Below B w w') : But B g w w' := ⟨h.os, h.tape, h.output, h.size, fun k hk _ => h.block k hk⟩
theorem But.below {B C g : Nat} {w w' : World} (h : But B g w w') (h1 : C ≤ g) (h2 : C ≤ B) : Below C w w' := ⟨h.os, h.tape, h.output, h.size, fun k hk => h.block k (by omega) (by omega)⟩
theorem But.trans {B g : Nat} {a b c : World} (h : But B g a b) (k : But B g b c) : But B g a c :=
  ⟨k.os.trans h.os, k.tape.trans h.tape, k.output.trans h.output, Nat.le_trans h.size k.size, fun i hi hn => (k.block i hi hn).trans (h.block i hi hn)⟩
theorem But.set {B g : Nat} {w w' : World} (h : But B g w w') (i : Nat) (v : Value) : But B g w (w'.setCell ⟨g, i, none⟩ v) := by
  refine ⟨h.os, h.tape, h.output, ?_, fun k hk hn => ?_⟩
  · show w.heap.size ≤ (w'.heap.modify g _).size
    rw [Array.size_modify]; exact h.size
  · show (w'.heap.modify g _)[k]? = _
    rw [Array.getElem?_modify, if_neg (fun e => hn e.symm)]
    exact h.block k hk hn

/-- What is left behind an act that is checked. -/
def DoPost (B g : Nat) (W W' : World) (st : List Int) (x : Ac) : Prop := But B g W W' ∧ (doC st x = 0 → ∃ tv, W'.heap[g]? = some (.cells #[tv] 66 (0, 0)) ∧ Stk W' B tv (doS st x))

theorem DoPost.stay {B g : Nat} {W W' : World} {st : List Int} {x : Ac} {tv : Value} (hg : W.heap[g]? = some (.cells #[tv] 66 (0, 0))) (hO : Stk W B tv st) (hB : B ≤ W.heap.size) (hb : Below W.heap.size W W') (hs : doC st x = 0 → doS st x = st) : DoPost B g W W' st x :=
  ⟨But.of_below (hb.mono hB), fun h0 => ⟨tv, (hb.block g (Array.getElem?_eq_some_iff.1 hg).1).trans hg, by rw [hs h0]; exact hO.grow hb⟩⟩

set_option maxRecDepth 20000 in
set_option maxHeartbeats 4000000 in
theorem do_any (W : World) (B g : Nat) (tv : Value) (st : List Int) (x : Ac) (hg : W.heap[g]? = some (.cells #[tv] 66 (0, 0))) (hgB : g < B) (hB : B ≤ W.heap.size) (hO : Stk W B tv st) (hl : st.length ≤ 1000) :
    Calls Tryd.prog 34 #[.pointer (some ⟨g, 0, none⟩), x.val] W fun r W' => r = .returned (.int .i64 (doC st x)) ∧ DoPost B g W W' st x := by
  have HS : Hid (∀ W', Below W.heap.size W W' → (doC st x = 0 → doS st x = st) → DoPost B g W W' st x) := fun W' hb hs => DoPost.stay hg hO hB hb hs
  have HO : Hid (W.heap[g]? = some (.cells #[tv] 66 (0, 0)) ∧ Stk W B tv st) := ⟨hg, hO⟩
  obtain ⟨gc, gf, gl⟩ := cells_of (l := [_]) hg
  have g0 := gc 0 _ rfl
  have gf0 := gf 0
  obtain ⟨ad, cp, htv⟩ := hO.row.len
  subst htv
  clear gc gf hg hO
  obtain ⟨d, n⟩ := x
  unfold Ac.val
  dsimp only
  have H0 := below_new W (.cells #[.int .i64 d, .int .i64 n] 48)
  by_cases h1 : d = 1
  · subst h1
    rcases hw : within n 1 1000 with _ | _
    · have e : doC st ⟨1, n⟩ = 3 := by simp [doC, hw]
      rw [e]
      go_enter Tryd.func34, Tryd.ntmps34
      go_wp2_with (go_at_call 42; refine (within_any _ _ _ _).mono ?_; rintro r w1 ⟨rfl, rfl⟩; rw [hw])
      go_ret
      exact ⟨rfl, HS.out _ H0 (fun h => by rw [e] at h; cases h)⟩
    · have e : doC st ⟨1, n⟩ = 0 := by simp [doC, hw]
      rw [e]
      go_enter Tryd.func34, Tryd.ntmps34
      go_wp2_with (go_at_call 42; refine (within_any _ _ _ _).mono ?_; rintro r w1 ⟨rfl, rfl⟩; rw [hw])
      go_ret
      exact ⟨rfl, HS.out _ H0 (fun _ => by simp [doS])⟩
  have b1 : (d == 1) = false := by simpa using h1
  by_cases h2 : d = 2
  · subst h2
    rcases hw : within n 0 3 with _ | _
    · have e : doC st ⟨2, n⟩ = 3 := by simp [doC, hw]
      rw [e]
      go_enter Tryd.func34, Tryd.ntmps34
      go_wp2_with (go_at_call 42; refine (within_any _ _ _ _).mono ?_; rintro r w1 ⟨rfl, rfl⟩; rw [hw])
      go_ret
      exact ⟨rfl, HS.out _ H0 (fun h => by rw [e] at h; cases h)⟩
    · have HC := contains_any (W.alloc (.cells #[.int .i64 2, .int .i64 n] 48)) st (.slice ad st.length cp) n (by omega) (HO.out.2.row.below H0)
      by_cases hm : n ∈ st
      · have e : doC st ⟨2, n⟩ = 5 := by simp [doC, hw, hm]
        rw [e]
        rw [decide_eq_true hm] at HC
        go_enter Tryd.func34, Tryd.ntmps34
        go_wp2_with (first | (go_at_call 42; refine (within_any _ _ _ _).mono ?_; rintro r w1 ⟨rfl, rfl⟩; rw [hw]) | (go_at_call 44; refine HC.mono ?_; rintro r w2 ⟨rfl, hb2⟩))
        go_ret
        exact ⟨rfl, HS.out _ (below_seq H0 hb2) (fun h => by rw [e] at h; cases h)⟩
      · have e : doC st ⟨2, n⟩ = 0 := by simp [doC, hw, hm]
        rw [e]
        rw [decide_eq_false hm] at HC
        obtain ⟨i0, hi0, hz0, hz1, hz2⟩ := info_parts info3
        have HW : Hid (∀ w2, Below W.heap.size W w2 → (w2.alloc (.cells #[.int .i64 n] 3)).ownsRow B 3 1 (.slice ad st.length cp) st.length (st.map (Value.int .i64))) := fun w2 hb2 => (HO.out.2.grow hb2).grow (below_new w2 (.cells #[.int .i64 n] 3))
        have H1 : Hid (∀ w2, Below W.heap.size W w2 → ∀ tv' w3, w3.ownsRow B 3 1 tv' (st.length + 1) (st.map (Value.int .i64) ++ [.int .i64 n]) → (w2.alloc (.cells #[.int .i64 n] 3)).grownBy w3 (Value.slice ad st.length cp).ownBlock → w3.cell? ⟨g, 0, none⟩ = some (.slice ad st.length cp) ∧ w3.frozen? ⟨g, 0, none⟩ = false ∧ g < w3.heap.size ∧ DoPost B g W (w3.setCell ⟨g, 0, none⟩ tv') st ⟨2, n⟩) := fun w2 hb2 tv' w3 ho3 hg3 => by
          have hs2 := (HO.out.2.grow hb2).grow (below_new w2 (.cells #[.int .i64 n] 3))
          have hk : w3.heap[g]? = some (.cells #[.slice ad st.length cp] 66 (0, 0)) := by
            rw [hg3.block g (by have := hb2.size; simp; omega) (fun e => by have := hs2.low e.symm; omega)]
            rw [(below_new w2 _).block g (by have := hb2.size; omega), hb2.block g (by omega)]
            exact HO.out.1
          obtain ⟨kc, kf, kl⟩ := cells_of (l := [_]) hk
          refine ⟨kc 0 _ rfl, kf 0, kl, ?_, fun _ => ⟨tv', ?_, ?_⟩⟩
          · refine But.set ?_ 0 tv'
            have hb3 : Below W.heap.size W (w2.alloc (.cells #[.int .i64 n] 3)) := below_seq hb2 (below_new _ _)
            exact ⟨hg3.os.trans hb3.os, hg3.tape.trans hb3.tape, hg3.output.trans hb3.output, Nat.le_trans hb3.size hg3.size, fun k hk _ => (hg3.block k (by have := hb3.size; omega) (fun e => by have := hs2.low e.symm; omega)).trans (hb3.block k (by omega))⟩
          · rw [setCell_at hk]; rfl
          · have ho : Stk w3 B tv' (st ++ [n]) := by
              unfold Stk
              rw [List.length_append, List.map_append]
              exact ho3
            have hd : doS st ⟨2, n⟩ = st ++ [n] := by simp [doS]
            rw [hd]
            refine ho.keep fun k hk => ?_
            show (w3.heap.modify g _)[k]? = _
            rw [Array.getElem?_modify, if_neg (fun e => by have := ho.low hk; omega)]
        go_enter Tryd.func34, Tryd.ntmps34
        go_wp2_with (first | (go_at_call 42; refine (within_any _ _ _ _).mono ?_; rintro r w1 ⟨rfl, rfl⟩; rw [hw]) | (go_at_call 44; refine HC.mono ?_; rintro r w2 ⟨rfl, hb2⟩; have c1 : w2.cell? ⟨W.heap.size, 1, none⟩ = some (.int .i64 n) := below_cell hb2 (by go_simp); have H2 : Hid (Below W.heap.size W w2) := below_seq H0 hb2; clear hb2 HC) | (at_builtin; refine wpList_append_own_at _ rfl (.tmp 32) (.tmp 35) 66 rfl B 3 i0 _ 1 8 Tryd.underlying66 hi0 hz0 hz1 hz2 rfl (by decide) (.slice ad st.length cp) st.length (st.map (Value.int .i64)) rfl (HW.out w2 H2.out) ⟨w2.heap.size, 0, none⟩ 1 1 [.int .i64 n] rfl rfl (fun j u hj => by rw [Addr.add_lit]; have := (cells_of (l := [.int .i64 n]) (heap_alloc_new w2 (.cells #[.int .i64 n] 3))).1 j u hj; simpa using this) (fun u hu => by simp at hu; subst hu; rfl) (by unfold maxLen; omega) (by omega) (by have := H2.out.size; simp; omega) ?_; intro tv' w3 ho3 hg3 _ _; obtain ⟨k1, k2, k3, HD0⟩ := H1.out w2 H2.out tv' w3 ho3 hg3; obtain ⟨ad3, c3, rfl⟩ := owns_value ho3; have HD : Hid (DoPost B g W (w3.setCell ⟨g, 0, none⟩ (.slice ad3 (st.length + 1) c3)) st ⟨2, n⟩) := HD0; clear ho3 hg3 HD0 H1))
        go_ret
        exact ⟨rfl, HD.out⟩
  have b2 : (d == 2) = false := by simpa using h2
  by_cases h3 : d = 3
  · subst h3
    by_cases hlast : st.getLast? = some n
    · obtain ⟨ys, rfl⟩ := List.getLast?_eq_some_iff.1 hlast
      have e : doC (ys ++ [n]) ⟨3, n⟩ = 0 := by simp [doC]
      have ed : doS (ys ++ [n]) ⟨3, n⟩ = ys := by simp [doS]
      rw [e]
      have hlen : (ys ++ [n]).length = ys.length + 1 := by simp
      rcases HO.out.2.cases with ⟨hn, hnil⟩ | ⟨rg, cap, cur, htv, r1, r2, r3, r4, r5, r6⟩
      · simp at hnil
      simp only [Value.slice.injEq] at htv
      obtain ⟨rfl, -, rfl⟩ := htv
      have hcell : W.cell? ⟨rg, ys.length, none⟩ = some (.int .i64 n) := by
        have := nu_at (w := W) (l := ys ++ [n]) (b := rg) (o := 0) (j := ys.length) (z := n) (fun q u hq => by
          obtain ⟨_, _, e9, -, -, h9⟩ := HO.out.2.row
          cases e9
          rcases h9 with h9 | ⟨b9, o9, e9, h9⟩
          · simp at h9
          · cases e9; exact h9 q u hq) (by simp)
        simpa using this
      have hrl : rg < W.heap.size := World.block_lt_of_cell? _ _ hcell
      rw [hlen] at g0
      have HP : Hid (∀ m, DoPost B g W (((W.alloc (.cells #[.int .i64 3, .int .i64 n] 48)).drewN m).setCell ⟨g, 0, none⟩ (.slice (some ⟨rg, 0, none⟩) ys.length cp)) (ys ++ [n]) ⟨3, n⟩) := fun m => by
        have hb1 : Below W.heap.size W ((W.alloc (.cells #[.int .i64 3, .int .i64 n] 48)).drewN m) := below_seq H0 below_drewN'
        have hk : ((W.alloc (.cells #[.int .i64 3, .int .i64 n] 48)).drewN m).heap[g]? = some (.cells #[.slice (some ⟨rg, 0, none⟩) (ys ++ [n]).length cp] 66 (0, 0)) := (hb1.block g gl).trans HO.out.1
        refine ⟨But.set (But.of_below (hb1.mono hB)) _ _, fun _ => ⟨_, by rw [setCell_at hk]; rfl, ?_⟩⟩
        rw [ed]
        refine ((HO.out.2.grow hb1).pop).keep fun k hk => ?_
        cases hk
        show (((W.alloc (.cells #[.int .i64 3, .int .i64 n] 48)).drewN m).heap.modify g _)[rg]? = _
        rw [Array.getElem?_modify, if_neg (by omega)]
      clear r2 r6 r5 cur
      have h9 : (ys.length : Int) < (ys.length : Int) + 1 := by omega
      have h8 : ¬ ((ys.length : Int) < 0) := by omega
      rw [hlen] at r3
      go_enter Tryd.func34, Tryd.ntmps34
      go_wp2_with fail
      go_quiet (fail)
      go_wp2_with fail
      go_ret
      exact ⟨rfl, HP.out _⟩
    · have e : doC st ⟨3, n⟩ = 10 := by simp [doC, hlast]
      rw [e]
      have HE : Hid (∀ W', Below W.heap.size W W' → DoPost B g W W' st ⟨3, n⟩) := fun W' hb => HS.out W' hb (fun h => by rw [e] at h; cases h)
      by_cases hnil : st = []
      · subst hnil
        go_enter Tryd.func34, Tryd.ntmps34
        go_wp2_with fail
        go_quiet (fail)
        go_wp2_with fail
        go_ret
        exact ⟨rfl, HE.out _ (below_seq H0 below_drewN')⟩
      · obtain ⟨ys, z, rfl⟩ : ∃ ys z, st = ys ++ [z] := ⟨st.dropLast, st.getLast hnil, (List.dropLast_concat_getLast hnil).symm⟩
        have hzn : (z == n) = false := by
          have : ¬ z = n := fun e => hlast (by rw [e]; simp)
          simpa using this
        have hzn' : (z != n) = true := by simp [bne, hzn]
        have hlen : (ys ++ [z]).length = ys.length + 1 := by simp
        obtain ⟨ad', c', e9, -, hcp, hrow⟩ := HO.out.2.row
        cases e9
        rcases hrow with hrow | ⟨rb, ro, rfl, hrow⟩
        · simp at hrow
        have hcell := nu_at (j := ys.length) (z := z) hrow (by simp)
        have hrl : rb < W.heap.size := World.block_lt_of_cell? _ _ hcell
        rw [hlen] at g0 hcp
        have h9 : (ys.length : Int) < (ys.length : Int) + 1 := by omega
        have h8 : ¬ ((ys.length : Int) < 0) := by omega
        clear hrow
        go_enter Tryd.func34, Tryd.ntmps34
        go_wp2_with fail
        go_quiet (fail)
        go_wp2_with fail
        go_ret
        exact ⟨rfl, HE.out _ (below_seq H0 below_drewN')⟩
  · have b3 : (d == 3) = false := by simpa using h3
    have e : doC st ⟨d, n⟩ = 6 := by simp [doC, h1, h2, h3]
    rw [e]
    go_enter Tryd.func34, Tryd.ntmps34
    go_wp2_with fail
    go_ret
    exact ⟨rfl, HS.out _ H0 (fun h => by rw [e] at h; cases h)⟩
end Go.Proofs.YtkafihaajpifoagDoor
