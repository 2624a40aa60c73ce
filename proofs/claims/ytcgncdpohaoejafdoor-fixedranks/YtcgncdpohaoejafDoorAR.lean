import Derived.Test.YtcgncdpohaoejafDoorAJ
import Derived.Deep.CutRange
import Derived.Deep.CutBlock
namespace Go.Proofs.YtcgncdpohaoejafDoor
open Go.ChangeShapes Go.WideShapes Go.ChangeAt Go.RowKit Go.Sort

theorem by46R_any (w : World) (x : Ta) : Calls Tryd.prog 19 #[.agg #[.string x.nm, .int .i64 x.c, .int .i64 x.t, .int .i64 x.d, .int .i64 x.j, .int .i64 x.o, .int .i64 x.p]] w fun r w' => r = .returned (.int .i64 x.t) ∧ Grown w w' := by
  obtain ⟨x0, x1, x2, x3, x4, x5, x6⟩ := x
  dsimp only
  go_enter Tryd.func19, Tryd.ntmps19
  go_wp2_with fail
  go_ret
  exact ⟨rfl, (Grown.refl w).alloc _⟩

set_option maxRecDepth 20000 in
set_option maxHeartbeats 4000000 in
theorem byDueR_any (w : World) (l : List Ta) (v : Value) (bB bS i k : Nat) (hi : i < l.length) (hk : k < l.length) (hv : RowSl Ta.vals w l v) (h1 : w.cell? ⟨bB, 0, none⟩ = some (.func (Fn.func 19) #[] #[])) (h2 : w.cell? ⟨bS, 0, none⟩ = some v) :
    Calls Tryd.prog 40 #[.int .i64 (i : Int), .int .i64 (k : Int), .pointer (some ⟨bB, 0, none⟩), .pointer (some ⟨bS, 0, none⟩)] w fun r w' => r = .returned (.int .i64 (cmpI (Tk l i).t (Tk l k).t)) ∧ Grown w w' := by
  obtain ⟨ad, c, rfl, -, hcap, hrow⟩ := hv
  rcases hrow with h | ⟨b, o, rfl, hrow⟩
  · rw [h] at hi; simp at hi
  have ca := ta_at hrow (Tk_get hi)
  have cb := ta_at hrow (Tk_get hk)
  have hi' : (i : Int) < (l.length : Int) := by omega
  have hk' : (k : Int) < (l.length : Int) := by omega
  clear hrow
  generalize Tk l i = xa at *
  generalize Tk l k = xb at *
  go_enter Tryd.func40, Tryd.ntmps40
  go_wp2_with fail
  refine wp_region_noPanic ?_
  refine wp_region_held_drew (S := fun w' => Grown w w' ∧ w'.cell? ⟨bB, 0, none⟩ = some (.func (Fn.func 19) #[] #[]) ∧ w'.cell? ⟨bS, 0, none⟩ = some (.slice (some ⟨b, o, none⟩) l.length c) ∧ TaAt w' b (o + i * 7) xa ∧ TaAt w' b (o + k * 7) xb) (by kernel_rfl) ⟨(Grown.refl w).drew, h1, h2, ca, cb⟩ (fun hHeld => ?_)
  refine take_at (i := 0) (n := 7) (v := ?_) rfl rfl (by kernel_rfl) (by kernel_rfl) (by kernel_rfl) (fun _ _ _ h => h) (Or.inl ⟨by rfl, ?_⟩) (by assumption) ?_
  rotate_left 1
  · intro wz hSw
    obtain ⟨k0, k1, k2, ⟨a0, a1, a2, a3, a4, a5, a6⟩, ⟨c0, c1, c2, c3, c4, c5, c6⟩⟩ := hSw
    first | (go_simp; done) | (go_simp; with_reducible rfl)
  simp only [List.set_cons_zero, List.set_cons_succ]
  refine take_at (i := 1) (n := 8) (v := ?_) rfl rfl (by kernel_rfl) (by kernel_rfl) (by kernel_rfl) (fun _ _ _ h => h) (Or.inl ⟨by rfl, ?_⟩) (by assumption) ?_
  rotate_left 1
  · intro wz hSw
    obtain ⟨k0, k1, k2, ⟨a0, a1, a2, a3, a4, a5, a6⟩, ⟨c0, c1, c2, c3, c4, c5, c6⟩⟩ := hSw
    first | (go_simp; done) | (go_simp; with_reducible rfl)
  simp only [List.set_cons_zero, List.set_cons_succ]
  refine take_at (i := 2) (n := 9) (v := ?_) rfl rfl (by kernel_rfl) (by kernel_rfl) (by kernel_rfl) (fun _ _ _ h => h) (Or.inl ⟨by rfl, ?_⟩) (by assumption) ?_
  rotate_left 1
  · intro wz hSw
    obtain ⟨k0, k1, k2, ⟨a0, a1, a2, a3, a4, a5, a6⟩, ⟨c0, c1, c2, c3, c4, c5, c6⟩⟩ := hSw
    first | (go_simp; done) | (go_simp; with_reducible rfl)
  simp only [List.set_cons_zero, List.set_cons_succ]
  refine take_at (i := 3) (n := 10) (v := ?_) rfl rfl (by kernel_rfl) (by kernel_rfl) (by kernel_rfl) (fun _ _ _ h => h) (Or.inl ⟨by rfl, ?_⟩) (by assumption) ?_
  rotate_left 1
  · intro wz hSw
    obtain ⟨k0, k1, k2, ⟨a0, a1, a2, a3, a4, a5, a6⟩, ⟨c0, c1, c2, c3, c4, c5, c6⟩⟩ := hSw
    first | (go_simp; done) | (go_simp; with_reducible rfl)
  simp only [List.set_cons_zero, List.set_cons_succ]
  refine take_at (i := 4) (n := 11) (v := ?_) rfl rfl (by kernel_rfl) (by kernel_rfl) (by kernel_rfl) (fun _ _ _ h => h) (Or.inl ⟨by rfl, ?_⟩) (by assumption) ?_
  rotate_left 1
  · intro wz hSw
    obtain ⟨k0, k1, k2, ⟨a0, a1, a2, a3, a4, a5, a6⟩, ⟨c0, c1, c2, c3, c4, c5, c6⟩⟩ := hSw
    first | (go_simp; done) | (go_simp; with_reducible rfl)
  simp only [List.set_cons_zero, List.set_cons_succ]
  refine take_at (i := 6) (n := 13) (v := ?_) rfl rfl (by kernel_rfl) (by kernel_rfl) (by kernel_rfl) (fun _ _ _ h => h) (Or.inl ⟨by rfl, ?_⟩) (by assumption) ?_
  rotate_left 1
  · intro wz hSw
    obtain ⟨k0, k1, k2, ⟨a0, a1, a2, a3, a4, a5, a6⟩, ⟨c0, c1, c2, c3, c4, c5, c6⟩⟩ := hSw
    first | (go_simp; done) | (go_simp; with_reducible rfl)
  simp only [List.set_cons_zero, List.set_cons_succ]
  refine take_at (i := 7) (n := 14) (v := ?_) rfl rfl (by kernel_rfl) (by kernel_rfl) (by kernel_rfl) (fun _ _ _ h => h) (Or.inl ⟨by rfl, ?_⟩) (by assumption) ?_
  rotate_left 1
  · intro wz hSw
    obtain ⟨k0, k1, k2, ⟨a0, a1, a2, a3, a4, a5, a6⟩, ⟨c0, c1, c2, c3, c4, c5, c6⟩⟩ := hSw
    first | (go_simp; done) | (go_simp; with_reducible rfl)
  simp only [List.set_cons_zero, List.set_cons_succ]
  refine take_at (i := 8) (n := 15) (v := ?_) rfl rfl (by kernel_rfl) (by kernel_rfl) (by kernel_rfl) (fun _ _ _ h => h) (Or.inl ⟨by rfl, ?_⟩) (by assumption) ?_
  rotate_left 1
  · intro wz hSw
    obtain ⟨k0, k1, k2, ⟨a0, a1, a2, a3, a4, a5, a6⟩, ⟨c0, c1, c2, c3, c4, c5, c6⟩⟩ := hSw
    first | (go_simp; done) | (go_simp; with_reducible rfl)
  simp only [List.set_cons_zero, List.set_cons_succ]
  refine take_at (i := 9) (n := 16) (v := ?_) rfl rfl (by kernel_rfl) (by kernel_rfl) (by kernel_rfl) (fun _ _ _ h => h) (Or.inl ⟨by rfl, ?_⟩) (by assumption) ?_
  rotate_left 1
  · intro wz hSw
    obtain ⟨k0, k1, k2, ⟨a0, a1, a2, a3, a4, a5, a6⟩, ⟨c0, c1, c2, c3, c4, c5, c6⟩⟩ := hSw
    first | (go_simp; done) | (go_simp; with_reducible rfl)
  simp only [List.set_cons_zero, List.set_cons_succ]
  refine take_at (i := 10) (n := 17) (v := ?_) rfl rfl (by kernel_rfl) (by kernel_rfl) (by kernel_rfl) (fun _ _ _ h => h) (Or.inl ⟨by rfl, ?_⟩) (by assumption) ?_
  rotate_left 1
  · intro wz hSw
    obtain ⟨k0, k1, k2, ⟨a0, a1, a2, a3, a4, a5, a6⟩, ⟨c0, c1, c2, c3, c4, c5, c6⟩⟩ := hSw
    first | (go_simp; done) | (go_simp; with_reducible rfl)
  simp only [List.set_cons_zero, List.set_cons_succ]
  refine wpAnyH_ready (rs := [5]) (by kernel_rfl) (by simp) ?_
  refine AllReadyH.cons rfl (fun K hK => ?_) AllReadyH.nil
  go_simp
  go_wp2_with (go_at_call 19; refine (by46R_any _ xa).mono ?_; rintro r w1 ⟨rfl, hg1⟩; have H1 : Hid (Grown w w1) := (Grown.refl w).drew.trans hg1; clear hg1)
  refine hK.out _ _ ⟨H1.out, below_cell H1.out.below h1, below_cell H1.out.below h2, TaAt.belowA H1.out.below ca, TaAt.belowA H1.out.below cb⟩ (fun hHeld => ?_)
  clear hK K
  refine wpAnyH_ready (rs := [11]) (by kernel_rfl) (by simp) ?_
  refine AllReadyH.cons rfl (fun K hK => ?_) AllReadyH.nil
  go_simp
  go_wp2_with (go_at_call 19; refine (by46R_any _ xb).mono ?_; rintro r w2 ⟨rfl, hg2⟩; have H2 : Hid (Grown w w2) := H1.out.trans hg2; clear hg2)
  refine hK.out _ _ ⟨H2.out, below_cell H2.out.below h1, below_cell H2.out.below h2, TaAt.belowA H2.out.below ca, TaAt.belowA H2.out.below cb⟩ (fun hHeld => ?_)
  clear hK K
  refine wpAnyH_ready (rs := [12]) (by kernel_rfl) (by simp) ?_
  refine AllReadyH.cons rfl (fun K hK => ?_) AllReadyH.nil
  go_simp
  go_wp2_with (go_at_call 41; refine (Compare_any _ xa.t xb.t).mono ?_; rintro r w3 ⟨rfl, hw3⟩; subst hw3)
  refine hK.out _ _ ⟨H2.out, below_cell H2.out.below h1, below_cell H2.out.below h2, TaAt.belowA H2.out.below ca, TaAt.belowA H2.out.below cb⟩ (fun hHeld => ?_)
  clear hK K
  refine take_at (i := 13) (n := 6) (v := ?_) rfl rfl (by kernel_rfl) (by kernel_rfl) (by kernel_rfl) (fun _ _ _ h => h) (Or.inl ⟨by rfl, ?_⟩) (by assumption) ?_
  rotate_left 1
  · intro wz hSw
    obtain ⟨k0, k1, k2, ⟨a0, a1, a2, a3, a4, a5, a6⟩, ⟨c0, c1, c2, c3, c4, c5, c6⟩⟩ := hSw
    first | (go_simp; done) | (go_simp; with_reducible rfl)
  simp only [List.set_cons_zero, List.set_cons_succ]
  refine wpAnyH_done (by kernel_rfl) ?_ _
  refine NoPanic.normal ?_
  go_wp2_with fail
  go_ret
  exact ⟨rfl, H2.out⟩

theorem insR_any (W : World) (l : List Ta) (v : Value) (bB bS g : Nat) (h0 : 0 < l.length) (h8 : l.length ≤ 8) (hv : RowSl Ta.vals W l v) (h1 : W.cell? ⟨bB, 0, none⟩ = some (.func (Fn.func 19) #[] #[])) (h2 : W.cell? ⟨bS, 0, none⟩ = some v) (hn1 : bB ≠ g) (hn2 : bS ≠ g) (hrow : ∀ ad c, v = .slice ad l.length c → ∀ b o, ad = some ⟨b, o, none⟩ → b ≠ g) (hN : NumB W g (zI (List.range l.length))) :
    Calls Tryd.prog 55 #[.slice (some ⟨g, 0, none⟩) l.length l.length, .int .i64 0, .int .i64 (l.length : Int), .func (.func 40) #[] #[.pointer (some ⟨bB, 0, none⟩), .pointer (some ⟨bS, 0, none⟩)]] W fun r W' => r = .returned (.tuple #[]) ∧ ∃ od, InOrd (fun k => (Tk l k).t) l.length od ∧ NumB W' g (zI od) ∧ W.grownBy W' (some g) := by
  haveI : Inhabited (Fin l.length) := ⟨⟨0, h0⟩⟩
  have eg : ∀ args w, (callFunc 40 args).run Tryd.prog w = .ok (.enter 40 args) w := enters_of Tryd.func40 (by kernel_rfl) rfl
  have hsz : (finL l.length).toArray.size = l.length := by simp [finL_len]
  have hC' : W.heap[g]? = some (.cells ((finL l.length).toArray.map (encA l.length)) 3 (0, 0)) := by
    rw [hN, List.map_toArray, encA_map, finL_val]
  have hH : Holds (encA l.length) W g 0 (finL l.length).toArray := by
    intro j hj
    have hj' : j < l.length := by rw [hsz] at hj; exact hj
    obtain ⟨c1, c2⟩ := hN.cell (i := j) (x := (j : Int)) (by unfold zI; simp [hj'])
    refine ⟨?_, by rw [Nat.zero_add]; exact c2⟩
    rw [Nat.zero_add, c1]
    unfold encA
    rw [finL_get hj']
  have hcmp : CmpLays1 Tryd.prog 40 #[.pointer (some ⟨bB, 0, none⟩), .pointer (some ⟨bS, 0, none⟩)] (encA l.length) (fun x y => cmpI (Tk l x.val).t (Tk l y.val).t) g 0 (finL l.length).toArray.size W := fun m os dk _ x y => by
    have hk := sorted_keep (encA l.length) (w := W) (g := g) (n := m) (os := os) dk
    have kc : ∀ (a : Addr) (u : Value), W.cell? a = some u → a.block ≠ g → (sortWorld (encA l.length) W g 0 m dk os).cell? a = some u := fun a u hu hne => hk.cell hu (fun e => hne (Option.some.inj e))
    have hv' : RowSl Ta.vals (sortWorld (encA l.length) W g 0 m dk os) l v := by
      obtain ⟨ad, c, rfl, q1, q2, q3⟩ := hv
      refine ⟨ad, c, rfl, q1, q2, ?_⟩
      rcases q3 with q3 | ⟨b, o, e, q3⟩
      · exact .inl q3
      · exact .inr ⟨b, o, e, fun q u hq => kc _ _ (q3 q u hq) (hrow ad c rfl b o e)⟩
    refine (byDueR_any _ l v bB bS x.val y.val x.isLt y.isLt hv' (kc _ _ h1 hn1) (kc _ _ h2 hn2)).mono ?_
    rintro r w' ⟨rfl, q, os', rfl⟩
    exact ⟨rfl, q, os', rfl⟩
  have h := Any.insertionSortCmpFunc_s lay_insNu (encA l.length) (fun x y => cmpI (Tk l x.val).t (Tk l y.val).t) 40 #[.pointer (some ⟨bB, 0, none⟩), .pointer (some ⟨bS, 0, none⟩)] g 0 l.length 0 l.length (finL l.length).toArray (finL l.length).toArray W W eg hcmp ⟨fun _ => rfl, hH, hN.lt⟩ rfl (SW.start hH) (Nat.zero_le _) (by omega) (by omega)
  rw [hsz] at h
  change Calls Tryd.prog 55 _ _ _ at h
  refine h.mono ?_
  rintro r W' ⟨rfl, n, os, rfl⟩
  have elt : ltOf (fun x y : Fin l.length => cmpI (Tk l x.val).t (Tk l y.val).t) = ltKA (fun p : Fin l.length => p.val) (fun k => (Tk l k).t) := by
    funext x y
    unfold ltOf cmpI ltKA
    by_cases h1 : (Tk l x.val).t < (Tk l y.val).t
    · simp [h1]
    · by_cases h2 : (Tk l y.val).t < (Tk l x.val).t <;> simp [h1, h2]
  rw [elt]
  have hin := sortA_inOrd (fun k => (Tk l k).t) l.length
  have hds : (insertionSort (ltKA (fun p : Fin l.length => p.val) (fun k => (Tk l k).t)) (finL l.length).toArray 0 l.length).size = l.length := by
    have := hin.1.length_eq
    simpa using this
  refine ⟨rfl, _, hin, ?_, sorted_keep _ _⟩
  have h9 := sorted_heap (n := n) (os := os) (encA l.length) (insertionSort (ltKA (fun p : Fin l.length => p.val) (fun k => (Tk l k).t)) (finL l.length).toArray 0 l.length) hC' (by rw [Array.size_map, hsz, hds])
  unfold NumB
  rw [show (sortWorld (encA l.length) W g 0 n _ os).heap[g]? = _ from h9, ← encA_map]
  congr 2
  apply Array.toList_inj.1
  simp

set_option maxRecDepth 20000 in
set_option maxHeartbeats 2000000 in
theorem stableR_any (W : World) (l : List Ta) (v : Value) (bB bS g : Nat) (h0 : 0 < l.length) (h8 : l.length ≤ 8) (hv : RowSl Ta.vals W l v) (h1 : W.cell? ⟨bB, 0, none⟩ = some (.func (Fn.func 19) #[] #[])) (h2 : W.cell? ⟨bS, 0, none⟩ = some v) (hn1 : bB ≠ g) (hn2 : bS ≠ g) (hrow : ∀ ad c, v = .slice ad l.length c → ∀ b o, ad = some ⟨b, o, none⟩ → b ≠ g) (hN : NumB W g (zI (List.range l.length))) :
    Calls Tryd.prog 49 #[.slice (some ⟨g, 0, none⟩) l.length l.length, .int .i64 (l.length : Int), .func (Fn.func 40) #[] #[.pointer (some ⟨bB, 0, none⟩), .pointer (some ⟨bS, 0, none⟩)]] W fun r W' => r = .returned (.tuple #[]) ∧ ∃ od, InOrd (fun k => (Tk l k).t) l.length od ∧ NumB W' g (zI od) ∧ W.grownBy W' (some g) := by
  have HI := insR_any W l v bB bS g h0 h8 hv h1 h2 hn1 hn2 hrow hN
  have ha : ¬ (20 : Int) ≤ (l.length : Int) := by omega
  have hb : ¬ (20 : Int) < (l.length : Int) := by omega
  clear hv h1 h2 hn1 hn2 hrow hN
  go_enter Tryd.func49, Tryd.ntmps49
  go_wp2_with fail
  go_loopw [7, 8] (fun v7 v8 wr => v7 = .int .i64 0 ∧ v8 = .int .i64 20 ∧ wr = W) (fun _ _ _ => 0)
  case atStart => exact ⟨rfl, rfl, rfl⟩
  case round =>
    obtain ⟨rfl, rfl, hw⟩ := hrel
    have hw := hw.symm
    subst hw
    go_wp2_with (go_at_call 55; refine HI.mono ?_; rintro r w5 ⟨rfl, h5⟩; have H5 : Hid (∃ od, InOrd (fun k => (Tk l k).t) l.length od ∧ NumB w5 g (zI od) ∧ W.grownBy w5 (some g)) := h5; clear h5 HI)
    go_loopw [6, 7, 8, 9] (fun v6 _ _ _ wr => v6 = .int .i64 20 ∧ wr = w5) (fun _ _ _ _ _ => 0)
    case atStart => exact ⟨rfl, rfl⟩
    case round =>
      obtain ⟨rfl, hw⟩ := hrel
      have hw := hw.symm
      subst hw
      go_wp2_with fail
      go_end0
      exact ⟨rfl, H5.out⟩

set_option maxRecDepth 20000 in
theorem sortSR_any (W : World) (l : List Ta) (v : Value) (bB bS g : Nat) (h0 : 0 < l.length) (h8 : l.length ≤ 8) (hv : RowSl Ta.vals W l v) (h1 : W.cell? ⟨bB, 0, none⟩ = some (.func (Fn.func 19) #[] #[])) (h2 : W.cell? ⟨bS, 0, none⟩ = some v) (hn1 : bB ≠ g) (hn2 : bS ≠ g) (hrow : ∀ ad c, v = .slice ad l.length c → ∀ b o, ad = some ⟨b, o, none⟩ → b ≠ g) (hN : NumB W g (zI (List.range l.length))) :
    Calls Tryd.prog 39 #[.slice (some ⟨g, 0, none⟩) l.length l.length, .func (Fn.func 40) #[] #[.pointer (some ⟨bB, 0, none⟩), .pointer (some ⟨bS, 0, none⟩)]] W fun r W' => r = .returned (.tuple #[]) ∧ ∃ od, InOrd (fun k => (Tk l k).t) l.length od ∧ NumB W' g (zI od) ∧ W.grownBy W' (some g) := by
  have HI := stableR_any W l v bB bS g h0 h8 hv h1 h2 hn1 hn2 hrow hN
  clear hv h1 h2 hn1 hn2 hrow hN
  go_enter Tryd.func39, Tryd.ntmps39
  go_wp2_with (go_at_call 49; refine HI.mono ?_; rintro r w5 ⟨rfl, h5⟩; have H5 : Hid (∃ od, InOrd (fun k => (Tk l k).t) l.length od ∧ NumB w5 g (zI od) ∧ W.grownBy w5 (some g)) := h5; clear h5 HI)
  go_end0
  exact ⟨rfl, H5.out⟩

set_option maxRecDepth 20000 in
set_option maxHeartbeats 8000000 in
theorem rankedR_good (w : World) (l : List Ta) (v : Value) (hX : (chkF l).1 = 0) (hv : RowSl Ta.vals w l v) :
    Calls Tryd.prog 18 #[v, .func (Fn.func 19) #[] #[]] w fun r w' => ∃ u od, r = .returned (.tuple #[u, .agg #[.int .i64 0, .int .i64 0]]) ∧ InOrd (fun k => (Tk l k).t) l.length od ∧ RowHi w.heap.size w' (rkF l od 0 l) u ∧ Below w.heap.size w w' := by
  obtain ⟨hl0, h8, -⟩ := chkF_ok hX
  obtain ⟨ad, c, rfl⟩ := hv.len
  have hll : 0 < l.length := by omega
  have HV : Hid (RowSl Ta.vals w l (.slice ad l.length c) ∧ ∀ ad' c', (.slice ad l.length c : Value) = .slice ad' l.length c' → ∀ b o, ad' = some ⟨b, o, none⟩ → b < w.heap.size) := ⟨hv, row_low hv hll⟩
  have hb0 : Below w.heap.size w (((w.alloc (.cells #[.slice ad l.length c] 22)).alloc (.cells #[.func (Fn.func 19) #[] #[]] 35)).alloc (.cells #[.int .i64 0, .int .i64 0] 26)) := below_seq (below_seq (below_new _ _) (below_new _ _)) (below_new _ _)
  have HC := Check_any (((w.alloc (.cells #[.slice ad l.length c] 22)).alloc (.cells #[.func (Fn.func 19) #[] #[]] 35)).alloc (.cells #[.int .i64 0, .int .i64 0] 26)) l _ (hv.below hb0)
  rw [hX] at HC
  generalize (chkF l).2 = z2 at HC
  have H0 : Hid (Below w.heap.size w (((w.alloc (.cells #[.slice ad l.length c] 22)).alloc (.cells #[.func (Fn.func 19) #[] #[]] 35)).alloc (.cells #[.int .i64 0, .int .i64 0] 26)) ∧ (((w.alloc (.cells #[.slice ad l.length c] 22)).alloc (.cells #[.func (Fn.func 19) #[] #[]] 35)).alloc (.cells #[.int .i64 0, .int .i64 0] 26)).heap[w.heap.size]? = some (.cells #[.slice ad l.length c] 22 (0, 0)) ∧ (((w.alloc (.cells #[.slice ad l.length c] 22)).alloc (.cells #[.func (Fn.func 19) #[] #[]] 35)).alloc (.cells #[.int .i64 0, .int .i64 0] 26)).heap[w.heap.size + 1]? = some (.cells #[.func (Fn.func 19) #[] #[]] 35 (0, 0)) ∧ (((w.alloc (.cells #[.slice ad l.length c] 22)).alloc (.cells #[.func (Fn.func 19) #[] #[]] 35)).alloc (.cells #[.int .i64 0, .int .i64 0] 26)).heap[w.heap.size + 1 + 1]? = some (.cells #[.int .i64 0, .int .i64 0] 26 (0, 0))) := by
    refine ⟨hb0, ?_, ?_, heap_new3 _ _ _ _⟩
    · exact (Below.heap_alloc _ _ _ (by simp; omega)).trans ((Below.heap_alloc _ _ _ (by simp)).trans (heap_alloc_new _ _))
    · exact (Below.heap_alloc _ _ _ (by simp)).trans (heap_new2 _ _ _)
  clear hv hX hb0 hl0
  go_enter Tryd.func18, Tryd.ntmps18
  go_upto_region 4 with (go_at_call 38; refine HC.mono ?_; rintro r w1 ⟨rfl, hb1⟩; have H1 : Hid (Below w.heap.size w (w1.alloc (.cells #[.int .i64 0, .int .i64 z2] 26)) ∧ (w1.alloc (.cells #[.int .i64 0, .int .i64 z2] 26)).heap[w.heap.size]? = some (.cells #[.slice ad l.length c] 22 (0, 0)) ∧ (w1.alloc (.cells #[.int .i64 0, .int .i64 z2] 26)).heap[w.heap.size + 1]? = some (.cells #[.func (Fn.func 19) #[] #[]] 35 (0, 0)) ∧ (w1.alloc (.cells #[.int .i64 0, .int .i64 z2] 26)).heap[w.heap.size + 1 + 1]? = some (.cells #[.int .i64 0, .int .i64 0] 26 (0, 0))) := ⟨below_seq (below_seq H0.out.1 hb1) (below_new _ _), ((below_seq hb1 (below_new w1 (.cells #[.int .i64 0, .int .i64 z2] 26))).block _ (lt_heap H0.out.2.1)).trans H0.out.2.1, ((below_seq hb1 (below_new w1 (.cells #[.int .i64 0, .int .i64 z2] 26))).block _ (lt_heap H0.out.2.2.1)).trans H0.out.2.2.1, ((below_seq hb1 (below_new w1 (.cells #[.int .i64 0, .int .i64 z2] 26))).block _ (lt_heap H0.out.2.2.2)).trans H0.out.2.2.2⟩; clear hb1 HC H0)
  generalize w1.alloc (.cells #[.int .i64 0, .int .i64 z2] 26) = wA at *
  have q1 := (cells_of (l := [_]) H1.out.2.1).1 0 _ rfl
  go_upto_region 5 with (go_at_call 28; refine (numbers_any wA l.length (by omega)).mono ?_; rintro r w3 ⟨gN, rfl, hN3, hg3, hb3⟩; have H3 : Hid ((Below w.heap.size w w3 ∧ w3.heap[w.heap.size]? = some (.cells #[.slice ad l.length c] 22 (0, 0)) ∧ w3.heap[w.heap.size + 1]? = some (.cells #[.func (Fn.func 19) #[] #[]] 35 (0, 0)) ∧ w3.heap[w.heap.size + 1 + 1]? = some (.cells #[.int .i64 0, .int .i64 0] 26 (0, 0))) ∧ NumB w3 gN (zI (List.range l.length)) ∧ wA.heap.size ≤ gN ∧ w.heap.size + 1 + 1 < wA.heap.size) := ⟨⟨below_seq H1.out.1 hb3, (hb3.block _ (lt_heap H1.out.2.1)).trans H1.out.2.1, (hb3.block _ (lt_heap H1.out.2.2.1)).trans H1.out.2.2.1, (hb3.block _ (lt_heap H1.out.2.2.2)).trans H1.out.2.2.2⟩, hN3, hg3, lt_heap H1.out.2.2.2⟩; clear hb3 hN3 hg3 H1 q1)
  have HSo := sortSR_any w3 l _ (w.heap.size + 1) w.heap.size gN hll h8 (HV.out.1.below H3.out.1.1) ((cells_of (l := [_]) H3.out.1.2.2.1).1 0 _ rfl) ((cells_of (l := [_]) H3.out.1.2.1).1 0 _ rfl) (by have := H3.out.2.2; omega) (by have := H3.out.2.2; omega) (fun ad' c' e b o e' => by have := HV.out.2 ad' c' e b o e'; have := H3.out.2.2; omega) H3.out.2.1
  go_upto_region 6 with (go_at_call 39; refine HSo.mono ?_; rintro r w4 ⟨rfl, od, hin, hN4, hg4⟩; have hb4 : Below (w.heap.size + 1 + 1 + 1) w3 w4 := (Below.refl _ w3).grown hg4 (by have := lt_heap H3.out.1.2.2.2; omega) (fun q hq => by have := H3.out.2.2; have := Option.some.inj hq; omega); have H4 : Hid (InOrd (fun k => (Tk l k).t) l.length od ∧ (Below w.heap.size w w4 ∧ w4.heap[w.heap.size]? = some (.cells #[.slice ad l.length c] 22 (0, 0)) ∧ w4.heap[w.heap.size + 1]? = some (.cells #[.func (Fn.func 19) #[] #[]] 35 (0, 0)) ∧ w4.heap[w.heap.size + 1 + 1]? = some (.cells #[.int .i64 0, .int .i64 0] 26 (0, 0))) ∧ NumB w4 gN (zI od) ∧ w.heap.size + 1 + 1 < gN) := ⟨hin, ⟨H3.out.1.1.trans (hb4.mono (by omega)), (hb4.block _ (by omega)).trans H3.out.1.2.1, (hb4.block _ (by omega)).trans H3.out.1.2.2.1, (hb4.block _ (by omega)).trans H3.out.1.2.2.2⟩, hN4, by have := H3.out.2.2; omega⟩; clear hin hN4 hg4 hb4 HSo H3)
  have q1 := (cells_of (l := [_]) H4.out.2.1.2.1).1 0 _ rfl
  go_upto_region 7 with (go_at_call 27; refine (cloneT_any w4 l _ (HV.out.1.below H4.out.2.1.1) hll (by omega)).mono ?_; rintro r w5 ⟨gO, ocap, rfl, ho5, hb5⟩; have H5 : Hid (RW w w5 w.heap.size (w.heap.size + 1 + 1) gN gO (.slice ad l.length c) ocap od l) := ⟨below_seq H4.out.2.1.1 hb5, (hb5.block _ (lt_heap H4.out.2.1.2.1)).trans H4.out.2.1.2.1, (hb5.block _ (lt_heap H4.out.2.1.2.2.2)).trans H4.out.2.1.2.2.2, H4.out.2.2.1.grow hb5, by (obtain ⟨e0, ⟨e1, -⟩ | ⟨g', cap', cur, e1, hB, hg, hc, hm, hss, ht⟩⟩ := ho5; (· cases e1); exact ⟨e0, .inr ⟨g', cap', cur, e1, by have := H4.out.2.1.1.size; omega, hg, hc, hm, hss, ht⟩⟩), by have := (World.ownsRow.lt ho5 gO rfl).1; have := H4.out.2.2.1.lt; have := H4.out.2.2.2; omega⟩; clear ho5 hb5 q1)
  have HO : Hid (InOrd (fun k => (Tk l k).t) l.length od) := H4.out.1
  have hodl : od.length = l.length := by have := H4.out.1.1.length_eq; simpa using this
  have HM : Hid (∀ i ∈ od, i < l.length) := fun i hi => by simpa using H4.out.1.1.mem_iff.1 hi
  clear H4
  go_wp2_with fail
  go_loopw [27] (fun vi wr => ∃ (j : Nat) (out : List Ta), j ≤ l.length ∧ vi = .int .i64 j ∧ RW w wr w.heap.size (w.heap.size + 1 + 1) gN gO (.slice ad l.length c) ocap od out ∧ out.length = l.length ∧ rkF l (od.drop j) j out = rkF l od 0 l) (fun vi _ => l.length - (intOf vi).toNat)
  case atStart => exact ⟨0, l, Nat.zero_le _, rfl, H5.out, rfl, rfl⟩
  case round =>
    obtain ⟨j, out, hj, rfl, hA, hol, hac⟩ := hrel
    have HA : Hid (RW w wr w.heap.size (w.heap.size + 1 + 1) gN gO (.slice ad l.length c) ocap od out) := hA
    by_cases hjl : j < l.length
    · obtain ⟨k, hk, hd⟩ := drop_at (l := od) (k := j) (by omega)
      have hkl := HM.out k (List.mem_of_getElem? hk)
      rw [rkF_at hd] at hac
      have HE : Hid (rkF l (od.drop (j + 1)) (j + 1) (setP out k ((l.length : Int) - (j : Int))) = rkF l od 0 l) := hac
      obtain ⟨nc, -⟩ := hA.num.cell (i := j) (x := (k : Int)) (by unfold zI; rw [List.getElem?_map, hk]; rfl)
      have q1 := (cells_of (l := [_]) hA.c1).1 0 _ rfl
      have ko : k < out.length := by omega
      have oc0 := hA.orow.cellAt (k * 7 + 6) (by omega)
      rw [flat_at Ta.vals 7 Ta.len out k 6 _ (Tk_get ko) (by omega)] at oc0
      have oc : wr.cell? ⟨gO, k * 7 + 6, none⟩ = some (.int .i64 (Tk out k).p) := oc0
      have of := hA.orow.frozenAt (k * 7 + 6)
      have og := (World.ownsRow.lt hA.orow gO rfl).2
      have hkk : (k : Int) < (l.length : Int) := by omega
      have hji : (j : Int) < (l.length : Int) := by omega
      generalize (Tk out k).p = oldp at *
      clear oc0 hac hd hk hA
      go_wp2_with fail
      exact ⟨⟨j + 1, setP out k ((l.length : Int) - (j : Int)), by omega, by simp, HA.out.put ko _, by unfold setP; simpa using hol, HE.out⟩, by simp [intOf]; omega⟩
    · have hje : j = l.length := by omega
      subst hje
      have HE : Hid (out = rkF l od 0 l) := by rw [← hodl, List.drop_length] at hac; exact hac
      obtain ⟨rs1, rf1, rl1⟩ := cells_of (l := [_, _]) hA.c5
      have r10 := rs1 0 _ rfl
      have r11 := rs1 1 _ rfl
      have f10 := rf1 0
      have f11 := rf1 1
      clear rs1 rf1 hA hac
      go_wp2_with fail
      refine bodyPost_ret (ranked_ends (g := w.heap.size + 1 + 1) (c := .int .i64 0) (k := .int .i64 0) (set_two HA.out.c5) rfl rfl) rfl ?_
      obtain ⟨o1, o2, o3, o4⟩ := HA.out.ord
      refine ⟨_, od, rfl, HO.out, ?_, (HA.out.bel.setCell (by show w.heap.size ≤ w.heap.size + 1 + 1; omega) _).setCell (by show w.heap.size ≤ w.heap.size + 1 + 1; omega) _⟩
      have e := ownsRow_keep2 (w' := (wr.setCell ⟨w.heap.size + 1 + 1, 0, none⟩ (.int .i64 0)).setCell ⟨w.heap.size + 1 + 1, 1, none⟩ (.int .i64 0)) HA.out.orow (fun q hq => by
        have hq' : gO = q := Option.some.inj hq
        rw [Below.heap_setCell _ _ _ _ (by show q ≠ w.heap.size + 1 + 1; omega), Below.heap_setCell _ _ _ _ (by show q ≠ w.heap.size + 1 + 1; omega)])
      have e2 := row_own e rfl
      rw [hol] at e2 e
      rw [← HE.out]
      exact ⟨gO, ocap, by rw [hol]; rfl, by omega, e2, _, _, _, e⟩

theorem DeadR_ends {w : World} {g : Nat} {c k p : Value} {a : Act} (h : w.heap[g]? = some (.cells #[c, k] 26 (0, 0))) (h2 : a.tmps[2]?.getD undef = p) (h3 : a.tmps[3]?.getD undef = .pointer (some ⟨g, 0, none⟩)) :
    (results Tryd.f4 a.tmps).run Tryd.prog w = .ok (.tuple #[p, .agg #[c, k]]) w := by
  obtain ⟨c1, f1, l1⟩ := cells_of (l := [_, _]) h
  have c10 := c1 0 _ rfl
  have c11 := c1 1 _ rfl
  subst h2
  simp [results, Tryd.results4, go_sem, h3, c10, c11]

set_option maxRecDepth 20000 in
theorem DeadlinesR_good (w : World) (l : List Ta) (v : Value) (hX : (chkF l).1 = 0) (hv : RowSl Ta.vals w l v) :
    Calls Tryd.prog 4 #[v] w fun r w' => ∃ u od, r = .returned (.tuple #[u, .agg #[.int .i64 0, .int .i64 0]]) ∧ InOrd (fun k => (Tk l k).t) l.length od ∧ RowHi w.heap.size w' (rkF l od 0 l) u ∧ Below w.heap.size w w' := by
  have HR := rankedR_good (w.alloc (.cells #[.int .i64 0, .int .i64 0] 26)) l v hX (hv.below (below_new _ _))
  obtain ⟨ad, c, rfl⟩ := hv.len
  have HF : Hid (FB w (w.alloc (.cells #[.int .i64 0, .int .i64 0] 26)) w.heap.size) := FB.start w
  clear hv hX
  go_enter Tryd.func4, Tryd.ntmps4
  go_wp2_with (go_at_call 18; refine HR.mono ?_; rintro r w1 ⟨u, od, rfl, hin, hru, hb1⟩; have H1 : Hid (FB w w1 w.heap.size ∧ InOrd (fun k => (Tk l k).t) l.length od ∧ RowHi (w.heap.size + 1) w1 (rkF l od 0 l) u ∧ Below (w.alloc (.cells #[.int .i64 0, .int .i64 0] 26)).heap.size (w.alloc (.cells #[.int .i64 0, .int .i64 0] 26)) w1) := ⟨HF.out.grow hb1, hin, by simpa using hru, hb1⟩; obtain ⟨rs1, rf1, rl1⟩ := cells_of (l := [_, _]) H1.out.1.res; have r10 := rs1 0 _ rfl; have r11 := rs1 1 _ rfl; have f10 := rf1 0; have f11 := rf1 1; clear rs1 rf1 hb1 hin hru HR)
  refine bodyPost_ret (DeadR_ends (g := w.heap.size) (c := .int .i64 0) (k := .int .i64 0) (set_two H1.out.1.res) rfl rfl) rfl ?_
  refine ⟨u, od, rfl, H1.out.2.1, ?_, H1.out.1.set _ _⟩
  obtain ⟨g, cap, e, hB, hr⟩ := (H1.out.2.2.1.set (q := w.heap.size) (o := 0) (x := .int .i64 0) (by omega)).set (q := w.heap.size) (o := 1) (x := .int .i64 0) (by omega)
  exact ⟨g, cap, e, by omega, hr⟩
end Go.Proofs.YtcgncdpohaoejafDoor
