import Derived.Test.YtccoobcggbbciadDoorTC
namespace Go.Proofs.YtccoobcggbbciadDoor
open Go.ChangeShapes Go.WideShapes Go.ChangeAt Go.RowKit

theorem take_at {P : Program} {md : Region.Mode} {ops : Array Oper} {Q : Exit → Act → World → Prop} {S : World → Prop} {i n : Nat} {oi : Oper} {v : Value} {fuel : Nat} {listed : Array Bool} {l : List Value} {ds : List Deferred} {w : World}
    (hi : ops[i]? = some oi) (hd : oi.dst = some n) (hs : Region.noSelect ops = true) (hf : Region.free md ops listed i = true) (hr : (Region.ready md ops listed).contains i = true)
    (hQ : ∀ c a w, Q (.panic c) (a.put oi.dst v) w → Q (.panic c) a w) (hy : YieldsIf P ops S oi v ⟨l.toArray, ds⟩) (hS : S w)
    (h : wpAnyH P md ops Q S fuel (listed.setIfInBounds i true) ⟨(l.set n v).toArray, ds⟩ w) : wpAnyH P md ops Q S (fuel + 1) listed ⟨l.toArray, ds⟩ w := by
  refine wpAnyH_take hi hs hf hr hQ hy hS ?_
  have e : Act.put ⟨l.toArray, ds⟩ oi.dst v = ⟨(l.set n v).toArray, ds⟩ := by rw [hd]; simp [Act.put]
  rw [e]
  exact h

theorem setCell_at {w : World} {g i : Nat} {cs : Array Value} {t : TypeId} {fr : Nat × Nat} {u : Value} (h : w.heap[g]? = some (.cells cs t fr)) : (w.setCell ⟨g, i, none⟩ u).heap[g]? = some (.cells (cs.setIfInBounds i u) t fr) := by
  have hlt : g < w.heap.size := (Array.getElem?_eq_some_iff.1 h).1
  have h' : w.heap[g] = .cells cs t fr := by simpa [Array.getElem?_eq_getElem hlt] using h
  show (w.heap.modify g _)[g]? = _
  rw [Array.getElem?_eq_getElem (by simpa using hlt), Array.getElem_modify_self, h']
  rfl

theorem set_two {w9 : World} {g : Nat} {a b x y : Value} (h : w9.heap[g]? = some (.cells #[x, y] 37 (0, 0))) : ((w9.setCell ⟨g, 0, none⟩ a).setCell ⟨g, 1, none⟩ b).heap[g]? = some (.cells #[a, b] 37 (0, 0)) := by
  rw [setCell_at (setCell_at h)]
  rfl

/-- A block for a fault, and nothing else below it turned. -/
structure FB (w W : World) (g : Nat) : Prop where
  bel : Below w.heap.size w W
  res : W.heap[g]? = some (.cells #[.int .i64 0, .int .i64 0] 37 (0, 0))
  low : w.heap.size ≤ g

theorem FB.grow {w W W' : World} {g : Nat} (h : FB w W g) (hb : Below W.heap.size W W') : FB w W' g :=
  ⟨below_seq h.bel hb, (hb.block g (Array.getElem?_eq_some_iff.1 h.res).1).trans h.res, h.low⟩

theorem FB.start (w : World) : FB w (w.alloc (.cells #[.int .i64 0, .int .i64 0] 37)) w.heap.size := ⟨below_new _ _, heap_alloc_new _ _, Nat.le_refl _⟩

theorem FB.lt {w W : World} {g : Nat} (h : FB w W g) : g < W.heap.size := (Array.getElem?_eq_some_iff.1 h.res).1

theorem FB.set {w W : World} {g : Nat} (h : FB w W g) (a b : Value) : Below w.heap.size w ((W.setCell ⟨g, 0, none⟩ a).setCell ⟨g, 1, none⟩ b) := (h.bel.setCell h.low _).setCell h.low _

theorem Check_ends {w : World} {g : Nat} {c k : Value} {a : Act} (h : w.heap[g]? = some (.cells #[c, k] 37 (0, 0))) (h3 : a.tmps[2]?.getD undef = .pointer (some ⟨g, 0, none⟩)) :
    (results Tryd.f19 a.tmps).run Tryd.prog w = .ok (.agg #[c, k]) w := by
  obtain ⟨c1, f1, l1⟩ := cells_of (l := [_, _]) h
  have c10 := c1 0 _ rfl
  have c11 := c1 1 _ rfl
  simp [results, Tryd.results19, go_sem, h3, c10, c11]

set_option maxRecDepth 20000 in
theorem Check_many (w : World) (n c : Nat) (ad : Option Addr) (h : n = 0 ∨ 8 < n) : Calls Tryd.prog 19 #[.slice ad n c] w fun r w' => r = .returned (.agg #[.int .i64 2, .int .i64 0]) ∧ Below w.heap.size w w' := by
  have hw : within (n : Int) 1 8 = false := by unfold within; simp; omega
  go_enter Tryd.func19, Tryd.ntmps19
  go_wp2_with (go_at_call 49; refine (within_any _ _ _ _).mono ?_; rintro r w1 ⟨rfl, rfl⟩; rw [hw])
  refine bodyPost_ret (Check_ends (heap_alloc_new _ _) rfl) rfl ?_
  exact ⟨rfl, below_new _ _⟩

set_option maxRecDepth 20000 in
set_option maxHeartbeats 4000000 in
theorem Check_few (w : World) (l : List Ta) (ad : Option Addr) (c : Nat) (h1 : l.length ≠ 0) (h8 : l.length ≤ 8) (hv : RowSl Ta.vals w l (.slice ad l.length c)) : Calls Tryd.prog 19 #[.slice ad l.length c] w fun r w' => r = .returned (.agg #[.int .i64 (chkFrom l l 0).1, .int .i64 (chkFrom l l 0).2]) ∧ Below w.heap.size w w' := by
  have hw : within (l.length : Int) 1 8 = true := by unfold within; simp; omega
  have HV : Hid (RowSl Ta.vals w l (.slice ad l.length c)) := hv
  obtain ⟨_, _, e, -, hcap, hrow⟩ := hv
  cases e
  rcases hrow with h | ⟨b, o, rfl, hrow⟩
  · rw [h] at h1; simp at h1
  have HR : Hid (∀ q u, (l.flatMap Ta.vals)[q]? = some u → w.cell? ⟨b, o + q, none⟩ = some u) := hrow
  clear hrow
  go_enter Tryd.func19, Tryd.ntmps19
  go_wp2_with (go_at_call 49; refine (within_any _ _ _ _).mono ?_; rintro r w1 ⟨rfl, rfl⟩; rw [hw])
  go_loopw [13] (fun i wr => ∃ j : Nat, j ≤ l.length ∧ i = .int .i64 j ∧ FB w wr w.heap.size ∧ chkFrom l (l.drop j) j = chkFrom l l 0) (fun i _ => l.length - (intOf i).toNat)
  case atStart => exact ⟨0, Nat.zero_le _, rfl, FB.start _, rfl⟩
  case round =>
    obtain ⟨j, hj, rfl, hb, hf⟩ := hrel
    by_cases hlt : j < l.length
    · obtain ⟨x, hx, hd⟩ := drop_at hlt
      rw [chkFrom_at hd] at hf
      have ha := ta_at (fun q u hq => below_cell hb.bel (HR.out q u hq)) hx
      have hsl := (HV.out.below hb.bel).take j hj
      obtain ⟨c0, c1, c2, c3, c4, c5, c6⟩ := ha
      have lb : b < wr.heap.size := World.block_lt_of_cell? _ _ c0
      have hj' : (j : Int) ≤ (l.length : Int) := by omega
      have hjc : (j : Int) ≤ (c : Int) := by omega
      have HW := wrong_any ((wr.alloc (.cells #[.string x.nm, .int .i64 x.c, .int .i64 x.t, .int .i64 x.d, .int .i64 x.j, .int .i64 x.o, .int .i64 x.p] 55)).drew) x (l.take j) (.slice (some ⟨b, o, none⟩) j c) (by simp; omega) ((hsl.below (below_new _ _)).below (Below.refl _ _).drew)
      unfold Ta.val at HW
      have HB : Hid (FB w (wr.alloc (.cells #[.string x.nm, .int .i64 x.c, .int .i64 x.t, .int .i64 x.d, .int .i64 x.j, .int .i64 x.o, .int .i64 x.p] 55)).drew w.heap.size) := (hb.grow (below_new _ _)).grow (Below.refl _ _).drew
      have HF : Hid ((if wrongF x (List.take j l) = 0 then chkFrom l (List.drop (j + 1) l) (j + 1) else (wrongF x (List.take j l), (j : Int))) = chkFrom l l 0) := hf
      generalize wrongF x (l.take j) = z at *
      clear hsl hb hf
      go_wp2_with fail
      refine wp_region_noPanic ?_
      refine wp_region_held_drew (S := fun w' => w'.cell? ⟨wr.heap.size, 0, none⟩ = some (.string x.nm) ∧ w'.cell? ⟨wr.heap.size, 1, none⟩ = some (.int .i64 x.c) ∧ w'.cell? ⟨wr.heap.size, 2, none⟩ = some (.int .i64 x.t) ∧ w'.cell? ⟨wr.heap.size, 3, none⟩ = some (.int .i64 x.d) ∧ w'.cell? ⟨wr.heap.size, 4, none⟩ = some (.int .i64 x.j) ∧ w'.cell? ⟨wr.heap.size, 5, none⟩ = some (.int .i64 x.o) ∧ w'.cell? ⟨wr.heap.size, 6, none⟩ = some (.int .i64 x.p)) (by kernel_rfl) (by refine ⟨?_, ?_, ?_, ?_, ?_, ?_, ?_⟩ <;> go_simp) (fun hHeld => ?_)
      refine take_at (i := 0) (n := 18) (v := ?_) rfl rfl (by kernel_rfl) (by kernel_rfl) (by kernel_rfl) (fun _ _ _ h => h) (Or.inl ⟨by rfl, ?_⟩) (by assumption) ?_
      rotate_left 1
      · intro wz hSw
        obtain ⟨k0, k1, k2, k3, k4, k5, k6⟩ := hSw
        first | (go_simp; done) | (go_simp; with_reducible rfl)
      simp only [List.set_cons_zero, List.set_cons_succ]
      refine take_at (i := 1) (n := 19) (v := ?_) rfl rfl (by kernel_rfl) (by kernel_rfl) (by kernel_rfl) (fun _ _ _ h => h) (Or.inl ⟨by rfl, ?_⟩) (by assumption) ?_
      rotate_left 1
      · intro wz hSw
        first | (go_simp; done) | (go_simp; with_reducible rfl)
      simp only [List.set_cons_zero, List.set_cons_succ]
      refine take_at (i := 2) (n := 20) (v := ?_) rfl rfl (by kernel_rfl) (by kernel_rfl) (by kernel_rfl) (fun _ _ _ h => h) (Or.inl ⟨by rfl, ?_⟩) (by assumption) ?_
      rotate_left 1
      · intro wz hSw
        first | (go_simp; done) | (go_simp; with_reducible rfl)
      simp only [List.set_cons_zero, List.set_cons_succ]
      refine take_at (i := 3) (n := 21) (v := ?_) rfl rfl (by kernel_rfl) (by kernel_rfl) (by kernel_rfl) (fun _ _ _ h => h) (Or.inl ⟨by rfl, ?_⟩) (by assumption) ?_
      rotate_left 1
      · intro wz hSw
        first | (go_simp; done) | (go_simp; with_reducible rfl)
      simp only [List.set_cons_zero, List.set_cons_succ]
      refine wpAnyH_ready (rs := [4]) (by kernel_rfl) (by simp) ?_
      refine AllReadyH.cons rfl (fun K hK => ?_) AllReadyH.nil
      go_wp2_with (go_at_call 50; refine HW.mono ?_; rintro r w1 ⟨rfl, hb1⟩)
      have H1 : Hid (FB w w1 w.heap.size) := HB.out.grow hb1
      refine hK.out _ _ (by refine ⟨?_, ?_, ?_, ?_, ?_, ?_, ?_⟩ <;> exact below_cell hb1 (by go_simp)) (fun hHeld => ?_)
      clear hK K HW
      refine take_at (i := 5) (n := 5) (v := ?_) rfl rfl (by kernel_rfl) (by kernel_rfl) (by kernel_rfl) (fun _ _ _ h => h) (Or.inl ⟨by rfl, ?_⟩) (by assumption) ?_
      rotate_left 1
      · intro wz hSw
        first | (go_simp; done) | (go_simp; with_reducible rfl)
      simp only [List.set_cons_zero, List.set_cons_succ]
      refine wpAnyH_done (by kernel_rfl) ?_ _
      refine NoPanic.normal ?_
      obtain ⟨rs1, rf1, rl1⟩ := cells_of (l := [_, _]) H1.out.res
      have r10 := rs1 0 _ rfl
      have r11 := rs1 1 _ rfl
      have f10 := rf1 0
      have f11 := rf1 1
      clear rs1 rf1 hb1 hHeld
      by_cases hz : z = 0
      · subst hz
        have e := HF.out
        rw [if_pos rfl] at e
        go_wp2_with fail
        go_roundw
        case rel => exact ⟨j + 1, by omega, by go_num, H1.out, e⟩
        case measure => simp [intOf]; omega
      · have e := HF.out
        rw [if_neg hz] at e
        have hzb : (z != 0) = true := by simpa using hz
        go_wp2_with fail
        refine bodyPost_ret (Check_ends (set_two H1.out.res) rfl) rfl ?_
        exact ⟨by rw [← e], H1.out.set _ _⟩
    · have hje : j = l.length := by omega
      subst hje
      rw [List.drop_length, chkFrom] at hf
      have H1 : Hid (FB w wr w.heap.size) := hb
      obtain ⟨rs1, rf1, rl1⟩ := cells_of (l := [_, _]) hb.res
      have r10 := rs1 0 _ rfl
      have r11 := rs1 1 _ rfl
      have f10 := rf1 0
      have f11 := rf1 1
      clear rs1 rf1 hb
      have HF : Hid ((0, 0) = chkFrom l l 0) := hf
      clear hf
      go_wp2_with fail
      refine bodyPost_ret (Check_ends (set_two H1.out.res) rfl) rfl ?_
      exact ⟨by rw [← HF.out], H1.out.set _ _⟩

/-- tasks.Check. -/
theorem Check_any (w : World) (l : List Ta) (v : Value) (hv : RowSl Ta.vals w l v) : Calls Tryd.prog 19 #[v] w fun r w' => r = .returned (.agg #[.int .i64 (chkF l).1, .int .i64 (chkF l).2]) ∧ Below w.heap.size w w' := by
  obtain ⟨ad, c, rfl⟩ := hv.len
  unfold chkF
  by_cases h : l.length = 0 ∨ 8 < l.length
  · rw [if_pos h]
    exact Check_many w l.length c ad h
  · rw [if_neg h]
    exact Check_few w l ad c (by omega) (by omega) hv
end Go.Proofs.YtccoobcggbbciadDoor
