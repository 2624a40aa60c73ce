import Derived.Test.YtcmoehednkaehahGOI
import Derived.Test.YtcmoehednkaehahGOV
import Derived.Test.YtcmoehednkaehahGLF
namespace Go.Proofs.Ytcmoehednkaehah
open Go.ChangeShapes Go.WideShapes Go.ChangeAt Go.RowKit

/-- Whether those that are there and not done all wait. -/
def stuckF (t : Int) : List En → List Int → Bool → Bool
  | e :: r, z :: q, s => if t ≤ e.x.a then stuckF t r q s else if z ≠ -1 then stuckF t r q s else if e.wt = -1 then false else stuckF t r q true
  | _, _, s => s

set_option maxRecDepth 20000 in
set_option maxHeartbeats 2000000 in
theorem stuck_any (w0 w : World) (A : Ad) (pr : Int) (tp : List Int) (n : Nat) (rv : Value) (x : Rs) (h : RunW w0 w A pr tp n rv x) (hn : n ≤ 100) (t : Int) :
    Calls Try.prog 23 #[.pointer (some ⟨A.R, 0, none⟩), .int .i64 t] w fun r w' => r = .returned (.bool (stuckF t x.es x.en false)) ∧ w' = w := by
  obtain ⟨-, d1, -, d4, -, -⟩ := h.own
  have H : Hid (RunW w0 w A pr tp n rv x) := h
  clear h
  go_enter Try.func23, Try.ntmps23
  go_wp2_with fail
  go_loopw [5, 12] (fun s i wr => ∃ (k : Nat) (b : Bool), k ≤ n ∧ s = .bool b ∧ i = .int .i64 k ∧ wr = w ∧ stuckF t (x.es.drop k) (x.en.drop k) b = stuckF t x.es x.en false) (fun _ i _ => n - (intOf i).toNat)
  case atStart => exact ⟨0, false, Nat.zero_le _, rfl, rfl, rfl, rfl⟩
  case round =>
    obtain ⟨k, b, hk, rfl, rfl, rfl, hs⟩ := hrel
    by_cases hlt : k < n
    · obtain ⟨e, he⟩ := at_lt H.out.ln.1 hlt
      obtain ⟨d, hd⟩ := at_lt H.out.ln.2.1 hlt
      obtain ⟨j0, -, -, -, -, -, j6, -⟩ := H.out.job he
      have HDone := done_any wr A.R A.E n n k d hlt d1 (H.out.ends hd)
      have hki : (k : Int) < (n : Int) := by omega
      rw [List.drop_eq_getElem_cons (List.getElem?_eq_some_iff.1 he).1, (List.getElem?_eq_some_iff.1 he).2, List.drop_eq_getElem_cons (List.getElem?_eq_some_iff.1 hd).1, (List.getElem?_eq_some_iff.1 hd).2, stuckF] at hs
      by_cases ha : t ≤ e.x.a
      · rw [if_pos ha] at hs
        have HS : Hid (stuckF t (x.es.drop (k + 1)) (x.en.drop (k + 1)) b = stuckF t x.es x.en false) := hs
        clear hs he hd HDone
        go_wp2_with fail
        exact ⟨⟨k + 1, b, by omega, rfl, by simp, by first | rfl | trivial, HS.out⟩, by simp [intOf]; omega⟩
      · rw [if_neg ha] at hs
        by_cases hdn : d = -1
        · subst hdn
          rw [if_neg (by simp)] at hs
          by_cases hw : e.wt = -1
          · rw [if_pos hw] at hs
            rw [hw] at j6
            have HS : Hid (false = stuckF t x.es x.en false) := hs
            clear hs he hd hw
            go_wp2_with (go_at_call 31; refine HDone.mono ?_; rintro r w2 ⟨rfl, rfl⟩; clear HDone)
            go_ret
            exact ⟨by rw [← HS.out]; rfl, rfl⟩
          · rw [if_neg hw] at hs
            have hw' : (e.wt == -1) = false := by simpa using hw
            have HS : Hid (stuckF t (x.es.drop (k + 1)) (x.en.drop (k + 1)) true = stuckF t x.es x.en false) := hs
            clear hs he hd hw
            go_wp2_with (go_at_call 31; refine HDone.mono ?_; rintro r w2 ⟨rfl, rfl⟩; clear HDone)
            exact ⟨⟨k + 1, true, by omega, rfl, by simp, by first | rfl | trivial, HS.out⟩, by simp [intOf]; omega⟩
        · rw [if_pos hdn] at hs
          have hdn' : (d != -1) = true := by simpa using hdn
          have HS : Hid (stuckF t (x.es.drop (k + 1)) (x.en.drop (k + 1)) b = stuckF t x.es x.en false) := hs
          clear hs he hd
          go_wp2_with (go_at_call 31; refine HDone.mono ?_; rintro r w2 ⟨rfl, rfl⟩; clear HDone)
          exact ⟨⟨k + 1, b, by omega, rfl, by simp, by first | rfl | trivial, HS.out⟩, by simp [intOf]; omega⟩
    · have hke : k = n := by omega
      subst hke
      rw [List.drop_eq_nil_of_le (by have := H.out.ln.1; omega), stuckF] at hs
      · have HS : Hid (b = stuckF t x.es x.en false) := hs
        clear hs
        go_wp2_with fail
        go_ret
        exact ⟨by rw [← HS.out]; rfl, rfl⟩
      · intro _ _ _ _ e; cases e

set_option maxRecDepth 20000 in
set_option maxHeartbeats 4000000 in
/-- The active priorities, where nobody lends his. -/
theorem raise_plain (w0 w : World) (A : Ad) (tp : List Int) (n : Nat) (rv : Value) (x : Rs) (h : RunW w0 w A 1 tp n rv x) (hn : n ≤ 100) :
    Calls Try.prog 39 #[.pointer (some ⟨A.R, 0, none⟩)] w fun r w' => r = .returned (.tuple #[]) ∧ RunW w0 w' A 1 tp n rv { x with es := x.es.map loF } := by
  obtain ⟨-, -, -, c4, -, -⟩ := h.own
  have HH : Hid (RunW w0 w A 1 tp n rv x) := h
  clear h
  go_enter Try.func39, Try.ntmps39
  go_wp2_with fail
  go_loopw [11] (fun i wr => ∃ k : Nat, k ≤ n ∧ i = .int .i64 k ∧ RunW w0 wr A 1 tp n rv { x with es := mid loF x.es k }) (fun i _ => n - (intOf i).toNat)
  case atStart => exact ⟨0, Nat.zero_le _, rfl, by rw [mid_zero]; exact HH.out⟩
  case round =>
    obtain ⟨k, hk, rfl, hr⟩ := hrel
    by_cases hlt' : k < n
    · obtain ⟨e, he⟩ := at_lt HH.out.ln.1 hlt'
      have hj := hr.job (mid_at loF he)
      obtain ⟨-, j1, -, -, -, -, -, j7⟩ := hj
      obtain ⟨-, -, -, d4, -, -⟩ := hr.own
      have hf7 := hr.frz.2.1 (k * 8 + 7)
      have hki : (k : Int) < (n : Int) := by omega
      obtain ⟨-, lJ, -⟩ := hr.lts
      have hRJ := hr.ne.1.1
      have hs := hr.setJ (k := 7) (u := .int .i64 e.x.p) (e' := loF e) (mid_at loF he) (by omega) rfl
      dsimp only at hs
      rw [mid_set loF he] at hs
      have HS : Hid (RunW w0 (wr.setCell ⟨A.J, k * 8 + 7, none⟩ (.int .i64 e.x.p)) A 1 tp n rv { x with es := mid loF x.es (k + 1) }) := hs
      clear hs hr he
      go_wp2_with fail
      have hS0 : (fun w' : World => w'.cell? ⟨A.R, 4, none⟩ = some (.slice (some ⟨A.J, 0, none⟩) n n) ∧ w'.cell? ⟨A.J, k * 8 + 1, none⟩ = some (.int .i64 e.x.p)) wr.drew := ⟨d4, j1⟩
      refine wp_region_noPanic ?_
      refine wp_region_held_drew (S := fun w' => w'.cell? ⟨A.R, 4, none⟩ = some (.slice (some ⟨A.J, 0, none⟩) n n) ∧ w'.cell? ⟨A.J, k * 8 + 1, none⟩ = some (.int .i64 e.x.p)) (by kernel_rfl) (hS0) (fun hHeld => ?_)
      refine take_at (i := 0) (n := 14) (v := ?_) rfl rfl (by kernel_rfl) (by kernel_rfl) (by kernel_rfl) (fun _ _ _ h => h) (Or.inl ⟨by rfl, ?_⟩) (by assumption) ?_
      rotate_left 1
      · intro wz hSw
        obtain ⟨s0, s1⟩ := hSw
        first | (go_simp; done) | (go_simp; with_reducible rfl)
      simp only [List.set_cons_zero, List.set_cons_succ]
      refine take_at (i := 1) (n := 15) (v := ?_) rfl rfl (by kernel_rfl) (by kernel_rfl) (by kernel_rfl) (fun _ _ _ h => h) (Or.inl ⟨by rfl, ?_⟩) (by assumption) ?_
      rotate_left 1
      · intro wz hSw
        obtain ⟨s0, s1⟩ := hSw
        first | (go_simp; done) | (go_simp; with_reducible rfl)
      simp only [List.set_cons_zero, List.set_cons_succ]
      refine take_at (i := 2) (n := 16) (v := ?_) rfl rfl (by kernel_rfl) (by kernel_rfl) (by kernel_rfl) (fun _ _ _ h => h) (Or.inl ⟨by rfl, ?_⟩) (by assumption) ?_
      rotate_left 1
      · intro wz hSw
        obtain ⟨s0, s1⟩ := hSw
        first | (go_simp; done) | (go_simp; with_reducible rfl)
      simp only [List.set_cons_zero, List.set_cons_succ]
      refine take_at (i := 3) (n := 17) (v := ?_) rfl rfl (by kernel_rfl) (by kernel_rfl) (by kernel_rfl) (fun _ _ _ h => h) (Or.inl ⟨by rfl, ?_⟩) (by assumption) ?_
      rotate_left 1
      · intro wz hSw
        obtain ⟨s0, s1⟩ := hSw
        first | (go_simp; done) | (go_simp; with_reducible rfl)
      simp only [List.set_cons_zero, List.set_cons_succ]
      refine take_at (i := 4) (n := 18) (v := ?_) rfl rfl (by kernel_rfl) (by kernel_rfl) (by kernel_rfl) (fun _ _ _ h => h) (Or.inl ⟨by rfl, ?_⟩) (by assumption) ?_
      rotate_left 1
      · intro wz hSw
        obtain ⟨s0, s1⟩ := hSw
        first | (go_simp; done) | (go_simp; with_reducible rfl)
      simp only [List.set_cons_zero, List.set_cons_succ]
      refine take_at (i := 5) (n := 19) (v := ?_) rfl rfl (by kernel_rfl) (by kernel_rfl) (by kernel_rfl) (fun _ _ _ h => h) (Or.inl ⟨by rfl, ?_⟩) (by assumption) ?_
      rotate_left 1
      · intro wz hSw
        obtain ⟨s0, s1⟩ := hSw
        first | (go_simp; done) | (go_simp; with_reducible rfl)
      simp only [List.set_cons_zero, List.set_cons_succ]
      refine take_at (i := 6) (n := 20) (v := ?_) rfl rfl (by kernel_rfl) (by kernel_rfl) (by kernel_rfl) (fun _ _ _ h => h) (Or.inl ⟨by rfl, ?_⟩) (by assumption) ?_
      rotate_left 1
      · intro wz hSw
        obtain ⟨s0, s1⟩ := hSw
        first | (go_simp; done) | (go_simp; with_reducible rfl)
      simp only [List.set_cons_zero, List.set_cons_succ]
      refine take_at (i := 7) (n := 21) (v := ?_) rfl rfl (by kernel_rfl) (by kernel_rfl) (by kernel_rfl) (fun _ _ _ h => h) (Or.inl ⟨by rfl, ?_⟩) (by assumption) ?_
      rotate_left 1
      · intro wz hSw
        obtain ⟨s0, s1⟩ := hSw
        first | (go_simp; done) | (go_simp; with_reducible rfl)
      simp only [List.set_cons_zero, List.set_cons_succ]
      refine take_at (i := 8) (n := 22) (v := ?_) rfl rfl (by kernel_rfl) (by kernel_rfl) (by kernel_rfl) (fun _ _ _ h => h) (Or.inl ⟨by rfl, ?_⟩) (by assumption) ?_
      rotate_left 1
      · intro wz hSw
        obtain ⟨s0, s1⟩ := hSw
        first | (go_simp; done) | (go_simp; with_reducible rfl)
      simp only [List.set_cons_zero, List.set_cons_succ]
      refine take_at (i := 9) (n := 23) (v := ?_) rfl rfl (by kernel_rfl) (by kernel_rfl) (by kernel_rfl) (fun _ _ _ h => h) (Or.inl ⟨by rfl, ?_⟩) (by assumption) ?_
      rotate_left 1
      · intro wz hSw
        obtain ⟨s0, s1⟩ := hSw
        first | (go_simp; done) | (go_simp; with_reducible rfl)
      simp only [List.set_cons_zero, List.set_cons_succ]
      refine take_at (i := 10) (n := 24) (v := ?_) rfl rfl (by kernel_rfl) (by kernel_rfl) (by kernel_rfl) (fun _ _ _ h => h) (Or.inl ⟨by rfl, ?_⟩) (by assumption) ?_
      rotate_left 1
      · intro wz hSw
        obtain ⟨s0, s1⟩ := hSw
        first | (go_simp; done) | (go_simp; with_reducible rfl)
      simp only [List.set_cons_zero, List.set_cons_succ]
      refine take_at (i := 11) (n := 25) (v := ?_) rfl rfl (by kernel_rfl) (by kernel_rfl) (by kernel_rfl) (fun _ _ _ h => h) (Or.inl ⟨by rfl, ?_⟩) (by assumption) ?_
      rotate_left 1
      · intro wz hSw
        obtain ⟨s0, s1⟩ := hSw
        first | (go_simp; done) | (go_simp; with_reducible rfl)
      simp only [List.set_cons_zero, List.set_cons_succ]
      refine take_at (i := 12) (n := 26) (v := ?_) rfl rfl (by kernel_rfl) (by kernel_rfl) (by kernel_rfl) (fun _ _ _ h => h) (Or.inl ⟨by rfl, ?_⟩) (by assumption) ?_
      rotate_left 1
      · intro wz hSw
        obtain ⟨s0, s1⟩ := hSw
        first | (go_simp; done) | (go_simp; with_reducible rfl)
      simp only [List.set_cons_zero, List.set_cons_succ]
      refine take_at (i := 13) (n := 27) (v := ?_) rfl rfl (by kernel_rfl) (by kernel_rfl) (by kernel_rfl) (fun _ _ _ h => h) (Or.inl ⟨by rfl, ?_⟩) (by assumption) ?_
      rotate_left 1
      · intro wz hSw
        obtain ⟨s0, s1⟩ := hSw
        first | (go_simp; done) | (go_simp; with_reducible rfl)
      simp only [List.set_cons_zero, List.set_cons_succ]
      refine take_at (i := 14) (n := 28) (v := ?_) rfl rfl (by kernel_rfl) (by kernel_rfl) (by kernel_rfl) (fun _ _ _ h => h) (Or.inl ⟨by rfl, ?_⟩) (by assumption) ?_
      rotate_left 1
      · intro wz hSw
        obtain ⟨s0, s1⟩ := hSw
        first | (go_simp; done) | (go_simp; with_reducible rfl)
      simp only [List.set_cons_zero, List.set_cons_succ]
      refine take_at (i := 15) (n := 29) (v := ?_) rfl rfl (by kernel_rfl) (by kernel_rfl) (by kernel_rfl) (fun _ _ _ h => h) (Or.inl ⟨by rfl, ?_⟩) (by assumption) ?_
      rotate_left 1
      · intro wz hSw
        obtain ⟨s0, s1⟩ := hSw
        first | (go_simp; done) | (go_simp; with_reducible rfl)
      simp only [List.set_cons_zero, List.set_cons_succ]
      refine wpAnyH_ready (rs := [16]) (by kernel_rfl) (by simp) ?_
      refine AllReadyH.cons rfl (fun K hK => ?_) AllReadyH.nil
      go_simp
      refine hK.out _ _ (by refine ⟨?_, ?_⟩ <;> go_simp) (fun hHeld => ?_)
      clear hK K
      refine wpAnyH_done (by kernel_rfl) ?_ _
      refine NoPanic.normal ?_
      go_wp2_with fail
      exact ⟨⟨k + 1, by omega, by simp, HS.out.drew⟩, by simp [intOf]; omega⟩
    · have hke : k = n := by omega
      subst hke
      have HE : Hid (RunW w0 wr A 1 tp k rv { x with es := x.es.map loF }) := by
        have e := HH.out.ln.1
        rw [← mid_all, e]
        exact hr
      obtain ⟨-, -, -, -, d5, -⟩ := hr.own
      clear hr
      go_wp2_with fail
      go_end0
      exact ⟨rfl, HE.out⟩
end Go.Proofs.Ytcmoehednkaehah
namespace Go.Proofs.Ytcmoehednkaehah
open Go.ChangeShapes Go.WideShapes Go.ChangeAt Go.RowKit

/-- What was played lies there. -/
structure PlayW (w w' : World) (n : Nat) (rv ev tv : Value) (runs : List Int) (x : Rs) : Prop where
  bel : Below w.heap.size w w'
  r : RowSl nuV w' runs rv
  e : RowSl nuV w' x.en ev
  t : RowSl nuV w' x.ws tv
  ln : x.en.length = n ∧ x.ws.length = n

theorem row_block {W : World} {g n : Nat} {l : List Int} (h : W.heap[g]? = some (.cells (inV l).toArray 3 (0, 0))) (hn : l.length = n) : RowSl nuV W l (.slice (some ⟨g, 0, none⟩) n n) := by
  subst hn
  refine ⟨_, _, rfl, (fun e => by cases e), Nat.le_refl _, .inr ⟨g, 0, rfl, fun q u hq => ?_⟩⟩
  rw [Nat.zero_add]
  rw [nu_flat] at hq
  exact (cells_of h).1 q u hq

theorem play_store {W5 : World} {s : Nat} {x1 x2 x3 x4 y1 y2 : Value} (a1 a2 a3 a4 : Value) (h6 : W5.heap[s]? = some (.cells #[x1, x2, x3, x4] 37 (0, 0))) (h7 : W5.heap[s + 1]? = some (.cells #[y1, y2] 31 (0, 0))) :
    let W' := (((((W5.setCell ⟨s, 0, none⟩ a1).setCell ⟨s, 1, none⟩ a2).setCell ⟨s, 2, none⟩ a3).setCell ⟨s, 3, none⟩ a4).setCell ⟨s + 1, 0, none⟩ (.int .i64 0)).setCell ⟨s + 1, 1, none⟩ (.int .i64 0)
    W'.heap[s]? = some (.cells #[a1, a2, a3, a4] 37 (0, 0)) ∧ W'.heap[s + 1]? = some (.cells #[.int .i64 0, .int .i64 0] 31 (0, 0)) ∧ (∀ k, k ≠ s → k ≠ s + 1 → W'.heap[k]? = W5.heap[k]?) ∧ Below s W5 W' := by
  intro W'
  have e1 : ∀ k, k ≠ s → ((((W5.setCell ⟨s, 0, none⟩ a1).setCell ⟨s, 1, none⟩ a2).setCell ⟨s, 2, none⟩ a3).setCell ⟨s, 3, none⟩ a4).heap[k]? = W5.heap[k]? := fun k hk => by
    rw [Below.heap_setCell _ _ _ _ hk, Below.heap_setCell _ _ _ _ hk, Below.heap_setCell _ _ _ _ hk, Below.heap_setCell _ _ _ _ hk]
  have e2 : ∀ k, k ≠ s + 1 → W'.heap[k]? = ((((W5.setCell ⟨s, 0, none⟩ a1).setCell ⟨s, 1, none⟩ a2).setCell ⟨s, 2, none⟩ a3).setCell ⟨s, 3, none⟩ a4).heap[k]? := fun k hk => by
    rw [Below.heap_setCell _ _ _ _ hk, Below.heap_setCell _ _ _ _ hk]
  refine ⟨?_, ?_, fun k h1 h2 => (e2 k h2).trans (e1 k h1), ?_⟩
  · rw [e2 s (by omega), setCell_at (setCell_at (setCell_at (setCell_at h6)))]
    rfl
  · exact set_two ((e1 (s + 1) (by omega)).trans h7)
  · exact ((((((Below.refl s W5).setCell (Nat.le_refl _) _).setCell (Nat.le_refl _) _).setCell (Nat.le_refl _) _).setCell (Nat.le_refl _) _).setCell (Nat.le_succ _) _).setCell (Nat.le_succ _) _

theorem Play_ends {w : World} {g h : Nat} {a1 a2 a3 a4 c k : Value} {a : Act} (hg : w.heap[g]? = some (.cells #[a1, a2, a3, a4] 37 (0, 0))) (hh : w.heap[h]? = some (.cells #[c, k] 31 (0, 0))) (h3 : a.tmps[6]?.getD undef = .pointer (some ⟨g, 0, none⟩)) (h4 : a.tmps[7]?.getD undef = .pointer (some ⟨h, 0, none⟩)) :
    (results Try.f9 a.tmps).run Try.prog w = .ok (.tuple #[.agg #[a1, a2, a3, a4], .agg #[c, k]]) w := by
  obtain ⟨c1, -, -⟩ := cells_of (l := [_, _, _, _]) hg
  obtain ⟨c2, -, -⟩ := cells_of (l := [_, _]) hh
  have c10 := c1 0 _ rfl
  have c11 := c1 1 _ rfl
  have c12 := c1 2 _ rfl
  have c13 := c1 3 _ rfl
  have c20 := c2 0 _ rfl
  have c21 := c2 1 _ rfl
  simp [results, Try.results9, go_sem, h3, h4, c10, c11, c12, c13, c20, c21]

set_option maxRecDepth 20000 in
set_option maxHeartbeats 4000000 in
theorem Play_good3 (I : Nat → List Int → Rs → Prop) (w : World) (l : List Lj) (v : Value) (hv : LkSl w l v) (hok : chkLk l = (0, 0)) (U : Nat) (hU : U ≤ 20000) (h0 : I 0 [] (x0 l))
    (HT : ∀ (w0 w' : World) (A : Ad) (B now : Nat) (runs : List Int), (∀ y ∈ l, RowSl Ac.vals w0 y.acts y.v) → now < U → runs.length = now → TI I 3 (topsF l) l.length w0 w' A B now runs → Calls Try.prog 22 #[.pointer (some ⟨A.R, 0, none⟩), .int .i64 (now : Int)] w' fun r w'' => r = .returned (.tuple #[]) ∧ ∃ f, TI I 3 (topsF l) l.length w0 w'' A B (now + 1) (runs ++ [f])) :
    Calls Try.prog 9 #[v, .int .i64 3, .int .i64 (U : Int)] w fun r w' => ∃ rv ev tv runs x, r = .returned (.tuple #[.agg #[rv, ev, tv, .bool (stuckF U x.es x.en false)], .agg #[.int .i64 0, .int .i64 0]]) ∧ PlayW w w' l.length rv ev tv runs x ∧ runs.length = U ∧ I U runs x := by
  have hck := chkLk_right (l := l) (by rw [hok])
  have HNew := fun W (hb : Below w.heap.size w W) => newRun_any W l v (hv.below hb) hck.1 (fun x hx => (hck.2 x hx).1) 3
  have HCk := fun W (hb : Below w.heap.size w W) => checkJobs_any W l v (hv.below hb)
  rw [hok] at HCk
  have HA : Hid (∀ W, Below w.heap.size w W → ∀ y ∈ l, RowSl Ac.vals W y.acts y.v) := fun W hb y hy => (hv.2 y hy).below hb
  have hn : l.length ≤ 100 := hck.1
  have H0 : Hid (I 0 [] (x0 l)) := h0
  have hUi : (U : Int) ≤ 20000 := by omega
  have hUw : within (U : Int) 0 20000 = true := by simp [within]; omega
  have HC0 := HCk ((w.alloc (.cells #[.slice none 0 0, .slice none 0 0, .slice none 0 0, .bool false] 37)).alloc (.cells #[.int .i64 0, .int .i64 0] 31)) (below_seq (below_new _ _) (below_new _ _))
  clear hck hok hv h0 HCk
  go_enter Try.func9, Try.ntmps9
  go_wp2_with (go_at_call 19; refine HC0.mono ?_; rintro r w1 ⟨rfl, hb1⟩; have H1 : Hid (Below ((w.alloc (.cells #[.slice none 0 0, .slice none 0 0, .slice none 0 0, .bool false] 37)).alloc (.cells #[.int .i64 0, .int .i64 0] 31)).heap.size ((w.alloc (.cells #[.slice none 0 0, .slice none 0 0, .slice none 0 0, .bool false] 37)).alloc (.cells #[.int .i64 0, .int .i64 0] 31)) w1) := hb1; clear hb1 HC0)
  go_wp2_with (go_at_call 20; refine (within_any _ _ _ _).mono ?_; rintro r w2 ⟨rfl, rfl⟩; rw [hUw])
  obtain ⟨Wn, hWn⟩ : ∃ Wn, w1.alloc (.cells #[.int .i64 0, .int .i64 0] 31) = Wn := ⟨_, rfl⟩
  rw [hWn]
  have hbn : Below w.heap.size w Wn := by
    rw [← hWn]
    exact below_seq (below_seq (below_seq (below_new _ _) (below_new _ _)) H1.out) (below_new _ _)
  have hs1 : w.heap.size + 2 ≤ w1.heap.size := by have := H1.out.size; simp at this; omega
  have P6 : Wn.heap[w.heap.size]? = some (.cells #[.slice none 0 0, .slice none 0 0, .slice none 0 0, .bool false] 37 (0, 0)) := by
    rw [← hWn, (below_new w1 _).block _ (by omega), H1.out.block _ (by simp <;> omega), (below_new _ _).block _ (by simp <;> omega)]
    exact heap_alloc_new w _
  have P7 : Wn.heap[w.heap.size + 1]? = some (.cells #[.int .i64 0, .int .i64 0] 31 (0, 0)) := by
    rw [← hWn, (below_new w1 _).block _ (by omega), H1.out.block _ (by simp <;> omega)]
    have := heap_alloc_new (w.alloc (.cells #[.slice none 0 0, .slice none 0 0, .slice none 0 0, .bool false] 37)) (.cells #[.int .i64 0, .int .i64 0] 31)
    simpa using this
  have HN := HNew Wn hbn
  have HP : Hid (Below w.heap.size w Wn ∧ Wn.heap[w.heap.size]? = some (.cells #[.slice none 0 0, .slice none 0 0, .slice none 0 0, .bool false] 37 (0, 0)) ∧ Wn.heap[w.heap.size + 1]? = some (.cells #[.int .i64 0, .int .i64 0] 31 (0, 0)) ∧ w.heap.size + 2 ≤ Wn.heap.size) := ⟨hbn, P6, P7, by rw [← hWn]; simp; omega⟩
  have HTt : Hid (∀ (w0 w' : World) (A : Ad) (B now : Nat) (runs : List Int), (∀ y ∈ l, RowSl Ac.vals w0 y.acts y.v) → now < U → runs.length = now → TI I 3 (topsF l) l.length w0 w' A B now runs → Calls Try.prog 22 #[.pointer (some ⟨A.R, 0, none⟩), .int .i64 (now : Int)] w' fun r w'' => r = .returned (.tuple #[]) ∧ ∃ f, TI I 3 (topsF l) l.length w0 w'' A B (now + 1) (runs ++ [f])) := HT
  clear hWn hbn hs1 P6 P7 HNew H1 HT
  go_wp2_with (go_at_call 21; refine HN.mono ?_; rintro r w2 ⟨A, B, rfl, hr2, hl2⟩; have H2 : Hid (RunW Wn w2 A 3 (topsF l) l.length (.slice none 0 0) (x0 l) ∧ Lows Wn A B) := ⟨hr2, hl2⟩; clear hr2 hl2 HN)
  go_loopw [42] (fun i wr => ∃ (now : Nat) (runs : List Int), now ≤ U ∧ i = .int .i64 now ∧ runs.length = now ∧ TI I 3 (topsF l) l.length Wn wr A B now runs) (fun i _ => U - (intOf i).toNat)
  case atStart => exact ⟨0, [], Nat.zero_le _, rfl, rfl, ⟨⟨_, _, H2.out.1, ⟨rfl, .inl ⟨rfl, rfl⟩⟩, H0.out⟩, H2.out.2⟩⟩
  case round =>
    obtain ⟨now, runs, hnow, rfl, hlen, hti⟩ := hrel
    by_cases hlt : now < U
    · have HTk := HTt.out Wn wr A B now runs (HA.out Wn HP.out.1) hlt hlen hti
      have hni : (now : Int) < (U : Int) := by omega
      have HLn : Hid (runs.length = now) := hlen
      clear hti hlen
      go_wp2_with (go_at_call 22; refine HTk.mono ?_; rintro r w3 ⟨rfl, f, ht3⟩; have H3 : Hid (TI I 3 (topsF l) l.length Wn w3 A B (now + 1) (runs ++ [f])) := ht3; clear ht3 HTk)
      exact ⟨⟨now + 1, runs ++ [f], by omega, by simp, by rw [List.length_append, HLn.out]; rfl, H3.out⟩, by simp [intOf]; omega⟩
    · have hne : now = U := by omega
      subst hne
      obtain ⟨⟨rv, x, hr, hst, g⟩, hlow⟩ := hti
      obtain ⟨ad, c, rfl⟩ := owns_value hst
      have HSt := stuck_any Wn wr A 3 (topsF l) l.length (.slice ad runs.length c) x hr hn now
      generalize hsk : stuckF now x.es x.en false = sk at HSt
      obtain ⟨rc, rf, rl⟩ := cells_of hr.hR
      have r0 : wr.cell? ⟨A.R, 0, none⟩ = some (.slice ad runs.length c) := rc 0 _ rfl
      have r1 : wr.cell? ⟨A.R, 1, none⟩ = some (.slice (some ⟨A.E, 0, none⟩) l.length l.length) := rc 1 _ rfl
      have r2 : wr.cell? ⟨A.R, 2, none⟩ = some (.slice (some ⟨A.T, 0, none⟩) l.length l.length) := rc 2 _ rfl
      have r3 : wr.cell? ⟨A.R, 3, none⟩ = some (.bool false) := rc 3 _ rfl
      have rf3 := rf 3
      have q6 := (hr.bel.block _ (by have := HP.out.2.2.2; omega)).trans HP.out.2.1
      have q7 := (hr.bel.block _ (by have := HP.out.2.2.2; omega)).trans HP.out.2.2.1
      obtain ⟨xc, xf, xl⟩ := cells_of (l := [_, _, _, _]) q6
      obtain ⟨yc, yf, yl⟩ := cells_of (l := [_, _]) q7
      have x0' := xc 0 _ rfl
      have x1' := xc 1 _ rfl
      have x2' := xc 2 _ rfl
      have x3' := xc 3 _ rfl
      have y0' := yc 0 _ rfl
      have y1' := yc 1 _ rfl
      have xf0 := xf 0
      have xf1 := xf 1
      have xf2 := xf 2
      have xf3 := xf 3
      have yf0 := yf 0
      have yf1 := yf 1
      have hRl := hr.lo.1
      have hWl := HP.out.2.2.2
      have n6 : w.heap.size ≠ A.R := by omega
      have n7 : w.heap.size + 1 ≠ A.R := by omega
      have HE : Hid (RunW Wn wr A 3 (topsF l) l.length (.slice ad runs.length c) x ∧ Stk wr B (.slice ad runs.length c) runs ∧ I now runs x ∧ Lows Wn A B ∧ runs.length = now ∧ stuckF now x.es x.en false = sk) := ⟨hr, hst, g, hlow, hlen, hsk⟩
      have HQ : Hid (wr.heap[w.heap.size]? = some (.cells #[.slice none 0 0, .slice none 0 0, .slice none 0 0, .bool false] 37 (0, 0)) ∧ wr.heap[w.heap.size + 1]? = some (.cells #[.int .i64 0, .int .i64 0] 31 (0, 0))) := ⟨q6, q7⟩
      clear hr hst g hlow hlen hsk rc rf xc xf yc yf q6 q7
      go_wp2_with (go_at_call 23; refine HSt.mono ?_; rintro r w4 ⟨rfl, rfl⟩; clear HSt)
      obtain ⟨s6, s7, sk6, sb⟩ := play_store (W5 := w4.setCell ⟨A.R, 3, none⟩ (.bool sk)) (s := w.heap.size) (.slice ad runs.length c) (.slice (some ⟨A.E, 0, none⟩) l.length l.length) (.slice (some ⟨A.T, 0, none⟩) l.length l.length) (.bool sk) ((Below.heap_setCell _ _ _ _ n6).trans HQ.out.1) ((Below.heap_setCell _ _ _ _ n7).trans HQ.out.2)
      refine bodyPost_ret (Play_ends s6 s7 rfl rfl) rfl ?_
      obtain ⟨hr, hst, g, hlow, hlen, hsk⟩ := HE.out
      have hkeep : ∀ k, k ≠ A.R → k ≠ w.heap.size → k ≠ w.heap.size + 1 → _ := fun k h1 h2 h3 => (sk6 k h2 h3).trans (Below.heap_setCell w4 ⟨A.R, 3, none⟩ (.bool sk) k h1)
      have hE := hr.lo.2.2.1
      have hT := hr.lo.2.2.2.1
      refine ⟨_, _, _, runs, x, by rw [hsk], ⟨?_, ?_, ?_, ?_, hr.ln.2.1, hr.ln.2.2.1⟩, hlen, g⟩
      · exact ((HP.out.1.trans (hr.bel.mono HP.out.1.size)).setCell (by show w.heap.size ≤ A.R; omega) _).trans sb
      · refine (hst.keep (fun k hk => hkeep k ?_ ?_ ?_)).row
        · have := hst.low hk; have := hlow.bs.1; omega
        · have := hst.low hk; have := hlow.w; omega
        · have := hst.low hk; have := hlow.w; omega
      · exact row_block ((hkeep A.E (Ne.symm hr.ne.1.2.1) (by omega) (by omega)).trans hr.hE) hr.ln.2.1
      · exact row_block ((hkeep A.T (Ne.symm hr.ne.1.2.2.1) (by omega) (by omega)).trans hr.hT) hr.ln.2.2.1

set_option maxRecDepth 20000 in
set_option maxHeartbeats 4000000 in
theorem Play_good1 (I : Nat → List Int → Rs → Prop) (w : World) (l : List Lj) (v : Value) (hv : LkSl w l v) (hok : chkLk l = (0, 0)) (U : Nat) (hU : U ≤ 20000) (h0 : I 0 [] (x0 l))
    (HT : ∀ (w0 w' : World) (A : Ad) (B now : Nat) (runs : List Int), (∀ y ∈ l, RowSl Ac.vals w0 y.acts y.v) → now < U → runs.length = now → TI I 1 (topsF l) l.length w0 w' A B now runs → Calls Try.prog 22 #[.pointer (some ⟨A.R, 0, none⟩), .int .i64 (now : Int)] w' fun r w'' => r = .returned (.tuple #[]) ∧ ∃ f, TI I 1 (topsF l) l.length w0 w'' A B (now + 1) (runs ++ [f])) :
    Calls Try.prog 9 #[v, .int .i64 1, .int .i64 (U : Int)] w fun r w' => ∃ rv ev tv runs x, r = .returned (.tuple #[.agg #[rv, ev, tv, .bool (stuckF U x.es x.en false)], .agg #[.int .i64 0, .int .i64 0]]) ∧ PlayW w w' l.length rv ev tv runs x ∧ runs.length = U ∧ I U runs x := by
  have hck := chkLk_right (l := l) (by rw [hok])
  have HNew := fun W (hb : Below w.heap.size w W) => newRun_any W l v (hv.below hb) hck.1 (fun x hx => (hck.2 x hx).1) 1
  have HCk := fun W (hb : Below w.heap.size w W) => checkJobs_any W l v (hv.below hb)
  rw [hok] at HCk
  have HA : Hid (∀ W, Below w.heap.size w W → ∀ y ∈ l, RowSl Ac.vals W y.acts y.v) := fun W hb y hy => (hv.2 y hy).below hb
  have hn : l.length ≤ 100 := hck.1
  have H0 : Hid (I 0 [] (x0 l)) := h0
  have hUi : (U : Int) ≤ 20000 := by omega
  have hUw : within (U : Int) 0 20000 = true := by simp [within]; omega
  have HC0 := HCk ((w.alloc (.cells #[.slice none 0 0, .slice none 0 0, .slice none 0 0, .bool false] 37)).alloc (.cells #[.int .i64 0, .int .i64 0] 31)) (below_seq (below_new _ _) (below_new _ _))
  clear hck hok hv h0 HCk
  go_enter Try.func9, Try.ntmps9
  go_wp2_with (go_at_call 19; refine HC0.mono ?_; rintro r w1 ⟨rfl, hb1⟩; have H1 : Hid (Below ((w.alloc (.cells #[.slice none 0 0, .slice none 0 0, .slice none 0 0, .bool false] 37)).alloc (.cells #[.int .i64 0, .int .i64 0] 31)).heap.size ((w.alloc (.cells #[.slice none 0 0, .slice none 0 0, .slice none 0 0, .bool false] 37)).alloc (.cells #[.int .i64 0, .int .i64 0] 31)) w1) := hb1; clear hb1 HC0)
  go_wp2_with (go_at_call 20; refine (within_any _ _ _ _).mono ?_; rintro r w2 ⟨rfl, rfl⟩; rw [hUw])
  obtain ⟨Wn, hWn⟩ : ∃ Wn, w1.alloc (.cells #[.int .i64 0, .int .i64 0] 31) = Wn := ⟨_, rfl⟩
  rw [hWn]
  have hbn : Below w.heap.size w Wn := by
    rw [← hWn]
    exact below_seq (below_seq (below_seq (below_new _ _) (below_new _ _)) H1.out) (below_new _ _)
  have hs1 : w.heap.size + 2 ≤ w1.heap.size := by have := H1.out.size; simp at this; omega
  have P6 : Wn.heap[w.heap.size]? = some (.cells #[.slice none 0 0, .slice none 0 0, .slice none 0 0, .bool false] 37 (0, 0)) := by
    rw [← hWn, (below_new w1 _).block _ (by omega), H1.out.block _ (by simp <;> omega), (below_new _ _).block _ (by simp <;> omega)]
    exact heap_alloc_new w _
  have P7 : Wn.heap[w.heap.size + 1]? = some (.cells #[.int .i64 0, .int .i64 0] 31 (0, 0)) := by
    rw [← hWn, (below_new w1 _).block _ (by omega), H1.out.block _ (by simp <;> omega)]
    have := heap_alloc_new (w.alloc (.cells #[.slice none 0 0, .slice none 0 0, .slice none 0 0, .bool false] 37)) (.cells #[.int .i64 0, .int .i64 0] 31)
    simpa using this
  have HN := HNew Wn hbn
  have HP : Hid (Below w.heap.size w Wn ∧ Wn.heap[w.heap.size]? = some (.cells #[.slice none 0 0, .slice none 0 0, .slice none 0 0, .bool false] 37 (0, 0)) ∧ Wn.heap[w.heap.size + 1]? = some (.cells #[.int .i64 0, .int .i64 0] 31 (0, 0)) ∧ w.heap.size + 2 ≤ Wn.heap.size) := ⟨hbn, P6, P7, by rw [← hWn]; simp; omega⟩
  have HTt : Hid (∀ (w0 w' : World) (A : Ad) (B now : Nat) (runs : List Int), (∀ y ∈ l, RowSl Ac.vals w0 y.acts y.v) → now < U → runs.length = now → TI I 1 (topsF l) l.length w0 w' A B now runs → Calls Try.prog 22 #[.pointer (some ⟨A.R, 0, none⟩), .int .i64 (now : Int)] w' fun r w'' => r = .returned (.tuple #[]) ∧ ∃ f, TI I 1 (topsF l) l.length w0 w'' A B (now + 1) (runs ++ [f])) := HT
  clear hWn hbn hs1 P6 P7 HNew H1 HT
  go_wp2_with (go_at_call 21; refine HN.mono ?_; rintro r w2 ⟨A, B, rfl, hr2, hl2⟩; have H2 : Hid (RunW Wn w2 A 1 (topsF l) l.length (.slice none 0 0) (x0 l) ∧ Lows Wn A B) := ⟨hr2, hl2⟩; clear hr2 hl2 HN)
  go_loopw [42] (fun i wr => ∃ (now : Nat) (runs : List Int), now ≤ U ∧ i = .int .i64 now ∧ runs.length = now ∧ TI I 1 (topsF l) l.length Wn wr A B now runs) (fun i _ => U - (intOf i).toNat)
  case atStart => exact ⟨0, [], Nat.zero_le _, rfl, rfl, ⟨⟨_, _, H2.out.1, ⟨rfl, .inl ⟨rfl, rfl⟩⟩, H0.out⟩, H2.out.2⟩⟩
  case round =>
    obtain ⟨now, runs, hnow, rfl, hlen, hti⟩ := hrel
    by_cases hlt : now < U
    · have HTk := HTt.out Wn wr A B now runs (HA.out Wn HP.out.1) hlt hlen hti
      have hni : (now : Int) < (U : Int) := by omega
      have HLn : Hid (runs.length = now) := hlen
      clear hti hlen
      go_wp2_with (go_at_call 22; refine HTk.mono ?_; rintro r w3 ⟨rfl, f, ht3⟩; have H3 : Hid (TI I 1 (topsF l) l.length Wn w3 A B (now + 1) (runs ++ [f])) := ht3; clear ht3 HTk)
      exact ⟨⟨now + 1, runs ++ [f], by omega, by simp, by rw [List.length_append, HLn.out]; rfl, H3.out⟩, by simp [intOf]; omega⟩
    · have hne : now = U := by omega
      subst hne
      obtain ⟨⟨rv, x, hr, hst, g⟩, hlow⟩ := hti
      obtain ⟨ad, c, rfl⟩ := owns_value hst
      have HSt := stuck_any Wn wr A 1 (topsF l) l.length (.slice ad runs.length c) x hr hn now
      generalize hsk : stuckF now x.es x.en false = sk at HSt
      obtain ⟨rc, rf, rl⟩ := cells_of hr.hR
      have r0 : wr.cell? ⟨A.R, 0, none⟩ = some (.slice ad runs.length c) := rc 0 _ rfl
      have r1 : wr.cell? ⟨A.R, 1, none⟩ = some (.slice (some ⟨A.E, 0, none⟩) l.length l.length) := rc 1 _ rfl
      have r2 : wr.cell? ⟨A.R, 2, none⟩ = some (.slice (some ⟨A.T, 0, none⟩) l.length l.length) := rc 2 _ rfl
      have r3 : wr.cell? ⟨A.R, 3, none⟩ = some (.bool false) := rc 3 _ rfl
      have rf3 := rf 3
      have q6 := (hr.bel.block _ (by have := HP.out.2.2.2; omega)).trans HP.out.2.1
      have q7 := (hr.bel.block _ (by have := HP.out.2.2.2; omega)).trans HP.out.2.2.1
      obtain ⟨xc, xf, xl⟩ := cells_of (l := [_, _, _, _]) q6
      obtain ⟨yc, yf, yl⟩ := cells_of (l := [_, _]) q7
      have x0' := xc 0 _ rfl
      have x1' := xc 1 _ rfl
      have x2' := xc 2 _ rfl
      have x3' := xc 3 _ rfl
      have y0' := yc 0 _ rfl
      have y1' := yc 1 _ rfl
      have xf0 := xf 0
      have xf1 := xf 1
      have xf2 := xf 2
      have xf3 := xf 3
      have yf0 := yf 0
      have yf1 := yf 1
      have hRl := hr.lo.1
      have hWl := HP.out.2.2.2
      have n6 : w.heap.size ≠ A.R := by omega
      have n7 : w.heap.size + 1 ≠ A.R := by omega
      have HE : Hid (RunW Wn wr A 1 (topsF l) l.length (.slice ad runs.length c) x ∧ Stk wr B (.slice ad runs.length c) runs ∧ I now runs x ∧ Lows Wn A B ∧ runs.length = now ∧ stuckF now x.es x.en false = sk) := ⟨hr, hst, g, hlow, hlen, hsk⟩
      have HQ : Hid (wr.heap[w.heap.size]? = some (.cells #[.slice none 0 0, .slice none 0 0, .slice none 0 0, .bool false] 37 (0, 0)) ∧ wr.heap[w.heap.size + 1]? = some (.cells #[.int .i64 0, .int .i64 0] 31 (0, 0))) := ⟨q6, q7⟩
      clear hr hst g hlow hlen hsk rc rf xc xf yc yf q6 q7
      go_wp2_with (go_at_call 23; refine HSt.mono ?_; rintro r w4 ⟨rfl, rfl⟩; clear HSt)
      obtain ⟨s6, s7, sk6, sb⟩ := play_store (W5 := w4.setCell ⟨A.R, 3, none⟩ (.bool sk)) (s := w.heap.size) (.slice ad runs.length c) (.slice (some ⟨A.E, 0, none⟩) l.length l.length) (.slice (some ⟨A.T, 0, none⟩) l.length l.length) (.bool sk) ((Below.heap_setCell _ _ _ _ n6).trans HQ.out.1) ((Below.heap_setCell _ _ _ _ n7).trans HQ.out.2)
      refine bodyPost_ret (Play_ends s6 s7 rfl rfl) rfl ?_
      obtain ⟨hr, hst, g, hlow, hlen, hsk⟩ := HE.out
      have hkeep : ∀ k, k ≠ A.R → k ≠ w.heap.size → k ≠ w.heap.size + 1 → _ := fun k h1 h2 h3 => (sk6 k h2 h3).trans (Below.heap_setCell w4 ⟨A.R, 3, none⟩ (.bool sk) k h1)
      have hE := hr.lo.2.2.1
      have hT := hr.lo.2.2.2.1
      refine ⟨_, _, _, runs, x, by rw [hsk], ⟨?_, ?_, ?_, ?_, hr.ln.2.1, hr.ln.2.2.1⟩, hlen, g⟩
      · exact ((HP.out.1.trans (hr.bel.mono HP.out.1.size)).setCell (by show w.heap.size ≤ A.R; omega) _).trans sb
      · refine (hst.keep (fun k hk => hkeep k ?_ ?_ ?_)).row
        · have := hst.low hk; have := hlow.bs.1; omega
        · have := hst.low hk; have := hlow.w; omega
        · have := hst.low hk; have := hlow.w; omega
      · exact row_block ((hkeep A.E (Ne.symm hr.ne.1.2.1) (by omega) (by omega)).trans hr.hE) hr.ln.2.1
      · exact row_block ((hkeep A.T (Ne.symm hr.ne.1.2.2.1) (by omega) (by omega)).trans hr.hT) hr.ln.2.2.1
end Go.Proofs.Ytcmoehednkaehah
