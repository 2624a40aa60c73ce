import Derived.Test.YtccoobcggbbciaiGreatDoorVH
import Derived.Test.YtccoobcggbbciaiGreatDoorXD
import Derived.Deep.CutRange
namespace Go.Proofs.YtccoobcggbbciaiGreatDoor
open Go.ChangeShapes Go.WideShapes Go.ChangeAt Go.RowKit

set_option maxRecDepth 20000 in
set_option maxHeartbeats 4000000 in
/-- What a task that is alone asks for. -/
theorem asked_one (w : World) (x : Ta) (z : Int) (b o c : Nat) (hrow : ∀ q u, ([x].flatMap Ta.vals)[q]? = some u → w.cell? ⟨b, o + q, none⟩ = some u) : Calls Tryz.prog 43 #[.slice (some ⟨b, o, none⟩) 1 c, .int .i64 0, .int .i64 z] w fun r w' => r = .returned (.int .i64 x.c) ∧ Below w.heap.size w w' := by
  obtain ⟨c0, c1, c2, c3, c4, c5, c6⟩ := ta_at (j := 0) hrow rfl
  simp only [Nat.zero_mul, Nat.add_zero] at c0 c1 c2 c3 c4 c5 c6
  have lb : b < w.heap.size := World.block_lt_of_cell? _ _ c0
  go_enter Tryz.func43, Tryz.ntmps43
  go_wp2_with fail
  go_loopw [7, 17] (fun s i wr => ∃ j : Nat, j ≤ 1 ∧ s = .int .i64 x.c ∧ i = .int .i64 j ∧ Hid (Below w.heap.size w wr)) (fun _ i _ => 1 - (intOf i).toNat)
  case atStart => exact ⟨0, Nat.zero_le _, rfl, rfl, Below.refl _ _⟩
  case round =>
    obtain ⟨j, hj, rfl, rfl, HB⟩ := hrel
    by_cases hlt : j < 1
    · have hj0 : j = 0 := by omega
      subst hj0
      have d0 := below_cell HB.out c0
      have d1 := below_cell HB.out c1
      have d2 := below_cell HB.out c2
      have d3 := below_cell HB.out c3
      have d4 := below_cell HB.out c4
      have d5 := below_cell HB.out c5
      have d6 := below_cell HB.out c6
      have lb2 : b < wr.heap.size := World.block_lt_of_cell? _ _ d0
      clear c0 c1 c2 c3 c4 c5 c6
      go_wp2_with fail
      refine wp_region_noPanic ?_
      refine wp_region_held_drew (S := fun w' => True) (by kernel_rfl) trivial (fun hHeld => ?_)
      refine take_at (i := 0) (n := 22) (v := ?_) rfl rfl (by kernel_rfl) (by kernel_rfl) (by kernel_rfl) (fun _ _ _ h => h) (Or.inl ⟨by rfl, ?_⟩) (by assumption) ?_
      rotate_left 1
      · intro wz hSw
        have k0 := hSw
        first | (go_simp; done) | (go_simp; with_reducible rfl)
      simp only [List.set_cons_zero, List.set_cons_succ]
      refine take_at (i := 1) (n := 23) (v := ?_) rfl rfl (by kernel_rfl) (by kernel_rfl) (by kernel_rfl) (fun _ _ _ h => h) (Or.inl ⟨by rfl, ?_⟩) (by assumption) ?_
      rotate_left 1
      · intro wz hSw
        have k0 := hSw
        first | (go_simp; done) | (go_simp; with_reducible rfl)
      simp only [List.set_cons_zero, List.set_cons_succ]
      refine take_at (i := 2) (n := 24) (v := ?_) rfl rfl (by kernel_rfl) (by kernel_rfl) (by kernel_rfl) (fun _ _ _ h => h) (Or.inl ⟨by rfl, ?_⟩) (by assumption) ?_
      rotate_left 1
      · intro wz hSw
        have k0 := hSw
        first | (go_simp; done) | (go_simp; with_reducible rfl)
      simp only [List.set_cons_zero, List.set_cons_succ]
      refine take_at (i := 3) (n := 25) (v := ?_) rfl rfl (by kernel_rfl) (by kernel_rfl) (by kernel_rfl) (fun _ _ _ h => h) (Or.inl ⟨by rfl, ?_⟩) (by assumption) ?_
      rotate_left 1
      · intro wz hSw
        have k0 := hSw
        first | (go_simp; done) | (go_simp; with_reducible rfl)
      simp only [List.set_cons_zero, List.set_cons_succ]
      refine take_at (i := 4) (n := 26) (v := undef) rfl rfl (by kernel_rfl) (by kernel_rfl) (by kernel_rfl) (fun _ _ _ h => h) (Or.inr ⟨by rfl, rfl⟩) (by assumption) ?_
      simp only [List.set_cons_zero, List.set_cons_succ]
      refine take_at (i := 5) (n := 27) (v := undef) rfl rfl (by kernel_rfl) (by kernel_rfl) (by kernel_rfl) (fun _ _ _ h => h) (Or.inr ⟨by rfl, rfl⟩) (by assumption) ?_
      simp only [List.set_cons_zero, List.set_cons_succ]
      refine take_at (i := 6) (n := 28) (v := undef) rfl rfl (by kernel_rfl) (by kernel_rfl) (by kernel_rfl) (fun _ _ _ h => h) (Or.inr ⟨by rfl, rfl⟩) (by assumption) ?_
      simp only [List.set_cons_zero, List.set_cons_succ]
      refine take_at (i := 7) (n := 29) (v := undef) rfl rfl (by kernel_rfl) (by kernel_rfl) (by kernel_rfl) (fun _ _ _ h => h) (Or.inr ⟨by rfl, rfl⟩) (by assumption) ?_
      simp only [List.set_cons_zero, List.set_cons_succ]
      refine take_at (i := 8) (n := 30) (v := undef) rfl rfl (by kernel_rfl) (by kernel_rfl) (by kernel_rfl) (fun _ _ _ h => h) (Or.inr ⟨by rfl, rfl⟩) (by assumption) ?_
      simp only [List.set_cons_zero, List.set_cons_succ]
      refine take_at (i := 9) (n := 31) (v := undef) rfl rfl (by kernel_rfl) (by kernel_rfl) (by kernel_rfl) (fun _ _ _ h => h) (Or.inr ⟨by rfl, rfl⟩) (by assumption) ?_
      simp only [List.set_cons_zero, List.set_cons_succ]
      refine take_at (i := 10) (n := 32) (v := undef) rfl rfl (by kernel_rfl) (by kernel_rfl) (by kernel_rfl) (fun _ _ _ h => h) (Or.inr ⟨by rfl, rfl⟩) (by assumption) ?_
      simp only [List.set_cons_zero, List.set_cons_succ]
      refine take_at (i := 11) (n := 33) (v := undef) rfl rfl (by kernel_rfl) (by kernel_rfl) (by kernel_rfl) (fun _ _ _ h => h) (Or.inr ⟨by rfl, rfl⟩) (by assumption) ?_
      simp only [List.set_cons_zero, List.set_cons_succ]
      refine take_at (i := 12) (n := 34) (v := ?_) rfl rfl (by kernel_rfl) (by kernel_rfl) (by kernel_rfl) (fun _ _ _ h => h) (Or.inl ⟨by rfl, ?_⟩) (by assumption) ?_
      rotate_left 1
      · intro wz hSw
        have k0 := hSw
        first | (go_simp; done) | (go_simp; with_reducible rfl)
      simp only [List.set_cons_zero, List.set_cons_succ]
      refine wpAnyH_done (by kernel_rfl) ?_ _
      refine NoPanic.normal ?_
      clear hHeld
      go_wp2_with fail
      exact ⟨⟨1, by omega, rfl, by simp, below_seq HB.out ((below_new _ _).drew)⟩, by simp [intOf]⟩
    · have hj1 : j = 1 := by omega
      subst hj1
      go_wp2_with fail
      go_ret
      exact ⟨rfl, HB.out⟩

/-- The law's own set and windows. -/
def ta9 : Ta := ⟨⟨#[97]⟩, 2, 9, 9, 0, 0, 0⟩
def wi6 : List Wi := [⟨1, 2⟩, ⟨5, 1⟩]

theorem resp9 : responseF [ta9] 0 0 = (2, 0, 0) := by kernel_rfl
theorem frm6 : frmF 6 wi6 = (0, 0) := by kernel_rfl
theorem least2 : leastF 6 wi6 2 = 0 := by kernel_rfl
theorem least4 : leastF 6 wi6 4 = 1 := by kernel_rfl
theorem least5 : leastF 6 wi6 5 = 2 := by kernel_rfl

theorem two_new (W : World) (a b : Obj) : (((W.alloc a).alloc b).drew).heap[W.heap.size]? = some a ∧ (((W.alloc a).alloc b).drew).heap[W.heap.size + 1]? = some b := by
  refine ⟨?_, ?_⟩
  · exact ((below_new (W.alloc a) b).block W.heap.size (by simp)).trans (heap_alloc_new W a)
  · show ((W.alloc a).alloc b).heap[W.heap.size + 1]? = some b
    have := heap_alloc_new (W.alloc a) b
    simpa using this

theorem Within_ends {w : World} {g : Nat} {c k p : Value} {a : Act} (h : w.heap[g]? = some (.cells #[c, k] 30 (0, 0))) (h2 : a.tmps[8]?.getD undef = p) (h3 : a.tmps[9]?.getD undef = .pointer (some ⟨g, 0, none⟩)) :
    (results Tryz.f22 a.tmps).run Tryz.prog w = .ok (.tuple #[p, .agg #[c, k]]) w := by
  obtain ⟨c1, f1, l1⟩ := cells_of (l := [_, _]) h
  have c10 := c1 0 _ rfl
  have c11 := c1 1 _ rfl
  simp [results, Tryz.results22, go_sem, h2, h3, c10, c11]

set_option maxRecDepth 20000 in
set_option maxHeartbeats 4000000 in
theorem Within_own (w : World) (gs os cs gw ow cw : Nat) (hc : 1 ≤ cs) (hs : ∀ q u, ([ta9].flatMap Ta.vals)[q]? = some u → w.cell? ⟨gs, os + q, none⟩ = some u) (hw : RowSl Wi.vals w wi6 (.slice (some ⟨gw, ow, none⟩) 2 cw)) : Calls Tryz.prog 22 #[.slice (some ⟨gs, os, none⟩) 1 cs, .int .i64 0, .int .i64 6, .slice (some ⟨gw, ow, none⟩) 2 cw] w fun r w' => r = .returned (.tuple #[.int .i64 5, .agg #[.int .i64 0, .int .i64 0]]) ∧ Below w.heap.size w w' := by
  have H0 : Hid (FB w (w.alloc (.cells #[.int .i64 0, .int .i64 0] 30)) w.heap.size) := FB.start w
  have hsl : RowSl Ta.vals w [ta9] (.slice (some ⟨gs, os, none⟩) 1 cs) := ⟨_, _, rfl, (fun e => by cases e), hc, .inr ⟨gs, os, rfl, hs⟩⟩
  have HR := Response_any (w.alloc (.cells #[.int .i64 0, .int .i64 0] 30)) [ta9] (.slice (some ⟨gs, os, none⟩) 1 cs) 0 0 (by simp) (hsl.below (below_new _ _))
  rw [resp9] at HR
  have HW : Hid (RowSl Wi.vals w wi6 (.slice (some ⟨gw, ow, none⟩) 2 cw) ∧ ∀ q u, ([ta9].flatMap Ta.vals)[q]? = some u → w.cell? ⟨gs, os + q, none⟩ = some u) := ⟨hw, hs⟩
  have HFr : Hid (∀ W, Below w.heap.size w W → Calls Tryz.prog 42 #[.int .i64 6, .slice (some ⟨gw, ow, none⟩) 2 cw] W fun r w' => r = .returned (.agg #[.int .i64 0, .int .i64 0]) ∧ Below W.heap.size W w') := fun W hW => by
    have := Frame_any W 6 wi6 _ (HW.out.1.below hW)
    rw [frm6] at this
    exact this
  obtain ⟨hn6, h206, hs6, -⟩ := frmF_good frm6
  have HL : Hid (∀ (W : World) (k : Nat), k ≤ 20000 → Below w.heap.size w W → Calls Tryz.prog 44 #[.agg #[.int .i64 6, .slice (some ⟨gw, ow, none⟩) 2 cw], .int .i64 (k : Int)] W fun r w' => r = .returned (.int .i64 (leastF 6 wi6 k)) ∧ Below W.heap.size W w') := fun W k hk hW => least_any W 6 k wi6 _ cw (by omega) h206 hs6 hk (HW.out.1.below hW)
  have HA : Hid (∀ (W : World) (z : Int), Below w.heap.size w W → Calls Tryz.prog 43 #[.slice (some ⟨gs, os, none⟩) 1 cs, .int .i64 0, .int .i64 z] W fun r w' => r = .returned (.int .i64 2) ∧ Below W.heap.size W w') := fun W z hW => asked_one W ta9 z gs os cs (fun q u hq => below_cell hW (HW.out.2 q u hq))
  obtain ⟨c0, c1, c2, c3, c4, c5, c6⟩ := ta_at (j := 0) hs rfl
  simp only [Nat.zero_mul, Nat.add_zero, ta9] at c0 c1 c2 c3 c4 c5 c6
  have HT : Hid (w.cell? ⟨gs, os, none⟩ = some (.string ⟨#[97]⟩) ∧ w.cell? ⟨gs, os + 1, none⟩ = some (.int .i64 2) ∧ w.cell? ⟨gs, os + 2, none⟩ = some (.int .i64 9) ∧ w.cell? ⟨gs, os + 3, none⟩ = some (.int .i64 9) ∧ w.cell? ⟨gs, os + 4, none⟩ = some (.int .i64 0) ∧ w.cell? ⟨gs, os + 5, none⟩ = some (.int .i64 0) ∧ w.cell? ⟨gs, os + 6, none⟩ = some (.int .i64 0)) := ⟨c0, c1, c2, c3, c4, c5, c6⟩
  clear hsl hs hw hn6 h206 hs6 c0 c1 c2 c3 c4 c5 c6
  go_enter Tryz.func22, Tryz.ntmps22
  go_wp2_with (first
    | (go_at_call 42; refine (HFr.out _ H1.out.bel).mono ?_; rintro r w2 ⟨rfl, hb2⟩; have H2 : Hid (FB w (w2.alloc (.cells #[.int .i64 0, .int .i64 0] 30)) w.heap.size) := (H1.out.grow hb2).grow (below_new _ _); obtain ⟨d0, d1, d2, d3, d4, d5, d6⟩ := HT.out; have e0 := below_cell (below_seq H1.out.bel hb2) d0; have e1 := below_cell (below_seq H1.out.bel hb2) d1; have e2 := below_cell (below_seq H1.out.bel hb2) d2; have e3 := below_cell (below_seq H1.out.bel hb2) d3; have e4 := below_cell (below_seq H1.out.bel hb2) d4; have e5 := below_cell (below_seq H1.out.bel hb2) d5; have e6 := below_cell (below_seq H1.out.bel hb2) d6; have le : gs < w2.heap.size := World.block_lt_of_cell? _ _ e0; clear hb2 d0 d1 d2 d3 d4 d5 d6)
    | (go_at_call 41; refine HR.mono ?_; rintro r w1 ⟨rfl, hb1⟩; have H1 : Hid (FB w (w1.alloc (.cells #[.int .i64 0, .int .i64 0] 30)) w.heap.size) := (H0.out.grow hb1).grow (below_new _ _); clear hb1 HR))
  go_cut [13, 14] from 13 to 14 (fun x y wc => ∃ gf gt, x = .pointer (some ⟨gf, 0, none⟩) ∧ y = .pointer (some ⟨gt, 0, none⟩) ∧ Hid (FB w wc w.heap.size) ∧ wc.heap[gf]? = some (.cells #[.int .i64 6, .slice (some ⟨gw, ow, none⟩) 2 cw] 87 (0, 0)) ∧ wc.heap[gt]? = some (.cells #[.string ⟨#[97]⟩, .int .i64 2, .int .i64 9, .int .i64 9, .int .i64 0, .int .i64 0, .int .i64 0] 56 (0, 0)))
  case first =>
    have le1 : gs < w2.heap.size + 1 := by omega
    have le2 : gs < w2.heap.size + 1 + 1 := by omega
    have le3 : gs < w2.heap.size + 2 := by omega
    have n1 : ¬ gs = w2.heap.size := by omega
    have n2 : ¬ gs = w2.heap.size + 1 := by omega
    have n3 : ¬ gs = w2.heap.size + 1 + 1 := by omega
    go_region
    · go_wp2_with fail
      go_meet
      case rel =>
        obtain ⟨q1, q2⟩ := two_new (w2.alloc (.cells #[.int .i64 0, .int .i64 0] 30)) (.cells #[.int .i64 6, .slice (some ⟨gw, ow, none⟩) 2 cw] 87) (.cells #[.string ⟨#[97]⟩, .int .i64 2, .int .i64 9, .int .i64 9, .int .i64 0, .int .i64 0, .int .i64 0] 56)
        refine ⟨_, _, rfl, rfl, (H2.out.grow ((below_seq (below_new _ _) (below_new _ _)).drew)), ?_, ?_⟩
        · simpa using q1
        · simpa using q2
    · go_wp2_with fail
      go_meet
      case rel =>
        obtain ⟨q1, q2⟩ := two_new (w2.alloc (.cells #[.int .i64 0, .int .i64 0] 30)) (.cells #[.string ⟨#[97]⟩, .int .i64 2, .int .i64 9, .int .i64 9, .int .i64 0, .int .i64 0, .int .i64 0] 56) (.cells #[.int .i64 6, .slice (some ⟨gw, ow, none⟩) 2 cw] 87)
        refine ⟨_, _, rfl, rfl, (H2.out.grow ((below_seq (below_new _ _) (below_new _ _)).drew)), ?_, ?_⟩
        · simpa using q2
        · simpa using q1
  case rest =>
    obtain ⟨gf, gt, rfl, rfl, HC, hf, ht⟩ := hcut
    obtain ⟨df, -, lf⟩ := cells_of (l := [_, _]) hf
    obtain ⟨dt, -, lt⟩ := cells_of (l := [_, _, _, _, _, _, _]) ht
    have f0 := df 0 _ rfl
    have f1 := df 1 _ rfl
    have t1 := dt 1 _ rfl
    have t3 := dt 3 _ rfl
    have t4 := dt 4 _ rfl
    clear df dt hf ht
    have HF : Hid ((wc.cell? ⟨gf, 0, none⟩ = some (.int .i64 6) ∧ wc.cell? ⟨gf, 1, none⟩ = some (.slice (some ⟨gw, ow, none⟩) 2 cw)) ∧ wc.cell? ⟨gt, 3, none⟩ = some (.int .i64 9) ∧ wc.cell? ⟨gt, 4, none⟩ = some (.int .i64 0)) := ⟨⟨f0, f1⟩, t3, t4⟩
    go_wp2_with fail
    clear f0 f1 t1 t3 t4
    go_loopw [15] (fun x wr => (x = .int .i64 2 ∨ x = .int .i64 4 ∨ x = .int .i64 5) ∧ Hid (Below wc.heap.size wc wr)) (fun x _ => 10 - (intOf x).toNat)
    case atStart => exact ⟨.inl rfl, Below.refl _ _⟩
    case round =>
      obtain ⟨hx, HB⟩ := hrel
      have f0 := below_cell HB.out HF.out.1.1
      have f1 := below_cell HB.out HF.out.1.2
      have t3 := below_cell HB.out HF.out.2.1
      have t4 := below_cell HB.out HF.out.2.2
      obtain ⟨r10, r11, z10, z11, rl⟩ := (HC.out.grow HB.out).res2
      rcases hx with rfl | rfl | rfl
      · have HL2 : Hid (∀ W, Below w.heap.size w W → Calls Tryz.prog 44 #[.agg #[.int .i64 6, .slice (some ⟨gw, ow, none⟩) 2 cw], .int .i64 2] W fun r w' => r = .returned (.int .i64 0) ∧ Below W.heap.size W w') := fun W hW => by have := HL.out W 2 (by omega) hW; rw [least2] at this; exact this
        go_wp2_with fail
        go_region_held3 (fun w' => Below wr.heap.size wr w' ∧ w'.cell? ⟨gf, 0, none⟩ = some (.int .i64 6) ∧ w'.cell? ⟨gf, 1, none⟩ = some (.slice (some ⟨gw, ow, none⟩) 2 cw))
          (first | assumption | exact ⟨(Below.refl _ _).drew, by go_simp, by go_simp⟩)
          (first
            | (go_at_call 43; refine (HA.out _ _ (below_seq (HC.out.grow HB.out).bel (And.left ‹Below wr.heap.size wr _ ∧ _›))).mono ?_; rintro r wa ⟨rfl, hba⟩; have hSa := keepP hba ‹Below wr.heap.size wr _ ∧ _›; clear hba)
            | (go_at_call 44; refine (HL2.out _ (below_seq (HC.out.grow HB.out).bel (And.left ‹Below wr.heap.size wr _ ∧ _›))).mono ?_; rintro r wl ⟨rfl, hbl⟩; have hSl := keepP hbl ‹Below wr.heap.size wr _ ∧ _›; clear hbl))
        all_goals
          go_wp2_with fail
          exact ⟨⟨.inr (.inl rfl), below_seq HB.out (And.left ‹Below wr.heap.size wr _ ∧ _›)⟩, by simp [intOf]⟩
      · have HL2 : Hid (∀ W, Below w.heap.size w W → Calls Tryz.prog 44 #[.agg #[.int .i64 6, .slice (some ⟨gw, ow, none⟩) 2 cw], .int .i64 4] W fun r w' => r = .returned (.int .i64 1) ∧ Below W.heap.size W w') := fun W hW => by have := HL.out W 4 (by omega) hW; rw [least4] at this; exact this
        go_wp2_with fail
        go_region_held3 (fun w' => Below wr.heap.size wr w' ∧ w'.cell? ⟨gf, 0, none⟩ = some (.int .i64 6) ∧ w'.cell? ⟨gf, 1, none⟩ = some (.slice (some ⟨gw, ow, none⟩) 2 cw))
          (first | assumption | exact ⟨(Below.refl _ _).drew, by go_simp, by go_simp⟩)
          (first
            | (go_at_call 43; refine (HA.out _ _ (below_seq (HC.out.grow HB.out).bel (And.left ‹Below wr.heap.size wr _ ∧ _›))).mono ?_; rintro r wa ⟨rfl, hba⟩; have hSa := keepP hba ‹Below wr.heap.size wr _ ∧ _›; clear hba)
            | (go_at_call 44; refine (HL2.out _ (below_seq (HC.out.grow HB.out).bel (And.left ‹Below wr.heap.size wr _ ∧ _›))).mono ?_; rintro r wl ⟨rfl, hbl⟩; have hSl := keepP hbl ‹Below wr.heap.size wr _ ∧ _›; clear hbl))
        all_goals
          go_wp2_with fail
          exact ⟨⟨.inr (.inr rfl), below_seq HB.out (And.left ‹Below wr.heap.size wr _ ∧ _›)⟩, by simp [intOf]⟩
      · have HL2 : Hid (∀ W, Below w.heap.size w W → Calls Tryz.prog 44 #[.agg #[.int .i64 6, .slice (some ⟨gw, ow, none⟩) 2 cw], .int .i64 5] W fun r w' => r = .returned (.int .i64 2) ∧ Below W.heap.size W w') := fun W hW => by have := HL.out W 5 (by omega) hW; rw [least5] at this; exact this
        go_wp2_with fail
        go_region_held3 (fun w' => Below wr.heap.size wr w' ∧ w'.cell? ⟨gf, 0, none⟩ = some (.int .i64 6) ∧ w'.cell? ⟨gf, 1, none⟩ = some (.slice (some ⟨gw, ow, none⟩) 2 cw))
          (first | assumption | exact ⟨(Below.refl _ _).drew, by go_simp, by go_simp⟩)
          (first
            | (go_at_call 43; refine (HA.out _ _ (below_seq (HC.out.grow HB.out).bel (And.left ‹Below wr.heap.size wr _ ∧ _›))).mono ?_; rintro r wa ⟨rfl, hba⟩; have hSa := keepP hba ‹Below wr.heap.size wr _ ∧ _›; clear hba)
            | (go_at_call 44; refine (HL2.out _ (below_seq (HC.out.grow HB.out).bel (And.left ‹Below wr.heap.size wr _ ∧ _›))).mono ?_; rintro r wl ⟨rfl, hbl⟩; have hSl := keepP hbl ‹Below wr.heap.size wr _ ∧ _›; clear hbl))
        all_goals
          have hSb := And.left ‹Below wr.heap.size wr _ ∧ _›
          have H9 : Hid (FB w _ w.heap.size) := (HC.out.grow HB.out).grow hSb
          obtain ⟨r10, r11, z10, z11, rl⟩ := H9.out.res2
          have t4 := below_cell hSb t4
          clear hSb
          go_wp2_with fail
          refine bodyPost_ret (Within_ends (set_two H9.out.res) rfl rfl) rfl ?_
          exact ⟨rfl, H9.out.set _ _⟩
end Go.Proofs.YtccoobcggbbciaiGreatDoor
namespace Go.Proofs.YtccoobcggbbciaiGreatDoor
open Go.ChangeShapes Go.WideShapes Go.ChangeAt Go.RowKit

/-- The law's own windows, in a world. -/
theorem wi6_made (w : World) : RowSl Wi.vals (w.alloc (.cells #[.int .i64 1, .int .i64 2, .int .i64 5, .int .i64 1] 60)) wi6 (.slice (some ⟨w.heap.size, 0, none⟩) 2 2) := by
  refine ⟨_, _, rfl, (fun e => by cases e), Nat.le_refl _, .inr ⟨w.heap.size, 0, rfl, fun q u hq => ?_⟩⟩
  rw [Nat.zero_add]
  exact (cells_of (l := [.int .i64 1, .int .i64 2, .int .i64 5, .int .i64 1]) (heap_alloc_new w (.cells #[.int .i64 1, .int .i64 2, .int .i64 5, .int .i64 1] 60))).1 q u hq

theorem sup27 : SupplyF 6 wi6 2 7 = (4, 0, 0) := by kernel_rfl
theorem lst3 : LeastF 6 wi6 3 = (1, 0, 0) := by kernel_rfl
theorem opn7 : (decide ((frmF 6 wi6).1 = 0) && decide ((0 : Int) ≤ 7) && thr 6 wi6 7) = true := by kernel_rfl
theorem opn6 : (decide ((frmF 6 wi6).1 = 0) && decide ((0 : Int) ≤ 6) && thr 6 wi6 6) = false := by kernel_rfl

set_option maxRecDepth 20000 in
set_option maxHeartbeats 4000000 in
theorem opens_any (w : World) : Calls Tryz.prog 18 #[] w fun r w' => r = .returned (.bool true) ∧ Below w.heap.size w w' := by
  have HW : Hid (RowSl Wi.vals (w.alloc (.cells #[.int .i64 1, .int .i64 2, .int .i64 5, .int .i64 1] 60)) wi6 (.slice (some ⟨w.heap.size, 0, none⟩) 2 2)) := wi6_made w
  have HB0 : Hid (Below w.heap.size w (w.alloc (.cells #[.int .i64 1, .int .i64 2, .int .i64 5, .int .i64 1] 60))) := below_new _ _
  generalize hW0 : w.alloc (.cells #[.int .i64 1, .int .i64 2, .int .i64 5, .int .i64 1] 60) = W0 at *
  have HS : Hid (∀ W, Below W0.heap.size W0 W → Calls Tryz.prog 38 #[.int .i64 6, .slice (some ⟨w.heap.size, 0, none⟩) 2 2, .int .i64 2, .int .i64 7] W fun r w' => r = .returned (.tuple #[.int .i64 4, .agg #[.int .i64 0, .int .i64 0]]) ∧ Below W.heap.size W w') := fun W hW => by
    have := Supply_any W 6 2 7 wi6 _ (HW.out.below hW)
    rw [sup27] at this
    exact this
  have HL : Hid (∀ W, Below W0.heap.size W0 W → Calls Tryz.prog 39 #[.int .i64 6, .slice (some ⟨w.heap.size, 0, none⟩) 2 2, .int .i64 3] W fun r w' => r = .returned (.tuple #[.int .i64 1, .agg #[.int .i64 0, .int .i64 0]]) ∧ Below W.heap.size W w') := fun W hW => by
    have := Least_any W 6 3 wi6 _ (HW.out.below hW)
    rw [lst3] at this
    exact this
  have HO : Hid (∀ W, Below W0.heap.size W0 W → Calls Tryz.prog 40 #[.int .i64 6, .slice (some ⟨w.heap.size, 0, none⟩) 2 2, .int .i64 7] W fun r w' => r = .returned (.bool true) ∧ Below W.heap.size W w') := fun W hW => by
    have := Open_any W 6 7 wi6 _ (HW.out.below hW)
    rw [opn7] at this
    exact this
  have HQ : Hid (∀ W, Below W0.heap.size W0 W → Calls Tryz.prog 40 #[.int .i64 6, .slice (some ⟨w.heap.size, 0, none⟩) 2 2, .int .i64 6] W fun r w' => r = .returned (.bool false) ∧ Below W.heap.size W w') := fun W hW => by
    have := Open_any W 6 6 wi6 _ (HW.out.below hW)
    rw [opn6] at this
    exact this
  have HT : Hid (∀ (W : World) (g : Nat), Below W0.heap.size W0 W → W.heap[g]? = some (.cells #[.string ⟨#[97]⟩, .int .i64 2, .int .i64 9, .int .i64 9, .int .i64 0, .int .i64 0, .int .i64 0] 56 (0, 0)) → Calls Tryz.prog 22 #[.slice (some ⟨g, 0, none⟩) 1 1, .int .i64 0, .int .i64 6, .slice (some ⟨w.heap.size, 0, none⟩) 2 2] W fun r w' => r = .returned (.tuple #[.int .i64 5, .agg #[.int .i64 0, .int .i64 0]]) ∧ Below W.heap.size W w') := fun W g hW hg => by
    refine Within_own W g 0 1 w.heap.size 0 2 (Nat.le_refl _) (fun q u hq => ?_) (HW.out.below hW)
    rw [Nat.zero_add]
    exact (cells_of (l := [_, _, _, _, _, _, _]) hg).1 q u hq
  go_enter Tryz.func18, Tryz.ntmps18
  go_wp2_with (go_at_call 38; refine (HS.out _ (Below.refl _ _)).mono ?_; rintro r w1 ⟨rfl, hb1⟩; have H1 : Hid (Below W0.heap.size W0 (w1.alloc (.cells #[.int .i64 0, .int .i64 0] 30))) := below_seq hb1 (below_new _ _); clear hb1)
  go_wp2_with (go_at_call 39; refine (HL.out _ H1.out).mono ?_; rintro r w2 ⟨rfl, hb2⟩; have p0 : w2.cell? ⟨w1.heap.size, 0, none⟩ = some (.int .i64 0) := below_cell hb2 (by go_simp); have l1 : w1.heap.size < w2.heap.size := World.block_lt_of_cell? _ _ p0; have H2 : Hid (Below W0.heap.size W0 (w2.alloc (.cells #[.int .i64 0, .int .i64 0] 30))) := below_seq (below_seq H1.out hb2) (below_new _ _); clear hb2)
  go_wp2_with (first
    | (go_at_call 40; refine (HQ.out _ (below_seq H3.out.2 H4.out)).mono ?_; rintro r w5 ⟨rfl, hb5⟩; have H5 : Hid (Below W0.heap.size W0 w5) := below_seq (below_seq H3.out.2 H4.out) hb5; clear hb5)
    | (go_at_call 40; refine (HO.out _ H3.out.2).mono ?_; rintro r w4 ⟨rfl, hb4⟩; have H4 : Hid (Below (w3.alloc (.cells #[.int .i64 0, .int .i64 0] 30)).heap.size (w3.alloc (.cells #[.int .i64 0, .int .i64 0] 30)) w4) := hb4; clear hb4)
    | (go_at_call 22; refine (HT.out ((w2.alloc (.cells #[.int .i64 0, .int .i64 0] 30)).alloc (.cells #[.string ⟨#[97]⟩, .int .i64 2, .int .i64 9, .int .i64 9, .int .i64 0, .int .i64 0, .int .i64 0] 56)) (w2.heap.size + 1) (below_seq H2.out (below_new _ _)) (by have := heap_alloc_new (w2.alloc (.cells #[.int .i64 0, .int .i64 0] 30)) (.cells #[.string ⟨#[97]⟩, .int .i64 2, .int .i64 9, .int .i64 9, .int .i64 0, .int .i64 0, .int .i64 0] 56); simpa using this)).mono ?_; rintro r w3 ⟨rfl, hb3⟩; have q0 : w3.cell? ⟨w1.heap.size, 0, none⟩ = some (.int .i64 0) := below_cell (below_seq (below_seq (below_new _ _) (below_new _ _)) hb3) p0; have q1 : w3.cell? ⟨w2.heap.size, 0, none⟩ = some (.int .i64 0) := below_cell hb3 (by go_simp); have l2 : w2.heap.size < w3.heap.size := World.block_lt_of_cell? _ _ q1; have l3 : w1.heap.size < w3.heap.size := World.block_lt_of_cell? _ _ q0; have H3 : Hid (True ∧ Below W0.heap.size W0 (w3.alloc (.cells #[.int .i64 0, .int .i64 0] 30))) := ⟨trivial, below_seq (below_seq (below_seq H2.out (below_new _ _)) hb3) (below_new _ _)⟩; clear hb3))
  go_ret
  exact ⟨rfl, below_seq HB0.out H5.out⟩
end Go.Proofs.YtccoobcggbbciaiGreatDoor
