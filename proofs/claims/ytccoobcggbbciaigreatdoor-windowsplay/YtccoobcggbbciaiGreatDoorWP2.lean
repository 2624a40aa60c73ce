import Derived.Test.YtccoobcggbbciaiGreatDoorVP
import Derived.Test.YtccoobcggbbciaiGreatDoorVJ
import Derived.Test.YtccoobcggbbciaiGreatDoorYB
namespace Go.Proofs.YtccoobcggbbciaiGreatDoor
open Go.ChangeShapes Go.WideShapes Go.ChangeAt Go.RowKit

/-- What Within tells. -/
def WiS (l : List Ta) (i n : Int) (wl : List Wi) (v a b : Int) : Prop :=
  ((responseF l i 0).2.1 ≠ 0 ∧ v = 0 ∧ a = (responseF l i 0).2.1 ∧ b = (responseF l i 0).2.2) ∨
  ((responseF l i 0).2.1 = 0 ∧ (((frmF n wl).1 ≠ 0 ∧ v = 0 ∧ a = (frmF n wl).1 ∧ b = (frmF n wl).2) ∨
   ((frmF n wl).1 = 0 ∧ ((∃ k : Nat, (Tk l i.toNat).c ≤ (k : Int) ∧ (k : Int) + (Tk l i.toNat).j ≤ (Tk l i.toNat).d ∧ askF (Tk l i.toNat).c (othF (aheadP l i.toNat) i.toNat l 0) (k : Int) ≤ leastF n wl k ∧ (∀ k' : Nat, (Tk l i.toNat).c ≤ (k' : Int) → k' < k → leastF n wl k' < askF (Tk l i.toNat).c (othF (aheadP l i.toNat) i.toNat l 0) (k' : Int)) ∧ v = (k : Int) + (Tk l i.toNat).j ∧ a = 0 ∧ b = 0) ∨
    ((∀ k : Nat, (Tk l i.toNat).c ≤ (k : Int) → (k : Int) + (Tk l i.toNat).j ≤ (Tk l i.toNat).d → leastF n wl k < askF (Tk l i.toNat).c (othF (aheadP l i.toNat) i.toNat l 0) (k : Int)) ∧ v = 0 ∧ a = 13 ∧ b = i)))))

theorem wiS_one {l : List Ta} {i n : Int} {wl : List Wi} {v a b v' a' b' : Int} (h : WiS l i n wl v a b) (h' : WiS l i n wl v' a' b') : v = v' ∧ a = a' ∧ b = b' := by
  rcases h with ⟨h0, rfl, rfl, rfl⟩ | ⟨h0, ⟨h1, rfl, rfl, rfl⟩ | ⟨h1, ⟨k, k1, k2, k3, k4, rfl, rfl, rfl⟩ | ⟨k1, rfl, rfl, rfl⟩⟩⟩ <;>
  rcases h' with ⟨g0, rfl, rfl, rfl⟩ | ⟨g0, ⟨g1, rfl, rfl, rfl⟩ | ⟨g1, ⟨m, m1, m2, m3, m4, rfl, rfl, rfl⟩ | ⟨m1, rfl, rfl, rfl⟩⟩⟩
  all_goals first
    | exact ⟨rfl, rfl, rfl⟩
    | exact absurd g0 h0
    | exact absurd h0 g0
    | exact absurd g1 h1
    | exact absurd h1 g1
    | skip
  · have e : k = m := by
      apply Classical.byContradiction
      intro hne
      rcases Nat.lt_or_gt_of_ne hne with hlt | hlt
      · have := m4 k k1 hlt; omega
      · have := k4 m m1 hlt; omega
    subst e
    exact ⟨rfl, rfl, rfl⟩
  · have := m1 k k1 k2; omega
  · have := k1 m m1 m2; omega

theorem response_in {l : List Ta} {i : Int} (h : (responseF l i 0).2.1 = 0) : (chkX l).1 = 0 ∧ 0 ≤ i ∧ i < (l.length : Int) := by
  unfold responseF at h
  by_cases h0 : (chkX l).1 ≠ 0
  · rw [if_pos h0] at h; exact absurd h h0
  · rw [if_neg h0] at h
    unfold respF at h
    by_cases h1 : i < 0 ∨ (l.length : Int) ≤ i ∨ (0 : Int) < 0 ∨ 10000 < (0 : Int)
    · rw [if_pos h1] at h; cases h
    · refine ⟨by simpa using h0, by omega, by omega⟩

theorem lean_step (n : Nat) (l : List Wi) (k : Nat) : leanF n l (k + 1) n ≤ leanF n l k n + 1 := by
  obtain ⟨⟨a1, a2⟩, -⟩ := leanF_le n l (k + 1) n
  obtain ⟨-, b1⟩ := leanF_le n l k n
  rcases b1 with b1 | ⟨s, hs, b1⟩
  · omega
  · have h1 := a2 s hs
    rw [sup_succ] at h1
    have := bit_le (thr n l ((s + k : Nat) : Int))
    omega

theorem least_add {n : Nat} {l : List Wi} (hn : 1 ≤ n) (h : Srt n 0 l) (k : Nat) : ∀ d : Nat, leastF n l (k + d) ≤ leastF n l k + d
  | 0 => by simp
  | d + 1 => by
    have ih := least_add hn h k d
    have := lean_step n l (k + d)
    rw [← least_lean hn h, ← least_lean hn h] at this
    rw [show k + (d + 1) = k + d + 1 by omega]
    omega

/-- None between brings enough. -/
theorem least_jump {n : Nat} {wl : List Wi} (hn : 1 ≤ n) (h : Srt n 0 wl) {c : Int} {os : List Ta} (hs : ∀ x ∈ os, stands x = true) {k k' : Nat} (hk : k ≤ k') (hd : (k' : Int) < (k : Int) + (askF c os (k : Int) - leastF n wl k)) : leastF n wl k' < askF c os (k' : Int) := by
  obtain ⟨d, rfl⟩ : ∃ d, k' = k + d := ⟨k' - k, by omega⟩
  have h1 := least_add hn h k d
  have h2 := sumO_mono (w := (k : Int)) (v := ((k + d : Nat) : Int)) (by omega) os hs
  unfold askF at hd ⊢
  omega

def WithinPost (w : World) (l : List Ta) (i n : Int) (wl : List Wi) (r : Ending) (w' : World) : Prop := ∃ v a b, r = .returned (.tuple #[.int .i64 v, .agg #[.int .i64 a, .int .i64 b]]) ∧ Below w.heap.size w w' ∧ WiS l i n wl v a b

theorem leastF_in {n : Nat} {wl : List Wi} {k : Nat} : 0 ≤ leastF n wl k ∧ leastF n wl k ≤ k := by
  obtain ⟨⟨h1, h2⟩, h3⟩ := foldl_min (fun x : Wi => sup n wl (x.at_ + x.ln).toNat k) wl (sup n wl 0 k)
  have e : leastF n wl k = wl.foldl (fun m x => min m (sup n wl (x.at_ + x.ln).toNat k)) (sup n wl 0 k) := rfl
  rw [e]
  have h0 := sup_le n wl 0 k
  refine ⟨?_, by omega⟩
  rcases h3 with h3 | ⟨x, hx, h3⟩
  · omega
  · have := sup_le n wl (x.at_ + x.ln).toNat k
    omega

set_option maxRecDepth 20000 in
set_option maxHeartbeats 4000000 in
theorem Within_any (w : World) (l : List Ta) (i n : Int) (wl : List Wi) (v vw : Value) (hl : l.length ≤ 1000000) (hv : RowSl Ta.vals w l v) (hvw : RowSl Wi.vals w wl vw) :
    Calls Tryz.prog 22 #[v, .int .i64 i, .int .i64 n, vw] w (WithinPost w l i n wl) := by
  obtain ⟨ad, c, rfl⟩ := hv.len
  obtain ⟨ad1, c1, rfl⟩ := hvw.len
  have HV : Hid (RowSl Ta.vals w l (.slice ad l.length c) ∧ RowSl Wi.vals w wl (.slice ad1 wl.length c1)) := ⟨hv, hvw⟩
  have H0 : Hid (FB w (w.alloc (.cells #[.int .i64 0, .int .i64 0] 30)) w.heap.size) := FB.start w
  have HR := Response_any (w.alloc (.cells #[.int .i64 0, .int .i64 0] 30)) l _ i 0 hl (hv.below (below_new _ _))
  obtain ⟨z0, z1, z2, hz⟩ : ∃ z0 z1 z2, responseF l i 0 = (z0, z1, z2) := ⟨_, _, _, rfl⟩
  rw [hz] at HR
  dsimp only at HR
  clear hv hvw
  by_cases h0 : z1 = 0
  rotate_left 1
  · have hz1 : (z1 != 0) = true := by simpa using h0
    have HW1 : Hid (WiS l i n wl 0 z1 z2) := .inl ⟨by rw [hz]; exact h0, rfl, by rw [hz], by rw [hz]⟩
    clear hz
    go_enter Tryz.func22, Tryz.ntmps22
    go_upto_region 3 with (go_at_call 41; refine HR.mono ?_; rintro r w1 ⟨rfl, hb1⟩; have H1 : Hid (FB w (w1.alloc (.cells #[.int .i64 z1, .int .i64 z2] 30)) w.heap.size) := (H0.out.grow hb1).grow (below_new _ _); have hl1 : w.heap.size < w1.heap.size := (H0.out.grow hb1).lt; clear hb1 HR)
    obtain ⟨fs, -, fl⟩ := cells_of (l := [_, _]) (heap_alloc_new w1 (.cells #[.int .i64 z1, .int .i64 z2] 30))
    have g0 := fs 0 _ rfl
    have g1 := fs 1 _ rfl
    clear fs
    generalize w1.alloc (.cells #[.int .i64 z1, .int .i64 z2] 30) = w2 at *
    obtain ⟨r10, r11, y10, y11, rl⟩ := H1.out.res2
    go_region
    all_goals go_wp2_with fail
    all_goals
      refine bodyPost_ret (Within_ends (set_two H1.out.res) rfl rfl) rfl ?_
      exact ⟨_, _, _, rfl, (H1.out.set _ _).drew, HW1.out⟩
  subst h0
  have HZ : Hid ((responseF l i 0).2.1 = 0) := (by rw [hz] : (responseF l i 0).2.1 = 0)
  clear hz
  obtain ⟨hX, hi0, hi1⟩ := response_in HZ.out
  obtain ⟨i, rfl⟩ : ∃ j : Nat, i = (j : Int) := ⟨i.toNat, by omega⟩
  have hi : i < l.length := by omega
  clear hi0 hi1
  obtain ⟨-, hDT, -, h8, hst, -⟩ := chkX_ok hX
  have HX : Hid ((chkX l).1 = 0 ∧ (∀ x ∈ l, stands x = true) ∧ l.length ≤ 8) := ⟨hX, hst, h8⟩
  have HFr : Hid (∀ W, Below w.heap.size w W → Calls Tryz.prog 42 #[.int .i64 n, .slice ad1 wl.length c1] W fun r w' => r = .returned (.agg #[.int .i64 (frmF n wl).1, .int .i64 (frmF n wl).2]) ∧ Below W.heap.size W w') := fun W hW => Frame_any W n wl _ (HV.out.2.below hW)
  obtain ⟨y1, hy1⟩ : ∃ y1, (frmF n wl).1 = y1 := ⟨_, rfl⟩
  obtain ⟨y2, hy2⟩ : ∃ y2, (frmF n wl).2 = y2 := ⟨_, rfl⟩
  rw [hy1, hy2] at HFr
  by_cases h1 : y1 = 0
  rotate_left 1
  · have hz1 : (y1 != 0) = true := by simpa using h1
    have HW1 : Hid (WiS l (i : Int) n wl 0 y1 y2) := .inr ⟨HZ.out, .inl ⟨by rw [hy1]; exact h1, rfl, hy1.symm, hy2.symm⟩⟩
    clear hy1 hy2
    go_enter Tryz.func22, Tryz.ntmps22
    go_upto_region 6 with (first
      | (go_at_call 42; refine (HFr.out _ H1.out.bel).mono ?_; rintro r w2 ⟨rfl, hb2⟩; have H2 : Hid (FB w (w2.alloc (.cells #[.int .i64 y1, .int .i64 y2] 30)) w.heap.size) := (H1.out.grow hb2).grow (below_new _ _); have hl2 : w.heap.size < w2.heap.size := (H1.out.grow hb2).lt; clear hb2)
      | (go_at_call 41; refine HR.mono ?_; rintro r w1 ⟨rfl, hb1⟩; have H1 : Hid (FB w (w1.alloc (.cells #[.int .i64 0, .int .i64 z2] 30)) w.heap.size) := (H0.out.grow hb1).grow (below_new _ _); clear hb1 HR))
    obtain ⟨fs, -, fl⟩ := cells_of (l := [_, _]) (heap_alloc_new w2 (.cells #[.int .i64 y1, .int .i64 y2] 30))
    have g0 := fs 0 _ rfl
    have g1 := fs 1 _ rfl
    clear fs
    generalize w2.alloc (.cells #[.int .i64 y1, .int .i64 y2] 30) = w3 at *
    obtain ⟨r10, r11, y10, y11, rl⟩ := H2.out.res2
    go_region
    all_goals go_wp2_with fail
    all_goals
      refine bodyPost_ret (Within_ends (set_two H2.out.res) rfl rfl) rfl ?_
      exact ⟨_, _, _, rfl, (H2.out.set _ _).drew, HW1.out⟩
  subst h1
  obtain ⟨hn1, h20, hsrt, -⟩ := frmF_good (n := n) (l := wl) (z := (frmF n wl).2) (by rw [← hy1])
  obtain ⟨nn, hnn⟩ : ∃ nn : Nat, n = (nn : Int) := ⟨n.toNat, by omega⟩
  subst hnn
  have HFm : Hid ((frmF (nn : Int) wl).1 = 0 ∧ Srt (nn : Int) 0 wl ∧ 1 ≤ nn) := ⟨hy1, hsrt, by omega⟩
  have HL : Hid (∀ (W : World) (k : Nat), k ≤ 20000 → Below w.heap.size w W → Calls Tryz.prog 44 #[.agg #[.int .i64 (nn : Int), .slice ad1 wl.length c1], .int .i64 (k : Int)] W fun r w' => r = .returned (.int .i64 (leastF nn wl k)) ∧ Below W.heap.size W w') := fun W k hk hW => least_any W nn k wl ad1 c1 (by omega) h20 hsrt hk (HV.out.2.below hW)
  have HA : Hid (∀ (W : World) (z : Int), 0 ≤ z ∧ z ≤ 20000 → Below w.heap.size w W → Calls Tryz.prog 43 #[.slice ad l.length c, .int .i64 (i : Int), .int .i64 z] W fun r w' => r = .returned (.int .i64 (askF (Tk l i).c (othF (aheadP l i) i l 0) z)) ∧ Below W.heap.size W w') := fun W z hz' hW => asked_any W l i z _ h8 hi hst hz' (HV.out.1.below hW)
  have hts := stands_t (stands_mem hst hi)
  have hdt := hDT _ (Tk_mem hi)
  have HAb : Hid (∀ z : Int, 0 ≤ z ∧ z ≤ 20000 → 0 ≤ askF (Tk l i).c (othF (aheadP l i) i l 0) z ∧ askF (Tk l i).c (othF (aheadP l i) i l 0) z ≤ 10000 + 8000000000) := fun z hz' => by
    have h9 := sumO_in hz' (othF (aheadP l i) i l 0) (fun x hx => hst x (othF_mem _ _ x hx))
    have h10 := othF_len (A := aheadP l i) (i := i) l 0
    unfold askF
    omega
  obtain ⟨ad', c', he, -, hcap, hrow⟩ := HV.out.1
  cases he
  rcases hrow with h | ⟨b, o, rfl, hrow⟩
  · rw [h] at hi; simp at hi
  obtain ⟨d0, d1, d2, d3, d4, d5, d6⟩ := ta_at hrow (Tk_get hi)
  have HTE : Hid ((Tk l i).c = (Tk l i).c) := rfl
  obtain ⟨xx, hxx⟩ : ∃ xx, Tk l i = xx := ⟨_, rfl⟩
  rw [hxx] at d0 d1 d2 d3 d4 d5 d6 hts hdt
  have HTx : Hid (Tk l i = xx) := hxx
  obtain ⟨xn, xc, xt, xd, xj, xo, xp⟩ := xx
  dsimp only at d0 d1 d2 d3 d4 d5 d6 hts hdt
  have HT : Hid (w.cell? ⟨b, o + i * 7, none⟩ = some (.string xn) ∧ w.cell? ⟨b, o + i * 7 + 1, none⟩ = some (.int .i64 xc) ∧ w.cell? ⟨b, o + i * 7 + 2, none⟩ = some (.int .i64 xt) ∧ w.cell? ⟨b, o + i * 7 + 3, none⟩ = some (.int .i64 xd) ∧ w.cell? ⟨b, o + i * 7 + 4, none⟩ = some (.int .i64 xj) ∧ w.cell? ⟨b, o + i * 7 + 5, none⟩ = some (.int .i64 xo) ∧ w.cell? ⟨b, o + i * 7 + 6, none⟩ = some (.int .i64 xp)) := ⟨d0, d1, d2, d3, d4, d5, d6⟩
  have hii : (i : Int) < (l.length : Int) := by omega
  have hxb : 1 ≤ xc ∧ xc ≤ 10000 ∧ 1 ≤ xd ∧ xd ≤ 10000 ∧ 0 ≤ xj ∧ xj ≤ 10000 := by omega
  clear hrow d0 d1 d2 d3 d4 d5 d6 hts hdt hxx HTE hDT hst hX hn1 h20 hsrt hy1 hy2
  go_enter Tryz.func22, Tryz.ntmps22
  go_wp2_with (first
    | (go_at_call 42; refine (HFr.out _ H1.out.bel).mono ?_; rintro r w2 ⟨rfl, hb2⟩; have H2 : Hid (FB w (w2.alloc (.cells #[.int .i64 0, .int .i64 y2] 30)) w.heap.size) := (H1.out.grow hb2).grow (below_new _ _); obtain ⟨d0, d1, d2, d3, d4, d5, d6⟩ := HT.out; have e0 := below_cell (below_seq H1.out.bel hb2) d0; have e1 := below_cell (below_seq H1.out.bel hb2) d1; have e2 := below_cell (below_seq H1.out.bel hb2) d2; have e3 := below_cell (below_seq H1.out.bel hb2) d3; have e4 := below_cell (below_seq H1.out.bel hb2) d4; have e5 := below_cell (below_seq H1.out.bel hb2) d5; have e6 := below_cell (below_seq H1.out.bel hb2) d6; have le : b < w2.heap.size := World.block_lt_of_cell? _ _ e0; clear hb2 d0 d1 d2 d3 d4 d5 d6)
    | (go_at_call 41; refine HR.mono ?_; rintro r w1 ⟨rfl, hb1⟩; have H1 : Hid (FB w (w1.alloc (.cells #[.int .i64 0, .int .i64 z2] 30)) w.heap.size) := (H0.out.grow hb1).grow (below_new _ _); clear hb1 HR))
  go_cut [13, 14] from 13 to 14 (fun x y wc => ∃ gf gt, x = .pointer (some ⟨gf, 0, none⟩) ∧ y = .pointer (some ⟨gt, 0, none⟩) ∧ Hid (FB w wc w.heap.size) ∧ wc.heap[gf]? = some (.cells #[.int .i64 (nn : Int), .slice ad1 wl.length c1] 87 (0, 0)) ∧ wc.heap[gt]? = some (.cells #[.string xn, .int .i64 xc, .int .i64 xt, .int .i64 xd, .int .i64 xj, .int .i64 xo, .int .i64 xp] 56 (0, 0)))
  case first =>
    have le1 : b < w2.heap.size + 1 := by omega
    have le2 : b < w2.heap.size + 1 + 1 := by omega
    have le3 : b < w2.heap.size + 2 := by omega
    have n1 : ¬ b = w2.heap.size := by omega
    have n2 : ¬ b = w2.heap.size + 1 := by omega
    have n3 : ¬ b = w2.heap.size + 1 + 1 := by omega
    go_region
    · go_wp2_with fail
      go_meet
      case rel =>
        obtain ⟨q1, q2⟩ := two_new (w2.alloc (.cells #[.int .i64 0, .int .i64 y2] 30)) (.cells #[.int .i64 (nn : Int), .slice ad1 wl.length c1] 87) (.cells #[.string xn, .int .i64 xc, .int .i64 xt, .int .i64 xd, .int .i64 xj, .int .i64 xo, .int .i64 xp] 56)
        refine ⟨_, _, rfl, rfl, (H2.out.grow ((below_seq (below_new _ _) (below_new _ _)).drew)), ?_, ?_⟩
        · simpa using q1
        · simpa using q2
    · go_wp2_with fail
      go_meet
      case rel =>
        obtain ⟨q1, q2⟩ := two_new (w2.alloc (.cells #[.int .i64 0, .int .i64 y2] 30)) (.cells #[.string xn, .int .i64 xc, .int .i64 xt, .int .i64 xd, .int .i64 xj, .int .i64 xo, .int .i64 xp] 56) (.cells #[.int .i64 (nn : Int), .slice ad1 wl.length c1] 87)
        refine ⟨_, _, rfl, rfl, (H2.out.grow ((below_seq (below_new _ _) (below_new _ _)).drew)), ?_, ?_⟩
        · simpa using q2
        · simpa using q1
  case rest =>
    obtain ⟨gf, gt, rfl, rfl, HC, hf, ht⟩ := hcut
    obtain ⟨df, -, lf⟩ := cells_of (l := [_, _]) hf
    obtain ⟨dt, -, lt⟩ := cells_of (l := [_, _, _, _, _, _, _]) ht
    have f0 := df 0 _ rfl
    have f1 := df 1 _ rfl
    have t1 := dt 1 _ rfl
    have t3 := dt 3 _ rfl
    have t4 := dt 4 _ rfl
    clear df dt hf ht
    have HF : Hid ((wc.cell? ⟨gf, 0, none⟩ = some (.int .i64 (nn : Int)) ∧ wc.cell? ⟨gf, 1, none⟩ = some (.slice ad1 wl.length c1)) ∧ wc.cell? ⟨gt, 3, none⟩ = some (.int .i64 xd) ∧ wc.cell? ⟨gt, 4, none⟩ = some (.int .i64 xj)) := ⟨⟨f0, f1⟩, t3, t4⟩
    go_wp2_with fail
    clear f0 f1 t1 t3 t4
    have qdj : IntKind.i64.wrap (xd - xj) = xd - xj := by rw [IntKind.wrap_i64]; omega
    go_loopw [15] (fun x wr => ∃ k : Nat, x = .int .i64 (k : Int) ∧ 1 ≤ k ∧ k ≤ 9000000000 ∧ Hid (Below wc.heap.size wc wr ∧ xc ≤ (k : Int) ∧ ∀ k' : Nat, xc ≤ (k' : Int) → k' < k → leastF nn wl k' < askF (Tk l i).c (othF (aheadP l i) i l 0) (k' : Int))) (fun x _ => 20000 - (intOf x).toNat)
    case atStart => exact ⟨xc.toNat, by rw [Int.toNat_of_nonneg (by omega)], by omega, by omega, ⟨Below.refl _ _, by rw [Int.toNat_of_nonneg (by omega)]; exact Int.le_refl _, fun k' h1 h2 => by omega⟩⟩
    case round =>
      obtain ⟨k, rfl, hk1, hk2, HBK⟩ := hrel
      have HB : Hid (Below wc.heap.size wc wr) := HBK.out.1
      have f0 := below_cell HB.out HF.out.1.1
      have f1 := below_cell HB.out HF.out.1.2
      have t3 := below_cell HB.out HF.out.2.1
      have t4 := below_cell HB.out HF.out.2.2
      have lf' : gf < wr.heap.size := World.block_lt_of_cell? _ _ f0
      have lt' : gt < wr.heap.size := World.block_lt_of_cell? _ _ t3
      obtain ⟨r10, r11, z10, z11, rl⟩ := (HC.out.grow HB.out).res2
      by_cases hkd : (k : Int) ≤ xd - xj
      rotate_left 1
      · have hkd' : decide ((k : Int) ≤ xd - xj) = false := decide_eq_false hkd
        go_wp2_with fail
        refine bodyPost_ret (Within_ends (set_two (HC.out.grow HB.out).res) rfl rfl) rfl ?_
        refine ⟨_, _, _, rfl, (HC.out.grow HB.out).set _ _, .inr ⟨HZ.out, .inr ⟨HFm.out.1, .inr ⟨fun m m1 m2 => ?_, rfl, rfl, rfl⟩⟩⟩⟩
        rw [Int.toNat_natCast] at m1 m2 ⊢
        rw [HTx.out] at m1 m2
        dsimp only at m1 m2
        exact HBK.out.2.2 m m1 (by omega)
      have hkd' : decide ((k : Int) ≤ xd - xj) = true := decide_eq_true hkd
      have hk3 : k ≤ 20000 := by omega
      have HA2 : Hid (∀ W, Below w.heap.size w W → Calls Tryz.prog 43 #[.slice (some ⟨b, o, none⟩) l.length c, .int .i64 (i : Int), .int .i64 (k : Int)] W fun r w' => r = .returned (.int .i64 (askF (Tk l i).c (othF (aheadP l i) i l 0) (k : Int))) ∧ Below W.heap.size W w') := fun W hW => HA.out W (k : Int) (by omega) hW
      have HL2 : Hid (∀ W, Below w.heap.size w W → Calls Tryz.prog 44 #[.agg #[.int .i64 (nn : Int), .slice ad1 wl.length c1], .int .i64 (k : Int)] W fun r w' => r = .returned (.int .i64 (leastF nn wl k)) ∧ Below W.heap.size W w') := fun W hW => HL.out W k hk3 hW
      have hab := HAb.out (k : Int) (by omega)
      have hlb := leastF_in (n := nn) (wl := wl) (k := k)
      obtain ⟨av, hav⟩ : ∃ av, askF (Tk l i).c (othF (aheadP l i) i l 0) (k : Int) = av := ⟨_, rfl⟩
      obtain ⟨lv, hlv⟩ : ∃ lv, leastF nn wl k = lv := ⟨_, rfl⟩
      rw [hav] at hab HA2
      rw [hlv] at hlb HL2
      have HAL : Hid (askF (Tk l i).c (othF (aheadP l i) i l 0) (k : Int) = av ∧ leastF nn wl k = lv) := ⟨hav, hlv⟩
      have qs : IntKind.i64.wrap (av - lv) = av - lv := by rw [IntKind.wrap_i64]; omega
      clear hav hlv
      go_wp2_with fail
      go_region_held3 (fun w' => Below wr.heap.size wr w' ∧ w'.cell? ⟨gf, 0, none⟩ = some (.int .i64 (nn : Int)) ∧ w'.cell? ⟨gf, 1, none⟩ = some (.slice ad1 wl.length c1))
        (first | assumption | exact ⟨(Below.refl _ _).drew, by go_simp, by go_simp⟩)
        (first
          | (go_at_call 43; refine (HA2.out _ (below_seq (HC.out.grow HB.out).bel (And.left ‹Below wr.heap.size wr _ ∧ _›))).mono ?_; rintro r wa ⟨rfl, hba⟩; have hSa := keepP hba ‹Below wr.heap.size wr _ ∧ _›; clear hba)
          | (go_at_call 44; refine (HL2.out _ (below_seq (HC.out.grow HB.out).bel (And.left ‹Below wr.heap.size wr _ ∧ _›))).mono ?_; rintro r wl' ⟨rfl, hbl⟩; have hSl := keepP hbl ‹Below wr.heap.size wr _ ∧ _›; clear hbl))
      all_goals
        have hSb := And.left ‹Below wr.heap.size wr _ ∧ _›
        have H9 : Hid (FB w _ w.heap.size) := (HC.out.grow HB.out).grow hSb
        have HSb : Hid (Below wr.heap.size wr _) := hSb
        obtain ⟨r10, r11, z10, z11, rl⟩ := H9.out.res2
        have t4 := below_cell hSb t4
        clear hSb
        by_cases hsh : av - lv ≤ 0
        · have hshd : decide (av - lv ≤ 0) = true := decide_eq_true hsh
          have qr : IntKind.i64.wrap ((k : Int) + xj) = (k : Int) + xj := by rw [IntKind.wrap_i64]; omega
          go_wp2_with fail
          refine bodyPost_ret (Within_ends (set_two H9.out.res) rfl rfl) rfl ?_
          refine ⟨_, _, _, rfl, H9.out.set _ _, .inr ⟨HZ.out, .inr ⟨HFm.out.1, .inl ⟨k, ?_, ?_, ?_, fun m m1 m2 => ?_, ?_, rfl, rfl⟩⟩⟩⟩ <;> rw [Int.toNat_natCast]
          · rw [HTx.out]; exact HBK.out.2.1
          · rw [HTx.out]; show (k : Int) + xj ≤ xd; omega
          · rw [HAL.out.1, HAL.out.2]; omega
          · rw [Int.toNat_natCast, HTx.out] at m1; exact HBK.out.2.2 m m1 m2
          · rw [HTx.out]
        · have hshd : decide (av - lv ≤ 0) = false := decide_eq_false hsh
          obtain ⟨k', hk'⟩ : ∃ k' : Nat, (k : Int) + (av - lv) = (k' : Int) := ⟨((k : Int) + (av - lv)).toNat, by omega⟩
          have hk4 : k < k' ∧ k' ≤ 9000000000 := by omega
          have qr : IntKind.i64.wrap ((k : Int) + (av - lv)) = (k' : Int) := by rw [IntKind.wrap_i64]; omega
          have HK' : Hid ((k : Int) + (av - lv) = (k' : Int)) := hk'
          clear hk'
          go_wp2_with fail
          refine ⟨⟨k', rfl, by omega, by omega, ⟨below_seq HB.out HSb.out, by have := HBK.out.2.1; omega, fun m m1 m2 => ?_⟩⟩, by simp [intOf]; omega⟩
          by_cases hmk : m < k
          · exact HBK.out.2.2 m m1 hmk
          · refine least_jump HFm.out.2.2 HFm.out.2.1 (fun x hx => HX.out.2.1 x (othF_mem _ _ x hx)) (Nat.le_of_not_lt hmk) ?_
            rw [HAL.out.1, HAL.out.2]
            have := HK'.out
            omega
end Go.Proofs.YtccoobcggbbciaiGreatDoor
namespace Go.Proofs.YtccoobcggbbciaiGreatDoor
open Go.ChangeShapes Go.WideShapes Go.ChangeAt Go.RowKit

theorem WithinOf_ends {w : World} {g : Nat} {c k p : Value} {a : Act} (h : w.heap[g]? = some (.cells #[c, k] 30 (0, 0))) (h2 : a.tmps[8]?.getD undef = p) (h3 : a.tmps[9]?.getD undef = .pointer (some ⟨g, 0, none⟩)) :
    (results Tryz.f23 a.tmps).run Tryz.prog w = .ok (.tuple #[p, .agg #[c, k]]) w := by
  obtain ⟨c1, f1, l1⟩ := cells_of (l := [_, _]) h
  have c10 := c1 0 _ rfl
  have c11 := c1 1 _ rfl
  simp [results, Tryz.results23, go_sem, h2, h3, c10, c11]

set_option maxRecDepth 20000 in
set_option maxHeartbeats 4000000 in
theorem WithinOf_r (w : World) (l : List Ta) (i n : Int) (wl : List Wi) (v vw : Value) (hS : ∀ x ∈ l, x.nm.size ≤ 9223372036854775807) (hv : RowSl Ta.vals w l v) (hvw : RowSl Wi.vals w wl vw) (hr0 : (responseF l i 0).2.1 ≠ 0) :
    Calls Tryz.prog 23 #[v, .int .i64 i, .int .i64 n, vw] w (WithinPost w l i n wl) := by
  obtain ⟨ad, c, rfl⟩ := hv.len
  obtain ⟨ad1, c1, rfl⟩ := hvw.len
  have HV : Hid (RowSl Ta.vals w l (.slice ad l.length c) ∧ RowSl Wi.vals w wl (.slice ad1 wl.length c1)) := ⟨hv, hvw⟩
  have H0 : Hid (FB w (w.alloc (.cells #[.int .i64 0, .int .i64 0] 30)) w.heap.size) := FB.start w
  have HR := ResponseOf_any (w.alloc (.cells #[.int .i64 0, .int .i64 0] 30)) l _ i 0 hS (hv.below (below_new _ _))
  obtain ⟨z0, z1, z2, hz⟩ : ∃ z0 z1 z2, responseF l i 0 = (z0, z1, z2) := ⟨_, _, _, rfl⟩
  rw [hz] at HR
  dsimp only at HR
  clear hv hvw
  have h0 : z1 ≠ 0 := by rw [hz] at hr0; exact hr0
  have hz1 : (z1 != 0) = true := by simpa using h0
  have HW1 : Hid (WiS l i n wl 0 z1 z2) := .inl ⟨by rw [hz]; exact h0, rfl, by rw [hz], by rw [hz]⟩
  clear hz
  go_enter Tryz.func23, Tryz.ntmps23
  go_upto_region 3 with (go_at_call 45; refine HR.mono ?_; rintro r w1 ⟨rfl, hb1⟩; have H1 : Hid (FB w (w1.alloc (.cells #[.int .i64 z1, .int .i64 z2] 30)) w.heap.size) := (H0.out.grow hb1).grow (below_new _ _); have hl1 : w.heap.size < w1.heap.size := (H0.out.grow hb1).lt; clear hb1 HR)
  obtain ⟨fs, -, fl⟩ := cells_of (l := [_, _]) (heap_alloc_new w1 (.cells #[.int .i64 z1, .int .i64 z2] 30))
  have g0 := fs 0 _ rfl
  have g1 := fs 1 _ rfl
  clear fs
  generalize w1.alloc (.cells #[.int .i64 z1, .int .i64 z2] 30) = w2 at *
  obtain ⟨r10, r11, y10, y11, rl⟩ := H1.out.res2
  go_region
  all_goals go_wp2_with fail
  all_goals
    refine bodyPost_ret (WithinOf_ends (set_two H1.out.res) rfl rfl) rfl ?_
    exact ⟨_, _, _, rfl, (H1.out.set _ _).drew, HW1.out⟩

set_option maxRecDepth 20000 in
set_option maxHeartbeats 4000000 in
theorem WithinOf_f (w : World) (l : List Ta) (i n : Int) (wl : List Wi) (v vw : Value) (hS : ∀ x ∈ l, x.nm.size ≤ 9223372036854775807) (hv : RowSl Ta.vals w l v) (hvw : RowSl Wi.vals w wl vw) (hr0 : (responseF l i 0).2.1 = 0) (hf0 : (frmF n wl).1 ≠ 0) :
    Calls Tryz.prog 23 #[v, .int .i64 i, .int .i64 n, vw] w (WithinPost w l i n wl) := by
  obtain ⟨ad, c, rfl⟩ := hv.len
  obtain ⟨ad1, c1, rfl⟩ := hvw.len
  have HV : Hid (RowSl Ta.vals w l (.slice ad l.length c) ∧ RowSl Wi.vals w wl (.slice ad1 wl.length c1)) := ⟨hv, hvw⟩
  have H0 : Hid (FB w (w.alloc (.cells #[.int .i64 0, .int .i64 0] 30)) w.heap.size) := FB.start w
  have HR := ResponseOf_any (w.alloc (.cells #[.int .i64 0, .int .i64 0] 30)) l _ i 0 hS (hv.below (below_new _ _))
  obtain ⟨z0, z1, z2, hz⟩ : ∃ z0 z1 z2, responseF l i 0 = (z0, z1, z2) := ⟨_, _, _, rfl⟩
  rw [hz] at HR
  dsimp only at HR
  clear hv hvw
  have h0 : z1 = 0 := by rw [hz] at hr0; exact hr0
  subst h0
  have HZ : Hid ((responseF l i 0).2.1 = 0) := (by rw [hz] : (responseF l i 0).2.1 = 0)
  clear hz
  obtain ⟨hX, hi0, hi1⟩ := response_in HZ.out
  obtain ⟨i, rfl⟩ : ∃ j : Nat, i = (j : Int) := ⟨i.toNat, by omega⟩
  have hi : i < l.length := by omega
  clear hi0 hi1 hr0
  obtain ⟨-, hDT, -, h8, hst, -⟩ := chkX_ok hX
  have HX : Hid ((chkX l).1 = 0 ∧ (∀ x ∈ l, stands x = true) ∧ l.length ≤ 8) := ⟨hX, hst, h8⟩
  have HFr : Hid (∀ W, Below w.heap.size w W → Calls Tryz.prog 46 #[.int .i64 n, .slice ad1 wl.length c1] W fun r w' => r = .returned (.agg #[.int .i64 (frmF n wl).1, .int .i64 (frmF n wl).2]) ∧ Below W.heap.size W w') := fun W hW => CheckFrame_any W n wl _ (HV.out.2.below hW)
  obtain ⟨y1, hy1⟩ : ∃ y1, (frmF n wl).1 = y1 := ⟨_, rfl⟩
  obtain ⟨y2, hy2⟩ : ∃ y2, (frmF n wl).2 = y2 := ⟨_, rfl⟩
  rw [hy1, hy2] at HFr
  have h1 : y1 ≠ 0 := by rw [← hy1]; exact hf0
  have hz1 : (y1 != 0) = true := by simpa using h1
  have HW1 : Hid (WiS l (i : Int) n wl 0 y1 y2) := .inr ⟨HZ.out, .inl ⟨by rw [hy1]; exact h1, rfl, hy1.symm, hy2.symm⟩⟩
  clear hy1 hy2 hf0
  go_enter Tryz.func23, Tryz.ntmps23
  go_upto_region 6 with (first
    | (go_at_call 46; refine (HFr.out _ H1.out.bel).mono ?_; rintro r w2 ⟨rfl, hb2⟩; have H2 : Hid (FB w (w2.alloc (.cells #[.int .i64 y1, .int .i64 y2] 30)) w.heap.size) := (H1.out.grow hb2).grow (below_new _ _); have hl2 : w.heap.size < w2.heap.size := (H1.out.grow hb2).lt; clear hb2)
    | (go_at_call 45; refine HR.mono ?_; rintro r w1 ⟨rfl, hb1⟩; have H1 : Hid (FB w (w1.alloc (.cells #[.int .i64 0, .int .i64 z2] 30)) w.heap.size) := (H0.out.grow hb1).grow (below_new _ _); clear hb1 HR))
  obtain ⟨fs, -, fl⟩ := cells_of (l := [_, _]) (heap_alloc_new w2 (.cells #[.int .i64 y1, .int .i64 y2] 30))
  have g0 := fs 0 _ rfl
  have g1 := fs 1 _ rfl
  clear fs
  generalize w2.alloc (.cells #[.int .i64 y1, .int .i64 y2] 30) = w3 at *
  obtain ⟨r10, r11, y10, y11, rl⟩ := H2.out.res2
  go_region
  all_goals go_wp2_with fail
  all_goals
    refine bodyPost_ret (WithinOf_ends (set_two H2.out.res) rfl rfl) rfl ?_
    exact ⟨_, _, _, rfl, (H2.out.set _ _).drew, HW1.out⟩

set_option maxRecDepth 20000 in
set_option maxHeartbeats 4000000 in
theorem WithinOf_g (w : World) (l : List Ta) (i n : Int) (wl : List Wi) (v vw : Value) (hS : ∀ x ∈ l, x.nm.size ≤ 9223372036854775807) (hv : RowSl Ta.vals w l v) (hvw : RowSl Wi.vals w wl vw) (hr0 : (responseF l i 0).2.1 = 0) (hf0 : (frmF n wl).1 = 0) :
    Calls Tryz.prog 23 #[v, .int .i64 i, .int .i64 n, vw] w (WithinPost w l i n wl) := by
  obtain ⟨ad, c, rfl⟩ := hv.len
  obtain ⟨ad1, c1, rfl⟩ := hvw.len
  have HV : Hid (RowSl Ta.vals w l (.slice ad l.length c) ∧ RowSl Wi.vals w wl (.slice ad1 wl.length c1)) := ⟨hv, hvw⟩
  have H0 : Hid (FB w (w.alloc (.cells #[.int .i64 0, .int .i64 0] 30)) w.heap.size) := FB.start w
  have HR := ResponseOf_any (w.alloc (.cells #[.int .i64 0, .int .i64 0] 30)) l _ i 0 hS (hv.below (below_new _ _))
  obtain ⟨z0, z1, z2, hz⟩ : ∃ z0 z1 z2, responseF l i 0 = (z0, z1, z2) := ⟨_, _, _, rfl⟩
  rw [hz] at HR
  dsimp only at HR
  clear hv hvw
  have h0 : z1 = 0 := by rw [hz] at hr0; exact hr0
  subst h0
  have HZ : Hid ((responseF l i 0).2.1 = 0) := (by rw [hz] : (responseF l i 0).2.1 = 0)
  clear hz
  obtain ⟨hX, hi0, hi1⟩ := response_in HZ.out
  obtain ⟨i, rfl⟩ : ∃ j : Nat, i = (j : Int) := ⟨i.toNat, by omega⟩
  have hi : i < l.length := by omega
  clear hi0 hi1 hr0
  obtain ⟨-, hDT, -, h8, hst, -⟩ := chkX_ok hX
  have HX : Hid ((chkX l).1 = 0 ∧ (∀ x ∈ l, stands x = true) ∧ l.length ≤ 8) := ⟨hX, hst, h8⟩
  have HFr : Hid (∀ W, Below w.heap.size w W → Calls Tryz.prog 46 #[.int .i64 n, .slice ad1 wl.length c1] W fun r w' => r = .returned (.agg #[.int .i64 (frmF n wl).1, .int .i64 (frmF n wl).2]) ∧ Below W.heap.size W w') := fun W hW => CheckFrame_any W n wl _ (HV.out.2.below hW)
  obtain ⟨y1, hy1⟩ : ∃ y1, (frmF n wl).1 = y1 := ⟨_, rfl⟩
  obtain ⟨y2, hy2⟩ : ∃ y2, (frmF n wl).2 = y2 := ⟨_, rfl⟩
  rw [hy1, hy2] at HFr
  have h1 : y1 = 0 := by rw [← hy1]; exact hf0
  subst h1
  obtain ⟨hn1, h20, hsrt, -⟩ := frmF_good (n := n) (l := wl) (z := (frmF n wl).2) (by rw [← hy1])
  obtain ⟨nn, hnn⟩ : ∃ nn : Nat, n = (nn : Int) := ⟨n.toNat, by omega⟩
  subst hnn
  have HFm : Hid ((frmF (nn : Int) wl).1 = 0 ∧ Srt (nn : Int) 0 wl ∧ 1 ≤ nn) := ⟨hy1, hsrt, by omega⟩
  have hts := stands_t (stands_mem hst hi)
  have hdt := hDT _ (Tk_mem hi)
  obtain ⟨ad', c', he, -, hcap, hrow⟩ := HV.out.1
  cases he
  rcases hrow with h | ⟨b, o, rfl, hrow⟩
  · rw [h] at hi; simp at hi
  obtain ⟨d0, d1, d2, d3, d4, d5, d6⟩ := ta_at hrow (Tk_get hi)
  have HRow : Hid (∀ q u, (l.flatMap Ta.vals)[q]? = some u → w.cell? ⟨b, o + q, none⟩ = some u) := hrow
  obtain ⟨xx, hxx⟩ : ∃ xx, Tk l i = xx := ⟨_, rfl⟩
  rw [hxx] at d0 d1 d2 d3 d4 d5 d6 hts hdt
  have HTx : Hid (Tk l i = xx) := hxx
  obtain ⟨xn, xc, xt, xd, xj, xo, xp⟩ := xx
  dsimp only at d0 d1 d2 d3 d4 d5 d6 hts hdt
  have hxb : 1 ≤ xc ∧ xc ≤ 10000 ∧ 1 ≤ xd ∧ xd ≤ 10000 ∧ 0 ≤ xj ∧ xj ≤ 10000 := by omega
  have HT : Hid (w.cell? ⟨b, o + i * 7, none⟩ = some (.string xn) ∧ w.cell? ⟨b, o + i * 7 + 1, none⟩ = some (.int .i64 xc) ∧ w.cell? ⟨b, o + i * 7 + 2, none⟩ = some (.int .i64 xt) ∧ w.cell? ⟨b, o + i * 7 + 3, none⟩ = some (.int .i64 xd) ∧ w.cell? ⟨b, o + i * 7 + 4, none⟩ = some (.int .i64 xj) ∧ w.cell? ⟨b, o + i * 7 + 5, none⟩ = some (.int .i64 xo) ∧ w.cell? ⟨b, o + i * 7 + 6, none⟩ = some (.int .i64 xp)) := ⟨d0, d1, d2, d3, d4, d5, d6⟩
  obtain ⟨D, hD⟩ : ∃ D : Nat, xd = (D : Int) := ⟨xd.toNat, by omega⟩
  subst hD
  have HL : Hid (∀ W : World, Below w.heap.size w W → Calls Tryz.prog 47 #[.int .i64 (nn : Int), .slice ad1 wl.length c1, .int .i64 (D : Int)] W fun r w' => r = .returned (.slice (some ⟨W.heap.size, 0, none⟩) (D + 1) (D + 1)) ∧ LR W w' (D + 1) (fun i => leanF nn wl i nn)) := fun W hW =>
    Lean_any W nn D wl ad1 c1 (by omega) h20 hsrt (by omega) (HV.out.2.below hW)
  have hii : (i : Int) < (l.length : Int) := by omega
  clear hrow d0 d1 d2 d3 d4 d5 d6 hts hdt hxx hDT hst hX hn1 h20 hsrt hy1 hy2 hS hf0
  go_enter Tryz.func23, Tryz.ntmps23
  go_upto_region 7 with (first
    | (go_at_call 46; refine (HFr.out _ H1.out.bel).mono ?_; rintro r w2a ⟨rfl, hb2⟩; have H2 : Hid (FB w (w2a.alloc (.cells #[.int .i64 0, .int .i64 y2] 30)) w.heap.size) := (H1.out.grow hb2).grow (below_new _ _); clear hb2 HFr)
    | (go_at_call 45; refine HR.mono ?_; rintro r w1 ⟨rfl, hb1⟩; have H1 : Hid (FB w (w1.alloc (.cells #[.int .i64 0, .int .i64 z2] 30)) w.heap.size) := (H0.out.grow hb1).grow (below_new _ _); clear hb1 HR))
  generalize w2a.alloc (.cells #[.int .i64 0, .int .i64 y2] 30) = w2 at *
  obtain ⟨d0, d1, d2, d3, d4, d5, d6⟩ := HT.out
  have e0 := below_cell H2.out.bel d0
  have e1 := below_cell H2.out.bel d1
  have e2 := below_cell H2.out.bel d2
  have e3 := below_cell H2.out.bel d3
  have e4 := below_cell H2.out.bel d4
  have e5 := below_cell H2.out.bel d5
  have e6 := below_cell H2.out.bel d6
  have lb : b < w2.heap.size := World.block_lt_of_cell? _ _ e0
  clear d0 d1 d2 d3 d4 d5 d6
  go_upto_region 8 with fail
  have H3 : Hid (FB w (w2.alloc (.cells #[.string xn, .int .i64 xc, .int .i64 xt, .int .i64 (D : Int), .int .i64 xj, .int .i64 xo, .int .i64 xp] 56)) w.heap.size ∧ (w2.alloc (.cells #[.string xn, .int .i64 xc, .int .i64 xt, .int .i64 (D : Int), .int .i64 xj, .int .i64 xo, .int .i64 xp] 56)).heap[w2.heap.size]? = some (.cells #[.string xn, .int .i64 xc, .int .i64 xt, .int .i64 (D : Int), .int .i64 xj, .int .i64 xo, .int .i64 xp] 56 (0, 0))) := ⟨H2.out.grow (below_new _ _), heap_alloc_new _ _⟩
  clear e0 e1 e2 e3 e4 e5 e6
  generalize w2.alloc (.cells #[.string xn, .int .i64 xc, .int .i64 xt, .int .i64 (D : Int), .int .i64 xj, .int .i64 xo, .int .i64 xp] 56) = w3 at *
  generalize w2.heap.size = gt at *
  obtain ⟨dt, -, lt⟩ := cells_of (l := [_, _, _, _, _, _, _]) H3.out.2
  have t3 := dt 3 _ rfl
  clear dt
  have HL3 := HL.out w3 H3.out.1.bel
  go_upto_region 9 with (go_at_call 47; refine HL3.mono ?_; rintro r w4 ⟨rfl, hlr⟩; have H4 : Hid (LR w3 w4 (D + 1) (fun i => leanF nn wl i nn) ∧ FB w w4 w.heap.size ∧ w4.heap[gt]? = some (.cells #[.string xn, .int .i64 xc, .int .i64 xt, .int .i64 (D : Int), .int .i64 xj, .int .i64 xo, .int .i64 xp] 56 (0, 0))) := ⟨hlr, H3.out.1.grow hlr.bel, (hlr.bel.block _ (Array.getElem?_eq_some_iff.1 H3.out.2).1).trans H3.out.2⟩; clear hlr HL3 HL)
  have HLn : Hid (∀ k : Nat, k < D + 1 → w4.cell? ⟨w3.heap.size, k, none⟩ = some (.int .i64 (leastF nn wl k))) := fun k hk => by
    rw [least_lean HFm.out.2.2 HFm.out.2.1]
    exact (H4.out.1.at_ hk).1
  have HF : Hid (FB w w4 w.heap.size ∧ w4.heap[gt]? = some (.cells #[.string xn, .int .i64 xc, .int .i64 xt, .int .i64 (D : Int), .int .i64 xj, .int .i64 xo, .int .i64 xp] 56 (0, 0))) := H4.out.2
  clear t3 lt H3 H2 H1 H0 H4
  generalize w3.heap.size = gl at *
  obtain ⟨dt, -, lt⟩ := cells_of (l := [_, _, _, _, _, _, _]) HF.out.2
  have HTc : Hid (w4.cell? ⟨gt, 1, none⟩ = some (.int .i64 xc) ∧ w4.cell? ⟨gt, 3, none⟩ = some (.int .i64 (D : Int)) ∧ w4.cell? ⟨gt, 4, none⟩ = some (.int .i64 xj) ∧ w4.cell? ⟨gt, 6, none⟩ = some (.int .i64 xp)) := ⟨dt 1 _ rfl, dt 3 _ rfl, dt 4 _ rfl, dt 6 _ rfl⟩
  have t1 := dt 1 _ rfl
  clear dt
  have hxc : ((xc.toNat : Nat) : Int) = xc := by omega
  rw [← hxc] at t1
  go_wp2_with fail
  clear t1
  go_loopw [15] (fun x wr => ∃ k : Nat, x = .int .i64 (k : Int) ∧ xc ≤ (k : Int) ∧ k ≤ 10001 ∧ Hid (Below w4.heap.size w4 wr ∧ ∀ k' : Nat, xc ≤ (k' : Int) → k' < k → leastF nn wl k' < askF xc (othF (aheadP l i) i l 0) (k' : Int))) (fun x _ => 20000 - (intOf x).toNat)
  case atStart => exact ⟨xc.toNat, by rw [hxc], by omega, by omega, ⟨Below.refl _ _, fun k' h1 h2 => by omega⟩⟩
  case round =>
    obtain ⟨k, rfl, hk1, hk2, HBK⟩ := hrel
    have t1 := below_cell HBK.out.1 HTc.out.1
    have t3 := below_cell HBK.out.1 HTc.out.2.1
    have t4 := below_cell HBK.out.1 HTc.out.2.2.1
    have lt' : gt < wr.heap.size := World.block_lt_of_cell? _ _ t3
    have q1 : IntKind.i64.wrap ((k : Int) + xj) = (k : Int) + xj := by rw [IntKind.wrap_i64]; omega
    by_cases hkd : (k : Int) + xj ≤ (D : Int)
    rotate_left 1
    · have hkd' : decide ((k : Int) + xj ≤ (D : Int)) = false := decide_eq_false hkd
      go_wp2_with (go_at_call 33; refine (F_any _ _ _).mono ?_; rintro r w5 ⟨rfl, hb5⟩; have H5 : Hid (FB w w5 w.heap.size) := (HF.out.1.grow HBK.out.1).grow hb5; obtain ⟨r10, r11, z10, z11, rl⟩ := H5.out.res2; clear hb5)
      refine bodyPost_ret (WithinOf_ends (set_two H5.out.res) rfl rfl) rfl ?_
      refine ⟨_, _, _, rfl, H5.out.set _ _, .inr ⟨HZ.out, .inr ⟨HFm.out.1, .inr ⟨fun m m1 m2 => ?_, rfl, rfl, rfl⟩⟩⟩⟩
      rw [Int.toNat_natCast, HTx.out] at m1 m2
      rw [Int.toNat_natCast]
      have h9 := HBK.out.2 m m1 (by dsimp only at m2; omega)
      rw [HTx.out]
      exact h9
    have hkd' : decide ((k : Int) + xj ≤ (D : Int)) = true := decide_eq_true hkd
    go_wp2_with fail
    clear t1 t3 t4
    obtain ⟨tot, htot⟩ : ∃ tot, askF xc (othF (aheadP l i) i l 0) (k : Int) = tot := ⟨_, rfl⟩
    have HTot : Hid (askF xc (othF (aheadP l i) i l 0) (k : Int) = tot) := htot
    clear htot
    go_loopw [16, 60] (fun sv iv wi => ∃ (j : Nat) (s : Int), j ≤ l.length ∧ sv = .int .i64 s ∧ iv = .int .i64 (j : Int) ∧ (0 ≤ s ∧ s ≤ 10000 + j * 1000000000) ∧ Hid (Below w4.heap.size w4 wi ∧ s + sumO (k : Int) (othF (aheadP l i) i (l.drop j) j) = tot)) (fun _ iv _ => l.length - (intOf iv).toNat)
    case atStart => exact ⟨0, xc, Nat.zero_le _, rfl, rfl, by omega, ⟨HBK.out.1, HTot.out⟩⟩
    case round =>
      obtain ⟨j, s, hj, rfl, rfl, hsb, HQ⟩ := hrel
      by_cases hjl : j < l.length
      · obtain ⟨y, hy, hd⟩ := drop_at hjl
        have hst := HX.out.2.1 y (List.mem_of_getElem? hy)
        have hbw := below_seq HF.out.1.bel HQ.out.1
        obtain ⟨y0, y1, y2', y3, y4, y5, y6⟩ := ta_at (fun q u hq => below_cell hbw (HRow.out q u hq)) hy
        have t6 := below_cell HQ.out.1 HTc.out.2.2.2
        have lt2 : gt < wr.heap.size := World.block_lt_of_cell? _ _ t6
        have hu := up1_in hst (z := (k : Int)) (by omega)
        have hTy : Tk l j = y := by unfold Tk; rw [List.getD_eq_getElem?_getD, hy]; rfl
        have hq := HQ.out.2
        rw [hd, othF] at hq
        have hap : aheadP l i j = decide (xp ≤ y.p) := by unfold aheadP; rw [HTx.out, hTy]
        obtain ⟨g1, g2, g3, g4, g5, g6, g7, g8, -, -⟩ := stands_t hst
        have hup : up1 (k : Int) y = ((k : Int) + y.j + y.t - 1) / y.t * y.c := rfl
        obtain ⟨yn, yc, yt, yd, yj, yo, yp⟩ := y
        dsimp only at y0 y1 y2' y3 y4 y5 y6 g1 g2 g3 g4 g5 g6 g7 g8 hap hup
        have lb2 : b < wr.heap.size := World.block_lt_of_cell? _ _ y0
        have hji : (j : Int) < (l.length : Int) := by omega
        have HB : Hid (Below w4.heap.size w4 wr) := HQ.out.1
        have hgn : ¬ gt = wr.heap.size := by omega
        clear hy hd hTy HQ hst hbw
        by_cases n1 : j = i
        · subst n1
          rw [if_neg (by simp)] at hq
          have HE : Hid (s + sumO (k : Int) (othF (aheadP l j) j (l.drop (j + 1)) (j + 1)) = tot) := hq
          clear hq hap hup hu
          go_wp2_with fail
          exact ⟨⟨j + 1, s, by omega, rfl, by simp, by omega, ⟨below_seq HB.out (below_new _ _), HE.out⟩⟩, by simp [intOf]; omega⟩
        have n1b : ((j : Int) != (i : Int)) = true := by simp; omega
        have n1e : ¬ (j : Int) = (i : Int) := by omega
        by_cases hp : xp ≤ yp
        rotate_left 1
        · have hpd : decide (xp ≤ yp) = false := decide_eq_false hp
          rw [if_neg (by rw [hap, hpd]; simp)] at hq
          have HE : Hid (s + sumO (k : Int) (othF (aheadP l i) i (l.drop (j + 1)) (j + 1)) = tot) := hq
          clear hq hap hup hu
          go_wp2_with fail
          exact ⟨⟨j + 1, s, by omega, rfl, by simp, by omega, ⟨below_seq HB.out (below_new _ _), HE.out⟩⟩, by simp [intOf]; omega⟩
        have hpd : decide (xp ≤ yp) = true := decide_eq_true hp
        rw [if_pos ⟨n1, by rw [hap, hpd]⟩, sumO] at hq
        have HE : Hid (s + up1 (k : Int) ⟨yn, yc, yt, yd, yj, yo, yp⟩ + sumO (k : Int) (othF (aheadP l i) i (l.drop (j + 1)) (j + 1)) = tot) := (Int.add_assoc _ _ _).trans hq
        rw [hup] at HE hu
        clear hq hap hup
        have e2 : IntKind.i64.wrap ((k : Int) + yj) = (k : Int) + yj := by rw [IntKind.wrap_i64]; omega
        have e6 : IntKind.i64.wrap (((k : Int) + yj + yt - 1) / yt * yc) = ((k : Int) + yj + yt - 1) / yt * yc := by rw [IntKind.wrap_i64]; omega
        have e7 : IntKind.i64.wrap (s + ((k : Int) + yj + yt - 1) / yt * yc) = s + ((k : Int) + yj + yt - 1) / yt * yc := by rw [IntKind.wrap_i64]; omega
        have HU := fun W => up_any W ((k : Int) + yj) yt (by omega) (by omega) (by omega) (by omega)
        generalize ((k : Int) + yj + yt - 1) / yt = uq at *
        go_upto_region 17 with fail
        obtain ⟨ys, -, yl⟩ := cells_of (l := [_, _, _, _, _, _, _]) (heap_alloc_new wr (.cells #[.string yn, .int .i64 yc, .int .i64 yt, .int .i64 yd, .int .i64 yj, .int .i64 yo, .int .i64 yp] 56))
        have k1 := ys 1 _ rfl
        have k2 := ys 2 _ rfl
        have k4 := ys 4 _ rfl
        have HB2 : Hid (Below w4.heap.size w4 (wr.alloc (.cells #[.string yn, .int .i64 yc, .int .i64 yt, .int .i64 yd, .int .i64 yj, .int .i64 yo, .int .i64 yp] 56))) := below_seq HB.out (below_new _ _)
        clear ys y0 y1 y2' y3 y4 y5 y6 t6
        generalize wr.alloc (.cells #[.string yn, .int .i64 yc, .int .i64 yt, .int .i64 yd, .int .i64 yj, .int .i64 yo, .int .i64 yp] 56) = wy at *
        generalize wr.heap.size = gy at *
        go_region_held3 (fun w' => Below wy.heap.size wy w' ∧ w'.cell? ⟨gy, 1, none⟩ = some (.int .i64 yc) ∧ w'.cell? ⟨gy, 2, none⟩ = some (.int .i64 yt) ∧ w'.cell? ⟨gy, 4, none⟩ = some (.int .i64 yj))
          (first | assumption | exact ⟨(Below.refl _ _).drew, by go_simp, by go_simp, by go_simp⟩)
          (first | (go_at_call 48; refine (HU _).mono ?_; rintro r wu ⟨rfl, hwu⟩; have hwu' := hwu.symm; subst hwu'; clear hwu))
        all_goals
          have hSb := And.left ‹Below wy.heap.size wy _ ∧ _›
          have HSb : Hid (Below wy.heap.size wy _) := hSb
          clear hSb
          go_wp2_with fail
          exact ⟨⟨j + 1, _, by omega, rfl, by simp, by omega, ⟨below_seq HB2.out HSb.out, HE.out⟩⟩, by simp [intOf]; omega⟩
      · have hje : j = l.length := by omega
        subst hje
        have hs : s = tot := by
          have h9 := HQ.out.2
          rw [List.drop_length, othF, sumO] at h9
          omega
        subst hs
        have HB : Hid (Below w4.heap.size w4 wr) := HQ.out.1
        clear HQ
        have hlv := below_cell HB.out (HLn.out k (by omega))
        obtain ⟨lv, hlv'⟩ : ∃ lv, leastF nn wl k = lv := ⟨_, rfl⟩
        have HLv : Hid (leastF nn wl k = lv) := hlv'
        rw [hlv'] at hlv
        clear hlv'
        have t4 := below_cell HB.out HTc.out.2.2.1
        have lt3 : gt < wr.heap.size := World.block_lt_of_cell? _ _ t4
        have lgl : gl < wr.heap.size := World.block_lt_of_cell? _ _ hlv
        have hkD : (k : Int) < (D : Int) + 1 := by omega
        have H9 : Hid (FB w wr w.heap.size) := HF.out.1.grow HB.out
        obtain ⟨r10, r11, z10, z11, rl⟩ := H9.out.res2
        by_cases hge : s ≤ lv
        · have hge' : decide (s ≤ lv) = true := decide_eq_true hge
          go_wp2_with fail
          refine bodyPost_ret (WithinOf_ends (set_two H9.out.res) rfl rfl) rfl ?_
          refine ⟨_, _, _, rfl, H9.out.set _ _, .inr ⟨HZ.out, .inr ⟨HFm.out.1, .inl ⟨k, ?_, ?_, ?_, fun m m1 m2 => ?_, ?_, rfl, rfl⟩⟩⟩⟩ <;> rw [Int.toNat_natCast, HTx.out]
          · exact hk1
          · exact hkd
          · rw [HLv.out]; show askF xc _ _ ≤ lv; rw [HTot.out]; exact hge
          · rw [Int.toNat_natCast, HTx.out] at m1; exact HBK.out.2 m m1 m2
        · have hge' : decide (s ≤ lv) = false := decide_eq_false hge
          have q9 : IntKind.i64.wrap ((k : Int) + 1) = ((k + 1 : Nat) : Int) := by rw [IntKind.wrap_i64]; omega
          go_wp2_with fail
          refine ⟨⟨k + 1, by first | rfl | simp, by omega, by omega, ⟨HB.out, fun m m1 m2 => ?_⟩⟩, by simp [intOf]; omega⟩
          by_cases hmk : m < k
          · exact HBK.out.2 m m1 hmk
          · have : m = k := by omega
            subst this
            rw [HTot.out, HLv.out]
            omega

theorem WithinOf_any (w : World) (l : List Ta) (i n : Int) (wl : List Wi) (v vw : Value) (hS : ∀ x ∈ l, x.nm.size ≤ 9223372036854775807) (hv : RowSl Ta.vals w l v) (hvw : RowSl Wi.vals w wl vw) :
    Calls Tryz.prog 23 #[v, .int .i64 i, .int .i64 n, vw] w (WithinPost w l i n wl) := by
  by_cases h0 : (responseF l i 0).2.1 = 0
  · by_cases h1 : (frmF n wl).1 = 0
    · exact WithinOf_g w l i n wl v vw hS hv hvw h0 h1
    · exact WithinOf_f w l i n wl v vw hS hv hvw h0 h1
  · exact WithinOf_r w l i n wl v vw hS hv hvw h0
end Go.Proofs.YtccoobcggbbciaiGreatDoor
