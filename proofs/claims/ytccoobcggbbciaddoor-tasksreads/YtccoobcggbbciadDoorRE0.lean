import Derived.Test.YtccoobcggbbciadDoorRD0
namespace Go.Proofs.YtccoobcggbbciadDoor
open Go.ChangeShapes Go.WideShapes Go.ChangeAt Go.RowKit

/-- A task's block, written. -/
theorem seven_at {W : World} {g : Nat} {t : TypeId} {z0 z1 z2 z3 z4 z5 z6 a0 a1 a2 a3 a4 a5 a6 : Value} (h : W.heap[g]? = some (.cells #[z0, z1, z2, z3, z4, z5, z6] t (0, 0))) : (((((((W.setCell ⟨g, 0, none⟩ a0).setCell ⟨g, 1, none⟩ a1).setCell ⟨g, 2, none⟩ a2).setCell ⟨g, 3, none⟩ a3).setCell ⟨g, 4, none⟩ a4).setCell ⟨g, 5, none⟩ a5).setCell ⟨g, 6, none⟩ a6).heap[g]? = some (.cells #[a0, a1, a2, a3, a4, a5, a6] t (0, 0)) := by
  rw [setCell_at (setCell_at (setCell_at (setCell_at (setCell_at (setCell_at (setCell_at h))))))]
  rfl

theorem seven_below {w W : World} {g : Nat} {a0 a1 a2 a3 a4 a5 a6 : Value} (h : Below w.heap.size w W) (hg : w.heap.size ≤ g) : Below w.heap.size w (((((((W.setCell ⟨g, 0, none⟩ a0).setCell ⟨g, 1, none⟩ a1).setCell ⟨g, 2, none⟩ a2).setCell ⟨g, 3, none⟩ a3).setCell ⟨g, 4, none⟩ a4).setCell ⟨g, 5, none⟩ a5).setCell ⟨g, 6, none⟩ a6) :=
  ((((((h.setCell hg _).setCell hg _).setCell hg _).setCell hg _).setCell hg _).setCell hg _).setCell hg _

theorem seven_of {α : Type} {l : List α} (h : l.length = 7) : ∃ b0 b1 b2 b3 b4 b5 b6, l = [b0, b1, b2, b3, b4, b5, b6] := by
  match l, h with
  | [b0, b1, b2, b3, b4, b5, b6], _ => exact ⟨_, _, _, _, _, _, _, rfl⟩
theorem six_of {α : Type} {l : List α} (h : l.length = 6) : ∃ b0 b1 b2 b3 b4 b5, l = [b0, b1, b2, b3, b4, b5] := by
  match l, h with
  | [b0, b1, b2, b3, b4, b5], _ => exact ⟨_, _, _, _, _, _, rfl⟩

theorem task_start (w w1 : World) (ws : List ByteArray) (h1 : w1.heap[w.heap.size + 1 + 1]? = some (.cells (ptrs (w.heap.size + 1)).toArray 112 (0, 0))) (hb : Below (w.heap.size + 1 + 1) ((w.alloc (.cells #[.string ⟨#[]⟩, .int .i64 0, .int .i64 0, .int .i64 0, .int .i64 0, .int .i64 0, .int .i64 0] 55)).alloc (.cells #[.string ⟨#[]⟩, .int .i64 0, .int .i64 0, .int .i64 0, .int .i64 0, .int .i64 0, .int .i64 0] 55)) w1) : TKW w (w1.alloc (.cells (ws.map Value.string).toArray 9)) (w.heap.size + 1 + 1) w1.heap.size ws [0, 0, 0, 0, 0, 0] ⟨#[]⟩ := by
  have hs : ((w.alloc (.cells #[.string ⟨#[]⟩, .int .i64 0, .int .i64 0, .int .i64 0, .int .i64 0, .int .i64 0, .int .i64 0] 55)).alloc (.cells #[.string ⟨#[]⟩, .int .i64 0, .int .i64 0, .int .i64 0, .int .i64 0, .int .i64 0, .int .i64 0] 55)).heap.size = w.heap.size + 1 + 1 := by simp
  have l1 : w.heap.size + 1 + 1 < w1.heap.size := (Array.getElem?_eq_some_iff.1 h1).1
  have r0 : ((w.alloc (.cells #[.string ⟨#[]⟩, .int .i64 0, .int .i64 0, .int .i64 0, .int .i64 0, .int .i64 0, .int .i64 0] 55)).alloc (.cells #[.string ⟨#[]⟩, .int .i64 0, .int .i64 0, .int .i64 0, .int .i64 0, .int .i64 0, .int .i64 0] 55)).heap[w.heap.size]? = some (.cells #[.string ⟨#[]⟩, .int .i64 0, .int .i64 0, .int .i64 0, .int .i64 0, .int .i64 0, .int .i64 0] 55 (0, 0)) := (Below.heap_alloc _ _ _ (by simp)).trans (heap_alloc_new _ _)
  have r1 : ((w.alloc (.cells #[.string ⟨#[]⟩, .int .i64 0, .int .i64 0, .int .i64 0, .int .i64 0, .int .i64 0, .int .i64 0] 55)).alloc (.cells #[.string ⟨#[]⟩, .int .i64 0, .int .i64 0, .int .i64 0, .int .i64 0, .int .i64 0, .int .i64 0] 55)).heap[w.heap.size + 1]? = some (.cells #[.string ⟨#[]⟩, .int .i64 0, .int .i64 0, .int .i64 0, .int .i64 0, .int .i64 0, .int .i64 0] 55 (0, 0)) := by
    have := heap_alloc_new (w.alloc (.cells #[.string ⟨#[]⟩, .int .i64 0, .int .i64 0, .int .i64 0, .int .i64 0, .int .i64 0, .int .i64 0] 55)) (.cells #[.string ⟨#[]⟩, .int .i64 0, .int .i64 0, .int .i64 0, .int .i64 0, .int .i64 0, .int .i64 0] 55)
    simpa using this
  have b2 : Below w.heap.size w ((w.alloc (.cells #[.string ⟨#[]⟩, .int .i64 0, .int .i64 0, .int .i64 0, .int .i64 0, .int .i64 0, .int .i64 0] 55)).alloc (.cells #[.string ⟨#[]⟩, .int .i64 0, .int .i64 0, .int .i64 0, .int .i64 0, .int .i64 0, .int .i64 0] 55)) := below_seq (below_new _ _) (below_new _ _)
  have b3 : Below w.heap.size w w1 := b2.trans (hb.mono (by omega))
  refine ⟨below_seq b3 (below_new _ _), ?_, ?_, ?_, heap_alloc_new _ _, ⟨by omega, by omega⟩⟩
  · rw [Below.heap_alloc _ _ _ (by omega), hb.block _ (by omega)]; exact r0
  · rw [Below.heap_alloc _ _ _ (by omega), hb.block _ (by omega)]; exact r1
  · rw [Below.heap_alloc _ _ _ (by omega)]; exact h1

theorem TKW.name {w W : World} {g5 g6 : Nat} {ws : List ByteArray} {vs : List Int} {nm : ByteArray} (h : TKW w W g5 g6 ws vs nm) (b : ByteArray) : TKW w (W.setCell ⟨w.heap.size + 1, 0, none⟩ (.string b)) g5 g6 ws vs b := by
  obtain ⟨d1, d2⟩ := h.ds
  refine ⟨h.bel.setCell (show w.heap.size ≤ w.heap.size + 1 by omega) _, ?_, ?_, ?_, ?_, h.ds⟩
  · rw [Below.heap_setCell _ _ _ _ (by show w.heap.size ≠ w.heap.size + 1; omega)]; exact h.res
  · rw [setCell_at h.tsk]; rfl
  · rw [Below.heap_setCell _ _ _ _ (by show g5 ≠ w.heap.size + 1; omega)]; exact h.ps
  · rw [Below.heap_setCell _ _ _ _ (by show g6 ≠ w.heap.size + 1; omega)]; exact h.wd

theorem ptrs_at {g k : Nat} (hk : k < 6) : (ptrs g)[k]? = some (.pointer (some ⟨g, k + 1, none⟩)) := by
  have : k = 0 ∨ k = 1 ∨ k = 2 ∨ k = 3 ∨ k = 4 ∨ k = 5 := by omega
  rcases this with rfl | rfl | rfl | rfl | rfl | rfl <;> rfl

set_option maxRecDepth 20000 in
set_option maxHeartbeats 8000000 in
theorem task_any (w : World) (s : ByteArray) (m : Int) (hs : s.size ≤ 30000) (hm : w.cell? ⟨3, 0, none⟩ = some (.int .i64 m)) :
    Calls Tryd.prog 53 #[.string s] w fun r w' => r = .returned (.tuple #[(taskR s).1.val9, .bool (taskR s).2]) ∧ Below w.heap.size w w' := by
  have hW := words_are s 32
  have hS := fun W (hm : W.cell? ⟨3, 0, none⟩ = some (.int .i64 m)) => sh_strings_Split s ⟨#[32]⟩ m W (by omega) hm (by decide)
  have hwl : (Lib.splitB ⟨#[32]⟩ 0 (Lib.countB s ⟨#[32]⟩) s).length = Lib.countB s ⟨#[32]⟩ + 1 := Lib.splitB_all ⟨#[32]⟩ (by decide) 0 _ s rfl
  have hsz : ∀ b ∈ Lib.splitB ⟨#[32]⟩ 0 (Lib.countB s ⟨#[32]⟩) s, b.size ≤ 281474976710656 := by
    intro b hb
    have hmem : b.data.toList ∈ pcs 32 s.data.toList := by rw [← hW]; exact List.mem_map_of_mem hb
    have := pcs_len (c := 32) s.data.toList _ hmem
    rw [size_list, size_list] at this
    omega
  rw [← hwl] at hS
  generalize Lib.splitB ⟨#[32]⟩ 0 (Lib.countB s ⟨#[32]⟩) s = ws at *
  have HW : Hid (ws.map (·.data.toList) = pcs 32 s.data.toList ∧ ∀ b ∈ ws, b.size ≤ 281474976710656) := ⟨hW, hsz⟩
  clear hW hwl hsz
  have hs2 : ((w.alloc (.cells #[.string ⟨#[]⟩, .int .i64 0, .int .i64 0, .int .i64 0, .int .i64 0, .int .i64 0, .int .i64 0] 55)).alloc (.cells #[.string ⟨#[]⟩, .int .i64 0, .int .i64 0, .int .i64 0, .int .i64 0, .int .i64 0, .int .i64 0] 55)).heap.size = w.heap.size + 1 + 1 := by simp
  have HN := numbers_any ((w.alloc (.cells #[.string ⟨#[]⟩, .int .i64 0, .int .i64 0, .int .i64 0, .int .i64 0, .int .i64 0, .int .i64 0] 55)).alloc (.cells #[.string ⟨#[]⟩, .int .i64 0, .int .i64 0, .int .i64 0, .int .i64 0, .int .i64 0, .int .i64 0] 55)) (w.heap.size + 1)
  rw [hs2] at HN
  have hm2 : ((w.alloc (.cells #[.string ⟨#[]⟩, .int .i64 0, .int .i64 0, .int .i64 0, .int .i64 0, .int .i64 0, .int .i64 0] 55)).alloc (.cells #[.string ⟨#[]⟩, .int .i64 0, .int .i64 0, .int .i64 0, .int .i64 0, .int .i64 0, .int .i64 0] 55)).cell? ⟨3, 0, none⟩ = some (.int .i64 m) := below_cell (below_seq (below_new _ _) (below_new _ _)) hm
  have hwc : ws.length ≤ 40000 := by
    have h1 := congrArg List.length HW.out.1
    rw [List.length_map] at h1
    have h2 := pcs_count (c := 32) s.data.toList
    rw [size_list] at h2
    omega
  go_enter Tryd.func53, Tryd.ntmps53
  go_upto_region 4 with (first
    | (go_at_call 55; refine HN.mono ?_; rintro r w1 ⟨rfl, h1, hb1⟩; have H1 : Hid (w1.cell? ⟨3, 0, none⟩ = some (.int .i64 m) ∧ ∀ ws, TKW w (w1.alloc (.cells (List.map Value.string ws).toArray 9)) (w.heap.size + 1 + 1) w1.heap.size ws [0, 0, 0, 0, 0, 0] ⟨#[]⟩) := ⟨below_cell (hs2 ▸ hb1) hm2, fun ws => task_start w w1 ws h1 hb1⟩; clear h1 hb1 HN)
    | (go_at_call 59; refine (hS w1 H1.out.1).mono ?_; rintro r w2 ⟨rfl, rfl⟩; have H2 : Hid (TKW w (w1.alloc (.cells (List.map Value.string ws).toArray 9)) (w.heap.size + 1 + 1) w1.heap.size ws [0, 0, 0, 0, 0, 0] ⟨#[]⟩) := H1.out.2 ws; clear hS H1))
  clear hm2 hs2 hm
  generalize w1.alloc (.cells (List.map Value.string ws).toArray 9) = w2 at *
  generalize w1.heap.size = g6 at *
  by_cases h7 : ws.length = 7
  rotate_left 1
  · have h7' : ((ws.length : Int) != 7) = true := by simp; omega
    have h7e : ¬ (ws.length : Int) = 7 := by omega
    obtain ⟨zs, zf, zl⟩ := cells_of (l := [_, _, _, _, _, _, _]) H2.out.res
    have z0 := zs 0 _ rfl
    have z1 := zs 1 _ rfl
    have z2 := zs 2 _ rfl
    have z3 := zs 3 _ rfl
    have z4 := zs 4 _ rfl
    have z5 := zs 5 _ rfl
    have z6 := zs 6 _ rfl
    have y0 := zf 0
    have y1 := zf 1
    have y2 := zf 2
    have y3 := zf 3
    have y4 := zf 4
    have y5 := zf 5
    have y6 := zf 6
    clear zs zf
    go_wp2_with fail
    refine bodyPost_ret (task_ends (seven_at H2.out.res) rfl rfl) rfl ?_
    rw [taskR_len HW.out.1 h7]
    exact ⟨rfl, seven_below H2.out.bel (Nat.le_refl _)⟩
  obtain ⟨b0, b1, b2, b3, b4, b5, b6, rfl⟩ := seven_of h7
  clear h7 hwc
  obtain ⟨vs0, -, vl0⟩ := cells_of H2.out.wd
  have v0 := vs0 0 _ rfl
  obtain ⟨ts0, tf0, tl0⟩ := cells_of H2.out.tsk
  have t0 := ts0 0 _ rfl
  have tf := tf0 0
  clear vs0 ts0 tf0
  have HC := clone_any b0 w2 (HW.out.2 b0 (by simp))
  go_upto_region 7 with (go_at_call 92; refine HC.mono ?_; rintro r w3 ⟨rfl, hb3⟩; have H3 : Hid (TKW w (w3.setCell ⟨w.heap.size + 1, 0, none⟩ (.string b0)) (w.heap.size + 1 + 1) g6 [b0, b1, b2, b3, b4, b5, b6] [0, 0, 0, 0, 0, 0] b0) := (H2.out.grow hb3).name b0; obtain ⟨ts0, tf0, tl1⟩ := cells_of (H2.out.grow hb3).tsk; have t1 := ts0 0 _ rfl; have tf1 := tf0 0; clear hb3 HC ts0 tf0)
  clear v0 t0 tf t1 tf1 vl0 tl0 tl1 H2
  generalize w3.setCell ⟨w.heap.size + 1, 0, none⟩ (.string b0) = w4 at *
  go_wp2_with fail
  go_loopw [28] (fun iv wr => ∃ (i : Nat) (vs : List Int), i ≤ 6 ∧ iv = .int .i64 (i : Int) ∧ vs.length = 6 ∧ TKW w wr (w.heap.size + 1 + 1) g6 [b0, b1, b2, b3, b4, b5, b6] vs b0 ∧ ∀ k, k < i → ∃ b n, [b0, b1, b2, b3, b4, b5, b6][k + 1]? = some b ∧ numR b = (n, true) ∧ vs[k]? = some n) (fun iv _ => 6 - (intOf iv).toNat)
  case atStart => exact ⟨0, _, Nat.zero_le _, rfl, rfl, H3.out, fun k hk => by omega⟩
  case round =>
    obtain ⟨i, vs, hi, rfl, hvl, htk, hall⟩ := hrel
    have HT : Hid (TKW w wr (w.heap.size + 1 + 1) g6 [b0, b1, b2, b3, b4, b5, b6] vs b0 ∧ ∀ k, k < i → ∃ b n, [b0, b1, b2, b3, b4, b5, b6][k + 1]? = some b ∧ numR b = (n, true) ∧ vs[k]? = some n) := ⟨htk, hall⟩
    clear htk hall H3
    by_cases hi6 : i < 6
    · have hii : (i : Int) < 6 := by omega
      obtain ⟨bi, hbi⟩ : ∃ bi, [b0, b1, b2, b3, b4, b5, b6][i + 1]? = some bi := ⟨[b0, b1, b2, b3, b4, b5, b6][i + 1]'(by simp; omega), List.getElem?_eq_getElem _⟩
      have p1 := (cells_of HT.out.1.ps).1 i _ (ptrs_at hi6)
      have q1 := (cells_of HT.out.1.wd).1 (i + 1) (.string bi) (by rw [List.getElem?_map, hbi]; rfl)
      have l5 : w.heap.size + 1 + 1 < wr.heap.size := (Array.getElem?_eq_some_iff.1 HT.out.1.ps).1
      have l6 : g6 < wr.heap.size := (Array.getElem?_eq_some_iff.1 HT.out.1.wd).1
      have hin : (i : Int) + 1 < 7 := by omega
      have e1 : IntKind.i64.wrap (1 + (i : Int)) = ((i + 1 : Nat) : Int) := by rw [IntKind.wrap_i64]; omega
      have HNu := number_any wr bi
      have HB : Hid ([b0, b1, b2, b3, b4, b5, b6][i + 1]? = some bi) := hbi
      obtain ⟨nn, ok, hno⟩ : ∃ nn ok, numR bi = (nn, ok) := ⟨_, _, rfl⟩
      rw [hno] at HNu
      dsimp only at HNu
      clear hbi
      cases ok with
      | false =>
        go_wp2_with (go_at_call 93; refine HNu.mono ?_; rintro r w5 ⟨rfl, hb5⟩; have H5 : Hid (TKW w w5 (w.heap.size + 1 + 1) g6 [b0, b1, b2, b3, b4, b5, b6] vs b0) := HT.out.1.grow hb5; clear hb5 HNu; obtain ⟨zs, zf, zl⟩ := cells_of (l := [_, _, _, _, _, _, _]) H5.out.res; have z0 := zs 0 _ rfl; have z1 := zs 1 _ rfl; have z2 := zs 2 _ rfl; have z3 := zs 3 _ rfl; have z4 := zs 4 _ rfl; have z5 := zs 5 _ rfl; have z6 := zs 6 _ rfl; have y0 := zf 0; have y1 := zf 1; have y2 := zf 2; have y3 := zf 3; have y4 := zf 4; have y5 := zf 5; have y6 := zf 6; clear zs zf)
        refine bodyPost_ret (task_ends (seven_at H5.out.res) rfl rfl) rfl ?_
        rw [taskR_bad HW.out.1 hi6 HB.out (by rw [hno])]
        exact ⟨rfl, seven_below H5.out.bel (Nat.le_refl _)⟩
      | true =>
        go_wp2_with (go_at_call 93; refine HNu.mono ?_; rintro r w5 ⟨rfl, hb5⟩; have H5 : Hid (TKW w w5 (w.heap.size + 1 + 1) g6 [b0, b1, b2, b3, b4, b5, b6] vs b0) := HT.out.1.grow hb5; clear hb5 HNu; obtain ⟨ts0, tf0, tl1⟩ := cells_of H5.out.tsk; have t1 := ts0 (i + 1) (.int .i64 (vs[i]'(by omega))) (by rw [List.getElem?_cons_succ, List.getElem?_map, List.getElem?_eq_getElem (by omega)]; rfl); have tf1 := tf0 (i + 1); clear ts0 tf0)
        refine ⟨⟨i + 1, vs.set i nn, by omega, by simp, by simpa using hvl, H5.out.put i nn, fun k hk => ?_⟩, by simp [intOf]; omega⟩
        by_cases hki : k = i
        · subst hki
          exact ⟨bi, nn, HB.out, hno, by rw [List.getElem?_set_self (by omega)]⟩
        · obtain ⟨b, n, g1, g2, g3⟩ := HT.out.2 k (by omega)
          exact ⟨b, n, g1, g2, by rw [List.getElem?_set_ne (fun e => hki e.symm)]; exact g3⟩
    · have hie : i = 6 := by omega
      subst hie
      obtain ⟨n1, n2, n3, n4, n5, n6, rfl⟩ := six_of hvl
      have k1 := HT.out.2 0 (by omega)
      have k2 := HT.out.2 1 (by omega)
      have k3 := HT.out.2 2 (by omega)
      have k4 := HT.out.2 3 (by omega)
      have k5 := HT.out.2 4 (by omega)
      have k6 := HT.out.2 5 (by omega)
      have HK : Hid (taskR s = (⟨b0, n1, n2, n3, n4, n5, n6⟩, true)) := by
        have h9 : taskR s = (⟨b0, n1, n2, n3, n4, n5, n6⟩, true) := by
          obtain ⟨_, _, a1, a2, a3⟩ := k1
          obtain ⟨_, _, c1, c2, c3⟩ := k2
          obtain ⟨_, _, d1, d2, d3⟩ := k3
          obtain ⟨_, _, e1, e2, e3⟩ := k4
          obtain ⟨_, _, f1, f2, f3⟩ := k5
          obtain ⟨_, _, g1, g2, g3⟩ := k6
          simp at a1 a3 c1 c3 d1 d3 e1 e3 f1 f3 g1 g3
          subst a1 a3 c1 c3 d1 d3 e1 e3 f1 f3 g1 g3
          exact taskR_good HW.out.1 a2 c2 d2 e2 f2 g2
        exact h9
      clear k1 k2 k3 k4 k5 k6
      obtain ⟨zs, zf, zl⟩ := cells_of (l := [_, _, _, _, _, _, _]) HT.out.1.res
      have z0 := zs 0 _ rfl
      have z1 := zs 1 _ rfl
      have z2 := zs 2 _ rfl
      have z3 := zs 3 _ rfl
      have z4 := zs 4 _ rfl
      have z5 := zs 5 _ rfl
      have z6 := zs 6 _ rfl
      have y0 := zf 0
      have y1 := zf 1
      have y2 := zf 2
      have y3 := zf 3
      have y4 := zf 4
      have y5 := zf 5
      have y6 := zf 6
      clear zs zf
      obtain ⟨ts, -, tl⟩ := cells_of (l := [_, _, _, _, _, _, _]) HT.out.1.tsk
      have x0 := ts 0 _ rfl
      have x1 := ts 1 _ rfl
      have x2 := ts 2 _ rfl
      have x3 := ts 3 _ rfl
      have x4 := ts 4 _ rfl
      have x5 := ts 5 _ rfl
      have x6 := ts 6 _ rfl
      clear ts
      go_wp2_with fail
      refine bodyPost_ret (task_ends (seven_at HT.out.1.res) rfl rfl) rfl ?_
      rw [HK.out]
      exact ⟨rfl, seven_below HT.out.1.bel (Nat.le_refl _)⟩
end Go.Proofs.YtccoobcggbbciadDoor
