import Derived.Test.YtkafihaajpifoaiVA
namespace Go.Proofs.Ytkafihaajpifoai
open Go.ChangeShapes Go.WideShapes Go.ChangeAt Go.RowKit

theorem FB.res2 {w W : World} {g : Nat} (h : FB w W g) : W.cell? ⟨g, 0, none⟩ = some (.int .i64 0) ∧ W.cell? ⟨g, 1, none⟩ = some (.int .i64 0) ∧ W.frozen? ⟨g, 0, none⟩ = false ∧ W.frozen? ⟨g, 1, none⟩ = false ∧ g < W.heap.size := by
  obtain ⟨rs1, rf1, rl1⟩ := cells_of (l := [_, _]) h.res
  exact ⟨rs1 0 _ rfl, rs1 1 _ rfl, rf1 0, rf1 1, rl1⟩

theorem FB.setA {w W : World} {g : Nat} (h : FB w W g) (a b : Value) (o : Obj) : (((W.setCell ⟨g, 0, none⟩ a).setCell ⟨g, 1, none⟩ b).alloc o).heap[g]? = some (.cells #[a, b] 29 (0, 0)) ∧ Below w.heap.size w (((W.setCell ⟨g, 0, none⟩ a).setCell ⟨g, 1, none⟩ b).alloc o) := by
  have h1 := set_two (a := a) (b := b) h.res
  exact ⟨((below_new _ o).block _ (Array.getElem?_eq_some_iff.1 h1).1).trans h1, below_seq (h.set a b) (below_new _ _)⟩

theorem Frame_ends {w : World} {g : Nat} {c k : Value} {a : Act} (h : w.heap[g]? = some (.cells #[c, k] 29 (0, 0))) (h3 : a.tmps[4]?.getD undef = .pointer (some ⟨g, 0, none⟩)) :
    (results Try.f27 a.tmps).run Try.prog w = .ok (.agg #[c, k]) w := by
  obtain ⟨c1, f1, l1⟩ := cells_of (l := [_, _]) h
  have c10 := c1 0 _ rfl
  have c11 := c1 1 _ rfl
  simp [results, Try.results27, go_sem, h3, c10, c11]

theorem CheckFrame_ends {w : World} {g : Nat} {c k : Value} {a : Act} (h : w.heap[g]? = some (.cells #[c, k] 29 (0, 0))) (h3 : a.tmps[4]?.getD undef = .pointer (some ⟨g, 0, none⟩)) :
    (results Try.f14 a.tmps).run Try.prog w = .ok (.agg #[c, k]) w := by
  obtain ⟨c1, f1, l1⟩ := cells_of (l := [_, _]) h
  have c10 := c1 0 _ rfl
  have c11 := c1 1 _ rfl
  simp [results, Try.results14, go_sem, h3, c10, c11]

set_option maxRecDepth 20000 in
theorem Frame_out (w : World) (n : Int) (ad : Option Addr) (m c : Nat) (h : wthin n 1 10000 = false) : Calls Try.prog 27 #[.int .i64 n, .slice ad m c] w fun r w' => r = .returned (.agg #[.int .i64 3, .int .i64 0]) ∧ Below w.heap.size w w' := by
  go_enter Try.func27, Try.ntmps27
  go_wp2_with (go_at_call 29; refine (wthin_any _ _ _ _).mono ?_; rintro r w1 ⟨rfl, rfl⟩; rw [h])
  refine bodyPost_ret (Frame_ends (heap_alloc_new _ _) rfl) rfl ?_
  exact ⟨rfl, below_new _ _⟩

set_option maxRecDepth 20000 in
theorem Frame_many (w : World) (n : Int) (ad : Option Addr) (m c : Nat) (h : wthin n 1 10000 = true) (hm : 20 < m) : Calls Try.prog 27 #[.int .i64 n, .slice ad m c] w fun r w' => r = .returned (.agg #[.int .i64 2, .int .i64 0]) ∧ Below w.heap.size w w' := by
  have hm' : (20 : Int) < (m : Int) := by omega
  go_enter Try.func27, Try.ntmps27
  go_wp2_with (go_at_call 29; refine (wthin_any _ _ _ _).mono ?_; rintro r w1 ⟨rfl, rfl⟩; rw [h])
  refine bodyPost_ret (Frame_ends (heap_alloc_new _ _) rfl) rfl ?_
  exact ⟨rfl, below_new _ _⟩

set_option maxRecDepth 20000 in
set_option maxHeartbeats 4000000 in
theorem Frame_few (w : World) (n : Int) (l : List Wi) (ad : Option Addr) (c : Nat) (h : wthin n 1 10000 = true) (hm : l.length ≤ 20) (hv : RowSl Wi.vals w l (.slice ad l.length c)) : Calls Try.prog 27 #[.int .i64 n, .slice ad l.length c] w fun r w' => r = .returned (.agg #[.int .i64 (frmFrom n l 0 0).1, .int .i64 (frmFrom n l 0 0).2]) ∧ Below w.heap.size w w' := by
  have hm' : ¬ (20 : Int) < (l.length : Int) := by omega
  have hn : 1 ≤ n ∧ n ≤ 10000 := by simpa [wthin] using h
  obtain ⟨_, _, e, -, hcap, hrow⟩ := hv
  cases e
  have HR : Hid (l = [] ∨ ∃ b o, ad = some ⟨b, o, none⟩ ∧ ∀ q u, (l.flatMap Wi.vals)[q]? = some u → w.cell? ⟨b, o + q, none⟩ = some u) := hrow
  clear hrow
  go_enter Try.func27, Try.ntmps27
  go_wp2_with (go_at_call 29; refine (wthin_any _ _ _ _).mono ?_; rintro r w1 ⟨rfl, rfl⟩; rw [h])
  go_loopw [5, 18] (fun e i wr => ∃ (j : Nat) (ev : Int), j ≤ l.length ∧ e = .int .i64 ev ∧ i = .int .i64 j ∧ (0 ≤ ev ∧ ev ≤ 10000) ∧ FB w wr w.heap.size ∧ frmFrom n (l.drop j) j ev = frmFrom n l 0 0) (fun _ i _ => l.length - (intOf i).toNat)
  case atStart => exact ⟨0, 0, Nat.zero_le _, rfl, rfl, by omega, FB.start w, rfl⟩
  case round =>
    obtain ⟨j, ev, hj, rfl, rfl, hev, hb, hf⟩ := hrel
    obtain ⟨r10, r11, f10, f11, rl⟩ := hb.res2
    by_cases hlt : j < l.length
    · obtain ⟨x, hx, hd⟩ := drop_at hlt
      rw [hd, frmFrom] at hf
      rcases HR.out with h' | ⟨b, o, rfl, hrow⟩
      · rw [h'] at hlt; simp at hlt
      obtain ⟨c0, c1⟩ := wi_at (fun q u hq => below_cell hb.bel (hrow q u hq)) hx
      have lb : b < wr.heap.size := World.block_lt_of_cell? _ _ c0
      have HB : Hid (FB w wr w.heap.size) := hb
      have hji : (j : Int) < (l.length : Int) := by omega
      clear hb hrow
      cases hA : wthin x.at_ 0 n
      · rw [hA] at hf
        have HF : Hid ((3, (j : Int)) = frmFrom n l 0 0) := hf
        clear hf
        go_wp2_with (go_at_call 29; refine (wthin_any _ _ _ _).mono ?_; rintro r w1 ⟨rfl, rfl⟩; rw [hA])
        refine bodyPost_ret (Frame_ends (HB.out.setA _ _ _).1 rfl) rfl ?_
        exact ⟨by rw [← HF.out], (HB.out.setA _ _ _).2⟩
      · have hA' : 0 ≤ x.at_ ∧ x.at_ ≤ n := by simpa [wthin] using hA
        cases hB : wthin x.ln 1 (n - x.at_)
        · rw [hA, hB] at hf
          have HF : Hid ((3, (j : Int)) = frmFrom n l 0 0) := hf
          clear hf
          go_wp2_with (go_at_call 29; refine (wthin_any _ _ _ _).mono ?_; rintro r w1 ⟨rfl, rfl⟩; first | rw [hA] | rw [hB])
          refine bodyPost_ret (Frame_ends (HB.out.setA _ _ _).1 rfl) rfl ?_
          exact ⟨by rw [← HF.out], (HB.out.setA _ _ _).2⟩
        · have hB' : 1 ≤ x.ln ∧ x.ln ≤ n - x.at_ := by simpa [wthin] using hB
          rw [hA, hB] at hf
          by_cases hC : x.at_ < ev
          · rw [if_neg (by simp), if_pos hC] at hf
            have HF : Hid ((12, (j : Int)) = frmFrom n l 0 0) := hf
            clear hf
            go_wp2_with (go_at_call 29; refine (wthin_any _ _ _ _).mono ?_; rintro r w1 ⟨rfl, rfl⟩; first | rw [hA] | rw [hB])
            refine bodyPost_ret (Frame_ends (HB.out.setA _ _ _).1 rfl) rfl ?_
            exact ⟨by rw [← HF.out], (HB.out.setA _ _ _).2⟩
          · rw [if_neg (by simp), if_neg hC] at hf
            have HF : Hid (frmFrom n (l.drop (j + 1)) (j + 1) (x.at_ + x.ln) = frmFrom n l 0 0) := hf
            clear hf
            go_wp2_with (go_at_call 29; refine (wthin_any _ _ _ _).mono ?_; rintro r w1 ⟨rfl, rfl⟩; first | rw [hA] | rw [hB])
            exact ⟨⟨j + 1, x.at_ + x.ln, by omega, rfl, by simp, by omega, HB.out.grow (below_new _ _), HF.out⟩, by simp [intOf]; omega⟩
    · have hje : j = l.length := by omega
      subst hje
      rw [List.drop_length, frmFrom] at hf
      have HF : Hid ((0, 0) = frmFrom n l 0 0) := hf
      have HB : Hid (FB w wr w.heap.size) := hb
      clear hf hb
      go_wp2_with fail
      refine bodyPost_ret (Frame_ends (set_two HB.out.res) rfl) rfl ?_
      exact ⟨by rw [← HF.out], HB.out.set _ _⟩

/-- chapter 13's Frame. -/
theorem Frame_any (w : World) (n : Int) (l : List Wi) (v : Value) (hv : RowSl Wi.vals w l v) : Calls Try.prog 27 #[.int .i64 n, v] w fun r w' => r = .returned (.agg #[.int .i64 (frmF n l).1, .int .i64 (frmF n l).2]) ∧ Below w.heap.size w w' := by
  obtain ⟨ad, c, rfl⟩ := hv.len
  unfold frmF
  cases h : wthin n 1 10000
  · rw [if_pos rfl]
    exact Frame_out w n ad _ c h
  · rw [if_neg (by simp)]
    by_cases hm : 20 < l.length
    · rw [if_pos hm]
      exact Frame_many w n ad _ c h hm
    · rw [if_neg hm]
      exact Frame_few w n l ad c h (by omega) hv
end Go.Proofs.Ytkafihaajpifoai
