import Derived.Test.YtkafihaajpifoaiVE
namespace Go.Proofs.Ytkafihaajpifoai
open Go.ChangeShapes Go.WideShapes Go.ChangeAt Go.RowKit

set_option maxRecDepth 20000 in
set_option maxHeartbeats 4000000 in
theorem indexW_any (w : World) (n t : Int) (l : List Wi) (v : Value) (gt gf : Nat) (hn : 1 ≤ n ∧ n ≤ 10000) (h20 : l.length ≤ 20) (hs : Srt n 0 l) (ht : 0 ≤ t) (hv : RowSl Wi.vals w l v) (h1 : w.cell? ⟨gt, 0, none⟩ = some (.int .i64 t)) (h2 : w.cell? ⟨gf, 0, none⟩ = some (.int .i64 n)) : Calls Try.prog 87 #[v, .func (Fn.func 67) #[] #[.pointer (some ⟨gt, 0, none⟩), .pointer (some ⟨gf, 0, none⟩)]] w fun r w' => r = .returned (.int .i64 (findP (inW (t % n)) l 0)) ∧ Below w.heap.size w w' := by
  obtain ⟨ad, c, rfl, -, hcap, hrow⟩ := hv
  go_enter Try.func87, Try.ntmps87
  go_wp2_with fail
  have HR : Hid ((l = [] ∨ ∃ b o, ad = some ⟨b, o, none⟩ ∧ ∀ q u, (l.flatMap Wi.vals)[q]? = some u → w.cell? ⟨b, o + q, none⟩ = some u) ∧ (w.cell? ⟨gt, 0, none⟩ = some (.int .i64 t) ∧ w.cell? ⟨gf, 0, none⟩ = some (.int .i64 n)) ∧ Srt n 0 l) := ⟨hrow, ⟨h1, h2⟩, hs⟩
  clear hrow h1 h2 hs
  go_loopw [8] (fun i wr => ∃ j : Nat, j ≤ l.length ∧ i = .int .i64 j ∧ Below w.heap.size w wr ∧ findP (inW (t % n)) (l.drop j) j = findP (inW (t % n)) l 0) (fun i _ => l.length - (intOf i).toNat)
  case atStart => exact ⟨0, Nat.zero_le _, rfl, Below.refl _ _, rfl⟩
  case round =>
    obtain ⟨j, hj, rfl, hb, hf⟩ := hrel
    by_cases hlt : j < l.length
    · obtain ⟨y, hy, hd⟩ := drop_at hlt
      rw [hd, findP] at hf
      rcases HR.out.1 with h | ⟨b, o, rfl, hrow⟩
      · rw [h] at hlt; simp at hlt
      obtain ⟨c0, c1⟩ := wi_at (fun q u hq => below_cell hb (hrow q u hq)) hy
      have hm := HR.out.2.2.mem (List.mem_of_getElem? hy)
      have HY := open1_any wr n t y gt gf hn ht hm (below_cell hb HR.out.2.1.1) (below_cell hb HR.out.2.1.2)
      have HB : Hid (Below w.heap.size w wr) := hb
      have HF : Hid ((if inW (t % n) y = true then (j : Int) else findP (inW (t % n)) (l.drop (j + 1)) (j + 1)) = findP (inW (t % n)) l 0) := hf
      clear hrow hb hf
      generalize hz : inW (t % n) y = z at *
      cases z
      · go_wp2_with (go_at_call 67; refine HY.mono ?_; rintro r w1 ⟨rfl, hb1⟩)
        have e := HF.out
        rw [if_neg (by simp)] at e
        exact ⟨⟨j + 1, by omega, by simp, below_seq HB.out hb1, e⟩, by simp [intOf]; omega⟩
      · go_wp2_with (go_at_call 67; refine HY.mono ?_; rintro r w1 ⟨rfl, hb1⟩)
        have e := HF.out
        rw [if_pos (by trivial)] at e
        go_ret
        exact ⟨by rw [← e]; rfl, below_seq HB.out hb1⟩
    · have hje : j = l.length := by omega
      subst hje
      rw [List.drop_length, findP] at hf
      go_wp2_with fail
      go_ret
      exact ⟨by rw [← hf]; rfl, hb⟩

set_option maxRecDepth 20000 in
theorem containsW_any (w : World) (n t : Int) (l : List Wi) (v : Value) (gt gf : Nat) (hn : 1 ≤ n ∧ n ≤ 10000) (h20 : l.length ≤ 20) (hs : Srt n 0 l) (ht : 0 ≤ t) (hv : RowSl Wi.vals w l v) (h1 : w.cell? ⟨gt, 0, none⟩ = some (.int .i64 t)) (h2 : w.cell? ⟨gf, 0, none⟩ = some (.int .i64 n)) : Calls Try.prog 68 #[v, .func (Fn.func 67) #[] #[.pointer (some ⟨gt, 0, none⟩), .pointer (some ⟨gf, 0, none⟩)]] w fun r w' => r = .returned (.bool (thr n l t)) ∧ Below w.heap.size w w' := by
  unfold thr
  rw [← findP_any (inW (t % n)) l 0]
  have HI := indexW_any w n t l v gt gf hn h20 hs ht hv h1 h2
  obtain ⟨ad, c, rfl, -⟩ := hv
  go_enter Try.func68, Try.ntmps68
  go_wp2_with (go_at_call 87; refine HI.mono ?_; rintro r w1 ⟨rfl, hb1⟩)
  go_ret
  exact ⟨rfl, hb1⟩

set_option maxRecDepth 20000 in
/-- Is the core there? Of a right frame. -/
theorem open_any (w : World) (n t : Int) (l : List Wi) (ad : Option Addr) (c : Nat) (hn : 1 ≤ n ∧ n ≤ 10000) (h20 : l.length ≤ 20) (hs : Srt n 0 l) (ht : 0 ≤ t) (hv : RowSl Wi.vals w l (.slice ad l.length c)) : Calls Try.prog 33 #[.agg #[.int .i64 n, .slice ad l.length c], .int .i64 t] w fun r w' => r = .returned (.bool (thr n l t)) ∧ Below w.heap.size w w' := by
  have hb0 : Below w.heap.size w ((w.alloc (.cells #[.int .i64 n, .slice ad l.length c] 81)).alloc (.cells #[.int .i64 t] 3)) := below_seq (below_new _ _) (below_new _ _)
  have HI := containsW_any ((w.alloc (.cells #[.int .i64 n, .slice ad l.length c] 81)).alloc (.cells #[.int .i64 t] 3)) n t l _ (w.heap.size + 1) w.heap.size hn h20 hs ht (hv.below hb0) (by go_simp) (by go_simp)
  have H0 : Hid (Below w.heap.size w ((w.alloc (.cells #[.int .i64 n, .slice ad l.length c] 81)).alloc (.cells #[.int .i64 t] 3))) := hb0
  clear hv hb0
  go_enter Try.func33, Try.ntmps33
  go_wp2_with (go_at_call 68; refine HI.mono ?_; rintro r w1 ⟨rfl, hb1⟩)
  go_ret
  exact ⟨rfl, below_seq H0.out hb1⟩

set_option maxRecDepth 20000 in
/-- chapter 13's Open. -/
theorem Open_any (w : World) (n t : Int) (l : List Wi) (v : Value) (hv : RowSl Wi.vals w l v) : Calls Try.prog 24 #[.int .i64 n, v, .int .i64 t] w fun r w' => r = .returned (.bool (decide ((frmF n l).1 = 0) && decide (0 ≤ t) && thr n l t)) ∧ Below w.heap.size w w' := by
  have HF := Frame_any w n l v hv
  obtain ⟨ad, c, rfl⟩ := hv.len
  rcases hz : frmF n l with ⟨z, y⟩
  rw [hz] at HF
  dsimp only at HF ⊢
  have HV : Hid (RowSl Wi.vals w l (.slice ad l.length c)) := hv
  clear hv
  by_cases h0 : z = 0
  · subst h0
    obtain ⟨hn, h20, hs, rfl⟩ := frmF_good hz
    by_cases ht : t < 0
    · have e : decide (0 ≤ t) = false := by simp; omega
      rw [e]
      go_enter Try.func24, Try.ntmps24
      go_wp2_with (go_at_call 27; refine HF.mono ?_; rintro r w1 ⟨rfl, hb1⟩; have H1 : Hid (Below w.heap.size w w1) := hb1; clear hb1)
      go_ret
      exact ⟨by simp, below_seq H1.out (below_new _ _)⟩
    · have e : decide (0 ≤ t) = true := by simp; omega
      rw [e]
      have ht' : 0 ≤ t := by omega
      have HO : Hid (∀ W, Below w.heap.size w W → Calls Try.prog 33 #[.agg #[.int .i64 n, .slice ad l.length c], .int .i64 t] W fun r w' => r = .returned (.bool (thr n l t)) ∧ Below W.heap.size W w') := fun W hW => open_any W n t l ad c hn h20 hs ht' (HV.out.below hW)
      go_enter Try.func24, Try.ntmps24
      go_wp2_with (first
        | (go_at_call 33; refine (HO.out _ (below_seq H1.out (below_new _ _))).mono ?_; rintro r w2 ⟨rfl, hb2⟩)
        | (go_at_call 27; refine HF.mono ?_; rintro r w1 ⟨rfl, hb1⟩; have H1 : Hid (Below w.heap.size w w1) := hb1; clear hb1))
      go_ret
      exact ⟨by simp, below_seq (below_seq H1.out (below_new _ _)) hb2⟩
  · have e : decide (z = 0) = false := by simp [h0]
    rw [e]
    go_enter Try.func24, Try.ntmps24
    go_wp2_with (go_at_call 27; refine HF.mono ?_; rintro r w1 ⟨rfl, hb1⟩; have H1 : Hid (Below w.heap.size w w1) := hb1; clear hb1)
    go_ret
    exact ⟨by simp, below_seq H1.out (below_new _ _)⟩

end Go.Proofs.Ytkafihaajpifoai
