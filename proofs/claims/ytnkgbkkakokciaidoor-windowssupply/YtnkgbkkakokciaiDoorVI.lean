import Derived.Test.YtnkgbkkakokciaiDoorVC
import Derived.Test.YtnkgbkkakokciaiDoorVD
namespace Go.Proofs.YtnkgbkkakokciaiDoor
open Go.ChangeShapes Go.WideShapes Go.ChangeAt Go.RowKit

set_option maxRecDepth 20000 in
set_option maxHeartbeats 4000000 in
theorem There_any (w : World) (n t : Int) (l : List Wi) (ad : Option Addr) (c : Nat) (hn : 1 ≤ n ∧ n ≤ 10000) (h20 : l.length ≤ 20) (hs : Srt n 0 l) (ht : 0 ≤ t) (hv : RowSl Wi.vals w l (.slice ad l.length c)) : Calls Tryd.prog 10 #[.int .i64 n, .slice ad l.length c, .int .i64 t] w fun r w' => r = .returned (.bool (thr n l t)) ∧ Below w.heap.size w w' := by
  obtain ⟨_, _, e, -, hcap, hrow⟩ := hv
  cases e
  have HR : Hid ((l = [] ∨ ∃ b o, ad = some ⟨b, o, none⟩ ∧ ∀ q u, (l.flatMap Wi.vals)[q]? = some u → w.cell? ⟨b, o + q, none⟩ = some u) ∧ Srt n 0 l) := ⟨hrow, hs⟩
  clear hrow hs
  have hn0 : ¬ n = 0 := by omega
  have e2 : t.tmod n = t % n := Int.tmod_eq_emod_of_nonneg ht
  have q2 := Int.emod_nonneg t hn0
  have q3 := Int.emod_lt_of_pos t (show 0 < n by omega)
  have w2 : IntKind.i64.wrap (t % n) = t % n := by rw [IntKind.wrap_i64]; omega
  unfold thr
  go_enter Tryd.func10, Tryd.ntmps10
  go_wp2_with fail
  go_loopw [12] (fun i wr => ∃ j : Nat, j ≤ l.length ∧ i = .int .i64 j ∧ Below w.heap.size w wr ∧ (l.drop j).any (inW (t % n)) = l.any (inW (t % n))) (fun i _ => l.length - (intOf i).toNat)
  case atStart => exact ⟨0, Nat.zero_le _, rfl, Below.refl _ _, rfl⟩
  case round =>
    obtain ⟨j, hj, rfl, hb, hf⟩ := hrel
    by_cases hlt : j < l.length
    · obtain ⟨x, hx, hd⟩ := drop_at hlt
      rw [hd, List.any_cons] at hf
      rcases HR.out.1 with h' | ⟨b, o, rfl, hrow⟩
      · rw [h'] at hlt; simp at hlt
      obtain ⟨c0, c1⟩ := wi_at (fun q u hq => below_cell hb (hrow q u hq)) hx
      have lb : b < wr.heap.size := World.block_lt_of_cell? _ _ c0
      have hm := HR.out.2.mem (List.mem_of_getElem? hx)
      have HB : Hid (Below w.heap.size w wr) := hb
      have hji : (j : Int) < (l.length : Int) := by omega
      have w3 : IntKind.i64.wrap (x.at_ + x.ln) = x.at_ + x.ln := by rw [IntKind.wrap_i64]; omega
      clear hb hrow
      by_cases hA : x.at_ ≤ t % n
      · by_cases hB : t % n < x.at_ + x.ln
        · have hi : inW (t % n) x = true := by simp [inW, hA, hB]
          rw [hi, Bool.true_or] at hf
          have HF : Hid (true = l.any (inW (t % n))) := hf
          clear hf
          go_wp2_with fail
          go_ret
          refine ⟨?_, below_seq HB.out (below_new _ _)⟩
          have e := HF.out
          first | (rw [← e]; done) | (rw [← e]; rfl) | (simp [← e])
        · have hi : inW (t % n) x = false := by simp [inW, hB]
          rw [hi, Bool.false_or] at hf
          have HF : Hid ((l.drop (j + 1)).any (inW (t % n)) = l.any (inW (t % n))) := hf
          clear hf
          go_wp2_with fail
          exact ⟨⟨j + 1, by omega, by simp, below_seq HB.out (below_new _ _), HF.out⟩, by simp [intOf]; omega⟩
      · have hi : inW (t % n) x = false := by simp [inW, hA]
        rw [hi, Bool.false_or] at hf
        have HF : Hid ((l.drop (j + 1)).any (inW (t % n)) = l.any (inW (t % n))) := hf
        clear hf
        go_wp2_with fail
        exact ⟨⟨j + 1, by omega, by simp, below_seq HB.out (below_new _ _), HF.out⟩, by simp [intOf]; omega⟩
    · have hje : j = l.length := by omega
      subst hje
      rw [List.drop_length] at hf
      have HF : Hid (false = l.any (inW (t % n))) := hf
      clear hf
      go_wp2_with fail
      go_ret
      refine ⟨?_, hb⟩
      have e := HF.out
      first | (rw [← e]; done) | (rw [← e]; rfl) | (simp [← e])

set_option maxRecDepth 20000 in
set_option maxHeartbeats 4000000 in
theorem SupplyOf_any (w : World) (n s k : Nat) (l : List Wi) (ad : Option Addr) (c : Nat) (hn : 1 ≤ n ∧ n ≤ 10000) (h20 : l.length ≤ 20) (hs : Srt n 0 l) (ht : s + k ≤ 100000) (hv : RowSl Wi.vals w l (.slice ad l.length c)) : Calls Tryd.prog 14 #[.int .i64 (n : Int), .slice ad l.length c, .int .i64 (s : Int), .int .i64 (k : Int)] w fun r w' => r = .returned (.int .i64 (sup n l s k)) ∧ Below w.heap.size w w' := by
  have HT : Hid (∀ (W : World) (t : Nat), Below w.heap.size w W → Calls Tryd.prog 10 #[.int .i64 (n : Int), .slice ad l.length c, .int .i64 (t : Int)] W fun r w' => r = .returned (.bool (thr n l t)) ∧ Below W.heap.size W w') := fun W t hW => There_any W n t l ad c (by omega) h20 hs (by omega) (hv.below hW)
  have w1 : IntKind.i64.wrap ((s : Int) + (k : Int)) = (s : Int) + (k : Int) := by rw [IntKind.wrap_i64]; omega
  clear hv hs
  go_enter Tryd.func14, Tryd.ntmps14
  go_wp2_with fail
  go_loopw [9, 10] (fun m i wr => ∃ j : Nat, j ≤ k ∧ i = .int .i64 ((s + j : Nat) : Int) ∧ m = .int .i64 (sup n l s j) ∧ Below w.heap.size w wr) (fun _ i _ => s + k - (intOf i).toNat)
  case atStart => exact ⟨0, Nat.zero_le _, rfl, by rw [sup_zero], Below.refl _ _⟩
  case round =>
    obtain ⟨j, hj, rfl, rfl, hb⟩ := hrel
    have hsl := sup_le n l s j
    have hss := sup_succ n l s j
    by_cases hlt : j < k
    · have g1 : ((s + j : Nat) : Int) < (s : Int) + (k : Int) := by omega
      have HC := HT.out wr (s + j) hb
      have HB : Hid (Below w.heap.size w wr) := hb
      have HS : Hid (sup n l s (j + 1) = sup n l s j + bit (thr n l ((s + j : Nat) : Int))) := hss
      clear hb hss
      generalize sup n l s j = A at *
      cases hz : thr n l ((s + j : Nat) : Int)
      · rw [hz] at HC
        go_wp2_with (go_at_call 10; refine HC.mono ?_; rintro r w2 ⟨rfl, hb2⟩; have H2 : Hid (Below wr.heap.size wr w2) := hb2; clear hb2 HC)
        refine ⟨⟨j + 1, by omega, by congr 1, ?_, below_seq HB.out H2.out⟩, by simp [intOf]; omega⟩
        rw [HS.out, hz]
        simp [bit]
      · rw [hz] at HC
        go_wp2_with (go_at_call 10; refine HC.mono ?_; rintro r w2 ⟨rfl, hb2⟩; have H2 : Hid (Below wr.heap.size wr w2) := hb2; clear hb2 HC)
        refine ⟨⟨j + 1, by omega, by congr 1, ?_, below_seq HB.out H2.out⟩, by simp [intOf]; omega⟩
        rw [HS.out, hz]
        simp [bit]
    · have hje : j = k := by omega
      subst hje
      have g1 : ¬ ((s + j : Nat) : Int) < (s : Int) + (j : Int) := by omega
      go_wp2_with fail
      go_ret
      exact ⟨rfl, hb⟩
end Go.Proofs.YtnkgbkkakokciaiDoor
