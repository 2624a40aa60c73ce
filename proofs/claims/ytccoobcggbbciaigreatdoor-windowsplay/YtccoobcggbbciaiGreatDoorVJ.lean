import Derived.Test.YtccoobcggbbciaiGreatDoorVC
import Derived.Test.YtccoobcggbbciaiGreatDoorVF
namespace Go.Proofs.YtccoobcggbbciaiGreatDoor
open Go.ChangeShapes Go.WideShapes Go.ChangeAt Go.RowKit

set_option maxRecDepth 20000 in
set_option maxHeartbeats 4000000 in
theorem There_any (w : World) (n t : Int) (l : List Wi) (ad : Option Addr) (c : Nat) (hn : 1 ≤ n ∧ n ≤ 10000) (h20 : l.length ≤ 20) (hs : Srt n 0 l) (ht : 0 ≤ t) (hv : RowSl Wi.vals w l (.slice ad l.length c)) : Calls Tryz.prog 52 #[.int .i64 n, .slice ad l.length c, .int .i64 t] w fun r w' => r = .returned (.bool (thr n l t)) ∧ Below w.heap.size w w' := by
  obtain ⟨_, _, e, -, hcap, hrow⟩ := hv
  cases e
  have HR : Hid ((l = [] ∨ ∃ b o, ad = some ⟨b, o, none⟩ ∧ ∀ q u, (l.flatMap Wi.vals)[q]? = some u → w.cell? ⟨b, o + q, none⟩ = some u) ∧ Srt n 0 l) := ⟨hrow, hs⟩
  clear hrow hs
  have hn0 : ¬ n = 0 := by omega
  have e2 : t.tmod n = t % n := Int.tmod_eq_emod_of_nonneg ht
  have q2 := Int.emod_nonneg t hn0
  have q3 := Int.emod_lt_of_pos t (show 0 < n by omega)
  have w2 : IntKind.i64.wrap (t % n) = t % n := by rw [IntKind.wrap_i64]; omega
  unfold thr
  go_enter Tryz.func52, Tryz.ntmps52
  go_wp2_with fail
  go_loopw [12] (fun i wr => ∃ j : Nat, j ≤ l.length ∧ i = .int .i64 j ∧ Below w.heap.size w wr ∧ (l.drop j).any (inW (t % n)) = l.any (inW (t % n))) (fun i _ => l.length - (intOf i).toNat)
  case atStart => exact ⟨0, Nat.zero_le _, rfl, Below.refl _ _, rfl⟩
  case round =>
    obtain ⟨j, hj, rfl, hb, hf⟩ := hrel
    by_cases hlt : j < l.length
    · obtain ⟨x, hx, hd⟩ := drop_at hlt
      rw [hd, List.any_cons] at hf
      rcases HR.out.1 with h' | ⟨b, o, rfl, hrow⟩
      · rw [h'] at hlt; simp at hlt
      obtain ⟨c0, c1⟩ := wi_at (fun q u hq => below_cell hb (hrow q u hq)) hx
      have lb : b < wr.heap.size := World.block_lt_of_cell? _ _ c0
      have hm := HR.out.2.mem (List.mem_of_getElem? hx)
      have HB : Hid (Below w.heap.size w wr) := hb
      have hji : (j : Int) < (l.length : Int) := by omega
      have w3 : IntKind.i64.wrap (x.at_ + x.ln) = x.at_ + x.ln := by rw [IntKind.wrap_i64]; omega
      clear hb hrow
      by_cases hA : x.at_ ≤ t % n
      · by_cases hB : t % n < x.at_ + x.ln
        · have hi : inW (t % n) x = true := by simp [inW, hA, hB]
          rw [hi, Bool.true_or] at hf
          have HF : Hid (true = l.any (inW (t % n))) := hf
          clear hf
          go_wp2_with fail
          go_ret
          refine ⟨?_, below_seq HB.out (below_new _ _)⟩
          have e := HF.out
          first | (rw [← e]; done) | (rw [← e]; rfl) | (simp [← e])
        · have hi : inW (t % n) x = false := by simp [inW, hB]
          rw [hi, Bool.false_or] at hf
          have HF : Hid ((l.drop (j + 1)).any (inW (t % n)) = l.any (inW (t % n))) := hf
          clear hf
          go_wp2_with fail
          exact ⟨⟨j + 1, by omega, by simp, below_seq HB.out (below_new _ _), HF.out⟩, by simp [intOf]; omega⟩
      · have hi : inW (t % n) x = false := by simp [inW, hA]
        rw [hi, Bool.false_or] at hf
        have HF : Hid ((l.drop (j + 1)).any (inW (t % n)) = l.any (inW (t % n))) := hf
        clear hf
        go_wp2_with fail
        exact ⟨⟨j + 1, by omega, by simp, below_seq HB.out (below_new _ _), HF.out⟩, by simp [intOf]; omega⟩
    · have hje : j = l.length := by omega
      subst hje
      rw [List.drop_length] at hf
      have HF : Hid (false = l.any (inW (t % n))) := hf
      clear hf
      go_wp2_with fail
      go_ret
      refine ⟨?_, hb⟩
      have e := HF.out
      first | (rw [← e]; done) | (rw [← e]; rfl) | (simp [← e])
end Go.Proofs.YtccoobcggbbciaiGreatDoor
namespace Go.Proofs.YtccoobcggbbciaiGreatDoor
open Go.ChangeShapes Go.WideShapes Go.ChangeAt Go.RowKit

theorem info3w : (Tryz.prog.info? 3).map (fun i => (i.zero, i.size, i.bytes)) = some (some (.int .i64 0), 1, 8) := by kernel_rfl

/-- A row of m numbers. -/
def rowV (m : Nat) (f : Nat → Int) : List Value := (List.range m).map (fun k => Value.int .i64 (f k))

theorem rowV_at {m k : Nat} {f : Nat → Int} (h : k < m) : (rowV m f)[k]? = some (.int .i64 (f k)) := by
  unfold rowV
  simp [h]

theorem rowV_set {m k : Nat} {f : Nat → Int} (z : Int) : (rowV m f).set k (.int .i64 z) = rowV m (fun i => if i = k then z else f i) := by
  apply List.ext_getElem
  · simp [rowV]
  · intro i h1 h2
    simp only [rowV, List.getElem_set, List.getElem_map, List.getElem_range]
    by_cases e : k = i
    · subst e; simp
    · rw [if_neg e, if_neg (fun h => e h.symm)]

theorem rowV_congr {m : Nat} {f g : Nat → Int} (h : ∀ k, k < m → f k = g k) : rowV m f = rowV m g := by
  unfold rowV
  exact List.map_congr_left fun k hk => by rw [h k (List.mem_range.1 hk)]

theorem made_row (m : Nat) : madeCells (Value.int .i64 0).cells m = (rowV m (fun _ => 0)).toArray := by
  unfold madeCells rowV
  apply Array.ext
  · simp
  · intro i h1 h2
    simp [Value.cells, Nat.mod_one]

theorem make_row (m : Nat) (hm : m ≤ 4194304) (W : World) : (Instr.makeSlice 24 (.int .i64 (m : Int)) (.int .i64 (m : Int))).run Tryz.prog W = .ok (.slice (some ⟨W.heap.size, 0, none⟩) m m) (W.alloc (.cells (rowV m (fun _ => 0)).toArray 3)) := by
  obtain ⟨i0, hi0, hz0, hz1, hz2⟩ := info_parts info3w
  have h := run_make (P := Tryz.prog) W 24 3 i0 _ Tryz.underlying24 hi0 hz0 .i64 .i64 (m : Int) (m : Int) (by omega) (by omega) (by rw [hz2]; omega) (by omega)
  rw [hz1, Nat.mul_one, Int.toNat_natCast, made_row] at h
  exact h

/-- A row of one's own, and nothing below it turned. -/
structure LR (w W : World) (m : Nat) (f : Nat → Int) : Prop where
  bel : Below w.heap.size w W
  row : W.heap[w.heap.size]? = some (.cells (rowV m f).toArray 3 (0, 0))

theorem LR.grow {w W W' : World} {m : Nat} {f : Nat → Int} (h : LR w W m f) (hb : Below W.heap.size W W') : LR w W' m f :=
  ⟨below_seq h.bel hb, (hb.block _ (Array.getElem?_eq_some_iff.1 h.row).1).trans h.row⟩

theorem LR.set {w W : World} {m k : Nat} {f : Nat → Int} (h : LR w W m f) (z : Int) : LR w (W.setCell ⟨w.heap.size, k, none⟩ (.int .i64 z)) m (fun i => if i = k then z else f i) := by
  refine ⟨h.bel.setCell (Nat.le_refl _) _, ?_⟩
  rw [setCell_at h.row, ← rowV_set]
  congr 2
  simp

theorem LR.congr {w W : World} {m : Nat} {f g : Nat → Int} (h : LR w W m f) (he : ∀ k, k < m → f k = g k) : LR w W m g := ⟨h.bel, by rw [← rowV_congr he]; exact h.row⟩

theorem LR.at_ {w W : World} {m k : Nat} {f : Nat → Int} (h : LR w W m f) (hk : k < m) : W.cell? ⟨w.heap.size, k, none⟩ = some (.int .i64 (f k)) ∧ W.frozen? ⟨w.heap.size, k, none⟩ = false ∧ w.heap.size < W.heap.size := by
  obtain ⟨c, f1, l⟩ := cells_of h.row
  exact ⟨c k _ (rowV_at hk), f1 k, l⟩

set_option maxRecDepth 20000 in
set_option maxHeartbeats 8000000 in
theorem Lean_any (w : World) (n k : Nat) (l : List Wi) (ad : Option Addr) (c : Nat) (hn : 1 ≤ n ∧ n ≤ 10000) (h20 : l.length ≤ 20) (hs : Srt n 0 l) (ht : k ≤ 20000) (hv : RowSl Wi.vals w l (.slice ad l.length c)) : Calls Tryz.prog 47 #[.int .i64 (n : Int), .slice ad l.length c, .int .i64 (k : Int)] w fun r w' => r = .returned (.slice (some ⟨w.heap.size, 0, none⟩) (k + 1) (k + 1)) ∧ LR w w' (k + 1) (fun i => leanF n l i n) := by
  have HT : Hid (∀ (W : World) (t : Nat), Below w.heap.size w W → Calls Tryz.prog 52 #[.int .i64 (n : Int), .slice ad l.length c, .int .i64 (t : Int)] W fun r w' => r = .returned (.bool (thr n l t)) ∧ Below W.heap.size W w') := fun W t hW => There_any W n t l ad c (by omega) h20 hs (by omega) (hv.below hW)
  have w1 : IntKind.i64.wrap ((k : Int) + 1) = (k : Int) + 1 := by rw [IntKind.wrap_i64]; omega
  have hmk : ∀ W : World, (Instr.makeSlice 24 (.int .i64 ((k : Int) + 1)) (.int .i64 ((k : Int) + 1))).run Tryz.prog W = .ok (.slice (some ⟨W.heap.size, 0, none⟩) (k + 1) (k + 1)) (W.alloc (.cells (rowV (k + 1) (fun _ => 0)).toArray 3)) := fun W => make_row (k + 1) (by omega) W
  clear hv hs
  go_enter Tryz.func47, Tryz.ntmps47
  go_wp2_with fail
  clear hmk
  go_loopw [17] (fun i wr => ∃ j : Nat, j ≤ k + 1 ∧ i = .int .i64 j ∧ LR w wr (k + 1) (fun i => if i < j then (i : Int) else 0)) (fun i _ => k + 1 - (intOf i).toNat)
  case atStart => exact ⟨0, Nat.zero_le _, rfl, ⟨below_new _ _, heap_alloc_new _ _⟩⟩
  case round =>
    obtain ⟨j, hj, rfl, hb⟩ := hrel
    by_cases hlt : j < k + 1
    · obtain ⟨c0, f0, lt⟩ := hb.at_ hlt
      have g1 : (j : Int) < (k : Int) + 1 := by omega
      have HB : Hid (LR w wr (k + 1) (fun i => if i < j then (i : Int) else 0)) := hb
      clear hb
      go_wp2_with fail
      refine ⟨⟨j + 1, by omega, by simp, (HB.out.set (k := j) (j : Int)).congr fun q hq => ?_⟩, by simp [intOf]; omega⟩
      by_cases e : q = j
      · subst e; simp
      · by_cases e2 : q < j
        · simp [e, e2, show q < j + 1 by omega]
        · simp [e, e2, show ¬ q < j + 1 by omega]
    · have hje : j = k + 1 := by omega
      subst hje
      have g1 : ¬ ((k + 1 : Nat) : Int) < (k : Int) + 1 := by omega
      have HB : Hid (LR w wr (k + 1) (fun i => leanF n l i 0)) := hb.congr fun q hq => by simp [hq, leanF]
      clear hb
      go_wp2_with fail
      go_loopw [9] (fun i wr => ∃ s : Nat, s ≤ n ∧ i = .int .i64 s ∧ Hid (LR w wr (k + 1) (fun i => leanF n l i s))) (fun i _ => n - (intOf i).toNat)
      case atStart => exact ⟨0, Nat.zero_le _, rfl, HB⟩
      case round =>
        obtain ⟨s, hs, rfl, HL⟩ := hrel
        by_cases hsn : s < n
        · have g2 : (s : Int) < (n : Int) := by omega
          go_wp2_with fail
          go_loopw [10, 11] (fun m i wr => ∃ q : Nat, q ≤ k + 1 ∧ i = .int .i64 q ∧ m = .int .i64 (sup n l s q) ∧ LR w wr (k + 1) (fun i => if i < q then leanF n l i (s + 1) else leanF n l i s)) (fun _ i _ => k + 1 - (intOf i).toNat)
          case atStart => exact ⟨0, Nat.zero_le _, rfl, by rw [sup_zero], HL.out.congr fun q _ => by simp⟩
          case round =>
            obtain ⟨q, hq, rfl, rfl, hb⟩ := hrel
            by_cases hqk : q ≤ k
            · obtain ⟨c0, f0, lt⟩ := hb.at_ (k := q) (by omega)
              rw [if_neg (by omega)] at c0
              have g3 : (q : Int) ≤ (k : Int) := by omega
              have g4 : (q : Int) < (k : Int) + 1 := by omega
              have hsl := sup_le n l s q
              have w2 : IntKind.i64.wrap ((s : Int) + (q : Int)) = ((s + q : Nat) : Int) := by rw [IntKind.wrap_i64]; omega
              have w3 : IntKind.i64.wrap (sup n l s q + 1) = sup n l s q + 1 := by rw [IntKind.wrap_i64]; omega
              have HS : Hid (sup n l s (q + 1) = sup n l s q + bit (thr n l ((s + q : Nat) : Int))) := sup_succ n l s q
              have HLn : Hid (leanF n l q (s + 1) = min (leanF n l q s) (sup n l s q)) := rfl
              have HB2 : Hid (LR w wr (k + 1) (fun i => if i < q then leanF n l i (s + 1) else leanF n l i s)) := hb
              clear hb
              generalize sup n l s q = A at *
              generalize hBq : leanF n l q s = B at *
              by_cases hAB : A < B
              · have H3 : Hid (LR w (wr.setCell ⟨w.heap.size, q, none⟩ (.int .i64 A)) (k + 1) (fun i => if i < q + 1 then leanF n l i (s + 1) else leanF n l i s)) := (HB2.out.set (k := q) A).congr fun j hj => by
                  have := HLn.out
                  by_cases e : j = q
                  · subst e; simp; omega
                  · by_cases e2 : j < q
                    · simp [e, e2, show j < q + 1 by omega]
                    · simp [e, e2, show ¬ j < q + 1 by omega]
                have HC := HT.out (wr.setCell ⟨w.heap.size, q, none⟩ (.int .i64 A)) (s + q) H3.out.bel
                clear HLn HB2
                cases hz : thr n l ((s + q : Nat) : Int)
                · rw [hz] at HC
                  go_wp2_with (go_at_call 52; refine HC.mono ?_; rintro r w2 ⟨rfl, hb2⟩; have H4 := H3.out.grow hb2; clear hb2 HC)
                  refine ⟨⟨q + 1, by omega, by simp, ?_, H4⟩, by simp [intOf]; omega⟩
                  rw [HS.out, hz]
                  simp [bit]
                · rw [hz] at HC
                  go_wp2_with (go_at_call 52; refine HC.mono ?_; rintro r w2 ⟨rfl, hb2⟩; have H4 := H3.out.grow hb2; clear hb2 HC)
                  refine ⟨⟨q + 1, by omega, by simp, ?_, H4⟩, by simp [intOf]; omega⟩
                  rw [HS.out, hz]
                  simp [bit]
              · have H3 : Hid (LR w wr (k + 1) (fun i => if i < q + 1 then leanF n l i (s + 1) else leanF n l i s)) := HB2.out.congr fun j hj => by
                  have := HLn.out
                  by_cases e : j = q
                  · subst e; simp; omega
                  · by_cases e2 : j < q
                    · simp [e2, show j < q + 1 by omega]
                    · simp [e2, show ¬ j < q + 1 by omega]
                have HC := HT.out wr (s + q) H3.out.bel
                clear HLn HB2
                cases hz : thr n l ((s + q : Nat) : Int)
                · rw [hz] at HC
                  go_wp2_with (go_at_call 52; refine HC.mono ?_; rintro r w2 ⟨rfl, hb2⟩; have H4 := H3.out.grow hb2; clear hb2 HC)
                  refine ⟨⟨q + 1, by omega, by simp, ?_, H4⟩, by simp [intOf]; omega⟩
                  rw [HS.out, hz]
                  simp [bit]
                · rw [hz] at HC
                  go_wp2_with (go_at_call 52; refine HC.mono ?_; rintro r w2 ⟨rfl, hb2⟩; have H4 := H3.out.grow hb2; clear hb2 HC)
                  refine ⟨⟨q + 1, by omega, by simp, ?_, H4⟩, by simp [intOf]; omega⟩
                  rw [HS.out, hz]
                  simp [bit]
            · have hqe : q = k + 1 := by omega
              subst hqe
              have g3 : ¬ ((k + 1 : Nat) : Int) ≤ (k : Int) := by omega
              have HB2 : Hid (LR w wr (k + 1) (fun i => leanF n l i (s + 1))) := hb.congr fun j hj => by simp [hj]
              clear hb
              go_wp2_with fail
              exact ⟨⟨s + 1, by omega, by simp, HB2⟩, by simp [intOf]; omega⟩
        · have hse : s = n := by omega
          subst hse
          go_wp2_with fail
          go_ret
          exact ⟨rfl, HL.out⟩
end Go.Proofs.YtccoobcggbbciaiGreatDoor
