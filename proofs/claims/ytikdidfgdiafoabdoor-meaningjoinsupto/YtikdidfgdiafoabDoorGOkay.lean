import Derived.Test.YtikdidfgdiafoabDoorGMeanB
import Derived.Test.YtikdidfgdiafoabDoorGFirst
import Derived.Test.YtikdidfgdiafoabDoorGRunC
import Derived.Test.YtikdidfgdiafoabDoorGRunS
import Derived.Lib.SliceRun
import Derived.Test.YtikdidfgdiafoabDoorGMeanAll
import Derived.Test.YtikdidfgdiafoabDoorGState
namespace Go.Proofs.YtikdidfgdiafoabDoor
open Go.ChangeShapes Go.WideShapes Go.ChangeAt Go.RowKit

theorem made0 (w3 : World) (x y : Obj) : (((w3.alloc x).alloc y).alloc (.cells #[] 3)).ownsRow (w3.heap.size + 1 + 1) 3 1 (.slice (some ⟨w3.heap.size + 1 + 1, 0, none⟩) 0 0) 0 [] := by
  have := World.ownsRow_made (base := w3.heap.size + 1 + 1) (e := 3) (size := 1) ((w3.alloc x).alloc y) #[] 0 (by simp) (Nat.zero_le _) rfl
  simpa using this

theorem vars_cells {w w3 : World} {b o : Nat} {vs : List Int} (hv : ∀ j, j < 8 → w.cell? ⟨b, o + j, none⟩ = some (.int .i64 (vs.getD j 0))) (hl : vs.length = 8) (hb : Below w.heap.size w w3) (x y z : Obj) : ∀ j u, (intVs vs)[j]? = some u → (((w3.alloc x).alloc y).alloc z).cell? ((⟨b, o, none⟩ : Addr).add j) = some u := by
  intro j u hj
  have hjl : j < vs.length := by have := (List.getElem?_eq_some_iff.1 hj).1; simpa [intVs] using this
  rw [Addr.add_lit]
  refine Lib.cell?_alloc_some _ (Lib.cell?_alloc_some _ (Lib.cell?_alloc_some _ (below_cell hb ?_)))
  rw [hv j (by omega)]
  have e : (intVs vs)[j]? = some (Value.int .i64 (vs.getD j 0)) := by simp [intVs, List.getD, hjl]
  rw [e] at hj
  exact hj

theorem made_kept {w w3 w4 : World} {g : Nat} {x y z c k : Value} {fo : Obj} {cs : Array Value} (hk : Kept2 w3 g x y z c k) (hb : Below w.heap.size w w3) (hg : (((w3.alloc fo).alloc (.cells cs 53)).alloc (.cells #[] 3)).grownBy w4 (Value.slice (some ⟨w3.heap.size + 1 + 1, 0, none⟩) 0 0).ownBlock) : Kept2 w4 g x y z c k ∧ Below w.heap.size w w4 ∧ w4.heap[w3.heap.size + 1]? = some (.cells cs 53 (0, 0)) := by
  have hs := hb.size
  have hB : Below (w3.heap.size + 1 + 1) ((w3.alloc fo).alloc (.cells cs 53)) w4 := ((Below.refl _ _).alloc (by simp) _).grown hg (by simp) (by intro k hk; simp [Value.ownBlock] at hk; omega)
  have hB3 : Below w3.heap.size w3 w4 := (((Below.refl _ w3).alloc (Nat.le_refl _) _).alloc (by simp) _).trans (hB.mono (by omega))
  refine ⟨hk.below hB3, hb.trans (hB3.mono hs), (hB.block _ (by omega)).trans ?_⟩
  have := heap_alloc_new (w3.alloc fo) (.cells cs 53)
  simpa using this

theorem mean_mid (w w4 : World) (rb vb vc : Nat) (v iv : Value) (a : List St) (vs is : List Int) (hi : InsIs w iv is) (hb : St.bulkAll a ≤ 1048576) (hok : St.OkAll a) (hsl : St.Sl w a v) (h4 : Below w.heap.size w w4) (hv4 : VarBlk w4 vb vc vs) (hne : rb < vb) (hrw : w.heap.size ≤ rb) (hblk : w4.heap[rb]? = some (.cells #[.slice none 0 0, .slice none 0 0, .int .i64 0, iv, .int .i64 (-1)] 53 (0, 0))) :
    Calls Tryd.prog 23 #[.pointer (some ⟨rb, 0, none⟩), v, .int .i64 0] (w4.setCell ⟨rb, 0, none⟩ (.slice (some ⟨vb, 0, none⟩) 8 vc)) fun r w' => r = .returned (.tuple #[]) ∧ ∃ pv', Rn w' rb vb w4.heap.size vc 53 iv (.int .i64 (badOf (St.runAll is a 0 ⟨vs, [], 0⟩).2)) pv' (St.runAll is a 0 ⟨vs, [], 0⟩).1 ∧ RR rb vb (w4.setCell ⟨rb, 0, none⟩ (.slice (some ⟨vb, 0, none⟩) 8 vc)) w' (.slice none 0 0) pv' := by
  have l1 := (Array.getElem?_eq_some_iff.1 hblk).1
  obtain ⟨hl, cs, g1, g2, g3⟩ := hv4
  have l2 := (Array.getElem?_eq_some_iff.1 g1).1
  exact mean_all w is iv hi 1048576 (Nat.le_refl _) a _ rb vb w4.heap.size vc (.slice none 0 0) v ⟨vs, [], 0⟩ 0 hb hok hrw (by omega) (h4.setCell hrw _) hsl ⟨heap_setCell_same _ rb 0 _ _ _ hblk, ⟨hl, cs, (heap_setCell_other _ _ _ _ (by show vb ≠ rb; omega)).trans g1, g2, g3⟩, ⟨by simp [putVs], .inl ⟨rfl, rfl⟩⟩, l1, l2, by omega, by rw [set_size]; exact Nat.le_refl _⟩ (Nat.zero_le _) (Nat.le_refl _) (by omega)

theorem Kept2.aside {w : World} {g rb : Nat} {x y z c k : Value} (h : Kept2 w g x y z c k) (hr : g + 1 < rb) (u : Value) : Kept2 (w.setCell ⟨rb, 0, none⟩ u) g x y z c k :=
  ⟨(heap_setCell_other _ _ _ _ (by show g ≠ rb; omega)).trans h.1, (heap_setCell_other _ _ _ _ (by show g + 1 ≠ rb; omega)).trans h.2⟩

set_option maxRecDepth 20000 in
set_option maxHeartbeats 4000000 in
theorem Mean_good (w : World) (v iv : Value) (a : List St) (b o c : Nat) (ia : Option Addr) (ic : Nat) (vs is : List Int) (s3 : Ms) (hiv : iv = .slice ia 4 ic) (hl : vs.length = 8) (hv : ∀ j, j < 8 → w.cell? ⟨b, o + j, none⟩ = some (.int .i64 (vs.getD j 0))) (hi : InsIs w iv is) (hsl : St.Sl w a v) (hb : St.bulkAll a ≤ 1048576) (hok : St.OkAll a)
    (hC : ∀ W, Below w.heap.size w W → Calls Tryd.prog 21 #[v] W fun r w' => r = .returned (.agg #[.int .i64 0, .int .i64 0]) ∧ Below W.heap.size W w') (hz : St.runAll is a 0 ⟨vs, [], 0⟩ = (s3, none)) :
    Calls Tryd.prog 7 #[v, .slice (some ⟨b, o, none⟩) 8 c, iv] w (RunEnd w (s3, none)) := by
  obtain ⟨i0, hi0, hz0, hz1, hz2⟩ := info_parts info3
  have HC : Hid (∀ W, Below w.heap.size w W → Calls Tryd.prog 21 #[v] W fun r w' => r = .returned (.agg #[.int .i64 0, .int .i64 0]) ∧ Below W.heap.size W w') := hC
  have HI : Hid (InsIs w iv is ∧ St.Sl w a v ∧ St.OkAll a ∧ (∀ j, j < 8 → w.cell? ⟨b, o + j, none⟩ = some (.int .i64 (vs.getD j 0))) ∧ vs.length = 8) := ⟨hi, hsl, hok, hv, hl⟩
  have HZ : Hid (St.runAll is a 0 ⟨vs, [], 0⟩ = (s3, none)) := hz
  clear hC hi hsl hok hv hl hz
  subst hiv
  go_enter Tryd.func7, Tryd.ntmps7
  go_wp2_with (first | (go_at_call 21; refine (HC.out _ (((Below.refl _ w).alloc (Nat.le_refl _) _).alloc (by simp) _)).mono ?_; rintro r w3 ⟨rfl, hb3⟩; have HB : Hid (Kept2 w3 w.heap.size (.slice none 0 0) (.slice none 0 0) (.int .i64 0) (.int .i64 0) (.int .i64 0) ∧ Below w.heap.size w w3) := ⟨(Kept2.made w _ _ _ _ _).below hb3, below_seq (((Below.refl _ w).alloc (Nat.le_refl _) _).alloc (by simp) _) hb3⟩; clear hb3) | (at_builtin; refine append_mine _ rfl (.tmp 31) (.tmp 32) 23 rfl (w3.heap.size + 1 + 1) 3 i0 _ 1 8 Tryd.underlying23 hi0 hz0 hz1 hz2 rfl (by decide) (.slice (some ⟨w3.heap.size + 1 + 1, 0, none⟩) 0 0) 0 [] rfl (made0 w3 _ _) ⟨b, o, none⟩ 8 c (intVs vs) rfl (by have := HI.out.2.2.2.2; simpa [intVs] using this) (vars_cells HI.out.2.2.2.1 HI.out.2.2.2.2 HB.out.2 _ _ _) (fun u hu => by obtain ⟨x, _, rfl⟩ := List.mem_map.1 hu; rfl) (by decide) (by decide) (by decide) (by simp) ?_; intro v4 w4 hown4 hg4 hv4; obtain ⟨vb, vc, rfl, hvb, hle⟩ := VarBlk.of_owns (vs := vs) hown4 HI.out.2.2.2.2; have hr4 := made_kept HB.out.1 HB.out.2 hg4; obtain ⟨q1, qf, ql⟩ := cells_of (l := [_, _, _, _, _]) hr4.2.2; have q0 := q1 0 _ rfl; have H4 : Hid (VarBlk w4 vb vc vs ∧ w3.heap.size + 1 + 1 ≤ vb ∧ _ ∧ _ ∧ _) := ⟨hvb, hle, hr4⟩; clear hvb hle hr4 q1 hown4 hg4 hv4))
  have hs1 : w.heap.size + 1 < w3.heap.size := (Array.getElem?_eq_some_iff.1 HB.out.1.2).1
  clear HB
  have HW : Hid (Calls Tryd.prog 23 #[.pointer (some ⟨w3.heap.size + 1, 0, none⟩), v, .int .i64 0] (w4.setCell ⟨w3.heap.size + 1, 0, none⟩ (.slice (some ⟨vb, 0, none⟩) 8 vc)) fun r w' => r = .returned (.tuple #[]) ∧ ∃ pv', Rn w' (w3.heap.size + 1) vb w4.heap.size vc 53 (.slice ia 4 ic) (.int .i64 (badOf (St.runAll is a 0 ⟨vs, [], 0⟩).2)) pv' (St.runAll is a 0 ⟨vs, [], 0⟩).1 ∧ RR (w3.heap.size + 1) vb (w4.setCell ⟨w3.heap.size + 1, 0, none⟩ (.slice (some ⟨vb, 0, none⟩) 8 vc)) w' (.slice none 0 0) pv') := mean_mid w w4 (w3.heap.size + 1) vb vc v _ a vs is HI.out.1 hb HI.out.2.2.1 HI.out.2.1 H4.out.2.2.2.1 H4.out.1 H4.out.2.1 (by omega) H4.out.2.2.2.2
  have HB5 : Hid (Kept2 (w4.setCell ⟨w3.heap.size + 1, 0, none⟩ (.slice (some ⟨vb, 0, none⟩) 8 vc)) w.heap.size (.slice none 0 0) (.slice none 0 0) (.int .i64 0) (.int .i64 0) (.int .i64 0) ∧ Below w.heap.size w (w4.setCell ⟨w3.heap.size + 1, 0, none⟩ (.slice (some ⟨vb, 0, none⟩) 8 vc))) := ⟨Kept2.aside H4.out.2.2.1 (by omega) _, H4.out.2.2.2.1.setCell (by show w.heap.size ≤ w3.heap.size + 1; omega) _⟩
  have hs5 : w.heap.size + 1 < vb := by have := H4.out.2.1; omega
  have hs6 : w.heap.size + 1 < w3.heap.size + 1 := by omega
  clear H4
  go_wp2_with (go_at_call 23; refine HW.out.mono ?_; rintro r w6 ⟨rfl, pv6, hk6, hr6⟩; rw [HZ.out] at hk6; obtain ⟨pad, pcap, rfl⟩ := owns_value hk6.puts; have HB6 : Hid (Kept2 w6 w.heap.size (.slice none 0 0) (.slice none 0 0) (.int .i64 0) (.int .i64 0) (.int .i64 0) ∧ Below w.heap.size w w6) := ⟨HB5.out.1.rr hr6 hs6 hs5 rfl, hr6.under HB5.out.2 HB5.out.2.size (by omega) (by omega) (by simp [Value.ownBlock])⟩; obtain ⟨c1, f1, l1⟩ := cells_of (l := [_, _, _]) HB6.out.1.1; obtain ⟨c2, f2, l2⟩ := cells_of (l := [_, _]) HB6.out.1.2; have c10 := c1 0 _ rfl; have c11 := c1 1 _ rfl; have c12 := c1 2 _ rfl; have c20 := c2 0 _ rfl; have c21 := c2 1 _ rfl; clear c1 c2; have hk7 : Rn w6 (w3.heap.size + 1) vb w4.heap.size vc 53 (.slice ia 4 ic) (.int .i64 (-1)) (.slice pad s3.puts.length pcap) s3 := hk6; obtain ⟨r0, r1, r2, -, r4, rf, rl⟩ := hk7.cells; have H6 : Hid _ := hk7; clear hk6 hk7 hr6)
  have hrn := H6.out.aside5 hs6 hs5 (.slice (some ⟨vb, 0, none⟩) 8 vc) (.slice pad s3.puts.length pcap) (.int .i64 s3.steps) (.int .i64 0) (.int .i64 0)
  exact bodyPost_ret (v := .tuple #[.agg #[.slice (some ⟨vb, 0, none⟩) 8 vc, .slice pad s3.puts.length pcap, .int .i64 s3.steps], .agg #[.int .i64 0, .int .i64 0]]) (Mean_ends (HB6.out.1.put _ _ _ _ _) rfl rfl) rfl ⟨vb, vc, _, pad, pcap, rfl, hrn.vars, hrn.puts, by omega, hrn.ltv, (((((HB6.out.2.setCell (Nat.le_refl _) _).setCell (Nat.le_refl _) _).setCell (Nat.le_refl _) _).setCell (Nat.le_succ _) _).setCell (Nat.le_succ _) _)⟩
end Go.Proofs.YtikdidfgdiafoabDoor
namespace Go.Proofs.YtikdidfgdiafoabDoor
open Go.ChangeShapes Go.WideShapes Go.ChangeAt Go.RowKit

set_option maxRecDepth 20000 in
set_option maxHeartbeats 4000000 in
theorem Mean_many (w : World) (v iv : Value) (a : List St) (b o c : Nat) (ia : Option Addr) (ic : Nat) (vs is : List Int) (s3 : Ms) (z : Nat) (hiv : iv = .slice ia 4 ic) (hl : vs.length = 8) (hv : ∀ j, j < 8 → w.cell? ⟨b, o + j, none⟩ = some (.int .i64 (vs.getD j 0))) (hi : InsIs w iv is) (hsl : St.Sl w a v) (hb : St.bulkAll a ≤ 1048576) (hok : St.OkAll a)
    (hC : ∀ W, Below w.heap.size w W → Calls Tryd.prog 21 #[v] W fun r w' => r = .returned (.agg #[.int .i64 0, .int .i64 0]) ∧ Below W.heap.size W w') (hz : St.runAll is a 0 ⟨vs, [], 0⟩ = (s3, some z)) :
    Calls Tryd.prog 7 #[v, .slice (some ⟨b, o, none⟩) 8 c, iv] w (RunEnd w (s3, some z)) := by
  obtain ⟨i0, hi0, hz0, hz1, hz2⟩ := info_parts info3
  have HC : Hid (∀ W, Below w.heap.size w W → Calls Tryd.prog 21 #[v] W fun r w' => r = .returned (.agg #[.int .i64 0, .int .i64 0]) ∧ Below W.heap.size W w') := hC
  have HI : Hid (InsIs w iv is ∧ St.Sl w a v ∧ St.OkAll a ∧ (∀ j, j < 8 → w.cell? ⟨b, o + j, none⟩ = some (.int .i64 (vs.getD j 0))) ∧ vs.length = 8) := ⟨hi, hsl, hok, hv, hl⟩
  have HZ : Hid (St.runAll is a 0 ⟨vs, [], 0⟩ = (s3, some z)) := hz
  clear hC hi hsl hok hv hl hz
  subst hiv
  go_enter Tryd.func7, Tryd.ntmps7
  go_wp2_with (first | (go_at_call 21; refine (HC.out _ (((Below.refl _ w).alloc (Nat.le_refl _) _).alloc (by simp) _)).mono ?_; rintro r w3 ⟨rfl, hb3⟩; have HB : Hid (Kept2 w3 w.heap.size (.slice none 0 0) (.slice none 0 0) (.int .i64 0) (.int .i64 0) (.int .i64 0) ∧ Below w.heap.size w w3) := ⟨(Kept2.made w _ _ _ _ _).below hb3, below_seq (((Below.refl _ w).alloc (Nat.le_refl _) _).alloc (by simp) _) hb3⟩; clear hb3) | (at_builtin; refine append_mine _ rfl (.tmp 31) (.tmp 32) 23 rfl (w3.heap.size + 1 + 1) 3 i0 _ 1 8 Tryd.underlying23 hi0 hz0 hz1 hz2 rfl (by decide) (.slice (some ⟨w3.heap.size + 1 + 1, 0, none⟩) 0 0) 0 [] rfl (made0 w3 _ _) ⟨b, o, none⟩ 8 c (intVs vs) rfl (by have := HI.out.2.2.2.2; simpa [intVs] using this) (vars_cells HI.out.2.2.2.1 HI.out.2.2.2.2 HB.out.2 _ _ _) (fun u hu => by obtain ⟨x, _, rfl⟩ := List.mem_map.1 hu; rfl) (by decide) (by decide) (by decide) (by simp) ?_; intro v4 w4 hown4 hg4 hv4; obtain ⟨vb, vc, rfl, hvb, hle⟩ := VarBlk.of_owns (vs := vs) hown4 HI.out.2.2.2.2; have hr4 := made_kept HB.out.1 HB.out.2 hg4; obtain ⟨q1, qf, ql⟩ := cells_of (l := [_, _, _, _, _]) hr4.2.2; have q0 := q1 0 _ rfl; have H4 : Hid (VarBlk w4 vb vc vs ∧ w3.heap.size + 1 + 1 ≤ vb ∧ _ ∧ _ ∧ _) := ⟨hvb, hle, hr4⟩; clear hvb hle hr4 q1 hown4 hg4 hv4))
  have hs1 : w.heap.size + 1 < w3.heap.size := (Array.getElem?_eq_some_iff.1 HB.out.1.2).1
  clear HB
  have HW : Hid (Calls Tryd.prog 23 #[.pointer (some ⟨w3.heap.size + 1, 0, none⟩), v, .int .i64 0] (w4.setCell ⟨w3.heap.size + 1, 0, none⟩ (.slice (some ⟨vb, 0, none⟩) 8 vc)) fun r w' => r = .returned (.tuple #[]) ∧ ∃ pv', Rn w' (w3.heap.size + 1) vb w4.heap.size vc 53 (.slice ia 4 ic) (.int .i64 (badOf (St.runAll is a 0 ⟨vs, [], 0⟩).2)) pv' (St.runAll is a 0 ⟨vs, [], 0⟩).1 ∧ RR (w3.heap.size + 1) vb (w4.setCell ⟨w3.heap.size + 1, 0, none⟩ (.slice (some ⟨vb, 0, none⟩) 8 vc)) w' (.slice none 0 0) pv') := mean_mid w w4 (w3.heap.size + 1) vb vc v _ a vs is HI.out.1 hb HI.out.2.2.1 HI.out.2.1 H4.out.2.2.2.1 H4.out.1 H4.out.2.1 (by omega) H4.out.2.2.2.2
  have HB5 : Hid (Kept2 (w4.setCell ⟨w3.heap.size + 1, 0, none⟩ (.slice (some ⟨vb, 0, none⟩) 8 vc)) w.heap.size (.slice none 0 0) (.slice none 0 0) (.int .i64 0) (.int .i64 0) (.int .i64 0) ∧ Below w.heap.size w (w4.setCell ⟨w3.heap.size + 1, 0, none⟩ (.slice (some ⟨vb, 0, none⟩) 8 vc))) := ⟨Kept2.aside H4.out.2.2.1 (by omega) _, H4.out.2.2.2.1.setCell (by show w.heap.size ≤ w3.heap.size + 1; omega) _⟩
  have hs5 : w.heap.size + 1 < vb := by have := H4.out.2.1; omega
  have hs6 : w.heap.size + 1 < w3.heap.size + 1 := by omega
  clear H4
  go_wp2_with (first | (go_at_call 23; refine HW.out.mono ?_; rintro r w6 ⟨rfl, pv6, hk6, hr6⟩; rw [HZ.out] at hk6; have HB6 : Hid (Kept2 w6 w.heap.size (.slice none 0 0) (.slice none 0 0) (.int .i64 0) (.int .i64 0) (.int .i64 0) ∧ Below w.heap.size w w6) := ⟨HB5.out.1.rr hr6 hs6 hs5 rfl, hr6.under HB5.out.2 HB5.out.2.size (by omega) (by omega) (by simp [Value.ownBlock])⟩; have hk7 : Rn w6 (w3.heap.size + 1) vb w4.heap.size vc 53 (.slice ia 4 ic) (.int .i64 z) pv6 s3 := hk6; obtain ⟨-, -, -, -, r4, rf, rl⟩ := hk7.cells; clear hk6 hk7 hr6) | (go_at_call 22; refine (F_any 11 z _).mono ?_; rintro r wf ⟨rfl, hbf⟩; have HF : Hid (Kept2 wf w.heap.size (.slice none 0 0) (.slice none 0 0) (.int .i64 0) (.int .i64 0) (.int .i64 0) ∧ Below w.heap.size w wf) := ⟨HB6.out.1.below hbf, HB6.out.2.trans (hbf.mono HB6.out.2.size)⟩; clear hbf; obtain ⟨c1, f1, l1⟩ := cells_of (l := [_, _, _]) HF.out.1.1; obtain ⟨c2, f2, l2⟩ := cells_of (l := [_, _]) HF.out.1.2; have c10 := c1 0 _ rfl; have c11 := c1 1 _ rfl; have c12 := c1 2 _ rfl; have c20 := c2 0 _ rfl; have c21 := c2 1 _ rfl; clear c1 c2))
  exact bodyPost_ret (v := .tuple #[.agg #[.slice none 0 0, .slice none 0 0, .int .i64 0], .agg #[.int .i64 11, .int .i64 z]]) (Mean_ends (HF.out.1.put _ _ _ _ _) rfl rfl) rfl ⟨rfl, (((((HF.out.2.setCell (Nat.le_refl _) _).setCell (Nat.le_refl _) _).setCell (Nat.le_refl _) _).setCell (Nat.le_succ _) _).setCell (Nat.le_succ _) _)⟩
end Go.Proofs.YtikdidfgdiafoabDoor
namespace Go.Proofs.YtikdidfgdiafoabDoor
open Go.ChangeShapes Go.WideShapes Go.ChangeAt Go.RowKit

set_option maxRecDepth 20000 in
set_option maxHeartbeats 4000000 in
/-- Spoil, of variables. -/
theorem SpoilI_any (w : World) (vb vc : Nat) (vs : List Int) (h : VarBlk w vb vc vs) :
    Calls Tryd.prog 14 #[.slice (some ⟨vb, 0, none⟩) 8 vc] w fun r w' => r = .returned (.tuple #[]) ∧ w' = w.setCells vb 0 (List.replicate vc (.int .i64 0)) := by
  obtain ⟨i0, hi0, hz0, hz1, hz2⟩ := info_parts info3
  obtain ⟨hl, cs, h1, h2, -⟩ := h
  have hz : ∀ w, (zeroValue 3).run Tryd.prog w = .ok (.int .i64 0) w := fun w => by simp [zeroValue, typeInfo, hi0, hz0]
  have hcl : ∀ ty, (Builtin.clear_ #[23] ty #[.slice (some ⟨vb, 0, none⟩) vc vc]).run Tryd.prog w = .ok (.tuple #[]) (w.setCells vb 0 (List.replicate vc (.int .i64 0))) := fun ty =>
    Lib.run_clear_slice w 23 3 ty (.int .i64 0) Tryd.underlying23 hz rfl rfl vb 0 vc vc (by omega) (fun j hj => by unfold World.cell?; rw [h1]; simp; omega) (fun j hj => by unfold World.frozen?; rw [h1]; simp)
  clear h1 h2 hz
  go_enter Tryd.func14, Tryd.ntmps14
  go_wp2
  go_end0
  exact ⟨rfl, rfl⟩
end Go.Proofs.YtikdidfgdiafoabDoor
namespace Go.Proofs.YtikdidfgdiafoabDoor
open Go.ChangeShapes Go.WideShapes Go.ChangeAt Go.RowKit

/-- Cells that are set anew lie in one block. -/
theorem below_setCells {N b : Nat} (hb : N ≤ b) : ∀ (l : List Value) (o : Nat) (w : World), Below N w (w.setCells b o l)
  | [], _, _ => Below.refl _ _
  | v :: r, o, w => by
    refine Below.trans ?_ (below_setCells hb r (o + 1) _)
    exact (Below.refl _ w).setCell (p := ⟨b, o, none⟩) hb v

theorem zero_cells (z : Value) (n : Nat) : ∀ u ∈ (Builtin.zeroCells #[z, z] n).toList, u = z := by
  intro u hu
  simp only [Builtin.zeroCells, Array.toList_map, List.mem_map] at hu
  obtain ⟨i, -, rfl⟩ := hu
  have : i % (#[z, z] : Array Value).size = 0 ∨ i % (#[z, z] : Array Value).size = 1 := by
    have : i % 2 < 2 := Nat.mod_lt _ (by decide)
    show i % 2 = 0 ∨ i % 2 = 1
    omega
  rcases this with e | e <;> rw [e] <;> rfl

theorem clear_two (w : World) (t e ty : TypeId) (z : Value) (ht : Tryd.prog.underlying t = some (.slice e)) (hv : ∀ w, (zeroValue e).run Tryd.prog w = .ok (.agg #[z, z]) w) (h1 : z.oneCell' = true) (b n c : Nat) (hn : 0 < n)
    (hc : ∀ j, j < n * 2 → (w.cell? ⟨b, 0 + j, none⟩).isSome = true) (hf : ∀ j, j < n * 2 → w.frozen? ⟨b, 0 + j, none⟩ = false) :
    ∃ l, (Builtin.clear_ #[t] ty #[.slice (some ⟨b, 0, none⟩) n c]).run Tryd.prog w = .ok (.tuple #[]) (w.setCells b 0 l) := by
  have hcell : (Value.agg #[z, z]).cells = #[z, z] := by
    simp [Value.cells]
  have hlen : (Builtin.zeroCells #[z, z] n).toList.length = n * 2 := by simp [Builtin.zeroCells]
  have hst := run_storeCells_cells (P := Tryd.prog) b 0 (Builtin.zeroCells #[z, z] n).toList 0 w (by rw [hlen]; simpa using hc) (by rw [hlen]; simpa using hf) (by intro v hv'; rw [zero_cells z n v hv']; exact h1)
  refine ⟨(Builtin.zeroCells #[z, z] n).toList, ?_⟩
  obtain ⟨m, rfl⟩ : ∃ m, n = m + 1 := ⟨n - 1, by omega⟩
  simp only [Nat.add_zero] at hst
  simp [Builtin.clear_, run_underlying ht, hv, hcell, hst]

theorem infoPut : (Tryd.prog.info? 42).map (fun i => (i.zero, i.size, i.bytes)) = some (some (.agg #[.int .i64 0, .int .i64 0]), 2, 16) := by kernel_rfl

set_option maxRecDepth 20000 in
set_option maxHeartbeats 4000000 in
/-- Spoil, of no variables. -/
theorem SpoilI_nil (w : World) : Calls Tryd.prog 14 #[.slice none 0 0] w fun r w' => r = .returned (.tuple #[]) ∧ w' = w := by
  have hcl : ∀ ty, (Builtin.clear_ #[23] ty #[.slice none 0 0]).run Tryd.prog w = .ok (.tuple #[]) w := fun ty => by
    simp [Builtin.clear_, run_underlying Tryd.underlying23]
  go_enter Tryd.func14, Tryd.ntmps14
  go_wp2
  go_end0
  exact ⟨rfl, rfl⟩

set_option maxRecDepth 20000 in
set_option maxHeartbeats 4000000 in
/-- Spoil, of puts. -/
theorem SpoilP_any (w : World) (B : Nat) (pv : Value) (n : Nat) (xs : List Value) (h : w.ownsRow B 42 2 pv n xs) :
    Calls Tryd.prog 15 #[pv] w fun r w' => r = .returned (.tuple #[]) ∧ Below B w w' := by
  obtain ⟨i0, hi0, hz0, hz1, hz2⟩ := info_parts infoPut
  obtain ⟨-, ⟨rfl, rfl⟩ | ⟨g, cap, cur, rfl, hB, hg, hn, hm, hs, -⟩⟩ := h
  · have hcl : ∀ ty, (Builtin.clear_ #[26] ty #[.slice none 0 0]).run Tryd.prog w = .ok (.tuple #[]) w := fun ty => by
      simp [Builtin.clear_, run_underlying Tryd.underlying26]
    go_enter Tryd.func15, Tryd.ntmps15
    go_wp2
    go_end0
    exact ⟨rfl, Below.refl _ _⟩
  · have hz : ∀ w, (zeroValue 42).run Tryd.prog w = .ok (.agg #[.int .i64 0, .int .i64 0]) w := fun w => by simp [zeroValue, typeInfo, hi0, hz0]
    have hcl' : ∃ w1, (∀ ty, (Builtin.clear_ #[26] ty #[.slice (some ⟨g, 0, none⟩) cap cap]).run Tryd.prog w = .ok (.tuple #[]) w1) ∧ Below B w w1 := by
      by_cases hc : cap = 0
      · subst hc
        exact ⟨w, fun ty => by simp [Builtin.clear_, run_underlying Tryd.underlying26], Below.refl _ _⟩
      · obtain ⟨l, hl⟩ := clear_two w 26 42 26 (.int .i64 0) Tryd.underlying26 hz rfl g cap cap (by omega) (fun j hj => by unfold World.cell?; rw [hg]; simp; omega) (fun j hj => by unfold World.frozen?; rw [hg]; simp)
        exact ⟨_, fun ty => hl, below_setCells hB l 0 w⟩
    obtain ⟨w1, hcl, hb1⟩ := hcl'
    have HB : Hid (Below B w w1) := hb1
    unfold maxLen at hm
    clear hg hz hb1 hs
    go_enter Tryd.func15, Tryd.ntmps15
    go_wp2
    go_end0
    exact ⟨rfl, HB.out⟩
end Go.Proofs.YtikdidfgdiafoabDoor
namespace Go.Proofs.YtikdidfgdiafoabDoor
open Go.ChangeShapes Go.WideShapes Go.ChangeAt Go.RowKit

/-- A slice of numbers, wherever. -/
def IntSl (w : World) (vs : List Int) (v : Value) : Prop := ∃ ad c, v = .slice ad vs.length c ∧ (vs = [] ∨ ∃ b o, ad = some ⟨b, o, none⟩ ∧ ∀ j, j < vs.length → w.cell? ⟨b, o + j, none⟩ = some (.int .i64 (vs.getD j 0)))

theorem IntSl.below {w w' : World} {vs : List Int} {v : Value} (h : IntSl w vs v) (hb : Below w.heap.size w w') : IntSl w' vs v := by
  obtain ⟨ad, c, h1, h2⟩ := h
  refine ⟨ad, c, h1, ?_⟩
  rcases h2 with h2 | ⟨b, o, h2, h3⟩
  · exact .inl h2
  · exact .inr ⟨b, o, h2, fun j hj => below_cell hb (h3 j hj)⟩

set_option maxRecDepth 20000 in
set_option maxHeartbeats 4000000 in
/-- Same, of two lists of the same numbers. -/
theorem SameI_any (w : World) (vs : List Int) (v v' : Value) (hl : vs.length ≤ 4194304) (h : IntSl w vs v) (h' : IntSl w vs v') :
    Calls Tryd.prog 17 #[v, v'] w fun r w' => r = .returned (.bool true) ∧ Below w.heap.size w w' := by
  obtain ⟨ad, c, rfl, hc⟩ := h
  obtain ⟨ad', c', rfl, hc'⟩ := h'
  have HR : Hid ((vs = [] ∨ ∃ b o, ad = some ⟨b, o, none⟩ ∧ ∀ j, j < vs.length → w.cell? ⟨b, o + j, none⟩ = some (.int .i64 (vs.getD j 0))) ∧ (vs = [] ∨ ∃ b o, ad' = some ⟨b, o, none⟩ ∧ ∀ j, j < vs.length → w.cell? ⟨b, o + j, none⟩ = some (.int .i64 (vs.getD j 0)))) := ⟨hc, hc'⟩
  clear hc hc'
  go_enter Tryd.func17, Tryd.ntmps17
  go_wp2_with fail
  go_loopw [13] (fun x wr => ∃ j : Nat, j ≤ vs.length ∧ x = .int .i64 j ∧ Below w.heap.size w wr) (fun x _ => vs.length - (intOf x).toNat)
  case atStart => exact ⟨0, Nat.zero_le _, rfl, Below.refl _ _⟩
  case round =>
    obtain ⟨j, hj, rfl, hb⟩ := hrel
    by_cases hlt : j < vs.length
    · rcases HR.out.1 with h | ⟨b, o, had, hrow⟩
      · rw [h] at hlt; simp at hlt
      rcases HR.out.2 with h | ⟨b', o', had', hrow'⟩
      · rw [h] at hlt; simp at hlt
      subst had had'
      have c0 := below_cell hb (hrow j hlt)
      have d0 := below_cell hb (hrow' j hlt)
      clear hrow hrow'
      generalize vs.getD j 0 = z at *
      have HB : Hid (Below w.heap.size w wr) := hb
      clear hb
      go_wp2_with fail
      go_region
      go_wp2_with fail
      go_roundw
      case rel => exact ⟨j + 1, by omega, by go_num, HB.out.drew⟩
      case measure => simp [intOf]; omega
    · have hje : j = vs.length := by omega
      subst hje
      go_wp2_with fail
      go_ret
      exact ⟨rfl, hb⟩
end Go.Proofs.YtikdidfgdiafoabDoor
namespace Go.Proofs.YtikdidfgdiafoabDoor
open Go.ChangeShapes Go.WideShapes Go.ChangeAt Go.RowKit

/-- A slice of what is put, wherever. -/
def PutSl (w : World) (ps : List (Int × Int)) (v : Value) : Prop := ∃ ad c, v = .slice ad ps.length c ∧ (ps = [] ∨ ∃ b o, ad = some ⟨b, o, none⟩ ∧ ∀ j, j < ps.length → w.cell? ⟨b, o + j * 2, none⟩ = some (.int .i64 (ps.getD j (0, 0)).1) ∧ w.cell? ⟨b, o + j * 2 + 1, none⟩ = some (.int .i64 (ps.getD j (0, 0)).2))

theorem PutSl.below {w w' : World} {ps : List (Int × Int)} {v : Value} (h : PutSl w ps v) (hb : Below w.heap.size w w') : PutSl w' ps v := by
  obtain ⟨ad, c, h1, h2⟩ := h
  refine ⟨ad, c, h1, ?_⟩
  rcases h2 with h2 | ⟨b, o, h2, h3⟩
  · exact .inl h2
  · exact .inr ⟨b, o, h2, fun j hj => ⟨below_cell hb (h3 j hj).1, below_cell hb (h3 j hj).2⟩⟩

set_option maxRecDepth 20000 in
set_option maxHeartbeats 4000000 in
/-- Same, of two lists of the same puts. -/
theorem SameP_any (w : World) (ps : List (Int × Int)) (v v' : Value) (hl : ps.length ≤ 4194304) (h : PutSl w ps v) (h' : PutSl w ps v') :
    Calls Tryd.prog 18 #[v, v'] w fun r w' => r = .returned (.bool true) ∧ Below w.heap.size w w' := by
  obtain ⟨ad, c, rfl, hc⟩ := h
  obtain ⟨ad', c', rfl, hc'⟩ := h'
  have HR : Hid ((ps = [] ∨ ∃ b o, ad = some ⟨b, o, none⟩ ∧ ∀ j, j < ps.length → w.cell? ⟨b, o + j * 2, none⟩ = some (.int .i64 (ps.getD j (0, 0)).1) ∧ w.cell? ⟨b, o + j * 2 + 1, none⟩ = some (.int .i64 (ps.getD j (0, 0)).2)) ∧ (ps = [] ∨ ∃ b o, ad' = some ⟨b, o, none⟩ ∧ ∀ j, j < ps.length → w.cell? ⟨b, o + j * 2, none⟩ = some (.int .i64 (ps.getD j (0, 0)).1) ∧ w.cell? ⟨b, o + j * 2 + 1, none⟩ = some (.int .i64 (ps.getD j (0, 0)).2))) := ⟨hc, hc'⟩
  clear hc hc'
  go_enter Tryd.func18, Tryd.ntmps18
  go_wp2_with fail
  go_loopw [13] (fun x wr => ∃ j : Nat, j ≤ ps.length ∧ x = .int .i64 j ∧ Below w.heap.size w wr) (fun x _ => ps.length - (intOf x).toNat)
  case atStart => exact ⟨0, Nat.zero_le _, rfl, Below.refl _ _⟩
  case round =>
    obtain ⟨j, hj, rfl, hb⟩ := hrel
    by_cases hlt : j < ps.length
    · rcases HR.out.1 with h | ⟨b, o, had, hrow⟩
      · rw [h] at hlt; simp at hlt
      rcases HR.out.2 with h | ⟨b', o', had', hrow'⟩
      · rw [h] at hlt; simp at hlt
      subst had had'
      have c0 := below_cell hb (hrow j hlt).1
      have c1 := below_cell hb (hrow j hlt).2
      have d0 := below_cell hb (hrow' j hlt).1
      have d1 := below_cell hb (hrow' j hlt).2
      clear hrow hrow'
      generalize (ps.getD j (0, 0)).1 = z at *
      generalize (ps.getD j (0, 0)).2 = z' at *
      have HB : Hid (Below w.heap.size w wr) := hb
      clear hb
      go_wp2_with fail
      go_region
      go_wp2_with fail
      go_roundw
      case rel => exact ⟨j + 1, by omega, by go_num, HB.out.drew⟩
      case measure => simp [intOf]; omega
    · have hje : j = ps.length := by omega
      subst hje
      go_wp2_with fail
      go_ret
      exact ⟨rfl, hb⟩
end Go.Proofs.YtikdidfgdiafoabDoor
namespace Go.Proofs.YtikdidfgdiafoabDoor
open Go.ChangeShapes Go.WideShapes Go.ChangeAt Go.RowKit

set_option maxRecDepth 20000 in
set_option maxHeartbeats 4000000 in
/-- Ends, of two that are the same. -/
theorem Ends_any (w : World) (vs : List Int) (ps : List (Int × Int)) (n : Int) (v p v' p' : Value) (hl : vs.length ≤ 4194304) (hp : ps.length ≤ 4194304) (h1 : IntSl w vs v) (h2 : IntSl w vs v') (h3 : PutSl w ps p) (h4 : PutSl w ps p') :
    Calls Tryd.prog 11 #[.agg #[v, p, .int .i64 n], .agg #[v', p', .int .i64 n]] w fun r w' => r = .returned (.bool true) ∧ Below w.heap.size w w' := by
  have H : Hid (IntSl w vs v ∧ IntSl w vs v' ∧ PutSl w ps p ∧ PutSl w ps p') := ⟨h1, h2, h3, h4⟩
  obtain ⟨ad1, c1, rfl, -⟩ := h1
  obtain ⟨ad2, c2, rfl, -⟩ := h2
  obtain ⟨ad3, c3, rfl, -⟩ := h3
  obtain ⟨ad4, c4, rfl, -⟩ := h4
  have HA : Hid (Below w.heap.size w ((w.alloc (.cells #[.slice ad1 vs.length c1, .slice ad3 ps.length c3, .int .i64 n] 28)).alloc (.cells #[.slice ad2 vs.length c2, .slice ad4 ps.length c4, .int .i64 n] 28))) := ((Below.refl _ w).alloc (Nat.le_refl _) _).alloc (by simp) _
  go_enter Tryd.func11, Tryd.ntmps11
  go_wp2_with (go_at_call 17; refine (SameI_any _ vs _ _ hl (H.out.1.below HA.out) (H.out.2.1.below HA.out)).mono ?_; rintro r w3 ⟨rfl, hb3⟩; have HB : Hid (Below _ _ w3) := hb3; have k1 : w3.cell? ⟨w.heap.size, 1, none⟩ = some (.slice ad3 ps.length c3) := below_cell hb3 (by go_simp); have k2 : w3.cell? ⟨w.heap.size + 1, 1, none⟩ = some (.slice ad4 ps.length c4) := below_cell hb3 (by go_simp); clear hb3)
  go_wp2_with (go_at_call 18; refine (SameP_any _ ps _ _ hp (H.out.2.2.1.below (below_seq HA.out HB.out)) (H.out.2.2.2.below (below_seq HA.out HB.out))).mono ?_; rintro r w4 ⟨rfl, hb4⟩; have HC : Hid (Below _ _ w4) := hb4; clear hb4)
  go_ret
  exact ⟨rfl, below_seq (below_seq HA.out HB.out) HC.out⟩
end Go.Proofs.YtikdidfgdiafoabDoor
namespace Go.Proofs.YtikdidfgdiafoabDoor

theorem err_kind (k n : Int) (a : List Ex) (h : (Ex.mk k n a).err = 0) : (k = 1 ∧ a = []) ∨ (k = 2 ∧ 0 ≤ n ∧ n ≤ 7 ∧ a = []) ∨ (k = 3 ∧ 0 ≤ n ∧ n ≤ 3 ∧ a = []) ∨ (k = 4 ∧ a.length = 1) ∨ ((k = 5 ∨ k = 6 ∨ k = 7) ∧ a.length = 2) := by
  unfold Ex.err at h
  by_cases h1 : ((Ex.mk k n a).a.length : Int) ≠ arity (Ex.mk k n a).k
  · rw [if_pos h1] at h; omega
  rw [if_neg h1] at h
  by_cases h2 : (Ex.mk k n a).n < 0 ∨ (Ex.mk k n a).n > mostN (Ex.mk k n a).k
  · rw [if_pos h2] at h; omega
  have h1' : (a.length : Int) = arity k := by simpa [Ex.a, Ex.k] using h1
  have h2' : ¬ (n < 0 ∨ n > mostN k) := h2
  unfold arity at h1'
  unfold mostN at h2'
  by_cases k1 : k = 1
  · subst k1; simp at h1'; exact .inl ⟨rfl, h1'⟩
  by_cases k2 : k = 2
  · subst k2; simp at h1' h2'; exact .inr (.inl ⟨rfl, by omega, by omega, h1'⟩)
  by_cases k3 : k = 3
  · subst k3; simp at h1' h2'; exact .inr (.inr (.inl ⟨rfl, by omega, by omega, h1'⟩))
  by_cases k4 : k = 4
  · subst k4; simp at h1'; exact .inr (.inr (.inr (.inl ⟨rfl, by omega⟩)))
  by_cases k5 : k = 5 ∨ k = 6 ∨ k = 7
  · rw [if_neg (by omega), if_neg k4, if_pos k5] at h1'
    exact .inr (.inr (.inr (.inr ⟨k5, by omega⟩)))
  · rw [if_neg (by omega), if_neg k4, if_neg k5] at h1'
    omega

mutual
theorem Ex.node_ok : ∀ (e : Ex) (c : Nat), (e.node c).1 = 0 → e.Ok
  | .mk k n a, c, h => by
    unfold Ex.node at h
    by_cases h30 : 30 < c + 1
    · rw [if_pos h30] at h; simp at h
    rw [if_neg h30] at h
    by_cases hE : (Ex.mk k n a).err ≠ 0
    · rw [if_pos hE] at h; exact absurd h hE
    rw [if_neg hE] at h
    unfold Ex.Ok
    exact ⟨Ex.nodeAll_ok a (c + 1) h, err_kind k n a (by simpa using hE)⟩
theorem Ex.nodeAll_ok : ∀ (a : List Ex) (c : Nat), (Ex.nodeAll a c).1 = 0 → Ex.OkAll a
  | [], c, h => by unfold Ex.OkAll; trivial
  | x :: r, c, h => by
    unfold Ex.nodeAll at h
    by_cases hx : (x.node c).1 ≠ 0
    · rw [if_pos hx] at h; exact absurd h hx
    rw [if_neg hx] at h
    unfold Ex.OkAll
    exact ⟨Ex.node_ok x c (by simpa using hx), Ex.nodeAll_ok r _ h⟩
end

theorem cond_ok (ck : Int) (ca cb : Ex) (h : condErr ck ca cb = 0) : (1 ≤ ck ∧ ck ≤ 4) ∧ ca.Ok ∧ cb.Ok := by
  unfold condErr at h
  by_cases h1 : ck < 1 ∨ 4 < ck
  · rw [if_pos h1] at h; omega
  rw [if_neg h1] at h
  by_cases h2 : (ca.node 0).1 ≠ 0
  · rw [if_pos h2] at h; exact absurd h h2
  rw [if_neg h2] at h
  exact ⟨by omega, Ex.node_ok ca 0 (by simpa using h2), Ex.node_ok cb 0 h⟩

theorem prog_ok (k n : Int) (eN : Bool) (nE ck : Int) (aN bN : Bool) (nC : Int) (ly ll : Nat) (d : Int) (lk : Bool) (h : progErr k n eN nE ck aN bN nC ly ll d lk = 0) :
    (1 ≤ k ∧ k ≤ 7) ∧ (lowN k ≤ n ∧ n ≤ highN k) ∧ (valK k = true → nE = 0) ∧ (conK k = true → nC = 0) ∧ (othK k = false → ll = 0) := by
  unfold progErr at h
  by_cases h1 : k < 1 ∨ 8 ≤ k
  · rw [if_pos h1] at h; omega
  rw [if_neg h1] at h
  by_cases h2 : ¬ (lowN k ≤ n ∧ n ≤ highN k)
  · rw [if_pos h2] at h; omega
  rw [if_neg h2] at h
  by_cases h3 : moreS (valK k) (conK k) (innK k) (othK k) eN ck aN bN ly ll = true
  · rw [if_pos h3] at h; omega
  rw [if_neg h3] at h
  by_cases h4 : valK k = true ∧ nE ≠ 0
  · rw [if_pos h4] at h; exact absurd h h4.2
  rw [if_neg h4] at h
  by_cases h5 : conK k = true ∧ nC ≠ 0
  · rw [if_pos h5] at h; exact absurd h h5.2
  refine ⟨by omega, by simpa using h2, fun hv => ?_, fun hv => ?_, fun ho => ?_⟩
  · by_cases hz : nE = 0
    · exact hz
    · exact absurd ⟨hv, hz⟩ h4
  · by_cases hz : nC = 0
    · exact hz
    · exact absurd ⟨hv, hz⟩ h5
  · unfold moreS at h3
    rw [ho] at h3
    simp at h3
    omega

mutual
theorem St.chk_ok : ∀ (x : St) (ar : List (Int × Int)) (i : Int), (x.chk ar i).1 = 0 → x.Ok
  | .mk k n e ck ca cb b l, ar, i, h => by
    unfold St.chk at h
    by_cases h1 : (St.mk k n e ck ca cb b l).perr ar ≠ 0
    · rw [if_pos h1] at h; exact absurd h h1
    rw [if_neg h1] at h
    by_cases h2 : (St.chkAll b (ar ++ [(k, n)]) (i + 1)).1 ≠ 0
    · rw [if_pos h2] at h; exact absurd h h2
    rw [if_neg h2] at h
    have hp : progErr k n (exNone e.k e.n e.a.length) (e.node 0).1 ck (exNone ca.k ca.n ca.a.length) (exNone cb.k cb.n cb.a.length) (condErr ck ca cb) b.length l.length ar.length (decide ((6, n) ∈ ar)) = 0 := by simpa [St.perr] using h1
    obtain ⟨g1, g2, g3, g4, g5⟩ := prog_ok _ _ _ _ _ _ _ _ _ _ _ _ hp
    unfold St.Ok
    refine ⟨g1, fun hk => ?_, fun hk => ?_, fun hk => ?_, fun hk => ?_, fun hk => ?_, St.chkAll_ok b _ _ (by simpa using h2), St.chkAll_ok l _ _ h⟩
    · subst hk
      simp [lowN, highN] at g2
      exact ⟨g2.1, g2.2, Ex.node_ok e 0 (g3 (by simp [valK]))⟩
    · subst hk
      exact Ex.node_ok e 0 (g3 (by simp [valK]))
    · exact cond_ok ck ca cb (g4 (by rcases hk with rfl | rfl <;> simp [conK]))
    · rcases hk with rfl | rfl <;> (simp [lowN, highN] at g2; exact g2)
    · exact List.length_eq_zero_iff.1 (g5 (by simp [othK, hk]))
theorem St.chkAll_ok : ∀ (a : List St) (ar : List (Int × Int)) (i : Int), (St.chkAll a ar i).1 = 0 → St.OkAll a
  | [], ar, i, h => by unfold St.OkAll; trivial
  | x :: r, ar, i, h => by
    unfold St.chkAll at h
    by_cases hx : (x.chk ar i).1 ≠ 0
    · rw [if_pos hx] at h; exact absurd h hx
    rw [if_neg hx] at h
    unfold St.OkAll
    exact ⟨St.chk_ok x ar i (by simpa using hx), St.chkAll_ok r _ _ h⟩
end

/-- A body that is found right can be done. -/
theorem found_ok (a : List St) (h : (firstErr (St.flatAll a 0 []) 0).1 = 0) : St.OkAll a := by
  rw [chk_body] at h
  by_cases h1 : (St.chkAll a [] (-1)).1 ≠ 0
  · rw [if_pos h1] at h; exact absurd h h1
  · exact St.chkAll_ok a [] (-1) (by simpa using h1)
end Go.Proofs.YtikdidfgdiafoabDoor
