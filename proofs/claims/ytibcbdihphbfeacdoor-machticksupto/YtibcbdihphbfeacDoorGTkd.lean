import Derived.Test.YtibcbdihphbfeacDoorGTF
namespace Go.Proofs.YtibcbdihphbfeacDoor
open Go.ChangeShapes Go.WideShapes Go.ChangeAt Go.RowKit
theorem MR.base {mb : Nat} {a b : World} {sv pv sv' pv' : Value} (h : MR mb a b sv pv sv' pv') : MR mb a b sv pv sv pv := ⟨h.os, h.tape, h.output, h.size, h.block, .inl rfl, .inl rfl⟩
theorem StepSl.at' {w : World} {tr : List (Nat × Int)} {ta : Option Addr} {m c a : Nat} (h : StepSl w tr (.slice ta m c)) (ha : a < tr.length) : ∃ tb tof, ta = some ⟨tb, tof, none⟩ ∧ w.cell? ⟨tb, tof + a * 2, none⟩ = some (.int .i64 ((tr.getD a (0, 0)).1 : Int)) ∧ w.cell? ⟨tb, tof + a * 2 + 1, none⟩ = some (.int .i64 (tr.getD a (0, 0)).2) := by
 obtain ⟨ad, c', e, h0 | ⟨b, o, rfl, hc⟩⟩ := h
 ·rw [h0] at ha; simp at ha
 ·simp only [Value.slice.injEq] at e
  exact ⟨b, o, e.1, (hc a ha).1, (hc a ha).2⟩
theorem InSl.at' {w : World} {l : List In} {la : Option Addr} {m c a : Nat} (h : InSl w l (.slice la m c)) (ha : a < l.length) : ∃ lb lo, la = some ⟨lb, lo, none⟩ ∧ w.cell? ⟨lb, lo + a * 3, none⟩ = some (.int .i64 (l.getD a in0).op) ∧ w.cell? ⟨lb, lo + a * 3 + 1, none⟩ = some (.int .i64 (l.getD a in0).a) ∧ w.cell? ⟨lb, lo + a * 3 + 2, none⟩ = some (.int .i64 (l.getD a in0).b) := by
 obtain ⟨ad, c', e, h0 | ⟨b, o, rfl, hc⟩⟩ := h
 ·rw [h0] at ha; simp at ha
 ·simp only [Value.slice.injEq] at e
  exact ⟨b, o, e.1, hc a ha⟩
set_option maxRecDepth 20000 in
set_option maxHeartbeats 4000000 in
theorem ticked_any (w : World) (mb B : Nat) (l : List In) (M : Int → Option Int) (iv ov : Value) (ins vs : List Int) (n : Nat) (lad vad nad : Option Addr) (lc vc nc : Nat) (h : MM w mb B l iv ov ins 0 (ms0 vs) (.slice none 0 0) (.slice none 0 0)) (g : GoodI l M) (hk : KindsIn w) (hmb : 1 < mb) (hl : InSl w l (.slice lad l.length lc)) (hv : vs.length = 8) (hi : ins.length = 4) (hvs : IntSl w vs (.slice vad vs.length vc)) (hins : IntSl w ins (.slice nad ins.length nc)) (hn : n ≤ 1500)
  (hap : ∀ k, (l ≠ [] ∧ (Value.slice lad l.length lc).ownBlock = some k) ∨ (Value.slice vad 8 vc).ownBlock = some k ∨ (Value.slice nad 4 nc).ownBlock = some k → k ≠ mb) :
  Calls Tryd.prog 26 #[.pointer (some ⟨mb, 0, none⟩), (.slice lad l.length lc), (.slice vad 8 vc), (.slice nad 4 nc), .int .i64 (n : Int)] w fun r w' => r = .returned (.bool true) ∧ MR mb w w' (.slice none 0 0) (.slice none 0 0) (.slice none 0 0) (.slice none 0 0) := by
 have HN1 : Hid (((n : Int) + 1) = ((n + 1 : Nat) : Int)) := (by omega : ((n : Int) + 1) = ((n + 1 : Nat) : Int))
 have hwn : IntKind.i64.wrap ((n : Int) + 1) = (n : Int) + 1 := by rw [IntKind.wrap_i64]; omega
 have HK : Hid (MM w mb B l iv ov ins 0 (ms0 vs) (.slice none 0 0) (.slice none 0 0) ∧ GoodI l M ∧ KindsIn w ∧ InSl w l (.slice lad l.length lc) ∧ IntSl w vs (.slice vad vs.length vc) ∧ IntSl w ins (.slice nad ins.length nc) ∧ (∀ k, (l ≠ [] ∧ (Value.slice lad l.length lc).ownBlock = some k) ∨ (Value.slice vad 8 vc).ownBlock = some k ∨ (Value.slice nad 4 nc).ownBlock = some k → k ≠ mb)) := ⟨h, g, hk, hl, hvs, hins, hap⟩
 clear h g hk hl hvs hins hap
 go_enter Tryd.func26, Tryd.ntmps26
 go_wp2_with (go_at_call 41; rw [HN1.out]; refine (Steps_any w l M _ _ _ _ _ _ vs ins (n + 1) HK.out.2.1 HK.out.2.2.2.1 hv hi HK.out.2.2.2.2.1 HK.out.2.2.2.2.2.1 (by omega)).mono ?_; rintro r w0 ⟨hb0, u, q, tv, rfl, h1, h2, h3, h4⟩; obtain ⟨ua, uc, rfl, -⟩ := h1; obtain ⟨qa, qc, rfl, -⟩ := h2; have H0 : Hid (Below w.heap.size w w0 ∧ StepSl w0 (traceF l ins (n + 1) (ms0 vs)) tv ∧ ∀ k, tv.ownBlock = some k → w.heap.size ≤ k) := ⟨hb0, h3, h4.2.2⟩; obtain ⟨ta, tc, rfl, -⟩ := h3; generalize (lastF l ins (n + 1) (ms0 vs) 0).1.vs.length = un at *; generalize (lastF l ins (n + 1) (ms0 vs) 0).1.ps.length = qn at *; generalize (lastF l ins (n + 1) (ms0 vs) 0).2 = ut at *; generalize decide ((lastF l ins (n + 1) (ms0 vs) 0).1.pc = l.length) = so at *; clear hb0 h4)
 have HF : Hid (TF (w0.alloc (.cells #[.slice ua un uc, .slice qa qn qc, .int .i64 ut] 27)) mb l M ins vs n (.slice lad l.length lc) (.slice vad 8 vc) (.slice nad 4 nc) (.slice ta (traceF l ins (n + 1) (ms0 vs)).length tc)) := by
  have b1 := below_seq H0.out.1 (below_new w0 (.cells #[.slice ua un uc, .slice qa qn qc, .int .i64 ut] 27))
  exact ⟨HK.out.2.2.1.below b1, HK.out.2.1, HK.out.2.2.2.1.below b1, by rw [← hv]; exact HK.out.2.2.2.2.1.below b1, by rw [← hi]; exact HK.out.2.2.2.2.2.1.below b1, H0.out.2.1.keep (fun k hk _ => (below_new w0 _).block k hk), fun k hk => by rcases hk with hk | hk | hk | hk; exact HK.out.2.2.2.2.2.2 k (.inl hk); exact HK.out.2.2.2.2.2.2 k (.inr (.inl hk)); exact HK.out.2.2.2.2.2.2 k (.inr (.inr hk)); have := H0.out.2.2 k hk; have := HK.out.1.lt; omega, hmb, by have := HK.out.1.lt; have := b1.size; omega⟩
 have H1 : Hid (TI (w0.alloc (.cells #[.slice ua un uc, .slice qa qn qc, .int .i64 ut] 27)) (w0.alloc (.cells #[.slice ua un uc, .slice qa qn qc, .int .i64 ut] 27)) mb B l M iv ov ins vs n 0 0 0 (.slice none 0 0) (.slice none 0 0) ∧ Below w.heap.size w (w0.alloc (.cells #[.slice ua un uc, .slice qa qn qc, .int .i64 ut] 27))) := by
  have b1 := below_seq H0.out.1 (below_new w0 (.cells #[.slice ua un uc, .slice qa qn qc, .int .i64 ut] 27))
  refine ⟨⟨HK.out.1.grow b1, MR.refl _ _ _ _, MI.start HK.out.2.1 hv, Nat.zero_le _, Nat.le_refl _, Nat.zero_le _, fun q => ?_, fun _ => rfl⟩, b1⟩
  obtain ⟨q1, -, -⟩ := trace_nth l ins 0 (n + 1) (ms0 vs) 0 q
  have := (cost_le (HK.out.2.1.form _ (by have := (MI.start HK.out.2.1 hv).pc; have q2 : (ms0 vs).pc ≠ l.length := q1; omega : (ms0 vs).pc < l.length)) (overI (atI l (ms0 vs)) (ms0 vs))).1
  show ((0 : Nat) : Int) < costI (atI l (ms0 vs)) (overI (atI l (ms0 vs)) (ms0 vs))
  unfold atI at this ⊢
  omega
 clear H0 HK
 generalize (w0.alloc (.cells #[.slice ua un uc, .slice qa qn qc, .int .i64 ut] 27)) = w1 at *
 go_wp2_with fail
 go_loopw [14, 15, 36] (fun x y z wr => ∃ (j a p : Nat) (sv pv : Value), j ≤ n ∧ x = .int .i64 a ∧ y = .int .i64 p ∧ z = .int .i64 j ∧ TI w1 wr mb B l M iv ov ins vs n j a p sv pv) (fun _ _ z _ => n - (intOf z).toNat)
 case atStart => exact ⟨0, 0, 0, _, _, Nat.zero_le _, rfl, rfl, rfl, H1.out.1⟩
 case round =>
  obtain ⟨j, a, p, sv, pv, hj, rfl, rfl, rfl, hti⟩ := hrel
  have HT : Hid (TI w1 wr mb B l M iv ov ins vs n j a p sv pv) := hti
  clear hti
  by_cases hlt : j < n
  ·have hjn : (j : Int) < (n : Int) := by omega
   by_cases hend : a = (traceF l ins (n + 1) (ms0 vs)).length
   ·have hpe : (lastF l ins a (ms0 vs) 0).1.pc = l.length := by rw [hend]; exact (trace_len l ins (n + 1) (ms0 vs) 0).2 (by have := HT.out.le; omega)
    have hai : ((a : Int) == ((traceF l ins (n + 1) (ms0 vs)).length : Int)) = true := by simp; omega
    have hdn : decide ((lastF l ins a (ms0 vs) 0).1.pc = l.length) = true := by simpa using hpe
    generalize (traceF l ins (n + 1) (ms0 vs)).length = trl at *
    clear hend hpe
    go_wp2_with (first | (go_at_call 20; refine (Tick_over wr mb B l iv ov ins _ _ sv pv HT.out.mm (by simpa using hdn)).mono ?_; rintro r w2 ⟨rfl, hb2⟩; have H2 : Hid (TI w1 (w2.alloc (.cells #[.int .i64 0, .int .i64 0, .int .i64 0] 35)) mb B l M iv ov ins vs n j a p sv pv) := (HT.out.grow hb2).grow (below_new _ _); clear hb2) | (go_at_call 22; refine (Done_any _ mb B l iv ov ins _ _ sv pv H2.out.mm).mono ?_; rw [hdn]; rintro r w3 ⟨rfl, hb3⟩; have H3 : Hid (TI w1 w3 mb B l M iv ov ins vs n j a p sv pv) := H2.out.grow hb3; obtain ⟨c1, f1, l1⟩ := cells_of (l := [_, _, _]) ((hb3.block w2.heap.size (by simp)).trans (heap_alloc_new w2 (.cells #[.int .i64 0, .int .i64 0, .int .i64 0] 35))); have c10 := c1 0 _ rfl; have c11 := c1 1 _ rfl; have c12 := c1 2 _ rfl; clear c1 hb3))
    go_roundw
    case rel => exact ⟨j + 1, a, p, sv, pv, by omega, rfl, rfl, by go_num, H3.out.later⟩
    case measure => simp [intOf]; omega
   ·have hne := hend
    clear hend
    have ha : a < (traceF l ins (n + 1) (ms0 vs)).length := by have := HT.out.tr; omega
    obtain ⟨t1, t2, t3⟩ := trace_nth l ins a (n + 1) (ms0 vs) 0 ha
    obtain ⟨tb, tof, hta, s1, s2⟩ := (HF.out.now HT.out).2.2.2.2.at' ha
    subst hta
    have hpl : (lastF l ins a (ms0 vs) 0).1.pc < l.length := by have := HT.out.mi.pc; omega
    have hai : ((a : Int) == ((traceF l ins (n + 1) (ms0 vs)).length : Int)) = false := by simp; omega
    have hal : (a : Int) < ((traceF l ins (n + 1) (ms0 vs)).length : Int) := by omega
    have hdn : decide ((lastF l ins a (ms0 vs) 0).1.pc = l.length) = false := by simpa using t1
    rw [t2] at s1 s2
    dsimp only at s1 s2
    obtain ⟨lb, lo, hla, i0, i1, i2⟩ := (HF.out.now HT.out).2.1.at' hpl
    subst hla
    have hli := HF.out.good.len
    have hcz : 1 ≤ costI (atI l (lastF l ins a (ms0 vs) 0).1) (overI (atI l (lastF l ins a (ms0 vs) 0).1) (lastF l ins a (ms0 vs) 0).1) ∧ costI (atI l (lastF l ins a (ms0 vs) 0).1) (overI (atI l (lastF l ins a (ms0 vs) 0).1) (lastF l ins a (ms0 vs) 0).1) ≤ 1000 := cost_le (HF.out.good.form _ hpl) (overI (atI l (lastF l ins a (ms0 vs) 0).1) (lastF l ins a (ms0 vs) 0).1)
    have hsp := HT.out.pa ha
    have HTk := HT.out.mm
    have hpl' : ((lastF l ins a (ms0 vs) 0).1.pc : Int) < (l.length : Int) := by omega
    have HQ : Hid (a < (traceF l ins (n + 1) (ms0 vs)).length ∧ (lastF l ins a (ms0 vs) 0).1.pc < l.length ∧ (traceF l ins (n + 1) (ms0 vs)).getD a (0, 0) = ((lastF l ins a (ms0 vs) 0).1.pc, costI (atI l (lastF l ins a (ms0 vs) 0).1) (overI (atI l (lastF l ins a (ms0 vs) 0).1) (lastF l ins a (ms0 vs) 0).1))) := ⟨ha, hpl, t2⟩
    clear t1 t2 t3 HTk hpl
    have hps := HT.out.ps
    have hja := HT.out.le
    generalize hpc : (lastF l ins a (ms0 vs) 0).1.pc = pc at *
    generalize hco : costI (atI l (lastF l ins a (ms0 vs) 0).1) (overI (atI l (lastF l ins a (ms0 vs) 0).1) (lastF l ins a (ms0 vs) 0).1) = cz at *
    rcases hx : l.getD pc in0 with ⟨xo, xa, xb⟩
    rw [hx] at i0 i1 i2
    dsimp only at i0 i1 i2
    have HC : Hid ((lastF l ins a (ms0 vs) 0).1.pc = pc ∧ costI (atI l (lastF l ins a (ms0 vs) 0).1) (overI (atI l (lastF l ins a (ms0 vs) 0).1) (lastF l ins a (ms0 vs) 0).1) = cz ∧ l.getD pc in0 = ⟨xo, xa, xb⟩) := ⟨hpc, hco, hx⟩
    clear hpc hco hx ha hne
    generalize htl : (traceF l ins (n + 1) (ms0 vs)).length = trl at *
    have HL : Hid ((traceF l ins (n + 1) (ms0 vs)).length = trl) := htl
    clear htl
    go_wp2_with fail
    refine wp_region_noPanic ?_
    refine wp_region_held_drew (S := fun w' => w'.cell? ⟨tb, tof + a * 2, none⟩ = some (.int .i64 (pc : Int))) (by kernel_rfl) (show wr.drew.cell? ⟨tb, tof + a * 2, none⟩ = some (.int .i64 (pc : Int)) from s1) (fun hHeld => ?_)
    refine take_at (i := 0) (n := 58) (v := ?_) rfl rfl (by kernel_rfl) (by kernel_rfl) (by kernel_rfl) (fun _ _ _ h => h) (Or.inl ⟨by rfl, ?_⟩) (by assumption) ?_
    rotate_left 1
    ·intro wz hSw
     first | (go_simp; done) | (go_simp; with_reducible rfl)
    simp only [List.set_cons_zero, List.set_cons_succ]
    refine wpAnyH_ready (rs := [1]) (by kernel_rfl) (by simp) ?_
    refine AllReadyH.cons rfl (fun K hK => ?_) AllReadyH.nil
    go_simp
    have HTd : Hid (TI w1 wr.drew mb B l M iv ov ins vs n j a p sv pv) := HT.out.grow (Below.refl _ _).drew
    refine (Done_any _ mb B l iv ov ins _ _ sv pv HTd.out.mm).mono ?_
    rw [HC.out.1, hdn]
    rintro r w2 ⟨rfl, hb2⟩
    have H2 : Hid (TI w1 w2 mb B l M iv ov ins vs n j a p sv pv) := HTd.out.grow hb2
    have hS2 : w2.cell? ⟨tb, tof + a * 2, none⟩ = some (.int .i64 (pc : Int)) := below_cell hb2 s1
    clear hb2
    refine hK.out _ _ hS2 (fun hHeld => ?_)
    clear hK K
    refine take_at (i := 2) (n := 60) (v := ?_) rfl rfl (by kernel_rfl) (by kernel_rfl) (by kernel_rfl) (fun _ _ _ h => h) (Or.inl ⟨by rfl, ?_⟩) (by assumption) ?_
    rotate_left 1
    ·intro wz hSw
     first | (go_simp; done) | (go_simp; with_reducible rfl)
    simp only [List.set_cons_zero, List.set_cons_succ]
    refine take_at (i := 3) (n := 61) (v := ?_) rfl rfl (by kernel_rfl) (by kernel_rfl) (by kernel_rfl) (fun _ _ _ h => h) (Or.inl ⟨by rfl, ?_⟩) (by assumption) ?_
    rotate_left 1
    ·intro wz hSw
     first | (go_simp; done) | (go_simp; with_reducible rfl)
    simp only [List.set_cons_zero, List.set_cons_succ]
    refine take_at (i := 5) (n := 63) (v := ?_) rfl rfl (by kernel_rfl) (by kernel_rfl) (by kernel_rfl) (fun _ _ _ h => h) (Or.inl ⟨by rfl, ?_⟩) (by assumption) ?_
    rotate_left 1
    ·intro wz hSw
     first | (go_simp; done) | (go_simp; with_reducible rfl)
    simp only [List.set_cons_zero, List.set_cons_succ]
    refine take_at (i := 6) (n := 64) (v := ?_) rfl rfl (by kernel_rfl) (by kernel_rfl) (by kernel_rfl) (fun _ _ _ h => h) (Or.inl ⟨by rfl, ?_⟩) (by assumption) ?_
    rotate_left 1
    ·intro wz hSw
     first | (go_simp; done) | (go_simp; with_reducible rfl)
    simp only [List.set_cons_zero, List.set_cons_succ]
    refine take_at (i := 7) (n := 65) (v := ?_) rfl rfl (by kernel_rfl) (by kernel_rfl) (by kernel_rfl) (fun _ _ _ h => h) (Or.inl ⟨by rfl, ?_⟩) (by assumption) ?_
    rotate_left 1
    ·intro wz hSw
     first | (go_simp; done) | (go_simp; with_reducible rfl)
    simp only [List.set_cons_zero, List.set_cons_succ]
    refine take_at (i := 8) (n := 66) (v := ?_) rfl rfl (by kernel_rfl) (by kernel_rfl) (by kernel_rfl) (fun _ _ _ h => h) (Or.inl ⟨by rfl, ?_⟩) (by assumption) ?_
    rotate_left 1
    ·intro wz hSw
     first | (go_simp; done) | (go_simp; with_reducible rfl)
    simp only [List.set_cons_zero, List.set_cons_succ]
    refine take_at (i := 9) (n := 67) (v := ?_) rfl rfl (by kernel_rfl) (by kernel_rfl) (by kernel_rfl) (fun _ _ _ h => h) (Or.inl ⟨by rfl, ?_⟩) (by assumption) ?_
    rotate_left 1
    ·intro wz hSw
     first | (go_simp; done) | (go_simp; with_reducible rfl)
    simp only [List.set_cons_zero, List.set_cons_succ]
    refine wpAnyH_ready (rs := [4]) (by kernel_rfl) (by simp) ?_
    refine AllReadyH.cons rfl (fun K hK => ?_) AllReadyH.nil
    go_simp
    refine (At_any _ mb B l iv ov ins _ _ sv pv H2.out.mm).mono ?_
    rw [HC.out.1]
    rintro r w3 ⟨rfl, rfl⟩
    refine hK.out _ _ hS2 (fun hHeld => ?_)
    clear hK K
    refine take_at (i := 10) (n := 68) (v := ?_) rfl rfl (by kernel_rfl) (by kernel_rfl) (by kernel_rfl) (fun _ _ _ h => h) (Or.inl ⟨by rfl, ?_⟩) (by assumption) ?_
    rotate_left 1
    ·intro wz hSw
     first | (go_simp; done) | (go_simp; with_reducible rfl)
    simp only [List.set_cons_zero, List.set_cons_succ]
    refine take_at (i := 11) (n := 69) (v := ?_) rfl rfl (by kernel_rfl) (by kernel_rfl) (by kernel_rfl) (fun _ _ _ h => h) (Or.inl ⟨by rfl, ?_⟩) (by assumption) ?_
    rotate_left 1
    ·intro wz hSw
     first | (go_simp; done) | (go_simp; with_reducible rfl)
    simp only [List.set_cons_zero, List.set_cons_succ]
    refine wpAnyH_done (by kernel_rfl) ?_ _
    refine NoPanic.normal ?_
    by_cases hw : (p : Int) + 1 = cz
    ·have hcb : ((p : Int) + 1 == cz) = true := by simpa using hw
     have hdd : decide ((p : Int) + 1 = cz) = true := by simpa using hw
     have hwp : IntKind.i64.wrap ((p : Int) + 1) = (p : Int) + 1 := by rw [IntKind.wrap_i64]; omega
     clear hS2 s1 s2 i0 i1 i2 hHeld
     go_wp2_with (go_at_call 20; refine (Tick_go _ mb B l M iv ov ins _ _ sv pv H2.out.mm HF.out.good H2.out.mi (HF.out.now H2.out).1 HF.out.mb1 (by rw [HC.out.1]; omega) (by omega) (by omega)).mono ?_; intro r w4 ht; obtain ⟨sv4, pv4, wh, rfl, hwh, hti⟩ := H2.out.tick HF.out.good (by rw [HL.out]; exact HQ.out.1) ht; rw [HQ.out.2.2] at hwh ⊢; dsimp only at hwh ⊢; rw [hdd] at hwh; subst hwh; rw [HC.out.2.2]; unfold In.val; have H4 : Hid (TI w1 (w4.alloc (.cells #[.int .i64 xo, .int .i64 xa, .int .i64 xb] 35)) mb B l M iv ov ins vs n (j + 1) (if true = true then a + 1 else a) (if true = true then 0 else p + 1) sv4 pv4) := hti.grow (below_new _ _); clear hti ht)
     obtain ⟨tb', tof', hta', s1, s2⟩ := (HF.out.now H4.out).2.2.2.2.at' (by rw [HL.out]; exact HQ.out.1)
     simp only [Option.some.injEq, Addr.mk.injEq, and_true] at hta'
     obtain ⟨rfl, rfl⟩ := hta'
     rw [HQ.out.2.2] at s1 s2
     dsimp only at s1 s2
     obtain ⟨lb', lo', hla', i0, i1, i2⟩ := (HF.out.now H4.out).2.1.at' HQ.out.2.1
     simp only [Option.some.injEq, Addr.mk.injEq, and_true] at hla'
     obtain ⟨rfl, rfl⟩ := hla'
     rw [HC.out.2.2] at i0 i1 i2
     dsimp only at i0 i1 i2
     obtain ⟨cx, -, lx⟩ := cells_of (l := [_, _, _]) (heap_alloc_new w4 (.cells #[.int .i64 xo, .int .i64 xa, .int .i64 xb] 35))
     have x0 := cx 0 _ rfl
     have x1 := cx 1 _ rfl
     have x2 := cx 2 _ rfl
     clear cx
     generalize hw5 : (w4.alloc (.cells #[.int .i64 xo, .int .i64 xa, .int .i64 xb] 35)) = w5 at *
     generalize hg : w4.heap.size = xg at *
     clear hw5 hg
     refine wp_region_noPanic ?_
     refine wp_region_held_drew (S := fun w' => w'.cell? ⟨tb, tof + a * 2, none⟩ = some (.int .i64 (pc : Int)) ∧ w'.cell? ⟨tb, tof + a * 2 + 1, none⟩ = some (.int .i64 cz) ∧ w'.cell? ⟨lb, lo + pc * 3, none⟩ = some (.int .i64 xo) ∧ w'.cell? ⟨lb, lo + pc * 3 + 1, none⟩ = some (.int .i64 xa) ∧ w'.cell? ⟨lb, lo + pc * 3 + 2, none⟩ = some (.int .i64 xb) ∧ w'.cell? ⟨xg, 0, none⟩ = some (.int .i64 xo) ∧ w'.cell? ⟨xg, 1, none⟩ = some (.int .i64 xa) ∧ w'.cell? ⟨xg, 2, none⟩ = some (.int .i64 xb)) (by kernel_rfl) (show w5.drew.cell? ⟨tb, tof + a * 2, none⟩ = some (.int .i64 (pc : Int)) ∧ w5.drew.cell? ⟨tb, tof + a * 2 + 1, none⟩ = some (.int .i64 cz) ∧ w5.drew.cell? ⟨lb, lo + pc * 3, none⟩ = some (.int .i64 xo) ∧ w5.drew.cell? ⟨lb, lo + pc * 3 + 1, none⟩ = some (.int .i64 xa) ∧ w5.drew.cell? ⟨lb, lo + pc * 3 + 2, none⟩ = some (.int .i64 xb) ∧ w5.drew.cell? ⟨xg, 0, none⟩ = some (.int .i64 xo) ∧ w5.drew.cell? ⟨xg, 1, none⟩ = some (.int .i64 xa) ∧ w5.drew.cell? ⟨xg, 2, none⟩ = some (.int .i64 xb) from ⟨s1, s2, i0, i1, i2, x0, x1, x2⟩) (fun hHeld => ?_)
     refine take_at (i := 0) (n := 77) (v := ?_) rfl rfl (by kernel_rfl) (by kernel_rfl) (by kernel_rfl) (fun _ _ _ h => h) (Or.inl ⟨by rfl, ?_⟩) (by assumption) ?_
     rotate_left 1
     ·intro wz hSw
      first | (go_simp; done) | (go_simp; with_reducible rfl)
     simp only [List.set_cons_zero, List.set_cons_succ]
     refine take_at (i := 1) (n := 78) (v := ?_) rfl rfl (by kernel_rfl) (by kernel_rfl) (by kernel_rfl) (fun _ _ _ h => h) (Or.inl ⟨by rfl, ?_⟩) (by assumption) ?_
     rotate_left 1
     ·intro wz hSw
      first | (go_simp; done) | (go_simp; with_reducible rfl)
     simp only [List.set_cons_zero, List.set_cons_succ]
     refine take_at (i := 2) (n := 79) (v := ?_) rfl rfl (by kernel_rfl) (by kernel_rfl) (by kernel_rfl) (fun _ _ _ h => h) (Or.inl ⟨by rfl, ?_⟩) (by assumption) ?_
     rotate_left 1
     ·intro wz hSw
      first | (go_simp; done) | (go_simp; with_reducible rfl)
     simp only [List.set_cons_zero, List.set_cons_succ]
     refine take_at (i := 3) (n := 80) (v := ?_) rfl rfl (by kernel_rfl) (by kernel_rfl) (by kernel_rfl) (fun _ _ _ h => h) (Or.inl ⟨by rfl, ?_⟩) (by assumption) ?_
     rotate_left 1
     ·intro wz hSw
      first | (go_simp; done) | (go_simp; with_reducible rfl)
     simp only [List.set_cons_zero, List.set_cons_succ]
     refine take_at (i := 4) (n := 81) (v := ?_) rfl rfl (by kernel_rfl) (by kernel_rfl) (by kernel_rfl) (fun _ _ _ h => h) (Or.inl ⟨by rfl, ?_⟩) (by assumption) ?_
     rotate_left 1
     ·intro wz hSw
      first | (go_simp; done) | (go_simp; with_reducible rfl)
     simp only [List.set_cons_zero, List.set_cons_succ]
     refine take_at (i := 5) (n := 82) (v := ?_) rfl rfl (by kernel_rfl) (by kernel_rfl) (by kernel_rfl) (fun _ _ _ h => h) (Or.inl ⟨by rfl, ?_⟩) (by assumption) ?_
     rotate_left 1
     ·intro wz hSw
      first | (go_simp; done) | (go_simp; with_reducible rfl)
     simp only [List.set_cons_zero, List.set_cons_succ]
     refine take_at (i := 6) (n := 83) (v := ?_) rfl rfl (by kernel_rfl) (by kernel_rfl) (by kernel_rfl) (fun _ _ _ h => h) (Or.inl ⟨by rfl, ?_⟩) (by assumption) ?_
     rotate_left 1
     ·intro wz hSw
      first | (go_simp; done) | (go_simp; with_reducible rfl)
     simp only [List.set_cons_zero, List.set_cons_succ]
     refine take_at (i := 7) (n := 84) (v := ?_) rfl rfl (by kernel_rfl) (by kernel_rfl) (by kernel_rfl) (fun _ _ _ h => h) (Or.inl ⟨by rfl, ?_⟩) (by assumption) ?_
     rotate_left 1
     ·intro wz hSw
      first | (go_simp; done) | (go_simp; with_reducible rfl)
     simp only [List.set_cons_zero, List.set_cons_succ]
     refine take_at (i := 8) (n := 85) (v := ?_) rfl rfl (by kernel_rfl) (by kernel_rfl) (by kernel_rfl) (fun _ _ _ h => h) (Or.inl ⟨by rfl, ?_⟩) (by assumption) ?_
     rotate_left 1
     ·intro wz hSw
      first | (go_simp; done) | (go_simp; with_reducible rfl)
     simp only [List.set_cons_zero, List.set_cons_succ]
     refine take_at (i := 9) (n := 86) (v := ?_) rfl rfl (by kernel_rfl) (by kernel_rfl) (by kernel_rfl) (fun _ _ _ h => h) (Or.inl ⟨by rfl, ?_⟩) (by assumption) ?_
     rotate_left 1
     ·intro wz hSw
      first | (go_simp; done) | (go_simp; with_reducible rfl)
     simp only [List.set_cons_zero, List.set_cons_succ]
     refine take_at (i := 10) (n := 87) (v := ?_) rfl rfl (by kernel_rfl) (by kernel_rfl) (by kernel_rfl) (fun _ _ _ h => h) (Or.inl ⟨by rfl, ?_⟩) (by assumption) ?_
     rotate_left 1
     ·intro wz hSw
      first | (go_simp; done) | (go_simp; with_reducible rfl)
     simp only [List.set_cons_zero, List.set_cons_succ]
     refine take_at (i := 11) (n := 88) (v := ?_) rfl rfl (by kernel_rfl) (by kernel_rfl) (by kernel_rfl) (fun _ _ _ h => h) (Or.inl ⟨by rfl, ?_⟩) (by assumption) ?_
     rotate_left 1
     ·intro wz hSw
      first | (go_simp; done) | (go_simp; with_reducible rfl)
     simp only [List.set_cons_zero, List.set_cons_succ]
     refine take_at (i := 12) (n := 89) (v := ?_) rfl rfl (by kernel_rfl) (by kernel_rfl) (by kernel_rfl) (fun _ _ _ h => h) (Or.inl ⟨by rfl, ?_⟩) (by assumption) ?_
     rotate_left 1
     ·intro wz hSw
      first | (go_simp; done) | (go_simp; with_reducible rfl)
     simp only [List.set_cons_zero, List.set_cons_succ]
     refine take_at (i := 13) (n := 90) (v := ?_) rfl rfl (by kernel_rfl) (by kernel_rfl) (by kernel_rfl) (fun _ _ _ h => h) (Or.inl ⟨by rfl, ?_⟩) (by assumption) ?_
     rotate_left 1
     ·intro wz hSw
      first | (go_simp; done) | (go_simp; with_reducible rfl)
     simp only [List.set_cons_zero, List.set_cons_succ]
     refine take_at (i := 14) (n := 91) (v := ?_) rfl rfl (by kernel_rfl) (by kernel_rfl) (by kernel_rfl) (fun _ _ _ h => h) (Or.inl ⟨by rfl, ?_⟩) (by assumption) ?_
     rotate_left 1
     ·intro wz hSw
      first | (go_simp; done) | (go_simp; with_reducible rfl)
     simp only [List.set_cons_zero, List.set_cons_succ]
     refine take_at (i := 15) (n := 92) (v := ?_) rfl rfl (by kernel_rfl) (by kernel_rfl) (by kernel_rfl) (fun _ _ _ h => h) (Or.inl ⟨by rfl, ?_⟩) (by assumption) ?_
     rotate_left 1
     ·intro wz hSw
      first | (go_simp; done) | (go_simp; with_reducible rfl)
     simp only [List.set_cons_zero, List.set_cons_succ]
     refine take_at (i := 16) (n := 93) (v := ?_) rfl rfl (by kernel_rfl) (by kernel_rfl) (by kernel_rfl) (fun _ _ _ h => h) (Or.inl ⟨by rfl, ?_⟩) (by assumption) ?_
     rotate_left 1
     ·intro wz hSw
      first | (go_simp; done) | (go_simp; with_reducible rfl)
     simp only [List.set_cons_zero, List.set_cons_succ]
     refine take_at (i := 17) (n := 94) (v := ?_) rfl rfl (by kernel_rfl) (by kernel_rfl) (by kernel_rfl) (fun _ _ _ h => h) (Or.inl ⟨by rfl, ?_⟩) (by assumption) ?_
     rotate_left 1
     ·intro wz hSw
      first | (go_simp; done) | (go_simp; with_reducible rfl)
     simp only [List.set_cons_zero, List.set_cons_succ]
     refine take_at (i := 18) (n := 95) (v := ?_) rfl rfl (by kernel_rfl) (by kernel_rfl) (by kernel_rfl) (fun _ _ _ h => h) (Or.inl ⟨by rfl, ?_⟩) (by assumption) ?_
     rotate_left 1
     ·intro wz hSw
      first | (go_simp; done) | (go_simp; with_reducible rfl)
     simp only [List.set_cons_zero, List.set_cons_succ]
     refine take_at (i := 19) (n := 96) (v := ?_) rfl rfl (by kernel_rfl) (by kernel_rfl) (by kernel_rfl) (fun _ _ _ h => h) (Or.inl ⟨by rfl, ?_⟩) (by assumption) ?_
     rotate_left 1
     ·intro wz hSw
      first | (go_simp; done) | (go_simp; with_reducible rfl)
     simp only [List.set_cons_zero, List.set_cons_succ]
     refine take_at (i := 20) (n := 97) (v := ?_) rfl rfl (by kernel_rfl) (by kernel_rfl) (by kernel_rfl) (fun _ _ _ h => h) (Or.inl ⟨by rfl, ?_⟩) (by assumption) ?_
     rotate_left 1
     ·intro wz hSw
      first | (go_simp; done) | (go_simp; with_reducible rfl)
     simp only [List.set_cons_zero, List.set_cons_succ]
     refine wpAnyH_done (by kernel_rfl) ?_ _
     refine NoPanic.normal ?_
     have H5 : Hid (TI w1 w5.drew mb B l M iv ov ins vs n (j + 1) (a + 1) 0 sv4 pv4) := H4.out.grow (Below.refl _ _).drew
     go_wp2_with fail
     go_roundw
     case rel => exact ⟨j + 1, a + 1, 0, sv4, pv4, by omega, by go_num, rfl, by go_num, H5.out⟩
     case measure => simp [intOf]; omega
    ·have hcb : ((p : Int) + 1 == cz) = false := by simpa using hw
     have hdd : decide ((p : Int) + 1 = cz) = false := by simpa using hw
     have hwp : IntKind.i64.wrap ((p : Int) + 1) = (p : Int) + 1 := by rw [IntKind.wrap_i64]; omega
     clear hS2 s1 s2 i0 i1 i2 hHeld
     go_wp2_with (go_at_call 20; refine (Tick_go _ mb B l M iv ov ins _ _ sv pv H2.out.mm HF.out.good H2.out.mi (HF.out.now H2.out).1 HF.out.mb1 (by rw [HC.out.1]; omega) (by omega) (by omega)).mono ?_; intro r w4 ht; obtain ⟨sv4, pv4, wh, rfl, hwh, hti⟩ := H2.out.tick HF.out.good (by rw [HL.out]; exact HQ.out.1) ht; rw [HQ.out.2.2] at hwh ⊢; dsimp only at hwh ⊢; rw [hdd] at hwh; subst hwh; rw [HC.out.2.2]; unfold In.val; have H4 : Hid (TI w1 (w4.alloc (.cells #[.int .i64 xo, .int .i64 xa, .int .i64 xb] 35)) mb B l M iv ov ins vs n (j + 1) (if false = true then a + 1 else a) (if false = true then 0 else p + 1) sv4 pv4) := hti.grow (below_new _ _); clear hti ht)
     obtain ⟨tb', tof', hta', s1, s2⟩ := (HF.out.now H4.out).2.2.2.2.at' (by rw [HL.out]; exact HQ.out.1)
     simp only [Option.some.injEq, Addr.mk.injEq, and_true] at hta'
     obtain ⟨rfl, rfl⟩ := hta'
     rw [HQ.out.2.2] at s1 s2
     dsimp only at s1 s2
     obtain ⟨lb', lo', hla', i0, i1, i2⟩ := (HF.out.now H4.out).2.1.at' HQ.out.2.1
     simp only [Option.some.injEq, Addr.mk.injEq, and_true] at hla'
     obtain ⟨rfl, rfl⟩ := hla'
     rw [HC.out.2.2] at i0 i1 i2
     dsimp only at i0 i1 i2
     obtain ⟨cx, -, lx⟩ := cells_of (l := [_, _, _]) (heap_alloc_new w4 (.cells #[.int .i64 xo, .int .i64 xa, .int .i64 xb] 35))
     have x0 := cx 0 _ rfl
     have x1 := cx 1 _ rfl
     have x2 := cx 2 _ rfl
     clear cx
     generalize hw5 : (w4.alloc (.cells #[.int .i64 xo, .int .i64 xa, .int .i64 xb] 35)) = w5 at *
     generalize hg : w4.heap.size = xg at *
     clear hw5 hg
     refine wp_region_noPanic ?_
     refine wp_region_held_drew (S := fun w' => w'.cell? ⟨tb, tof + a * 2, none⟩ = some (.int .i64 (pc : Int)) ∧ w'.cell? ⟨tb, tof + a * 2 + 1, none⟩ = some (.int .i64 cz) ∧ w'.cell? ⟨lb, lo + pc * 3, none⟩ = some (.int .i64 xo) ∧ w'.cell? ⟨lb, lo + pc * 3 + 1, none⟩ = some (.int .i64 xa) ∧ w'.cell? ⟨lb, lo + pc * 3 + 2, none⟩ = some (.int .i64 xb) ∧ w'.cell? ⟨xg, 0, none⟩ = some (.int .i64 xo) ∧ w'.cell? ⟨xg, 1, none⟩ = some (.int .i64 xa) ∧ w'.cell? ⟨xg, 2, none⟩ = some (.int .i64 xb)) (by kernel_rfl) (show w5.drew.cell? ⟨tb, tof + a * 2, none⟩ = some (.int .i64 (pc : Int)) ∧ w5.drew.cell? ⟨tb, tof + a * 2 + 1, none⟩ = some (.int .i64 cz) ∧ w5.drew.cell? ⟨lb, lo + pc * 3, none⟩ = some (.int .i64 xo) ∧ w5.drew.cell? ⟨lb, lo + pc * 3 + 1, none⟩ = some (.int .i64 xa) ∧ w5.drew.cell? ⟨lb, lo + pc * 3 + 2, none⟩ = some (.int .i64 xb) ∧ w5.drew.cell? ⟨xg, 0, none⟩ = some (.int .i64 xo) ∧ w5.drew.cell? ⟨xg, 1, none⟩ = some (.int .i64 xa) ∧ w5.drew.cell? ⟨xg, 2, none⟩ = some (.int .i64 xb) from ⟨s1, s2, i0, i1, i2, x0, x1, x2⟩) (fun hHeld => ?_)
     refine take_at (i := 0) (n := 77) (v := ?_) rfl rfl (by kernel_rfl) (by kernel_rfl) (by kernel_rfl) (fun _ _ _ h => h) (Or.inl ⟨by rfl, ?_⟩) (by assumption) ?_
     rotate_left 1
     ·intro wz hSw
      first | (go_simp; done) | (go_simp; with_reducible rfl)
     simp only [List.set_cons_zero, List.set_cons_succ]
     refine take_at (i := 1) (n := 78) (v := ?_) rfl rfl (by kernel_rfl) (by kernel_rfl) (by kernel_rfl) (fun _ _ _ h => h) (Or.inl ⟨by rfl, ?_⟩) (by assumption) ?_
     rotate_left 1
     ·intro wz hSw
      first | (go_simp; done) | (go_simp; with_reducible rfl)
     simp only [List.set_cons_zero, List.set_cons_succ]
     refine take_at (i := 2) (n := 79) (v := ?_) rfl rfl (by kernel_rfl) (by kernel_rfl) (by kernel_rfl) (fun _ _ _ h => h) (Or.inl ⟨by rfl, ?_⟩) (by assumption) ?_
     rotate_left 1
     ·intro wz hSw
      first | (go_simp; done) | (go_simp; with_reducible rfl)
     simp only [List.set_cons_zero, List.set_cons_succ]
     refine take_at (i := 3) (n := 80) (v := ?_) rfl rfl (by kernel_rfl) (by kernel_rfl) (by kernel_rfl) (fun _ _ _ h => h) (Or.inl ⟨by rfl, ?_⟩) (by assumption) ?_
     rotate_left 1
     ·intro wz hSw
      first | (go_simp; done) | (go_simp; with_reducible rfl)
     simp only [List.set_cons_zero, List.set_cons_succ]
     refine take_at (i := 4) (n := 81) (v := ?_) rfl rfl (by kernel_rfl) (by kernel_rfl) (by kernel_rfl) (fun _ _ _ h => h) (Or.inl ⟨by rfl, ?_⟩) (by assumption) ?_
     rotate_left 1
     ·intro wz hSw
      first | (go_simp; done) | (go_simp; with_reducible rfl)
     simp only [List.set_cons_zero, List.set_cons_succ]
     refine take_at (i := 5) (n := 82) (v := ?_) rfl rfl (by kernel_rfl) (by kernel_rfl) (by kernel_rfl) (fun _ _ _ h => h) (Or.inl ⟨by rfl, ?_⟩) (by assumption) ?_
     rotate_left 1
     ·intro wz hSw
      first | (go_simp; done) | (go_simp; with_reducible rfl)
     simp only [List.set_cons_zero, List.set_cons_succ]
     refine take_at (i := 6) (n := 83) (v := ?_) rfl rfl (by kernel_rfl) (by kernel_rfl) (by kernel_rfl) (fun _ _ _ h => h) (Or.inl ⟨by rfl, ?_⟩) (by assumption) ?_
     rotate_left 1
     ·intro wz hSw
      first | (go_simp; done) | (go_simp; with_reducible rfl)
     simp only [List.set_cons_zero, List.set_cons_succ]
     refine take_at (i := 7) (n := 84) (v := ?_) rfl rfl (by kernel_rfl) (by kernel_rfl) (by kernel_rfl) (fun _ _ _ h => h) (Or.inl ⟨by rfl, ?_⟩) (by assumption) ?_
     rotate_left 1
     ·intro wz hSw
      first | (go_simp; done) | (go_simp; with_reducible rfl)
     simp only [List.set_cons_zero, List.set_cons_succ]
     refine take_at (i := 8) (n := 85) (v := ?_) rfl rfl (by kernel_rfl) (by kernel_rfl) (by kernel_rfl) (fun _ _ _ h => h) (Or.inl ⟨by rfl, ?_⟩) (by assumption) ?_
     rotate_left 1
     ·intro wz hSw
      first | (go_simp; done) | (go_simp; with_reducible rfl)
     simp only [List.set_cons_zero, List.set_cons_succ]
     refine take_at (i := 9) (n := 86) (v := ?_) rfl rfl (by kernel_rfl) (by kernel_rfl) (by kernel_rfl) (fun _ _ _ h => h) (Or.inl ⟨by rfl, ?_⟩) (by assumption) ?_
     rotate_left 1
     ·intro wz hSw
      first | (go_simp; done) | (go_simp; with_reducible rfl)
     simp only [List.set_cons_zero, List.set_cons_succ]
     refine take_at (i := 10) (n := 87) (v := ?_) rfl rfl (by kernel_rfl) (by kernel_rfl) (by kernel_rfl) (fun _ _ _ h => h) (Or.inl ⟨by rfl, ?_⟩) (by assumption) ?_
     rotate_left 1
     ·intro wz hSw
      first | (go_simp; done) | (go_simp; with_reducible rfl)
     simp only [List.set_cons_zero, List.set_cons_succ]
     refine take_at (i := 11) (n := 88) (v := ?_) rfl rfl (by kernel_rfl) (by kernel_rfl) (by kernel_rfl) (fun _ _ _ h => h) (Or.inl ⟨by rfl, ?_⟩) (by assumption) ?_
     rotate_left 1
     ·intro wz hSw
      first | (go_simp; done) | (go_simp; with_reducible rfl)
     simp only [List.set_cons_zero, List.set_cons_succ]
     refine take_at (i := 12) (n := 89) (v := ?_) rfl rfl (by kernel_rfl) (by kernel_rfl) (by kernel_rfl) (fun _ _ _ h => h) (Or.inl ⟨by rfl, ?_⟩) (by assumption) ?_
     rotate_left 1
     ·intro wz hSw
      first | (go_simp; done) | (go_simp; with_reducible rfl)
     simp only [List.set_cons_zero, List.set_cons_succ]
     refine take_at (i := 13) (n := 90) (v := ?_) rfl rfl (by kernel_rfl) (by kernel_rfl) (by kernel_rfl) (fun _ _ _ h => h) (Or.inl ⟨by rfl, ?_⟩) (by assumption) ?_
     rotate_left 1
     ·intro wz hSw
      first | (go_simp; done) | (go_simp; with_reducible rfl)
     simp only [List.set_cons_zero, List.set_cons_succ]
     refine take_at (i := 14) (n := 91) (v := ?_) rfl rfl (by kernel_rfl) (by kernel_rfl) (by kernel_rfl) (fun _ _ _ h => h) (Or.inl ⟨by rfl, ?_⟩) (by assumption) ?_
     rotate_left 1
     ·intro wz hSw
      first | (go_simp; done) | (go_simp; with_reducible rfl)
     simp only [List.set_cons_zero, List.set_cons_succ]
     refine take_at (i := 15) (n := 92) (v := ?_) rfl rfl (by kernel_rfl) (by kernel_rfl) (by kernel_rfl) (fun _ _ _ h => h) (Or.inl ⟨by rfl, ?_⟩) (by assumption) ?_
     rotate_left 1
     ·intro wz hSw
      first | (go_simp; done) | (go_simp; with_reducible rfl)
     simp only [List.set_cons_zero, List.set_cons_succ]
     refine take_at (i := 16) (n := 93) (v := ?_) rfl rfl (by kernel_rfl) (by kernel_rfl) (by kernel_rfl) (fun _ _ _ h => h) (Or.inl ⟨by rfl, ?_⟩) (by assumption) ?_
     rotate_left 1
     ·intro wz hSw
      first | (go_simp; done) | (go_simp; with_reducible rfl)
     simp only [List.set_cons_zero, List.set_cons_succ]
     refine take_at (i := 17) (n := 94) (v := ?_) rfl rfl (by kernel_rfl) (by kernel_rfl) (by kernel_rfl) (fun _ _ _ h => h) (Or.inl ⟨by rfl, ?_⟩) (by assumption) ?_
     rotate_left 1
     ·intro wz hSw
      first | (go_simp; done) | (go_simp; with_reducible rfl)
     simp only [List.set_cons_zero, List.set_cons_succ]
     refine take_at (i := 18) (n := 95) (v := ?_) rfl rfl (by kernel_rfl) (by kernel_rfl) (by kernel_rfl) (fun _ _ _ h => h) (Or.inl ⟨by rfl, ?_⟩) (by assumption) ?_
     rotate_left 1
     ·intro wz hSw
      first | (go_simp; done) | (go_simp; with_reducible rfl)
     simp only [List.set_cons_zero, List.set_cons_succ]
     refine take_at (i := 19) (n := 96) (v := ?_) rfl rfl (by kernel_rfl) (by kernel_rfl) (by kernel_rfl) (fun _ _ _ h => h) (Or.inl ⟨by rfl, ?_⟩) (by assumption) ?_
     rotate_left 1
     ·intro wz hSw
      first | (go_simp; done) | (go_simp; with_reducible rfl)
     simp only [List.set_cons_zero, List.set_cons_succ]
     refine take_at (i := 20) (n := 97) (v := ?_) rfl rfl (by kernel_rfl) (by kernel_rfl) (by kernel_rfl) (fun _ _ _ h => h) (Or.inl ⟨by rfl, ?_⟩) (by assumption) ?_
     rotate_left 1
     ·intro wz hSw
      first | (go_simp; done) | (go_simp; with_reducible rfl)
     simp only [List.set_cons_zero, List.set_cons_succ]
     refine wpAnyH_done (by kernel_rfl) ?_ _
     refine NoPanic.normal ?_
     have H5 : Hid (TI w1 w5.drew mb B l M iv ov ins vs n (j + 1) a (p + 1) sv4 pv4) := H4.out.grow (Below.refl _ _).drew
     go_wp2_with fail
     go_roundw
     case rel => exact ⟨j + 1, a, p + 1, sv4, pv4, by omega, rfl, by go_num, by go_num, H5.out⟩
     case measure => simp [intOf]; omega
  ·have hjn : ¬ (j : Int) < (n : Int) := by omega
   have hje : n = j := by omega
   subst hje
   have hja := HT.out.le
   have hps := HT.out.ps
   have hvl : (lastF l ins a (ms0 vs) 0).1.vs.length = 8 := HT.out.mi.vs
   go_wp2_with (go_at_call 41; refine (Steps_any wr l M _ _ _ _ _ _ vs ins a HF.out.good (HF.out.now HT.out).2.1 hv hi (by rw [hv]; exact (HF.out.now HT.out).2.2.1) (by rw [hi]; exact (HF.out.now HT.out).2.2.2.1) (by omega)).mono ?_; rintro r w2 ⟨hb2, u, q, tv2, rfl, h1, h2, h3, -⟩; have HU : Hid (IntSl w2 (lastF l ins a (ms0 vs) 0).1.vs u ∧ PutSl w2 (lastF l ins a (ms0 vs) 0).1.ps q) := ⟨h1, h2⟩; obtain ⟨u2, uc2, rfl, -⟩ := h1; obtain ⟨q2, qc2, rfl, -⟩ := h2; obtain ⟨t2, tc2, rfl, -⟩ := h3; generalize (lastF l ins a (ms0 vs) 0).2 = ut2 at *; have H2 : Hid (TI w1 w2 mb B l M iv ov ins vs n n a p sv pv) := HT.out.grow hb2; clear hb2 hvl)
   have H3 : Hid (TI w1 (w2.alloc (.cells #[.slice u2 (lastF l ins a (ms0 vs) 0).1.vs.length uc2, .slice q2 (lastF l ins a (ms0 vs) 0).1.ps.length qc2, .int .i64 ut2] 27)) mb B l M iv ov ins vs n n a p sv pv ∧ IntSl (w2.alloc (.cells #[.slice u2 (lastF l ins a (ms0 vs) 0).1.vs.length uc2, .slice q2 (lastF l ins a (ms0 vs) 0).1.ps.length qc2, .int .i64 ut2] 27)) (lastF l ins a (ms0 vs) 0).1.vs (.slice u2 (lastF l ins a (ms0 vs) 0).1.vs.length uc2) ∧ PutSl (w2.alloc (.cells #[.slice u2 (lastF l ins a (ms0 vs) 0).1.vs.length uc2, .slice q2 (lastF l ins a (ms0 vs) 0).1.ps.length qc2, .int .i64 ut2] 27)) (lastF l ins a (ms0 vs) 0).1.ps (.slice q2 (lastF l ins a (ms0 vs) 0).1.ps.length qc2) ∧ (w2.alloc (.cells #[.slice u2 (lastF l ins a (ms0 vs) 0).1.vs.length uc2, .slice q2 (lastF l ins a (ms0 vs) 0).1.ps.length qc2, .int .i64 ut2] 27)).heap[w2.heap.size]? = some (.cells #[.slice u2 (lastF l ins a (ms0 vs) 0).1.vs.length uc2, .slice q2 (lastF l ins a (ms0 vs) 0).1.ps.length qc2, .int .i64 ut2] 27 (0, 0)) ∧ (lastF l ins a (ms0 vs) 0).1.vs.length = 8) := ⟨H2.out.grow (below_new _ _), HU.out.1.below (below_new _ _), HU.out.2.below (below_new _ _), heap_alloc_new _ _, HT.out.mi.vs⟩
   clear H2 HU HT
   generalize (w2.alloc (.cells #[.slice u2 (lastF l ins a (ms0 vs) 0).1.vs.length uc2, .slice q2 (lastF l ins a (ms0 vs) 0).1.ps.length qc2, .int .i64 ut2] 27)) = w3 at *
   generalize w2.heap.size = g20 at *
   have PH : Phase 1 := trivial
   go_wp2_with (go_at_call 44; guard_hyp PH : Phase 1; clear PH; refine (Vars_any w3 mb B l iv ov ins _ _ sv pv H3.out.1.mm).mono ?_; rintro r w4 ⟨v4, rfl, ho4, hb4⟩; obtain ⟨u4, uc4, rfl⟩ := owns_value ho4; have H4 : Hid (w4.ownsRow w3.heap.size 3 1 (.slice u4 (lastF l ins a (ms0 vs) 0).1.vs.length uc4) (lastF l ins a (ms0 vs) 0).1.vs.length (intVs (lastF l ins a (ms0 vs) 0).1.vs) ∧ Below w3.heap.size w3 w4) := ⟨ho4, hb4⟩; clear ho4 hb4)
   go_wp2_with (go_at_call 45; refine (Puts_any w4 mb B l iv ov ins _ _ sv pv (H3.out.1.mm.grow H4.out.2) (by omega)).mono ?_; rintro r w5 ⟨v5, rfl, ho5, hb5⟩; obtain ⟨q5, qc5, rfl⟩ := owns_value ho5; have H5 : Hid (w5.ownsRow w4.heap.size 43 2 (.slice q5 (lastF l ins a (ms0 vs) 0).1.ps.length qc5) (lastF l ins a (ms0 vs) 0).1.ps.length (putVs (lastF l ins a (ms0 vs) 0).1.ps) ∧ Below w4.heap.size w4 w5 ∧ Below w3.heap.size w3 w5) := ⟨ho5, hb5, below_seq H4.out.2 hb5⟩; obtain ⟨cg, -, lg⟩ := cells_of (l := [_, _, _]) ((H5.out.2.2.block g20 (Array.getElem?_eq_some_iff.1 H3.out.2.2.2.1).1).trans H3.out.2.2.2.1); have k0 := cg 0 _ rfl; clear cg ho5 hb5)
   go_wp2_with (go_at_call 39; refine (SameI_any w5 (lastF l ins a (ms0 vs) 0).1.vs _ _ (by have := H3.out.2.2.2.2; omega) ((ints_of_own H4.out.1).below H5.out.2.1) (H3.out.2.1.below H5.out.2.2)).mono ?_; rintro r w6 ⟨rfl, hb6⟩; have H6 : Hid (Below w3.heap.size w3 w6 ∧ Below w5.heap.size w5 w6) := ⟨below_seq H5.out.2.2 hb6, hb6⟩; obtain ⟨cg, -, lg⟩ := cells_of (l := [_, _, _]) ((H6.out.1.block g20 (Array.getElem?_eq_some_iff.1 H3.out.2.2.2.1).1).trans H3.out.2.2.2.1); have k1 := cg 1 _ rfl; clear cg hb6 k0)
   go_wp2_with (go_at_call 40; refine (SameP_any w6 (lastF l ins a (ms0 vs) 0).1.ps _ _ (by omega) ((PutSl.of_own H5.out.1).below H6.out.2) (H3.out.2.2.1.below H6.out.1)).mono ?_; rintro r w7 ⟨rfl, hb7⟩; have H7 : Hid (Below w3.heap.size w3 w7 ∧ Below w5.heap.size w5 w7) := ⟨below_seq H6.out.1 hb7, below_seq H6.out.2 hb7⟩; clear hb7 k1)
   have H7' : Hid (w7.ownsRow w3.heap.size 3 1 (.slice u4 (lastF l ins a (ms0 vs) 0).1.vs.length uc4) (lastF l ins a (ms0 vs) 0).1.vs.length (intVs (lastF l ins a (ms0 vs) 0).1.vs) ∧ w7.ownsRow w4.heap.size 43 2 (.slice q5 (lastF l ins a (ms0 vs) 0).1.ps.length qc5) (lastF l ins a (ms0 vs) 0).1.ps.length (putVs (lastF l ins a (ms0 vs) 0).1.ps)) := ⟨ownsRow_below H4.out.1 (below_seq H5.out.2.1 H7.out.2), ownsRow_below H5.out.1 H7.out.2⟩
   go_wp2_with (go_at_call 16; refine (SpoilN_own w7 w3.heap.size _ _ _ H7'.out.1).mono ?_; rintro r w8 ⟨rfl, hb8, hk8⟩; have H8 : Hid (Below w3.heap.size w7 w8 ∧ w8.ownsRow w4.heap.size 43 2 (.slice q5 (lastF l ins a (ms0 vs) 0).1.ps.length qc5) (lastF l ins a (ms0 vs) 0).1.ps.length (putVs (lastF l ins a (ms0 vs) 0).1.ps)) := ⟨hb8, ownsRow_own H7'.out.2 (fun k hk => hk8 k (fun e => by have := (H4.out.1.lt k e).2; have := (H5.out.1.lt k hk).1; omega))⟩; clear hb8 hk8)
   go_wp2_with (go_at_call 17; refine (SpoilP_any w8 w4.heap.size _ _ _ H8.out.2).mono ?_; rintro r w9 ⟨rfl, hb9⟩; have H9 : Hid (Below w3.heap.size w3 w9) := (H7.out.1.trans H8.out.1).trans (hb9.mono H4.out.2.size); clear hb9)
   have HM : Hid (TI w1 w9.drew mb B l M iv ov ins vs n n a p sv pv ∧ Below w3.heap.size w3 w9.drew) := ⟨H3.out.1.grow H9.out.drew, H9.out.drew⟩
   obtain ⟨cg, -, lg⟩ := cells_of (l := [_, _, _]) ((HM.out.2.block g20 (Array.getElem?_eq_some_iff.1 H3.out.2.2.2.1).1).trans H3.out.2.2.2.1)
   have k0 := cg 0 _ rfl
   have k1 := cg 1 _ rfl
   clear cg H4 H5 H6 H7 H7' H8
   refine wp_region_noPanic ?_
   refine wp_region_held_drew (S := fun w' => w'.cell? ⟨g20, 0, none⟩ = some (.slice u2 (lastF l ins a (ms0 vs) 0).1.vs.length uc2) ∧ w'.cell? ⟨g20, 1, none⟩ = some (.slice q2 (lastF l ins a (ms0 vs) 0).1.ps.length qc2)) (by kernel_rfl) ⟨k0, k1⟩ (fun hHeld => ?_)
   refine take_at (i := 0) (n := 131) (v := ?_) rfl rfl (by kernel_rfl) (by kernel_rfl) (by kernel_rfl) (fun _ _ _ h => h) (Or.inl ⟨by rfl, ?_⟩) (by assumption) ?_
   rotate_left 1
   ·intro wz hSw
    first | (go_simp; done) | (go_simp; with_reducible rfl)
   simp only [List.set_cons_zero, List.set_cons_succ]
   refine take_at (i := 2) (n := 133) (v := ?_) rfl rfl (by kernel_rfl) (by kernel_rfl) (by kernel_rfl) (fun _ _ _ h => h) (Or.inl ⟨by rfl, ?_⟩) (by assumption) ?_
   rotate_left 1
   ·intro wz hSw
    first | (go_simp; done) | (go_simp; with_reducible rfl)
   simp only [List.set_cons_zero, List.set_cons_succ]
   refine take_at (i := 3) (n := 134) (v := ?_) rfl rfl (by kernel_rfl) (by kernel_rfl) (by kernel_rfl) (fun _ _ _ h => h) (Or.inl ⟨by rfl, ?_⟩) (by assumption) ?_
   rotate_left 1
   ·intro wz hSw
    first | (go_simp; done) | (go_simp; with_reducible rfl)
   simp only [List.set_cons_zero, List.set_cons_succ]
   refine wpAnyH_ready (rs := [1]) (by kernel_rfl) (by simp) ?_
   refine AllReadyH.cons rfl (fun K hK => ?_) AllReadyH.nil
   go_simp
   refine (Vars_any _ mb B l iv ov ins _ _ sv pv HM.out.1.mm).mono ?_
   rintro r w10 ⟨v10, rfl, ho10, hb10⟩
   have hS10 : w10.cell? ⟨g20, 0, none⟩ = some (.slice u2 (lastF l ins a (ms0 vs) 0).1.vs.length uc2) ∧ w10.cell? ⟨g20, 1, none⟩ = some (.slice q2 (lastF l ins a (ms0 vs) 0).1.ps.length qc2) := ⟨below_cell hb10 k0, below_cell hb10 k1⟩
   have H10 : Hid (IntSl w10 (lastF l ins a (ms0 vs) 0).1.vs v10 ∧ Below w3.heap.size w3 w10) := ⟨ints_of_own ho10, below_seq HM.out.2 hb10⟩
   have M10 : Hid (TI w1 w10 mb B l M iv ov ins vs n n a p sv pv) := HM.out.1.grow hb10
   obtain ⟨u10, uc10, rfl⟩ := owns_value ho10
   clear hb10 ho10
   refine hK.out _ _ hS10 (fun hHeld => ?_)
   clear hK K
   refine wpAnyH_ready (rs := [4]) (by kernel_rfl) (by simp) ?_
   refine AllReadyH.cons rfl (fun K hK => ?_) AllReadyH.nil
   go_simp
   refine (SameI_any w10 (lastF l ins a (ms0 vs) 0).1.vs _ _ (by have := H3.out.2.2.2.2; omega) H10.out.1 (H3.out.2.1.below H10.out.2)).mono ?_
   rintro r w11 ⟨rfl, hb11⟩
   have hS11 : w11.cell? ⟨g20, 0, none⟩ = some (.slice u2 (lastF l ins a (ms0 vs) 0).1.vs.length uc2) ∧ w11.cell? ⟨g20, 1, none⟩ = some (.slice q2 (lastF l ins a (ms0 vs) 0).1.ps.length qc2) := ⟨below_cell hb11 hS10.1, below_cell hb11 hS10.2⟩
   have H11 : Hid (Below w3.heap.size w3 w11) := below_seq H10.out.2 hb11
   have M11 : Hid (TI w1 w11 mb B l M iv ov ins vs n n a p sv pv) := M10.out.grow hb11
   clear hb11
   refine hK.out _ _ hS11 (fun hHeld => ?_)
   clear hK K
   refine take_at (i := 5) (n := 136) (v := ?_) rfl rfl (by kernel_rfl) (by kernel_rfl) (by kernel_rfl) (fun _ _ _ h => h) (Or.inl ⟨by rfl, ?_⟩) (by assumption) ?_
   rotate_left 1
   ·intro wz hSw
    first | (go_simp; done) | (go_simp; with_reducible rfl)
   simp only [List.set_cons_zero, List.set_cons_succ]
   refine take_at (i := 6) (n := 137) (v := ?_) rfl rfl (by kernel_rfl) (by kernel_rfl) (by kernel_rfl) (fun _ _ _ h => h) (Or.inl ⟨by rfl, ?_⟩) (by assumption) ?_
   rotate_left 1
   ·intro wz hSw
    first | (go_simp; done) | (go_simp; with_reducible rfl)
   simp only [List.set_cons_zero, List.set_cons_succ]
   refine take_at (i := 8) (n := 139) (v := ?_) rfl rfl (by kernel_rfl) (by kernel_rfl) (by kernel_rfl) (fun _ _ _ h => h) (Or.inl ⟨by rfl, ?_⟩) (by assumption) ?_
   rotate_left 1
   ·intro wz hSw
    first | (go_simp; done) | (go_simp; with_reducible rfl)
   simp only [List.set_cons_zero, List.set_cons_succ]
   refine take_at (i := 9) (n := 140) (v := ?_) rfl rfl (by kernel_rfl) (by kernel_rfl) (by kernel_rfl) (fun _ _ _ h => h) (Or.inl ⟨by rfl, ?_⟩) (by assumption) ?_
   rotate_left 1
   ·intro wz hSw
    first | (go_simp; done) | (go_simp; with_reducible rfl)
   simp only [List.set_cons_zero, List.set_cons_succ]
   refine wpAnyH_ready (rs := [7]) (by kernel_rfl) (by simp) ?_
   refine AllReadyH.cons rfl (fun K hK => ?_) AllReadyH.nil
   go_simp
   refine (Puts_any _ mb B l iv ov ins _ _ sv pv M11.out.mm (by omega)).mono ?_
   rintro r w12 ⟨v12, rfl, ho12, hb12⟩
   have hS12 : w12.cell? ⟨g20, 0, none⟩ = some (.slice u2 (lastF l ins a (ms0 vs) 0).1.vs.length uc2) ∧ w12.cell? ⟨g20, 1, none⟩ = some (.slice q2 (lastF l ins a (ms0 vs) 0).1.ps.length qc2) := ⟨below_cell hb12 hS11.1, below_cell hb12 hS11.2⟩
   have H12 : Hid (PutSl w12 (lastF l ins a (ms0 vs) 0).1.ps v12 ∧ Below w3.heap.size w3 w12) := ⟨PutSl.of_own ho12, below_seq H11.out hb12⟩
   have M12 : Hid (TI w1 w12 mb B l M iv ov ins vs n n a p sv pv) := M11.out.grow hb12
   obtain ⟨u12, uc12, rfl⟩ := owns_value ho12
   clear hb12 ho12
   refine hK.out _ _ hS12 (fun hHeld => ?_)
   clear hK K
   refine wpAnyH_ready (rs := [10]) (by kernel_rfl) (by simp) ?_
   refine AllReadyH.cons rfl (fun K hK => ?_) AllReadyH.nil
   go_simp
   refine (SameP_any w12 (lastF l ins a (ms0 vs) 0).1.ps _ _ (by omega) H12.out.1 (H3.out.2.2.1.below H12.out.2)).mono ?_
   rintro r w13 ⟨rfl, hb13⟩
   have hS13 : w13.cell? ⟨g20, 0, none⟩ = some (.slice u2 (lastF l ins a (ms0 vs) 0).1.vs.length uc2) ∧ w13.cell? ⟨g20, 1, none⟩ = some (.slice q2 (lastF l ins a (ms0 vs) 0).1.ps.length qc2) := ⟨below_cell hb13 hS12.1, below_cell hb13 hS12.2⟩
   have M13 : Hid (TI w1 w13 mb B l M iv ov ins vs n n a p sv pv) := M12.out.grow hb13
   clear hb13
   refine hK.out _ _ hS13 (fun hHeld => ?_)
   clear hK K
   refine take_at (i := 11) (n := 142) (v := ?_) rfl rfl (by kernel_rfl) (by kernel_rfl) (by kernel_rfl) (fun _ _ _ h => h) (Or.inl ⟨by rfl, ?_⟩) (by assumption) ?_
   rotate_left 1
   ·intro wz hSw
    first | (go_simp; done) | (go_simp; with_reducible rfl)
   simp only [List.set_cons_zero, List.set_cons_succ]
   refine take_at (i := 12) (n := 10) (v := ?_) rfl rfl (by kernel_rfl) (by kernel_rfl) (by kernel_rfl) (fun _ _ _ h => h) (Or.inl ⟨by rfl, ?_⟩) (by assumption) ?_
   rotate_left 1
   ·intro wz hSw
    first | (go_simp; done) | (go_simp; with_reducible rfl)
   simp only [List.set_cons_zero, List.set_cons_succ]
   refine wpAnyH_done (by kernel_rfl) ?_ _
   refine NoPanic.normal ?_
   go_wp2_with fail
   go_ret
   exact ⟨rfl, ((MR.of_below H1.out.2).trans M13.out.mr).base⟩
end Go.Proofs.YtibcbdihphbfeacDoor
