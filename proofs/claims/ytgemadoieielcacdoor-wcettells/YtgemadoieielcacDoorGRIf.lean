import Derived.Test.YtgemadoieielcacDoorGRIm
namespace Go.Proofs.YtgemadoieielcacDoor
open Go.ChangeShapes Go.WideShapes Go.ChangeAt Go.RowKit

set_option maxRecDepth 20000 in
set_option maxHeartbeats 16000000 in
theorem ri_J11 : RIp.2.2.2.2.2.2.2.2.2.2.2.2.2.2.2.2.2.2.2.2.2.2.1 := by
  intro w l ic hl c k hmm HT _ _ hg w1 _ _ u4 u5 u6 u27 u28 u29 u30 u31 u32 u33 u34 u35 u36 u37 u38 _ _ _ _ HFO w2 mb ll1 _ _ u9 u10 u11 u12 u45 u46 u47 u48 u49 u50 u51 u52 u53 u54 u55 u56 u57 u58 u59 u60 u61 u62 u63 u64 u65 u66 u67 u68 u69 u70 u71 u72 u73 u74 u75 u76 u77 u78 u79 u80 u81 u82 u83 u84 u85 u86 u87 u88 u89 u90 u91 u92 u93 u94 u95 u96 u97 u98 u99 u100 u101 u102 u103 u104 u105 u106 u107 u108 u109 u110 u111 u112 u113 u114 u115 u116 u117 u118 u119 u120 u121 u122 u123 u124 u125 u126 u127 u128 u129 u130 u131 u132 u133 u134 u135 u136 u137 u138 u139 u140 u141 u142 u143 u144 u145 u146 u147 u148 u149 u150 rs gv _ hrl _ ll2 ol2 ord2 hol ad0 cap0 co _ _ _ wr u2 u13 u14 u15 u16 u17 u18 u173 u174 u175 u176 u177 u178 u179 u180 u181 u182 u183 u184 u185 u186 u187 u188 u189 u190 u191 u192 u193 u194 u195 u196 u197 u198 u199 u200 u201 u202 u203 u204 u205 u206 u207 u208 u209 u210 u211 u212 u213 u214 u215 u216 u217 u218 u219 u220 u221 j hj hlt b o HK _ _ cl HN _ _ xb x2 m x1 hlo x0 ho HS
  obtain ⟨ms2, mf2, ml2⟩ := cells_of (l := [_, _]) HS.out.2.1.img
  clear ms2 mf2
  have hPQ := inner_eq (innerOf rs j) (innerOf rs m)
  have hq0 : docJump l rs j ⟨11, (m : Int), xb⟩ = if (m : Int) ≤ j ∨ (l.length : Int) < (m : Int) ∨ innerOf rs j ≠ innerOf rs m then 7 else 0 := by unfold docJump; dsimp only; rw [if_neg (by decide), Int.toNat_natCast]
  have HQ : Hid _ := hq0
  clear hq0
  have HC1 := fun (W : World) (hW : RS w W mb (.slice (some ⟨b, o, none⟩) l.length ic) l [] (.slice ad0 0 cap0) rs gv) (i : Nat) (hi : i ≤ 4194304) => inner_any W mb rs _ _ i ((cells_of (l := [_, _]) hW.img).1 0 _ rfl) ((cells_of (l := [_, _]) hW.img).1 1 _ rfl) (reg_of_own hW.reg) (by omega) hi
  unfold regVal at HC1
  generalize hPo : innerOf rs j = Po at *
  generalize hQo : innerOf rs m = Qo at *
  obtain ⟨p1, hp1⟩ : ∃ p1, (Po.getD (0, 0)).1 = p1 := ⟨_, rfl⟩
  obtain ⟨p2, hp2⟩ : ∃ p2, (Po.getD (0, 0)).2 = p2 := ⟨_, rfl⟩
  obtain ⟨q1, hq1⟩ : ∃ q1, (Qo.getD (0, 0)).1 = q1 := ⟨_, rfl⟩
  obtain ⟨q2, hq2⟩ : ∃ q2, (Qo.getD (0, 0)).2 = q2 := ⟨_, rfl⟩
  obtain ⟨fp, hfp⟩ : ∃ fp, Po.isSome = fp := ⟨_, rfl⟩
  obtain ⟨fq, hfq⟩ : ∃ fq, Qo.isSome = fq := ⟨_, rfl⟩
  rw [hp1, hp2, hq1, hq2, hfp, hfq] at hPQ
  have HP : Hid ((∀ W, RS w W mb (.slice (some ⟨b, o, none⟩) l.length ic) l [] (.slice ad0 0 cap0) rs gv → Calls Tryd.prog 56 #[.pointer (some ⟨mb, 0, none⟩), .int .i64 (j : Int)] W fun r w' => r = .returned (.tuple #[.agg #[.int .i64 (p1 : Int), .int .i64 (p2 : Int)], .bool fp]) ∧ Below W.heap.size W w') ∧ (∀ W, RS w W mb (.slice (some ⟨b, o, none⟩) l.length ic) l [] (.slice ad0 0 cap0) rs gv → Calls Tryd.prog 56 #[.pointer (some ⟨mb, 0, none⟩), .int .i64 (m : Int)] W fun r w' => r = .returned (.tuple #[.agg #[.int .i64 (q1 : Int), .int .i64 (q2 : Int)], .bool fq]) ∧ Below W.heap.size W w')) := by
    refine ⟨fun W hW => ?_, fun W hW => ?_⟩
    · have := HC1 W hW j (by omega); rw [hPo, hp1, hp2, hfp] at this; exact this
    · have := HC1 W hW m (by omega); rw [hQo, hq1, hq2, hfq] at this; exact this
  clear HC1 hp1 hp2 hq1 hq2 hfp hfq hPo hQo
  by_cases c1 : (m : Int) ≤ (j : Int)
  · have f1 : decide ((m : Int) ≤ (j : Int)) = true := by simpa using c1
    have f1' : decide (m ≤ j) = true := by simp; omega
    have hz : docJump l rs j ⟨11, (m : Int), xb⟩ = 7 := by rw [HQ.out, if_pos (.inl c1)]
    have hck : docI l = (7, (j : Int)) := by
      have := HS.out.1
      rw [hz, if_pos (by decide)] at this
      exact docI_jump hl HFO.out HN.out.1 this.symm
    have hcc := HK.out.2.symm.trans hck
    simp only [Prod.mk.injEq] at hcc
    obtain ⟨rfl, rfl⟩ := hcc
    go_wp2_with (first | (go_at_call_of 56 (j : Int); refine (HP.out.1 _ (HS.out.2.1.grow (below_new _ _))).mono ?_; rintro r w3 ⟨rfl, hb3⟩; have d1 : w3.cell? ⟨wr.heap.size, 1, none⟩ = some (.int .i64 (m : Int)) := below_cell hb3 (by go_simp); have H3 : Hid (RS w w3 mb (.slice (some ⟨b, o, none⟩) l.length ic) l [] (.slice ad0 0 cap0) rs gv) := HS.out.2.1.grow (below_seq (below_new _ _) hb3); have l3 : wr.heap.size < w3.heap.size := World.block_lt_of_cell? _ _ d1; clear hb3) | (go_at_call_of 56 (m : Int); refine (HP.out.2 _ (H3.out.grow (below_new _ _))).mono ?_; rintro r w5 ⟨rfl, hb5⟩; have e1 : w5.cell? ⟨wr.heap.size, 1, none⟩ = some (.int .i64 (m : Int)) := below_cell hb5 (by go_simp); have h50 : w5.cell? ⟨w3.heap.size, 0, none⟩ = some (.int .i64 (p1 : Int)) := below_cell hb5 (by go_simp); have h51 : w5.cell? ⟨w3.heap.size, 1, none⟩ = some (.int .i64 (p2 : Int)) := below_cell hb5 (by go_simp); have H5 : Hid (RS w w5 mb (.slice (some ⟨b, o, none⟩) l.length ic) l [] (.slice ad0 0 cap0) rs gv) := H3.out.grow (below_seq (below_new _ _) hb5); have cl5 := (cells_of (l := [_]) H5.out.lbk).1 0 _ rfl; have l5 : wr.heap.size < w5.heap.size := World.block_lt_of_cell? _ _ e1; have l53 : w3.heap.size < w5.heap.size := World.block_lt_of_cell? _ _ h50; have l5w : w.heap.size < w5.heap.size := World.block_lt_of_cell? _ _ cl5; clear hb5) | (go_at_call 25; refine (F_any 7 (j : Int) _).mono ?_; rintro r w9 ⟨rfl, hb9⟩; have H9 : Hid (RS w w9 mb (.slice (some ⟨b, o, none⟩) l.length ic) l [] (.slice ad0 0 cap0) rs gv) := H5.out.grow (below_seq (below_new _ _) hb9); obtain ⟨rs9, rf9, rl9⟩ := cells_of (l := [_, _]) H9.out.res; have r90 := rs9 0 _ rfl; have r91 := rs9 1 _ rfl; clear hb9 rs9))
    exact bodyPost_ret (v := .tuple #[.pointer none, .agg #[.int .i64 7, .int .i64 (j : Int)]]) (RI_ends (by simpa using setCell_at (i := 1) (u := .int .i64 (j : Int)) (setCell_at (i := 0) (u := .int .i64 7) H9.out.res)) rfl rfl) rfl ⟨⟨_, rfl, (fun h0 => absurd h0 (by first | decide | assumption | omega))⟩, (H9.out.bel.setCell (by show w.heap.size ≤ w.heap.size + 1; omega) _).setCell (by show w.heap.size ≤ w.heap.size + 1; omega) _⟩
  have f1 : decide ((m : Int) ≤ (j : Int)) = false := by simpa using c1
  have f1' : decide (m ≤ j) = false := by simp; omega
  by_cases c2 : (l.length : Int) < (m : Int)
  · have f2 : decide ((l.length : Int) < (m : Int)) = true := by simpa using c2
    have f2' : decide (l.length < m) = true := by simp; omega
    have hz : docJump l rs j ⟨11, (m : Int), xb⟩ = 7 := by rw [HQ.out, if_pos (.inr (.inl c2))]
    have hck : docI l = (7, (j : Int)) := by
      have := HS.out.1
      rw [hz, if_pos (by decide)] at this
      exact docI_jump hl HFO.out HN.out.1 this.symm
    have hcc := HK.out.2.symm.trans hck
    simp only [Prod.mk.injEq] at hcc
    obtain ⟨rfl, rfl⟩ := hcc
    go_wp2_with (first | (go_at_call_of 56 (j : Int); refine (HP.out.1 _ (HS.out.2.1.grow (below_new _ _))).mono ?_; rintro r w3 ⟨rfl, hb3⟩; have d1 : w3.cell? ⟨wr.heap.size, 1, none⟩ = some (.int .i64 (m : Int)) := below_cell hb3 (by go_simp); have H3 : Hid (RS w w3 mb (.slice (some ⟨b, o, none⟩) l.length ic) l [] (.slice ad0 0 cap0) rs gv) := HS.out.2.1.grow (below_seq (below_new _ _) hb3); have l3 : wr.heap.size < w3.heap.size := World.block_lt_of_cell? _ _ d1; clear hb3) | (go_at_call_of 56 (m : Int); refine (HP.out.2 _ (H3.out.grow (below_new _ _))).mono ?_; rintro r w5 ⟨rfl, hb5⟩; have e1 : w5.cell? ⟨wr.heap.size, 1, none⟩ = some (.int .i64 (m : Int)) := below_cell hb5 (by go_simp); have h50 : w5.cell? ⟨w3.heap.size, 0, none⟩ = some (.int .i64 (p1 : Int)) := below_cell hb5 (by go_simp); have h51 : w5.cell? ⟨w3.heap.size, 1, none⟩ = some (.int .i64 (p2 : Int)) := below_cell hb5 (by go_simp); have H5 : Hid (RS w w5 mb (.slice (some ⟨b, o, none⟩) l.length ic) l [] (.slice ad0 0 cap0) rs gv) := H3.out.grow (below_seq (below_new _ _) hb5); have cl5 := (cells_of (l := [_]) H5.out.lbk).1 0 _ rfl; have l5 : wr.heap.size < w5.heap.size := World.block_lt_of_cell? _ _ e1; have l53 : w3.heap.size < w5.heap.size := World.block_lt_of_cell? _ _ h50; have l5w : w.heap.size < w5.heap.size := World.block_lt_of_cell? _ _ cl5; clear hb5) | (go_at_call 25; refine (F_any 7 (j : Int) _).mono ?_; rintro r w9 ⟨rfl, hb9⟩; have H9 : Hid (RS w w9 mb (.slice (some ⟨b, o, none⟩) l.length ic) l [] (.slice ad0 0 cap0) rs gv) := H5.out.grow (below_seq (below_new _ _) hb9); obtain ⟨rs9, rf9, rl9⟩ := cells_of (l := [_, _]) H9.out.res; have r90 := rs9 0 _ rfl; have r91 := rs9 1 _ rfl; clear hb9 rs9))
    exact bodyPost_ret (v := .tuple #[.pointer none, .agg #[.int .i64 7, .int .i64 (j : Int)]]) (RI_ends (by simpa using setCell_at (i := 1) (u := .int .i64 (j : Int)) (setCell_at (i := 0) (u := .int .i64 7) H9.out.res)) rfl rfl) rfl ⟨⟨_, rfl, (fun h0 => absurd h0 (by first | decide | assumption | omega))⟩, (H9.out.bel.setCell (by show w.heap.size ≤ w.heap.size + 1; omega) _).setCell (by show w.heap.size ≤ w.heap.size + 1; omega) _⟩
  have f2 : decide ((l.length : Int) < (m : Int)) = false := by simpa using c2
  have f2' : decide (l.length < m) = false := by simp; omega
  by_cases c3 : fp = fq
  · subst c3
    by_cases c4 : p1 = q1
    · subst c4
      by_cases c5 : p2 = q2
      · subst c5
        have hz : docJump l rs j ⟨11, (m : Int), xb⟩ = 0 := by rw [HQ.out, if_neg (by simp only [not_or]; exact ⟨c1, c2, fun hne => hne (hPQ.2 ⟨rfl, rfl, rfl⟩)⟩)]
        rw [hz] at HS
        go_wp2_with (first | (go_at_call_of 56 (j : Int); refine (HP.out.1 _ (HS.out.2.1.grow (below_new _ _))).mono ?_; rintro r w3 ⟨rfl, hb3⟩; have d1 : w3.cell? ⟨wr.heap.size, 1, none⟩ = some (.int .i64 (m : Int)) := below_cell hb3 (by go_simp); have H3 : Hid (RS w w3 mb (.slice (some ⟨b, o, none⟩) l.length ic) l [] (.slice ad0 0 cap0) rs gv) := HS.out.2.1.grow (below_seq (below_new _ _) hb3); have l3 : wr.heap.size < w3.heap.size := World.block_lt_of_cell? _ _ d1; clear hb3) | (go_at_call_of 56 (m : Int); refine (HP.out.2 _ (H3.out.grow (below_new _ _))).mono ?_; rintro r w5 ⟨rfl, hb5⟩; have e1 : w5.cell? ⟨wr.heap.size, 1, none⟩ = some (.int .i64 (m : Int)) := below_cell hb5 (by go_simp); have h50 : w5.cell? ⟨w3.heap.size, 0, none⟩ = some (.int .i64 (p1 : Int)) := below_cell hb5 (by go_simp); have h51 : w5.cell? ⟨w3.heap.size, 1, none⟩ = some (.int .i64 (p2 : Int)) := below_cell hb5 (by go_simp); have H5 : Hid (RS w w5 mb (.slice (some ⟨b, o, none⟩) l.length ic) l [] (.slice ad0 0 cap0) rs gv) := H3.out.grow (below_seq (below_new _ _) hb5); have cl5 := (cells_of (l := [_]) H5.out.lbk).1 0 _ rfl; have l5 : wr.heap.size < w5.heap.size := World.block_lt_of_cell? _ _ e1; have l53 : w3.heap.size < w5.heap.size := World.block_lt_of_cell? _ _ h50; have l5w : w.heap.size < w5.heap.size := World.block_lt_of_cell? _ _ cl5; clear hb5))
        go_roundw
        case rel => exact ⟨j + 1, by omega, by go_num, by have := HS.out.1; rw [if_neg (by simp)] at this; exact this, H5.out.grow (below_new _ _)⟩
        case measure => simp [intOf]; omega
      · have c5' : ¬ (p2 : Int) = (q2 : Int) := by omega
        have f5 : ((p2 : Int) == (q2 : Int)) = false := by simp; omega
        have hz : docJump l rs j ⟨11, (m : Int), xb⟩ = 7 := by rw [HQ.out, if_pos (.inr (.inr (fun e => c5 (hPQ.1 e).2.2)))]
        have hck : docI l = (7, (j : Int)) := by
          have := HS.out.1
          rw [hz, if_pos (by decide)] at this
          exact docI_jump hl HFO.out HN.out.1 this.symm
        have hcc := HK.out.2.symm.trans hck
        simp only [Prod.mk.injEq] at hcc
        obtain ⟨rfl, rfl⟩ := hcc
        go_wp2_with (first | (go_at_call_of 56 (j : Int); refine (HP.out.1 _ (HS.out.2.1.grow (below_new _ _))).mono ?_; rintro r w3 ⟨rfl, hb3⟩; have d1 : w3.cell? ⟨wr.heap.size, 1, none⟩ = some (.int .i64 (m : Int)) := below_cell hb3 (by go_simp); have H3 : Hid (RS w w3 mb (.slice (some ⟨b, o, none⟩) l.length ic) l [] (.slice ad0 0 cap0) rs gv) := HS.out.2.1.grow (below_seq (below_new _ _) hb3); have l3 : wr.heap.size < w3.heap.size := World.block_lt_of_cell? _ _ d1; clear hb3) | (go_at_call_of 56 (m : Int); refine (HP.out.2 _ (H3.out.grow (below_new _ _))).mono ?_; rintro r w5 ⟨rfl, hb5⟩; have e1 : w5.cell? ⟨wr.heap.size, 1, none⟩ = some (.int .i64 (m : Int)) := below_cell hb5 (by go_simp); have h50 : w5.cell? ⟨w3.heap.size, 0, none⟩ = some (.int .i64 (p1 : Int)) := below_cell hb5 (by go_simp); have h51 : w5.cell? ⟨w3.heap.size, 1, none⟩ = some (.int .i64 (p2 : Int)) := below_cell hb5 (by go_simp); have H5 : Hid (RS w w5 mb (.slice (some ⟨b, o, none⟩) l.length ic) l [] (.slice ad0 0 cap0) rs gv) := H3.out.grow (below_seq (below_new _ _) hb5); have cl5 := (cells_of (l := [_]) H5.out.lbk).1 0 _ rfl; have l5 : wr.heap.size < w5.heap.size := World.block_lt_of_cell? _ _ e1; have l53 : w3.heap.size < w5.heap.size := World.block_lt_of_cell? _ _ h50; have l5w : w.heap.size < w5.heap.size := World.block_lt_of_cell? _ _ cl5; clear hb5) | (go_at_call 25; refine (F_any 7 (j : Int) _).mono ?_; rintro r w9 ⟨rfl, hb9⟩; have H9 : Hid (RS w w9 mb (.slice (some ⟨b, o, none⟩) l.length ic) l [] (.slice ad0 0 cap0) rs gv) := H5.out.grow (below_seq (below_new _ _) hb9); obtain ⟨rs9, rf9, rl9⟩ := cells_of (l := [_, _]) H9.out.res; have r90 := rs9 0 _ rfl; have r91 := rs9 1 _ rfl; clear hb9 rs9))
        exact bodyPost_ret (v := .tuple #[.pointer none, .agg #[.int .i64 7, .int .i64 (j : Int)]]) (RI_ends (by simpa using setCell_at (i := 1) (u := .int .i64 (j : Int)) (setCell_at (i := 0) (u := .int .i64 7) H9.out.res)) rfl rfl) rfl ⟨⟨_, rfl, (fun h0 => absurd h0 (by first | decide | assumption | omega))⟩, (H9.out.bel.setCell (by show w.heap.size ≤ w.heap.size + 1; omega) _).setCell (by show w.heap.size ≤ w.heap.size + 1; omega) _⟩
    · have c4' : ¬ (p1 : Int) = (q1 : Int) := by omega
      have f4 : ((p1 : Int) == (q1 : Int)) = false := by simp; omega
      have hz : docJump l rs j ⟨11, (m : Int), xb⟩ = 7 := by rw [HQ.out, if_pos (.inr (.inr (fun e => c4 (hPQ.1 e).2.1)))]
      have hck : docI l = (7, (j : Int)) := by
        have := HS.out.1
        rw [hz, if_pos (by decide)] at this
        exact docI_jump hl HFO.out HN.out.1 this.symm
      have hcc := HK.out.2.symm.trans hck
      simp only [Prod.mk.injEq] at hcc
      obtain ⟨rfl, rfl⟩ := hcc
      go_wp2_with (first | (go_at_call_of 56 (j : Int); refine (HP.out.1 _ (HS.out.2.1.grow (below_new _ _))).mono ?_; rintro r w3 ⟨rfl, hb3⟩; have d1 : w3.cell? ⟨wr.heap.size, 1, none⟩ = some (.int .i64 (m : Int)) := below_cell hb3 (by go_simp); have H3 : Hid (RS w w3 mb (.slice (some ⟨b, o, none⟩) l.length ic) l [] (.slice ad0 0 cap0) rs gv) := HS.out.2.1.grow (below_seq (below_new _ _) hb3); have l3 : wr.heap.size < w3.heap.size := World.block_lt_of_cell? _ _ d1; clear hb3) | (go_at_call_of 56 (m : Int); refine (HP.out.2 _ (H3.out.grow (below_new _ _))).mono ?_; rintro r w5 ⟨rfl, hb5⟩; have e1 : w5.cell? ⟨wr.heap.size, 1, none⟩ = some (.int .i64 (m : Int)) := below_cell hb5 (by go_simp); have h50 : w5.cell? ⟨w3.heap.size, 0, none⟩ = some (.int .i64 (p1 : Int)) := below_cell hb5 (by go_simp); have h51 : w5.cell? ⟨w3.heap.size, 1, none⟩ = some (.int .i64 (p2 : Int)) := below_cell hb5 (by go_simp); have H5 : Hid (RS w w5 mb (.slice (some ⟨b, o, none⟩) l.length ic) l [] (.slice ad0 0 cap0) rs gv) := H3.out.grow (below_seq (below_new _ _) hb5); have cl5 := (cells_of (l := [_]) H5.out.lbk).1 0 _ rfl; have l5 : wr.heap.size < w5.heap.size := World.block_lt_of_cell? _ _ e1; have l53 : w3.heap.size < w5.heap.size := World.block_lt_of_cell? _ _ h50; have l5w : w.heap.size < w5.heap.size := World.block_lt_of_cell? _ _ cl5; clear hb5) | (go_at_call 25; refine (F_any 7 (j : Int) _).mono ?_; rintro r w9 ⟨rfl, hb9⟩; have H9 : Hid (RS w w9 mb (.slice (some ⟨b, o, none⟩) l.length ic) l [] (.slice ad0 0 cap0) rs gv) := H5.out.grow (below_seq (below_new _ _) hb9); obtain ⟨rs9, rf9, rl9⟩ := cells_of (l := [_, _]) H9.out.res; have r90 := rs9 0 _ rfl; have r91 := rs9 1 _ rfl; clear hb9 rs9))
      exact bodyPost_ret (v := .tuple #[.pointer none, .agg #[.int .i64 7, .int .i64 (j : Int)]]) (RI_ends (by simpa using setCell_at (i := 1) (u := .int .i64 (j : Int)) (setCell_at (i := 0) (u := .int .i64 7) H9.out.res)) rfl rfl) rfl ⟨⟨_, rfl, (fun h0 => absurd h0 (by first | decide | assumption | omega))⟩, (H9.out.bel.setCell (by show w.heap.size ≤ w.heap.size + 1; omega) _).setCell (by show w.heap.size ≤ w.heap.size + 1; omega) _⟩
  · have f3 : (fp != fq) = true := by simpa using c3
    have hz : docJump l rs j ⟨11, (m : Int), xb⟩ = 7 := by rw [HQ.out, if_pos (.inr (.inr (fun e => c3 (hPQ.1 e).1)))]
    have hck : docI l = (7, (j : Int)) := by
      have := HS.out.1
      rw [hz, if_pos (by decide)] at this
      exact docI_jump hl HFO.out HN.out.1 this.symm
    have hcc := HK.out.2.symm.trans hck
    simp only [Prod.mk.injEq] at hcc
    obtain ⟨rfl, rfl⟩ := hcc
    go_wp2_with (first | (go_at_call_of 56 (j : Int); refine (HP.out.1 _ (HS.out.2.1.grow (below_new _ _))).mono ?_; rintro r w3 ⟨rfl, hb3⟩; have d1 : w3.cell? ⟨wr.heap.size, 1, none⟩ = some (.int .i64 (m : Int)) := below_cell hb3 (by go_simp); have H3 : Hid (RS w w3 mb (.slice (some ⟨b, o, none⟩) l.length ic) l [] (.slice ad0 0 cap0) rs gv) := HS.out.2.1.grow (below_seq (below_new _ _) hb3); have l3 : wr.heap.size < w3.heap.size := World.block_lt_of_cell? _ _ d1; clear hb3) | (go_at_call_of 56 (m : Int); refine (HP.out.2 _ (H3.out.grow (below_new _ _))).mono ?_; rintro r w5 ⟨rfl, hb5⟩; have e1 : w5.cell? ⟨wr.heap.size, 1, none⟩ = some (.int .i64 (m : Int)) := below_cell hb5 (by go_simp); have h50 : w5.cell? ⟨w3.heap.size, 0, none⟩ = some (.int .i64 (p1 : Int)) := below_cell hb5 (by go_simp); have h51 : w5.cell? ⟨w3.heap.size, 1, none⟩ = some (.int .i64 (p2 : Int)) := below_cell hb5 (by go_simp); have H5 : Hid (RS w w5 mb (.slice (some ⟨b, o, none⟩) l.length ic) l [] (.slice ad0 0 cap0) rs gv) := H3.out.grow (below_seq (below_new _ _) hb5); have cl5 := (cells_of (l := [_]) H5.out.lbk).1 0 _ rfl; have l5 : wr.heap.size < w5.heap.size := World.block_lt_of_cell? _ _ e1; have l53 : w3.heap.size < w5.heap.size := World.block_lt_of_cell? _ _ h50; have l5w : w.heap.size < w5.heap.size := World.block_lt_of_cell? _ _ cl5; clear hb5) | (go_at_call 25; refine (F_any 7 (j : Int) _).mono ?_; rintro r w9 ⟨rfl, hb9⟩; have H9 : Hid (RS w w9 mb (.slice (some ⟨b, o, none⟩) l.length ic) l [] (.slice ad0 0 cap0) rs gv) := H5.out.grow (below_seq (below_new _ _) hb9); obtain ⟨rs9, rf9, rl9⟩ := cells_of (l := [_, _]) H9.out.res; have r90 := rs9 0 _ rfl; have r91 := rs9 1 _ rfl; clear hb9 rs9))
    exact bodyPost_ret (v := .tuple #[.pointer none, .agg #[.int .i64 7, .int .i64 (j : Int)]]) (RI_ends (by simpa using setCell_at (i := 1) (u := .int .i64 (j : Int)) (setCell_at (i := 0) (u := .int .i64 7) H9.out.res)) rfl rfl) rfl ⟨⟨_, rfl, (fun h0 => absurd h0 (by first | decide | assumption | omega))⟩, (H9.out.bel.setCell (by show w.heap.size ≤ w.heap.size + 1; omega) _).setCell (by show w.heap.size ≤ w.heap.size + 1; omega) _⟩

end Go.Proofs.YtgemadoieielcacDoor
