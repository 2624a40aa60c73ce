import Derived.Test.YtibcbdihphbfeacDoorGSSv
import Derived.Test.YtibcbdihphbfeacDoorGYes
namespace Go.Proofs.YtibcbdihphbfeacDoor
open Go.ChangeShapes Go.WideShapes Go.ChangeAt Go.RowKit
set_option maxRecDepth 20000 in
set_option maxHeartbeats 16000000 in
theorem st_op7 : StP.2.2.2.2.2.2.1 := by
 intro w l M ic vc nc vs ins most hv hi hmost i0 hmm vb vo qb qo hlen w3 ub uc _ _ w1 ob wr u9 u10 u16 u17 u18 u19 u20 u21 u22 u28 u29 u30 u31 u32 u33 u34 u35 u36 u37 u38 u39 u40 u41 u42 u43 u44 u45 u46 u47 u48 u49 u50 u51 u52 u53 u54 u55 u56 u57 u58 u59 u60 u61 u62 u63 u64 u65 u66 u67 u68 u69 u70 u71 u72 u73 u74 u75 u76 u77 u78 u79 u80 u81 u82 u83 u84 u85 u86 u87 u88 u89 u90 u91 u92 u93 u94 u95 u96 u97 u98 u99 u100 u101 u102 u103 u104 u105 u106 u107 u108 u109 u110 u111 u112 u113 u114 u115 u116 u117 u118 u119 u120 u121 u122 u123 u124 u125 u126 u127 u128 u129 u130 u131 u132 u133 u134 u135 u136 u137 u138 u139 u140 u141 u142 u143 u144 u145 u146 u147 u148 u149 u150 u151 u152 u153 u154 u155 u156 u157 u158 u159 u160 u161 u162 u163 u164 u165 u166 u167 u168 u169 u170 u171 u172 u173 u174 u175 u176 u177 u178 u179 u180 u181 u182 u183 u184 u185 u186 u187 u188 u189 u190 u191 u192 u193 u194 u195 u196 u197 u198 u199 u200 u201 u202 u203 u204 u205 u206 u207 u208 u209 u210 u211 u212 u213 u214 u215 u216 u217 u218 u219 u220 u221 u222 u223 u224 u225 u226 u227 u228 u229 u230 u231 u232 u233 u234 u235 u236 u237 u238 u239 u240 u241 u242 u243 u244 u245 u246 u247 u248 u249 d N s t tr ta tc hdm htl pa pcc gb gc g80 g81 g82 obf oc o80 o81 o82 hpc hd hdb hpi ib io HG hlow hstl sa sc HS hsb lsb hmf m x1 tt x2 htk hht x0 hform hnx hfo HX HX2
 obtain ⟨n, hn⟩ : ∃ n, s.st.length = n + 2 := ⟨s.st.length - 2, by have : takesOf (Int.toNat 7) = 2 := (by decide); omega⟩
 obtain ⟨b0, rfl, ctop, csec, lb, -, hcap⟩ := HS.out.dm.tops hn
 have csec := csec n rfl
 have hnn : b0 ≠ ob + 1 := by have := (HS.out.dm.stk.lt b0 rfl).1; omega
 have e1 : (s.st.length : Int) = (n : Int) + 2 := by omega
 rw [e1, hn] at HX2
 have hbb : Below wr.heap.size wr ((wr.alloc (.cells #[.int .i64 7, .int .i64 (m : Int), .int .i64 (tt : Int)] 35)).alloc (.cells #[.int .i64 ((n : Int) + 2)] 3)) := (below_new _ _).alloc (by simp) _
 have ct := below_cell hbb ctop
 have ct2 := below_cell hbb csec
 obtain ⟨-, zn, ⟨zs, zf, zl⟩, -⟩ := HX2.out.reads
 have lub := HX2.out.dm.ord
 have lbx := HX2.out.lx
 have lbn := HX2.out.ln
 have hw0 : IntKind.i64.wrap (n : Int) = (n : Int) := by rw [IntKind.wrap_i64]; omega
 have hw1 : IntKind.i64.wrap ((n : Int) + 1) = (n : Int) + 1 := by rw [IntKind.wrap_i64]; omega
 have hw2 : IntKind.i64.wrap ((n : Int) + 2 - 1) = (n : Int) + 1 := by rw [IntKind.wrap_i64]; omega
 have hw3 : IntKind.i64.wrap ((n : Int) + 2 - 2) = (n : Int) := by rw [IntKind.wrap_i64]; omega
 have hnl : (n : Int) < (n : Int) + 2 := by omega
 have hnl1 : (n : Int) + 1 < (n : Int) + 2 := by omega
 have hn0 : (0 : Int) ≤ (n : Int) := by omega
 have hn1 : (0 : Int) ≤ (n : Int) + 1 := by omega
 generalize htp : s.top = tp at *
 generalize hse : s.second = se at *
 have HT : Hid (s.top = tp ∧ s.second = se) := ⟨htp, hse⟩
 clear htp hse
 go_wp2_with fail
 generalize hwz : ((wr.alloc (.cells #[.int .i64 7, .int .i64 (m : Int), .int .i64 (tt : Int)] 35)).alloc (.cells #[.int .i64 ((n : Int) + 2)] 3)) = w2 at *
 clear hwz hbb
 by_cases hcmp : se < tp
 ·have hcb : decide (se < tp) = true := by simpa using hcmp
  have hS0 : w2.drew.cell? ⟨ob + 1, 0, none⟩ = some (.slice (some ⟨b0, 0, none⟩) (n + 2) sc) ∧ w2.drew.cell? ⟨wr.heap.size + 1, 0, none⟩ = some (.int .i64 ((n : Int) + 2)) ∧ w2.drew.cell? ⟨b0, n + 1, none⟩ = some (.int .i64 tp) ∧ w2.drew.cell? ⟨b0, n, none⟩ = some (.int .i64 se) := ⟨zs, zn, ct, ct2⟩
  have H2d : Hid (DX w w2.drew _ _ _ _ _ _ _ _ _ _ _ _ _ _ _ (.slice pa s.ps.length pcc) (.slice ta d tc)) := HX2.out.grow (Below.refl _ _).drew
  refine wp_region_noPanic ?_
  refine wp_region_last (S := fun w' => w'.cell? ⟨ob + 1, 0, none⟩ = some (.slice (some ⟨b0, 0, none⟩) (n + 2) sc) ∧ w'.cell? ⟨wr.heap.size + 1, 0, none⟩ = some (.int .i64 ((n : Int) + 2)) ∧ w'.cell? ⟨b0, n + 1, none⟩ = some (.int .i64 tp) ∧ w'.cell? ⟨b0, n, none⟩ = some (.int .i64 se)) (L := 14) (by kernel_rfl) ?_
  refine takeL_at (i := 0) (n := 130) (v := ?_) rfl rfl (by kernel_rfl) (by kernel_rfl) (by decide) (by kernel_rfl) (by kernel_rfl) (by kernel_rfl) (fun _ _ _ h => h) (Or.inl ⟨by rfl, ?_⟩) (by assumption) ?_
  rotate_left 1
  ·intro wz hSw
   first | (go_simp; done) | (go_simp; with_reducible rfl)
  simp only [List.set_cons_zero, List.set_cons_succ]
  refine takeL_at (i := 1) (n := 131) (v := ?_) rfl rfl (by kernel_rfl) (by kernel_rfl) (by decide) (by kernel_rfl) (by kernel_rfl) (by kernel_rfl) (fun _ _ _ h => h) (Or.inl ⟨by rfl, ?_⟩) (by assumption) ?_
  rotate_left 1
  ·intro wz hSw
   first | (go_simp; done) | (go_simp; with_reducible rfl)
  simp only [List.set_cons_zero, List.set_cons_succ]
  refine takeL_at (i := 2) (n := 132) (v := ?_) rfl rfl (by kernel_rfl) (by kernel_rfl) (by decide) (by kernel_rfl) (by kernel_rfl) (by kernel_rfl) (fun _ _ _ h => h) (Or.inl ⟨by rfl, ?_⟩) (by assumption) ?_
  rotate_left 1
  ·intro wz hSw
   first | (go_simp; done) | (go_simp; with_reducible rfl)
  simp only [List.set_cons_zero, List.set_cons_succ]
  refine takeL_at (i := 3) (n := 133) (v := ?_) rfl rfl (by kernel_rfl) (by kernel_rfl) (by decide) (by kernel_rfl) (by kernel_rfl) (by kernel_rfl) (fun _ _ _ h => h) (Or.inl ⟨by rfl, ?_⟩) (by assumption) ?_
  rotate_left 1
  ·intro wz hSw
   first | (go_simp; done) | (go_simp; with_reducible rfl)
  simp only [List.set_cons_zero, List.set_cons_succ]
  refine takeL_at (i := 4) (n := 134) (v := ?_) rfl rfl (by kernel_rfl) (by kernel_rfl) (by decide) (by kernel_rfl) (by kernel_rfl) (by kernel_rfl) (fun _ _ _ h => h) (Or.inl ⟨by rfl, ?_⟩) (by assumption) ?_
  rotate_left 1
  ·intro wz hSw
   first | (go_simp; done) | (go_simp; with_reducible rfl)
  simp only [List.set_cons_zero, List.set_cons_succ]
  refine takeL_at (i := 5) (n := 135) (v := ?_) rfl rfl (by kernel_rfl) (by kernel_rfl) (by decide) (by kernel_rfl) (by kernel_rfl) (by kernel_rfl) (fun _ _ _ h => h) (Or.inl ⟨by rfl, ?_⟩) (by assumption) ?_
  rotate_left 1
  ·intro wz hSw
   first | (go_simp; done) | (go_simp; with_reducible rfl)
  simp only [List.set_cons_zero, List.set_cons_succ]
  refine takeL_at (i := 6) (n := 136) (v := ?_) rfl rfl (by kernel_rfl) (by kernel_rfl) (by decide) (by kernel_rfl) (by kernel_rfl) (by kernel_rfl) (fun _ _ _ h => h) (Or.inl ⟨by rfl, ?_⟩) (by assumption) ?_
  rotate_left 1
  ·intro wz hSw
   first | (go_simp; done) | (go_simp; with_reducible rfl)
  simp only [List.set_cons_zero, List.set_cons_succ]
  refine takeL_at (i := 7) (n := 137) (v := ?_) rfl rfl (by kernel_rfl) (by kernel_rfl) (by decide) (by kernel_rfl) (by kernel_rfl) (by kernel_rfl) (fun _ _ _ h => h) (Or.inl ⟨by rfl, ?_⟩) (by assumption) ?_
  rotate_left 1
  ·intro wz hSw
   first | (go_simp; done) | (go_simp; with_reducible rfl)
  simp only [List.set_cons_zero, List.set_cons_succ]
  refine takeL_at (i := 8) (n := 138) (v := ?_) rfl rfl (by kernel_rfl) (by kernel_rfl) (by decide) (by kernel_rfl) (by kernel_rfl) (by kernel_rfl) (fun _ _ _ h => h) (Or.inl ⟨by rfl, ?_⟩) (by assumption) ?_
  rotate_left 1
  ·intro wz hSw
   first | (go_simp; done) | (go_simp; with_reducible rfl)
  simp only [List.set_cons_zero, List.set_cons_succ]
  refine takeL_at (i := 9) (n := 139) (v := ?_) rfl rfl (by kernel_rfl) (by kernel_rfl) (by decide) (by kernel_rfl) (by kernel_rfl) (by kernel_rfl) (fun _ _ _ h => h) (Or.inl ⟨by rfl, ?_⟩) (by assumption) ?_
  rotate_left 1
  ·intro wz hSw
   first | (go_simp; done) | (go_simp; with_reducible rfl)
  simp only [List.set_cons_zero, List.set_cons_succ]
  refine takeL_at (i := 10) (n := 140) (v := ?_) rfl rfl (by kernel_rfl) (by kernel_rfl) (by decide) (by kernel_rfl) (by kernel_rfl) (by kernel_rfl) (fun _ _ _ h => h) (Or.inl ⟨by rfl, ?_⟩) (by assumption) ?_
  rotate_left 1
  ·intro wz hSw
   first | (go_simp; done) | (go_simp; with_reducible rfl)
  simp only [List.set_cons_zero, List.set_cons_succ]
  refine takeL_at (i := 11) (n := 141) (v := ?_) rfl rfl (by kernel_rfl) (by kernel_rfl) (by decide) (by kernel_rfl) (by kernel_rfl) (by kernel_rfl) (fun _ _ _ h => h) (Or.inl ⟨by rfl, ?_⟩) (by assumption) ?_
  rotate_left 1
  ·intro wz hSw
   first | (go_simp; done) | (go_simp; with_reducible rfl)
  simp only [List.set_cons_zero, List.set_cons_succ]
  refine takeL_at (i := 12) (n := 142) (v := ?_) rfl rfl (by kernel_rfl) (by kernel_rfl) (by decide) (by kernel_rfl) (by kernel_rfl) (by kernel_rfl) (fun _ _ _ h => h) (Or.inl ⟨by rfl, ?_⟩) (by assumption) ?_
  rotate_left 1
  ·intro wz hSw
   first | (go_simp; done) | (go_simp; with_reducible rfl)
  simp only [List.set_cons_zero, List.set_cons_succ]
  refine wpAnyL_one (i := 13) (by kernel_rfl) rfl (fun K hK => ?_)
  go_simp
  refine (yes_true _).mono ?_
  rintro r w9 ⟨rfl, rfl⟩
  refine hK.out _ _ (fun _ => hS0) ?_
  clear hK K
  refine wpAnyL_one (i := 14) (by kernel_rfl) rfl (fun K hK => ?_)
  go_wp2_with (go_at_call 69; refine (two_any w _ _ _ _ _ _ _ _ _ _ _ s _ _ b0 sc n _ _ _ H2d.out hn (by omega)).mono ?_; rintro r w4 ⟨rfl, sv4, hdx⟩; have H4 : Hid (DX w w4 _ _ _ _ _ _ _ _ _ _ _ _ _ _ sv4 (.slice pa s.ps.length pcc) (.slice ta d tc)) := hdx; clear hdx)
  refine hK.out _ _ (fun h => absurd rfl h) ?_
  clear hK K
  refine wpAnyL_done (by kernel_rfl) ?_ _
  refine NoPanic.normal ?_
  obtain ⟨⟨q0, q1, q2⟩, -⟩ := H4.out.reads
  try dsimp only at q0 q1 q2
  have lq := H4.out.lts.1
  go_wp2_with (first | (go_at_call 28; refine (ticks_any _ ⟨7, (m : Int), (tt : Int)⟩ false hform).mono ?_; rintro r w5 ⟨rfl, hb5⟩; have H5 : Hid (DX w w5 _ _ _ _ _ _ _ _ _ _ _ _ _ _ _ _ _) := H4.out.grow hb5; have hcz := cost_le hform false; clear hb5) | (at_builtin; refine wp_pushT rfl (.tmp 238) (.tmp 242) rfl (ob + 1 + 1 + 1) (.slice ta d tc) tr s.pc _ w5.heap.size rfl rfl rfl H5.out.dm.stp H5.out.dm.bas (by have := HS.out.len; omega) ?_; intro ad6 c6 w6 ho6 hg6 hv6; have H6 : Hid (DX w w6 _ _ _ _ _ _ _ _ _ _ _ _ _ _ _ _ _) := H5.out.booked s.pc _ ho6 hg6 hv6; obtain ⟨-, -, -, -, -, b2, bf, bl⟩ := H6.out.reads; clear ho6 hg6 hv6))
  refine ⟨?_, by have := HS.out.len; simp [lenOf]; omega⟩
  have hst := HS.out.step HG.out.1 hpc (by omega) HX.out (by obtain ⟨rfl, rfl⟩ := HT.out; simp [mdo, nextI, overI, binI, hcmp]) rfl (N' := N) (by omega) ((H6.out.addT _).dm.setPc (s.pc + 1))
  exact ⟨d + 1, N, _, _, _, _, _, congrArg (Value.int .i64) (show (s.pc : Int) + 1 = ((s.pc + 1 : Nat) : Int) by omega), hst⟩
 ·have hcb : decide (se < tp) = false := by simpa using hcmp
  have hS0 : w2.drew.cell? ⟨ob + 1, 0, none⟩ = some (.slice (some ⟨b0, 0, none⟩) (n + 2) sc) ∧ w2.drew.cell? ⟨wr.heap.size + 1, 0, none⟩ = some (.int .i64 ((n : Int) + 2)) ∧ w2.drew.cell? ⟨b0, n + 1, none⟩ = some (.int .i64 tp) ∧ w2.drew.cell? ⟨b0, n, none⟩ = some (.int .i64 se) := ⟨zs, zn, ct, ct2⟩
  have H2d : Hid (DX w w2.drew _ _ _ _ _ _ _ _ _ _ _ _ _ _ _ (.slice pa s.ps.length pcc) (.slice ta d tc)) := HX2.out.grow (Below.refl _ _).drew
  refine wp_region_noPanic ?_
  refine wp_region_last (S := fun w' => w'.cell? ⟨ob + 1, 0, none⟩ = some (.slice (some ⟨b0, 0, none⟩) (n + 2) sc) ∧ w'.cell? ⟨wr.heap.size + 1, 0, none⟩ = some (.int .i64 ((n : Int) + 2)) ∧ w'.cell? ⟨b0, n + 1, none⟩ = some (.int .i64 tp) ∧ w'.cell? ⟨b0, n, none⟩ = some (.int .i64 se)) (L := 14) (by kernel_rfl) ?_
  refine takeL_at (i := 0) (n := 130) (v := ?_) rfl rfl (by kernel_rfl) (by kernel_rfl) (by decide) (by kernel_rfl) (by kernel_rfl) (by kernel_rfl) (fun _ _ _ h => h) (Or.inl ⟨by rfl, ?_⟩) (by assumption) ?_
  rotate_left 1
  ·intro wz hSw
   first | (go_simp; done) | (go_simp; with_reducible rfl)
  simp only [List.set_cons_zero, List.set_cons_succ]
  refine takeL_at (i := 1) (n := 131) (v := ?_) rfl rfl (by kernel_rfl) (by kernel_rfl) (by decide) (by kernel_rfl) (by kernel_rfl) (by kernel_rfl) (fun _ _ _ h => h) (Or.inl ⟨by rfl, ?_⟩) (by assumption) ?_
  rotate_left 1
  ·intro wz hSw
   first | (go_simp; done) | (go_simp; with_reducible rfl)
  simp only [List.set_cons_zero, List.set_cons_succ]
  refine takeL_at (i := 2) (n := 132) (v := ?_) rfl rfl (by kernel_rfl) (by kernel_rfl) (by decide) (by kernel_rfl) (by kernel_rfl) (by kernel_rfl) (fun _ _ _ h => h) (Or.inl ⟨by rfl, ?_⟩) (by assumption) ?_
  rotate_left 1
  ·intro wz hSw
   first | (go_simp; done) | (go_simp; with_reducible rfl)
  simp only [List.set_cons_zero, List.set_cons_succ]
  refine takeL_at (i := 3) (n := 133) (v := ?_) rfl rfl (by kernel_rfl) (by kernel_rfl) (by decide) (by kernel_rfl) (by kernel_rfl) (by kernel_rfl) (fun _ _ _ h => h) (Or.inl ⟨by rfl, ?_⟩) (by assumption) ?_
  rotate_left 1
  ·intro wz hSw
   first | (go_simp; done) | (go_simp; with_reducible rfl)
  simp only [List.set_cons_zero, List.set_cons_succ]
  refine takeL_at (i := 4) (n := 134) (v := ?_) rfl rfl (by kernel_rfl) (by kernel_rfl) (by decide) (by kernel_rfl) (by kernel_rfl) (by kernel_rfl) (fun _ _ _ h => h) (Or.inl ⟨by rfl, ?_⟩) (by assumption) ?_
  rotate_left 1
  ·intro wz hSw
   first | (go_simp; done) | (go_simp; with_reducible rfl)
  simp only [List.set_cons_zero, List.set_cons_succ]
  refine takeL_at (i := 5) (n := 135) (v := ?_) rfl rfl (by kernel_rfl) (by kernel_rfl) (by decide) (by kernel_rfl) (by kernel_rfl) (by kernel_rfl) (fun _ _ _ h => h) (Or.inl ⟨by rfl, ?_⟩) (by assumption) ?_
  rotate_left 1
  ·intro wz hSw
   first | (go_simp; done) | (go_simp; with_reducible rfl)
  simp only [List.set_cons_zero, List.set_cons_succ]
  refine takeL_at (i := 6) (n := 136) (v := ?_) rfl rfl (by kernel_rfl) (by kernel_rfl) (by decide) (by kernel_rfl) (by kernel_rfl) (by kernel_rfl) (fun _ _ _ h => h) (Or.inl ⟨by rfl, ?_⟩) (by assumption) ?_
  rotate_left 1
  ·intro wz hSw
   first | (go_simp; done) | (go_simp; with_reducible rfl)
  simp only [List.set_cons_zero, List.set_cons_succ]
  refine takeL_at (i := 7) (n := 137) (v := ?_) rfl rfl (by kernel_rfl) (by kernel_rfl) (by decide) (by kernel_rfl) (by kernel_rfl) (by kernel_rfl) (fun _ _ _ h => h) (Or.inl ⟨by rfl, ?_⟩) (by assumption) ?_
  rotate_left 1
  ·intro wz hSw
   first | (go_simp; done) | (go_simp; with_reducible rfl)
  simp only [List.set_cons_zero, List.set_cons_succ]
  refine takeL_at (i := 8) (n := 138) (v := ?_) rfl rfl (by kernel_rfl) (by kernel_rfl) (by decide) (by kernel_rfl) (by kernel_rfl) (by kernel_rfl) (fun _ _ _ h => h) (Or.inl ⟨by rfl, ?_⟩) (by assumption) ?_
  rotate_left 1
  ·intro wz hSw
   first | (go_simp; done) | (go_simp; with_reducible rfl)
  simp only [List.set_cons_zero, List.set_cons_succ]
  refine takeL_at (i := 9) (n := 139) (v := ?_) rfl rfl (by kernel_rfl) (by kernel_rfl) (by decide) (by kernel_rfl) (by kernel_rfl) (by kernel_rfl) (fun _ _ _ h => h) (Or.inl ⟨by rfl, ?_⟩) (by assumption) ?_
  rotate_left 1
  ·intro wz hSw
   first | (go_simp; done) | (go_simp; with_reducible rfl)
  simp only [List.set_cons_zero, List.set_cons_succ]
  refine takeL_at (i := 10) (n := 140) (v := ?_) rfl rfl (by kernel_rfl) (by kernel_rfl) (by decide) (by kernel_rfl) (by kernel_rfl) (by kernel_rfl) (fun _ _ _ h => h) (Or.inl ⟨by rfl, ?_⟩) (by assumption) ?_
  rotate_left 1
  ·intro wz hSw
   first | (go_simp; done) | (go_simp; with_reducible rfl)
  simp only [List.set_cons_zero, List.set_cons_succ]
  refine takeL_at (i := 11) (n := 141) (v := ?_) rfl rfl (by kernel_rfl) (by kernel_rfl) (by decide) (by kernel_rfl) (by kernel_rfl) (by kernel_rfl) (fun _ _ _ h => h) (Or.inl ⟨by rfl, ?_⟩) (by assumption) ?_
  rotate_left 1
  ·intro wz hSw
   first | (go_simp; done) | (go_simp; with_reducible rfl)
  simp only [List.set_cons_zero, List.set_cons_succ]
  refine takeL_at (i := 12) (n := 142) (v := ?_) rfl rfl (by kernel_rfl) (by kernel_rfl) (by decide) (by kernel_rfl) (by kernel_rfl) (by kernel_rfl) (fun _ _ _ h => h) (Or.inl ⟨by rfl, ?_⟩) (by assumption) ?_
  rotate_left 1
  ·intro wz hSw
   first | (go_simp; done) | (go_simp; with_reducible rfl)
  simp only [List.set_cons_zero, List.set_cons_succ]
  refine wpAnyL_one (i := 13) (by kernel_rfl) rfl (fun K hK => ?_)
  go_simp
  refine (yes_false _).mono ?_
  rintro r w9 ⟨rfl, rfl⟩
  refine hK.out _ _ (fun _ => hS0) ?_
  clear hK K
  refine wpAnyL_one (i := 14) (by kernel_rfl) rfl (fun K hK => ?_)
  go_wp2_with (go_at_call 69; refine (two_any w _ _ _ _ _ _ _ _ _ _ _ s _ _ b0 sc n _ _ _ H2d.out hn (by omega)).mono ?_; rintro r w4 ⟨rfl, sv4, hdx⟩; have H4 : Hid (DX w w4 _ _ _ _ _ _ _ _ _ _ _ _ _ _ sv4 (.slice pa s.ps.length pcc) (.slice ta d tc)) := hdx; clear hdx)
  refine hK.out _ _ (fun h => absurd rfl h) ?_
  clear hK K
  refine wpAnyL_done (by kernel_rfl) ?_ _
  refine NoPanic.normal ?_
  obtain ⟨⟨q0, q1, q2⟩, -⟩ := H4.out.reads
  try dsimp only at q0 q1 q2
  have lq := H4.out.lts.1
  go_wp2_with (first | (go_at_call 28; refine (ticks_any _ ⟨7, (m : Int), (tt : Int)⟩ false hform).mono ?_; rintro r w5 ⟨rfl, hb5⟩; have H5 : Hid (DX w w5 _ _ _ _ _ _ _ _ _ _ _ _ _ _ _ _ _) := H4.out.grow hb5; have hcz := cost_le hform false; clear hb5) | (at_builtin; refine wp_pushT rfl (.tmp 238) (.tmp 242) rfl (ob + 1 + 1 + 1) (.slice ta d tc) tr s.pc _ w5.heap.size rfl rfl rfl H5.out.dm.stp H5.out.dm.bas (by have := HS.out.len; omega) ?_; intro ad6 c6 w6 ho6 hg6 hv6; have H6 : Hid (DX w w6 _ _ _ _ _ _ _ _ _ _ _ _ _ _ _ _ _) := H5.out.booked s.pc _ ho6 hg6 hv6; obtain ⟨-, -, -, -, -, b2, bf, bl⟩ := H6.out.reads; clear ho6 hg6 hv6))
  refine ⟨?_, by have := HS.out.len; simp [lenOf]; omega⟩
  have hst := HS.out.step HG.out.1 hpc (by omega) HX.out (by obtain ⟨rfl, rfl⟩ := HT.out; simp [mdo, nextI, overI, binI, hcmp]) rfl (N' := N) (by omega) ((H6.out.addT _).dm.setPc (s.pc + 1))
  exact ⟨d + 1, N, _, _, _, _, _, congrArg (Value.int .i64) (show (s.pc : Int) + 1 = ((s.pc + 1 : Nat) : Int) by omega), hst⟩
end Go.Proofs.YtibcbdihphbfeacDoor
