import Derived.Test.YtibcbdihphbfeacDoorGRes
namespace Go.Proofs.YtibcbdihphbfeacDoor
open Go.ChangeShapes Go.WideShapes Go.ChangeAt Go.RowKit
set_option maxRecDepth 20000 in
set_option maxHeartbeats 16000000 in
theorem st_op14 : StP.2.2.2.2.2.2.2.2.2.2.2.2.2.1 := by
 intro w l M ic vc nc vs ins most hv hi hmost i0 hmm vb vo qb qo hlen w3 ub uc _ _ w1 ob wr u9 u10 u16 u17 u18 u19 u20 u21 u22 u28 u29 u30 u31 u32 u33 u34 u35 u36 u37 u38 u39 u40 u41 u42 u43 u44 u45 u46 u47 u48 u49 u50 u51 u52 u53 u54 u55 u56 u57 u58 u59 u60 u61 u62 u63 u64 u65 u66 u67 u68 u69 u70 u71 u72 u73 u74 u75 u76 u77 u78 u79 u80 u81 u82 u83 u84 u85 u86 u87 u88 u89 u90 u91 u92 u93 u94 u95 u96 u97 u98 u99 u100 u101 u102 u103 u104 u105 u106 u107 u108 u109 u110 u111 u112 u113 u114 u115 u116 u117 u118 u119 u120 u121 u122 u123 u124 u125 u126 u127 u128 u129 u130 u131 u132 u133 u134 u135 u136 u137 u138 u139 u140 u141 u142 u143 u144 u145 u146 u147 u148 u149 u150 u151 u152 u153 u154 u155 u156 u157 u158 u159 u160 u161 u162 u163 u164 u165 u166 u167 u168 u169 u170 u171 u172 u173 u174 u175 u176 u177 u178 u179 u180 u181 u182 u183 u184 u185 u186 u187 u188 u189 u190 u191 u192 u193 u194 u195 u196 u197 u198 u199 u200 u201 u202 u203 u204 u205 u206 u207 u208 u209 u210 u211 u212 u213 u214 u215 u216 u217 u218 u219 u220 u221 u222 u223 u224 u225 u226 u227 u228 u229 u230 u231 u232 u233 u234 u235 u236 u237 u238 u239 u240 u241 u242 u243 u244 u245 u246 u247 u248 u249 d N s t tr ta tc hdm htl pa pcc gb gc g80 g81 g82 obf oc o80 o81 o82 hpc hd hdb hpi ib io HG hlow hstl sa sc HS hsb lsb hmf m x1 tt x2 htk hht x0 hform hnx hfo HX HX2
 have hm8 : m < 8 := by have := (form_a hform).2.1 (by simp); simp at this; omega
 have hlk := HX2.out.dm.cmap.look hm8
 have hcl := hlow m
 have hcm := HX2.out.dm.lc
 generalize hcv : s.cs.getD m 0 = cv at *
 have HV : Hid (s.cs.getD m 0 = cv) := hcv
 clear hcv
 by_cases hz : 0 < cv
 ·obtain ⟨w4, hr4, hc4, hg4⟩ := HX2.out.dm.cmap.set HX2.out.dm.lc (by have := HS.out.nn; omega) hm8 (v := cv - 1) (by omega)
  have H4 : Hid (DX w w4 _ _ _ _ _ _ _ _ _ _ _ _ _ _ _ _ _) := HX2.out.setM hg4 hc4
  obtain ⟨⟨q0, q1, q2⟩, -⟩ := H4.out.reads
  have lq := H4.out.lts.1
  clear hc4 hg4
  go_wp2_with (first | (go_at_call 28; refine (ticks_any _ ⟨14, (m : Int), (tt : Int)⟩ true hform).mono ?_; rintro r w5 ⟨rfl, hb5⟩; have H5 : Hid (DX w w5 _ _ _ _ _ _ _ _ _ _ _ _ _ _ _ _ _) := H4.out.grow hb5; have hcz := cost_le hform true; clear hb5) | (at_builtin; refine wp_pushT rfl (.tmp 238) (.tmp 242) rfl (ob + 1 + 1 + 1) (.slice ta d tc) tr s.pc _ w5.heap.size rfl rfl rfl H5.out.dm.stp H5.out.dm.bas (by have := HS.out.len; omega) ?_; intro ad6 c6 w6 ho6 hg6 hv6; have H6 : Hid (DX w w6 _ _ _ _ _ _ _ _ _ _ _ _ _ _ _ _ _) := H5.out.booked s.pc _ ho6 hg6 hv6; obtain ⟨-, -, -, -, -, b2, bf, bl⟩ := H6.out.reads; clear ho6 hg6 hv6))
  refine ⟨?_, by have := HS.out.len; simp [lenOf]; omega⟩
  have hst := HS.out.step HG.out.1 hpc (by omega) HX.out (show mdo ins ⟨14, (m : Int), (tt : Int)⟩ s = ⟨tt, s.st, s.vs, s.cs.set m (cv - 1), s.ps⟩ by have := HV.out; rw [List.getD_eq_getElem?_getD] at this; simp [mdo, nextI, overI, this, hz]) (show costI ⟨14, (m : Int), (tt : Int)⟩ (overI ⟨14, (m : Int), (tt : Int)⟩ s) = costI ⟨14, (m : Int), (tt : Int)⟩ true by have := HV.out; rw [List.getD_eq_getElem?_getD] at this; simp [overI, this, hz]) (N' := (N + 1)) (by omega) ((H6.out.addT _).dm.setPc tt)
  exact ⟨d + 1, (N + 1), _, _, _, _, _, congrArg (Value.int .i64) (rfl), hst⟩
 ·have hz0 : cv = 0 := by omega
  subst hz0
  go_wp2_with (first | (go_at_call 28; refine (ticks_any _ ⟨14, (m : Int), (tt : Int)⟩ false hform).mono ?_; rintro r w5 ⟨rfl, hb5⟩; have H5 : Hid (DX w w5 _ _ _ _ _ _ _ _ _ _ _ _ _ _ _ _ _) := HX2.out.grow hb5; have hcz := cost_le hform false; clear hb5) | (at_builtin; refine wp_pushT rfl (.tmp 238) (.tmp 242) rfl (ob + 1 + 1 + 1) (.slice ta d tc) tr s.pc _ w5.heap.size rfl rfl rfl H5.out.dm.stp H5.out.dm.bas (by have := HS.out.len; omega) ?_; intro ad6 c6 w6 ho6 hg6 hv6; have H6 : Hid (DX w w6 _ _ _ _ _ _ _ _ _ _ _ _ _ _ _ _ _) := H5.out.booked s.pc _ ho6 hg6 hv6; obtain ⟨-, -, -, -, -, b2, bf, bl⟩ := H6.out.reads; clear ho6 hg6 hv6))
  have hset : s.cs.set m 0 = s.cs := by have h1 := HV.out; rw [List.getD_eq_getElem?_getD, List.getElem?_eq_getElem (by omega)] at h1; simp at h1; rw [← h1]; exact List.set_getElem_self (by omega)
  refine ⟨?_, by have := HS.out.len; simp [lenOf]; omega⟩
  have hst := HS.out.step HG.out.1 hpc (by omega) HX.out (show mdo ins ⟨14, (m : Int), (tt : Int)⟩ s = ⟨s.pc + 1, s.st, s.vs, s.cs, s.ps⟩ by have := HV.out; rw [List.getD_eq_getElem?_getD] at this; simp [mdo, nextI, overI, this, hset]) (show costI ⟨14, (m : Int), (tt : Int)⟩ (overI ⟨14, (m : Int), (tt : Int)⟩ s) = costI ⟨14, (m : Int), (tt : Int)⟩ false by have := HV.out; rw [List.getD_eq_getElem?_getD] at this; simp [overI, this]) (N' := N) (by omega) ((H6.out.addT _).dm.setPc (s.pc + 1))
  exact ⟨d + 1, N, _, _, _, _, _, congrArg (Value.int .i64) (show (s.pc : Int) + 1 = ((s.pc + 1 : Nat) : Int) by omega), hst⟩
end Go.Proofs.YtibcbdihphbfeacDoor
