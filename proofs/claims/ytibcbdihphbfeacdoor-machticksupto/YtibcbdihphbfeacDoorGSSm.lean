import Derived.Test.YtibcbdihphbfeacDoorGSSy
namespace Go.Proofs.YtibcbdihphbfeacDoor
open Go.ChangeShapes Go.WideShapes Go.ChangeAt Go.RowKit
def lenOf : Value → Nat
 | .slice _ n _ => n
 | _ => 0
set_option maxRecDepth 20000 in
set_option maxHeartbeats 16000000 in
def StP : (P0 : Prop) ×' (P1 : Prop) ×' (P2 : Prop) ×' (P3 : Prop) ×' (P4 : Prop) ×' (P5 : Prop) ×' (P6 : Prop) ×' (P7 : Prop) ×' (P8 : Prop) ×' (P9 : Prop) ×' (P10 : Prop) ×' (P11 : Prop) ×' (P12 : Prop) ×' (P13 : Prop) ×' (P14 : Prop) ×' (P15 : Prop) ×' (P16 : Prop) ×' (P17 : Prop) ×' (RIB P0 → RIB P1 → RIB P2 → RIB P3 → RIB P4 → RIB P5 → RIB P6 → RIB P7 → RIB P8 → RIB P9 → RIB P10 → RIB P11 → RIB P12 → RIB P13 → RIB P14 → RIB P15 → RIB P16 → RIB P17 → ∀ (w : World) (l : List In) (M : Int → Option Int) (iad : Option Addr) (ic : Nat) (vad nad : Option Addr) (vc nc : Nat) (vs ins : List Int) (most : Nat) (_ : GoodI l M) (_ : InSl w l (.slice iad l.length ic)) (_ : vs.length = 8) (_ : ins.length = 4) (_ : IntSl w vs (.slice vad vs.length vc)) (_ : IntSl w ins (.slice nad ins.length nc)) (_ : most ≤ 20001), Calls Tryd.prog 41 #[.slice iad l.length ic, .slice vad 8 vc, .slice nad 4 nc, .int .i64 (most : Int)] w (StepsPost w l ins vs most)) := by
 apply PSigma.mk
 apply PSigma.mk
 apply PSigma.mk
 apply PSigma.mk
 apply PSigma.mk
 apply PSigma.mk
 apply PSigma.mk
 apply PSigma.mk
 apply PSigma.mk
 apply PSigma.mk
 apply PSigma.mk
 apply PSigma.mk
 apply PSigma.mk
 apply PSigma.mk
 apply PSigma.mk
 apply PSigma.mk
 apply PSigma.mk
 apply PSigma.mk
 ·intro hp_op1 hp_op2 hp_op3 hp_op4 hp_op5 hp_op6 hp_op7 hp_op8 hp_op9 hp_op10 hp_op11 hp_op12 hp_op13 hp_op14 hp_op15 hp_op16 hp_op17 hp_op18
  intro w l M iad ic vad nad vc nc vs ins most g h hv hi hvs hins hmost
  obtain ⟨i0, hi0, hz0, hz1, hz2⟩ := info_parts info3
  have hmm := @run_makeMap Tryd.prog
  obtain ⟨vb, vo, rfl, hvr⟩ : ∃ b o, vad = some ⟨b, o, none⟩ ∧ ∀ j, j < vs.length → w.cell? ⟨b, o + j, none⟩ = some (.int .i64 (vs.getD j 0)) := by
   obtain ⟨ad, c, e, h0 | ⟨b, o, e2, h2⟩⟩ := hvs
   ·rw [h0] at hv; simp at hv
   ·cases e; exact ⟨b, o, e2, h2⟩
  obtain ⟨qb, qo, rfl, hnr⟩ : ∃ b o, nad = some ⟨b, o, none⟩ ∧ ∀ j, j < ins.length → w.cell? ⟨b, o + j, none⟩ = some (.int .i64 (ins.getD j 0)) := by
   obtain ⟨ad, c, e, h0 | ⟨b, o, e2, h2⟩⟩ := hins
   ·rw [h0] at hi; simp at hi
   ·cases e; exact ⟨b, o, e2, h2⟩
  have hlen := g.len
  have hmade := World.ownsRow_made (w.alloc (.cells #[.slice none 0 0, .slice none 0 0, .int .i64 0] 27)) (e := 3) (size := 1) #[] 0 (Nat.le_refl _) (Nat.zero_le _) rfl
  rw [show (w.alloc (.cells #[.slice none 0 0, .slice none 0 0, .int .i64 0] 27)).heap.size = w.heap.size + 1 by simp] at hmade
  have hcell : ∀ j u, (intVs vs)[j]? = some u → ((w.alloc (.cells #[.slice none 0 0, .slice none 0 0, .int .i64 0] 27)).alloc (.cells #[] 3)).cell? ((⟨vb, vo, none⟩ : Addr).add j) = some u := by
   intro j u hj
   have hjl : j < vs.length := by have := (List.getElem?_eq_some_iff.1 hj).1; simpa [intVs] using this
   rw [Addr.add_lit]
   refine below_cell ((below_new _ _).alloc (by simp) _) ?_
   rw [hvr j hjl]
   rw [intVs_at hjl] at hj
   exact hj
  have HG : Hid (GoodI l M ∧ InSl w l (.slice iad l.length ic) ∧ (∀ j, j < 4 → w.cell? ⟨qb, qo + j, none⟩ = some (.int .i64 (ins.getD j 0)))) := ⟨g, h, fun j hj => hnr j (by omega)⟩
  have HC : Hid _ := hcell
  have HM : Hid _ := hmade
  clear g h hvs hins hvr hnr hcell hmade
  go_enter Tryd.func41, Tryd.ntmps41
  go_wp2_with (at_builtin; refine append_mine _ rfl (.tmp 23) (.tmp 24) 23 rfl (w.heap.size + 1) 3 i0 _ 1 8 Tryd.underlying23 hi0 hz0 hz1 hz2 rfl (by decide) (.slice (some ⟨w.heap.size + 1, 0, none⟩) 0 0) 0 [] rfl HM.out ⟨vb, vo, none⟩ 8 vc (intVs vs) rfl (by rw [intVs_length, hv]) HC.out (fun u hu => intVs_one hu) (by omega) (by unfold maxLen; omega) (by omega) (by simp) ?_; intro v3 w3 hown3 hg3 hv3; have hwa : w3.ownsRow (w.heap.size + 1) 3 1 v3 vs.length (intVs vs) := (by rw [hv]; simpa using hown3); obtain ⟨ub, uc, ev, hvb, hub⟩ := VB.of_owns hwa hv; subst ev; have hb3 : Below w.heap.size w w3 := (((below_new w (.cells #[.slice none 0 0, .slice none 0 0, .int .i64 0] 27)).alloc (by simp) (.cells #[] 3)).grown hg3 (by simp; omega) (by intro k hk; simp [Value.ownBlock] at hk; omega)); have hg8 : w3.heap[w.heap.size]? = some (.cells #[.slice none 0 0, .slice none 0 0, .int .i64 0] 27 (0, 0)) := ((hg3.block w.heap.size (by simp; omega) (by simp [Value.ownBlock])).trans ((Below.heap_alloc _ _ _ (by simp)).trans (heap_alloc_new _ _))); have H3 : Hid (_ ∧ _ ∧ _ ∧ _) := ⟨hb3, hg8, hvb, hub⟩; clear hown3 hg3 hv3 hwa hvb hb3 hg8)
  have D0 : Hid (SR w (((w3.alloc (.cells #[.slice (some ⟨ub, 0, none⟩) 8 uc, .slice none 0 0, .int .i64 0] 27)).alloc (.cells #[.slice none 0 0] 23)).alloc (.map #[] 0)) l M ins vs most w3.heap.size ub (w3.heap.size + 1) (w3.heap.size + 1 + 1) (w3.heap.size + 1 + 1 + 1) uc 0 0 (ms0 vs) 0 [] (.slice none 0 0) (.slice none 0 0) (.slice none 0 0)) := ⟨DM.start H3.out.1 H3.out.2.1 H3.out.2.2.1 (by have := H3.out.2.2.2; omega), MI.start HG.out.1 hv, rfl, Nat.zero_le _, Nat.le_refl _, Nat.le_refl _, by omega, rfl, rfl⟩
  clear H3 hub HC HM hi0 hz0 hz1 hz2
  generalize (((w3.alloc (.cells #[.slice (some ⟨ub, 0, none⟩) 8 uc, .slice none 0 0, .int .i64 0] 27)).alloc (.cells #[.slice none 0 0] 23)).alloc (.map #[] 0)) = w1 at *
  generalize w3.heap.size = ob at *
  go_loopw [12, 15] (fun st pc wr => ∃ (d N : Nat) (s : MS) (t : Int) (tr : List (Nat × Int)) (sv pv : Value), pc = .int .i64 (s.pc : Int) ∧ SR w wr l M ins vs most ob ub (ob + 1) (ob + 1 + 1) (ob + 1 + 1 + 1) uc d N s t tr sv pv st) (fun st _ _ => most - lenOf st)
  case atStart => exact ⟨0, 0, ms0 vs, 0, [], _, _, rfl, D0.out⟩
  case round =>
   clear D0
   obtain ⟨d, N, s, t, tr, sv, pv, rfl, hsr⟩ := hrel
   obtain ⟨ta, tc, etv⟩ := owns_value hsr.dm.stp
   rw [hsr.len] at etv
   have hdm := hsr.le
   have htl := hsr.tl
   subst etv
   obtain ⟨pa, pcc, epv⟩ := owns_value hsr.dm.pts
   subst epv
   obtain ⟨ga, gb, gc⟩ := cells_of (l := [_, _, _]) hsr.dm.g8
   have g80 := ga 0 _ rfl
   have g81 := ga 1 _ rfl
   have g82 := ga 2 _ rfl
   obtain ⟨oa, obf, oc⟩ := cells_of (l := [_, _, _]) hsr.dm.out
   have o80 := oa 0 _ rfl
   have o81 := oa 1 _ rfl
   have o82 := oa 2 _ rfl
   have HS : Hid (SR w wr l M ins vs most ob ub (ob + 1) (ob + 1 + 1) (ob + 1 + 1 + 1) uc d N s t tr sv (.slice pa s.ps.length pcc) (.slice ta d tc)) := hsr
   clear hsr ga oa
   by_cases hpc : s.pc < l.length
   ·by_cases hd : d = most
    ·have hpi : (s.pc : Int) < (l.length : Int) := by omega
     have hdb : ((d : Int) == (most : Int)) = true := by rw [hd]; simp
     have HE : Hid (lastF l ins most (ms0 vs) 0 = (s, t) ∧ traceF l ins most (ms0 vs) = tr) := ⟨HS.out.last.symm.trans (by rw [hd, Nat.sub_self]; rfl), HS.out.trace.symm.trans (by rw [hd, Nat.sub_self]; simp [traceF])⟩
     go_wp2_with fail
     obtain ⟨k1, k2, k3, k4, k5, k6⟩ := HS.out.dm.told (.slice (some ⟨ub, 0, none⟩) 8 uc) (.slice pa s.ps.length pcc) (.int .i64 t)
     refine bodyPost_ret (v := .tuple #[.agg #[.slice (some ⟨ub, 0, none⟩) 8 uc, .slice pa s.ps.length pcc, .int .i64 t], .slice ta d tc, .bool false]) (Steps_ends k1 rfl rfl rfl) rfl ⟨k2, _, _, _, ?_, by rw [HE.out.1]; exact k3, by rw [HE.out.1]; exact k4, by rw [HE.out.2]; exact k5, k6⟩
     rw [HE.out.1, show decide (s.pc = l.length) = false by simp; omega]
    ·have hdb : ((d : Int) == (most : Int)) = false := by simp; omega
     have hpi : (s.pc : Int) < (l.length : Int) := by omega
     obtain ⟨iad', ic', e, himg⟩ := HG.out.2.1.below HS.out.dm.bel
     cases e
     rcases himg with h0 | ⟨ib, io, rfl, himg⟩
     ·rw [h0] at hpc; simp at hpc
     obtain ⟨x0, x1, x2⟩ := himg s.pc hpc
     obtain ⟨hform, htk, hht, hnx⟩ := MI.here HG.out.1 HS.out.mi hpc
     have hlow := HS.out.mi.low
     have hstl : s.st.length ≤ 1000 := by have t1 := takes_le (m := (atI l s).op.toNat) (by have := form_op hform; omega); omega
     change wr.cell? _ = some (.int .i64 (atI l s).op) at x0
     change wr.cell? _ = some (.int .i64 (atI l s).a) at x1
     change wr.cell? _ = some (.int .i64 (atI l s).b) at x2
     have hfa := form_a hform
     have hfo := form_op hform
     generalize hx : atI l s = x at *
     have HX : Hid (atI l s = x) := hx
     clear hx himg
     obtain ⟨xo, xa, xb⟩ := x
     dsimp only at x0 x1 x2 hfa hfo htk hht
     obtain ⟨sa, sc, esv⟩ := owns_value HS.out.dm.stk
     subst esv
     have hsb := (cells_of (l := [_]) HS.out.dm.sbx).1 0 _ rfl
     have lsb := (cells_of (l := [_]) HS.out.dm.sbx).2.2
     have HX2 : Hid (DX w ((wr.alloc (.cells #[.int .i64 xo, .int .i64 xa, .int .i64 xb] 35)).alloc (.cells #[.int .i64 (s.st.length : Int)] 3)) ob ub (ob + 1) (ob + 1 + 1) (ob + 1 + 1 + 1) N uc wr.heap.size (wr.heap.size + 1) ⟨xo, xa, xb⟩ (s.st.length : Int) s t tr (.slice sa s.st.length sc) (.slice pa s.ps.length pcc) (.slice ta d tc)) := DX.start HS.out.dm ⟨xo, xa, xb⟩ _
     have hmf : ∀ (fn : Fn) (first cap : Array Value) (w : World), (Instr.makeFunc fn first cap).run Tryd.prog w = .ok (.func fn first cap) w := fun _ _ _ _ => rfl
     obtain ⟨m, rfl⟩ : ∃ m : Nat, xa = m := ⟨xa.toNat, by have := hfa.1; omega⟩
     obtain ⟨tt, rfl⟩ : ∃ tt : Nat, xb = tt := ⟨xb.toNat, by have := hfo.2.2.2.2.1; omega⟩
     clear hfa
     rcases eighteen hfo.1 hfo.2.1 with e | e | e | e | e | e | e | e | e | e | e | e | e | e | e | e | e | e <;> subst e
     ·rename_i zq1 zq2
      revert w l M ic vc nc vs ins most hv hi hmost i0 hmm vb vo qb qo hlen w3 ub uc zq1 zq2 w1 ob wr u9 u10 u16 u17 u18 u19 u20 u21 u22 u28 u29 u30 u31 u32 u33 u34 u35 u36 u37 u38 u39 u40 u41 u42 u43 u44 u45 u46 u47 u48 u49 u50 u51 u52 u53 u54 u55 u56 u57 u58 u59 u60 u61 u62 u63 u64 u65 u66 u67 u68 u69 u70 u71 u72 u73 u74 u75 u76 u77 u78 u79 u80 u81 u82 u83 u84 u85 u86 u87 u88 u89 u90 u91 u92 u93 u94 u95 u96 u97 u98 u99 u100 u101 u102 u103 u104 u105 u106 u107 u108 u109 u110 u111 u112 u113 u114 u115 u116 u117 u118 u119 u120 u121 u122 u123 u124 u125 u126 u127 u128 u129 u130 u131 u132 u133 u134 u135 u136 u137 u138 u139 u140 u141 u142 u143 u144 u145 u146 u147 u148 u149 u150 u151 u152 u153 u154 u155 u156 u157 u158 u159 u160 u161 u162 u163 u164 u165 u166 u167 u168 u169 u170 u171 u172 u173 u174 u175 u176 u177 u178 u179 u180 u181 u182 u183 u184 u185 u186 u187 u188 u189 u190 u191 u192 u193 u194 u195 u196 u197 u198 u199 u200 u201 u202 u203 u204 u205 u206 u207 u208 u209 u210 u211 u212 u213 u214 u215 u216 u217 u218 u219 u220 u221 u222 u223 u224 u225 u226 u227 u228 u229 u230 u231 u232 u233 u234 u235 u236 u237 u238 u239 u240 u241 u242 u243 u244 u245 u246 u247 u248 u249 d N s t tr ta tc hdm htl pa pcc gb gc g80 g81 g82 obf oc o80 o81 o82 hpc hd hdb hpi ib io HG hlow hstl sa sc HS hsb lsb hmf m x1 tt x2 htk hht x0 hform hnx hfo HX HX2
      exact hp_op1.out
     ·rename_i zq1 zq2
      revert w l M ic vc nc vs ins most hv hi hmost i0 hmm vb vo qb qo hlen w3 ub uc zq1 zq2 w1 ob wr u9 u10 u16 u17 u18 u19 u20 u21 u22 u28 u29 u30 u31 u32 u33 u34 u35 u36 u37 u38 u39 u40 u41 u42 u43 u44 u45 u46 u47 u48 u49 u50 u51 u52 u53 u54 u55 u56 u57 u58 u59 u60 u61 u62 u63 u64 u65 u66 u67 u68 u69 u70 u71 u72 u73 u74 u75 u76 u77 u78 u79 u80 u81 u82 u83 u84 u85 u86 u87 u88 u89 u90 u91 u92 u93 u94 u95 u96 u97 u98 u99 u100 u101 u102 u103 u104 u105 u106 u107 u108 u109 u110 u111 u112 u113 u114 u115 u116 u117 u118 u119 u120 u121 u122 u123 u124 u125 u126 u127 u128 u129 u130 u131 u132 u133 u134 u135 u136 u137 u138 u139 u140 u141 u142 u143 u144 u145 u146 u147 u148 u149 u150 u151 u152 u153 u154 u155 u156 u157 u158 u159 u160 u161 u162 u163 u164 u165 u166 u167 u168 u169 u170 u171 u172 u173 u174 u175 u176 u177 u178 u179 u180 u181 u182 u183 u184 u185 u186 u187 u188 u189 u190 u191 u192 u193 u194 u195 u196 u197 u198 u199 u200 u201 u202 u203 u204 u205 u206 u207 u208 u209 u210 u211 u212 u213 u214 u215 u216 u217 u218 u219 u220 u221 u222 u223 u224 u225 u226 u227 u228 u229 u230 u231 u232 u233 u234 u235 u236 u237 u238 u239 u240 u241 u242 u243 u244 u245 u246 u247 u248 u249 d N s t tr ta tc hdm htl pa pcc gb gc g80 g81 g82 obf oc o80 o81 o82 hpc hd hdb hpi ib io HG hlow hstl sa sc HS hsb lsb hmf m x1 tt x2 htk hht x0 hform hnx hfo HX HX2
      exact hp_op2.out
     ·rename_i zq1 zq2
      revert w l M ic vc nc vs ins most hv hi hmost i0 hmm vb vo qb qo hlen w3 ub uc zq1 zq2 w1 ob wr u9 u10 u16 u17 u18 u19 u20 u21 u22 u28 u29 u30 u31 u32 u33 u34 u35 u36 u37 u38 u39 u40 u41 u42 u43 u44 u45 u46 u47 u48 u49 u50 u51 u52 u53 u54 u55 u56 u57 u58 u59 u60 u61 u62 u63 u64 u65 u66 u67 u68 u69 u70 u71 u72 u73 u74 u75 u76 u77 u78 u79 u80 u81 u82 u83 u84 u85 u86 u87 u88 u89 u90 u91 u92 u93 u94 u95 u96 u97 u98 u99 u100 u101 u102 u103 u104 u105 u106 u107 u108 u109 u110 u111 u112 u113 u114 u115 u116 u117 u118 u119 u120 u121 u122 u123 u124 u125 u126 u127 u128 u129 u130 u131 u132 u133 u134 u135 u136 u137 u138 u139 u140 u141 u142 u143 u144 u145 u146 u147 u148 u149 u150 u151 u152 u153 u154 u155 u156 u157 u158 u159 u160 u161 u162 u163 u164 u165 u166 u167 u168 u169 u170 u171 u172 u173 u174 u175 u176 u177 u178 u179 u180 u181 u182 u183 u184 u185 u186 u187 u188 u189 u190 u191 u192 u193 u194 u195 u196 u197 u198 u199 u200 u201 u202 u203 u204 u205 u206 u207 u208 u209 u210 u211 u212 u213 u214 u215 u216 u217 u218 u219 u220 u221 u222 u223 u224 u225 u226 u227 u228 u229 u230 u231 u232 u233 u234 u235 u236 u237 u238 u239 u240 u241 u242 u243 u244 u245 u246 u247 u248 u249 d N s t tr ta tc hdm htl pa pcc gb gc g80 g81 g82 obf oc o80 o81 o82 hpc hd hdb hpi ib io HG hlow hstl sa sc HS hsb lsb hmf m x1 tt x2 htk hht x0 hform hnx hfo HX HX2
      exact hp_op3.out
     ·rename_i zq1 zq2
      revert w l M ic vc nc vs ins most hv hi hmost i0 hmm vb vo qb qo hlen w3 ub uc zq1 zq2 w1 ob wr u9 u10 u16 u17 u18 u19 u20 u21 u22 u28 u29 u30 u31 u32 u33 u34 u35 u36 u37 u38 u39 u40 u41 u42 u43 u44 u45 u46 u47 u48 u49 u50 u51 u52 u53 u54 u55 u56 u57 u58 u59 u60 u61 u62 u63 u64 u65 u66 u67 u68 u69 u70 u71 u72 u73 u74 u75 u76 u77 u78 u79 u80 u81 u82 u83 u84 u85 u86 u87 u88 u89 u90 u91 u92 u93 u94 u95 u96 u97 u98 u99 u100 u101 u102 u103 u104 u105 u106 u107 u108 u109 u110 u111 u112 u113 u114 u115 u116 u117 u118 u119 u120 u121 u122 u123 u124 u125 u126 u127 u128 u129 u130 u131 u132 u133 u134 u135 u136 u137 u138 u139 u140 u141 u142 u143 u144 u145 u146 u147 u148 u149 u150 u151 u152 u153 u154 u155 u156 u157 u158 u159 u160 u161 u162 u163 u164 u165 u166 u167 u168 u169 u170 u171 u172 u173 u174 u175 u176 u177 u178 u179 u180 u181 u182 u183 u184 u185 u186 u187 u188 u189 u190 u191 u192 u193 u194 u195 u196 u197 u198 u199 u200 u201 u202 u203 u204 u205 u206 u207 u208 u209 u210 u211 u212 u213 u214 u215 u216 u217 u218 u219 u220 u221 u222 u223 u224 u225 u226 u227 u228 u229 u230 u231 u232 u233 u234 u235 u236 u237 u238 u239 u240 u241 u242 u243 u244 u245 u246 u247 u248 u249 d N s t tr ta tc hdm htl pa pcc gb gc g80 g81 g82 obf oc o80 o81 o82 hpc hd hdb hpi ib io HG hlow hstl sa sc HS hsb lsb hmf m x1 tt x2 htk hht x0 hform hnx hfo HX HX2
      exact hp_op4.out
     ·rename_i zq1 zq2
      revert w l M ic vc nc vs ins most hv hi hmost i0 hmm vb vo qb qo hlen w3 ub uc zq1 zq2 w1 ob wr u9 u10 u16 u17 u18 u19 u20 u21 u22 u28 u29 u30 u31 u32 u33 u34 u35 u36 u37 u38 u39 u40 u41 u42 u43 u44 u45 u46 u47 u48 u49 u50 u51 u52 u53 u54 u55 u56 u57 u58 u59 u60 u61 u62 u63 u64 u65 u66 u67 u68 u69 u70 u71 u72 u73 u74 u75 u76 u77 u78 u79 u80 u81 u82 u83 u84 u85 u86 u87 u88 u89 u90 u91 u92 u93 u94 u95 u96 u97 u98 u99 u100 u101 u102 u103 u104 u105 u106 u107 u108 u109 u110 u111 u112 u113 u114 u115 u116 u117 u118 u119 u120 u121 u122 u123 u124 u125 u126 u127 u128 u129 u130 u131 u132 u133 u134 u135 u136 u137 u138 u139 u140 u141 u142 u143 u144 u145 u146 u147 u148 u149 u150 u151 u152 u153 u154 u155 u156 u157 u158 u159 u160 u161 u162 u163 u164 u165 u166 u167 u168 u169 u170 u171 u172 u173 u174 u175 u176 u177 u178 u179 u180 u181 u182 u183 u184 u185 u186 u187 u188 u189 u190 u191 u192 u193 u194 u195 u196 u197 u198 u199 u200 u201 u202 u203 u204 u205 u206 u207 u208 u209 u210 u211 u212 u213 u214 u215 u216 u217 u218 u219 u220 u221 u222 u223 u224 u225 u226 u227 u228 u229 u230 u231 u232 u233 u234 u235 u236 u237 u238 u239 u240 u241 u242 u243 u244 u245 u246 u247 u248 u249 d N s t tr ta tc hdm htl pa pcc gb gc g80 g81 g82 obf oc o80 o81 o82 hpc hd hdb hpi ib io HG hlow hstl sa sc HS hsb lsb hmf m x1 tt x2 htk hht x0 hform hnx hfo HX HX2
      exact hp_op5.out
     ·rename_i zq1 zq2
      revert w l M ic vc nc vs ins most hv hi hmost i0 hmm vb vo qb qo hlen w3 ub uc zq1 zq2 w1 ob wr u9 u10 u16 u17 u18 u19 u20 u21 u22 u28 u29 u30 u31 u32 u33 u34 u35 u36 u37 u38 u39 u40 u41 u42 u43 u44 u45 u46 u47 u48 u49 u50 u51 u52 u53 u54 u55 u56 u57 u58 u59 u60 u61 u62 u63 u64 u65 u66 u67 u68 u69 u70 u71 u72 u73 u74 u75 u76 u77 u78 u79 u80 u81 u82 u83 u84 u85 u86 u87 u88 u89 u90 u91 u92 u93 u94 u95 u96 u97 u98 u99 u100 u101 u102 u103 u104 u105 u106 u107 u108 u109 u110 u111 u112 u113 u114 u115 u116 u117 u118 u119 u120 u121 u122 u123 u124 u125 u126 u127 u128 u129 u130 u131 u132 u133 u134 u135 u136 u137 u138 u139 u140 u141 u142 u143 u144 u145 u146 u147 u148 u149 u150 u151 u152 u153 u154 u155 u156 u157 u158 u159 u160 u161 u162 u163 u164 u165 u166 u167 u168 u169 u170 u171 u172 u173 u174 u175 u176 u177 u178 u179 u180 u181 u182 u183 u184 u185 u186 u187 u188 u189 u190 u191 u192 u193 u194 u195 u196 u197 u198 u199 u200 u201 u202 u203 u204 u205 u206 u207 u208 u209 u210 u211 u212 u213 u214 u215 u216 u217 u218 u219 u220 u221 u222 u223 u224 u225 u226 u227 u228 u229 u230 u231 u232 u233 u234 u235 u236 u237 u238 u239 u240 u241 u242 u243 u244 u245 u246 u247 u248 u249 d N s t tr ta tc hdm htl pa pcc gb gc g80 g81 g82 obf oc o80 o81 o82 hpc hd hdb hpi ib io HG hlow hstl sa sc HS hsb lsb hmf m x1 tt x2 htk hht x0 hform hnx hfo HX HX2
      exact hp_op6.out
     ·rename_i zq1 zq2
      revert w l M ic vc nc vs ins most hv hi hmost i0 hmm vb vo qb qo hlen w3 ub uc zq1 zq2 w1 ob wr u9 u10 u16 u17 u18 u19 u20 u21 u22 u28 u29 u30 u31 u32 u33 u34 u35 u36 u37 u38 u39 u40 u41 u42 u43 u44 u45 u46 u47 u48 u49 u50 u51 u52 u53 u54 u55 u56 u57 u58 u59 u60 u61 u62 u63 u64 u65 u66 u67 u68 u69 u70 u71 u72 u73 u74 u75 u76 u77 u78 u79 u80 u81 u82 u83 u84 u85 u86 u87 u88 u89 u90 u91 u92 u93 u94 u95 u96 u97 u98 u99 u100 u101 u102 u103 u104 u105 u106 u107 u108 u109 u110 u111 u112 u113 u114 u115 u116 u117 u118 u119 u120 u121 u122 u123 u124 u125 u126 u127 u128 u129 u130 u131 u132 u133 u134 u135 u136 u137 u138 u139 u140 u141 u142 u143 u144 u145 u146 u147 u148 u149 u150 u151 u152 u153 u154 u155 u156 u157 u158 u159 u160 u161 u162 u163 u164 u165 u166 u167 u168 u169 u170 u171 u172 u173 u174 u175 u176 u177 u178 u179 u180 u181 u182 u183 u184 u185 u186 u187 u188 u189 u190 u191 u192 u193 u194 u195 u196 u197 u198 u199 u200 u201 u202 u203 u204 u205 u206 u207 u208 u209 u210 u211 u212 u213 u214 u215 u216 u217 u218 u219 u220 u221 u222 u223 u224 u225 u226 u227 u228 u229 u230 u231 u232 u233 u234 u235 u236 u237 u238 u239 u240 u241 u242 u243 u244 u245 u246 u247 u248 u249 d N s t tr ta tc hdm htl pa pcc gb gc g80 g81 g82 obf oc o80 o81 o82 hpc hd hdb hpi ib io HG hlow hstl sa sc HS hsb lsb hmf m x1 tt x2 htk hht x0 hform hnx hfo HX HX2
      exact hp_op7.out
     ·rename_i zq1 zq2
      revert w l M ic vc nc vs ins most hv hi hmost i0 hmm vb vo qb qo hlen w3 ub uc zq1 zq2 w1 ob wr u9 u10 u16 u17 u18 u19 u20 u21 u22 u28 u29 u30 u31 u32 u33 u34 u35 u36 u37 u38 u39 u40 u41 u42 u43 u44 u45 u46 u47 u48 u49 u50 u51 u52 u53 u54 u55 u56 u57 u58 u59 u60 u61 u62 u63 u64 u65 u66 u67 u68 u69 u70 u71 u72 u73 u74 u75 u76 u77 u78 u79 u80 u81 u82 u83 u84 u85 u86 u87 u88 u89 u90 u91 u92 u93 u94 u95 u96 u97 u98 u99 u100 u101 u102 u103 u104 u105 u106 u107 u108 u109 u110 u111 u112 u113 u114 u115 u116 u117 u118 u119 u120 u121 u122 u123 u124 u125 u126 u127 u128 u129 u130 u131 u132 u133 u134 u135 u136 u137 u138 u139 u140 u141 u142 u143 u144 u145 u146 u147 u148 u149 u150 u151 u152 u153 u154 u155 u156 u157 u158 u159 u160 u161 u162 u163 u164 u165 u166 u167 u168 u169 u170 u171 u172 u173 u174 u175 u176 u177 u178 u179 u180 u181 u182 u183 u184 u185 u186 u187 u188 u189 u190 u191 u192 u193 u194 u195 u196 u197 u198 u199 u200 u201 u202 u203 u204 u205 u206 u207 u208 u209 u210 u211 u212 u213 u214 u215 u216 u217 u218 u219 u220 u221 u222 u223 u224 u225 u226 u227 u228 u229 u230 u231 u232 u233 u234 u235 u236 u237 u238 u239 u240 u241 u242 u243 u244 u245 u246 u247 u248 u249 d N s t tr ta tc hdm htl pa pcc gb gc g80 g81 g82 obf oc o80 o81 o82 hpc hd hdb hpi ib io HG hlow hstl sa sc HS hsb lsb hmf m x1 tt x2 htk hht x0 hform hnx hfo HX HX2
      exact hp_op8.out
     ·rename_i zq1 zq2
      revert w l M ic vc nc vs ins most hv hi hmost i0 hmm vb vo qb qo hlen w3 ub uc zq1 zq2 w1 ob wr u9 u10 u16 u17 u18 u19 u20 u21 u22 u28 u29 u30 u31 u32 u33 u34 u35 u36 u37 u38 u39 u40 u41 u42 u43 u44 u45 u46 u47 u48 u49 u50 u51 u52 u53 u54 u55 u56 u57 u58 u59 u60 u61 u62 u63 u64 u65 u66 u67 u68 u69 u70 u71 u72 u73 u74 u75 u76 u77 u78 u79 u80 u81 u82 u83 u84 u85 u86 u87 u88 u89 u90 u91 u92 u93 u94 u95 u96 u97 u98 u99 u100 u101 u102 u103 u104 u105 u106 u107 u108 u109 u110 u111 u112 u113 u114 u115 u116 u117 u118 u119 u120 u121 u122 u123 u124 u125 u126 u127 u128 u129 u130 u131 u132 u133 u134 u135 u136 u137 u138 u139 u140 u141 u142 u143 u144 u145 u146 u147 u148 u149 u150 u151 u152 u153 u154 u155 u156 u157 u158 u159 u160 u161 u162 u163 u164 u165 u166 u167 u168 u169 u170 u171 u172 u173 u174 u175 u176 u177 u178 u179 u180 u181 u182 u183 u184 u185 u186 u187 u188 u189 u190 u191 u192 u193 u194 u195 u196 u197 u198 u199 u200 u201 u202 u203 u204 u205 u206 u207 u208 u209 u210 u211 u212 u213 u214 u215 u216 u217 u218 u219 u220 u221 u222 u223 u224 u225 u226 u227 u228 u229 u230 u231 u232 u233 u234 u235 u236 u237 u238 u239 u240 u241 u242 u243 u244 u245 u246 u247 u248 u249 d N s t tr ta tc hdm htl pa pcc gb gc g80 g81 g82 obf oc o80 o81 o82 hpc hd hdb hpi ib io HG hlow hstl sa sc HS hsb lsb hmf m x1 tt x2 htk hht x0 hform hnx hfo HX HX2
      exact hp_op9.out
     ·rename_i zq1 zq2
      revert w l M ic vc nc vs ins most hv hi hmost i0 hmm vb vo qb qo hlen w3 ub uc zq1 zq2 w1 ob wr u9 u10 u16 u17 u18 u19 u20 u21 u22 u28 u29 u30 u31 u32 u33 u34 u35 u36 u37 u38 u39 u40 u41 u42 u43 u44 u45 u46 u47 u48 u49 u50 u51 u52 u53 u54 u55 u56 u57 u58 u59 u60 u61 u62 u63 u64 u65 u66 u67 u68 u69 u70 u71 u72 u73 u74 u75 u76 u77 u78 u79 u80 u81 u82 u83 u84 u85 u86 u87 u88 u89 u90 u91 u92 u93 u94 u95 u96 u97 u98 u99 u100 u101 u102 u103 u104 u105 u106 u107 u108 u109 u110 u111 u112 u113 u114 u115 u116 u117 u118 u119 u120 u121 u122 u123 u124 u125 u126 u127 u128 u129 u130 u131 u132 u133 u134 u135 u136 u137 u138 u139 u140 u141 u142 u143 u144 u145 u146 u147 u148 u149 u150 u151 u152 u153 u154 u155 u156 u157 u158 u159 u160 u161 u162 u163 u164 u165 u166 u167 u168 u169 u170 u171 u172 u173 u174 u175 u176 u177 u178 u179 u180 u181 u182 u183 u184 u185 u186 u187 u188 u189 u190 u191 u192 u193 u194 u195 u196 u197 u198 u199 u200 u201 u202 u203 u204 u205 u206 u207 u208 u209 u210 u211 u212 u213 u214 u215 u216 u217 u218 u219 u220 u221 u222 u223 u224 u225 u226 u227 u228 u229 u230 u231 u232 u233 u234 u235 u236 u237 u238 u239 u240 u241 u242 u243 u244 u245 u246 u247 u248 u249 d N s t tr ta tc hdm htl pa pcc gb gc g80 g81 g82 obf oc o80 o81 o82 hpc hd hdb hpi ib io HG hlow hstl sa sc HS hsb lsb hmf m x1 tt x2 htk hht x0 hform hnx hfo HX HX2
      exact hp_op10.out
     ·rename_i zq1 zq2
      revert w l M ic vc nc vs ins most hv hi hmost i0 hmm vb vo qb qo hlen w3 ub uc zq1 zq2 w1 ob wr u9 u10 u16 u17 u18 u19 u20 u21 u22 u28 u29 u30 u31 u32 u33 u34 u35 u36 u37 u38 u39 u40 u41 u42 u43 u44 u45 u46 u47 u48 u49 u50 u51 u52 u53 u54 u55 u56 u57 u58 u59 u60 u61 u62 u63 u64 u65 u66 u67 u68 u69 u70 u71 u72 u73 u74 u75 u76 u77 u78 u79 u80 u81 u82 u83 u84 u85 u86 u87 u88 u89 u90 u91 u92 u93 u94 u95 u96 u97 u98 u99 u100 u101 u102 u103 u104 u105 u106 u107 u108 u109 u110 u111 u112 u113 u114 u115 u116 u117 u118 u119 u120 u121 u122 u123 u124 u125 u126 u127 u128 u129 u130 u131 u132 u133 u134 u135 u136 u137 u138 u139 u140 u141 u142 u143 u144 u145 u146 u147 u148 u149 u150 u151 u152 u153 u154 u155 u156 u157 u158 u159 u160 u161 u162 u163 u164 u165 u166 u167 u168 u169 u170 u171 u172 u173 u174 u175 u176 u177 u178 u179 u180 u181 u182 u183 u184 u185 u186 u187 u188 u189 u190 u191 u192 u193 u194 u195 u196 u197 u198 u199 u200 u201 u202 u203 u204 u205 u206 u207 u208 u209 u210 u211 u212 u213 u214 u215 u216 u217 u218 u219 u220 u221 u222 u223 u224 u225 u226 u227 u228 u229 u230 u231 u232 u233 u234 u235 u236 u237 u238 u239 u240 u241 u242 u243 u244 u245 u246 u247 u248 u249 d N s t tr ta tc hdm htl pa pcc gb gc g80 g81 g82 obf oc o80 o81 o82 hpc hd hdb hpi ib io HG hlow hstl sa sc HS hsb lsb hmf m x1 tt x2 htk hht x0 hform hnx hfo HX HX2
      exact hp_op11.out
     ·rename_i zq1 zq2
      revert w l M ic vc nc vs ins most hv hi hmost i0 hmm vb vo qb qo hlen w3 ub uc zq1 zq2 w1 ob wr u9 u10 u16 u17 u18 u19 u20 u21 u22 u28 u29 u30 u31 u32 u33 u34 u35 u36 u37 u38 u39 u40 u41 u42 u43 u44 u45 u46 u47 u48 u49 u50 u51 u52 u53 u54 u55 u56 u57 u58 u59 u60 u61 u62 u63 u64 u65 u66 u67 u68 u69 u70 u71 u72 u73 u74 u75 u76 u77 u78 u79 u80 u81 u82 u83 u84 u85 u86 u87 u88 u89 u90 u91 u92 u93 u94 u95 u96 u97 u98 u99 u100 u101 u102 u103 u104 u105 u106 u107 u108 u109 u110 u111 u112 u113 u114 u115 u116 u117 u118 u119 u120 u121 u122 u123 u124 u125 u126 u127 u128 u129 u130 u131 u132 u133 u134 u135 u136 u137 u138 u139 u140 u141 u142 u143 u144 u145 u146 u147 u148 u149 u150 u151 u152 u153 u154 u155 u156 u157 u158 u159 u160 u161 u162 u163 u164 u165 u166 u167 u168 u169 u170 u171 u172 u173 u174 u175 u176 u177 u178 u179 u180 u181 u182 u183 u184 u185 u186 u187 u188 u189 u190 u191 u192 u193 u194 u195 u196 u197 u198 u199 u200 u201 u202 u203 u204 u205 u206 u207 u208 u209 u210 u211 u212 u213 u214 u215 u216 u217 u218 u219 u220 u221 u222 u223 u224 u225 u226 u227 u228 u229 u230 u231 u232 u233 u234 u235 u236 u237 u238 u239 u240 u241 u242 u243 u244 u245 u246 u247 u248 u249 d N s t tr ta tc hdm htl pa pcc gb gc g80 g81 g82 obf oc o80 o81 o82 hpc hd hdb hpi ib io HG hlow hstl sa sc HS hsb lsb hmf m x1 tt x2 htk hht x0 hform hnx hfo HX HX2
      exact hp_op12.out
     ·rename_i zq1 zq2
      revert w l M ic vc nc vs ins most hv hi hmost i0 hmm vb vo qb qo hlen w3 ub uc zq1 zq2 w1 ob wr u9 u10 u16 u17 u18 u19 u20 u21 u22 u28 u29 u30 u31 u32 u33 u34 u35 u36 u37 u38 u39 u40 u41 u42 u43 u44 u45 u46 u47 u48 u49 u50 u51 u52 u53 u54 u55 u56 u57 u58 u59 u60 u61 u62 u63 u64 u65 u66 u67 u68 u69 u70 u71 u72 u73 u74 u75 u76 u77 u78 u79 u80 u81 u82 u83 u84 u85 u86 u87 u88 u89 u90 u91 u92 u93 u94 u95 u96 u97 u98 u99 u100 u101 u102 u103 u104 u105 u106 u107 u108 u109 u110 u111 u112 u113 u114 u115 u116 u117 u118 u119 u120 u121 u122 u123 u124 u125 u126 u127 u128 u129 u130 u131 u132 u133 u134 u135 u136 u137 u138 u139 u140 u141 u142 u143 u144 u145 u146 u147 u148 u149 u150 u151 u152 u153 u154 u155 u156 u157 u158 u159 u160 u161 u162 u163 u164 u165 u166 u167 u168 u169 u170 u171 u172 u173 u174 u175 u176 u177 u178 u179 u180 u181 u182 u183 u184 u185 u186 u187 u188 u189 u190 u191 u192 u193 u194 u195 u196 u197 u198 u199 u200 u201 u202 u203 u204 u205 u206 u207 u208 u209 u210 u211 u212 u213 u214 u215 u216 u217 u218 u219 u220 u221 u222 u223 u224 u225 u226 u227 u228 u229 u230 u231 u232 u233 u234 u235 u236 u237 u238 u239 u240 u241 u242 u243 u244 u245 u246 u247 u248 u249 d N s t tr ta tc hdm htl pa pcc gb gc g80 g81 g82 obf oc o80 o81 o82 hpc hd hdb hpi ib io HG hlow hstl sa sc HS hsb lsb hmf m x1 tt x2 htk hht x0 hform hnx hfo HX HX2
      exact hp_op13.out
     ·rename_i zq1 zq2
      revert w l M ic vc nc vs ins most hv hi hmost i0 hmm vb vo qb qo hlen w3 ub uc zq1 zq2 w1 ob wr u9 u10 u16 u17 u18 u19 u20 u21 u22 u28 u29 u30 u31 u32 u33 u34 u35 u36 u37 u38 u39 u40 u41 u42 u43 u44 u45 u46 u47 u48 u49 u50 u51 u52 u53 u54 u55 u56 u57 u58 u59 u60 u61 u62 u63 u64 u65 u66 u67 u68 u69 u70 u71 u72 u73 u74 u75 u76 u77 u78 u79 u80 u81 u82 u83 u84 u85 u86 u87 u88 u89 u90 u91 u92 u93 u94 u95 u96 u97 u98 u99 u100 u101 u102 u103 u104 u105 u106 u107 u108 u109 u110 u111 u112 u113 u114 u115 u116 u117 u118 u119 u120 u121 u122 u123 u124 u125 u126 u127 u128 u129 u130 u131 u132 u133 u134 u135 u136 u137 u138 u139 u140 u141 u142 u143 u144 u145 u146 u147 u148 u149 u150 u151 u152 u153 u154 u155 u156 u157 u158 u159 u160 u161 u162 u163 u164 u165 u166 u167 u168 u169 u170 u171 u172 u173 u174 u175 u176 u177 u178 u179 u180 u181 u182 u183 u184 u185 u186 u187 u188 u189 u190 u191 u192 u193 u194 u195 u196 u197 u198 u199 u200 u201 u202 u203 u204 u205 u206 u207 u208 u209 u210 u211 u212 u213 u214 u215 u216 u217 u218 u219 u220 u221 u222 u223 u224 u225 u226 u227 u228 u229 u230 u231 u232 u233 u234 u235 u236 u237 u238 u239 u240 u241 u242 u243 u244 u245 u246 u247 u248 u249 d N s t tr ta tc hdm htl pa pcc gb gc g80 g81 g82 obf oc o80 o81 o82 hpc hd hdb hpi ib io HG hlow hstl sa sc HS hsb lsb hmf m x1 tt x2 htk hht x0 hform hnx hfo HX HX2
      exact hp_op14.out
     ·rename_i zq1 zq2
      revert w l M ic vc nc vs ins most hv hi hmost i0 hmm vb vo qb qo hlen w3 ub uc zq1 zq2 w1 ob wr u9 u10 u16 u17 u18 u19 u20 u21 u22 u28 u29 u30 u31 u32 u33 u34 u35 u36 u37 u38 u39 u40 u41 u42 u43 u44 u45 u46 u47 u48 u49 u50 u51 u52 u53 u54 u55 u56 u57 u58 u59 u60 u61 u62 u63 u64 u65 u66 u67 u68 u69 u70 u71 u72 u73 u74 u75 u76 u77 u78 u79 u80 u81 u82 u83 u84 u85 u86 u87 u88 u89 u90 u91 u92 u93 u94 u95 u96 u97 u98 u99 u100 u101 u102 u103 u104 u105 u106 u107 u108 u109 u110 u111 u112 u113 u114 u115 u116 u117 u118 u119 u120 u121 u122 u123 u124 u125 u126 u127 u128 u129 u130 u131 u132 u133 u134 u135 u136 u137 u138 u139 u140 u141 u142 u143 u144 u145 u146 u147 u148 u149 u150 u151 u152 u153 u154 u155 u156 u157 u158 u159 u160 u161 u162 u163 u164 u165 u166 u167 u168 u169 u170 u171 u172 u173 u174 u175 u176 u177 u178 u179 u180 u181 u182 u183 u184 u185 u186 u187 u188 u189 u190 u191 u192 u193 u194 u195 u196 u197 u198 u199 u200 u201 u202 u203 u204 u205 u206 u207 u208 u209 u210 u211 u212 u213 u214 u215 u216 u217 u218 u219 u220 u221 u222 u223 u224 u225 u226 u227 u228 u229 u230 u231 u232 u233 u234 u235 u236 u237 u238 u239 u240 u241 u242 u243 u244 u245 u246 u247 u248 u249 d N s t tr ta tc hdm htl pa pcc gb gc g80 g81 g82 obf oc o80 o81 o82 hpc hd hdb hpi ib io HG hlow hstl sa sc HS hsb lsb hmf m x1 tt x2 htk hht x0 hform hnx hfo HX HX2
      exact hp_op15.out
     ·rename_i zq1 zq2
      revert w l M ic vc nc vs ins most hv hi hmost i0 hmm vb vo qb qo hlen w3 ub uc zq1 zq2 w1 ob wr u9 u10 u16 u17 u18 u19 u20 u21 u22 u28 u29 u30 u31 u32 u33 u34 u35 u36 u37 u38 u39 u40 u41 u42 u43 u44 u45 u46 u47 u48 u49 u50 u51 u52 u53 u54 u55 u56 u57 u58 u59 u60 u61 u62 u63 u64 u65 u66 u67 u68 u69 u70 u71 u72 u73 u74 u75 u76 u77 u78 u79 u80 u81 u82 u83 u84 u85 u86 u87 u88 u89 u90 u91 u92 u93 u94 u95 u96 u97 u98 u99 u100 u101 u102 u103 u104 u105 u106 u107 u108 u109 u110 u111 u112 u113 u114 u115 u116 u117 u118 u119 u120 u121 u122 u123 u124 u125 u126 u127 u128 u129 u130 u131 u132 u133 u134 u135 u136 u137 u138 u139 u140 u141 u142 u143 u144 u145 u146 u147 u148 u149 u150 u151 u152 u153 u154 u155 u156 u157 u158 u159 u160 u161 u162 u163 u164 u165 u166 u167 u168 u169 u170 u171 u172 u173 u174 u175 u176 u177 u178 u179 u180 u181 u182 u183 u184 u185 u186 u187 u188 u189 u190 u191 u192 u193 u194 u195 u196 u197 u198 u199 u200 u201 u202 u203 u204 u205 u206 u207 u208 u209 u210 u211 u212 u213 u214 u215 u216 u217 u218 u219 u220 u221 u222 u223 u224 u225 u226 u227 u228 u229 u230 u231 u232 u233 u234 u235 u236 u237 u238 u239 u240 u241 u242 u243 u244 u245 u246 u247 u248 u249 d N s t tr ta tc hdm htl pa pcc gb gc g80 g81 g82 obf oc o80 o81 o82 hpc hd hdb hpi ib io HG hlow hstl sa sc HS hsb lsb hmf m x1 tt x2 htk hht x0 hform hnx hfo HX HX2
      exact hp_op16.out
     ·rename_i zq1 zq2
      revert w l M ic vc nc vs ins most hv hi hmost i0 hmm vb vo qb qo hlen w3 ub uc zq1 zq2 w1 ob wr u9 u10 u16 u17 u18 u19 u20 u21 u22 u28 u29 u30 u31 u32 u33 u34 u35 u36 u37 u38 u39 u40 u41 u42 u43 u44 u45 u46 u47 u48 u49 u50 u51 u52 u53 u54 u55 u56 u57 u58 u59 u60 u61 u62 u63 u64 u65 u66 u67 u68 u69 u70 u71 u72 u73 u74 u75 u76 u77 u78 u79 u80 u81 u82 u83 u84 u85 u86 u87 u88 u89 u90 u91 u92 u93 u94 u95 u96 u97 u98 u99 u100 u101 u102 u103 u104 u105 u106 u107 u108 u109 u110 u111 u112 u113 u114 u115 u116 u117 u118 u119 u120 u121 u122 u123 u124 u125 u126 u127 u128 u129 u130 u131 u132 u133 u134 u135 u136 u137 u138 u139 u140 u141 u142 u143 u144 u145 u146 u147 u148 u149 u150 u151 u152 u153 u154 u155 u156 u157 u158 u159 u160 u161 u162 u163 u164 u165 u166 u167 u168 u169 u170 u171 u172 u173 u174 u175 u176 u177 u178 u179 u180 u181 u182 u183 u184 u185 u186 u187 u188 u189 u190 u191 u192 u193 u194 u195 u196 u197 u198 u199 u200 u201 u202 u203 u204 u205 u206 u207 u208 u209 u210 u211 u212 u213 u214 u215 u216 u217 u218 u219 u220 u221 u222 u223 u224 u225 u226 u227 u228 u229 u230 u231 u232 u233 u234 u235 u236 u237 u238 u239 u240 u241 u242 u243 u244 u245 u246 u247 u248 u249 d N s t tr ta tc hdm htl pa pcc gb gc g80 g81 g82 obf oc o80 o81 o82 hpc hd hdb hpi ib io HG hlow hstl sa sc HS hsb lsb hmf m x1 tt x2 htk hht x0 hform hnx hfo HX HX2
      exact hp_op17.out
     ·rename_i zq1 zq2
      revert w l M ic vc nc vs ins most hv hi hmost i0 hmm vb vo qb qo hlen w3 ub uc zq1 zq2 w1 ob wr u9 u10 u16 u17 u18 u19 u20 u21 u22 u28 u29 u30 u31 u32 u33 u34 u35 u36 u37 u38 u39 u40 u41 u42 u43 u44 u45 u46 u47 u48 u49 u50 u51 u52 u53 u54 u55 u56 u57 u58 u59 u60 u61 u62 u63 u64 u65 u66 u67 u68 u69 u70 u71 u72 u73 u74 u75 u76 u77 u78 u79 u80 u81 u82 u83 u84 u85 u86 u87 u88 u89 u90 u91 u92 u93 u94 u95 u96 u97 u98 u99 u100 u101 u102 u103 u104 u105 u106 u107 u108 u109 u110 u111 u112 u113 u114 u115 u116 u117 u118 u119 u120 u121 u122 u123 u124 u125 u126 u127 u128 u129 u130 u131 u132 u133 u134 u135 u136 u137 u138 u139 u140 u141 u142 u143 u144 u145 u146 u147 u148 u149 u150 u151 u152 u153 u154 u155 u156 u157 u158 u159 u160 u161 u162 u163 u164 u165 u166 u167 u168 u169 u170 u171 u172 u173 u174 u175 u176 u177 u178 u179 u180 u181 u182 u183 u184 u185 u186 u187 u188 u189 u190 u191 u192 u193 u194 u195 u196 u197 u198 u199 u200 u201 u202 u203 u204 u205 u206 u207 u208 u209 u210 u211 u212 u213 u214 u215 u216 u217 u218 u219 u220 u221 u222 u223 u224 u225 u226 u227 u228 u229 u230 u231 u232 u233 u234 u235 u236 u237 u238 u239 u240 u241 u242 u243 u244 u245 u246 u247 u248 u249 d N s t tr ta tc hdm htl pa pcc gb gc g80 g81 g82 obf oc o80 o81 o82 hpc hd hdb hpi ib io HG hlow hstl sa sc HS hsb lsb hmf m x1 tt x2 htk hht x0 hform hnx hfo HX HX2
      exact hp_op18.out
   ·have hpe : s.pc = l.length := by have := HS.out.mi.pc; omega
    have hpi : ¬ ((s.pc : Int) < (l.length : Int)) := by omega
    have HE : Hid (lastF l ins most (ms0 vs) 0 = (s, t) ∧ traceF l ins most (ms0 vs) = tr) := ⟨HS.out.last.symm.trans (last_end hpe), HS.out.trace.symm.trans (by rw [trace_end hpe]; simp)⟩
    go_wp2_with fail
    obtain ⟨k1, k2, k3, k4, k5, k6⟩ := HS.out.dm.told (.slice (some ⟨ub, 0, none⟩) 8 uc) (.slice pa s.ps.length pcc) (.int .i64 t)
    refine bodyPost_ret (v := .tuple #[.agg #[.slice (some ⟨ub, 0, none⟩) 8 uc, .slice pa s.ps.length pcc, .int .i64 t], .slice ta d tc, .bool true]) (Steps_ends k1 rfl rfl rfl) rfl ⟨k2, _, _, _, ?_, by rw [HE.out.1]; exact k3, by rw [HE.out.1]; exact k4, by rw [HE.out.2]; exact k5, k6⟩
    rw [HE.out.1, show decide (s.pc = l.length) = true by simpa using hpe]
end Go.Proofs.YtibcbdihphbfeacDoor
