import Derived.Test.YtcmoehednkaehahGSO
namespace Go.Proofs.Ytcmoehednkaehah
open Go.ChangeShapes Go.WideShapes Go.ChangeAt Go.RowKit

theorem doc_done {w Wn wr W' : World} {d : Dd} {od : Do} {base : Nat} {pr : Int} {lv : Value} {l : List Lj} {rv : Value} {runs : List Int} {x : Rs} {cnt : Nat} {D : DataW Unit} {t : Nat} {sk : Bool} (h : DW Wn wr d od base pr lv l rv runs x cnt D) (h1 : runs.length = t) (h2 : Rn pr l t runs x) (g : GI l t x) (hp : Below w.heap.size w Wn) (hp2 : w.heap.size + 2 ≤ Wn.heap.size) (hsk : sk = stuckF t x.es x.en false)
    (sk6 : ∀ k, k ≠ w.heap.size → k ≠ w.heap.size + 1 → W'.heap[k]? = (wr.setCell ⟨od.O, 3, none⟩ (.bool sk)).heap[k]?) (sb : Below w.heap.size (wr.setCell ⟨od.O, 3, none⟩ (.bool sk)) W') :
    ∃ rv' ev tv runs' x', Ending.returned (.tuple #[.agg #[rv, .slice (some ⟨od.E, 0, none⟩) l.length l.length, .slice (some ⟨od.T, 0, none⟩) l.length l.length, .bool sk], .agg #[.int .i64 0, .int .i64 0]]) = .returned (.tuple #[.agg #[rv', ev, tv, .bool (stuckF t x'.es x'.en false)], .agg #[.int .i64 0, .int .i64 0]]) ∧ PlayW w W' l.length rv' ev tv runs' x' ∧ runs'.length = t ∧ Rn pr l t runs' x' := by
  have hO := h.lo od.O (by simp [blks])
  have hE := h.lo od.E (by simp [blks])
  have hT := h.lo od.T (by simp [blks])
  have hkeep : ∀ k, k ≠ od.O → k ≠ w.heap.size → k ≠ w.heap.size + 1 → W'.heap[k]? = wr.heap[k]? := fun k h1 h2 h3 => (sk6 k h2 h3).trans (Below.heap_setCell wr ⟨od.O, 3, none⟩ (.bool sk) k h1)
  refine ⟨_, _, _, runs, x, by rw [hsk], ⟨?_, ?_, ?_, ?_, g.ne, g.nw⟩, h1, h2⟩
  · exact ((hp.trans (h.bel.mono hp.size)).setCell (by show w.heap.size ≤ od.O; omega) _).trans sb
  · refine (h.stk.keep (fun k hk => hkeep k ?_ ?_ ?_)).row
    · have := h.stk.low hk; omega
    · have := h.stk.low hk; omega
    · have := h.stk.low hk; omega
  · exact row_block ((hkeep od.E (ndx h.nd (i := 9) (j := 8) (by decide) rfl rfl) (by omega) (by omega)).trans h.hE) g.ne
  · exact row_block ((hkeep od.T (ndx h.nd (i := 10) (j := 8) (by decide) rfl rfl) (by omega) (by omega)).trans h.hT) g.nw

set_option maxRecDepth 20000 in
set_option maxHeartbeats 8000000 in
theorem so_exit : SOp.2.2.1 := by
  intro w l pr ad cp hn HV w1 hp1 hp3 _ Wn HP fb _ _ W2 _ gP gA gK gB gW gD gM _ W3 _ T vs W4 _ gE gT hHeld _ W5 wr u12 u75 u76 u77 u78 u79 u80 u81 u82 u83 u84 u85 u86 u87 hk hlt base d od HD _ _ u14 u15 u16 u17 u18 u19 u20 u88 u89 u90 u91 u92 u93 u94 u95 u96 u97 u98 u99 u100 u101 u102 u103 u104 u105 u106 u107 u108 u109 u110 u111 u112 u113 u114 u115 u116 u117 u118 u119 u120 u121 u122 u123 u124 u125 u126 u127 u128 u129 u130 u131 u132 u133 u134 u135 u136 u137 u138 u139 u140 u141 u142 u143 u144 u145 u146 u147 u148 u149 u150 u151 u152 u153 u154 u155 u156 u157 u158 u159 u160 u161 u162 u163 u164 u165 u166 u167 u168 u169 u170 u171 u172 u173 u174 u175 u176 u177 u178 u179 u180 u181 u182 u183 u184 u185 u186 u187 u188 u189 u190 u191 u192 u193 u194 u195 u196 u197 u198 u199 u200 u201 u202 u203 u204 u205 u206 u207 u208 u209 u210 u211 u212 u213 u214 u215 u216 u217 u218 u219 u220 u221 u222 u223 u224 u225 u226 u227 u228 u229 u230 u231 u232 u233 u234 u235 u236 u237 u238 u239 u240 u241 u242 u243 u244 u245 u246 u247 u248 u249 u250 u251 u252 u253 u254 u255 u256 u257 u258 u259 u260 u261 u262 u263 u264 u265 u266 u267 u268 u269 u270 u271 u272 u273 u274 u275 u276 u277 u278 u279 u280 u281 u282 u283 u284 u285 u286 u287 u288 u289 u290 u291 u292 u293 u294 u295 u296 u297 u298 u299 u300 u301 u302 u303 u304 u305 u306 u307 u308 u309 u310 u311 u312 u313 u314 u315 u316 u317 u318 u319 u320 u321 u322 t cnt runs x D hrl hgi hrn hcm ra rc rn wo hdw hU _ hU0 hU1 _ _ _ _ ht htU
  have HE : Hid (runs.length = t ∧ Rn pr l t runs x ∧ GI l t x) := ⟨hrl, hrn, hgi⟩
  have HW : Hid (DW Wn wo d od base pr (.slice ad l.length cp) l (.slice ra rn rc) runs x cnt D) := hdw
  clear hrl hrn hdw hgi hcm
  go_wp2_with fail
  go_loopw [21, 22, 325] (fun s a i wl => ∃ (k : Nat) (bs ba : Bool), k ≤ l.length ∧ s = .bool bs ∧ a = .bool ba ∧ i = .int .i64 k ∧ DW Wn wl d od base pr (.slice ad l.length cp) l (.slice ra rn rc) runs x cnt D ∧ (ba = true → stuckF t (x.es.drop k) (x.en.drop k) bs = stuckF t x.es x.en false) ∧ (ba = false → stuckF t x.es x.en false = false ∧ bs = true)) (fun _ _ i _ => l.length - (intOf i).toNat)
  case atStart => exact ⟨0, false, true, Nat.zero_le _, rfl, rfl, rfl, HW.out, fun _ => rfl, fun h => by cases h⟩
  case round =>
    obtain ⟨k, bs, ba, hk, rfl, rfl, rfl, hdw, hst⟩ := hrel
    by_cases hlt : k < l.length
    · obtain ⟨ek, hek⟩ := at_lt HE.out.2.2.len hlt
      obtain ⟨zk, hzk⟩ := at_lt HE.out.2.2.ne hlt
      obtain ⟨-, -, -, kW⟩ := hdw.v.ent hek
      have kD := hdw.v.dn hzk
      obtain ⟨-, -, -, -, -, -, p6, p7, -⟩ := hdw.v.own
      obtain ⟨lS, -, -, -, -, lW, lD, -⟩ := hdw.v.lts
      have hy := HE.out.2.2.job hek
      obtain ⟨⟨ad', cp', e', -, -, hrw⟩, hra⟩ := hdw.v.job
      cases e'
      rcases hrw with h | ⟨jb, jo, rfl, hrow⟩
      · rw [h] at hy; simp at hy
      have hja := lj_at hrow hy
      have hac := hra _ (List.mem_of_getElem? hy)
      have hwt : ek.wt = -1 ∨ 0 ≤ ek.wt := by
        rcases HE.out.2.2.wt k ek hek with h | ⟨m, h, h1, h2, h3⟩
        · exact .inl h
        · exact .inr (by omega)
      rw [List.drop_eq_getElem_cons (List.getElem?_eq_some_iff.1 hek).1, (List.getElem?_eq_some_iff.1 hek).2, List.drop_eq_getElem_cons (List.getElem?_eq_some_iff.1 hzk).1, (List.getElem?_eq_some_iff.1 hzk).2, stuckF] at hst
      obtain ⟨⟨ya, yp, yacts, yv⟩, enx, ern, ebg, ewt, eac⟩ := ek
      dsimp only at hac hja kW hst hwt
      obtain ⟨aad, ac, rfl⟩ := hac.len
      obtain ⟨j0, j1, j2⟩ := hja
      dsimp only at j0 j1 j2
      have jl : jb < wr.heap.size := World.block_lt_of_cell? _ _ j0
      have hki : (k : Int) < (l.length : Int) := by omega
      have HD2 : Hid (DW Wn (wr.alloc (.cells #[.int .i64 ya, .int .i64 yp, .slice aad yacts.length ac] 47)) d od base pr (.slice (some ⟨jb, jo, none⟩) l.length cp) l (.slice ra rn rc) runs x cnt D) := hdw.grow (below_new _ _)
      unfold sl0 at *
      by_cases hat : (t : Int) ≤ ya
      · rw [if_pos hat] at hst
        have hat' : ¬ (ya < (t : Int)) := by omega
        have HN : Hid ((ba = true → stuckF t (x.es.drop (k + 1)) (x.en.drop (k + 1)) bs = stuckF t x.es x.en false) ∧ (ba = false → stuckF t x.es x.en false = false ∧ bs = true)) := hst
        clear hdw hek hzk hst hra hrow hac hy
        go_wp2_with fail
        exact ⟨⟨k + 1, bs, ba, by omega, rfl, rfl, by simp, HD2.out, HN.out⟩, by simp [intOf]; omega⟩
      · rw [if_neg hat] at hst
        have hat' : ya < (t : Int) := by omega
        by_cases hz1 : zk = -1
        · subst hz1
          rw [if_neg (by simp)] at hst
          rcases hwt with hw | hw
          · subst hw
            rw [if_pos rfl] at hst
            have HN : Hid (stuckF t x.es x.en false = false) := by
              cases ba
              · exact (hst.2 rfl).1
              · exact (hst.1 rfl).symm
            clear hdw hek hzk hst hra hrow hac hy
            cases ba
            · go_wp2_with fail
              exact ⟨⟨k + 1, true, false, by omega, rfl, rfl, by simp, HD2.out, (fun h => by cases h), fun _ => ⟨HN.out, rfl⟩⟩, by simp [intOf]; omega⟩
            · go_wp2_with fail
              exact ⟨⟨k + 1, true, false, by omega, rfl, rfl, by simp, HD2.out, (fun h => by cases h), fun _ => ⟨HN.out, rfl⟩⟩, by simp [intOf]; omega⟩
          · rw [if_neg (by omega)] at hst
            have HN : Hid ((ba = true → stuckF t (x.es.drop (k + 1)) (x.en.drop (k + 1)) true = stuckF t x.es x.en false) ∧ (ba = false → stuckF t x.es x.en false = false ∧ bs = true)) := hst
            clear hdw hek hzk hst hra hrow hac hy
            cases ba
            · go_wp2_with fail
              exact ⟨⟨k + 1, true, false, by omega, rfl, rfl, by simp, HD2.out, (fun h => by cases h), fun _ => ⟨(HN.out.2 rfl).1, rfl⟩⟩, by simp [intOf]; omega⟩
            · go_wp2_with fail
              exact ⟨⟨k + 1, true, true, by omega, rfl, rfl, by simp, HD2.out, (fun _ => HN.out.1 rfl), fun h => by cases h⟩, by simp [intOf]; omega⟩
        · rw [if_pos hz1] at hst
          have hz2 : (zk != -1) = true := by simpa using hz1
          rw [hz2] at kD
          have HN : Hid ((ba = true → stuckF t (x.es.drop (k + 1)) (x.en.drop (k + 1)) bs = stuckF t x.es x.en false) ∧ (ba = false → stuckF t x.es x.en false = false ∧ bs = true)) := hst
          clear hdw hek hzk hst hra hrow hac hy
          go_wp2_with fail
          exact ⟨⟨k + 1, bs, ba, by omega, rfl, rfl, by simp, HD2.out, HN.out⟩, by simp [intOf]; omega⟩
    · have hke : k = l.length := by omega
      subst hke
      have hsk : (bs && ba) = stuckF t x.es x.en false := by
        rw [show x.es.drop l.length = [] by rw [← HE.out.2.2.len]; exact List.drop_length] at hst
        cases ba
        · rw [(hst.2 rfl).1]; simp
        · rw [← hst.1 rfl]; simp [stuckF]
      have q6 := (hdw.bel.block _ (by have := HP.out.2.2.2; omega)).trans HP.out.2.1
      have q7 := (hdw.bel.block _ (by have := HP.out.2.2.2; omega)).trans HP.out.2.2.1
      obtain ⟨xc, xf, xl⟩ := cells_of (l := [_, _, _, _]) q6
      obtain ⟨yc, yf, yl⟩ := cells_of (l := [_, _]) q7
      have x0' := xc 0 _ rfl
      have x1' := xc 1 _ rfl
      have x2' := xc 2 _ rfl
      have x3' := xc 3 _ rfl
      have y0' := yc 0 _ rfl
      have y1' := yc 1 _ rfl
      have xf0 := xf 0
      have xf1 := xf 1
      have xf2 := xf 2
      have xf3 := xf 3
      have yf0 := yf 0
      have yf1 := yf 1
      obtain ⟨o0, o1, o2, o3⟩ := hdw.out
      have fO3 := hdw.frz.2.2.2.2.2.1 3
      have lO := hdw.lts.1
      have hOl := (hdw.lo od.O (by simp [blks])).1
      have hWl := HP.out.2.2.2
      have n6 : w.heap.size ≠ od.O := by omega
      have n7 : w.heap.size + 1 ≠ od.O := by omega
      have HF : Hid (DW Wn wr d od base pr (.slice ad l.length cp) l (.slice ra rn rc) runs x cnt D ∧ (bs && ba) = stuckF t x.es x.en false ∧ wr.heap[w.heap.size]? = some (.cells #[.slice none 0 0, .slice none 0 0, .slice none 0 0, .bool false] 28 (0, 0)) ∧ wr.heap[w.heap.size + 1]? = some (.cells #[.int .i64 0, .int .i64 0] 31 (0, 0))) := ⟨hdw, hsk, q6, q7⟩
      clear hdw hst hsk xc xf yc yf q6 q7
      unfold sl0 at *
      cases bs <;> cases ba
      · go_wp2_with fail
        obtain ⟨s6, s7, sk6, sb⟩ := doc_store (W5 := wr.setCell ⟨od.O, 3, none⟩ (.bool false)) (s := w.heap.size) (.slice ra rn rc) (.slice (some ⟨od.E, 0, none⟩) l.length l.length) (.slice (some ⟨od.T, 0, none⟩) l.length l.length) (.bool false) (.int .i64 0) (.int .i64 0) ((Below.heap_setCell _ _ _ _ n6).trans HF.out.2.2.1) ((Below.heap_setCell _ _ _ _ n7).trans HF.out.2.2.2)
        refine bodyPost_ret (PlayDoc_ends s6 s7 rfl rfl) rfl ?_
        exact doc_done HF.out.1 HE.out.1 HE.out.2.1 HE.out.2.2 HP.out.1 HP.out.2.2.2 HF.out.2.1 sk6 sb
      · go_wp2_with fail
        obtain ⟨s6, s7, sk6, sb⟩ := doc_store (W5 := wr.setCell ⟨od.O, 3, none⟩ (.bool false)) (s := w.heap.size) (.slice ra rn rc) (.slice (some ⟨od.E, 0, none⟩) l.length l.length) (.slice (some ⟨od.T, 0, none⟩) l.length l.length) (.bool false) (.int .i64 0) (.int .i64 0) ((Below.heap_setCell _ _ _ _ n6).trans HF.out.2.2.1) ((Below.heap_setCell _ _ _ _ n7).trans HF.out.2.2.2)
        refine bodyPost_ret (PlayDoc_ends s6 s7 rfl rfl) rfl ?_
        exact doc_done HF.out.1 HE.out.1 HE.out.2.1 HE.out.2.2 HP.out.1 HP.out.2.2.2 HF.out.2.1 sk6 sb
      · go_wp2_with fail
        obtain ⟨s6, s7, sk6, sb⟩ := doc_store (W5 := wr.setCell ⟨od.O, 3, none⟩ (.bool false)) (s := w.heap.size) (.slice ra rn rc) (.slice (some ⟨od.E, 0, none⟩) l.length l.length) (.slice (some ⟨od.T, 0, none⟩) l.length l.length) (.bool false) (.int .i64 0) (.int .i64 0) ((Below.heap_setCell _ _ _ _ n6).trans HF.out.2.2.1) ((Below.heap_setCell _ _ _ _ n7).trans HF.out.2.2.2)
        refine bodyPost_ret (PlayDoc_ends s6 s7 rfl rfl) rfl ?_
        exact doc_done HF.out.1 HE.out.1 HE.out.2.1 HE.out.2.2 HP.out.1 HP.out.2.2.2 HF.out.2.1 sk6 sb
      · go_wp2_with fail
        obtain ⟨s6, s7, sk6, sb⟩ := doc_store (W5 := wr.setCell ⟨od.O, 3, none⟩ (.bool true)) (s := w.heap.size) (.slice ra rn rc) (.slice (some ⟨od.E, 0, none⟩) l.length l.length) (.slice (some ⟨od.T, 0, none⟩) l.length l.length) (.bool true) (.int .i64 0) (.int .i64 0) ((Below.heap_setCell _ _ _ _ n6).trans HF.out.2.2.1) ((Below.heap_setCell _ _ _ _ n7).trans HF.out.2.2.2)
        refine bodyPost_ret (PlayDoc_ends s6 s7 rfl rfl) rfl ?_
        exact doc_done HF.out.1 HE.out.1 HE.out.2.1 HE.out.2.2 HP.out.1 HP.out.2.2.2 HF.out.2.1 sk6 sb
end Go.Proofs.Ytcmoehednkaehah
