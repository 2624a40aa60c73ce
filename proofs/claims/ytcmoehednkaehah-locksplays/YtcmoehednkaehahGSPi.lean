import Derived.Test.YtcmoehednkaehahGSO
namespace Go.Proofs.Ytcmoehednkaehah
open Go.ChangeShapes Go.WideShapes Go.ChangeAt Go.RowKit

set_option maxRecDepth 20000 in
set_option maxHeartbeats 8000000 in
theorem so_idle : SOp.1 := by
  intro w l pr U hU ad cp hn HV _ w1 hp1 hp3 hU0 hU1 _ _ Wn HP fb _ _ W2 _ gP gA gK gB gW gD gM _ W3 _ T vs W4 _ gE gT hHeld _ W5 _ u12 u75 u76 u77 u78 u79 u80 u81 u82 u83 u84 u85 u86 u87 hk hlt base d od HD _ _ _ _ _ _ _ _ _ _ _ u20 u88 u89 u90 u91 u92 _ _ _ _ _ _ _ _ _ _ _ _ _ _ _ _ _ _ _ _ _ _ _ _ _ _ _ _ _ _ _ _ _ _ _ _ _ _ _ _ _ _ _ _ _ _ _ _ _ _ _ _ _ _ _ _ _ _ _ _ _ _ _ _ _ _ _ _ _ _ _ _ _ _ _ _ _ _ _ _ _ _ _ _ _ _ _ _ _ _ _ _ _ _ _ _ _ _ _ _ _ _ _ _ _ _ _ _ _ _ _ _ _ _ _ _ _ _ _ _ _ _ _ _ _ _ _ _ _ _ _ _ _ _ _ _ _ _ _ _ _ _ _ _ _ _ _ _ _ _ _ _ _ _ _ _ _ _ _ _ _ _ _ _ _ _ _ _ _ _ _ _ _ _ _ _ _ _ _ _ _ _ _ _ _ _ _ _ _ _ _ _ _ _ _ _ _ _ _ _ _ _ _ _ _ _ _ _ _ u302 u303 u304 u305 u306 u307 u308 u309 u310 u311 u312 u313 u314 u315 u316 u317 u318 u319 u320 u321 u322 t cnt runs x D ht ra rc rn wo htU hti HT HX _ _ _ _ gk wr u14 u15 u16 u17 u18 u19 u93 u94 u95 u96 u97 u98 u99 u100 u101 u102 u103 u104 u105 u106 u107 u108 u109 u110 u111 u112 u113 u114 u115 u116 u117 u118 u119 u120 u121 u122 u123 u124 u125 u126 u127 u128 u129 u130 u131 u132 u133 u134 u135 u136 u137 u138 u139 u140 u141 u142 u143 u144 u145 u146 u147 u148 u149 u150 u151 u152 u153 u154 u155 u156 u157 u158 u159 u160 u161 u162 u163 u164 u165 u166 u167 u168 u169 u170 u171 u172 u173 u174 u175 u176 u177 u178 u179 u180 u181 u182 u183 u184 u185 u186 u187 u188 u189 u190 u191 u192 u193 u194 u195 u196 u197 u198 u199 u200 u201 u202 u203 u204 u205 u206 u207 u208 u209 u210 u211 u212 u213 u214 u215 u216 u217 u218 u219 u220 u221 u222 u223 u224 u225 u226 u227 u228 u229 u230 u231 u232 u233 u234 u235 u236 u237 u238 u239 u240 u241 u242 u243 u244 u245 u246 u247 u248 u249 u250 u251 u252 u253 u254 u255 u256 u257 u258 u259 u260 u261 u262 u263 u264 u265 u266 u267 u268 u269 u270 u271 u272 u273 u274 u275 u276 u277 u278 u279 u280 u281 u282 u283 u284 u285 u286 u287 u288 u289 u290 u291 u292 u293 u294 u295 u296 u297 u298 u299 u300 u301 _ _ _ _ x1 cnt1 D1 w6 w4 ad7 c7 n7 _ _ z f7 cz Dz HZ
  obtain ⟨y0, y1, y2, y3, y4, y5, y6, y7, y8⟩ := HZ.out.1.v.own
  unfold sl0 at *
  go_loopw [304] (fun i wl => ∃ k : Nat, k ≤ l.length ∧ i = .int .i64 k ∧ DW Wn wl d od base pr (.slice ad l.length cp) l (.slice ad7 n7 c7) (runs ++ [f7]) { z with ws := bumpF (z.es.take k) z.ws } cz Dz) (fun i _ => l.length - (intOf i).toNat)
  case atStart => exact ⟨0, Nat.zero_le _, rfl, HZ.out.1⟩
  case round =>
    obtain ⟨k, hk, rfl, hdw⟩ := hrel
    by_cases hlt : k < l.length
    · obtain ⟨ek, hek⟩ := at_lt HZ.out.2.1.len hlt
      obtain ⟨wk, hwk⟩ := at_lt HZ.out.2.1.nw hlt
      obtain ⟨-, -, -, kW⟩ := hdw.v.ent (show ({ z with ws := bumpF (z.es.take k) z.ws } : Rs).es[k]? = some ek from hek)
      obtain ⟨b1, b2⟩ := bumpF_at z.es z.ws k ek wk hek hwk
      have kT := hdw.waits (show ({ z with ws := bumpF (z.es.take k) z.ws } : Rs).ws[k]? = some wk from b1)
      have hwb := HZ.out.2.1.ws wk (List.mem_of_getElem? hwk)
      obtain ⟨-, -, -, -, -, -, p6, -, -⟩ := hdw.v.own
      obtain ⟨-, -, o2, -⟩ := hdw.out
      have fT := hdw.frz.2.2.2.2.2.2.2 k
      have hki : (k : Int) < (l.length : Int) := by omega
      unfold sl0 at *
      by_cases hw : ek.wt = -1
      · rw [if_pos hw, set_same b1] at b2
        rw [hw] at kW
        have HN : Hid (DW Wn wr d od base pr (.slice ad l.length cp) l (.slice ad7 n7 c7) (runs ++ [f7]) { z with ws := bumpF (z.es.take (k + 1)) z.ws } cz Dz) := by rw [← b2]; exact hdw
        clear hdw hek hwk b1 b2 hw
        go_wp2_with fail
        exact ⟨⟨k + 1, by omega, by simp, HN.out⟩, by simp [intOf]; omega⟩
      · rw [if_neg hw] at b2
        have hw0 : 0 ≤ ek.wt := by
          rcases HZ.out.2.1.wt k ek hek with h | ⟨m, h, h1, h2, h3⟩
          · exact absurd h hw
          · omega
        have HN : Hid (DW Wn (wr.setCell ⟨od.T, k, none⟩ (.int .i64 (wk + 1))) d od base pr (.slice ad l.length cp) l (.slice ad7 n7 c7) (runs ++ [f7]) { z with ws := bumpF (z.es.take (k + 1)) z.ws } cz Dz) := by rw [← b2]; exact hdw.setT k (wk + 1)
        clear hdw hek hwk b1 b2 hw
        go_wp2_with fail
        exact ⟨⟨k + 1, by omega, by simp, HN.out⟩, by simp [intOf]; omega⟩
    · have hke : k = l.length := by omega
      subst hke
      have HN : Hid (DW Wn wr d od base pr (.slice ad l.length cp) l (.slice ad7 n7 c7) (runs ++ [f7]) { z with ws := bumpF z.es z.ws } cz Dz) := by
        have e9 : z.es.take l.length = z.es := by rw [← HZ.out.2.1.len, List.take_length]
        rw [e9] at hdw
        exact hdw
      clear hdw
      go_wp2_with fail
      exact ⟨⟨t + 1, cz, runs ++ [f7], _, _, Dz, by omega, by simp, by rw [List.length_append, HT.out.1]; rfl, HN.out, HZ.out.2.1.tick, Rn.more HT.out.2 HZ.out.2.2.1, HZ.out.2.2.2⟩, by simp [intOf]; omega⟩
end Go.Proofs.Ytcmoehednkaehah
